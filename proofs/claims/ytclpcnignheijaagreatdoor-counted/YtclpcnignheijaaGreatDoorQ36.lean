/-
  Parts of the proof: CC, CD.
-/
import Derived.Test.YtclpcnignheijaaGreatDoorCB
import Derived.Test.YtclpcnignheijaaGreatDoorQ28
set_option maxHeartbeats 1000000
set_option maxRecDepth 100000
namespace Go.Proofs.YtclpcnignheijaaGreatDoor.Num
open Go.RowKit Go.Proofs.YtclpcnignheijaaGreatDoor
theorem itemEls_len:∀ (fs:List Bool) (L i:Nat),(itemEls L i fs).length=fs.length
 | [],_,_=>rfl
 | g :: fs,L,i=>by rw [itemEls,List.length_cons,itemEls_len fs,List.length_cons]
theorem itemEls_at:∀ (fs:List Bool) (L i k:Nat) (g:Bool),fs[k]? = some g→∃ lo:Nat,(itemEls L i fs)[k]? = some ⟨iN,0,[],(lo:Int),((lo+(tOf (i+k) g).length:Nat):Int)⟩∧L≤lo∧((itemTxt i fs).drop (lo - L)).take (tOf (i+k) g).length=tOf (i+k) g
 | [],_,_,_,_,h=>by simp at h
 | x :: fs,L,i,0,g,h=>by
  simp only [List.getElem?_cons_zero,Option.some.injEq] at h
  subst h
  refine ⟨L,rfl,Nat.le_refl _,?_⟩
  rw [Nat.sub_self,List.drop_zero,itemTxt,Nat.add_zero,List.take_left']
  rfl
 | x :: fs,L,i,k+1,g,h=>by
  rw [List.getElem?_cons_succ] at h
  obtain ⟨lo,e1,e2,e3⟩:=itemEls_at fs (L+(tOf i x).length) (i+1) k g h
  have ei:i+1+k=i+(k+1):=by omega
  rw [ei] at e1 e3
  refine ⟨lo,?_,by omega,?_⟩
  ·rw [itemEls,List.getElem?_cons_succ]; exact e1
  ·have:lo - L=(tOf i x).length+(lo - (L+(tOf i x).length)):=by omega
   rw [itemTxt,this,← List.drop_drop,List.drop_left]
   exact e3
section
variable {fs:List Bool}
theorem doc_len:(docBS fs).els.length=fs.length+1:=by show (_ :: itemEls 0 0 fs).length=_; rw [List.length_cons,itemEls_len]
theorem doc_at {k:Nat} {g:Bool} (h:fs[k]? = some g):∃ lo:Nat,(docBS fs).els[k+1]? = some ⟨iN,0,[],(lo:Int),((lo+(tOf k g).length:Nat):Int)⟩∧((docBS fs).txt.drop lo).take (tOf k g).length=tOf k g:=by
 obtain ⟨lo,e1,-,e3⟩:=itemEls_at fs 0 0 k g h
 rw [Nat.zero_add] at e1 e3
 refine ⟨lo,?_,e3⟩
 show (_ :: itemEls 0 0 fs)[k+1]? = _
 rw [List.getElem?_cons_succ]; exact e1
theorem doc_par {k:Nat} (h:k < fs.length):parI (docBS fs) (k+1)=0:=by
 obtain ⟨lo,e,-⟩:=doc_at (List.getElem?_eq_getElem h)
 unfold parI
 rw [e]
theorem doc_parX {k:Nat} (h:fs.length≤k):parI (docBS fs) (k+1)=-1:=by
 unfold parI
 rw [List.getElem?_eq_none (by rw [doc_len]; omega)]
theorem doc_before0 (h:0 < fs.length):beforeP (docBS fs) 1=-1:=by
 unfold beforeP
 rw [doc_par h,beforeG,if_neg (by omega)]
theorem doc_before {k:Nat} (h:k+1 < fs.length):beforeP (docBS fs) (k+1+1)=((k+1:Nat):Int):=by
 unfold beforeP
 rw [doc_par h,beforeG,if_pos (by omega),doc_par (by omega),if_pos rfl]
theorem doc_after {k:Nat} (h:k < fs.length):aftP (docBS fs) (k+1)=if k+1 < fs.length then ((k+1+1:Nat):Int) else -1:=by
 unfold aftP
 rw [doc_par h,aftG,doc_len]
 by_cases hk:k+1 < fs.length
 ·rw [if_pos (by omega),doc_par hk,if_pos rfl,if_pos hk]
 ·rw [if_neg (by omega),if_neg hk]
theorem doc_nth:∀ (k f:Nat),k < fs.length→k < f→nthNum (docBS fs) f (k+1)=k+1
 | 0,0,_,h=>by omega
 | 0,f+1,h,_=>by rw [nthNum,doc_before0 h,if_pos (by omega)]
 | k+1,0,_,h=>by omega
 | k+1,f+1,h,hf=>by
  rw [nthNum,doc_before h,if_neg (by omega),Int.toNat_natCast,doc_nth k f (by omega) (by omega)]
theorem doc_has {k:Nat} (h:k < fs.length):hasElP (docBS fs) (k+1)=false:=by
 unfold hasElP
 apply decide_eq_false
 by_cases hk:k+1 < fs.length
 ·rw [doc_par hk]; omega
 ·rw [doc_parX (by omega)]; omega
theorem doc_text {k:Nat} {g:Bool} (h:fs[k]? = some g):textAt (docBS fs) (k+1)=⟨(tOf k g).toArray⟩:=by
 obtain ⟨lo,e,e2⟩:=doc_at h
 unfold textAt
 rw [e]
 unfold textB
 dsimp only
 rw [Int.toNat_natCast,Int.toNat_natCast,Nat.add_sub_cancel_left,e2]
theorem doc_name0:nameM (docBS fs) iN 0=false:=by
 unfold nameM nameAt
 show (iN.toList.isEmpty || (iN.toList == [42] || iN.toList == divN.toList))=false
 rw [Lib.toList_data,Lib.toList_data]
 rfl
theorem doc_name {k:Nat} (h:k < fs.length):nameM (docBS fs) iN (k+1)=true:=by
 obtain ⟨lo,e,-⟩:=doc_at (List.getElem?_eq_getElem h)
 unfold nameM nameAt
 rw [e]
 simp
end
theorem mean_named {b:BS} (nm:ByteArray) (s:Sim) (m:Nat):mean b [[(0,nm,[s])]] m=(nameM b nm m && simM b (mean b) s m):=by
 rw [mean_cpx]
 have:=cMean_snoc (b:=b) [] (0,nm,[s]) m
 rw [List.nil_append] at this
 rw [this]
 have hs:standsM b (cMean b []) 0 m=true:=by
  unfold standsM
  rw [if_neg (by decide),if_neg (by decide),if_neg (by decide),if_neg (by decide)]
 show (compM b _ (0,nm,[s]) m && standsM b (cMean b []) 0 m)=_
 rw [hs,Bool.and_true]
 unfold compM
 simp
def firstB:ByteArray:=⟨#[105,58,102,105,114,115,116,45,99,104,105,108,100]⟩
def lastB:ByteArray:=⟨#[105,58,108,97,115,116,45,99,104,105,108,100]⟩
def emptyB:ByteArray:=⟨#[105,58,101,109,112,116,121]⟩
theorem comp_first:compP firstB=(0,0,some [[(0,iN,[.mk 5 noB noAttr noNth []])]]):=by kernel_rfl
theorem comp_last:compP lastB=(0,0,some [[(0,iN,[.mk 6 noB noAttr noNth []])]]):=by kernel_rfl
theorem comp_empty:compP emptyB=(0,0,some [[(0,iN,[.mk 4 noB noAttr noNth []])]]):=by kernel_rfl
def decI (k:Int):List UInt8:=if k < 0 then 45 :: decL (-k).toNat else decL k.toNat
def plusI (m:Int):List UInt8:=if m < 0 then decI m else 43 :: decL m.toNat
def nthL (k m:Int):List UInt8:=[105,58,110,116,104,45,99,104,105,108,100,40,32]++(decI k++([110]++(plusI m++[32,41])))
theorem decL_dig {n:Nat} (h:n < 10):(UInt8.ofNat (48+n)).toNat=48+n:=by rw [UInt8.toNat_ofNat']; omega
theorem count_dec {s:ByteArray} {p n:Nat} {d:UInt8} {r:List UInt8} (h:Tx s p (decL n++d :: r)) (hn:n < 100) (hd:allowedB (d.toNat:Int)=true) (hdd:digitB (d.toNat:Int)=false):countP s p=(p+(decL n).length,(n:Int),true)∧Tx s (p+(decL n).length) (d :: r):=by
 refine ⟨?_,Tx.skip h⟩
 unfold decL at h ⊢
 unfold countP
 split at h
 ·rename_i h10
  rw [if_pos h10]
  have pk:peekI s p=((48+n:Nat):Int):=by rw [← decL_dig h10]; exact Tx.peek h (by rw [decL_dig h10]; unfold allowedB; simp; omega)
  have pk2:peekI s (p+1)=(d.toNat:Int):=Tx.peek (Tx.step h) hd
  rw [pk,pk2,if_pos (by unfold digitB; simp; omega),if_neg (by rw [hdd]; decide)]
  simp
  omega
 ·rename_i h10
  rw [if_neg h10]
  have a1:n / 10 < 10:=by omega
  have a2:n % 10 < 10:=by omega
  have pk:peekI s p=((48+n / 10:Nat):Int):=by rw [← decL_dig a1]; exact Tx.peek h (by rw [decL_dig a1]; unfold allowedB; simp; omega)
  have pk2:peekI s (p+1)=((48+n % 10:Nat):Int):=by rw [← decL_dig a2]; exact Tx.peek (Tx.step h) (by rw [decL_dig a2]; unfold allowedB; simp; omega)
  rw [pk,pk2,if_pos (by unfold digitB; simp; omega),if_pos (by unfold digitB; simp; omega)]
  simp
  omega
theorem dec_first {s:ByteArray} {p n:Nat} {r:List UInt8} (h:Tx s p (decL n++r)) (hn:n < 100):48≤peekI s p∧peekI s p≤57:=by
 obtain ⟨c,l,e⟩:∃ c l,decL n=c :: l:=by
  unfold decL
  split <;> exact ⟨_,_,rfl⟩
 have hc:=dec_ok hn c (by rw [e]; simp)
 rw [e] at h
 have pk:peekI s p=(c.toNat:Int):=Tx.peek (r:=l++r) h (by unfold allowedB; simp; omega)
 rw [pk]
 omega
theorem sp_dig {s:ByteArray} {p:Nat} (h:33≤peekI s p):spP s p=p:=sp_no (by unfold spaceB; simp; omega)
theorem behind_at {s:ByteArray} {p:Nat} {m:Int} {r:List UInt8} (hm:-100 < m∧m < 100) (h:Tx s p (plusI m++32 :: r)):behindP s p=(p+(plusI m).length,some m)∧Tx s (p+(plusI m).length) (32 :: r):=by
 obtain ⟨c,sg,n,e,hc,hn,hs⟩:∃ (c:UInt8) (sg:Int) (n:Nat),plusI m=c :: decL n∧((c=45∧sg=-1)∨(c=43∧sg=1))∧n < 100∧sg * (n:Int)=m:=by
  unfold plusI decI
  by_cases h0:m < 0
  ·rw [if_pos h0,if_pos h0]
   exact ⟨45,-1,(-m).toNat,rfl,.inl ⟨rfl,rfl⟩,by omega,by omega⟩
  ·rw [if_neg h0]
   exact ⟨43,1,m.toNat,rfl,.inr ⟨rfl,rfl⟩,by omega,by omega⟩
 rw [e] at h ⊢
 have h1:Tx s p (c :: (decL n++32 :: r)):=h
 have pk:peekI s p=(c.toNat:Int):=Tx.peek h1 (by rcases hc with ⟨rfl,-⟩ | ⟨rfl,-⟩ <;> decide)
 have h2:=Tx.step h1
 obtain ⟨x1,t1⟩:=count_dec h2 hn (by decide) (by decide)
 have sp0:spP s p=p:=sp_dig (by rw [pk]; rcases hc with ⟨rfl,-⟩ | ⟨rfl,-⟩ <;> decide)
 have sp1:spP s (p+1)=p+1:=sp_dig (by have:=dec_first h2 hn; omega)
 have sg1:signP s p=(p+1,sg,true):=by
  unfold signP
  rcases hc with ⟨rfl,rfl⟩ | ⟨rfl,rfl⟩
  ·rw [if_pos (by rw [pk]; rfl)]
  ·rw [if_neg (by rw [pk]; decide),if_pos (by rw [pk]; rfl)]
 refine ⟨?_,?_⟩
 ·unfold behindP
  rw [sp0,sg1]
  dsimp only
  rw [sp1,x1]
  simp [hs]
  omega
 ·rw [List.length_cons,show p+((decL n).length+1)=p+1+(decL n).length by omega]
  exact t1
theorem numbers_at {s:ByteArray} {p:Nat} {k m:Int} {r:List UInt8} (hk:-100 < k∧k < 100) (hm:-100 < m∧m < 100) (h:Tx s p (decI k++110 :: (plusI m++32 :: r))):∃ q,numbersP s p=(q,some ⟨noB,true,k,m⟩)∧Tx s q (32 :: r):=by
 obtain ⟨sg,n,q0,h1,hsg,hn,hs,hf⟩:∃ (sg:Int) (n q0:Nat),Tx s q0 (decL n++110 :: (plusI m++32 :: r))∧(∃ f,signP s p=(q0,sg,f))∧n < 100∧sg * (n:Int)=k∧peekI s p≠111∧peekI s p≠101:=by
  unfold decI at h
  by_cases h0:k < 0
  ·rw [if_pos h0] at h
   have h':Tx s p (45 :: (decL (-k).toNat++110 :: (plusI m++32 :: r))):=h
   have pk:peekI s p=45:=Tx.peek h' (by decide)
   refine ⟨-1,(-k).toNat,p+1,Tx.step h',⟨true,?_⟩,by omega,by omega,by omega,by omega⟩
   unfold signP
   rw [if_pos pk]
  ·rw [if_neg h0] at h
   have pk:=dec_first h (by omega)
   refine ⟨1,k.toNat,p,h,⟨false,?_⟩,by omega,by omega,by omega,by omega⟩
   unfold signP
   rw [if_neg (by omega),if_neg (by omega)]
 obtain ⟨f,hsg⟩:=hsg
 obtain ⟨x1,t1⟩:=count_dec h1 hn (by decide) (by decide)
 have pk:peekI s (q0+(decL n).length)=110:=Tx.peek t1 (by decide)
 obtain ⟨x2,t2⟩:=behind_at hm (Tx.step t1)
 refine ⟨_,?_,t2⟩
 unfold numbersP
 rw [if_neg hf.1,if_neg hf.2,hsg]
 dsimp only
 rw [x1]
 dsimp only
 rw [if_pos pk,x2]
 simp [hs]
def nthW:List UInt8:=[58,110,116,104,45,99,104,105,108,100,40]
theorem one_nth {B:ByteArray} {p:Nat} {r:List UInt8} (h:Tx B p (nthW++r)):oneP B openW 13 [] p=(p+11,some 8) :=
 one_word (words:=openW) (w:=nthW) (i:=8) (by decide) (by decide) nthW [] 13 p r rfl (by decide) (by decide) h
theorem comp_nth {B:ByteArray} {k m:Int} (hk:-100 < k∧k < 100) (hm:-100 < m∧m < 100) (hB:B.data.toList=nthL k m):compP B=(0,0,some [[(0,iN,[.mk 8 noB noAttr ⟨noB,true,k,m⟩ []])]]):=by
 have t0:Tx B 0 (105 :: (nthW++(32 :: (decI k++110 :: (plusI m++32 :: [41]))))):=by
  have:=Tx.all B
  rw [hB] at this
  simpa [nthL,nthW] using this
 have dl:∀ n,(decL n).length≤2:=fun n=>(dec_len n).1
 have hz:15≤B.size∧B.size≤200:=by
  have h1:=t0.2
  have h2:(decI k).length≤3:=by unfold decI; have:=dl (-k).toNat; have:=dl k.toNat; split <;> simp <;> omega
  have h3:(plusI m).length≤3:=by unfold plusI decI; have:=dl (-m).toNat; have:=dl m.toNat; split <;> simp <;> omega
  simp [nthW] at h1
  omega
 have t1:=Tx.step t0
 have t2:Tx B 12 (32 :: (decI k++110 :: (plusI m++32 :: [41]))):=Tx.skip (l:=nthW) t1
 have t3:Tx B 13 (decI k++110 :: (plusI m++32 :: [41])):=Tx.step t2
 have p12:peekI B 12=32:=Tx.peek t2 (by decide)
 obtain ⟨q,x1,t4⟩:=numbers_at hk hm t3
 have pq:peekI B q=32:=Tx.peek t4 (by decide)
 have t5:=Tx.step t4
 have pq1:peekI B (q+1)=41:=Tx.peek t5 (by decide)
 have t6:=Tx.step t5
 have p13:33≤peekI B 13:=by
  unfold decI at t3
  by_cases h0:k < 0
  ·rw [if_pos h0] at t3
   have t3':Tx B 13 (45 :: (decL (-k).toNat++110 :: (plusI m++32 :: [41]))):=t3
   have:peekI B 13=45:=Tx.peek t3' (by decide)
   omega
  ·rw [if_neg h0] at t3
   have:=dec_first t3 (by omega)
   omega
 have s12:spP B 12=13:=by
  have:=sp_dig p13
  unfold spP at this ⊢
  rw [runTo_yes (by rfl) (by rw [p12]; rfl)]
  exact this
 have sq:spP B q=q+1:=by
  have:=sp_no (B:=B) (p:=q+1) (by rw [pq1]; rfl)
  unfold spP at this ⊢
  rw [runTo_yes (by rfl) (by rw [pq]; rfl)]
  exact this
 have xn:nthP B 12=(q+1,some ⟨noB,true,k,m⟩):=by
  unfold nthP
  rw [s12,x1]
  dsimp only
  rw [sq]
 have p1:peekI B 1=58:=Tx.peek (r:=[110,116,104,45,99,104,105,108,100,40]++(32 :: (decI k++110 :: (plusI m++32 :: [41])))) t1 (by decide)
 have xs:∀ lg:Nat→Nat × Option (SLst × Nat × Nat),simpleP lg B 1=(q+2,some (.mk 8 noB noAttr ⟨noB,true,k,m⟩ [],1,0)):=by
  intro lg
  unfold simpleP
  rw [one_nth t1]
  dsimp only
  unfold askedP
  rw [if_neg (by decide),if_neg (by decide),if_pos rfl,xn]
  dsimp only [Option.map]
  have hc:closeW 8=[41]:=rfl
  rw [hc,expP,if_pos ⟨by decide,by rw [pq1]; rfl⟩]
  rfl
 have xh:headP B 0=(1,some iN):=by
  have n0:peekI B 0=105:=Tx.peek t0 (by decide)
  unfold headP
  rw [if_neg (by rw [n0]; decide),if_neg (by rw [n0]; decide)]
  have t0':Tx B 0 ([105]++58 :: ([110,116,104,45,99,104,105,108,100,40]++(32 :: (decI k++110 :: (plusI m++32 :: [41]))))):=t0
  have:=new_at (taken:=noneTaken) t0' (by decide) (by decide) (by decide) (by decide) (by decide) rfl
  exact this
 have pe:peekI B (q+2)=0:=t6.endPeek
 have hqs:q+2=B.size:=by have:=t6.2; simpa using this
 have xc:compoundP (listP B B.size) B 0=(q+2,some ((iN,[.mk 8 noB noAttr ⟨noB,true,k,m⟩ []]),1,0)):=by
  unfold compoundP
  rw [xh]
  dsimp only
  obtain ⟨z,hz'⟩:∃ z,B.size+1=z+1+1:=⟨B.size - 1,by omega⟩
  rw [hz',simplesP,if_pos (by rw [p1]; rfl),xs]
  dsimp only
  rw [simplesP,if_neg (by rw [pe]; decide)]
  rfl
 have x0:peekI B 0=105:=Tx.peek t0 (by decide)
 refine comp_good (q:=B.size) (cn:=1) (d:=0) (by omega) ?_ rfl (by omega)
 rw [listP,partsP,sp_no (by rw [x0]; rfl),cpx_S xc (comb_end pe)]
 dsimp only
 rw [if_neg (by rw [pe]; decide),hqs]
 rfl
theorem among_any {n k m : Int} (hk : -20 ≤ k ∧ k ≤ 20) (hm : -30 ≤ m ∧ m ≤ 30) (hn : 1 ≤ n ∧ n ≤ 40) (w : ByteArray) (hN : Bool) : amongB n ⟨w, hN, k, m⟩ = (List.range 101).any fun j => k * (j : Int) + m == n := by
 rw [Bool.eq_iff_iff,List.any_eq_true]
 unfold amongB
 dsimp only
 by_cases h0:k=0
 ·rw [if_pos h0,decide_eq_true_iff]
  subst h0
  constructor
  ·intro h
   exact ⟨0,by decide,by simp; omega⟩
  ·rintro ⟨j,-,h⟩
   simp at h
   omega
 ·rw [if_neg h0, Bool.and_eq_true, decide_eq_true_iff, decide_eq_true_iff]
  constructor
  ·rintro ⟨h1, h2⟩
   have e:=Int.mul_tdiv_add_tmod (n - m) k
   rw [h1,Int.add_zero] at e
   generalize hj:(n - m).tdiv k=j at h2 e
   have hb:j≤100:=by
    rcases Int.lt_or_lt_of_ne h0 with h | h
    ·have:j≤-k * j:=by
      have:=Int.mul_le_mul_of_nonneg_right (show 1≤-k by omega) h2
      omega
     have e2:-k * j=-(k * j):=by rw [Int.neg_mul]
     omega
    ·have:j≤k * j:=by
      have:=Int.mul_le_mul_of_nonneg_right (show 1≤k by omega) h2
      omega
     omega
   refine ⟨j.toNat,List.mem_range.2 (by omega),?_⟩
   rw [Int.toNat_of_nonneg h2]
   simp
   omega
  ·rintro ⟨j,-,h⟩
   have h':k * (j:Int)+m=n:=by simpa using h
   have e:n - m=k * (j:Int):=by omega
   rw [e,Int.mul_tmod_right,Int.mul_tdiv_cancel_left _ h0]
   exact ⟨rfl,by omega⟩
def pickP (c n:Int):Int:=(if c < 0 then -(c+1) else c).tmod n
theorem pickP_bd {c n:Int} (hn:0 < n):0≤pickP c n∧pickP c n < n:=by
 have h0:0≤(if c < 0 then -(c+1) else c):=by split <;> omega
 unfold pickP
 generalize (if c < 0 then -(c+1) else c)=x at h0
 exact ⟨Int.tmod_nonneg n h0,Int.tmod_lt_of_pos x hn⟩
theorem pick_q (w:World) (c n:Int) (hc:-9223372036854775808≤c∧c≤9223372036854775807) (hn:0 < n∧n≤1000):Calls Tryz.prog 35 #[.int .i64 c,.int .i64 n] w fun e w'=>e=.returned (.int .i64 (pickP c n))∧w'=w:=by
 have hb:=pickP_bd (c:=c) hn.1
 have HP:Hid (pickP c n=(if c < 0 then -(c+1) else c).tmod n):=hide rfl
 obtain ⟨r,hr⟩:∃ r,pickP c n=r:=⟨_,rfl⟩
 rw [hr] at hb HP ⊢
 clear hr
 go_enter Tryz.func35,Tryz.ntmps35
 have hn0:¬ n=0:=by omega
 have hn1:¬ n=-1:=by omega
 by_cases h:c < 0
 ·have hr:(-(c+1)).tmod n=r:=by rw [HP.out,if_pos h]
  go_wp2
  go_ret
  exact ⟨rfl,rfl⟩
 ·have hr:c.tmod n=r:=by rw [HP.out,if_neg h]
  go_wp2
  go_ret
  exact ⟨rfl,rfl⟩
theorem conv_dig (c:UInt8) (z:Int) (hz:z=(c.toNat:Int)) (w:World):(convert 50 9 (.slice (some ⟨w.heap.size,0,none⟩) 1 1)).run Tryz.prog (w.alloc (.cells #[.int .u8 z] 5))=.ok (.string ⟨#[c]⟩) (w.alloc (.cells #[.int .u8 z] 5)):=by
 subst hz
 refine run_convert_bytes_back (w.alloc (.cells #[.int .u8 (c.toNat:Int)] 5)) 50 9 5 ⟨w.heap.size,0,none⟩ 1 [c] Tryz.underlying50 Tryz.underlying5 Tryz.underlying9 fun j hj=>?_
 have:j=0:=by simp at hj; omega
 subst this
 have hb:(w.alloc (.cells #[.int .u8 (c.toNat:Int)] 5)).heap[w.heap.size]? = some (.cells #[.int .u8 (c.toNat:Int)] 5 (0,0)):=alloc_at _ _
 rw [addr_add]
 simp only [World.cell?,hb]
 rfl
theorem emp_app (s:ByteArray):(⟨#[]⟩:ByteArray)++s=s:=by
 apply ByteArray.ext
 simp
theorem dec_one (w:World) (n:Nat) (hn:n < 10):Calls Tryz.prog 36 #[.int .i64 (n:Int)] w fun e w'=>e=.returned (.string ⟨(decL n).toArray⟩)∧Old w w':=by
 have h1:¬ (n:Int) < 0:=by omega
 have h2:¬ (n:Int) ≥ 10:=by omega
 have hm:(n:Int).tmod 10=(n:Int):=Int.tmod_eq_of_lt (by omega) (by omega)
 obtain ⟨c,hcd⟩:∃ c,UInt8.ofNat (48+n)=c:=⟨_,rfl⟩
 have hc:c.toNat=48+n:=by rw [← hcd]; exact decL_dig hn
 have hcv:=conv_dig c (48+(n:Int)) (by rw [hc]; simp) w
 have HD:Hid (decL n=[c]):=hide (by unfold decL; rw [if_pos hn,hcd])
 clear hcd hc
 obtain ⟨i0,hi,hz0,hz1,hz2⟩:=info_parts Tryz.infoU8
 go_enter Tryz.func36,Tryz.ntmps36
 go_wp2
 go_ret
 exact ⟨congrArg (fun x=>Ending.returned (.string x)) ((emp_app _).trans (by rw [HD.out])),(Old.refl _).alloc _⟩
theorem dec_two (w:World) (n:Nat) (hn:n < 100):Calls Tryz.prog 36 #[.int .i64 (n:Int)] w fun e w'=>e=.returned (.string ⟨(decL n).toArray⟩)∧Old w w':=by
 by_cases h10:n < 10
 ·exact dec_one w n h10
 have h1:¬ (n:Int) < 0:=by omega
 have h2:(n:Int) ≥ 10:=by omega
 have hq:(n:Int).tdiv 10=((n / 10:Nat):Int):=by rw [Int.tdiv_eq_ediv_of_nonneg (by omega)]; omega
 have hm:(n:Int).tmod 10=((n % 10:Nat):Int):=by rw [Int.tmod_eq_emod_of_nonneg (by omega)]; omega
 obtain ⟨c,hcd⟩:∃ c,UInt8.ofNat (48+n % 10)=c:=⟨_,rfl⟩
 have hc:c.toNat=48+n % 10:=by rw [← hcd]; exact decL_dig (by omega)
 have HD:Hid (decL n=decL (n / 10)++[c]):=hide (by
  have:¬ n < 10:=by omega
  unfold decL
  rw [if_neg this,if_pos (by omega),hcd]
  rfl)
 obtain ⟨m,hmm⟩:∃ m,n % 10=m:=⟨_,rfl⟩
 obtain ⟨k,hkk⟩:∃ k,n / 10=k:=⟨_,rfl⟩
 have hk9:k < 10:=by omega
 rw [hmm] at hm hc
 rw [hkk] at hq HD
 have hm9:m < 10:=by omega
 clear hcd hmm hkk
 have hcv:∀ w:World,_:=fun w=>conv_dig c (48+(m:Int)) (by rw [hc]; simp) w
 clear hc
 obtain ⟨i0,hi,hz0,hz1,hz2⟩:=info_parts Tryz.infoU8
 go_enter Tryz.func36,Tryz.ntmps36
 go_wp2_with fail
 refine (dec_one _ k hk9).mono ?_
 rintro e w1 ⟨rfl,o1⟩
 obtain ⟨s,hs⟩:∃ s:ByteArray,Hid (s=⟨(decL k).toArray⟩):=⟨_,hide rfl⟩
 rw [← hs.out]
 have hsz:s.size≤2:=by rw [hs.out]; show (decL k).toArray.size≤2; have:=dec_len k; simpa using this.1
 have hcv:=hcv w1
 have hs2:s.size+1≤9223372036854775807:=by omega
 go_wp2
 go_ret
 refine ⟨congrArg (fun x=>Ending.returned (.string x)) ?_,o1.alloc _⟩
 rw [HD.out,hs.out]
 apply ByteArray.ext
 simp
theorem dec_q (w:World) (k:Int) (hk:-100 < k∧k < 100):Calls Tryz.prog 36 #[.int .i64 k] w fun e w'=>e=.returned (.string ⟨(decI k).toArray⟩)∧Old w w':=by
 by_cases h0:k < 0
 ·obtain ⟨n,hn⟩:∃ n:Nat,-k=(n:Int):=⟨(-k).toNat,by omega⟩
  have HD:Hid (decI k=45 :: decL n):=hide (by unfold decI; rw [if_pos h0,hn,Int.toNat_natCast])
  go_enter Tryz.func36,Tryz.ntmps36
  go_wp2_with fail
  refine (dec_two _ n (by omega)).mono ?_
  rintro e w1 ⟨rfl,o1⟩
  obtain ⟨s,hs⟩:∃ s:ByteArray,Hid (s=⟨(decL n).toArray⟩):=⟨_,hide rfl⟩
  rw [← hs.out]
  have hsz:s.size≤2:=by rw [hs.out]; show (decL n).toArray.size≤2; have:=dec_len n; simpa using this.1
  have hs2:1+s.size≤9223372036854775807:=by omega
  go_wp2
  go_ret
  refine ⟨congrArg (fun x=>Ending.returned (.string x)) ?_,o1⟩
  rw [HD.out,hs.out]
  apply ByteArray.ext
  simp
 ·obtain ⟨n,rfl⟩:∃ n:Nat,k=(n:Int):=⟨k.toNat,by omega⟩
  have HD:decI (n:Int)=decL n:=by unfold decI; rw [if_neg h0,Int.toNat_natCast]
  rw [HD]
  exact dec_two w n (by omega)
theorem plus_q (w:World) (k:Int) (hk:-100 < k∧k < 100):Calls Tryz.prog 37 #[.int .i64 k] w fun e w'=>e=.returned (.string ⟨(plusI k).toArray⟩)∧Old w w':=by
 by_cases h0:k < 0
 ·have HD:Hid (plusI k=decI k):=hide (by unfold plusI; rw [if_pos h0])
  go_enter Tryz.func37,Tryz.ntmps37
  go_wp2_with fail
  refine (dec_q _ k hk).mono ?_
  rintro e w1 ⟨rfl,o1⟩
  go_wp2
  go_ret
  exact ⟨congrArg (fun x:List UInt8=>Ending.returned (.string ⟨x.toArray⟩)) HD.out.symm,o1⟩
 ·have HD:Hid (plusI k=43 :: decI k):=hide (by unfold plusI; rw [if_neg h0]; unfold decI; rw [if_neg h0])
  go_enter Tryz.func37,Tryz.ntmps37
  go_wp2_with fail
  refine (dec_q _ k hk).mono ?_
  rintro e w1 ⟨rfl,o1⟩
  obtain ⟨s,hs⟩:∃ s:ByteArray,Hid (s=⟨(decI k).toArray⟩):=⟨_,hide rfl⟩
  rw [← hs.out]
  have hsz:s.size≤3:=by
   rw [hs.out]; show (decI k).toArray.size≤3
   have:=dec_len (-k).toNat
   have:=dec_len k.toNat
   unfold decI
   split <;> simp <;> omega
  have hs2:1+s.size≤9223372036854775807:=by omega
  go_wp2
  go_ret
  refine ⟨congrArg (fun x=>Ending.returned (.string x)) ?_,o1⟩
  rw [HD.out,hs.out]
  apply ByteArray.ext
  simp
end Go.Proofs.YtclpcnignheijaaGreatDoor.Num
