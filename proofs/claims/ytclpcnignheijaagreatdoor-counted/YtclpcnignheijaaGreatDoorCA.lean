/-
  Parts of the proof: CA.
-/
import Derived.Test.YtclpcnignheijaaGreatDoorQ32
namespace Go.Proofs.YtclpcnignheijaaGreatDoor.Num
open Go.RowKit Go.Proofs.YtclpcnignheijaaGreatDoor
def okU (c:UInt8):Bool:=allowedB (c.toNat:Int)
theorem exp_at {s:ByteArray}:∀ {l r:List UInt8} {p:Nat},Tx s p (l++r)→(∀ c∈l,okU c=true∧(c.toNat:Int)≠0)→expP s l p=(p+l.length,true)
 | [],r,p,_,_=>rfl
 | c :: l,r,p,h,hc=>by
  have h1:=hc c (List.mem_cons_self ..)
  rw [expP,if_pos ⟨h1.2,Tx.peek h h1.1⟩,exp_at (l:=l) (Tx.step h) (fun d hd=>hc d (List.mem_cons_of_mem _ hd)),List.length_cons]
  congr 1; omega
theorem okU_pos {c:UInt8} (h:okU c=true):(c.toNat:Int)≠0:=by
 intro e
 unfold okU at h
 rw [e] at h
 revert h; decide
def smU (c:UInt8):Bool:=decide (97≤c.toNat) && decide (c.toNat≤122)
theorem smU_facts {c:UInt8} (h:smU c=true):okU c=true∧letterB (c.toNat:Int)=true∧nameB (c.toNat:Int)=true∧smallU c=c:=by
 unfold smU at h
 simp only [Bool.and_eq_true,decide_eq_true_eq] at h
 have h1:letterB (c.toNat:Int)=true:=by unfold letterB; simp; omega
 refine ⟨by unfold okU allowedB; simp; omega,h1,by unfold nameB; rw [h1]; rfl,by unfold smallU; rw [if_neg (by omega)]⟩
theorem run_at {s:ByteArray}:∀ (n r:List UInt8) (d:UInt8) (p k:Nat),Tx s p (n++d :: r)→(∀ c∈n,smU c=true)→okU d=true→nameB (d.toNat:Int)=false→n.length≤k→runP nameB s k p=p+n.length
 | [],r,d,p,k,h,_,hd,hn,_=>runP_no (by rw [Tx.peek h hd]; exact hn)
 | c :: n,r,d,p,k,h,hc,hd,hn,hk=>by
  obtain ⟨k,rfl⟩:∃ k',k=k'+1:=⟨k - 1,by simp at hk; omega⟩
  have f:=smU_facts (hc c (List.mem_cons_self ..))
  rw [runP_yes (by rw [Tx.peek h f.1]; exact f.2.2.1),run_at n r d (p+1) k (Tx.step h) (fun x hx=>hc x (List.mem_cons_of_mem _ hx)) hd hn (by simp at hk; omega),List.length_cons]
  omega
theorem new_at {s:ByteArray} {n r:List UInt8} {d:UInt8} {p:Nat} {taken:ByteArray→Bool} (h:Tx s p (n++d :: r)) (hc:∀ c∈n,smU c=true) (h0:n≠[]) (h16:n.length≤16) (hd:okU d=true) (hn:nameB (d.toNat:Int)=false) (ht:taken ⟨n.toArray⟩=false) :
  newP s p taken=(p+n.length,some ⟨n.toArray⟩):=by
 have he:nameEnd s p=p+n.length:=run_at n r d p 16 h hc hd hn h16
 have hp:p≤s.size:=by have:=h.2; omega
 have hsm:smallL n=n:=by
  unfold smallL
  conv=>rhs; rw [← List.map_id n]
  exact List.map_congr_left fun c hx=>(smU_facts (hc c hx)).2.2.2
 have hna:Go.Proofs.YtclpcnignheijaaGreatDoor.nameAt s p=⟨n.toArray⟩:=by
  unfold Go.Proofs.YtclpcnignheijaaGreatDoor.nameAt
  rw [he,h.1,Nat.add_sub_cancel_left,List.take_left' rfl,hsm]
 have hl:letterB (peekI s p)=true:=by
  cases n with
  | nil=>exact absurd rfl h0
  | cons c n=>have f:=smU_facts (hc c (List.mem_cons_self ..)); rw [Tx.peek h f.1]; exact f.2.1
 rw [newP_free hl hna he ht,Tx.peek (Tx.skip h) hd,hn,if_neg Bool.false_ne_true]
theorem nospace_at {s:ByteArray} {p:Nat} {d:UInt8} {r:List UInt8} (h:Tx s p (d :: r)) (hd:okU d=true) (hn:spaceB (d.toNat:Int)=false):runTo spaceB s p=p:=runTo_no (by rw [Tx.peek h hd]; exact hn)
theorem noattrs_at {s:ByteArray} {p:Nat} {d:UInt8} {r:List UInt8} (h:Tx s p (d :: r)) (hd:okU d=true) (hn:spaceB (d.toNat:Int)=false):attributesP s p=(p,some []):=by
 unfold attributesP
 rw [attrsP,nospace_at h hd hn,if_neg (by omega)]
theorem step_pieces {s:ByteArray} {f p q:Nat} {b b':BS} {lim:Bool} (hp:p≠s.size) (h:pieceP s p b=(q,b',0)):piecesP s (f+1) p b lim=piecesP s f q b' lim:=by
 rw [piecesP,if_neg hp,h,if_neg (show ¬ (0:Nat)=2 from by decide)]
 simp
theorem piece_begin {s:ByteArray} {p:Nat} {c:UInt8} {r:List UInt8} {b:BS} (h:Tx s p (60 :: c :: r)) (hc:smU c=true):pieceP s p b=beginP s (p+1) b:=by
 have f:=smU_facts hc
 have p0:peekI s p=60:=Tx.peek h (by decide)
 have p1:=Tx.peek (Tx.step h) f.1
 unfold smU at hc
 simp only [Bool.and_eq_true,decide_eq_true_eq] at hc
 unfold pieceP
 rw [if_pos p0,if_neg (by rw [p1]; omega),if_neg (by rw [p1]; omega)]
theorem Tx.lt {s:ByteArray} {p:Nat} {c:UInt8} {r:List UInt8} (h:Tx s p (c :: r)):p≠s.size:=by have:=h.2; simp at this; omega
theorem elem0_at {s:ByteArray} {p:Nat} {n r:List UInt8} {b:BS} (h:Tx s p (n++62 :: r)) (hn:∀ c∈n,smU c=true) (hn0:n≠[]) (hn16:n.length≤16) (hb:largeB b=false) (hv:voidB ⟨n.toArray⟩=false) :
  beginP s p b=(p+n.length+1,b.begin ⟨n.toArray⟩ [],0)∧Tx s (p+n.length+1) r:=by
 have x1:=new_at (taken:=noneTaken) h hn hn0 hn16 (by decide) (by decide) rfl
 have h1:=Tx.skip h
 have x2:=noattrs_at h1 (by decide) (by decide)
 have pk:peekI s (p+n.length)=62:=Tx.peek h1 (by decide)
 have x3:=exp_at (l:=[62]) (r:=r) h1 (by decide)
 simp only [List.length_singleton] at x3
 refine ⟨?_,Tx.step h1⟩
 unfold beginP
 rw [x1]
 dsimp only
 unfold elementP
 have x4:afterP s (p+n.length)=p+n.length:=by unfold afterP; rw [if_neg (by rw [pk]; decide)]
 have x5:wholeB s (p+n.length)=false:=by unfold wholeB; rw [pk]; decide
 simp only [x2,x4,x5,x3,hb,hv]
 simp
theorem endc_at {s:ByteArray} {p k:Nat} {r:List UInt8} {b:BS} {x:El} {c:UInt8} (hc:smU c=true) (h:Tx s p (60 :: 47 :: c :: 62 :: r)) (ho:b.opn=(k:Int)) (hx:b.els[k]? = some x) (hn:x.name.data.toList=[c]):pieceP s p b=(p+4,b.fin,0):=by
 have f:=smU_facts hc
 have p0:peekI s p=60:=Tx.peek h (by decide)
 have h1:=Tx.step h
 have p1:peekI s (p+1)=47:=Tx.peek h1 (by decide)
 have h2:=Tx.step h1
 have p2:peekI s (p+1+1)=(c.toNat:Int):=Tx.peek h2 f.1
 have h3:=Tx.step h2
 have p3:peekI s (p+1+1+1)=62:=Tx.peek h3 (by decide)
 have x1:=exp_at (l:=[47]) (r:=c :: 62 :: r) h1 (by decide)
 have x3:=exp_at (l:=[62]) (r:=r) h3 (by decide)
 simp only [List.length_singleton] at x1 x3
 have x2:exnP s [c] (p+1+1)=(p+1+1+1,true):=by
  have sk:skipP s (p+1+1)=p+1+1+1:=by unfold skipP; rw [if_neg (by rw [p2]; exact okU_pos f.1)]
  rw [exnP,if_pos (by rw [p2,smallU_int,f.2.2.2]),sk,exnP,p3]
  rfl
 have x4:runTo spaceB s (p+1+1+1)=p+1+1+1:=runTo_no (by rw [p3]; decide)
 unfold pieceP
 rw [if_pos p0,if_neg (by rw [p1]; decide),if_pos p1,endP_yes ho hx,hn]
 simp only [x1,x2,x3,x4]
 simp
def iN:ByteArray:=⟨#[105]⟩
def divN:ByteArray:=⟨#[100,105,118]⟩
def decL (n:Nat):List UInt8:=if n < 10 then [UInt8.ofNat (48+n)] else [UInt8.ofNat (48+n / 10),UInt8.ofNat (48+n % 10)]
def tOf (i:Nat) (f:Bool):List UInt8:=if f=true then decL i else []
def itemL (i:Nat) (f:Bool):List UInt8:=if f=true then [60,105,62]++(decL i++[60,47,105,62]) else [60,105,47,62]
def itemsL:Nat→List Bool→List UInt8
 | _,[]=>[]
 | i,f :: fs=>itemL i f++itemsL (i+1) fs
def itemEls:Nat→Nat→List Bool→List El
 | _,_,[]=>[]
 | L,i,f :: fs=>⟨iN,0,[],(L:Int),((L+(tOf i f).length:Nat):Int)⟩ :: itemEls (L+(tOf i f).length) (i+1) fs
def itemTxt:Nat→List Bool→List UInt8
 | _,[]=>[]
 | i,f :: fs=>tOf i f++itemTxt (i+1) fs
def docL (fs:List Bool):List UInt8:=[60,100,105,118,62]++(itemsL 0 fs++[60,47,100,105,118,62])
def docBS (fs:List Bool):BS:=⟨⟨divN,-1,[],0,((itemTxt 0 fs).length:Int)⟩ :: itemEls 0 0 fs,itemTxt 0 fs,-1,0⟩
theorem itemsL_snoc:∀ (fs:List Bool) (i:Nat) (f:Bool),itemsL i (fs++[f])=itemsL i fs++itemL (i+fs.length) f
 | [],i,f=>by simp [itemsL]
 | g :: fs,i,f=>by
  rw [List.cons_append,itemsL,itemsL,itemsL_snoc fs (i+1) f,List.length_cons,List.append_assoc]
  congr 3
  omega
theorem voidB_i:voidB iN=false:=by unfold voidB iN; rw [Lib.toList_data]; decide
theorem voidB_div:voidB divN=false:=by unfold voidB divN; rw [Lib.toList_data]; decide
theorem dec_ok {n:Nat} (h:n < 100):∀ c∈decL n,48≤c.toNat∧c.toNat≤57:=by
 intro c hc
 unfold decL at hc
 split at hc
 ·simp only [List.mem_singleton] at hc
  subst hc
  rw [UInt8.toNat_ofNat']
  omega
 ·simp only [List.mem_cons,List.not_mem_nil,or_false] at hc
  rcases hc with rfl | rfl <;> rw [UInt8.toNat_ofNat'] <;> omega
theorem dec_ne (n:Nat):decL n≠[]:=by unfold decL; split <;> simp
theorem dec_len (n:Nat):(decL n).length≤2∧1≤(decL n).length:=by unfold decL; split <;> simp
theorem cont_dig {s:ByteArray}:∀ (l r:List UInt8) (p f:Nat) (acc:List UInt8),(∀ c∈l,48≤c.toNat∧c.toNat≤57)→Tx s p (l++60 :: r)→l.length < f→contP s [60,62] f p acc=(p+l.length,some (acc++l))
 | [],r,p,f,acc,_,h,hf=>by
  obtain ⟨f,rfl⟩:∃ f',f=f'+1:=⟨f - 1,by simp at hf; omega⟩
  have pk:peekI s p=60:=Tx.peek h (by decide)
  rw [contP,if_pos (.inr (by rw [pk]; rfl))]
  simp
 | c :: l,r,p,f,acc,hc,h,hf=>by
  obtain ⟨f,rfl⟩:∃ f',f=f'+1:=⟨f - 1,by simp at hf; omega⟩
  have h1:=hc c (List.mem_cons_self ..)
  have pk:peekI s p=(c.toNat:Int):=Tx.peek (r:=l++60 :: r) h (by unfold allowedB; simp; omega)
  have hcc:((c.toNat:Int)).toNat.toUInt8=c:=UInt8.toNat_inj.1 (by rw [Int.toNat_natCast,Nat.toUInt8,UInt8.toNat_ofNat']; have:=c.toNat_lt; omega)
  have hin:inB [60,62] (c.toNat:Int)=false:=by
   unfold inB
   simp
   omega
  rw [contP,pk,if_neg (fun h=>by rcases h with h | h; omega; rw [hin] at h; cases h),if_neg (by omega),hcc,cont_dig l r (p+1) f (acc++[c]) (fun x hx=>hc x (List.mem_cons_of_mem _ hx)) (Tx.step h) (by simp at hf; omega)]
  simp
  omega
theorem text_piece {s:ByteArray} {l r:List UInt8} {p:Nat} {b:BS} (hl:∀ c∈l,48≤c.toNat∧c.toNat≤57) (h0:l≠[]) (h:Tx s p (l++60 :: r)):pieceP s p b=(p+l.length,b.text l,0):=by
 have hsz:=h.2
 have hc:=cont_dig l r p (s.size+1) [] hl h (by simp at hsz; omega)
 obtain ⟨c,l',rfl⟩:∃ c l',l=c :: l':=by
  cases l with
  | nil=>exact absurd rfl h0
  | cons c l'=>exact ⟨c,l',rfl⟩
 have h1:=hl c (List.mem_cons_self ..)
 have pk:peekI s p=(c.toNat:Int):=Tx.peek (r:=l'++60 :: r) h (by unfold allowedB; simp; omega)
 unfold pieceP
 rw [if_neg (by rw [pk]; omega)]
 unfold textP contentP
 rw [hc]
 simp
theorem elemW_at {s:ByteArray} {p:Nat} {n r:List UInt8} {b:BS} (h:Tx s p (n++47 :: 62 :: r)) (hn:∀ c∈n,smU c=true) (hn0:n≠[]) (hn16:n.length≤16) (hb:largeB b=false) :
  beginP s p b=(p+n.length+2,(b.begin ⟨n.toArray⟩ []).fin,0)∧Tx s (p+n.length+2) r:=by
 have x1:=new_at (taken:=noneTaken) h hn hn0 hn16 (by decide) (by decide) rfl
 have h1:=Tx.skip h
 have x2:=noattrs_at h1 (by decide) (by decide)
 have pk:peekI s (p+n.length)=47:=Tx.peek h1 (by decide)
 have x3:=exp_at (l:=[62]) (r:=r) (Tx.step h1) (by decide)
 simp only [List.length_singleton] at x3
 refine ⟨?_,Tx.step (Tx.step h1)⟩
 unfold beginP
 rw [x1]
 dsimp only
 unfold elementP
 have x4:afterP s (p+n.length)=p+n.length+1:=by unfold afterP; rw [if_pos pk]
 have x5:wholeB s (p+n.length)=true:=by unfold wholeB; rw [pk]; decide
 simp only [x2,x4,x5,x3,hb]
 simp
end Go.Proofs.YtclpcnignheijaaGreatDoor.Num
