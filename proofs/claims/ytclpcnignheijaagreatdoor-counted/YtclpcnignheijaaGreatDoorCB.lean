/-
  Parts of the proof: CB.
-/
import Derived.Test.YtclpcnignheijaaGreatDoorCA
import Derived.Test.YtclpcnignheijaaGreatDoorQ34
namespace Go.Proofs.YtclpcnignheijaaGreatDoor.Num
open Go.RowKit Go.Proofs.YtclpcnignheijaaGreatDoor
def stepB (b:BS) (t:List UInt8):BS:=⟨b.els++[⟨iN,0,[],(b.txt.length:Int),((b.txt.length+t.length:Nat):Int)⟩],b.txt++t,0,1⟩
theorem fin_step {b:BS} (ho:b.opn=0) (hd:b.dep=1) (t:List UInt8):((b.begin iN []).text t).fin=stepB b t:=by
 have h1:((b.begin iN []).text t).opn=(b.els.length:Int):=rfl
 have h2:((b.begin iN []).text t).els[b.els.length]? = some ⟨iN,0,[],(b.txt.length:Int),0⟩:=by
  show (b.els++[_])[b.els.length]? = _
  simp [ho]
 unfold BS.fin
 rw [h1,Int.toNat_natCast,h2]
 dsimp only
 rw [if_neg (by omega)]
 unfold stepB BS.text BS.begin
 simp [hd,ho]
theorem text_nil (b:BS):b.text []=b:=by unfold BS.text; simp
theorem item_pieces {s:ByteArray} {i p f:Nat} {g:Bool} {r:List UInt8} {b:BS} (h:Tx s p (itemL i g++r)) (hi:i < 100) (ho:b.opn=0) (hd:b.dep=1) (hb:b.els.length < 90) (hf:3≤f) :
  ∃ f',f≤f'+3∧piecesP s f p b false=piecesP s f' (p+(itemL i g).length) (stepB b (tOf i g)) false:=by
 have hl:largeB b=false:=by unfold largeB; simp; omega
 cases g with
 | false =>
  obtain ⟨f,rfl⟩:∃ k,f=k+1:=⟨f - 1,by omega⟩
  have h1:Tx s p (60 :: 105 :: 47 :: 62 :: r):=h
  have h2:Tx s (p+1) ([105]++47 :: 62 :: r):=Tx.step h1
  obtain ⟨e1,-⟩:=elemW_at (b:=b) h2 (by decide) (by decide) (by decide) hl
  refine ⟨f,by omega,?_⟩
  rw [step_pieces (Tx.lt h1) ((piece_begin h1 (by decide)).trans e1)]
  have e2:(b.begin iN []).fin=stepB b []:=by rw [← fin_step ho hd [],text_nil]
  show piecesP s f (p+1+1+2) (b.begin iN []).fin false=_
  rw [e2]
  rfl
 | true =>
  obtain ⟨f,rfl⟩:∃ k,f=k+1+1+1:=⟨f - 3,by omega⟩
  have h1:Tx s p (60 :: 105 :: 62 :: (decL i++[60,47,105,62]++r)):=by
   have:itemL i true++r=60 :: 105 :: 62 :: (decL i++[60,47,105,62]++r):=by unfold itemL; simp
   rw [← this]; exact h
  have h2:Tx s (p+1) ([105]++62 :: (decL i++[60,47,105,62]++r)):=Tx.step h1
  obtain ⟨e1,h3⟩:=elem0_at (b:=b) h2 (by decide) (by decide) (by decide) hl voidB_i
  have h3:Tx s (p+3) (decL i++60 :: 47 :: 105 :: 62 :: r):=by
   have:=h3
   rw [List.append_assoc] at this
   exact this
  have e2:=text_piece (b:=b.begin iN []) (dec_ok hi) (dec_ne i) h3
  have h4:=Tx.skip h3
  have hx:((b.begin iN []).text (decL i)).els[b.els.length]? = some ⟨iN,b.opn,[],(b.txt.length:Int),0⟩:=by
   show (b.els++[_])[b.els.length]? = _
   simp
  have e3:=endc_at (c:=105) (k:=b.els.length) (b:=(b.begin iN []).text (decL i)) (by decide) h4 rfl hx rfl
  have hp3:p+3≠s.size:=by
   have:=dec_len i
   have:=h3.2
   simp at this
   omega
  refine ⟨f,by omega,?_⟩
  rw [step_pieces (Tx.lt h1) ((piece_begin h1 (by decide)).trans e1)]
  show piecesP s (f+1+1) (p+3) (b.begin iN []) false=_
  rw [step_pieces hp3 e2,step_pieces (Tx.lt h4) e3,fin_step ho hd]
  have:p+3+(decL i).length+4=p+(itemL i true).length:=by unfold itemL; simp; omega
  rw [this]
  rfl
def itemsB:BS→Nat→List Bool→BS
 | b,_,[]=>b
 | b,i,g :: fs=>itemsB (stepB b (tOf i g)) (i+1) fs
theorem itemsB_eq:∀ (fs:List Bool) (b:BS) (i:Nat),b.opn=0→b.dep=1→itemsB b i fs=⟨b.els++itemEls b.txt.length i fs,b.txt++itemTxt i fs,0,1⟩
 | [],b,i,ho,hd=>by
  obtain ⟨e,t,o,d⟩:=b
  simp only [itemsB,itemEls,itemTxt,List.append_nil] at *
  rw [ho,hd]
 | g :: fs,b,i,ho,hd=>by
  rw [itemsB,itemsB_eq fs _ _ rfl rfl]
  simp [stepB,itemEls,itemTxt]
theorem items_pieces {s:ByteArray} {r:List UInt8}:∀ (fs:List Bool) (i p f:Nat) (b:BS),Tx s p (itemsL i fs++r)→i+fs.length≤100→b.opn=0→b.dep=1→b.els.length+fs.length≤90→3 * fs.length≤f →
  ∃ f',f≤f'+3 * fs.length∧piecesP s f p b false=piecesP s f' (p+(itemsL i fs).length) (itemsB b i fs) false∧Tx s (p+(itemsL i fs).length) r
 | [],i,p,f,b,h,_,_,_,_,_=>⟨f,by simp,rfl,h⟩
 | g :: fs,i,p,f,b,h,hi,ho,hd,hb,hf=>by
  simp only [List.length_cons] at hi hb hf
  rw [itemsL,List.append_assoc] at h
  obtain ⟨f1,q1,e1⟩:=item_pieces (b:=b) h (by omega) ho hd (by omega) (f:=f) (by omega)
  obtain ⟨f2,q2,e2,t2⟩:=items_pieces fs (i+1) (p+(itemL i g).length) f1 (stepB b (tOf i g)) (Tx.skip h) (by omega) rfl rfl (by simp [stepB]; omega) (by omega)
  have e3:p+(itemL i g).length+(itemsL (i+1) fs).length=p+(itemsL i (g :: fs)).length:=by rw [itemsL]; simp; omega
  rw [e3] at e2 t2
  exact ⟨f2,by simp; omega,e1.trans e2,t2⟩
theorem div_at {s:ByteArray} {p:Nat} {r:List UInt8} {b:BS} {x:El} (h:Tx s p (60 :: 47 :: 100 :: 105 :: 118 :: 62 :: r)) (ho:b.opn=0) (hx:b.els[0]? = some x) (hn:x.name=divN):pieceP s p b=(p+6,b.fin,0):=by
 have p0:peekI s p=60:=Tx.peek h (by decide)
 have h1:=Tx.step h
 have p1:peekI s (p+1)=47:=Tx.peek h1 (by decide)
 have h2:=Tx.step h1
 have p2:peekI s (p+1+1)=100:=Tx.peek h2 (by decide)
 have h3:=Tx.step h2
 have p3:peekI s (p+1+1+1)=105:=Tx.peek h3 (by decide)
 have h4:=Tx.step h3
 have p4:peekI s (p+1+1+1+1)=118:=Tx.peek h4 (by decide)
 have h5:=Tx.step h4
 have p5:peekI s (p+1+1+1+1+1)=62:=Tx.peek h5 (by decide)
 have x1:=exp_at (l:=[47]) h1 (by decide)
 have x3:=exp_at (l:=[62]) (r:=r) h5 (by decide)
 simp only [List.length_singleton] at x1 x3
 have x2:exnP s [100,105,118] (p+1+1)=(p+1+1+1+1+1,true):=by
  have s2:skipP s (p+1+1)=p+1+1+1:=by unfold skipP; rw [if_neg (by rw [p2]; decide)]
  have s3:skipP s (p+1+1+1)=p+1+1+1+1:=by unfold skipP; rw [if_neg (by rw [p3]; decide)]
  have s4:skipP s (p+1+1+1+1)=p+1+1+1+1+1:=by unfold skipP; rw [if_neg (by rw [p4]; decide)]
  rw [exnP,if_pos (by rw [p2]; decide),s2,exnP,if_pos (by rw [p3]; decide),s3,exnP,if_pos (by rw [p4]; decide),s4,exnP,p5]
  rfl
 have x4:runTo spaceB s (p+1+1+1+1+1)=p+1+1+1+1+1:=runTo_no (by rw [p5]; decide)
 have hn':x.name.data.toList=[100,105,118]:=by rw [hn]; rfl
 unfold pieceP
 rw [if_pos p0,if_neg (by rw [p1]; decide),if_pos p1,endP_yes (k:=0) ho hx,hn']
 simp only [x1,x2,x3,x4]
 simp
theorem doc_parse {s:ByteArray} {fs:List Bool} (hs:s.data.toList=docL fs) (hf:fs.length≤40):parseP s=(s.size,docBS fs,0):=by
 have t0:Tx s 0 (60 :: 100 :: 105 :: 118 :: 62 :: (itemsL 0 fs++[60,47,100,105,118,62])):=by
  have:=Tx.all s
  rw [hs] at this
  exact this
 have hz:s.size=11+(itemsL 0 fs).length:=by have:=t0.2; simp at this; omega
 have hlen:∀ (fs:List Bool) i,4 * fs.length≤(itemsL i fs).length:=by
  intro fs
  induction fs with
  | nil=>intro i; simp [itemsL]
  | cons g fs ih =>
   intro i
   have:=ih (i+1)
   rw [itemsL,List.length_append,List.length_cons]
   have:4≤(itemL i g).length:=by unfold itemL; split <;> simp
   omega
 have hL:=hlen fs 0
 unfold parseP
 obtain ⟨F,hF⟩:∃ F,s.size+1=F+1:=⟨s.size,rfl⟩
 rw [hF]
 have t1:Tx s 1 ([100,105,118]++62 :: (itemsL 0 fs++[60,47,100,105,118,62])):=Tx.step t0
 obtain ⟨e1,t2⟩:=elem0_at (b:=b0) t1 (by decide) (by decide) (by decide) (by rfl) voidB_div
 rw [step_pieces (Tx.lt t0) ((piece_begin t0 (by decide)).trans e1)]
 obtain ⟨f2,q2,e2,t3⟩:=items_pieces fs 0 5 F (b0.begin divN []) t2 (by omega) rfl rfl (by simp [BS.begin,b0]; omega) (by omega)
 refine Eq.trans (b:=piecesP s F 5 (b0.begin divN []) false) rfl ?_
 rw [e2,itemsB_eq fs _ 0 rfl rfl]
 obtain ⟨f3,rfl⟩:∃ k,f2=k+1+1:=⟨f2 - 2,by omega⟩
 have hels:(b0.begin divN []).els=[⟨divN,-1,[],0,0⟩]:=rfl
 have htx:(b0.begin divN []).txt=[]:=rfl
 rw [hels,htx]
 rw [step_pieces (Tx.lt t3) (div_at t3 rfl rfl rfl)]
 have hp:5+(itemsL 0 fs).length+6=s.size:=by omega
 have hfin:BS.fin ⟨⟨divN,-1,[],0,0⟩ :: itemEls 0 0 fs,itemTxt 0 fs,0,1⟩=docBS fs:=rfl
 refine Eq.trans (b:=piecesP s (f3+1) s.size (docBS fs) false) ?_ ?_
 ·rw [← hp,← hfin]
  rfl
 ·rw [piecesP,if_pos rfl,if_pos (show (docBS fs).opn=-1 from rfl)]
  rfl
end Go.Proofs.YtclpcnignheijaaGreatDoor.Num
