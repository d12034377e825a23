/-
  Parts of the proof: L5.
-/
import Derived.Test.YtclpcnignheijaaGreatDoorQ15
namespace Go.Proofs.YtclpcnignheijaaGreatDoor
open Go
section
variable{P:Program}{Al:FuncId->Prop}{Shr:Nat->Prop}{G:Nat}{π:Ren G}
theorem qRY{x x':Value}(hx:VRel Al π x x'):SRel P Al Shr EqR π (Builtin.lenOf x) (Builtin.lenOf x'):=by
 cases hx<;>first|exact .pur rfl|exact qAD _ _
theorem qC6(size n:Nat){x x':Value}(hx:VRel Al π x x'):SRel P Al Shr (VsR Al) π (Builtin.firstCells size n x) (Builtin.firstCells size n x'):=by
 cases hx with
 |slice h a b=>exact qGU h _
 |nilSlice a b=>exact .pur (.empty _)
 |string s=>exact .pur ⟨rfl,fun i a b=>by simp only[Array.getElem_map];exact .int _ _⟩
 |_=>exact qAD _ _
theorem qIC(a:Addr)(n:Nat):Peer (Builtin.holdsCells a n):=by
 unfold Builtin.holdsCells;refine Peer.bind (.shape fun s=>.pure s) fun s=>?_;cases s<;>exact .pure _
theorem qRF(size qSA n:Nat)(base:Option Addr)(x:Value):Peer (Builtin.mayShare size qSA n base x):=by
 unfold Builtin.mayShare;cases base with
 | none =>
  refine Peer.bind (s:=Pure.pure true) (.pure _) fun t=>?_;cases t
  ·exact .pure _
  ·simp only[Bool.not_true,Bool.false_eq_true,if_false];split
   ·exact Peer.bind (qIC _ _) fun _=>.pure _
   ·exact .pure _
 | some a =>
  refine Peer.bind (qIC _ _) fun x=>Peer.bind (s:=frozen _) (.frozen fun y=>.pure y) fun y=>?_;refine Peer.bind (s:=Pure.pure (x&&!y)) (.pure _) fun t=>?_;cases t
  ·exact .pure _
  ·simp only[Bool.not_true,Bool.false_eq_true,if_false];split
   ·exact Peer.bind (qIC _ _) fun _=>.pure _
   ·exact .pure _
theorem qKg{c c':Array Value}(h:VsRel Al π c c')(n:Nat):VsRel Al π (Builtin.zeroCells c n) (Builtin.zeroCells c' n):=by
 unfold Builtin.zeroCells;rw[<-h.size];exact qFs fun i=>qHv h _
theorem qAc{t:TypeId}{d:TypeDesc}(h:P.underlying t=some d):SRel P Al Shr (fun _ a b=>a=d/\b=d) π (underlying t) (underlying t):=by
 unfold underlying;refine qBs ?_;rw[h];exact .pur ⟨rfl,rfl⟩
theorem qEP{t:TypeId}(h:P.underlying t=none):SRel P Al Shr (fun _ _ _=>False) π (underlying t) (underlying t):=by
 unfold underlying;refine qBs ?_;rw[h];exact qAD _ _
def qEd(P:Program)(ts:Array TypeId):Bool :=
 (match ts[1]? with
 |some t=>match P.underlying t with
  |some (.int _)=>false
  |some _=>true
  |none=>false
 |none=>false)&&ts[0]?.all (qGh P)
theorem qJd{ts:Array TypeId}(h:qEd P ts=true)(st:TypeId)(h0:ts[0]? = some st):qGh P st=true:=by
 unfold qEd at h;simp only[h0,Option.all_some,Bool.and_eq_true]at h;exact h.2
theorem qJe{ts:Array TypeId}(h:qEd P ts=true):∃t d,ts[1]? = some t/\P.underlying t=some d/\∀k,d≠.int k:=by
 unfold qEd at h
 replace h:=(Bool.and_eq_true _ _▸h).1
 split at h
 ·rename_i t ht;split at h
  ·cases h
  ·rename_i d hd _;exact⟨t,_,ht,‹_›,by rintro k rfl;simp_all⟩
  ·cases h
 ·cases h
theorem qU7(ts:Array TypeId)(hts:qEd P ts=true)(t:TypeId){args args':Array Value}(h:VsRel Al π args args'):SRel P Al Shr (VR Al) π (Builtin.append_ ts t args) (Builtin.append_ ts t args'):=by
 obtain⟨xt,xd,ht1,hu1,hn1⟩:=qJe hts;unfold Builtin.append_;cases h0:ts[0]? with
 |none=>exact qAD _ _
 |some st =>
 rcases h.get? 0 with⟨a0,b0⟩|⟨s,s',a0,b0,hs⟩
 ·simp only[a0];exact qAD _ _
 rcases h.get? 1 with⟨a1,b1⟩|⟨x,x',a1,b1,hx⟩
 ·simp only[a0,a1];exact qAD _ _
 simp only[a0,a1,b0,b1];refine .bnd (qA2 st) fun π1 d0 d l1 hu=>?_;obtain⟨rfl,hu⟩:=hu;have hs1:=hs.mono l1;cases d with
 | slice elem =>
  have okE:qEc P elem=true:=by
   have:=qJd hts st h0;simpa [qGh,hu]using this
  obtain⟨base,base',qSA,qU8,rfl,rfl,hb⟩|hno:(∃base base' qSA qU8,s=.slice base qSA qU8/\s'=.slice base' qSA qU8/\(base=none/\base'=none\/∃a b,base=some a/\base'=some b/\ARel π1 a b))\/∀a b c,s≠.slice a b c:=by
   cases hs1 with
   |nilSlice a b=>exact .inl ⟨_,_,_,_,rfl,rfl,.inl ⟨rfl,rfl⟩⟩
   |slice h a b=>exact .inl ⟨_,_,_,_,rfl,rfl,.inr ⟨_,_,rfl,rfl,h⟩⟩
   |_=>exact .inr (by simp)
  case inr =>
   cases s<;>first|exact absurd rfl (hno _ _ _)|exact qAD _ _
  simp only[ht1];refine .bndE (qBb elem) fun π2 size l2=>?_;refine .bnd (qAc hu1) fun π3 d1 d2 l3 hd=>?_;obtain⟨rfl,rfl⟩:=hd;have hx3:=((hx.mono l1).mono l2).mono l3;refine SRel.bnd (R:=fun _ a b=>a=false/\b=false) (.pur ?_) fun π4 z z' l4 hz=>?_
  ·constructor<;>(split<;>first|exact absurd rfl (hn1 _)|rfl)
  obtain⟨rfl,rfl⟩:=hz;simp only[Bool.false_eq_true,if_false,Bool.not_false,if_true,false_or];refine .bndE (qRY (hx3.mono l4)) fun π5 n l5=>?_;have hx5:=(hx3.mono l4).mono l5;have hs5:VRel Al π5 (.slice base qSA qU8) (.slice base' qSA qU8):=(((hs1.mono l2).mono l3).mono l4).mono l5;have hb5:base=none/\base'=none\/∃a b,base=some a/\base'=some b/\ARel π5 a b :=
   hb.imp id fun⟨a,b,e1,e2,hab⟩=>⟨a,b,e1,e2,(((hab.mono l2).mono l3).mono l4).mono l5⟩
  split
  ·refine .bnd (qC6 size n hx5) fun π6 c c' l6 hc=>?_;rcases hb5 with⟨rfl,rfl⟩|⟨a,b,rfl,rfl,hab⟩
   ·exact .pur (.nilSlice _ _)
   ·exact .bndE (qDn hc.list 0 ((hab.mono l6).add _)) fun π7 _ l7=>.pur (.slice ((hab.mono l6).mono l7) _ _)
  ·refine .bndE (qBf elem) fun π6 i l6=>?_;split
   ·exact sError _
   refine .bndE (qBf elem) fun π7 i l7=>?_;split
   ·refine .doom (Doom.bind (Peer.doom (qRF _ _ _ _ _) fun x=>?_) _) _;cases x
    ·exact .mark _ (.halt (by simp[Halt.bad]))
    ·exact .halt (by simp[Halt.bad])
   ·refine SRel.choose _ fun cap=>?_;refine SRel.bndE (s:=typeInfo elem) (qBf elem) fun π8 i l8=>?_;refine .bndE (qNv _) fun π9 _ l9=>?_;have lb:Ren.le π5 π9:=Ren.le_trans (Ren.le_trans (Ren.le_trans l6 l7) l8) l9;refine .bnd (qC6 size qSA (hs5.mono lb)) fun πa c c' la hc=>?_;refine .bnd (qC6 size n ((hx5.mono lb).mono la)) fun πb e e' lb he=>?_;refine .bnd (qPS okE) fun πc z z' lc hz=>?_;exact .bnd (qGV elem ((((hc.mono lb).mono lc).append (he.mono lc)).append (qKg hz.cells _))) fun πd a b ld hab=>.pur (.slice hab _ _)
 |_=>exact qAD _ _
def qQl(P:Program)(ts:Array TypeId):Bool :=
 match ts[0]? with
 |some t=>match P.underlying t with
  |some (.map ..)|some (.chan ..)=>false
  |_=>true
 |none=>true
theorem qSA(ts:Array TypeId)(hts:qQl P ts=true)(t:TypeId){args args':Array Value}(h:VsRel Al π args args'):SRel P Al Shr (VR Al) π (Builtin.len_ ts t args) (Builtin.len_ ts t args'):=by
 unfold Builtin.len_;unfold qQl at hts;cases h0:ts[0]? with
 |none=>exact qAD _ _
 |some st =>
 rcases h.get? 0 with⟨a0,b0⟩|⟨s,s',a0,b0,hs⟩
 ·simp only[a0];exact qAD _ _
 simp only[a0,b0];simp only[h0]at hts;cases hu:P.underlying st with
 |none=>exact .bnd (qEP hu) fun _ _ _ _ h=>h.elim
 | some d =>
  refine .bnd (qAc hu) fun π1 d1 d2 l1 hd=>?_;obtain⟨rfl,rfl⟩:=hd;rw[hu]at hts;have hs1:=hs.mono l1;cases d2 with
  |map _ _=>cases hts
  |chan _ _=>cases hts
  |array n e=>exact .pur (.int _ _)
  |pointer arr =>
   refine SRel.bndE (s:=underlying arr) (qAv arr) fun π2 d l2=>?_;cases d<;>first|exact .pur (.int _ _)|exact qAD _ _
  |string=>cases hs1<;>first|exact .pur (.int _ _)|exact qAD _ _
  |slice e=>cases hs1<;>first|exact .pur (.int _ _)|exact qAD _ _
  |_=>exact qAD _ _
theorem qU8(ts:Array TypeId)(hts:qQl P ts=true)(t:TypeId){args args':Array Value}(h:VsRel Al π args args'):SRel P Al Shr (VR Al) π (Builtin.cap_ ts t args) (Builtin.cap_ ts t args'):=by
 unfold Builtin.cap_;unfold qQl at hts;cases h0:ts[0]? with
 |none=>exact qAD _ _
 |some st =>
 rcases h.get? 0 with⟨a0,b0⟩|⟨s,s',a0,b0,hs⟩
 ·simp only[a0];exact qAD _ _
 simp only[a0,b0];simp only[h0]at hts;cases hu:P.underlying st with
 |none=>exact .bnd (qEP hu) fun _ _ _ _ h=>h.elim
 | some d =>
  refine .bnd (qAc hu) fun π1 d1 d2 l1 hd=>?_;obtain⟨rfl,rfl⟩:=hd;rw[hu]at hts;have hs1:=hs.mono l1;cases d2 with
  |chan _ _=>cases hts
  |array n e=>exact .pur (.int _ _)
  |pointer arr =>
   refine SRel.bndE (s:=underlying arr) (qAv arr) fun π2 d l2=>?_;cases d<;>first|exact .pur (.int _ _)|exact qAD _ _
  |slice e=>cases hs1<;>first|exact .pur (.int _ _)|exact qAD _ _
  |_=>exact qAD _ _
theorem qWt(ts:Array TypeId)(t:TypeId){args args':Array Value}(h:VsRel Al π args args'):SRel P Al Shr (VR Al) π (Builtin.copy_ ts t args) (Builtin.copy_ ts t args'):=by
 unfold Builtin.copy_;cases h0:ts[0]? with
 |none=>exact qAD _ _
 |some st =>
 rcases h.get? 0 with⟨a0,b0⟩|⟨s,s',a0,b0,hs⟩
 ·simp only[a0];exact qAD _ _
 rcases h.get? 1 with⟨a1,b1⟩|⟨x,x',a1,b1,hx⟩
 ·simp only[a0,a1];exact qAD _ _
 simp only[a0,a1,b0,b1];refine .bndE (qAv st) fun π1 d l1=>?_;have hs1:=hs.mono l1;cases d with
 | slice elem =>
  cases hs1 with
  |nilSlice a b =>
   refine SRel.bndE (qRY (hx.mono l1)) fun π2 n l2=>?_;refine .bndE (qBb elem) fun π3 s l3=>?_;exact .bnd (qC6 _ _ (((hx.mono l1).mono l2).mono l3)) fun π4 c c' l4 hc=>.pur (.int _ _)
  |slice hab a b =>
   refine SRel.bndE (qRY (hx.mono l1)) fun π2 n l2=>?_;refine .bndE (qBb elem) fun π3 s l3=>?_;refine .bnd (qC6 _ _ (((hx.mono l1).mono l2).mono l3)) fun π4 c c' l4 hc=>?_;exact .bndE (qDn hc.list 0 (((hab.mono l2).mono l3).mono l4)) fun π7 _ l7=>.pur (.int _ _)
  |_=>exact qAD _ _
 |_=>exact qAD _ _
end
