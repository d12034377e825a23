/-
  Parts of the proof: LB.
-/
import Derived.Test.YtclpcnignheijaaGreatDoorQ16
set_option maxHeartbeats 4000000
namespace Go.Proofs.YtclpcnignheijaaGreatDoor
open Go
section
variable{P:Program}{Al:FuncId->Prop}{Shr:Nat->Prop}{π:Ren P.globals.size}
theorem qKL(hfree:∀r,¬Shr r){a b:Addr}(h:ARel π a b):SRel P Al Shr EqR π (frozen a) (frozen b):=.frozen h (hfree _) fun _=>.pure rfl
theorem qJM(hfree:∀r,¬Shr r){a b:Addr}(h:ARel π a b):SRel P Al Shr EqR π (stringish a) (stringish b):=by
 unfold stringish;refine .bndE (qKL hfree h) fun π1 t l1=>?_;split
 ·exact .pur rfl
 ·refine SRel.bndE (s:=shape a.block) (s':=shape b.block) (.shape (l1 _ _ h.block) fun s=>.pure rfl) fun π2 s l2=>?_;cases s with
  |none=>exact .pur rfl
  |some x=>exact qKL hfree (a:={ block:=a.block,off:=x.2 }) (b:={ block:=b.block,off:=x.2 }) ⟨l2 _ _ (l1 _ _ h.block),rfl,rfl⟩
theorem qRZ(hfree:∀r,¬Shr r){a b c d:Addr}(h:ARel π a b)(k:ARel π c d):SRel P Al Shr EqR π (mayBeOne a c) (mayBeOne b d):=by
 unfold mayBeOne;refine .bndE (qJM hfree h) fun π1 sa l1=>.bndE (qJM hfree (k.mono l1)) fun π2 sb l2=>?_;have h2:=(h.mono l1).mono l2;have k2:=(k.mono l1).mono l2;refine SRel.bndE (s:=shape a.block) (s':=shape b.block) (.shape h2.block fun s=>.pure rfl) fun π3 s l3=>?_;refine SRel.bndE (s:=shape c.block) (s':=shape d.block) (.shape (l3 _ _ k2.block) fun s=>.pure rfl) fun π4 s' l4=>.pur rfl
theorem qJa{a b c d:Addr}(h:ARel π a b)(k:ARel π c d):(b==d)=(a==c):=by
 have hb:=π.inj h.block k.block;have h1:=h.off;have h2:=h.spot;have k1:=k.off;have k2:=k.spot;obtain⟨r,o,s⟩:=a;obtain⟨r',o',s'⟩:=b;obtain⟨q,p,t⟩:=c;obtain⟨q',p',t'⟩:=d;simp only at hb h1 h2 k1 k2;subst h1 h2 k1 k2;rw[Bool.eq_iff_iff];simp only[beq_iff_eq,Addr.mk.injEq];constructor
 ·rintro⟨e,h⟩;exact⟨hb.2 e,h⟩
 ·rintro⟨e,h⟩;exact⟨hb.1 e,h⟩
theorem qLq(hfree:∀r,¬Shr r){a b c d:Addr}(h:ARel π a b)(k:ARel π c d):SRel P Al Shr EqR π (sameAddr a c) (sameAddr b d):=by
 unfold sameAddr;rw[qHC h k,qJa h k];split
 ·exact .pur rfl
 ·refine .bndE (qKL hfree h) fun π1 fa l1=>.bndE (qKL hfree (k.mono l1)) fun π2 fb l2=>?_;split
  ·exact qAT (by simp) _
  ·have h2:=(h.mono l1).mono l2;have k2:=(k.mono l1).mono l2;refine .bndE (qMs h2) fun π3 _ l3=>.bndE (qMs (k2.mono l3)) fun π4 _ l4=>?_;refine .bndE (qRZ hfree ((h2.mono l3).mono l4) ((k2.mono l3).mono l4)) fun π5 t l5=>?_;split
   ·exact SRel.choose _ fun n=>.pure rfl
   ·exact .pur rfl
theorem qLr(hfree:∀r,¬Shr r){a b c d:Addr}(h:ARel π a b)(k:ARel π c d):SRel P Al Shr EqR π (samePointer (some a) (some c)) (samePointer (some b) (some d)):=qLq hfree h k
theorem qVA{β γ:Type}{f f':γ->β->Sem (ForInStep β)}:∀(l:List γ){π:Ren P.globals.size}(_:∀π',Ren.le π π'->∀x b,SRel P Al Shr EqR π' (f x b) (f' x b))(b:β),SRel P Al Shr EqR π (forIn l b f) (forIn l b f')
 |[],_,_,b=>by rw[List.forIn_nil,List.forIn_nil];exact .pur rfl
 |x::l,π,hf,b=>by
  rw[List.forIn_cons,List.forIn_cons];refine .bndE (hf π (Ren.le_refl _) x b) fun π1 s l1=>?_;cases s with
  |done b=>exact .pur rfl
  |yield b=>exact qVA l (fun π' l'=>hf π' (Ren.le_trans l1 l')) b
theorem qTb(t:TypeId):SRel P Al Shr EqR π (typeStr t) (typeStr t):=by
 unfold typeStr;refine .bndE (qBf t) fun π1 i l1=>?_;simp only;split
 ·exact qAT (by simp) _
 ·exact .pur rfl
theorem qRV{n:Nat}(ih:∀(t:TypeId){π:Ren P.globals.size}{a a' b b':Value},VRel Al π a a'->VRel Al π b b'->SRel P Al Shr EqR π (Op.equalIn n t a b) (Op.equalIn n t a' b')){t:TypeId}{fields:Array Field}(hu:P.underlying t=some (.struct fields)){c c' d d':Array Value}(hc:VsRel Al π c c')(hd:VsRel Al π d d') :
  SRel P Al Shr EqR π (Op.equalIn (n+1) t (.agg c) (.agg d)) (Op.equalIn (n+1) t (.agg c') (.agg d')):=by
 unfold Op.equalIn;refine .bnd (qAc hu) fun π1 d1 d2 l1 hd1=>?_;obtain⟨rfl,rfl⟩:=hd1;simp only;refine qBs ?_;split
 ·exact qAT (by simp) _
 ·refine SRel.bndE ?_ fun π3 x l3=>?_
  ·rw[<-Array.forIn_toList,<-Array.forIn_toList];refine qVA _ (fun π4 l4 f b=>?_) _;split
   ·refine .bnd (qPQ _ ((hc.mono l1).mono l4) _) fun π5 p p' l5 hp=>.bnd (qPQ _ (((hd.mono l1).mono l4).mono l5) _) fun π6 q q' l6 hq=>.bndE (ih _ (hp.mono l6) hq) fun π7 t l7=>?_;split<;>exact .pur rfl
   ·exact .pur rfl
  ·obtain⟨x,-⟩:=x;cases x<;>exact .pur rfl
theorem qTU{n:Nat}(ih:∀(t:TypeId){π:Ren P.globals.size}{a a' b b':Value},VRel Al π a a'->VRel Al π b b'->SRel P Al Shr EqR π (Op.equalIn n t a b) (Op.equalIn n t a' b')){t e:TypeId}{len:Nat}(hu:P.underlying t=some (.array len e)){c c' d d':Array Value}(hc:VsRel Al π c c')(hd:VsRel Al π d d') :
  SRel P Al Shr EqR π (Op.equalIn (n+1) t (.agg c) (.agg d)) (Op.equalIn (n+1) t (.agg c') (.agg d')):=by
 unfold Op.equalIn;refine .bnd (qAc hu) fun π1 d1 d2 l1 hd1=>?_;obtain⟨rfl,rfl⟩:=hd1;simp only;refine .bndE (qBb e) fun π2 m l2=>?_;refine SRel.bndE ?_ fun π3 x l3=>?_
 ·simp only[Std.Legacy.Range.forIn_eq_forIn_range'];refine qVA _ (fun π4 l4 f b=>?_) _;refine .bnd (qPQ _ (((hc.mono l1).mono l2).mono l4) _) fun π5 p p' l5 hp=>.bnd (qPQ _ ((((hd.mono l1).mono l2).mono l4).mono l5) _) fun π6 q q' l6 hq=>.bndE (ih _ (hp.mono l6) hq) fun π7 t l7=>?_;split<;>exact .pur rfl
 ·obtain⟨x,-⟩:=x;cases x<;>exact .pur rfl
theorem sEqualIn(hfree:∀r,¬Shr r):∀(n:Nat)(t:TypeId){π:Ren P.globals.size}{a a' b b':Value}(_:VRel Al π a a')(_:VRel Al π b b'),SRel P Al Shr EqR π (Op.equalIn n t a b) (Op.equalIn n t a' b')
 |0,t,π,a,a',b,b',ha,hb=>by
  unfold Op.equalIn;exact qAT (by simp) _
 | n + 1, t, π, a, a', b, b', ha, hb => by
  by_cases hA:(∃fields,P.underlying t=some (.struct fields))/\(∃c,a=.agg c)/\∃d,b=.agg d
  ·obtain⟨⟨fields,hu⟩,⟨c,rfl⟩,d,rfl⟩:=hA;cases ha with
   |agg hs1 h1 =>
    cases hb with
    |agg hs2 h2=>exact qRV (fun t _ _ _ _ _=>sEqualIn hfree n t) hu ⟨hs1,h1⟩ ⟨hs2,h2⟩
  by_cases hB:(∃len e,P.underlying t=some (.array len e))/\(∃c,a=.agg c)/\∃d,b=.agg d
  ·obtain⟨⟨len,e,hu⟩,⟨c,rfl⟩,d,rfl⟩:=hB;cases ha with
   |agg hs1 h1 =>
    cases hb with
    |agg hs2 h2=>exact qTU (fun t _ _ _ _ _=>sEqualIn hfree n t) hu ⟨hs1,h1⟩ ⟨hs2,h2⟩
  unfold Op.equalIn;refine .bnd (qA2 t) fun π1 d0 d l1 hu=>?_;obtain⟨rfl,hu⟩:=hu;have ha1:=ha.mono l1;have hb1:=hb.mono l1;cases d with
  |bool=>cases ha1<;>cases hb1<;>first|exact .pur rfl|exact qAD _ _
  |string=>cases ha1<;>cases hb1<;>first|exact .pur rfl|exact qAD _ _
  |slice e=>cases ha1<;>cases hb1<;>first|exact .pur rfl|exact qAD _ _
  |func _ _ _=>cases ha1<;>cases hb1<;>first|exact .pur rfl|exact qAD _ _
  |map _ _=>cases ha1<;>cases hb1<;>first|exact .pur rfl|exact qAD _ _
  |chan _ _=>cases ha1<;>cases hb1<;>first|exact .pur rfl|exact qAD _ _
  |float _=>cases ha1<;>cases hb1<;>exact qAD _ _
  |complex _=>cases ha1<;>cases hb1<;>exact qAD _ _
  | unsafePointer =>
   cases ha1 with
   |nilPtr=>cases hb1<;>first|exact .pur rfl|exact qAD _ _
   |pointer h =>
    cases hb1 with
    |pointer k=>exact qLr hfree h k
    |nilPtr=>exact .pur rfl
    |_=>exact qAD _ _
   |_=>cases hb1<;>exact qAD _ _
  | pointer e =>
   cases ha1 with
   |nilPtr=>cases hb1<;>first|exact .pur rfl|exact qAD _ _
   | pointer h =>
    cases hb1 with
    | pointer k =>
     refine SRel.bndE (qBb e) fun π2 m l2=>?_;split
     ·exact qLq hfree (h.mono l2) (k.mono l2)
     ·rw[qJa (h.mono l2) (k.mono l2)];split
      ·exact .pur rfl
      ·exact SRel.choose _ fun n=>.pure rfl
    |nilPtr=>exact .pur rfl
    |_=>exact qAD _ _
   |_=>cases hb1<;>exact qAD _ _
  | interface ms =>
   cases ha1 with
   |nilIface=>cases hb1<;>first|exact .pur rfl|exact qAD _ _
   | iface tx hx =>
    cases hb1 with
    |nilIface=>exact .pur rfl
    | iface ty hy =>
     simp only;split
     ·exact .pur rfl
     ·refine .bndE (qBf tx) fun π2 i l2=>?_;split
      ·refine qBs (qBs ?_);split
       ·exact qAT (by simp) _
       ·refine .bndE (qTb tx) fun π3 s l3=>?_;exact sError _
      ·exact sEqualIn hfree n tx (hx.mono l2) (hy.mono l2)
    |_=>exact qAD _ _
   |_=>cases hb1<;>exact qAD _ _
  | int k =>
   cases ha1 with
   | int i m =>
    cases hb1 with
    |int j m' =>
     simp only;split
     ·exact .pur rfl
     ·exact qAD _ _
    |pointer h =>
     by_cases h0:m=0
     ·subst h0;exact .pur rfl
     ·split<;>first|exact qAT (by simp) _|(exfalso;simp_all;done)
    |nilPtr=>split<;>first|exact qAT (by simp) _|(exfalso;simp_all;done)
    |_=>exact qAD _ _
   | pointer h =>
    cases hb1 with
    | pointer h' =>
     refine SRel.bnd (qDP h) fun π3 x x' l3 hx=>?_;obtain⟨x,x',lx,rfl,rfl,hx⟩:=hx;refine .bnd (qDP (h'.mono l3)) fun π4 y y' l4 hy=>?_;obtain⟨y,y',ly,rfl,rfl,hy⟩:=hy;have hx4:=hx.mono l4;refine qBs ?_;simp only;rw[qHC hx4 hy,show decide (x'.block<P.globals.size)=decide (x.block<P.globals.size) from by have:=π4.ok hx4.block;rw[Bool.eq_iff_iff];simp only[decide_eq_true_eq];omega];split
     ·exact .bndE (qFG hx4) fun π5 u l5=>.bndE (qFG (hy.mono l5)) fun _ _ _=>.pur rfl
     ·refine .bndE (qBf t) fun π5 i l5=>?_;split
      ·rw[qJa (hx4.mono l5) (hy.mono l5)];split
       ·exact .pur rfl
       ·exact qAT (by simp) _
      ·exact qAT (by simp) _
    |int j m =>
     by_cases h0:m=0
     ·subst h0;exact .pur rfl
     ·split<;>first|exact qAT (by simp) _|(exfalso;simp_all;done)
    |_=>exact qAT (by simp) _
   |nilPtr=>cases hb1<;>exact qAT (by simp) _
   |_=>cases hb1<;>first|exact qAD _ _|exact qAT (by simp) _
  | struct fields =>
   cases ha1 with
   |agg hs1 h1 =>
    cases hb1 with
    |agg hs2 h2=>exact absurd ⟨⟨_,hu⟩,⟨_,rfl⟩,⟨_,rfl⟩⟩ hA
    |_=>exact qAD _ _
   |_=>cases hb1<;>exact qAD _ _
  | array len e =>
   cases ha1 with
   |agg hs1 h1 =>
    cases hb1 with
    |agg hs2 h2=>exact absurd ⟨⟨_,_,hu⟩,⟨_,rfl⟩,⟨_,rfl⟩⟩ hB
    |_=>exact qAD _ _
   |_=>cases hb1<;>exact qAD _ _
  |_=>cases ha1<;>cases hb1<;>exact qAD _ _
end
