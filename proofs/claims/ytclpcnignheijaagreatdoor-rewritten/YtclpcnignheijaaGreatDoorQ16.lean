/-
  Parts of the proof: L7, L8.
-/
import Derived.Test.YtclpcnignheijaaGreatDoorL6
namespace Go.Proofs.YtclpcnignheijaaGreatDoor
open Go
section
variable{P:Program}{Al:FuncId->Prop}{Shr:Nat->Prop}{π:Ren P.globals.size}
theorem qVH{a b c d:Addr}(h:ARel π a b)(k:ARel π c d):SRel P Al Shr (VR Al) π (do Op.addrSub .u64 (<-behindNumber a).1 (<-behindNumber c).1) (do Op.addrSub .u64 (<-behindNumber b).1 (<-behindNumber d).1):=by
 refine SRel.bnd (qDP h) fun π3 x x' l3 hx=>?_;obtain⟨x,x',lx,rfl,rfl,hx⟩:=hx;refine .bnd (qDP (k.mono l3)) fun π4 y y' l4 hy=>?_;obtain⟨y,y',ly,rfl,rfl,hy⟩:=hy;exact qTQ _ (hx.mono l4) hy
theorem qKN(op:BinOp){a b c d:Addr}(h:ARel π a b)(k:ARel π c d):SRel P Al Shr (VR Al) π (do Op.addrCmp op (<-behindNumber a).1 (<-behindNumber c).1) (do Op.addrCmp op (<-behindNumber b).1 (<-behindNumber d).1):=by
 refine SRel.bnd (qDP h) fun π3 x x' l3 hx=>?_;obtain⟨x,x',lx,rfl,rfl,hx⟩:=hx;refine .bnd (qDP (k.mono l3)) fun π4 y y' l4 hy=>?_;obtain⟨y,y',ly,rfl,rfl,hy⟩:=hy;exact qTO _ (hx.mono l4) hy
theorem qRc(i:IntKind)(n:Int){a b:Addr}(h:ARel π a b):SRel P Al Shr (VR Al) π (do Op.addrMod i (<-behindNumber a).1 n) (do Op.addrMod i (<-behindNumber b).1 n):=by
 refine SRel.bnd (qDP h) fun π3 x x' l3 hx=>?_;obtain⟨x,x',lx,rfl,rfl,hx⟩:=hx;exact qTP _ _ hx
def qSX(P:Program)(op:BinOp)(t:TypeId)(x y:Operand):Bool :=
 qFn P t&&(match op with|.eql|.neq=>qSp P t x y|_=>true)
theorem qVn(t:TypeId){a:Value}(b:Value)(h:qA0 a=true):binOp .eql t a b=(do pure (.bool (<-Op.equal t a b))):=by cases a<;>cases b<;>first|rfl|cases h
theorem qVo(t:TypeId)(a:Value){b:Value}(h:qA0 b=true):binOp .eql t a b=(do pure (.bool (<-Op.equal t a b))):=by cases a<;>cases b<;>first|rfl|cases h
theorem qVy(t:TypeId){a:Value}(b:Value)(h:qA0 a=true):binOp .neq t a b=(do pure (.bool (!(<-Op.equal t a b)))):=by cases a<;>cases b<;>first|rfl|cases h
theorem qVz(t:TypeId)(a:Value){b:Value}(h:qA0 b=true):binOp .neq t a b=(do pure (.bool (!(<-Op.equal t a b)))):=by cases a<;>cases b<;>first|rfl|cases h
theorem qXu(op:BinOp)(t:TypeId)(x y:Operand)(ok:qSX P op t x y=true){a a' b b':Value}(ha:VRel Al π a a')(hb:VRel Al π b b')
  (hx:∀v,x=.const v->a=v) (hy:∀v,y=.const v->b=v):SRel P Al Shr (VR Al) π (binOp op t a b) (binOp op t a' b'):=by
 have ht:qFn P t=true:=by
  unfold qSX at ok;exact((Bool.and_eq_true _ _).mp ok).1
 have ha0:=ha;have hb0:=hb;have eqv:qSp P t x y=true->SRel P Al Shr (VR Al) π (do pure (.bool (<-Op.equal t a b))) (do pure (.bool (<-Op.equal t a' b'))):=fun h=>.bndE (qUI t x y h ha hb hx hy) fun _ _ _=>.pur (.bool _);have neqv:qSp P t x y=true->SRel P Al Shr (VR Al) π (do pure (.bool (!(<-Op.equal t a b)))) (do pure (.bool (!(<-Op.equal t a' b')))):=fun h=>.bndE (qUI t x y h ha hb hx hy) fun _ _ _=>.pur (.bool _);cases op with
 |eql =>
  have h:=eqv ((Bool.and_eq_true _ _).mp ok).2;clear eqv neqv hx hy ok;cases ha<;>cases hb<;>first|exact h|exact qCZ _ _ _ _ _ _|exact qCa _ _ _ _|(rw[qVn t _ (show qA0 a'=true by assumption)];exact h)|(rw[qVo t _ (show qA0 b'=true by assumption)];exact h)
 |neq =>
  have h:=neqv ((Bool.and_eq_true _ _).mp ok).2;clear eqv neqv hx hy ok;cases ha<;>cases hb<;>first|exact h|exact qCZ _ _ _ _ _ _|exact qCa _ _ _ _|(rw[qVy t _ (show qA0 a'=true by assumption)];exact h)|(rw[qVz t _ (show qA0 b'=true by assumption)];exact h)
 |add =>
  clear eqv neqv hx hy ok;cases ha<;>cases hb<;>first|exact qAD _ _|exact qAT (by simp) _|exact qCZ _ _ _ _ _ _|exact qCa _ _ _ _|exact qU6 t ht ha0 hb0|exact qEN t hb0 ha0
 |sub =>
  clear eqv neqv hx hy ok;cases ha<;>cases hb<;>first|exact qAD _ _|exact qAT (by simp) _|exact qCZ _ _ _ _ _ _|exact qCa _ _ _ _|exact qEN t ha0 (.int _ _)|exact qVH (by assumption) (by assumption)
 |rem =>
  clear eqv neqv hx hy ok;cases ha<;>cases hb<;>first|exact qAD _ _|exact qAT (by simp) _|exact qCZ _ _ _ _ _ _|exact qCa _ _ _ _|exact qRc _ _ (by assumption)
 |and =>
  clear eqv neqv hx hy ok;cases ha<;>cases hb<;>first|exact qAD _ _|exact qAT (by simp) _|exact qCZ _ _ _ _ _ _|exact qCa _ _ _ _|exact qRc _ _ (by assumption)
 |lss =>
  clear eqv neqv hx hy ok;cases ha<;>cases hb<;>first|exact qAD _ _|exact qAT (by simp) _|exact qCZ _ _ _ _ _ _|exact qCa _ _ _ _|exact qKN _ (by assumption) (by assumption)
 |leq =>
  clear eqv neqv hx hy ok;cases ha<;>cases hb<;>first|exact qAD _ _|exact qAT (by simp) _|exact qCZ _ _ _ _ _ _|exact qCa _ _ _ _|exact qKN _ (by assumption) (by assumption)
 |gtr =>
  clear eqv neqv hx hy ok;cases ha<;>cases hb<;>first|exact qAD _ _|exact qAT (by simp) _|exact qCZ _ _ _ _ _ _|exact qCa _ _ _ _|exact qKN _ (by assumption) (by assumption)
 |geq =>
  clear eqv neqv hx hy ok;cases ha<;>cases hb<;>first|exact qAD _ _|exact qAT (by simp) _|exact qCZ _ _ _ _ _ _|exact qCa _ _ _ _|exact qKN _ (by assumption) (by assumption)
 |_ =>
  clear eqv neqv hx hy ok;cases ha<;>cases hb<;>first|exact qAD _ _|exact qAT (by simp) _|exact qCZ _ _ _ _ _ _|exact qCa _ _ _ _
end
section
variable{P:Program}{Al:FuncId->Prop}{Shr:Nat->Prop}{π:Ren P.globals.size}
theorem qNw(t:TypeId)(x y:Operand)(ok:qSp P t x y=true){a a' b b':Value}(ha:VRel Al π a a')(hb:VRel Al π b b')
  (hni:∀ms,P.underlying t=some (.interface ms)->¬(a=.nilIface/\b=.nilIface)) :
  SRel P Al Shr (fun _ a b=>a=false/\b=false) π (Op.eqGuardIn Op.maxDepth t a b) (Op.eqGuardIn Op.maxDepth t a' b'):=by
 unfold Op.maxDepth Op.eqGuardIn;refine .bnd (qA2 t) fun π1 d0 d l1 hu=>?_;obtain⟨rfl,hu⟩:=hu;unfold qSp at ok;rw[hu]at ok;cases d with
 | interface ms =>
  cases ha with
  |nilIface =>
   cases hb with
   |nilIface=>exact absurd ⟨rfl,rfl⟩ (hni _ hu)
   |lost _ hl=>cases b'<;>first|exact .pur ⟨rfl,rfl⟩|cases hl
   |_=>exact .pur ⟨rfl,rfl⟩
  |lost _ hl=>cases a'<;>cases hb<;>first|exact .pur ⟨rfl,rfl⟩|cases hl|(cases b'<;>first|exact .pur ⟨rfl,rfl⟩|cases ‹qA0 _=true›)
  |_=>cases hb<;>first|exact .pur ⟨rfl,rfl⟩|(cases b'<;>first|exact .pur ⟨rfl,rfl⟩|cases ‹qA0 _=true›)
 |struct _=>cases ok
 |array _ _=>cases ok
 |_=>exact .pur ⟨rfl,rfl⟩
theorem qTV(op:BinOp)(t:TypeId)(x y:Operand)(ok:qSX P op t x y=true){a a' b b':Value}(ha:VRel Al π a a')(hb:VRel Al π b b') :
  SRel P Al Shr EqR π (eqGuard op t x y a b) (eqGuard op t x y a' b'):=by
 have ha0:=ha;have hb0:=hb;have key:qSp P t x y=true->SRel P Al Shr EqR π (eqGuard .eql t x y a b) (eqGuard .eql t x y a' b'):=by
  intro he;unfold eqGuard;simp only[Bool.not_true,Bool.false_eq_true,if_false];cases ha with
  | nilIface =>
   cases hb with
   | nilIface =>
    have go : (∀ ms, P.underlying t ≠ some (.interface ms)) → SRel P Al Shr EqR π (do if ← Op.eqGuardIn Op.maxDepth t .nilIface .nilIface then unsupported (.noEntry "binop/eql: two nil values of an interface type with methods, neither of them the literal nil")) (do if ← Op.eqGuardIn Op.maxDepth t .nilIface .nilIface then unsupported (.noEntry "binop/eql: two nil values of an interface type with methods, neither of them the literal nil")) := by
     intro hni;refine .bnd (qNw t x y he ha0 hb0 fun ms hu=>absurd hu (hni ms)) fun π1 u u' l1 hu=>?_;obtain⟨rfl,rfl⟩:=hu;exact .pur rfl
    cases x with
    |const v=>exact .pur rfl
    |_ =>
     cases y with
     |const v=>exact .pur rfl
     |_=>exact go fun ms hu=>by unfold qSp at he;rw[hu]at he;cases he
   |lost _ hl=>cases b'<;>first|exact .pur rfl|cases hl
   |_=>exact .pur rfl
  | agg hs h =>
   cases hb with
   | agg hs' h' =>
    simp only;refine qBs (qBs ?_);split
    ·exact .pur rfl
    ·refine .bnd (qNw t x y he ha0 hb0 (fun _ _ q=>by cases q.1)) fun π1 u u' l1 hu=>?_;obtain⟨rfl,rfl⟩:=hu;exact .pur rfl
   |lost _ hl=>cases b'<;>first|exact .pur rfl|cases hl
   |_=>exact .pur rfl
  |lost _ hl=>cases a'<;>cases hb<;>first|exact .pur rfl|cases hl|(cases b'<;>first|exact .pur rfl|cases ‹qA0 _=true›)
  |_=>cases hb<;>first|exact .pur rfl|(cases b'<;>first|exact .pur rfl|cases ‹qA0 _=true›)
 cases op with
 |eql=>exact key ((Bool.and_eq_true _ _).mp ok).2
 |neq=>exact key ((Bool.and_eq_true _ _).mp ok).2
 |_=>exact .pur rfl
theorem qWQ(op:UnOp){a a':Value}(ha:VRel Al π a a'):SRel P Al Shr (VR Al) π (Op.unary op a) (Op.unary op a'):=by
 unfold Op.unary;cases op<;>cases ha<;>first|exact .pur (.bool _)|exact qLo _ _ _ _|exact qNx _ _ _ _|exact qAT (by simp) _|exact qAD _ _
theorem sForE{β:Type}{f:Value->β->Sem (ForInStep β)}(hf:∀(π:Ren P.globals.size) v v' b,VRel Al π v v'->SRel P Al Shr EqR π (f v b) (f v' b)) :
  ∀{l l':List Value}{π:Ren P.globals.size}(_:LRel Al π l l')(b:β),SRel P Al Shr EqR π (forIn l b f) (forIn l' b f)
 |_,_,_,.nil,b=>by rw[List.forIn_nil];exact .pur rfl
 |_,_,π,.cons h t,b=>by
  rw[List.forIn_cons,List.forIn_cons];refine .bndE (hf π _ _ b h) fun π' r l=>?_;cases r with
  |done b=>exact .pur rfl
  |yield b=>exact sForE hf (t.mono l) b
theorem qIn{a a':Value}(ha:VRel Al π a a'):SRel P Al Shr (VR Al) π (Conv.bytesToString a) (Conv.bytesToString a'):=by
 unfold Conv.bytesToString;cases ha with
 |nilSlice n c=>exact .pur (.string _)
 |slice h n c =>
  refine SRel.bnd (qGU h n) fun π1 cs cs' l1 hc=>?_;refine SRel.bndE ?_ fun π2 s l2=>.pur (.string _);rw[<-Array.forIn_toList,<-Array.forIn_toList];refine sForE (fun π v v' b hv=>?_) hc.list _;cases hv with
  |int k n=>cases k<;>first|exact .pur rfl|exact qAD _ _
  |_=>exact qAD _ _
 |_=>exact qAD _ _
theorem qTZ{a b:Addr}(h:ARel π a b)(hs:¬Shr b.block):SRel P Al Shr EqR π (markStringish a) (markStringish b):=by
 unfold markStringish;refine SRel.bndE (s:=shape a.block) (s':=shape b.block) (.shape h.block fun s=>.pure rfl) fun π' s l=>?_;cases s with
 |none=>exact .pur rfl
 |some x=>exact SRel.freeze (a:={ block:=a.block,off:=x.2 }) (b:={ block:=b.block,off:=x.2 }) ⟨l _ _ h.block,rfl,rfl⟩ hs 1 (.pure rfl)
theorem qIo(e:TypeId)(s:ByteArray):SRel P Al Shr (VR Al) π (Conv.stringToBytes e s) (Conv.stringToBytes e s):=by
 unfold Conv.stringToBytes;refine SRel.choose _ fun cap=>?_;refine SRel.bnd (qPP e (c:=_) (c':=_) ?_) fun π1 a b l1 hab=>?_
 ·refine VsRel.append ⟨rfl,fun i a b=>?_⟩ ⟨rfl,fun i a b=>?_⟩
  ·simp only[Array.getElem_map];exact .int _ _
  ·simp only[Array.getElem_replicate];exact .int _ _
 ·exact .bndE (qTZ hab.1 hab.2) fun π2 _ l2=>.pur (.slice (hab.1.mono l2) _ _)
def qNS(P:Program)(e:TypeId):Bool :=
 match P.underlying e with
 |some (.int .u8)=>true
 |_=>false
theorem qHz{e:TypeId}(h:qNS P e=true):P.underlying e=some (.int .u8):=by
 unfold qNS at h;split at h
 ·assumption
 ·cases h
def qQH(P:Program)(src dst:TypeId):Bool :=
 match P.underlying src,P.underlying dst with
 |some (.int _),some (.int _)=>true
 |some .string,some (.slice e)=>qNS P e
 |some (.slice e),some .string=>qNS P e
 |_,_=>false
theorem qTT(src dst:TypeId)(ok:qQH P src dst=true){a a':Value}(ha:VRel Al π a a'):SRel P Al Shr (VR Al) π (convert src dst a) (convert src dst a'):=by
 unfold convert;refine .bnd (qA2 src) fun π1 d0 d l1 hu=>?_;obtain⟨rfl,hu⟩:=hu;refine .bnd (qA2 dst) fun π2 e0 e l2 hv=>?_;obtain⟨rfl,hv⟩:=hv;have ha2:=(ha.mono l1).mono l2;have ha3:=ha2;unfold qQH at ok;rw[hu,hv]at ok;cases d with
 |int k =>
  cases e with
  |int j=>cases ha2<;>first|exact .pur (.int _ _)|exact qAT (by simp) _
  |_=>cases ok
 | string =>
  cases e with
  | slice el =>
   have hel:=qHz ok;cases ha2 with
   |string s =>
    refine SRel.bnd (qAc hel) fun π3 d1 d2 l3 hd=>?_;obtain⟨rfl,rfl⟩:=hd;exact qIo _ _
   |_=>exact qAT (by simp) _
  |_=>cases ok
 | slice el =>
  cases e with
  | string =>
   have hel:=qHz ok;have main:SRel P Al Shr (VR Al) π2 (underlying el >>= fun d=>match d with
     |.int .u8=>Conv.bytesToString a
     |.int .i32=>Conv.runesToString a
     | _ => stuck "Convert: a slice of what to string?") (underlying el >>= fun d => match d with
     |.int .u8=>Conv.bytesToString a'
     |.int .i32=>Conv.runesToString a'
     | _ => stuck "Convert: a slice of what to string?") := by
    refine .bnd (qAc hel) fun π3 d1 d2 l3 hd=>?_;obtain⟨rfl,rfl⟩:=hd;exact qIn (ha3.mono l3)
   cases ha2<;>first|exact main|exact .pur (.string _)|(cases a'<;>first|exact main|cases ‹qA0 _=true›)
  |_=>cases ok
 |_=>cases e<;>cases ok
end
