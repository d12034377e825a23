/-
  Parts of the proof: L6.
-/
import Derived.Test.YtclpcnignheijaaGreatDoorL5
namespace Go.Proofs.YtclpcnignheijaaGreatDoor
open Go
section
variable{P:Program}{Al:FuncId->Prop}{Shr:Nat->Prop}{π:Ren P.globals.size}
abbrev qXH{G:Nat}:Ren G->Option (Addr×Bool)->Option (Addr×Bool)->Prop:=fun π a b=>(a=none/\b=none)\/∃x y l,a=some (x,l)/\b=some (y,l)/\ARel π x y
theorem qRa{r r':Nat}(h:π r r'):SRel P Al Shr qXH π (numberAt r) (numberAt r'):=by
 unfold numberAt;refine SRel.bndE (s:=shape r) (s':=shape r') (.shape h fun s=>.pure rfl) fun π' s l=>?_;split
 ·exact .pur (.inl ⟨rfl,rfl⟩)
 ·refine SRel.getObj (l _ _ h) fun o o' ho=>?_;cases ho with
  |number k ha=>exact .pur (.inr ⟨_,_,k,rfl,rfl,ha⟩)
  |iter s n=>exact .pur (.inl ⟨rfl,rfl⟩)
  |view ha u=>exact .pur (.inl ⟨rfl,rfl⟩)
abbrev qXE{G:Nat}:Ren G->Addr×Bool->Addr×Bool->Prop:=fun π a b=>∃x y l,a=(x,l)/\b=(y,l)/\ARel π x y
theorem qDP{a b:Addr}(h:ARel π a b):SRel P Al Shr qXE π (behindNumber a) (behindNumber b):=by
 unfold behindNumber;refine .bnd (qRa h.block) fun π' x y l hxy=>?_;rcases hxy with⟨rfl,rfl⟩|⟨x,y,k,rfl,rfl,hxy⟩
 ·exact .pur ⟨a,b,false,rfl,rfl,h.mono l⟩
 ·exact .pur ⟨x,y,k,rfl,rfl,hxy⟩
abbrev qWZ{G:Nat}:Ren G->Option (Addr×TypeId)->Option (Addr×TypeId)->Prop:=fun π a b=>(a=none/\b=none)\/∃x y u,a=some (x,u)/\b=some (y,u)/\ARel π x y
theorem qKP{r r':Nat}(h:π r r'):SRel P Al Shr qWZ π (viewAt r) (viewAt r'):=by
 unfold viewAt;refine SRel.bndE (s:=shape r) (s':=shape r') (.shape h fun s=>.pure rfl) fun π' s l=>?_;split
 ·exact .pur (.inl ⟨rfl,rfl⟩)
 ·refine SRel.getObj (l _ _ h) fun o o' ho=>?_;cases ho with
  |view ha u=>exact .pur (.inr ⟨_,_,u,rfl,rfl,ha⟩)
  |_=>exact .pur (.inl ⟨rfl,rfl⟩)
theorem qMs{a b:Addr}(h:ARel π a b):SRel P Al Shr EqR π (noView a) (noView b):=by
 unfold noView;refine .bnd (qKP h.block) fun π' x y l hxy=>?_;rcases hxy with⟨rfl,rfl⟩|⟨x,y,u,rfl,rfl,-⟩
 ·exact .pur rfl
 ·exact qAT (by simp) _
theorem qFG{a b:Addr}(h:ARel π a b):SRel P Al Shr EqR π (byteOf a) (byteOf b):=by
 unfold byteOf;rw[h.spot,h.off];cases a.spot with
 |some s=>exact .pur rfl
 | none =>
  refine qBs ?_;refine .bndE (qMs h) fun π' _ l=>?_;refine SRel.bndE (s:=shape a.block) (s':=shape b.block) (.shape (l _ _ h.block) fun s=>.pure rfl) fun π'' s l'=>?_;cases s with
  |none=>exact qAD _ _
  | some x =>
   obtain⟨e,n⟩:=x;simp only;split
   ·exact .pur rfl
   ·split
    ·exact .pur rfl
    ·exact qAD _ _
theorem qHC{a b c d:Addr}(h:ARel π a b)(k:ARel π c d):(b.block==d.block)=(a.block==c.block):=by
 have:=π.inj h.block k.block;rw[Bool.eq_iff_iff];simpa using this.symm
theorem qJN{a b c d:Addr}(h:ARel π a b)(k:ARel π c d):SRel P Al Shr EqR π (Op.twoPlaces a c) (Op.twoPlaces b d):=by
 unfold Op.twoPlaces;refine qBs ?_;have e1:(b.block != d.block)=(a.block != c.block):=by unfold bne;rw[qHC h k]
 have e2:(decide (b.block ≥ P.globals.size))=decide (a.block ≥ P.globals.size):=by
  have:=π.ok h.block;rw[Bool.eq_iff_iff];simp only[decide_eq_true_eq];omega
 rw[e1,e2];split
 ·exact qAT (by simp) _
 ·exact .bndE (qFG h) fun π' x l=>.bndE (qFG (k.mono l)) fun _ _ _=>.pur rfl
theorem qTQ(i:IntKind){a b c d:Addr}(h:ARel π a b)(k:ARel π c d):SRel P Al Shr (VR Al) π (Op.addrSub i a c) (Op.addrSub i b d):=by
 unfold Op.addrSub;exact .bndE (qJN h k) fun π' x l=>.pur (.int _ _)
theorem qTO(op:BinOp){a b c d:Addr}(h:ARel π a b)(k:ARel π c d):SRel P Al Shr (VR Al) π (Op.addrCmp op a c) (Op.addrCmp op b d):=by
 unfold Op.addrCmp;refine .bndE (qJN h k) fun π' x l=>?_;cases op<;>first|exact .pur (.bool _)|exact qAT (by simp) _
theorem qTP(i:IntKind)(n:Int){a b:Addr}(h:ARel π a b):SRel P Al Shr (VR Al) π (Op.addrMod i a n) (Op.addrMod i b n):=by
 unfold Op.addrMod;refine SRel.bndE (s:=shape a.block) (s':=shape b.block) (.shape h.block fun s=>.pure rfl) fun π'' s l'=>?_;cases s with
 |none=>exact qAT (by simp) _
 |some x =>
  obtain⟨e,m⟩:=x;refine .bndE (qBf e) fun π3 i l3=>?_;simp only;split
  ·exact qAT (by simp) _
  ·exact .bndE (qFG ((h.mono l').mono l3)) fun _ _ _=>.pur (.int _ _)
abbrev qXI{G:Nat}:Ren G->Value->Value->Prop:=fun π v v'=>∃a b,v=.pointer (some a)/\v'=.pointer (some b)/\ARel π a b
theorem qJO(t:TypeId){x x' y y':Value}(hx:VRel Al π x x')(hy:VRel Al π y y'):SRel P Al Shr qXI π (Builtin.unsafeAdd_ #[] t #[x,y]) (Builtin.unsafeAdd_ #[] t #[x',y']):=by
 unfold Builtin.unsafeAdd_;cases hx with
 | nilPtr =>
  refine SRel.bndE (qFF hy) fun π1 n l1=>?_;by_cases hn:n=0
  ·simp only[hn,if_true];exact qAT (by simp) _
  ·by_cases hm:n<0
   ·simp only[hn,hm,if_true,if_false];exact qAT (by simp) _
   ·simp only[hn,hm,if_false];exact qAT (by simp) _
 | pointer h =>
  refine SRel.bndE (qFF hy) fun π1 n l1=>?_;have h1:=h.mono l1;by_cases hn:n=0
  ·simp only[hn,if_true];refine .bnd (qKP h1.block) fun π' x y l hxy=>?_;rcases hxy with⟨rfl,rfl⟩|⟨x,y,u,rfl,rfl,-⟩
   ·exact .pur ⟨_,_,rfl,rfl,h1.mono l⟩
   ·exact qAT (by simp) _
  ·by_cases hm:n<0
   ·simp only[hn,hm,if_true,if_false];exact qAT (by simp) _
   ·simp only[hn,hm,if_false];refine SRel.bndE (s:=shape _) (s':=shape _) (.shape h1.block fun s=>.pure rfl) fun π'' s l'=>?_;cases s with
    |none=>exact qAT (by simp) _
    |some x =>
     obtain⟨e,m⟩:=x;refine qBs ?_;rw[h.off];split
     ·exact .pur ⟨_,_,rfl,rfl,⟨l' _ _ h1.block,rfl,h.spot⟩⟩
     ·exact qAT (by simp) _
 |_=>exact qAD _ _
theorem qRR{a b:Addr}(h:ARel π a b)(l:Bool):SRel P Al Shr (VR Al) π (asNumber a l) (asNumber b l):=by
 unfold asNumber;exact SRel.newObj (.number l h) fun r r' π' _ hp=>.pure (.pointer ⟨hp,rfl,rfl⟩)
theorem qEN(t:TypeId){x x' y y':Value}(hx:VRel Al π x x')(hy:VRel Al π y y'):SRel P Al Shr (VR Al) π (movedNumber t x y) (movedNumber t x' y'):=by
 unfold movedNumber;refine .bndE (qAv t) fun π1 d l1=>?_;have hx1:=hx.mono l1;have hy1:=hy.mono l1;by_cases hd:d=.unsafePointer
 ·subst hd;exact qAT (by simp) _
 simp only[Bool.false_eq_true,if_false];cases hx1 with
 |pointer h =>
  refine SRel.bnd (qDP h) fun π2 a b l2 hab=>?_;obtain⟨x,y,k,rfl,rfl,hab⟩:=hab;refine .bnd (qJO t (.pointer hab) (hy1.mono l2)) fun π3 u u' l3 hu=>?_;obtain⟨a,b,rfl,rfl,hu⟩:=hu;exact qRR hu _
 |lost a=>exact qAD _ _
 |_=>exact(qJO t (hx.mono l1) hy1).mono fun π a b l h=>by obtain⟨p,q,rfl,rfl,h⟩:=h;exact .pointer h
def qFn(P:Program)(t:TypeId):Bool :=
 match P.underlying t with
 |some .unsafePointer=>false
 |_=>true
theorem qU6(t:TypeId)(ht:qFn P t=true){x x' y y':Value}(hx:VRel Al π x x')(hy:VRel Al π y y') :
  SRel P Al Shr (VR Al) π (do if (<-underlying t) matches .unsafePointer then movedPointer t x y else movedNumber t x y) (do if (<-underlying t) matches .unsafePointer then movedPointer t x' y' else movedNumber t x' y'):=by
 refine .bnd (qA2 t) fun π1 d0 d l1 hu=>?_;obtain⟨rfl,hu⟩:=hu;have hd:¬d=.unsafePointer:=by
  rintro rfl;unfold qFn at ht;rw[hu]at ht;cases ht
 split
 ·exact absurd rfl hd
 ·exact qEN t (hx.mono l1) (hy.mono l1)
theorem qLo(op:BinOp)(k:IntKind)(a b:Int):SRel P Al Shr (VR Al) π (Op.intArith op k a b) (Op.intArith op k a b):=by
 unfold Op.intArith;split<;>first|exact .pur (.int _ _)|exact qAD _ _
theorem qVD(op:BinOp)(k:IntKind)(a b:Int):SRel P Al Shr (VR Al) π (Op.intDiv op k a b) (Op.intDiv op k a b):=by
 unfold Op.intDiv;split
 ·exact sError _
 ·split<;>first|exact .pur (.int _ _)|exact qAD _ _
theorem qNx(op:BinOp)(k:IntKind)(a b:Int):SRel P Al Shr (VR Al) π (Op.intBits op k a b) (Op.intBits op k a b):=by
 unfold Op.intBits;cases op<;>first|exact .pur (.int _ _)|exact qAD _ _
theorem qWN(op:BinOp)(k:IntKind)(a:Int)(l:IntKind)(b:Int):SRel P Al Shr (VR Al) π (Op.shift op k a l b) (Op.shift op k a l b):=by
 unfold Op.shift;split
 ·exact sError _
 ·cases op<;>first|exact .pur (.int _ _)|exact qAD _ _
theorem qVC(op:BinOp)(a b:Int):SRel P Al Shr (VR Al) π (Op.intCmp op a b) (Op.intCmp op a b):=by
 unfold Op.intCmp;cases op<;>first|exact .pur (.bool _)|exact qAD _ _
theorem qLs(op:BinOp)(a b:ByteArray):SRel P Al Shr (VR Al) π (Op.stringOp op a b) (Op.stringOp op a b):=by
 unfold Op.stringOp;cases op<;>first|exact .pur (.bool _)|exact qAD _ _|skip
 simp only;split
 ·exact qAT (by simp) _
 ·exact .pur (.string _)
theorem qCZ(op:BinOp)(t:TypeId)(k k':IntKind)(a b:Int):SRel P Al Shr (VR Al) π (binOp op t (.int k a) (.int k' b)) (binOp op t (.int k a) (.int k' b)):=by
 unfold binOp;cases op<;>simp only<;>first
  |exact qWN _ _ _ _ _
  | (split
     ·exact qAD _ _
     ·first|exact qLo _ _ _ _|exact qVD _ _ _ _|exact qNx _ _ _ _|exact qVC _ _ _)
theorem qCa(op:BinOp)(t:TypeId)(a b:ByteArray):SRel P Al Shr (VR Al) π (binOp op t (.string a) (.string b)) (binOp op t (.string a) (.string b)):=by
 unfold binOp;cases op<;>exact qLs _ _ _
def qSp(P:Program)(t:TypeId)(x y:Operand):Bool :=
 match P.underlying t with
 |some .bool|some .string|some (.slice _)|some (.func ..)|some (.map ..)=>true
 |some (.chan ..)=>(match x with|.const (.chan none)=>true|_=>false)||(match y with|.const (.chan none)=>true|_=>false)
 | some (.int _) => (P.info? t).all fun i => match i.desc with | .named "sync.copyChecker" _ => false | _ => true
 |some (.pointer _)=>(match x with|.const (.pointer none)=>true|_=>false)||(match y with|.const (.pointer none)=>true|_=>false)
 |some (.interface _)=>(match x with|.const .nilIface=>true|_=>false)||(match y with|.const .nilIface=>true|_=>false)
 |_=>false
theorem qUI(t:TypeId)(x y:Operand)(ok:qSp P t x y=true){a a' b b':Value}(ha:VRel Al π a a')(hb:VRel Al π b b')
  (hx:∀v,x=.const v->a=v) (hy:∀v,y=.const v->b=v):SRel P Al Shr EqR π (Op.equal t a b) (Op.equal t a' b'):=by
 unfold Op.equal Op.maxDepth Op.equalIn;refine .bnd (qA2 t) fun π1 d0 d l1 hu=>?_;obtain⟨rfl,hu⟩:=hu;have ha1:=ha.mono l1;have hb1:=hb.mono l1;unfold qSp at ok;rw[hu]at ok;cases d with
 |bool=>cases ha1<;>cases hb1<;>first|exact .pur rfl|exact qAD _ _
 |string=>cases ha1<;>cases hb1<;>first|exact .pur rfl|exact qAD _ _
 |slice e=>cases ha1<;>cases hb1<;>first|exact .pur rfl|exact qAD _ _
 |func _ _ _=>cases ha1<;>cases hb1<;>first|exact .pur rfl|exact qAD _ _
 |map _ _=>cases ha1<;>cases hb1<;>first|exact .pur rfl|exact qAD _ _
 | chan _ _ =>
  have:a=.chan none\/b=.chan none:=by
   simp only[Bool.or_eq_true]at ok;rcases ok with h|h
   ·split at h<;>first|exact .inl (hx _ rfl)|cases h
   ·split at h<;>first|exact .inr (hy _ rfl)|cases h
  rcases this with rfl|rfl
  ·cases ha1;cases hb1<;>first|exact .pur rfl|exact qAD _ _
  ·cases hb1;cases ha1<;>first|exact .pur rfl|exact qAD _ _
 | pointer e =>
  have:a=.pointer none\/b=.pointer none:=by
   simp only[Bool.or_eq_true]at ok;rcases ok with h|h
   ·split at h<;>first|exact .inl (hx _ rfl)|cases h
   ·split at h<;>first|exact .inr (hy _ rfl)|cases h
  rcases this with rfl|rfl
  ·cases ha1;cases hb1<;>first|exact .pur rfl|exact qAD _ _
  ·cases hb1;cases ha1<;>first|exact .pur rfl|exact qAD _ _
 | interface ms =>
  have:a=.nilIface\/b=.nilIface:=by
   simp only[Bool.or_eq_true]at ok;rcases ok with h|h
   ·split at h<;>first|exact .inl (hx _ rfl)|cases h
   ·split at h<;>first|exact .inr (hy _ rfl)|cases h
  rcases this with rfl|rfl
  ·cases ha1;cases hb1<;>first|exact .pur rfl|exact qAD _ _
  ·cases hb1;cases ha1<;>first|exact .pur rfl|exact qAD _ _
 | int k =>
  have hn : ∀ i, P.info? t = some i → ∀ u, i.desc ≠ .named "sync.copyChecker" u := by
   intro i hi u e;simp only[hi,Option.all_some,e]at ok;cases ok
  cases ha1 with
  | int i n =>
   cases hb1 with
   |int j m =>
    simp only;split
    ·exact .pur rfl
    ·exact qAD _ _
   |pointer h =>
    by_cases h0:n=0
    ·subst h0;exact .pur rfl
    ·split<;>first|exact qAT (by simp) _|(exfalso;simp_all;done)
   |nilPtr=>split<;>first|exact qAT (by simp) _|(exfalso;simp_all;done)
   |_=>exact qAD _ _
  | pointer h =>
   cases hb1 with
   | pointer h' =>
    refine SRel.bnd (qDP h) fun π3 x x' l3 hx=>?_;obtain⟨x,x',lx,rfl,rfl,hx⟩:=hx;refine .bnd (qDP (h'.mono l3)) fun π4 y y' l4 hy=>?_;obtain⟨y,y',ly,rfl,rfl,hy⟩:=hy;have hx4:=hx.mono l4;refine qBs ?_;simp only;rw[qHC hx4 hy,show decide (x'.block<P.globals.size)=decide (x.block<P.globals.size) from by have:=π4.ok hx4.block;rw[Bool.eq_iff_iff];simp only[decide_eq_true_eq];omega];split
    ·exact .bndE (qFG hx4) fun π5 u l5=>.bndE (qFG (hy.mono l5)) fun _ _ _=>.pur rfl
    ·refine .bnd (qEO t) fun π5 i j l5 hi=>?_;obtain⟨rfl,hi⟩:=hi;split
     ·rename_i h;exact absurd h (hn _ hi _)
     ·exact qAT (by simp) _
   |int j m =>
    by_cases h0:m=0
    ·subst h0;exact .pur rfl
    ·split<;>first|exact qAT (by simp) _|(exfalso;simp_all;done)
   |_=>exact qAT (by simp) _
  |nilPtr=>cases hb1<;>exact qAT (by simp) _
  |_=>cases hb1<;>first|exact qAD _ _|exact qAT (by simp) _
 |_=>cases ok
end
