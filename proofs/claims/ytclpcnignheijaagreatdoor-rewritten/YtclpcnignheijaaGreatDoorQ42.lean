/-
  Parts of the proof: LC, LD.
-/
import Derived.Test.YtclpcnignheijaaGreatDoorLB
namespace Go.Proofs.YtclpcnignheijaaGreatDoor
open Go
section
variable{P:Program}{Al:FuncId->Prop}{Shr:Nat->Prop}{π:Ren P.globals.size}
theorem qMt(xt:TypeId){t:TypeId}(ok:qEc P t=true){x x':Value}(hx:VRel Al π x x'):SRel P Al Shr (VR Al) π (Instr.typeAssert x xt t true) (Instr.typeAssert x' xt t true):=by
 have pair:∀{π:Ren P.globals.size}{v v':Value}(c:Bool),VRel Al π v v'->VRel Al π (.tuple #[v,.bool c]) (.tuple #[v',.bool c]):=fun c h=>.tuple rfl fun i a b=>by
  have:i=0\/i=1:=by simp at a;omega
  rcases this with rfl|rfl
  ·exact h
  ·exact .bool _
 have fails:∀π:Ren P.globals.size,SRel P Al Shr (VR Al) π (do pure (.tuple #[<-zeroValue t,.bool false])) (do pure (.tuple #[<-zeroValue t,.bool false])):=fun π=>.bnd (qPS ok) fun π1 z z' l hz=>.pur (pair false hz);unfold Instr.typeAssert;simp only[if_true];refine .bnd (qA2 t) fun π1 d0 d l1 hu=>?_;obtain⟨rfl,hu⟩:=hu;have hx1:=hx.mono l1;have hx0:=hx1;cases hx1 with
 |nilIface=>cases d<;>exact fails _
 | iface u h =>
  cases d with
  |interface want =>
   simp only;refine .bndE (qBf u) fun π2 i l2=>?_;split
   ·exact .pur (pair true (hx0.mono l2))
   ·exact fails _
  |_ =>
   simp only;split
   ·exact .pur (pair true h)
   ·exact fails _
 |_=>cases d<;>exact qAD _ _
theorem qIm{info:TypeId->Option TypeInfo}{d:TypeDesc}{i:TypeInfo}(h:Made.reckon info d=some i):i.methods=#[]:=by
 unfold Made.reckon at h;cases d with
 | pointer e =>
  simp only[Option.bind_eq_bind,Option.bind_eq_some_iff]at h;obtain⟨j,-,h⟩:=h;split at h
  ·cases h
  ·split at h
   ·cases h
   ·simp only[Option.bind_eq_some_iff,Option.pure_def,Option.some.injEq]at h;obtain⟨_,-,rfl⟩:=h;rfl
  ·simp only[Option.bind_eq_some_iff,Option.pure_def,Option.some.injEq]at h;obtain⟨_,-,rfl⟩:=h;rfl
 |slice e =>
  simp only[Option.bind_eq_bind,Option.bind_eq_some_iff,Option.pure_def,Option.some.injEq]at h;obtain⟨_,-,_,-,rfl⟩:=h;rfl
 |map k e =>
  simp only[Option.bind_eq_bind,Option.bind_eq_some_iff,Option.pure_def,Option.some.injEq]at h;obtain⟨_,-,_,-,_,-,_,-,rfl⟩:=h;rfl
 |chan dir e =>
  simp only[Option.bind_eq_bind,Option.bind_eq_some_iff,Option.pure_def,Option.some.injEq]at h;obtain⟨_,-,_,-,rfl⟩:=h;rfl
 |func ps rs v =>
  simp only[Option.bind_eq_bind,Option.bind_eq_some_iff,Option.pure_def,Option.some.injEq]at h;obtain⟨_,-,rfl⟩:=h;rfl
 |array n e =>
  simp only[Option.bind_eq_bind,Option.bind_eq_some_iff,Option.pure_def,Option.some.injEq]at h;obtain⟨_,-,_,-,rfl⟩:=h;rfl
 |struct fs =>
  simp only at h;unfold Made.reckonStruct at h;simp only[Option.bind_eq_bind,Option.bind_eq_some_iff]at h;obtain⟨s,-,h⟩:=h;split at h<;>(simp only[Option.pure_def,Option.some.injEq]at h;subst h;rfl)
 |_=>cases h
theorem qIi(T:Tables):∀(n:Nat){t:TypeId}{i:TypeInfo}(_:¬t<T.types.size)(_:Made.infoAt T n t=some i),i.methods=#[]
 |0,t,i,_,h=>by cases h
 |n+1,t,i,ht,h=>by
  unfold Made.infoAt at h;rw[if_neg ht]at h;obtain⟨d,-,hd⟩:=Option.bind_eq_some_iff.1 h;exact qIm hd
theorem qLM{t:TypeId}{i:TypeInfo}(h:P.info? t=some i):(t<P.types.size/\P.types[t]? = some i)\/i.methods=#[]:=by
 by_cases ht:t<P.types.size
 ·refine .inl ⟨ht,?_⟩;have h:(if t<P.types.size then P.types[t]? else _)=some i:=h;rw[if_pos ht]at h;exact h
 ·refine .inr ?_;have h:(if t<P.types.size then P.types[t]? else Made.infoAt P.toTables Made.depth t)=some i:=h;rw[if_neg ht]at h;exact qIi _ _ ht h
def qT6(P:Program)(al:FuncId->Bool)(name:String)(t:Nat):Bool:=match P.types[t]? with
 |none=>true
 | some i => match i.methods.find? (·.name == name) with
  |none=>true
  |some m=>m.path.isEmpty&&match m.func with
   |some (f,b)=>al f&&(b==match P.underlying t with|some (.pointer _)=>true|_=>false)
   |none=>false
def qT7(P:Program)(al:FuncId->Bool)(name:String):Bool:=(List.range P.types.size).all (qT6 P al name)
theorem qVG{al:FuncId->Bool}(hal:∀f,al f=true->Al f){name:String}(ok:qT7 P al name=true)(n:Nat)(t:TypeId){v v':Value}(hv:VRel Al π v v') :
  SRel P Al Shr (fun π a b=>∃f x x',a=(f,x)/\b=(f,x')/\Al f/\VRel Al π x x') π (method n t v name) (method n t v' name):=by
 cases n with
 |zero=>unfold method;exact qAT (by simp) _
 | succ n =>
  unfold method;refine .bnd (qEO t) fun π1 i i' l1 hi=>?_;obtain⟨rfl,hi⟩:=hi;cases hm:i'.methods.find? (·.name==name)with
  |none=>exact qAD _ _
  | some m =>
   have hk:m.path.isEmpty=true/\∃f b,m.func=some (f,b)/\al f=true/\b=(match P.underlying t with|some (.pointer _)=>true|_=>false):=by
    rcases qLM hi with⟨h1,h2⟩|h
    ·have:=List.all_eq_true.1 ok t (List.mem_range.2 h1);unfold qT6 at this;rw[h2]at this;simp only[hm,Bool.and_eq_true]at this;refine⟨this.1,?_⟩;cases hf:m.func with
     |none=>rw[hf]at this;cases this.2
     |some x =>
      obtain⟨f,b⟩:=x;rw[hf]at this;simp only[Bool.and_eq_true,beq_iff_eq]at this;exact⟨f,b,rfl,this.2.1,this.2.2⟩
    ·rw[h]at hm;simp at hm
   obtain⟨h1,f,b,h2,h3,h4⟩:=hk;have h1':m.path.toList=[]:=by simpa using h1
   have hv1:=hv.mono l1;simp only[h1',follow,h2,h1,if_true]
   show SRel P Al Shr _ π1 (receiverAt t (.val v) b (some ((name.splitOn ".").getLastD name)) >>= fun x => pure (f, x)) (receiverAt t (.val v') b (some ((name.splitOn ".").getLastD name)) >>= fun x => pure (f, x))
   refine SRel.bnd (R:=VR Al) ?_ fun π2 x x' l2 hx=>.pur ⟨f,x,x',rfl,rfl,hal f h3,hx⟩;unfold receiverAt;refine .bnd (qA2 t) fun π3 d0 d l3 hu=>?_;obtain⟨rfl,hu⟩:=hu;rw[hu]at h4;have hv3:=hv1.mono l3;cases d<;>simp only at h4<;>subst h4<;>exact .pur hv3
def qQP(P:Program)(op:BinOp)(t:TypeId):Bool:=(match op with|.eql=>true|_=>false)&&match P.underlying t with|some (.interface _)=>true|_=>false
theorem qWu(hfree:∀r,¬Shr r)(t:TypeId){a a' b b':Value}(ha:VRel Al π a a')(hb:VRel Al π b b'):SRel P Al Shr (VR Al) π (binOp .eql t a b) (binOp .eql t a' b'):=by
 have h:SRel P Al Shr (VR Al) π (do pure (.bool (<-Op.equal t a b))) (do pure (.bool (<-Op.equal t a' b'))):=.bndE (sEqualIn hfree _ t ha hb) fun _ _ _=>.pur (.bool _);cases ha<;>cases hb<;>first|exact h|exact qCZ _ _ _ _ _ _|exact qCa _ _ _ _|(rw[qVn t _ (show qA0 a'=true by assumption)];exact h)|(rw[qVo t _ (show qA0 b'=true by assumption)];exact h)
theorem qRW{t:TypeId}{ms:Array (String×TypeId)}(hu:P.underlying t=some (.interface ms)){a a' b b':Value}(ha:VRel Al π a a')(hb:VRel Al π b b'):SRel P Al Shr EqR π (Op.eqGuardIn Op.maxDepth t a b) (Op.eqGuardIn Op.maxDepth t a' b'):=by
 unfold Op.maxDepth Op.eqGuardIn;refine .bnd (qAc hu) fun π1 d1 d2 l1 hd=>?_;obtain⟨rfl,rfl⟩:=hd;cases ha with
 |nilIface =>
  cases hb with
  |lost _ hl=>cases b'<;>first|exact .pur rfl|cases hl
  |_=>exact .pur rfl
 |lost _ hl=>cases a'<;>cases hb<;>first|exact .pur rfl|cases hl|(cases b'<;>first|exact .pur rfl|cases ‹qA0 _=true›)
 |_=>cases hb<;>first|exact .pur rfl|(cases b'<;>first|exact .pur rfl|cases ‹qA0 _=true›)
theorem qRT{t:TypeId}{ms:Array (String×TypeId)}(hu:P.underlying t=some (.interface ms))(x y:Operand){a a' b b':Value}(ha:VRel Al π a a')(hb:VRel Al π b b'):SRel P Al Shr EqR π (eqGuard .eql t x y a b) (eqGuard .eql t x y a' b'):=by
 have ha0:=ha;have hb0:=hb;unfold eqGuard;simp only[Bool.not_true,Bool.false_eq_true,if_false];cases ha with
 | nilIface =>
  cases hb with
  | nilIface =>
   have go : SRel P Al Shr EqR π (do if ← Op.eqGuardIn Op.maxDepth t .nilIface .nilIface then unsupported (.noEntry "binop/eql: two nil values of an interface type with methods, neither of them the literal nil")) (do if ← Op.eqGuardIn Op.maxDepth t .nilIface .nilIface then unsupported (.noEntry "binop/eql: two nil values of an interface type with methods, neither of them the literal nil")) := by
    refine .bndE (qRW hu ha0 hb0) fun π1 u l1=>?_;split
    ·exact qAT (by simp) _
    ·exact .pur rfl
   cases x with
   |const v=>exact .pur rfl
   |_ =>
    cases y with
    |const v=>exact .pur rfl
    |_=>exact go
  |lost _ hl=>cases b'<;>first|exact .pur rfl|cases hl
  |_=>exact .pur rfl
 | agg hs h =>
  cases hb with
  | agg hs' h' =>
   simp only;refine qBs (qBs ?_);split
   ·exact .pur rfl
   ·refine .bndE (qRW hu ha0 hb0) fun π1 u l1=>?_;split
    ·exact qAT (by simp) _
    ·exact .pur rfl
  |lost _ hl=>cases b'<;>first|exact .pur rfl|cases hl
  |_=>exact .pur rfl
 |lost _ hl=>cases a'<;>cases hb<;>first|exact .pur rfl|cases hl|(cases b'<;>first|exact .pur rfl|cases ‹qA0 _=true›)
 |_=>cases hb<;>first|exact .pur rfl|(cases b'<;>first|exact .pur rfl|cases ‹qA0 _=true›)
end
section
variable{P:Program}{Al:FuncId->Prop}{Shr:Nat->Prop}{π:Ren P.globals.size}
def Halts(P:Program){α:Type}(s:Sem α):Prop:=∀v,∃y v1,s.run P v=.halt y v1
theorem Halts.bind{α β:Type}{s:Sem α}{f:α->Sem β}(h:∀a,Halts P (f a)):Halts P (s >>= f):=by
 intro v;rw[Sem.run_bind];cases s.run P v with
 |ok a w=>exact h a w
 |halt y w=>exact⟨y,w,rfl⟩
theorem qGM{α:Type}(y:Halt):Halts P (.halt y:Sem α):=fun v=>⟨y,v,rfl⟩
theorem qRS(t:TypeId):SRel P Al Shr EqR π (elemOf t) (elemOf t):=by
 unfold elemOf;refine .bnd (qA2 t) fun π2 d0 d l2 hu=>?_;obtain⟨rfl,hu⟩:=hu;cases d<;>first|exact .pur rfl|exact qAD _ _
theorem qRb{α β:Type}{R:Ren P.globals.size->α->β->Prop}:SRel P Al Shr R π (runtimePanic .panicNil:Sem α) (runtimePanic .panicNil:Sem β):=by
 unfold runtimePanic;refine qBs ?_;refine .bndE (qRS _) fun π1 e l=>?_;exact .bnd (qMr e (.agg rfl fun i a b=>absurd a (by simp))) fun π2 a b l2 hab=>.panic (.iface _ (.pointer hab))
theorem qIg{α:Type}:Halts P (runtimePanic .panicNil:Sem α):=by
 unfold runtimePanic;exact Halts.bind fun p=>Halts.bind fun e=>Halts.bind fun r=>qGM _
theorem qWL{x x':Value}(hx:VRel Al π x x'):SRel P Al Shr (VR Al) π (Instr.panic x) (Instr.panic x'):=by
 unfold Instr.panic;cases hx with
 |iface t h=>exact .panic (.iface t h)
 | nilIface =>
  refine SRel.env (fun r=>?_) fun r=>?_
  ·cases r with
   |strings env =>
    refine qBs ?_;show SRel P Al Shr (VR Al) π (if _ then _ else _) (if _ then _ else _);split
    ·exact .panic .nilIface
    ·exact qRb
   |_=>exact qAD _ _
  ·cases r with
   |strings env =>
    refine Halts.bind (s:=program) fun p=>?_;show Halts P (if _ then _ else _);split
    ·exact qGM _
    ·exact qIg
   |_=>exact qGM _
 |_=>exact qAD _ _
def qT8(P:Program)(op:BinOp)(t:TypeId):Bool:=(match op with|.neq=>true|_=>false)&&match P.underlying t with|some (.pointer _)=>true|_=>false
theorem qWx(hfree:∀r,¬Shr r)(t:TypeId){a a' b b':Value}(ha:VRel Al π a a')(hb:VRel Al π b b'):SRel P Al Shr (VR Al) π (binOp .neq t a b) (binOp .neq t a' b'):=by
 have h:SRel P Al Shr (VR Al) π (do pure (.bool (!(<-Op.equal t a b)))) (do pure (.bool (!(<-Op.equal t a' b')))):=.bndE (sEqualIn hfree _ t ha hb) fun _ _ _=>.pur (.bool _);cases ha<;>cases hb<;>first|exact h|exact qCZ _ _ _ _ _ _|exact qCa _ _ _ _|(rw[qVy t _ (show qA0 a'=true by assumption)];exact h)|(rw[qVz t _ (show qA0 b'=true by assumption)];exact h)
theorem qRX{t:TypeId}{el:TypeId}(hu:P.underlying t=some (.pointer el))(a a' b b':Value):SRel P Al Shr EqR π (Op.eqGuardIn Op.maxDepth t a b) (Op.eqGuardIn Op.maxDepth t a' b'):=by
 unfold Op.maxDepth Op.eqGuardIn;refine .bnd (qAc hu) fun π1 d1 d2 l1 hd=>?_;obtain⟨rfl,rfl⟩:=hd;exact .pur rfl
theorem qRU{t:TypeId}{el:TypeId}(hu:P.underlying t=some (.pointer el))(x y:Operand){a a' b b':Value}(ha:VRel Al π a a')(hb:VRel Al π b b'):SRel P Al Shr EqR π (eqGuard .neq t x y a b) (eqGuard .neq t x y a' b'):=by
 unfold eqGuard;simp only[Bool.not_true,Bool.false_eq_true,if_false];cases ha with
 | nilIface =>
  cases hb with
  | nilIface =>
   have go : SRel P Al Shr EqR π (do if ← Op.eqGuardIn Op.maxDepth t .nilIface .nilIface then unsupported (.noEntry "binop/eql: two nil values of an interface type with methods, neither of them the literal nil")) (do if ← Op.eqGuardIn Op.maxDepth t .nilIface .nilIface then unsupported (.noEntry "binop/eql: two nil values of an interface type with methods, neither of them the literal nil")) := by
    refine .bndE (qRX hu _ _ _ _) fun π1 u l1=>?_;split
    ·exact qAT (by simp) _
    ·exact .pur rfl
   cases x with
   |const v=>exact .pur rfl
   |_ =>
    cases y with
    |const v=>exact .pur rfl
    |_=>exact go
  |lost _ hl=>cases b'<;>first|exact .pur rfl|cases hl
  |_=>exact .pur rfl
 | agg hs h =>
  cases hb with
  | agg hs' h' =>
   simp only;refine qBs (qBs ?_);split
   ·exact .pur rfl
   ·refine .bndE (qRX hu _ _ _ _) fun π1 u l1=>?_;split
    ·exact qAT (by simp) _
    ·exact .pur rfl
  |lost _ hl=>cases b'<;>first|exact .pur rfl|cases hl
  |_=>exact .pur rfl
 |lost _ hl=>cases a'<;>cases hb<;>first|exact .pur rfl|cases hl|(cases b'<;>first|exact .pur rfl|cases ‹qA0 _=true›)
 |_=>cases hb<;>first|exact .pur rfl|(cases b'<;>first|exact .pur rfl|cases ‹qA0 _=true›)
theorem sSeenAt{a b:Addr}(h:ARel π a b):SRel P Al Shr (fun π x y=>ARel π x y) π (Conv.seenAt a) (Conv.seenAt b):=by
 unfold Conv.seenAt;refine .bnd (qKP h.block) fun π1 x y l1 hxy=>?_;rcases hxy with⟨rfl,rfl⟩|⟨x,y,u,rfl,rfl,hv⟩
 ·exact .pur (h.mono l1)
 ·simp only;rw[h.off,h.spot,hv.spot];split
  ·exact .pur hv
  ·split
   ·exact qAT (by simp) _
   ·refine qBs ?_;split
    ·refine SRel.bndE (s:=shape x.block) (s':=shape y.block) (.shape hv.block fun s=>.pure rfl) fun π2 s l2=>?_;cases s with
     |none=>exact qAT (by simp) _
     | some q =>
      obtain⟨e,n⟩:=q;simp only;rw[hv.off];split
      ·exact qAT (by simp) _
      ·split
       ·exact .pur ⟨l2 _ _ hv.block,rfl,rfl⟩
       ·exact qAT (by simp) _
    ·exact qAT (by simp) _
theorem qTR{r r':Nat}(h:π r r'):SRel P Al Shr EqR π (cellsIn r) (cellsIn r'):=by
 unfold cellsIn;refine SRel.bndE (s:=shape r) (s':=shape r') (.shape h fun s=>.pure rfl) fun π' s l=>?_;cases s with
 |some x=>exact .pur rfl
 |none =>
  refine SRel.getObj (l _ _ h) fun o o' ho=>?_;cases ho<;>exact .pur rfl
theorem qLt{a b:Addr}(h:ARel π a b)(u:TypeId)(n:Nat):SRel P Al Shr EqR π (variablesAt a u n) (variablesAt b u n):=by
 unfold variablesAt;refine qBs ?_;refine SRel.bndE (s:=shape a.block) (s':=shape b.block) (.shape h.block fun s=>.pure rfl) fun π3 s l3=>?_;cases s with
 |none=>exact .pur rfl
 |some x=>rw[h.off];exact .pur rfl
theorem qKM{a b:Addr}(h:ARel π a b)(u:TypeId):SRel P Al Shr (VR Al) π (do pure (.pointer (some ⟨<-newObj (.view a u),0,none⟩))) (do pure (.pointer (some ⟨<-newObj (.view b u),0,none⟩))) :=
 SRel.newObj (.view h u) fun _ _ _ _ hp=>.pure (.pointer ⟨hp,rfl,rfl⟩)
def qMj(P:Program)(src dst:TypeId):Bool :=
 match P.underlying src,P.underlying dst with
 |some (.pointer _),some .unsafePointer=>true
 |some .unsafePointer,some (.pointer _)=>true
 |_,_=>false
theorem qRf{src dst el:TypeId}(hs:P.underlying src=some (.pointer el))(hd:P.underlying dst=some .unsafePointer){a a':Value}(ha:VRel Al π a a'):SRel P Al Shr (VR Al) π (Conv.unsafePointer src dst a) (Conv.unsafePointer src dst a'):=by
 unfold Conv.unsafePointer;refine .bnd (qAc hs) fun π1 d1 d2 l1 h1=>?_;obtain⟨rfl,rfl⟩:=h1;refine .bnd (qAc hd) fun π2 d1 d2 l2 h2=>?_;obtain⟨rfl,rfl⟩:=h2;have ha2:=(ha.mono l1).mono l2;cases ha2 with
 |nilPtr=>exact .pur .nilPtr
 |pointer h =>
  simp only;refine .bnd (sSeenAt h) fun π3 x y l3 hxy=>?_;refine .bndE (qTR hxy.block) fun π4 n l4=>.bndE (qBb el) fun π5 m l5=>?_;have hxy5:=(hxy.mono l4).mono l5;rw[hxy5.off,hxy5.spot];cases n<;>(simp only;split<;>first|exact qKM hxy5 el|exact .pur (.pointer hxy5))
 |_=>exact qAD _ _
theorem qMu{src dst el:TypeId}(hs:P.underlying src=some .unsafePointer)(hd:P.underlying dst=some (.pointer el)){a a':Value}(ha:VRel Al π a a'):SRel P Al Shr (VR Al) π (Conv.unsafePointer src dst a) (Conv.unsafePointer src dst a'):=by
 unfold Conv.unsafePointer;refine .bnd (qAc hs) fun π1 d1 d2 l1 h1=>?_;obtain⟨rfl,rfl⟩:=h1;refine .bnd (qAc hd) fun π2 d1 d2 l2 h2=>?_;obtain⟨rfl,rfl⟩:=h2;have ha2:=(ha.mono l1).mono l2;cases ha2 with
 |nilPtr=>exact .pur .nilPtr
 | pointer h =>
  simp only;refine .bnd (sSeenAt h) fun π3 x y l3 hxy=>?_;refine .bndE (qBb el) fun π4 m l4=>.bndE (qLt (hxy.mono l4) el 1) fun π5 t l5=>?_;have hxy5:=(hxy.mono l4).mono l5;split
  ·exact .pur (.pointer hxy5)
  ·refine SRel.bndE (s:=shape x.block) (s':=shape y.block) (.shape hxy5.block fun s=>.pure rfl) fun π6 s l6=>?_;cases s with
   |none=>exact qAT (by simp) _
   |some q =>
    refine qBs (qBs ?_);split
    ·exact qAT (by simp) _
    ·exact qKM (hxy5.mono l6) el
 |_=>exact qAD _ _
theorem qTS(src dst:TypeId)(ok:qMj P src dst=true){a a':Value}(ha:VRel Al π a a'):SRel P Al Shr (VR Al) π (convert src dst a) (convert src dst a'):=by
 unfold convert;unfold qMj at ok;split at ok
 ·rename_i el hs hd;refine .bnd (qAc hs) fun π1 d1 d2 l1 h1=>?_;obtain⟨rfl,rfl⟩:=h1;refine .bnd (qAc hd) fun π2 d1 d2 l2 h2=>?_;obtain⟨rfl,rfl⟩:=h2;exact qRf hs hd ((ha.mono l1).mono l2)
 ·rename_i el hs hd;refine .bnd (qAc hs) fun π1 d1 d2 l1 h1=>?_;obtain⟨rfl,rfl⟩:=h1;refine .bnd (qAc hd) fun π2 d1 d2 l2 h2=>?_;obtain⟨rfl,rfl⟩:=h2;exact qMu hs hd ((ha.mono l1).mono l2)
 ·cases ok
theorem qPR(ts:Array TypeId)(t:TypeId){args args':Array Value}(h:VsRel Al π args args')(h1:args.size=1):SRel P Al Shr (VR Al) π (Builtin.unsafeSliceData_ ts t args) (Builtin.unsafeSliceData_ ts t args'):=by
 obtain⟨l⟩:=args;obtain⟨l'⟩:=args';have hs:=h.size
 match l,l',h1,hs,h with
 | [x], [x'], _, _, h =>
  have hx:VRel Al π x x':=h.get 0 (by simp) (by simp);cases hx with
  | @slice a b ha n c =>
   show SRel P Al Shr (VR Al) π (ite (c≠0) _ _) (ite (c≠0) _ _);by_cases hc:c≠0
   ·rw[if_pos hc,if_pos hc];exact .pur (.pointer ha)
   ·rw[if_neg hc,if_neg hc];refine .bnd (qKP ha.block) fun π1 x y l1 hxy=>?_;rcases hxy with⟨rfl,rfl⟩|⟨x,y,u,rfl,rfl,-⟩
    ·simp only[Option.isSome_none,Bool.false_eq_true,if_false];exact .bndE (qRS t) fun π2 e l2=>qKM ((ha.mono l1).mono l2) e
    ·simp only[Option.isSome_some,if_true];exact .pur (.pointer (ha.mono l1))
  |nilSlice=>exact .pur .nilPtr
  |_=>exact qAD _ _
end
