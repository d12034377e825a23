/-
  Parts of the proof: L9.
-/
import Derived.Test.YtclpcnignheijaaGreatDoorQ42
namespace Go.Proofs.YtclpcnignheijaaGreatDoor
open Go
section
variable{P:Program}{Al:FuncId->Prop}{Shr:Nat->Prop}{π:Ren P.globals.size}
theorem qWM(t:TypeId)(ht:P.underlying t=some .string){x x':Value}(hx:VRel Al π x x'):SRel P Al Shr (VR Al) π (Instr.range t x) (Instr.range t x'):=by
 unfold Instr.range;refine .bnd (qAc ht) fun π1 d1 d2 l1 hd=>?_;obtain⟨rfl,rfl⟩:=hd;have hx1:=hx.mono l1;cases hx1 with
 |string s=>exact SRel.newObj (.iter s 0) fun r r' π' l hp=>.pure (.pointer ⟨hp,rfl,rfl⟩)
 |_=>exact qAD _ _
theorem qWy(t:TypeId){x x':Value}(hx:VRel Al π x x'):SRel P Al Shr (VR Al) π (Instr.next x true t) (Instr.next x' true t):=by
 unfold Instr.next;have over:∀π:Ren P.globals.size,VRel Al π (.tuple #[.bool false]) (.tuple #[.bool false]):=fun π=>.tuple rfl fun i a b=>by
  have:i=0:=by simpa using a
  subst this;exact .bool _
 cases hx with
 | @pointer a b h =>
  obtain⟨r,off,sp⟩:=a;obtain⟨r',off',sp'⟩:=b;obtain⟨h1,h2,h3⟩:=h;simp only at h1 h2 h3;subst h2 h3;by_cases h0:off'=0
  ·subst h0;refine SRel.getObj h1 fun o o' ho=>?_;cases ho with
   |view ha u=>exact qAD _ _
   |number l ha=>exact qAD _ _
   | iter s n =>
    simp only;show SRel P Al Shr (VR Al) π (if n<s.size then _ else _) (if n<s.size then _ else _);split
    ·refine SRel.setObj h1 (.iter _ _) (.pure (.tuple rfl fun i a b=>?_));have:i=0\/i=1\/i=2:=by simp at a;omega
     rcases this with rfl|rfl|rfl<;>constructor
    ·exact .pur (over π)
  ·split
   ·rename_i h;simp only[Value.pointer.injEq,Option.some.injEq,Addr.mk.injEq]at h;exact absurd h.2.1 h0
   ·exact qAD _ _
 |_=>exact qAD _ _
inductive NextR (Al:FuncId->Prop) (π:Ren P.globals.size):Next->Next->Prop
 |value {v v':Value} (h:VRel Al π v v'):NextR Al π (.value v) (.value v')
 |skip:NextR Al π .skip .skip
 |enter {f:FuncId} (hf:Al f) (hb:∃fn c,P.funcs[f]? = some fn/\fn.body=some c) {a a':Array Value} (h:VsRel Al π a a'):NextR Al π (.enter f a) (.enter f a')
abbrev NR(Al:FuncId->Prop):Ren P.globals.size->Next->Next->Prop:=fun π a b=>NextR Al π a b
structure FnGood(P:Program)(Al:FuncId->Prop)(Shr:Nat->Prop)(Gl:Nat->Prop)(f:FuncId):Prop where
 fn : ∃ fn, P.funcs[f]? = some fn ∧ (fn.name == "runtime.NumGoroutine") = false ∧
  (fn.body.isNone=false\/(fn.body.isNone=true/\(Extern.findNext fn).isNone=true/\∃e,Extern.find fn=some e /\
   ∀(π:Ren P.globals.size) a a',(∀g,Gl g->π g g)->VsRel Al π a a'->SRel P Al Shr (VR Al) π (e a) (e a')))
theorem qLn{Gl:Nat->Prop}(good:∀f,Al f->FnGood P Al Shr Gl f)(hg:∀g,Gl g->π g g){f:FuncId}(hf:Al f){a a':Array Value}(h:VsRel Al π a a'):SRel P Al Shr (NR Al) π (callFunc f a) (callFunc f a'):=by
 obtain⟨fn,hfn,hname,hb⟩:=(good f hf).fn;unfold callFunc;refine qBs ?_;rw[hfn];simp only[hname,Bool.false_eq_true,if_false];rcases hb with hb|⟨hb,hn,e,he,hr⟩
 ·simp only[hb,Bool.false_eq_true,if_false];exact .pur (.enter hf ⟨fn,by cases h:fn.body with|none=>rw[h]at hb;cases hb|some c=>exact⟨c,hfn,rfl⟩⟩ h)
 ·simp only[hb,if_true];refine .extern f ?_;have hn':Extern.findNext fn=none:=by simpa using hn
  simp only[hn',he,Sem.bind];exact SRel.bnd (hr π a a' hg h) fun π1 v v' l hv=>.pur (.value hv)
theorem qQt{β:Type}{f g:β->Value}{xs:Array β}(h:∀x∈xs,VRel Al π (f x) (g x)):VsRel Al π (xs.map f) (xs.map g) :=
 ⟨by simp,fun i a b=>by simp only[Array.getElem_map];exact h _ (by simp)⟩
theorem qNi{f g:Operand->Value}{xs:Array (Nat×Operand)}(h:∀x∈xs,VRel Al π (f x.2) (g x.2)):PRel Al π (xs.map fun(i,x)=>(i,f x)).toList (xs.map fun(i,x)=>(i,g x)).toList:=by
 rw[Array.toList_map,Array.toList_map];have:∀l:List (Nat×Operand),(∀x∈l,VRel Al π (f x.2) (g x.2))->PRel Al π (l.map fun(i,x)=>(i,f x)) (l.map fun(i,x)=>(i,g x)):=by
  intro l
  induction l with
  |nil=>intro _;exact .nil
  |cons x l ih=>intro h;exact .cons x.1 (h x (by simp)) (ih fun y hy=>h y (by simp[hy]))
 exact this _ fun x hx=>h x (by simpa using hx)
structure Cfg where
 al:FuncId->Bool
 fz:Bool
instance:CoeFun Cfg (fun _=>FuncId->Bool):=⟨Cfg.al⟩
def qC2(al:Cfg)(gl:Nat->Bool):Operand->Bool
 |.tmp _=>true
 |.const v=>qNk v
 |.global g=>gl g
 |.func f=>al f
def qP6(P:Program)(al:FuncId->Bool)(fz:Bool)(c:Call):Bool :=
 match c.callee with
 |.invoke _ name=>qT7 P al name
 |.value _=>true
 |.builtin .len|.builtin .cap=>qQl P c.argTypes
 |.builtin .append=>qEd P c.argTypes
 |.builtin .copy=>true
 |.builtin .max=>c.args.size==2
 |.builtin .unsafeString=>fz&&c.args.size==2
 |.builtin .unsafeSliceData=>c.args.size==1
 |_=>false
def qLY(P:Program)(al:Cfg):Op->Bool
 |.move _|.assign _|.pick ..|.box ..|.load ..|.store ..|.nilCheck _|.unOp ..|.makeInterface ..|.slice ..|.field ..|.indexAddr ..|.index ..|.extract ..=>true
 |.alloc t|.build t _=>qEc P t
 |.buildSlice t _ _|.makeSlice t _ _=>qGh P t
 |.binOp op t x y _=>qSX P op t x y||(al.fz&&(qQP P op t||qT8 P op t))
 |.typeAssert _ _ t c=>c&&qEc P t
 |.convert src dst _=>qQH P src dst||qMj P src dst
 |.makeFunc (.func f) _ _=>al f
 |.fieldAddr t _ f=>qHu P t f
 |.range t _=>(match P.underlying t with|some .string=>true|_=>false)
 |.next _ s=>s
 |.panic _=>true
 |.call c=>qP6 P al al.fz c
 |_=>false
def qFZ(P:Program):Op->Bool
 |.load t (.global g)=>g==deadN&&(match P.underlying t with|some (.pointer _)=>true|_=>false)
 |_=>false
theorem qBR{s s':Sem Value}(h:SRel P Al Shr (VR Al) π s s'):SRel P Al Shr (NR Al) π (do pure (.value (<-s))) (do pure (.value (<-s'))):=.bnd h fun _ _ _ _ hv=>.pur (.value hv)
theorem qW0{s s':Sem Unit}(h:SRel P Al Shr EqR π s s'):SRel P Al Shr (NR Al) π (do s;pure .skip) (do s';pure .skip):=.bndE h fun _ _ _=>.pur .skip
theorem qRA{f g:Operand->Value}{o:Option Operand}(h:∀x∈o,VRel Al π (f x) (g x)):ORel Al π (o.map f) (o.map g):=by
 cases o with
 |none=>exact .none
 |some x=>exact .some (h x rfl)
theorem qWw{x x' y y':Value}(hx:VRel Al π x x')(hy:VRel Al π y y'):SRel P Al Shr (VR Al) π (Builtin.max2 x y) (Builtin.max2 x' y'):=by
 unfold Builtin.max2;cases hx with
 | int k a =>
  cases hy with
  |int j b =>
   simp only
   repeat' (first|exact .pur (.int _ _)|exact qAD _ _|split)
  |pointer h=>exact qAT (by simp) _
  |_=>exact qAD _ _
 |string a =>
  cases hy with
  |string b=>exact .bnd (qLs .geq a b) fun π1 u u' l1 hu=>.bndE (qRQ hu) fun π2 t l2=>.pur (.string _)
  |pointer h=>exact qAT (by simp) _
  |_=>exact qAD _ _
 |pointer h=>cases hy<;>exact qAT (by simp) _
 |_=>cases hy<;>first|exact qAD _ _|exact qAT (by simp) _
theorem qXw(ts:Array TypeId)(t:TypeId){args args':Array Value}(h:VsRel Al π args args')(h2:args.size=2):SRel P Al Shr (VR Al) π (Builtin.max_ ts t args) (Builtin.max_ ts t args'):=by
 obtain⟨l⟩:=args;obtain⟨l'⟩:=args';have hs:=h.size
 match l,l',h2,hs,h with
 |[x,y],[x',y'],_,_,h =>
  have hx:VRel Al π x x':=h.get 0 (by simp) (by simp);have hy:VRel Al π y y':=h.get 1 (by simp) (by simp);unfold Builtin.max_;simp only[List.foldlM_cons,List.foldlM_nil];exact .bnd (qWw hx hy) fun π1 u u' l1 hu=>.pur hu
theorem qJL:∀(n:Nat){π:Ren P.globals.size}{a b:Addr}(_:ARel π a b)(acc:ByteArray),SRel P Al Shr EqR π (loadBytes a acc n) (loadBytes b acc n)
 |0,_,_,_,_,acc=>.pur rfl
 |n+1,π,a,b,h,acc=>by
  unfold loadBytes;refine SRel.load h fun v v' hv=>?_;cases hv with
  |int k m=>cases k<;>first|exact qJL n (h.add 1) _|exact qAD _ _
  |_=>exact qAD _ _
theorem qKO(ts:Array TypeId)(t:TypeId){args args':Array Value}(hfree:∀r,¬Shr r)(h:VsRel Al π args args')(h2:args.size=2):SRel P Al Shr (VR Al) π (Builtin.unsafeString_ ts t args) (Builtin.unsafeString_ ts t args'):=by
 obtain⟨l⟩:=args;obtain⟨l'⟩:=args';have hs:=h.size
 match l,l',h2,hs,h with
 | [x, y], [x', y'], _, _, h =>
  have hx:VRel Al π x x':=h.get 0 (by simp) (by simp);have hy:VRel Al π y y':=h.get 1 (by simp) (by simp);cases hx with
  | nilPtr =>
   refine SRel.bndE (qFF hy) fun π1 n l1=>?_;cases ts[0]? with
   |none=>exact qAD _ _
   | some pt =>
    simp only;split
    ·exact sError _
    ·split
     ·exact qAT (by simp) _
     ·split
      ·exact .pur (.string _)
      ·exact sError _
  | @pointer a b hp =>
   refine SRel.bndE (qFF hy) fun π1 n l1=>?_;cases ts[0]? with
   |none=>exact qAD _ _
   | some pt =>
    simp only;split
    ·exact sError _
    ·split
     ·exact qAT (by simp) _
     ·split
      ·exact .pur (.string _)
      ·refine SRel.bndE (s:=elemOf pt) (s':=elemOf pt) ?_ fun π2 e l2=>?_
       ·unfold elemOf;refine .bnd (qA2 pt) fun π2 d0 d l2 hu=>?_;obtain⟨rfl,hu⟩:=hu;cases d<;>first|exact .pur rfl|exact qAD _ _
       ·have hp2:=(hp.mono l1).mono l2;refine SRel.bndE (s:=variablesAt a e n.toNat) (s':=variablesAt b e n.toNat) ?_ fun π3 t l3=>?_
        ·unfold variablesAt;refine qBs ?_;refine SRel.bndE (s:=shape a.block) (s':=shape b.block) (.shape hp2.block fun s=>.pure rfl) fun π3 s l3=>?_;cases s with
         |none=>exact .pur rfl
         |some x=>rw[hp2.off];exact .pur rfl
        ·split
         ·refine .bndE (qJL _ (hp2.mono l3) _) fun π4 s l4=>?_;exact SRel.freeze ((hp2.mono l3).mono l4) (hfree _) _ (.pure (.string _))
         ·exact qAT (by simp) _
  |_=>exact qAD _ _
theorem qU9{Gl:Nat->Prop}{al:Cfg}(hal:∀f,al f=true->Al f)(hfree:al.fz=true->∀r,¬Shr r)(good:∀f,Al f->FnGood P Al Shr Gl f)(hg:∀g,Gl g->π g g){ρ ρ':Operand->Value}{o:Oper}(ok:qLY P al o.op=true)
  (hρ:∀x∈o.op.operands,VRel Al π (ρ x) (ρ' x)) (hc:∀v,ρ (.const v)=v):SRel P Al Shr (NR Al) π (execOp ρ o) (execOp ρ' o):=by
 unfold execOp;generalize hop:o.op=op at ok hρ ⊢;cases op with
 |move x=>exact .pur (.value (hρ x (by simp[Op.operands])))
 |assign x=>exact .pur (.value (hρ x (by simp[Op.operands])))
 |pick c a b =>
  refine .bndE (qRQ (hρ c (by simp[Op.operands]))) fun π1 t l=>.pur (.value ?_);split
  ·exact(hρ a (by simp[Op.operands])).mono l
  ·exact(hρ b (by simp[Op.operands])).mono l
 |alloc t=>exact qBR (qWE ok)
 |box t x=>exact qBR (qXv t (hρ x (by simp[Op.operands])))
 |build t ps=>exact qBR (qWG ok (qNi fun x hx=>hρ x.2 (by simp only[Op.operands,List.mem_toArray,List.mem_map];exact⟨x,by simpa using hx,rfl⟩)))
 |buildSlice t n ps=>exact qBR (qMp ok n (qNi fun x hx=>hρ x.2 (by simp only[Op.operands,List.mem_toArray,List.mem_map];exact⟨x,by simpa using hx,rfl⟩)))
 |load t a=>exact qBR (qVE t (hρ a (by simp[Op.operands])))
 |store t a x=>exact qW0 (qTa t (hρ a (by simp[Op.operands])) (hρ x (by simp[Op.operands])))
 | nilCheck x =>
  have hx:=hρ x (by simp[Op.operands]);have hx0:=hx;simp only;generalize ρ x=a at hx hx0 ⊢;generalize ρ' x=a' at hx hx0 ⊢;cases hx with
  |nilPtr=>exact qC7
  |nilIface=>exact qC7
  |nilFunc=>exact qC7
  |func hfn hf hcc rf rc =>
   rename_i fn _ _ _ _;cases fn with
   |func f=>exact .pur (.value hx0)
   |_=>exact hfn.elim
  |lost _ hl=>cases a'<;>first|exact .pur (.value hx0)|cases hl|(rename_i o;cases o<;>first|exact .pur (.value hx0)|cases hl)|(rename_i fn _ _;cases fn<;>first|exact .pur (.value hx0)|cases hl)
  |_=>exact .pur (.value hx0)
 |typeAssert x xt t c =>
  simp only[qLY,Bool.and_eq_true]at ok;rw[ok.1];exact qBR (qMt xt ok.2 (hρ x (by simp[Op.operands])))
 | binOp op t x y yt =>
  simp only[qLY,Bool.or_eq_true,Bool.and_eq_true]at ok;rcases ok with ok|⟨ok1,ok⟩
  case inr =>
   rcases ok with ok|ok
   case inr =>
    unfold qT8 at ok;simp only[Bool.and_eq_true]at ok;obtain⟨e1,e2⟩:=ok;cases op<;>first|cases e1|skip
    split at e2
    ·rename_i el hu;refine qBR (.bndE (qRU hu x y (hρ x (by simp[Op.operands])) (hρ y (by simp[Op.operands]))) fun π1 _ l=>?_);exact qWx (hfree ok1) t ((hρ x (by simp[Op.operands])).mono l) ((hρ y (by simp[Op.operands])).mono l)
    ·cases e2
   unfold qQP at ok;simp only[Bool.and_eq_true]at ok;obtain⟨e1,e2⟩:=ok;cases op<;>first|cases e1|skip
   split at e2
   ·rename_i ms hu;refine qBR (.bndE (qRT hu x y (hρ x (by simp[Op.operands])) (hρ y (by simp[Op.operands]))) fun π1 _ l=>?_);exact qWu (hfree ok1) t ((hρ x (by simp[Op.operands])).mono l) ((hρ y (by simp[Op.operands])).mono l)
   ·cases e2
  refine qBR (.bndE (qTV op t x y ok (hρ x (by simp[Op.operands])) (hρ y (by simp[Op.operands]))) fun π1 _ l=>?_);exact qXu op t x y ok ((hρ x (by simp[Op.operands])).mono l) ((hρ y (by simp[Op.operands])).mono l) (fun v e=>by rw[e];exact hc v) (fun v e=>by rw[e];exact hc v)
 |unOp op t x=>exact qBR (qWQ op (hρ x (by simp[Op.operands])))
 |convert s d x =>
  simp only[qLY,Bool.or_eq_true]at ok;rcases ok with ok|ok
  ·exact qBR (qTT s d ok (hρ x (by simp[Op.operands])))
  ·exact qBR (qTS s d ok (hρ x (by simp[Op.operands])))
 |makeInterface t x=>exact qBR (qPN t (hρ x (by simp[Op.operands])))
 | makeFunc fn first captured =>
  cases fn with
  |func f =>
   have h1:VsRel Al π (first.map ρ) (first.map ρ'):=qQt fun x hx=>hρ x (by simp[Op.operands,hx]);have h2:VsRel Al π (captured.map ρ) (captured.map ρ'):=qQt fun x hx=>hρ x (by simp[Op.operands,hx]);exact qBR (.pur (VRel.func (fn:=.func f) (hal f ok) h1.size h2.size h1.get h2.get))
  |_=>cases ok
 |panic x=>exact qBR (qWL (hρ x (by simp[Op.operands])))
 |makeSlice t n c=>exact qBR (qPO ok (hρ n (by simp[Op.operands])) (hρ c (by simp[Op.operands])))
 |slice t x lo hi mx =>
  exact qBR (qWO t (hρ x (by simp[Op.operands])) (qRA fun y hy=>hρ y (by simp at hy;simp[Op.operands,hy])) (qRA fun y hy=>hρ y (by simp at hy;simp[Op.operands,hy])) (qRA fun y hy=>hρ y (by simp at hy;simp[Op.operands,hy])))
 |fieldAddr t x f=>exact qBR (qTX t f ok (hρ x (by simp[Op.operands])))
 |field t x f=>exact qBR (qWI t f (hρ x (by simp[Op.operands])))
 |indexAddr t x i=>exact qBR (qTY t (hρ x (by simp[Op.operands])) (hρ i (by simp[Op.operands])))
 |index t x i=>exact qBR (qWJ t (hρ x (by simp[Op.operands])) (hρ i (by simp[Op.operands])))
 |extract x i=>exact qBR (qTW (hρ x (by simp[Op.operands])) i)
 | range t x =>
  have ht:P.underlying t=some .string:=by
   simp only[qLY]at ok;split at ok
   ·assumption
   ·cases ok
  exact qBR (qWM t ht (hρ x (by simp[Op.operands])))
 |next x s =>
  cases s with
  |true=>exact qBR (qWy _ (hρ x (by simp[Op.operands])))
  |false=>cases ok
 | call c =>
  obtain⟨callee,args,ts⟩:=c;have hargs:VsRel Al π (args.map ρ) (args.map ρ'):=qQt fun x hx=>hρ x (by simp[Op.operands,Call.operands,hx]);cases callee with
  | invoke r name =>
   simp only[qLY,qP6]at ok;have hr:=hρ r (by simp[Op.operands,Call.operands]);have e:∀(x:Value)(l:Array Value),(#[x]++l).extract 1 (#[x]++l).size=l:=fun x l=>by
    apply Array.ext';simp
   have e0:∀(x:Value)(l:Array Value),(#[x]++l)[0]? = some x:=fun x l=>by
    rw[Array.getElem?_append_left (by simp)];rfl
   show SRel P Al Shr (NR Al) π (invoke (.fn (.method name) #[]) (#[ρ r]++args.map ρ)) (invoke (.fn (.method name) #[]) (#[ρ' r]++args.map ρ'));unfold invoke;simp only[e0,e];generalize ρ r=a at hr ⊢;generalize ρ' r=a' at hr ⊢;unfold callMethod;cases hr with
   | iface t h =>
    refine qBs ?_;refine .bnd (qVG hal ok _ t h) fun π1 p p' l1 hp=>?_;obtain⟨f,x,x',rfl,rfl,hf,hx⟩:=hp;exact qLn good (fun g hgg=>l1 _ _ (hg g hgg)) hf (VsRel.append ⟨rfl,fun i i1 i2=>by
     have:i=0:=by simpa using i1
     subst this;exact hx⟩ (hargs.mono l1))
   |nilIface=>exact qC7
   |_=>exact qAD _ _
  | builtin b =>
   simp only[qLY,qP6]at ok;cases b with
   |len=>exact qBR (qSA ts ok _ hargs)
   |cap=>exact qBR (qU8 ts ok _ hargs)
   |append=>exact qBR (qU7 ts ok _ hargs)
   |copy=>exact qBR (qWt ts _ hargs)
   |max=>exact qBR (qXw ts _ hargs (by simpa using ok))
   |unsafeSliceData=>exact qBR (qPR ts _ hargs (by simpa using ok))
   |unsafeString =>
    simp only[Bool.and_eq_true]at ok;exact qBR (qKO ts _ (hfree ok.1) hargs (by simpa using ok.2))
   |_=>cases ok
  | value f =>
   have hf:=hρ f (by simp[Op.operands,Call.operands]);simp only[resolve];generalize ρ f=a at hf ⊢;generalize ρ' f=a' at hf ⊢;cases hf with
   |func hfn h1 h2 rf rc =>
    rename_i fn _ _ _ _;cases fn with
    |func g=>exact qLn good hg hfn ((VsRel.append ⟨h1,rf⟩ hargs).append ⟨h2,rc⟩)
    |_=>exact hfn.elim
   |nilFunc=>exact qC7
   |_=>exact qAD _ _
 |_=>cases ok
end
