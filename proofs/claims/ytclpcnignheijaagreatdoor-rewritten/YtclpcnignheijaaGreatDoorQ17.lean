/-
  Parts of the proof: L10, Z1, Z2, Z3.
-/
import Derived.Test.YtclpcnignheijaaGreatDoorL9
namespace Go.Proofs.YtclpcnignheijaaGreatDoor
open Go
def stopOp(al:Cfg):Op->Bool
 |.send ..|.recv ..|.select ..|.go _|.makeChan ..=>true
 |.call { callee:=.builtin .close,.. }=>true
 |.call { callee:=.value (.func f),.. }=>!al f
 |_=>false
def qEF(P:Program)(al:Cfg)(gl:Nat->Bool)(st:Bool)(o:Oper):Bool:=(qLY P al o.op&&o.op.operands.all (qC2 al gl))||(st&&stopOp al o.op)||qFZ P o.op
def qD0(al:Cfg)(fr:Frame):Prop:=∀ops i rest k o,fr.todo=.inRegion ops (i::rest)::k->ops[i]? = some o->stopOp al o.op=false
def qA4(P:Program)(al:Cfg)(gl:Nat->Bool)(st:Bool):Code->Bool
 |.region _ ops _=>ops.all (qEF P al gl st)
 |.seq a b=>qA4 P al gl st a&&qA4 P al gl st b
 |.cond c a b=>qC2 al gl c&&qA4 P al gl st a&&qA4 P al gl st b
 |.block _ c|.loop c|.scope c=>qA4 P al gl st c
 |.skip|.exit _|.label _|.ret=>true
 |.refuse s=>!s.toList.isEmpty
 |.rangeFunc ..|.goto _=>false
def qCR(P:Program)(al:Cfg)(gl:Nat->Bool)(st:Bool):Item->Bool
 |.code c|.inLoop c|.inScope c=>qA4 P al gl st c
 |.inBlock _=>true
 |.inRegion ops _=>ops.all (qEF P al gl st)
 |_=>false
theorem qLZ{P:Program}{al:Cfg}{gl:Nat->Bool}(st:Bool){o:Oper}(h:qEF P al gl false o=true):qEF P al gl st o=true:=by
 simp only[qEF,Bool.false_and,Bool.or_false,Bool.or_eq_true]at h;rcases h with h|h
 ·simp only[qEF,h,Bool.true_or]
 ·simp only[qEF,h,Bool.or_true]
theorem qWH{P:Program}{Al:FuncId->Prop}{Shr:Nat->Prop}{π:Ren P.globals.size}{ρ:Operand->Value}{o:Oper}(h:qFZ P o.op=true)(hg:∀g,ρ (.global g)=.pointer (some ⟨g,0,none⟩))(s':Sem Next):SRel P Al Shr (NR Al) π (execOp ρ o) s':=by
 refine .doom ?_ s';unfold execOp;generalize o.op=op at h;unfold qFZ at h;split at h
 ·rename_i t g;simp only[Bool.and_eq_true,beq_iff_eq]at h;obtain⟨rfl,h⟩:=h;split at h
  ·rename_i e he;simp only[hg];refine Doom.bind (s:=Instr.loadAt t (.pointer (some ⟨deadN,0,none⟩))) ?_ _;show Doom P (loadVar t ⟨deadN,0,none⟩);unfold loadVar isAgg underlying;show Doom P (.program _);refine .program ?_;simp only[Sem.bind,he];exact .load rfl _
  ·cases h
 ·cases h
theorem qBx{P:Program}{al:Cfg}{gl:Nat->Bool}(st:Bool):∀c:Code,qA4 P al gl false c=true->qA4 P al gl st c=true
 |.region _ ops _,h=>by
  simp only[qA4,Array.all_eq_true]at h ⊢;exact fun i hi=>qLZ st (h i hi)
 |.seq a b,h=>by
  simp only[qA4,Bool.and_eq_true]at h ⊢;exact⟨qBx st a h.1,qBx st b h.2⟩
 |.cond c a b,h=>by
  simp only[qA4,Bool.and_eq_true]at h ⊢;exact⟨⟨h.1.1,qBx st a h.1.2⟩,qBx st b h.2⟩
 |.block _ c,h=>qBx st c h
 |.loop c,h=>qBx st c h
 |.scope c,h=>qBx st c h
 |.skip,_=>rfl
 |.refuse _,h=>h
 |.exit _,_=>rfl
 |.label _,_=>rfl
 |.ret,_=>rfl
structure Fl where
 stops:Bool
 tail:List Item
def mark : Item := .code (.refuse "")
structure Setup(P:Program)(al:Cfg)(gl:Nat->Bool)(Shr:Nat->Prop):Prop where
 good:∀f,al f=true->FnGood P (fun f=>al f=true) Shr (fun g=>gl g=true) f
 body:∀f fn c,al f=true->P.funcs[f]? = some fn->fn.body=some c->qA4 P al gl false c=true
 free:al.fz=true->∀r,¬Shr r
 fine:qCj P
section
variable{P:Program}{al:Cfg}{gl:Nat->Bool}{Shr:Nat->Prop}{π:Ren P.globals.size}{st:Fl}
inductive TodoR (P:Program) (al:Cfg) (gl:Nat->Bool) (st:Fl):List Item->List Item->Prop
 |nil:TodoR P al gl st [] []
 |tail (h:∀i∈st.tail,qCR P al gl true i=true):TodoR P al gl st [mark] st.tail
 |cons {x:Item} (ok:qCR P al gl st.stops x=true) {k k':List Item} (h:TodoR P al gl st k k'):TodoR P al gl st (x::k) (x::k')
def qOL(fr:Frame):Prop:=∃ops i rest k,fr.todo=.inRegion ops (i::rest)::k
theorem qOh{id:Nat}{k k':List Item}(h:TodoR P al gl st k k'):exitTo id k=none\/∃k1 k1',exitTo id k=some k1/\exitTo id k'=some k1'/\TodoR P al gl st k1 k1':=by
 induction h with
 |nil=>exact .inl rfl
 |tail h=>exact .inl rfl
 | @cons x ok k k' h ih =>
  cases x with
  |inBlock id' =>
   simp only[exitTo];split
   ·exact .inr ⟨k,k',rfl,rfl,h⟩
   ·exact ih
  |_=>simpa only[exitTo]using ih
inductive ChRel (al:Cfg) (π:Ren P.globals.size):List PanicEntry->List PanicEntry->Prop
 |nil:ChRel al π [] []
 |cons {v v':Value} (h:VRel (fun f=>al f=true) π v v') (r g:Bool) {l l':List PanicEntry} (t:ChRel al π l l'):ChRel al π (⟨v,r,g⟩::l) (⟨v',r,g⟩::l')
theorem ChRel.mono{π':Ren P.globals.size}(l:Ren.le π π'){c c':List PanicEntry}(h:ChRel al π c c'):ChRel al π' c c':=by
 induction h with
 |nil=>exact .nil
 |cons h r g _ ih=>exact .cons (h.mono l) r g ih
theorem ChRel.app{a a' b b':List PanicEntry}(h:ChRel al π a a')(k:ChRel al π b b'):ChRel al π (a++b) (a'++b'):=by
 induction h with
 |nil=>exact k
 |cons h r g _ ih=>exact .cons h r g ih
inductive MRel (al:Cfg) (π:Ren P.globals.size):FrameMode->FrameMode->Prop
 |run:MRel al π .run .run
 |returning:MRel al π .returning .returning
 |panicking {c c':List PanicEntry} (h:ChRel al π c c'):MRel al π (.panicking c) (.panicking c')
structure FRel(P:Program)(al:Cfg)(gl:Nat->Bool)(st:Fl)(π:Ren P.globals.size)(fr fr':Frame):Prop where
 fn:fr'.fn=fr.fn
 tmps:VsRel (fun f=>al f=true) π fr.tmps fr'.tmps
 todo:TodoR P al gl st fr.todo fr'.todo
 defers:fr.defers=[]
 defers':fr'.defers=[]
 mode:MRel al π fr.mode fr'.mode
 kind:fr'.kind=fr.kind
 normal:fr.kind=.normal
 round:fr.roundOf=none
 round':fr'.roundOf=none
theorem FRel.mono{π':Ren P.globals.size}(l:Ren.le π π'){fr fr':Frame}(h:FRel P al gl st π fr fr'):FRel P al gl st π' fr fr' :=
 ⟨h.fn,h.tmps.mono l,h.todo,h.defers,h.defers',by
  have:=h.mode;generalize fr.mode=m at this ⊢;generalize fr'.mode=m' at this ⊢;cases this with
  |run=>exact .run
  |returning=>exact .returning
  |panicking h=>exact .panicking (h.mono l),h.kind,h.normal,h.round,h.round'⟩
inductive Stk (P:Program) (al:Cfg) (gl:Nat->Bool) (st:Fl) (π:Ren P.globals.size) (b:Frame) (b':List Frame):Frame->List Frame->Frame->List Frame->Prop
 |base {f f':Frame} (h:FRel P al gl st π f f'):Stk P al gl st π b b' f [b] f' b'
 |up {f f':Frame} (h:FRel P al gl st π f f') {c c':Frame} {l l':List Frame} (hr:qOL c) (t:Stk P al gl st π b b' c l c' l'):Stk P al gl st π b b' f (c::l) f' (c'::l')
theorem Stk.mono{π':Ren P.globals.size}(m:Ren.le π π'){b:Frame}{b':List Frame}{f f':Frame}{l l':List Frame}(h:Stk P al gl st π b b' f l f' l'):Stk P al gl st π' b b' f l f' l':=by
 induction h with
 |base h=>exact .base (h.mono m)
 |up h hr _ ih=>exact .up (h.mono m) hr ih
def Low(l:List Frame):Bool:=l.length==1
theorem Stk.top{b:Frame}{b':List Frame}{f f':Frame}{l l':List Frame}(h:Stk P al gl st π b b' f l f' l'):FRel P al gl st π f f':=by
 cases h with
 |base h=>exact h
 |up h hr t=>exact h
theorem Stk.ne{b:Frame}{b':List Frame}{f f':Frame}{l l':List Frame}(h:Stk P al gl st π b b' f l f' l'):l≠[]:=by
 cases h<;>simp
theorem Stk.put{b:Frame}{b':List Frame}{f f' g g':Frame}{l l':List Frame}(h:Stk P al gl st π b b' f l f' l')(k:FRel P al gl st π g g'):Stk P al gl st π b b' g l g' l':=by
 cases h with
 |base h=>exact .base k
 |up h hr t=>exact .up k hr t
theorem Stk.push{b:Frame}{b':List Frame}{f f' g g':Frame}{l l':List Frame}(h:Stk P al gl st π b b' f l f' l')(hr:qOL f)(k:FRel P al gl st π g g'):Stk P al gl st π b b' g (f::l) g' (f'::l'):=.up k hr h
structure GRel(P:Program)(al:Cfg)(gl:Nat->Bool)(st:Fl)(π:Ren P.globals.size)(b:Frame)(b':List Frame)(g g':Goroutine):Prop where
 stk:Stk P al gl st π b b' g.frame g.callers g'.frame g'.callers
 status:g.status=.running
 status':g'.status=.running
 dying:g.dying=none
 dying':g'.dying=none
 offers:g'.offers=none
 offers0:g.offers=none
def qIZ(g:Goroutine):Prop:=∀ch,g.frame.mode≠.panicking ch
def StepR(P:Program)(al:Cfg)(gl:Nat->Bool)(st:Fl)(Shr:Nat->Prop)(π:Ren P.globals.size)(b:Frame)(b':List Frame)(w:World):GStep->GStep->Prop
 |.go g1 v1 _,s=>∃g1' w1 es' π',s=.go g1' w1 es'/\GRel P al gl st π' b b' g1 g1'/\WRel (fun f=>al f=true) Shr π' v1 w1/\Grown π π' w/\Kept Shr π w w1/\(qIZ g1->∀e∈es',EvOk Shr π' e/\∀f,e.loc≠.mark (.extern f))
 |_,_=>True
theorem qDZ{fn:FuncId}{es:Array Event}{e:Event}(h:e∈seen P fn es):∀f,e.loc≠.mark (.extern f):=by
 rw[Go.Conc.seen_def]at h;have key:∀(l:List Event)(q:Bool)(k:Array Event),(∀x∈k,∀f,x.loc≠.mark (.extern f))->∀x∈(l.foldl (Go.Conc.seenStep fun f=>(P.funcs[f]?).any (·.norace)) (q,k)).2,∀f,x.loc≠.mark (.extern f):=by
  intro l
  induction l with
  |nil=>intro q k hk;exact hk
  | cons a l ih =>
   intro q k hk;rw[List.foldl_cons];unfold Go.Conc.seenStep;simp only;split
   ·exact ih _ _ hk
   ·rename_i hne;refine ih _ _ ?_;split
    ·exact hk
    ·intro x hx f;rcases Array.mem_push.1 hx with hx|rfl
     ·exact hk x hx f
     ·exact hne f
 exact key _ _ _ (by simp) e h
theorem StepR.after{b:Frame}{b':List Frame}{w:World}{x y:GStep}(h:StepR P al gl st Shr π b b' w x y)(es es':Array Event)(he:∀e∈es',EvOk Shr π e/\∀f,e.loc≠.mark (.extern f)):StepR P al gl st Shr π b b' w (x.after es) (y.after es'):=by
 cases x with
 |go g v e =>
  obtain⟨g1',w1,es1,π',rfl,h1,h2,h3,h4,h5⟩:=h;refine⟨g1',w1,es'++es1,π',rfl,h1,h2,h3,h4,fun hn x hx=>?_⟩;rcases Array.mem_append.1 hx with hx|hx
  ·exact⟨(he x hx).1.mono h3.le,(he x hx).2⟩
  ·exact h5 hn x hx
 |_=>trivial
theorem FRel.finish{fr fr':Frame}(h:FRel P al gl st π fr fr')(ht:qOL fr){v v':Value}(hv:VRel (fun f=>al f=true) π v v'):FRel P al gl st π (fr.finish v) (fr'.finish v'):=by
 obtain⟨ops,i,rest,k,ht⟩:=ht;have hT:=h.todo;rw[ht]at hT;generalize ht':fr'.todo=t' at hT;cases hT with
 |@cons _ ok _ k' hk =>
  unfold Frame.finish;rw[ht,ht'];simp only;refine⟨h.fn,?_,.cons (x:=.inRegion ops rest) ok hk,h.defers,h.defers',h.mode,h.kind,h.normal,h.round,h.round'⟩;cases (ops[i]?).bind (·.dst)with
  |none=>exact h.tmps
  |some d=>exact h.tmps.set d hv
theorem FRel.raise{fr fr':Frame}(h:FRel P al gl st π fr fr'){c c':List PanicEntry}(hc:ChRel al π c c'):FRel P al gl st π (fr.raise c) (fr'.raise c'):=by
 have hm:=h.mode;unfold Frame.raise;generalize e1:fr.mode=m at hm ⊢;generalize e2:fr'.mode=m' at hm ⊢;cases hm with
 |run=>exact⟨h.fn,h.tmps,h.todo,h.defers,h.defers',.panicking hc,h.kind,h.normal,h.round,h.round'⟩
 |returning=>exact⟨h.fn,h.tmps,h.todo,h.defers,h.defers',.panicking hc,h.kind,h.normal,h.round,h.round'⟩
 |panicking k=>exact⟨h.fn,h.tmps,h.todo,h.defers,h.defers',.panicking (hc.app k),h.kind,h.normal,h.round,h.round'⟩
theorem qCP(Al:FuncId->Prop)(π:Ren P.globals.size):VRel Al π undef undef:=.tuple rfl fun i h=>absurd h (by simp)
theorem FRel.enter(S:Setup P al gl Shr){f:FuncId}(hf:al f=true){a a':Array Value}(ha:VsRel (fun f=>al f=true) π a a')(k:CallKind)(hk:k=.normal)(hb:∃fn c,P.funcs[f]? = some fn/\fn.body=some c) :
  FRel P al gl st π (Frame.enter P f a k) (Frame.enter P f a' k):=by
 obtain⟨fn,c,hfn,hc⟩:=hb;unfold Frame.enter;rw[hfn];refine⟨rfl,?_,?_,rfl,rfl,.run,rfl,hk,rfl,rfl⟩
 ·simp only;rw[<-ha.size];refine ha.append ⟨rfl,fun i h h'=>?_⟩;simp only[Array.getElem_replicate];exact qCP _ π
 ·simp only[hc,Option.bind_some,Option.getD_some];exact .cons (x:=.code c) (qBx st.stops c (S.body f fn c hf hfn hc)) .nil
theorem qGu(fr:Frame)(ch:List PanicEntry):∃c,(fr.raise ch).mode=.panicking c:=by
 unfold Frame.raise;cases fr.mode<;>exact⟨_,rfl⟩
theorem qKm(S:Setup P al gl Shr){b:Frame}{b':List Frame}{fr fr':Frame}{cs cs':List Frame}(hs:Stk P al gl st π b b' fr cs fr' cs')(ht:qOL fr){s s':Sem Next}(hsem:SRel P (fun f=>al f=true) Shr (NR (fun f=>al f=true)) π s s')
  {v w:World} (hw:WRel (fun f=>al f=true) Shr π v w) :
  StepR P al gl st Shr π b b' w (stepG.apply P true fr cs none s v) (stepG.apply P true fr' cs' none s' w):=by
 have h:=hs.top;have hrun:=hsem.run S.fine #[] #[] hw (by simp);unfold stepG.apply;simp only[if_true];have hearly:(fr.kind==.early)=false:=by rw[h.normal];rfl
 have hearly':(fr'.kind==.early)=false:=by rw[h.kind];exact hearly
 simp only[hearly,hearly',Bool.false_eq_true,if_false];generalize s.runT P v #[]=r at hrun ⊢;generalize s'.runT P w #[]=r' at hrun ⊢;obtain⟨r,es⟩:=r;obtain⟨r',es'⟩:=r';cases r with
 | ok a v1 =>
  obtain⟨b,w1,es1,π',e,hab,hw1,hg,hk,he⟩:=hrun;cases e;have hev:∀e∈seen P fr'.fn es',EvOk Shr π' e/\∀f,e.loc≠.mark (.extern f):=fun e hm=>⟨he e (Go.Conc.mem_seen hm),qDZ hm⟩;cases hab with
  |value hv =>
   refine⟨_,w1,_,π',rfl,⟨(hs.mono hg.le).put ((h.mono hg.le).finish ht hv),rfl,rfl,rfl,rfl,rfl,rfl⟩,hw1,hg,hk,fun _ e hm=>?_⟩;simp only[Array.append_empty]at hm;exact hev e hm
  |skip =>
   refine⟨_,w1,_,π',rfl,⟨(hs.mono hg.le).put ((h.mono hg.le).finish ht (qCP _ _)),rfl,rfl,rfl,rfl,rfl,rfl⟩,hw1,hg,hk,fun _ e hm=>?_⟩;simp only[Array.append_empty]at hm;exact hev e hm
  | enter hf hb ha =>
   refine⟨_,w1,_,π',rfl,⟨(hs.mono hg.le).push ht ?_,rfl,rfl,rfl,rfl,rfl,rfl⟩,hw1,hg,hk,fun _ e hm=>?_⟩
   ·obtain⟨ops,i,rest,k,e⟩:=ht;obtain⟨k',e'⟩:∃k',fr'.todo=.inRegion ops (i::rest)::k':=by
     have hT:=h.todo;rw[e]at hT;generalize fr'.todo=t' at hT;cases hT with
     |cons ok hk=>exact⟨_,rfl⟩
    simp only[e,e'];exact FRel.enter S hf ha .normal rfl hb
   ·simp only[Array.append_empty]at hm;exact hev e hm
 | halt y v1 =>
  cases y with
  |panic y =>
   obtain⟨b,w1,es1,π',e,hab,hw1,hg,hk⟩:=hrun;cases e;refine⟨_,w1,_,π',rfl,⟨(hs.mono hg.le).put ((h.mono hg.le).raise (.cons hab false false .nil)),rfl,rfl,rfl,rfl,rfl,rfl⟩,hw1,hg,hk,fun hn=>?_⟩;obtain⟨ch,e⟩:=qGu fr [⟨y,false,false⟩];exact absurd e (hn ch)
  |stuck m=>trivial
  |unsupported u =>
   cases u with
   |initOrder g=>exact absurd rfl (hrun g)
   |_=>trivial
  |_=>exact hrun.elim
theorem eval_rel{fr fr':Frame}(h:FRel P al gl st π fr fr')(hg:∀g,gl g=true->π g g){x:Operand}(hx:qC2 al gl x=true):VRel (fun f=>al f=true) π (fr.eval x) (fr'.eval x):=by
 cases x with
 |tmp t =>
  simp only[Frame.eval,Array.getD_eq_getD_getElem?];rcases h.tmps.get? t with⟨h1,h2⟩|⟨v,v',h1,h2,hv⟩
  ·rw[h1,h2];exact qCP _ π
  ·rw[h1,h2];exact hv
 |const v=>exact qJD π hx
 |global g=>exact .pointer ⟨hg g hx,rfl,rfl⟩
 |func f=>exact VRel.func (Al:=fun f=>al f=true) (fn:=.func f) (show al f=true from hx) rfl rfl (fun i h=>absurd h (by simp)) (fun i h=>absurd h (by simp))
theorem StepR.to{b:Frame}{b':List Frame}{fr fr':Frame}{cs cs':List Frame}(h:Stk P al gl st π b b' fr cs fr' cs'){v w:World}(hw:WRel (fun f=>al f=true) Shr π v w){es es':Array Event}(he:es'=#[]) :
  StepR P al gl st Shr π b b' w (.go { frame:=fr,callers:=cs,status:=.running,dying:=none } v es) (.go { frame:=fr',callers:=cs',status:=.running,dying:=none } w es') :=
 ⟨_,w,es',π,rfl,⟨h,rfl,rfl,rfl,rfl,rfl,rfl⟩,hw,.refl _ _,.refl _ _ _,fun _=>by subst he;simp⟩
theorem FRel.put{fr fr':Frame}(h:FRel P al gl st π fr fr'){todo todo':List Item}(ok:TodoR P al gl st todo todo'):FRel P al gl st π { fr with todo } { fr' with todo:=todo' } :=
 ⟨h.fn,h.tmps,ok,h.defers,h.defers',h.mode,h.kind,h.normal,h.round,h.round'⟩
theorem FRel.back{fr fr':Frame}(h:FRel P al gl st π fr fr'):FRel P al gl st π { fr with mode:=.returning } { fr' with mode:=.returning } :=
 ⟨h.fn,h.tmps,h.todo,h.defers,h.defers',.returning,h.kind,h.normal,h.round,h.round'⟩
theorem qM8{fr fr':Frame}(h:FRel P al gl st π fr fr')(ops:Array Oper):yielded ops fr'.tmps=yielded ops fr.tmps:=by
 funext j;unfold yielded;cases (ops[j]?).bind (·.dst)with
 |none=>rfl
 |some d =>
  simp only[Option.bind_some];rcases h.tmps.get? d with⟨h1,h2⟩|⟨v,v',h1,h2,hv⟩
  ·rw[h1,h2]
  ·rw[h1,h2];cases hv<;>first|rfl|(cases v'<;>first|rfl|cases ‹qA0 _=true›)
theorem qSr(S:Setup P al gl Shr)(hg:∀g,gl g=true->π g g){b:Frame}{b':List Frame}{fr fr':Frame}{cs cs':List Frame}(hs:Stk P al gl st π b b' fr cs fr' cs')(hst:st.stops=true->qD0 al fr){v w:World}(hw:WRel (fun f=>al f=true) Shr π v w)(main:Bool) :
  StepR P al gl st Shr π b b' w (stepG.exec P main true fr cs none v) (stepG.exec P main true fr' cs' none w):=by
 have h:=hs.top;have put:∀{x x':Frame},FRel P al gl st π x x'->Stk P al gl st π b b' x cs x' cs':=fun k=>hs.put k;obtain⟨fn,tmps,todo,defers,mode,kind,round⟩:=fr;obtain⟨fn',tmps',todo',defers',mode',kind',round'⟩:=fr';obtain rfl:fn'=fn:=h.fn;have hT:TodoR P al gl st todo todo':=h.todo;obtain rfl:kind'=kind:=h.kind;obtain rfl:round=none:=h.round;obtain rfl:round'=none:=h.round';cases hT with
 |nil=>exact StepR.to (put h.back) hw rfl
 |tail _=>exact trivial
 | @cons x hx k k' hk' =>
  have two:∀{a b:Item},qCR P al gl st.stops a=true->qCR P al gl st.stops b=true->TodoR P al gl st (a::b::k) (a::b::k'):=fun ha hb=>.cons ha (.cons hb hk');have one:∀{a:Item},qCR P al gl st.stops a=true->TodoR P al gl st (a::k) (a::k'):=fun ha=>.cons ha hk';cases x with
  | code c =>
   cases c with
   |ret=>exact StepR.to (put h.back) hw rfl
   |skip=>exact StepR.to (put (h.put hk')) hw rfl
   |refuse s=>trivial
   |label l=>exact StepR.to (put (h.put hk')) hw rfl
   |seq a b =>
    simp only[qCR,qA4,Bool.and_eq_true]at hx;exact StepR.to (put (h.put (two (a:=.code a) (b:=.code b) hx.1 hx.2))) hw rfl
   | cond c a b =>
    simp only[qCR,qA4,Bool.and_eq_true]at hx;have hv:=eval_rel h hg hx.1.1;unfold stepG.exec;simp only;generalize Frame.eval _ c=e at hv ⊢;generalize Frame.eval _ c=e' at hv ⊢;cases hv with
    |bool t =>
     refine StepR.to (put (h.put (one (a:=.code (if t then a else b)) ?_))) hw rfl;cases t
     ·exact hx.2
     ·exact hx.1.2
    |_=>trivial
   |block id c=>exact StepR.to (put (h.put (two (a:=.code c) (b:=.inBlock id) hx rfl))) hw rfl
   |loop c=>exact StepR.to (put (h.put (two (a:=.code c) (b:=.inLoop c) hx hx))) hw rfl
   |scope c=>exact StepR.to (put (h.put (two (a:=.code c) (b:=.inScope c) hx hx))) hw rfl
   |exit id =>
    unfold stepG.exec;simp only;rcases qOh (id:=id) hk' with he|⟨k1,k1',he,he',hk1⟩
    ·rw[he];trivial
    ·rw[he,he'];exact StepR.to (put (h.put hk1)) hw rfl
   | region id ops draw =>
    cases draw with
    |false=>exact StepR.to (put (h.put (one (a:=.inRegion ops (List.range ops.size)) hx))) hw rfl
    | true =>
     unfold stepG.exec;simp only[Bool.not_true,Bool.false_eq_true,if_false];have e1:∀u:World,(choose (.order fn' id)).run P u=.ok (u.tape u.drawn (.order fn' id)) { u with drawn:=u.drawn+1 }:=fun u=>rfl;rw[e1,e1,hw.tape,hw.drawn];exact⟨{ frame:={ fn:=fn',tmps:=tmps',todo:=.inRegion ops (Region.schedule (P.follows .mixedOrders) ops (v.tape v.drawn (.order fn' id)))::k',defers:=defers',mode:=mode',kind:=kind',roundOf:=none },callers:=cs',status:=.running,dying:=none },
      { w with drawn:=v.drawn+1 },#[],π,by rw[hw.tape],⟨put (h.put (one (a:=.inRegion ops _) hx)),rfl,rfl,rfl,rfl,rfl,rfl⟩,⟨hw.tape,rfl,hw.os,hw.low,hw.obj,hw.shr,hw.gv,hw.gw,hw.dead⟩,⟨Ren.le_refl _,fun _ _ h=>.inl h⟩,⟨Nat.le_refl _,fun _ _=>.inl rfl,rfl,rfl,rfl,by simp only[hw.drawn];omega⟩,by simp⟩
   |_=>cases hx
  |inBlock id=>exact StepR.to (put (h.put hk')) hw rfl
  |inScope c=>exact StepR.to (put (h.put hk')) hw rfl
  |inLoop c=>exact StepR.to (put (h.put (two (a:=.code c) (b:=.inLoop c) hx hx))) hw rfl
  | inRegion ops l =>
   cases l with
   |nil=>exact StepR.to (put (h.put hk')) hw rfl
   | cons i l =>
    have hy:=qM8 h ops;unfold stepG.exec;simp only at hy ⊢;rw[hy];split
    ·unfold stepG.oper;simp only[Frame.oper?];cases ho:ops[i]? with
     |none=>trivial
     | some o =>
      simp only;have hoo:qEF P al gl st.stops o=true:=by
       simp only[qCR,Array.all_eq_true]at hx;obtain⟨hlt,rfl⟩:=Array.getElem?_eq_some_iff.1 ho;exact hx i hlt
      simp only[qEF,Bool.and_eq_true,Array.all_eq_true',Bool.or_eq_true]at hoo;by_cases hdd:qFZ P o.op=true
      ·exact qKm S hs ⟨ops,i,l,k,rfl⟩ (qWH hdd (fun g=>rfl) _) hw
      have hoo:=(hoo.resolve_right hdd).resolve_right fun q=>by
       have:=hst q.1 ops i l k o rfl ho;rw[q.2]at this;cases this
      have hop:qLY P al o.op=true:=hoo.1;exact qKm S hs ⟨ops,i,l,k,rfl⟩ (qU9 (fun _ h=>h) S.free S.good hg hop (fun x hx=>eval_rel h hg (hoo.2 x hx)) (fun v=>rfl)) hw
    ·exact StepR.to (put (h.finish ⟨ops,i,l,k,rfl⟩ (qCP _ _))) hw rfl
  |_=>cases hx
theorem sResults(fn:Func){t t':Array Value}(h:VsRel (fun f=>al f=true) π t t'):SRel P (fun f=>al f=true) Shr (VR (fun f=>al f=true)) π (results fn t) (results fn t'):=by
 unfold results;have get:∀(π:Ren P.globals.size),VsRel (fun f=>al f=true) π t t'->∀i,VRel (fun f=>al f=true) π (t.getD i undef) (t'.getD i undef):=fun π h i=>by
  simp only[Array.getD_eq_getD_getElem?];rcases h.get? i with⟨h1,h2⟩|⟨v,v',h1,h2,hv⟩
  ·rw[h1,h2];exact qCP _ π
  ·rw[h1,h2];exact hv
 have one:∀(π:Ren P.globals.size),VsRel (fun f=>al f=true) π t t'->∀r:ResultVar,SRel P (fun f=>al f=true) Shr (VR (fun f=>al f=true)) π
   (match r with|.tmp i=>pure (t.getD i undef)|.cell a ty=>do loadVar ty (<-asAddr (t.getD a undef)):Sem Value)
   (match r with|.tmp i=>pure (t'.getD i undef)|.cell a ty=>do loadVar ty (<-asAddr (t'.getD a undef)):Sem Value):=by
  intro π h r;cases r with
  |tmp i=>exact .pur (get π h i)
  |cell a ty =>
   have:=get π h a;simp only;generalize t.getD a undef=x at this ⊢;generalize t'.getD a undef=x' at this ⊢;refine SRel.bnd (R:=AR) ?_ fun π1 p q l hpq=>qNy ty hpq;cases this with
   |pointer h=>exact .pur h
   |nilPtr=>exact qC7
   |_=>exact qAD _ _
 have key:∀(l:List ResultVar)(π:Ren P.globals.size),VsRel (fun f=>al f=true) π t t'->SRel P (fun f=>al f=true) Shr (fun π a b=>LRel (fun f=>al f=true) π a b) π
   (l.mapM fun r=>match r with|.tmp i=>pure (t.getD i undef)|.cell a ty=>do loadVar ty (<-asAddr (t.getD a undef)))
   (l.mapM fun r=>match r with|.tmp i=>pure (t'.getD i undef)|.cell a ty=>do loadVar ty (<-asAddr (t'.getD a undef))):=by
  intro l
  induction l with
  |nil=>intro π _;exact .pur .nil
  |cons r l ih =>
   intro π h;rw[List.mapM_cons,List.mapM_cons];exact .bnd (one π h r) fun π1 v v' l1 hv=>.bnd (ih π1 (h.mono l1)) fun π2 vs vs' l2 hvs=>.pur (.cons (hv.mono l2) hvs)
 rw[Array.mapM_eq_mapM_toList,Array.mapM_eq_mapM_toList];refine SRel.bnd (R:=fun π a b=>VsRel (fun f=>al f=true) π a b) (SRel.bnd (f:=fun x=>Pure.pure x.toArray) (f':=fun x=>Pure.pure x.toArray) (key _ π h) fun π1 a b l hab=>.pur (LRel.arr hab)) fun π2 vs vs' l hvs=>.pur ?_;by_cases h1:vs.size=1
 ·have h2:vs'.size=1:=hvs.size▸h1;simp only[h1,h2,dif_pos];exact hvs.get 0 (by omega) (by omega)
 ·have h2:¬vs'.size=1:=hvs.size▸h1;simp only[h1,h2,dif_neg,not_false_iff];exact .tuple hvs.size hvs.get
theorem qGf{b:Frame}{b':List Frame}{fr fr':Frame}(h:FRel P al gl st π fr fr')(hn:fr.kind=.normal){c c':Frame}{cs cs':List Frame}(hr:qOL c)(hc:Stk P al gl st π b b' c cs c' cs'){x x':Value}(hx:VRel (fun f=>al f=true) π x x'){v w:World}(hw:WRel (fun f=>al f=true) Shr π v w)(main:Bool) :
  StepR P al gl st Shr π b b' w (doReturn P main fr (c::cs) none x v) (doReturn P main fr' (c'::cs') none x' w):=by
 unfold doReturn;rw[h.kind,hn];exact StepR.to (hc.put (hc.top.finish hr hx)) hw rfl
theorem qGE{sb:Bool}{fr:Frame}(hok:∀i∈fr.todo,qCR P al gl sb i=true):fr.catches P=false:=by
 unfold Frame.catches;split
 ·rename_i h;have:=hok _ (by rw[h];exact List.mem_cons_self);cases this
 ·rfl
theorem qGd{fr:Frame}{x:Item}{k:List Item}{sb:Bool}(e:fr.todo=x::k)(ok:qCR P al gl sb x=true):fr.catches P=false:=by
 unfold Frame.catches;split
 ·rename_i h;rw[e]at h;cases h;cases ok
 ·rfl
theorem qDc{fr fr':Frame}(h:TodoR P al gl st fr.todo fr'.todo):fr.catches P=false/\fr'.catches P=false:=by
 generalize e:fr.todo=t at h;generalize e':fr'.todo=t' at h;cases h with
 |nil=>exact⟨qGE (al:=al) (gl:=gl) (sb:=true) (by rw[e];simp),qGE (al:=al) (gl:=gl) (sb:=true) (by rw[e'];simp)⟩
 |tail h =>
  refine⟨?_,qGE (al:=al) (gl:=gl) (sb:=true) (by rw[e'];exact h)⟩;unfold Frame.catches;rw[e];split
  ·rename_i h;cases h
  ·rfl
 |cons ok h=>exact⟨qGd e ok,qGd e' ok⟩
theorem qF3(S:Setup P al gl Shr)(hg:∀g,gl g=true->π g g){b:Frame}{b':List Frame}{g g':Goroutine}(h:GRel P al gl st π b b' g g')(hn:g.frame.mode≠.run->Low g.callers=false)(hst:st.stops=true->g.frame.mode=.run->qD0 al g.frame){v w:World}(hw:WRel (fun f=>al f=true) Shr π v w)(main:Bool) :
  StepR P al gl st Shr π b b' w (stepG P main g v) (stepG P main g' w):=by
 obtain⟨fr,cs,sx,dy,of⟩:=g;obtain⟨fr',cs',sx',dy',of'⟩:=g';obtain⟨hs,h3,h4,h5,h6,h7,h8⟩:=h;simp only at hs h3 h4 h5 h6 h7 h8 hn hst;subst h3 h4 h5 h6 h7 h8;have h1:=hs.top;unfold stepG;have hm:=h1.mode;simp only;cases hmode:fr.mode with
 |run =>
  rw[hmode]at hm;have hmode':fr'.mode=.run:=by generalize fr'.mode=m at hm;cases hm;rfl
  rw[hmode'];exact qSr S hg hs (fun q=>hst q hmode) hw main
 | returning =>
  rw[hmode]at hm;have hmode':fr'.mode=.returning:=by generalize fr'.mode=m at hm;cases hm;rfl
  rw[hmode'];have hlow:=hn (by rw[hmode];simp);have hkind:fr.kind=.normal:=h1.normal;simp only;unfold unwind;rw[h1.defers,h1.defers',hmode,hmode',h1.fn];simp only;cases hs with
  |base h=>cases hlow
  | up h hr t =>
   cases hf:P.funcs[fr.fn]? with
   |none =>
    refine qGf h1 hkind hr t ?_ hw main;simp only[Array.getD_eq_getD_getElem?];rcases h1.tmps.get? 0 with⟨e1,e2⟩|⟨v,v',e1,e2,hv⟩
    ·rw[e1,e2];exact qCP _ π
    ·rw[e1,e2];exact hv
   | some fn =>
    simp only;have hrun:=(sResults (Shr:=Shr) fn h1.tmps).run S.fine #[] #[] hw (by simp);generalize (results fn fr.tmps).runT P v #[]=r at hrun ⊢;generalize (results fn fr'.tmps).runT P w #[]=r' at hrun ⊢;obtain⟨r,es⟩:=r;obtain⟨r',es'⟩:=r';cases r with
    | ok a v1 =>
     obtain⟨z,w1,es1,π',e,hab,hw1,hg1,hk1,he⟩:=hrun;cases e;have hd:=qGf (h1.mono hg1.le) hkind hr (t.mono hg1.le) hab hw1 main;have hd':=hd.after (seen P fr.fn es) (seen P fr.fn es') fun e hm=>⟨he e (Go.Conc.mem_seen hm),qDZ hm⟩
     revert hd'
     simp only;generalize GStep.after (seen P fr.fn es) (doReturn P main fr _ none a v1)=s1;generalize GStep.after (seen P fr.fn es') (doReturn P main fr' _ none z w1)=s2;intro hd';cases s1 with
     |go g1 v2 e1 =>
      obtain⟨g1',w2,es2,π2,rfl,x1,x2,x3,x4,x5⟩:=hd';exact⟨g1',w2,es2,π2,rfl,x1,x2,hg1.trans x3 hk1.size,hk1.trans hg1 x4,x5⟩
     |_=>trivial
    |halt y v1 =>
     cases y<;>first|exact hrun.elim|trivial
 |panicking ch =>
  rw[hmode]at hm;obtain⟨ch',hmode',hch⟩:∃ch',fr'.mode=.panicking ch'/\ChRel al π ch ch':=by generalize fr'.mode=m at hm;cases hm with|panicking h=>exact⟨_,rfl,h⟩
  rw[hmode'];have hlow:=hn (by rw[hmode];simp);simp only;unfold unwind;rw[h1.defers,h1.defers',hmode,hmode'];obtain⟨c1,c2⟩:=qDc h1.todo;simp only[c1,c2,Bool.false_eq_true,if_false];cases hs with
  |base h=>cases hlow
  |up h hr t=>exact StepR.to (t.put (t.top.raise hch)) hw rfl
end
structure TSim(oa ob D:Nat)(w v:World):Prop where
 cnt:v.drawn+oa=w.drawn+ob
 heap:v.heap=w.heap
 os:v.os=w.os
 out:v.output=w.output
 tape:∀i,w.drawn+i<D->∀q,v.tape (v.drawn+i) q=w.tape (w.drawn+i) q
theorem TSim.form{oa ob D:Nat}{w v:World}(h:TSim oa ob D w v):∃T d,v={ w with tape:=T,drawn:=d }:=by
 obtain⟨_,h1,h2,h3,h4⟩:=h;refine⟨v.tape,v.drawn,?_⟩;cases v;cases w;simp_all
theorem TSim.drew{oa ob D:Nat}{w v:World}(h:TSim oa ob D w v):TSim oa ob D { w with drawn:=w.drawn+1 } { v with drawn:=v.drawn+1 } :=
 ⟨by have:=h.cnt;simp only;omega,h.heap,h.os,h.out,fun i hi q=>by have:=h.tape (1+i) (by simp only at hi;omega) q;simpa [Nat.add_assoc]using this⟩
def Result.world{α:Type}:Result α->World
 |.ok _ w=>w
 |.halt _ w=>w
def qUT{α:Type}(oa ob D:Nat):Result α->Result α->Prop
 |.ok a w,.ok b v=>a=b/\TSim oa ob D w v
 |.halt a w,.halt b v=>a=b/\TSim oa ob D w v
 |_,_=>False
structure Later(w w':World):Prop where
 tape:w'.tape=w.tape
 drawn:w.drawn<=w'.drawn
theorem Later.refl(w:World):Later w w:=⟨rfl,Nat.le_refl _⟩
theorem Later.trans{a b c:World}(h:Later a b)(k:Later b c):Later a c:=⟨k.tape.trans h.tape,Nat.le_trans h.drawn k.drawn⟩
theorem Later.put(w:World)(H:Array Obj):Later w { w with heap:=H }:=⟨rfl,Nat.le_refl _⟩
theorem qHa{α:Type}:∀(a:Ask α)(w:World),Later w (w.ask a).2
 |.done _,w=>.refl w
 | .ask what range k, w => by
  unfold World.ask;by_cases hf:(Question.extern what range).forced=true
  ·simp only[hf,if_true];exact qHa _ w
  ·simp only[hf];exact Later.trans (b:={ w with drawn:=w.drawn+1 }) ⟨rfl,Nat.le_succ _⟩ (qHa _ _)
theorem qRv(c:Sys)(w:World):Later w (w.sys c).2:=by
 unfold World.sys;have h:=qHa (Kernel.perform c w.os) w;generalize w.ask (Kernel.perform c w.os)=x at *;obtain⟨⟨r,os⟩,w'⟩:=x;cases r<;>first|exact .refl w|exact⟨h.tape,h.drawn⟩
theorem qKQ(w:World)(a:Addr)(x:Value):Later w (w.setCell a x):=⟨rfl,Nat.le_refl _⟩
theorem qLK(w:World)(a:Addr)(n:Nat):Later w (w.freeze a n):=by
 unfold World.freeze;split<;>exact⟨rfl,Nat.le_refl _⟩
theorem qIV(p:Program)(w:World)(at_:Addr)(u:TypeId)(k:Addr)(x:Value)(b:Bool){w':World}{l:List Addr}(h:w.viewStore p at_ u k x b=.ok (w',l)):Later w w':=by
 unfold World.viewStore at h;simp only[bind,Except.bind,pure,Except.pure]at h
 repeat' split at h
 all_goals first
  |(cases h;exact⟨rfl,Nat.le_refl _⟩)
  |cases h
theorem qIe(p:Program)(w:World)(a:Addr)(x:Value)(b:Bool){w':World}{l:List Addr}(h:w.farStore p a x b=.ok (w',l)):Later w w':=by
 unfold World.farStore at h
 repeat' split at h
 ·rename_i hv;cases h;exact qIV p w _ _ _ _ _ hv
 ·cases h
 ·cases h
theorem qEm{α:Type}(p:Program):∀(s:Sem α)(w:World)(es:Array Event),Later w (Result.world (s.runT p w es).1):=by
 intro s
 induction s with
 |pure a=>intro w es;exact .refl w
 | load m a k ih =>
  intro w es;unfold Sem.runT;split
  ·exact ih _ _ _
  ·split
   ·exact ih _ _ _
   ·exact .refl w
 | store m a x k ih =>
  intro w es;cases x<;>(
   simp only[Sem.runT]
   first
   |exact .refl w
   | (split
      ·split
       ·exact .refl w
       ·exact(qKQ w _ _).trans (ih _ _)
      ·split
       ·rename_i hf;exact(qIe p w _ _ _ hf).trans (ih _ _)
       ·exact .refl w))
 |new o k ih=>intro w es;unfold Sem.runT;exact(Later.put w _).trans (ih _ _ _)
 |shape r k ih=>intro w es;unfold Sem.runT;exact ih _ _ _
 |freeze a n k ih=>intro w es;unfold Sem.runT;exact(qLK w a n).trans (ih _ _)
 |frozen a k ih=>intro w es;unfold Sem.runT;exact ih _ _ _
 |getObj r k ih =>
  intro w es;unfold Sem.runT;split
  ·exact .refl w
  ·exact ih _ _ _
  ·exact .refl w
 |setObj r o k ih =>
  intro w es;unfold Sem.runT;split
  ·exact .refl w
  ·exact(Later.put w _).trans (ih _ _)
  ·exact .refl w
 |choose q k ih =>
  intro w es;unfold Sem.runT;split
  ·exact ih _ _ _
  ·exact Later.trans (b:={ w with drawn:=w.drawn+1 }) ⟨rfl,Nat.le_succ _⟩ (ih _ _ _)
 |sys c k ih=>intro w es;unfold Sem.runT;exact(qRv c w).trans (ih _ _ _)
 |program k ih=>intro w es;unfold Sem.runT;exact ih _ _ _
 |mark m k ih=>intro w es;unfold Sem.runT;exact ih _ _
 |halt a=>intro w es;exact .refl w
theorem cell_sim{oa ob D:Nat}{w v:World}(h:TSim oa ob D w v)(a:Addr):v.cell? a=w.cell? a:=by
 obtain⟨T,d,rfl⟩:=h.form;rfl
theorem qI2{oa ob D:Nat}{w v:World}(h:TSim oa ob D w v)(a:Addr):v.frozen? a=w.frozen? a:=by
 obtain⟨T,d,rfl⟩:=h.form;rfl
theorem qRi{oa ob D:Nat}{w v:World}(h:TSim oa ob D w v)(r:Nat):v.shape? r=w.shape? r:=by
 obtain⟨T,d,rfl⟩:=h.form;rfl
theorem qMR(p:Program){oa ob D:Nat}{w v:World}(h:TSim oa ob D w v)(a:Addr)(b:Bool):v.farLoad p a b=w.farLoad p a b:=by
 obtain⟨T,d,rfl⟩:=h.form;rfl
theorem TSim.put{oa ob D:Nat}{w v:World}(h:TSim oa ob D w v)(H:Array Obj):TSim oa ob D { w with heap:=H } { v with heap:=H }:=⟨h.cnt,rfl,h.os,h.out,h.tape⟩
theorem qMv{oa ob D:Nat}{w v:World}(h:TSim oa ob D w v)(a:Addr)(x:Value):TSim oa ob D (w.setCell a x) (v.setCell a x):=by
 unfold World.setCell;rw[h.heap];exact h.put _
theorem qOk{oa ob D:Nat}{w v:World}(h:TSim oa ob D w v)(a:Addr)(n:Nat):TSim oa ob D (w.freeze a n) (v.freeze a n):=by
 unfold World.freeze;rw[h.heap];by_cases h0:n=0
 ·simp only[h0,if_true];exact h
 ·simp only[h0,if_false];exact h.put _
def qVX(oa ob D:Nat):Except Halt (World×List Addr)->Except Halt (World×List Addr)->Prop
 |.ok (w,l),.ok (v,l')=>l'=l/\TSim oa ob D w v
 |.error a,.error b=>b=a
 |_,_=>False
theorem qKZ(p:Program){oa ob D:Nat}{w v:World}(h:TSim oa ob D w v)(at_:Addr)(u:TypeId)(k:Addr)(x:Value)(b:Bool) :
  (∃e,w.viewStore p at_ u k x b=.error e/\v.viewStore p at_ u k x b=.error e) \/
  (∃H l,w.viewStore p at_ u k x b=.ok ({ w with heap:=H },l)/\v.viewStore p at_ u k x b=.ok ({ v with heap:=H },l)):=by
 have hs:v.seen p at_ u k b=w.seen p at_ u k b:=by obtain⟨T,d,rfl⟩:=h.form;rfl
 unfold World.viewStore;rw[hs,h.heap];by_cases h1:(!tight p p.depth u)=true
 ·exact .inl ⟨_,by simp only[h1,if_true];rfl,by simp only[h1,if_true];rfl⟩
 simp only[h1];cases hq:w.seen p at_ u k b with
 |error e=>exact .inl ⟨e,rfl,rfl⟩
 | ok r =>
  obtain⟨c,e,fz,first,like,cells⟩:=r;cases hb:x.bytes? with
  |none=>exact .inl ⟨_,rfl,rfl⟩
  | some bytes =>
   by_cases h2:some bytes.length≠like.bytes?.map (·.length)
   ·exact .inl ⟨_,by simp only[bind,Except.bind,pure,Except.pure,if_pos h2,Bool.false_eq_true,if_false];rfl,by simp only[bind,Except.bind,pure,Except.pure,if_pos h2,Bool.false_eq_true,if_false];rfl⟩
   ·simp only[bind,Except.bind,pure,Except.pure,if_neg h2,Bool.false_eq_true,if_false];split
    ·exact .inl ⟨_,rfl,rfl⟩
    ·exact .inr ⟨_,_,rfl,rfl⟩
theorem qLG(p:Program){oa ob D:Nat}{w v:World}(h:TSim oa ob D w v)(a:Addr)(x:Value)(b:Bool):qVX oa ob D (w.farStore p a x b) (v.farStore p a x b):=by
 have hn:∀s,v.noCell a s=w.noCell a s:=fun s=>by obtain⟨T,d,rfl⟩:=h.form;rfl
 unfold World.farStore;rw[h.heap];split
 ·rename_i at_ u _;rcases qKZ p h at_ u a x b with⟨e,h1,h2⟩|⟨H,l,h1,h2⟩
  ·rw[h1,h2];rfl
  ·rw[h1,h2];exact⟨rfl,h.put H⟩
 ·rw[hn];rfl
theorem qQO(w:World):w.sys .env=(.strings w.os.env,w):=rfl
def qB7{α:Type}(p:Program):Sem α->World->Prop
 |.pure _,_=>True
 | .load m a k, w => match w.cell? a with
  |some v=>qB7 p (k v) w
  |none=>match w.farLoad p a (m==.atomic)with
   |.ok (v,_)=>qB7 p (k v) w
   |.error _=>True
 | .store m a v k, w => (∀ c, v ≠ .agg c) → (∀ c, v ≠ .tuple c) → match w.cell? a with
  |some _=>w.frozen? a=false->qB7 p k (w.setCell a v)
  |none=>match w.farStore p a v (m==.atomic)with
   |.ok (w',_)=>qB7 p k w'
   |.error _=>True
 |.new o k,w=>qB7 p (k w.heap.size) { w with heap:=w.heap.push o }
 |.shape r k,w=>qB7 p (k (w.shape? r)) w
 |.freeze a n k,w=>qB7 p k (w.freeze a n)
 |.frozen a k,w=>qB7 p (k (w.frozen? a)) w
 |.getObj r k,w=>∀o,w.heap[r]? = some o->(∀c e f,o≠.cells c e f)->qB7 p (k o) w
 |.setObj r o k,w=>∀x,w.heap[r]? = some x->(∀c e f,x≠.cells c e f)->qB7 p k { w with heap:=w.heap.setIfInBounds r o }
 |.choose q k,w=>if q.forced then qB7 p (k 0) w else qB7 p (k (q.cut (w.tape w.drawn q))) { w with drawn:=w.drawn+1 }
 |.sys c k,w=>c=.env/\qB7 p (k (w.sys c).1) (w.sys c).2
 |.program k,w=>qB7 p (k p) w
 |.mark _ k,w=>qB7 p k w
 |.halt _,_=>True
theorem qKI{α:Type}(p:Program){oa ob D:Nat}:∀(s:Sem α){w v:World}(es:Array Event),TSim oa ob D w v->qB7 p s w->(Result.world (s.runT p w es).1).drawn<=D ->
  qUT oa ob D (s.runT p w es).1 (s.runT p v es).1/\(s.runT p v es).2=(s.runT p w es).2:=by
 intro s
 induction s with
 |pure a=>intro w v es h _ _;exact⟨⟨rfl,h⟩,rfl⟩
 | load m a k ih =>
  intro w v es h hq hd;unfold Sem.runT at hd ⊢;unfold qB7 at hq;rw[cell_sim h,qMR p h];split
  ·rename_i x hx;rw[hx]at hq hd;exact ih _ _ h hq hd
  ·rename_i hx;rw[hx]at hq hd;split
   ·rename_i y hy;simp only[hy]at hq hd;exact ih _ _ h hq hd
   ·exact⟨⟨rfl,h⟩,rfl⟩
 | store m a x k ih =>
  intro w v es h hq hd;have fs:=qLG p h a x (m==Mode.atomic);unfold qB7 at hq;cases x<;>(
   simp only[Sem.runT]at hd ⊢
   first
   |exact⟨⟨rfl,h⟩,trivial⟩
   | (rw [cell_sim h, qI2 h]
      replace hq:=hq (by simp) (by simp)
      cases hc:w.cell? a with
      | some y =>
       simp only[hc]at hq hd ⊢;split
       ·exact⟨⟨rfl,h⟩,rfl⟩
       ·rename_i hf;rw[if_neg hf]at hd;exact ih _ (qMv h _ _) (hq (by simpa using hf)) hd
      | none =>
       simp only[hc]at hq hd ⊢
       revert fs hq hd
       generalize World.farStore p w _ _ _=r;generalize World.farStore p v _ _ _=r';intro fs hq hd;rcases r with e|⟨w',l⟩<;> rcases r' with e'|⟨v',l'⟩
       ·obtain rfl:e'=e:=fs;exact⟨⟨rfl,h⟩,rfl⟩
       ·exact fs.elim
       ·exact fs.elim
       ·obtain⟨rfl,h'⟩:l'=l/\TSim oa ob D w' v':=fs;exact ih _ h' hq hd))
 |new o k ih =>
  intro w v es h hq hd;unfold Sem.runT at hd ⊢;rw[h.heap];exact ih _ _ (h.put _) hq hd
 |shape r k ih=>intro w v es h hq hd;unfold Sem.runT at hd ⊢;rw[qRi h];exact ih _ _ h hq hd
 |freeze a n k ih=>intro w v es h hq hd;unfold Sem.runT at hd ⊢;exact ih _ (qOk h a n) hq hd
 |frozen a k ih=>intro w v es h hq hd;unfold Sem.runT at hd ⊢;rw[qI2 h];exact ih _ _ h hq hd
 | getObj r k ih =>
  intro w v es h hq hd;unfold Sem.runT at hd ⊢;unfold qB7 at hq;rw[h.heap];split
  ·exact⟨⟨rfl,h⟩,rfl⟩
  ·rename_i o ho hn;split at hd
   ·rename_i hx;rw[hn]at hx;cases hx;exact absurd rfl (ho _ _ _)
   ·rename_i o2 _ hx;rw[hn]at hx;cases hx;exact ih _ _ h (hq _ hn ho) hd
   ·rename_i hx;rw[hn]at hx;cases hx
  ·exact⟨⟨rfl,h⟩,rfl⟩
 | setObj r o k ih =>
  intro w v es h hq hd;unfold Sem.runT at hd ⊢;unfold qB7 at hq;rw[h.heap];split
  ·exact⟨⟨rfl,h⟩,rfl⟩
  ·rename_i o ho hn;split at hd
   ·rename_i hx;rw[hn]at hx;cases hx;exact absurd rfl (ho _ _ _)
   ·exact ih _ (h.put _) (hq _ hn ho) hd
   ·rename_i hx;rw[hn]at hx;cases hx
  ·exact⟨⟨rfl,h⟩,rfl⟩
 | choose q k ih =>
  intro w v es h hq hd;unfold Sem.runT at hd ⊢;unfold qB7 at hq;by_cases hf:q.forced=true
  ·simp only[hf,if_true]at hq hd ⊢;exact ih _ _ h hq hd
  ·rw[if_neg hf]at hq hd;rw[if_neg hf,if_neg hf];have hl:=(qEm p (k (q.cut (w.tape w.drawn q))) { w with drawn:=w.drawn+1 } es).drawn;have e:=h.tape 0 (by simp only[Nat.add_zero];exact Nat.lt_of_lt_of_le hl hd) q;simp only[Nat.add_zero]at e;rw[e];exact ih _ _ h.drew hq hd
 |sys c k ih =>
  intro w v es h hq hd;obtain⟨rfl,hq⟩:=hq;unfold Sem.runT at hd ⊢;rw[qQO w,qQO v,h.os];exact ih _ _ h hq hd
 |program k ih=>intro w v es h hq hd;unfold Sem.runT at hd ⊢;exact ih _ _ h hq hd
 |mark m k ih=>intro w v es h hq hd;unfold Sem.runT at hd ⊢;exact ih _ h hq hd
 |halt a=>intro w v es h hq hd;exact⟨⟨rfl,h⟩,rfl⟩
section
variable{P:Program}{Al:FuncId->Prop}{Shr:Nat->Prop}{G:Nat}
theorem Doom.quiet{α:Type}{s:Sem α}(h:Doom P s):∀v:World,v.heap[deadN]? = some qK9->qB7 P s v:=by
 induction h with
 |halt hb=>intro v hv;exact trivial
 |shape _ ih=>intro v hv;exact ih _ _ hv
 |frozen _ ih=>intro v hv;exact ih _ _ hv
 |mark m _ ih=>intro v hv;exact ih _ hv
 |@load a ha k =>
  intro v hv;have h1:v.cell? a=none:=by unfold World.cell?;rw[ha,hv];rfl
  have h2 : v.farLoad P a (Mode.plain == .atomic) = .error (.stuck "load: no such cell") := by unfold World.farLoad World.noCell; rw [ha, hv]; rfl
  unfold qB7;rw[h1];simp only[h2]
 |program _ ih=>intro v hv;exact ih _ hv
theorem SRel.quiet{α β:Type}{R:Ren G->α->β->Prop}{π:Ren G}{s:Sem α}{s':Sem β}(hV:qCj P)(h:SRel P Al Shr R π s s'):∀{v w:World},WRel Al Shr π v w->qB7 P s v:=by
 induction h with
 |pure h=>intro v w hw;exact trivial
 | @load π a b h k k' hk ih =>
  intro v w hw;unfold qB7;rcases qHD hw h with⟨h1,h2⟩|⟨x,x',h1,h2,hx⟩
  ·rcases qHs hV hw h with⟨y,hy,hb⟩|⟨x,l,l',e1,e2,hx,-⟩
   ·rw[h1];simp only[show(Mode.plain==Mode.atomic)=false from rfl,hy]
   ·rw[h1];simp only[show(Mode.plain==Mode.atomic)=false from rfl,e1];exact ih x x hx hw
  ·rw[h1];exact ih x x' hx hw
 | @store π a b h x x' hx k k' hk ih =>
  intro v w hw;unfold qB7;intro n1 n2;rcases qHD hw h with⟨h1,h2⟩|⟨y,y',h1,h2,hy⟩
  ·rcases qGi hV hw h hx with⟨y,hy,hb⟩|⟨v1,w1,l,l',e1,e2,hw',-,-⟩
   ·rw[h1];simp only[show(Mode.plain==Mode.atomic)=false from rfl,hy]
   ·rw[h1];simp only[show(Mode.plain==Mode.atomic)=false from rfl,e1];exact ih hw'
  ·rw[h1];exact fun hf=>ih (qRg hw h hx h1 hf).2.2.1
 |new e hc _ ih =>
  intro v w hw;obtain⟨_,h1,h2,h3⟩:=qHS hw (fun π' l=>.inl ⟨_,_,e,(0,0),(0,0),rfl,rfl,hc.mono l,rfl⟩);exact ih _ _ _ h2.le (.inr ⟨rfl,rfl⟩) (fun hs=>absurd (hw.shr _ hs) (by omega)) h1
 |@shape π r r' h k k' hk ih=>intro v w hw;exact ih _ hw
 |@frozen π a b h hs k k' hk ih=>intro v w hw;exact ih _ hw
 |@getObj π r r' h k k' hk ih =>
  intro v w hw;unfold qB7;intro x hx hn;rcases hw.obj h with⟨c,c',e,f,f',h1,h2,h3,-,-⟩|⟨o,o',h1,h2,ho,hs⟩
  ·rw[h1]at hx;cases hx;exact absurd rfl (hn _ _ _)
  ·rw[h1]at hx;cases hx;exact ih _ o' ho hw
 |@setObj π r r' h o o' ho k k' hk ih =>
  intro v w hw;unfold qB7;intro x hx hn;rcases hw.obj h with⟨c,c',e,f,f',h1,h2,h3,-,-⟩|⟨y,y',h1,h2,hy,hs⟩
  ·rw[h1]at hx;cases hx;exact absurd rfl (hn _ _ _)
  ·exact ih (qJR hw h ho hs).1
 |@newObj π o o' ho k k' hk ih =>
  intro v w hw;obtain⟨_,h1,h2,h3⟩:=qHS hw (fun π' m=>.inr (ho.mono m));exact ih _ _ _ h2.le (.inr ⟨rfl,rfl⟩) h1
 |@freeze π a b h hs n k k' hk ih =>
  intro v w hw;exact ih (qI1 hw h hs n).1
 |extern f _ ih=>intro v w hw;exact ih hw
 |choose q _ ih =>
  intro v w hw;unfold qB7;split
  ·exact ih 0 hw
  ·exact ih _ (v:={ v with drawn:=v.drawn+1 }) (w:={ w with drawn:=w.drawn+1 }) ⟨hw.tape,by simp[hw.drawn],hw.os,hw.low,hw.obj,hw.shr,hw.gv,hw.gw,hw.dead⟩
 |program _ ih=>intro v w hw;exact ih hw
 |noRoom _ ih=>intro v w hw;exact ih hw
 |doom hb s'=>intro v w hw;exact hb.quiet v hw.dead.1
 |panic h=>intro v w hw;exact trivial
 |bad hb s=>intro v w hw;exact trivial
 |env _ hn ih=>intro v w hw;exact⟨rfl,ih _ hw⟩
end
def _root_.Go.World.re(w:World)(T:Nat->Question->Nat)(d:Nat):World:={ w with tape:=T,drawn:=d }
theorem qRJ(w:World)(T T':Nat->Question->Nat)(d d':Nat):(w.re T d).re T' d'=w.re T' d':=rfl
theorem qIE(w:World):w.re w.tape w.drawn=w:=rfl
inductive Runs (P:Program) (main:Bool) (Stop:Goroutine->World->Prop):Goroutine->World->Prop
 |stop {g:Goroutine} {w:World} (h:Stop g w):Runs P main Stop g w
 |step {g:Goroutine} {w:World} (hn:¬Stop g w) (go:∀T d,∃g' w' es,stepG P main g (w.re T d)=.go g' w' es) (next:∀T d g' w' es,stepG P main g (w.re T d)=.go g' w' es->Runs P main Stop g' w'):Runs P main Stop g w
def goN(P:Program)(main:Bool):Nat->Goroutine->World->Option (Goroutine×World)
 |0,g,w=>some (g,w)
 | n + 1, g, w => match goN P main n g w with
  |some (g',w')=>match stepG P main g' w' with
   |.go g'' w'' _=>some (g'',w'')
   |_=>none
  |none=>none
section
variable{P:Program}{main:Bool}{Stop:Goroutine->World->Prop}
theorem Runs.re(hS:∀g w T d,Stop g w->Stop g (w.re T d)){g:Goroutine}{w:World}(h:Runs P main Stop g w)(T:Nat->Question->Nat)(d:Nat):Runs P main Stop g (w.re T d):=by
 cases h with
 |stop h=>exact .stop (hS _ _ _ _ h)
 |step hn h h'=>exact .step (fun q=>hn (by simpa [qRJ,qIE]using hS _ _ w.tape w.drawn q)) (fun T' d'=>h T' d') (fun T' d'=>h' T' d')
structure Tame(P:Program)(main:Bool)(Stop Inv:Goroutine->World->Prop):Prop where
 stop:∀g w T d,Stop g w->Stop g (w.re T d)
 inv:∀g w T d,Inv g w->Inv g (w.re T d)
 kept:∀g w g' w' es,Inv g w->¬Stop g w->stepG P main g w=.go g' w' es->Inv g' w'
 later:∀g w g' w' es,Inv g w->¬Stop g w->stepG P main g w=.go g' w' es->Later w w'
 win:∀g w g' w' es u oa ob,Inv g w->¬Stop g w->stepG P main g w=.go g' w' es->TSim oa ob w'.drawn w u->∃u',stepG P main g u=.go g' u' es/\TSim oa ob w'.drawn w' u'
structure Spot where
 g:Goroutine
 h:World
 T:Nat->Question->Nat
 d:Nat
def qM9(P:Program)(main:Bool)(g0:Goroutine)(w0:World)(k:Nat)(s:Spot):Prop :=
 ∀T,(∀p,p<s.d->∀q,T p q=s.T p q)->goN P main k g0 (w0.re T 0)=some (s.g,s.h.re T s.d)
theorem qT5:∀{m n:Nat}{g:Goroutine}{w:World}{x:Goroutine×World},goN P main (m+n) g w=some x->∃y,goN P main m g w=some y
 |_,0,_,_,x,h=>⟨x,h⟩
 |m,n+1,g,w,x,h=>by
  have h':goN P main (m+n+1) g w=some x:=h;unfold goN at h';cases hy:goN P main (m+n) g w with
  |none=>rw[hy]at h';cases h'
  |some y=>exact qT5 hy
variable{Inv:Goroutine->World->Prop}
theorem qRq(A:Tame P main Stop Inv){g0:Goroutine}{w0:World}(hreach:∀T,∃n x,goN P main n g0 (w0.re T 0)=some x/\Stop x.1 x.2)(k:Nat)(s:Spot)
  (hI:Inv s.g s.h) (hR:¬Runs P main Stop s.g s.h) (hC:qM9 P main g0 w0 k s) (hall:∀T,(∀p,p<s.d->∀q,T p q=s.T p q)->∀j x,j<=k->goN P main j g0 (w0.re T 0)=some x->¬Stop x.1 x.2) :
  ∃s':Spot,Inv s'.g s'.h/\¬Runs P main Stop s'.g s'.h/\qM9 P main g0 w0 (k+1) s'/\s.d<=s'.d/\(∀p,p<s.d->∀q,s'.T p q=s.T p q) /\
   ∀T,(∀p,p<s'.d->∀q,T p q=s'.T p q)->∀j x,j<=k+1->goN P main j g0 (w0.re T 0)=some x->¬Stop x.1 x.2:=by
 have hns:¬Stop s.g s.h:=fun h=>hR (.stop h);obtain⟨Tb,db,hbad⟩:∃T d,¬∃g' w' es,stepG P main s.g (s.h.re T d)=.go g' w' es/\Runs P main Stop g' w':=by
  refine Classical.byContradiction fun hno=>?_;have hall:∀T d,∃g' w' es,stepG P main s.g (s.h.re T d)=.go g' w' es/\Runs P main Stop g' w':=fun T d=>Classical.byContradiction fun h=>hno ⟨T,d,h⟩;refine hR (.step hns (fun T d=>?_) fun T d g' w' es h=>?_)
  ·obtain⟨g',w',es,h,_⟩:=hall T d;exact⟨g',w',es,h⟩
  ·obtain⟨g2,w2,es2,h2,hr⟩:=hall T d;rw[h]at h2;cases h2;exact hr
 let T':Nat->Question->Nat:=fun p q=>if p<s.d then s.T p q else Tb (db+(p-s.d)) q
 have hT':∀p,p<s.d->∀q,T' p q=s.T p q:=fun p hp q=>by simp[T',hp]
 have hk:=hC T' hT';have hIu:Inv s.g (s.h.re T' s.d):=A.inv _ _ _ _ hI;have hnu:¬Stop s.g (s.h.re T' s.d):=fun q=>hns (by simpa [qRJ,qIE]using A.stop _ _ s.h.tape s.h.drawn q);obtain⟨n,x,hn,hx⟩:=hreach T';have hgt:k<n:=by
  refine Classical.byContradiction fun hle=>?_;exact hall T' hT' n x (by omega) hn hx
 obtain⟨y,hy⟩:=qT5 (m:=k+1) (n:=n-(k+1)) (g:=g0) (w:=w0.re T' 0) (x:=x) (by rw[show k+1+(n-(k+1))=n by omega];exact hn);have hy0:=hy;unfold goN at hy;rw[hk]at hy;simp only at hy;cases hst:stepG P main s.g (s.h.re T' s.d)with
 | go g' w' es =>
  have hlat:=A.later _ _ _ _ _ hIu hnu hst;have hw':w'=w'.re T' w'.drawn:=by
   have:w'.tape=T':=hlat.tape;rw[<-this];rfl
  have hd:s.d<=w'.drawn:=hlat.drawn;have hnr:¬Runs P main Stop g' w':=fun hr=>by
   have hsim:TSim s.d db w'.drawn (s.h.re T' s.d) (s.h.re Tb db):=⟨by simp only[World.re];omega,rfl,rfl,rfl,fun i _ q=>by
    have:¬s.d+i<s.d:=by omega
    simp only[World.re,T',if_neg this,Nat.add_sub_cancel_left]⟩
   obtain⟨u',hu,hsu⟩:=A.win _ _ _ _ _ _ _ _ hIu hnu hst hsim;refine hbad ⟨g',u',es,hu,?_⟩;have:u'=w'.re u'.tape u'.drawn:=by
    obtain⟨Tq,dq,e⟩:=hsu.form;rw[e];rfl
   rw[this];exact hr.re A.stop _ _
  have hcome:qM9 P main g0 w0 (k+1) ⟨g',w',T',w'.drawn⟩:=fun T hT=>by
   have hTs:∀p,p<s.d->∀q,T p q=s.T p q:=fun p hp q=>(hT p (Nat.lt_of_lt_of_le hp hd) q).trans (hT' p hp q);have hsim:TSim s.d s.d w'.drawn (s.h.re T' s.d) (s.h.re T s.d):=⟨rfl,rfl,rfl,rfl,fun i hi q=>by simp only[World.re]at hi ⊢;exact hT _ hi q⟩;obtain⟨u',hu,hsu⟩:=A.win _ _ _ _ _ _ _ _ hIu hnu hst hsim;have hIv:Inv s.g (s.h.re T s.d):=A.inv _ _ _ _ hI;have hnv:¬Stop s.g (s.h.re T s.d):=fun q=>hns (by simpa [qRJ,qIE]using A.stop _ _ s.h.tape s.h.drawn q);have hlu:=A.later _ _ _ _ _ hIv hnv hu;have hu':u'=w'.re T w'.drawn:=by
    obtain⟨Tq,dq,e⟩:=hsu.form;have h1:u'.tape=T:=hlu.tape;have h2:u'.drawn=w'.drawn:=by have:=hsu.cnt;omega
    rw[e]at h1 h2 ⊢;simp only at h1 h2;subst h1 h2;rfl
   unfold goN;rw[hC T hTs];simp only[hu,hu']
  refine⟨⟨g',w',T',w'.drawn⟩,A.kept _ _ _ _ _ hIu hnu hst,hnr,hcome,hd,hT',fun T hT j z hj hz=>?_⟩;have hTs:∀p,p<s.d->∀q,T p q=s.T p q:=fun p hp q=>(hT p (Nat.lt_of_lt_of_le hp hd) q).trans (hT' p hp q);rcases Nat.lt_or_ge j (k+1)with hlt|hge
  ·exact hall T hTs j z (by omega) hz
  ·obtain rfl:j=k+1:=by omega
   rw[hcome T hT]at hz;cases hz;exact fun hstop=>hnr (.stop (by simpa [qRJ,qIE]using A.stop _ _ w'.tape w'.drawn hstop))
 |_=>rw[hst]at hy;cases hy
structure Bad(P:Program)(main:Bool)(Stop Inv:Goroutine->World->Prop)(g0:Goroutine)(w0:World)(k:Nat)(s:Spot):Prop where
 inv:Inv s.g s.h
 runs:¬Runs P main Stop s.g s.h
 comes:qM9 P main g0 w0 k s
 all:∀T,(∀p,p<s.d->∀q,T p q=s.T p q)->∀j x,j<=k->goN P main j g0 (w0.re T 0)=some x->¬Stop x.1 x.2
theorem qF0(A:Tame P main Stop Inv){g0:Goroutine}{w0:World}(hI:Inv g0 w0)(hreach:∀T,∃n x,goN P main n g0 (w0.re T 0)=some x/\Stop x.1 x.2):Runs P main Stop g0 w0:=by
 refine Classical.byContradiction fun hR=>?_;have next:∀(k:Nat)(s:{ s:Spot // Bad P main Stop Inv g0 w0 k s }),∃s':{ s:Spot // Bad P main Stop Inv g0 w0 (k+1) s },s.1.d<=s'.1.d/\∀p,p<s.1.d->∀q,s'.1.T p q=s.1.T p q:=by
  rintro k⟨s,h⟩;obtain⟨s',h1,h2,h3,h4,h5,h6⟩:=qRq A hreach k s h.inv h.runs h.comes h.all;exact⟨⟨s',h1,h2,h3,h6⟩,h4,h5⟩
 have first:Bad P main Stop Inv g0 w0 0 ⟨g0,w0,w0.tape,0⟩:=⟨hI,hR,fun T _=>rfl,fun T _ j x hj hx hs=>by
  obtain rfl:j=0:=by omega
  cases hx;exact hR (.stop (by simpa [qRJ,qIE]using A.stop _ _ w0.tape w0.drawn hs))⟩
 let seq:∀k,{ s:Spot // Bad P main Stop Inv g0 w0 k s }:=fun k=>Nat.rec ⟨_,first⟩ (fun k s=>Classical.choose (next k s)) k
 have hseq:∀k,(seq k).1.d<=(seq (k+1)).1.d/\∀p,p<(seq k).1.d->∀q,(seq (k+1)).1.T p q=(seq k).1.T p q:=fun k=>Classical.choose_spec (next k (seq k));have mono:∀k j,(seq k).1.d<=(seq (k+j)).1.d/\∀p,p<(seq k).1.d->∀q,(seq (k+j)).1.T p q=(seq k).1.T p q:=by
  intro k j
  induction j with
  |zero=>exact⟨Nat.le_refl _,fun _ _ _=>rfl⟩
  |succ j ih =>
   have:=hseq (k+j);exact⟨Nat.le_trans ih.1 this.1,fun p hp q=>(this.2 p (Nat.lt_of_lt_of_le hp ih.1) q).trans (ih.2 p hp q)⟩
 let T:Nat->Question->Nat:=fun p q=>open Classical in if h:∃k,p<(seq k).1.d then(seq (Classical.choose h)).1.T p q else 0
 have hT:∀k p,p<(seq k).1.d->∀q,T p q=(seq k).1.T p q:=by
  intro k p hp q;have hex:∃k,p<(seq k).1.d:=⟨k,hp⟩;have hc:=Classical.choose_spec hex;have e:T p q=(seq (Classical.choose hex)).1.T p q:=by simp only[T];rw[dif_pos hex]
  rw[e];rcases Nat.le_total (Classical.choose hex) k with hle|hle
  ·have:=(mono (Classical.choose hex) (k-Classical.choose hex)).2 p hc q;rw[show Classical.choose hex+(k-Classical.choose hex)=k by omega]at this;exact this.symm
  ·have:=(mono k (Classical.choose hex-k)).2 p hp q;rw[show k+(Classical.choose hex-k)=Classical.choose hex by omega]at this;exact this
 obtain⟨n,x,hn,hx⟩:=hreach T;exact(seq n).2.all T (fun p hp q=>hT n p hp q) n x (Nat.le_refl _) hn hx
end
