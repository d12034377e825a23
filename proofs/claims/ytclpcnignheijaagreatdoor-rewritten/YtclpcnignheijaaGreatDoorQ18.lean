/-
  Parts of the proof: L11, L12, L13.
-/
import Derived.Test.YtclpcnignheijaaGreatDoorQ17
import Derived.Conc.CompanyCalls
namespace Go.Proofs.YtclpcnignheijaaGreatDoor
open Go
section
variable{P:Program}{al:Cfg}{gl:Nat->Bool}{Shr:Nat->Prop}{π:Ren P.globals.size}{st:Fl}
def qSD:GStep->Prop
 |.go ..|.ended ..=>True
 |_=>False
def WinR(v:World)(f:World->GStep):Prop:=qSD (f v) /\
 ∀g1 v1 es,f v=.go g1 v1 es->Later v v1/\∀u oa ob,TSim oa ob v1.drawn v u->∃u1,f u=.go g1 u1 es/\TSim oa ob v1.drawn v1 u1
theorem WinR.pure(v:World)(g:Goroutine)(es:Array Event):WinR v fun w=>.go g w es:=by
 refine⟨trivial,fun g1 v1 es1 h=>?_⟩;cases h;exact⟨.refl v,fun u oa ob hu=>⟨u,rfl,hu⟩⟩
theorem WinR.none{v:World}{f:World->GStep}(hg:qSD (f v))(h:∀g1 v1 es,f v≠.go g1 v1 es):WinR v f:=⟨hg,fun g1 v1 es e=>absurd e (h g1 v1 es)⟩
theorem qNe{α:Type}{s:Sem α}{v v2 u:World}{a:α}{es:Array Event}{oa ob:Nat}(hq:qB7 P s v)(hr:s.runT P v #[]=(.ok a v2,es))(hu:TSim oa ob v2.drawn v u):∃u1,s.runT P u #[]=(.ok a u1,es)/\TSim oa ob v2.drawn v2 u1:=by
 obtain⟨x1,x2⟩:=qKI P s #[] hu hq (by rw[hr];exact Nat.le_refl _);rw[hr]at x1 x2;generalize s.runT P u #[]=r' at x1 x2 ⊢;obtain⟨r',es'⟩:=r';simp only at x1 x2;subst x2;cases r' with
 |ok b u1=>obtain⟨rfl,hs⟩:=x1;exact⟨u1,rfl,hs⟩
 |halt _ _=>exact x1.elim
theorem qSv{α:Type}{s:Sem α}{v v2 u:World}{a:Halt}{es:Array Event}{oa ob:Nat}(hq:qB7 P s v)(hr:s.runT P v #[]=(.halt a v2,es))(hu:TSim oa ob v2.drawn v u):∃u1,s.runT P u #[]=(.halt a u1,es)/\TSim oa ob v2.drawn v2 u1:=by
 obtain⟨x1,x2⟩:=qKI P s #[] hu hq (by rw[hr];exact Nat.le_refl _);rw[hr]at x1 x2;generalize s.runT P u #[]=r' at x1 x2 ⊢;obtain⟨r',es'⟩:=r';simp only at x1 x2;subst x2;cases r' with
 |ok _ _=>exact x1.elim
 |halt b u1=>obtain⟨rfl,hs⟩:=x1;exact⟨u1,rfl,hs⟩
theorem qKn(hV:qCj P){fr:Frame}{cs:List Frame}{s s':Sem Next}(hsem:SRel P (fun f=>al f=true) Shr (NR (fun f=>al f=true)) π s s'){v w:World}(hw:WRel (fun f=>al f=true) Shr π v w) :
  WinR v fun u=>stepG.apply P true fr cs none s u:=by
 have hrun:=hsem.run hV #[] #[] hw (by simp);have hq:=hsem.quiet hV hw;have hl:=qEm P s v #[];refine⟨?_,fun g1 v1 es h=>?_⟩
 ·unfold stepG.apply;simp only[if_true];generalize s.runT P v #[]=r at hrun ⊢;obtain⟨r,es0⟩:=r;cases r with
  |ok a v2 =>
   obtain⟨z,w1,es1,π',e,hab,-,-,-,-⟩:=hrun;cases hab<;>trivial
  | halt y v2 =>
   cases y with
   |unsupported x =>
    cases x with
    |initOrder g=>exact absurd rfl (hrun g)
    |_=>trivial
   |panic y=>trivial
   |stuck m=>trivial
   |_=>exact hrun.elim
 unfold stepG.apply at h ⊢;simp only[if_true]at h ⊢;generalize hr:s.runT P v #[]=r at h hl hrun;obtain⟨r,es0⟩:=r;cases r with
 | ok a v2 =>
  obtain⟨z,w1,es1,π',e,hab,-,-,-,-⟩:=hrun;cases hab with
  |value hv =>
   cases h;refine⟨hl,fun u oa ob hu=>?_⟩;obtain⟨u1,e,hs⟩:=qNe hq hr hu;rw[e];exact⟨u1,rfl,hs⟩
  |skip =>
   cases h;refine⟨hl,fun u oa ob hu=>?_⟩;obtain⟨u1,e,hs⟩:=qNe hq hr hu;rw[e];exact⟨u1,rfl,hs⟩
  |enter hf hb ha =>
   cases h;refine⟨hl,fun u oa ob hu=>?_⟩;obtain⟨u1,e,hs⟩:=qNe hq hr hu;rw[e];exact⟨u1,rfl,hs⟩
 | halt y v2 =>
  cases y with
  |panic y =>
   cases h;refine⟨hl,fun u oa ob hu=>?_⟩;obtain⟨u1,e,hs⟩:=qSv hq hr hu;rw[e];exact⟨u1,rfl,hs⟩
  |stuck m=>cases h
  |unsupported x =>
   cases x with
   |initOrder g=>exact absurd rfl (hrun g)
   |_=>cases h
  |_=>exact hrun.elim
theorem qSs{fr fr':Frame}(hF:FRel P al gl st π fr fr')(S:Setup P al gl Shr)(hg:∀g,gl g=true->π g g){cs:List Frame}{v w:World}(hw:WRel (fun f=>al f=true) Shr π v w)(main:Bool)(hns0:st.stops=false) :
  WinR v fun u=>stepG.exec P main true fr cs none u:=by
 obtain⟨fn,tmps,todo,defers,mode,kind,round⟩:=fr;obtain rfl:round=none:=hF.round;have hT:TodoR P al gl st todo fr'.todo:=hF.todo;generalize fr'.todo=todo' at hT;cases hT with
 |nil=>exact WinR.pure _ _ _
 |tail _=>exact WinR.none trivial (by intro _ _ _ h;cases h)
 | @cons x hx k k' hk' =>
  cases x with
  | code c =>
   cases c with
   |ret=>exact WinR.pure _ _ _
   |skip=>exact WinR.pure _ _ _
   |refuse s=>exact WinR.none trivial (by intro _ _ _ h;cases h)
   |label l=>exact WinR.pure _ _ _
   |seq a b=>exact WinR.pure _ _ _
   |cond c a b =>
    unfold stepG.exec;simp only;generalize Frame.eval _ c=e;cases e<;>first|exact WinR.pure _ _ _|exact WinR.none trivial (by intro _ _ _ h;cases h)
   |block id c=>exact WinR.pure _ _ _
   |loop c=>exact WinR.pure _ _ _
   |scope c=>exact WinR.pure _ _ _
   |exit id =>
    unfold stepG.exec;simp only;cases he:exitTo id k with
    |none=>exact WinR.none trivial (by intro _ _ _ h;cases h)
    |some k'=>exact WinR.pure _ _ _
   | region id ops draw =>
    cases draw with
    |false=>exact WinR.pure _ _ _
    |true =>
     unfold stepG.exec;simp only[Bool.not_true,Bool.false_eq_true,if_false];have e1:∀u:World,(choose (.order fn id)).run P u=.ok (u.tape u.drawn (.order fn id)) { u with drawn:=u.drawn+1 }:=fun u=>rfl;refine⟨by simp only[e1];trivial,fun g1 v1 es h=>?_⟩;simp only[e1]at h;cases h;refine⟨⟨rfl,Nat.le_succ _⟩,fun u oa ob hu=>?_⟩;have e:=hu.tape 0 (by simp) (.order fn id);simp only[Nat.add_zero]at e;simp only[e1,e];exact⟨_,rfl,hu.drew⟩
   |_=>cases hx
  |inBlock id=>exact WinR.pure _ _ _
  |inScope c=>exact WinR.pure _ _ _
  |inLoop c=>exact WinR.pure _ _ _
  | inRegion ops l =>
   cases l with
   |nil=>exact WinR.pure _ _ _
   | cons i l =>
    unfold stepG.exec;simp only;split
    ·unfold stepG.oper;simp only[Frame.oper?];cases ho:ops[i]? with
     |none=>exact WinR.none trivial (by intro _ _ _ h;cases h)
     | some o =>
      simp only;have hoo:qEF P al gl st.stops o=true:=by
       simp only[qCR,Array.all_eq_true]at hx;obtain⟨hlt,rfl⟩:=Array.getElem?_eq_some_iff.1 ho;exact hx i hlt
      simp only[qEF,Bool.and_eq_true,Array.all_eq_true',Bool.or_eq_true]at hoo;by_cases hdd:qFZ P o.op=true
      ·exact qKn S.fine (qWH hdd (fun g=>rfl) (execOp fr'.eval o)) hw
      have hoo:=(hoo.resolve_right hdd).resolve_right fun q=>by rw[hns0]at q;cases q.1
      have hop:qLY P al o.op=true:=hoo.1;exact qKn S.fine (qU9 (fun _ h=>h) S.free S.good hg hop (fun x hx=>eval_rel hF hg (hoo.2 x hx)) (fun v=>rfl)) hw
    ·exact WinR.pure _ _ _
  |_=>cases hx
theorem qKT(hns0:st.stops=false)(S:Setup P al gl Shr)(hg:∀g,gl g=true->π g g){b:Frame}{b':List Frame}{g g':Goroutine}(h:GRel P al gl st π b b' g g'){v w:World}(hw:WRel (fun f=>al f=true) Shr π v w)(main:Bool)(hcs:g.callers≠[]) :
  WinR v fun u=>stepG P main g u:=by
 obtain⟨fr,cs,sx,dy,of⟩:=g;obtain⟨hs,h3,h4,h5,h6,h7,h8⟩:=h;simp only at hs h3 h5 hcs;subst h3 h5;have h1:=hs.top;have hm:=h1.mode;unfold stepG;simp only;cases hmode:fr.mode with
 |run=>exact qSs h1 S hg hw main hns0
 | returning =>
  simp only;unfold unwind;rw[h1.defers,hmode];simp only;obtain⟨c,cs,rfl⟩:∃c l,cs=c::l:=by cases cs with|nil=>exact absurd rfl hcs|cons c l=>exact⟨c,l,rfl⟩
  cases hf:P.funcs[fr.fn]? with
  |none =>
   unfold doReturn;rw[h1.normal];exact WinR.pure v _ _
  | some fn =>
   simp only;have hsem:=sResults (Shr:=Shr) fn h1.tmps;have hrun:=hsem.run S.fine #[] #[] hw (by simp);have hq:=hsem.quiet S.fine hw;have hl:=qEm P (results fn fr.tmps) v #[];refine⟨?_,fun g1 v1 es h=>?_⟩
   ·dsimp only;generalize (results fn fr.tmps).runT P v #[]=r at hrun ⊢;obtain⟨r,es0⟩:=r;cases r with
    |ok a v2 =>
     unfold doReturn;rw[h1.normal];trivial
    |halt y v2=>cases y<;>trivial
   dsimp only at h;generalize hr:(results fn fr.tmps).runT P v #[]=r at h hl hrun;obtain⟨r,es0⟩:=r;cases r with
   |ok a v2 =>
    simp only at h;unfold doReturn at h ⊢;have hk:=h1.normal;rw[hk]at h ⊢;cases h;refine⟨hl,fun u oa ob hu=>?_⟩;obtain⟨u1,e,hs⟩:=qNe hq hr hu;simp only[e];exact⟨u1,rfl,hs⟩
   |halt y v2 =>
    cases y<;>first|exact hrun.elim|cases h
 |panicking ch =>
  simp only;unfold unwind;rw[h1.defers,hmode];have c1:fr.catches P=false:=(qDc h1.todo).1;simp only[c1,Bool.false_eq_true,if_false];obtain⟨c,cs,rfl⟩:∃c l,cs=c::l:=by cases cs with|nil=>exact absurd rfl hcs|cons c l=>exact⟨c,l,rfl⟩
  exact WinR.pure _ _ _
def deadEnd (P : Program) : Frame := { fn := P.funcs.size, tmps := #[], todo := [.code (.refuse "")], defers := [{ target := .fn (.method "") #[], args := #[] }], mode := .run, kind := .normal }
def going(fr:Frame)(cs:List Frame):Goroutine:={ frame:=fr,callers:=cs,status:=.running,dying:=none }
def qUQ(P:Program)(main:Bool)(g:Goroutine):Prop:=(∃fr cs,g=going fr cs)/\∀w,∃o w' es,stepG P main g w=.ended o w' es
theorem qSj(main:Bool):qUQ P main (going (deadEnd P) []):=by
 refine⟨⟨_,_,rfl⟩,fun w=>?_⟩;unfold stepG going;simp only[deadEnd];unfold stepG.exec;exact⟨_,_,_,rfl⟩
theorem qMK(main:Bool)(ch:List PanicEntry):qUQ P main (going ((deadEnd P).raise ch) []):=by
 refine⟨⟨_,_,rfl⟩,fun w=>?_⟩;unfold stepG going;simp only[deadEnd,Frame.raise];unfold unwind callDeferred;simp only[invoke];exact⟨_,_,_,rfl⟩
def qUP(g:Goroutine):Prop:=g.frame.mode=.returning/\Low g.callers=true
def qTz(P:Program)(al:Cfg)(gl:Nat->Bool)(st:Fl)(Shr:Nat->Prop)(main:Bool)(g:Goroutine)(v:World):Prop :=
 (∃(π:Ren P.globals.size)(b':List Frame)(g':Goroutine)(w:World),GRel P al gl st π (deadEnd P) b' g g'/\WRel (fun f=>al f=true) Shr π v w/\(∀g,gl g=true->π g g)/\∃fr cs,g=going fr cs)\/qUQ P main g
theorem GRel.going{b:Frame}{b':List Frame}{g g':Goroutine}(h:GRel P al gl st π b b' g g'):g=going g.frame g.callers:=by
 obtain⟨fr,cs,sx,dy,of⟩:=g;obtain⟨-,h3,-,h5,-,-,h8⟩:=h;simp only at h3 h5 h8;subst h3 h5 h8;rfl
theorem qHO{main:Bool}{fr:Frame}{cs:List Frame}{b':List Frame}{g':Goroutine}(h1:GRel P al gl st π (deadEnd P) b' (going fr cs) g')(hm:fr.mode≠.run)(hl:Low cs=true){v:World}{g1:Goroutine}{v1:World}{es:Array Event}(hst:stepG P main (going fr cs) v=.go g1 v1 es):qUQ P main g1/\g1.callers=[]:=by
 obtain⟨fr',cs',sx',dy',of'⟩:=g';obtain⟨hs,e3,-,e5,-,-,-⟩:=h1;simp only[going]at hs e3 e5;have hF:=hs.top;obtain rfl:cs=[deadEnd P]:=by
  cases hs with
  |base h=>rfl
  |up h hr t=>cases t<;>simp[Low]at hl
 unfold stepG at hst;simp only[going]at hst;cases hmode:fr.mode with
 |run=>exact absurd hmode hm
 | returning =>
  unfold unwind at hst;rw[hF.defers,hmode]at hst;simp only at hst;have hk:fr.kind=.normal:=hF.normal;have key:∀(x:Value)(u:World)(es0:Array Event),GStep.after es0 (doReturn P main fr [deadEnd P] none x u)=.go g1 v1 es->qUQ P main g1/\g1.callers=[]:=by
   intro x u es0 h;unfold doReturn at h;rw[hk]at h;cases h;exact⟨qSj main,rfl⟩
  cases hf:P.funcs[fr.fn]? with
  |none =>
   rw[hf]at hst;simp only at hst;refine key (fr.tmps.getD 0 undef) v #[] ?_;rw[hst];simp[GStep.after]
  |some fn =>
   rw[hf]at hst;simp only at hst;generalize (results fn fr.tmps).runT P v #[]=r at hst;obtain⟨r,es0⟩:=r;cases r with
   |ok a v2=>exact key _ _ _ hst
   |halt y v2=>cases y<;>cases hst
 |panicking ch =>
  unfold unwind at hst;rw[hF.defers,hmode]at hst;have c1:fr.catches P=false:=(qDc hF.todo).1;simp only[c1,Bool.false_eq_true,if_false]at hst;cases hst;exact⟨qMK main ch,rfl⟩
theorem qKD(hns0:st.stops=false)(S:Setup P al gl Shr)(main:Bool){Q:Goroutine->World->Prop}(hQ:∀g w T d,Q g w->Q g (w.re T d)):Tame P main Q (qTz P al gl st Shr main):=by
 refine⟨hQ,?_,?_,?_,?_⟩
 ·rintro g w T d (⟨π,b',g',w',h1,h2,h3,h4⟩|hd)
  ·exact .inl ⟨π,b',g',w'.re T d,h1,⟨rfl,rfl,h2.os,h2.low,h2.obj,h2.shr,h2.gv,h2.gw,h2.dead⟩,h3,h4⟩
  ·exact .inr hd
 ·rintro g v g1 v1 es (⟨π,b',g',w',h1,h2,h3,fr,cs,rfl⟩|hd) hns hst
  ·by_cases hlow:fr.mode≠.run/\Low cs=true
   ·exact .inr (qHO h1 hlow.1 hlow.2 hst).1
   ·left;have hn:(going fr cs).frame.mode≠.run->Low (going fr cs).callers=false:=fun hm=>by
     cases hl:Low (going fr cs).callers with
     |true=>exact absurd ⟨hm,hl⟩ hlow
     |false=>rfl
    have:=qF3 S h3 h1 hn (fun q _=>by rw[hns0]at q;cases q) h2 main;rw[hst]at this;obtain⟨g1',w1,es',π',-,x1,x2,x3,-,-⟩:=this;exact⟨π',b',g1',w1,x1,x2,fun g hg=>x3.le _ _ (h3 g hg),⟨_,_,x1.going⟩⟩
  ·obtain⟨o,w',es',e⟩:=hd.2 v;rw[e]at hst;cases hst
 ·rintro g v g1 v1 es (⟨π,b',g',w',h1,h2,h3,h4⟩|hd) hns hst
  ·exact((qKT hns0 S h3 h1 h2 main h1.stk.ne).2 g1 v1 es hst).1
  ·obtain⟨o,w',es',e⟩:=hd.2 v;rw[e]at hst;cases hst
 ·rintro g v g1 v1 es u oa ob (⟨π,b',g',w',h1,h2,h3,h4⟩|hd) hns hst hu
  ·exact((qKT hns0 S h3 h1 h2 main h1.stk.ne).2 g1 v1 es hst).2 u oa ob hu
  ·obtain⟨o,w',es',e⟩:=hd.2 v;rw[e]at hst;cases hst
theorem qH8(hns0:st.stops=false)(S:Setup P al gl Shr){main:Bool}{g:Goroutine}{v:World}(h:qTz P al gl st Shr main g v):qSD (stepG P main g v)/\∃fr cs,g=going fr cs:=by
 rcases h with⟨π,b',g',w',h1,h2,h3,h4⟩|hd
 ·exact⟨(qKT hns0 S h3 h1 h2 main h1.stk.ne).1,h4⟩
 ·obtain⟨o,w',es',e⟩:=hd.2 v;exact⟨by rw[e];trivial,hd.1⟩
theorem step_lone{fr:Frame}{cs:List Frame}{w:World}{m:Machine}(h:step P (lone fr cs w)=.next m)(hg:qSD (stepG P true (going fr cs) w)) :
  ∃g w' es,stepG P true (going fr cs) w=.go g w' es/\((∃fr' cs',g=going fr' cs')->m=lone g.frame g.callers w'):=by
 generalize hs:stepG P true (going fr cs) w=s at hg;cases s with
 | go g w' es =>
  refine⟨g,w',es,rfl,?_⟩;rintro⟨fr',cs',rfl⟩;have:=step_lone_go (P:=P) (fr:=fr) (cs:=cs) (w:=w) (fr':=fr') (cs':=cs') (w':=w') (by
   rw[show({ frame:=fr,callers:=cs,status:=.running,dying:=none }:Goroutine)=going fr cs from rfl,hs];rfl)
  rw[this]at h;cases h;rfl
 | ended o w' es =>
  have:=step_lone_ended (P:=P) (fr:=fr) (cs:=cs) (w:=w) (w':=w') (o:=o) (by
   rw[show({ frame:=fr,callers:=cs,status:=.running,dying:=none }:Goroutine)=going fr cs from rfl,hs];rfl)
  rw[this]at h;cases h
 |_=>exact hg.elim
theorem qPK:∀(n:Nat)(m m':Machine),runN P (n+1) m=.next m'->∃m1,step P m=.next m1/\runN P n m1=.next m':=by
 intro n m m' h;simp only[runN]at h;cases hs:step P m with
 |next m1=>rw[hs]at h;exact⟨m1,rfl,h⟩
 |ended o w=>rw[hs]at h;cases h
theorem qNQ:∀(n:Nat){g g1:Goroutine}{w w1:World}{es:Array Event},stepG P true g w=.go g1 w1 es->goN P true (n+1) g w=goN P true n g1 w1:=by
 intro n
 induction n with
 |zero=>intro g g1 w w1 es h;simp[goN,h]
 | succ n ih =>
  intro g g1 w w1 es h;have e:=ih h;show(match goN P true (n+1) g w with
   |some (g',w')=>match stepG P true g' w' with
    |.go g'' w'' _=>some (g'',w'')
    |_=>none
   |none=>none)=goN P true (n+1) g1 w1
  rw[e];rfl
theorem qJ4(hns0:st.stops=false)(S:Setup P al gl Shr){Q:Goroutine->World->Prop}(hQ:∀g w T d,Q g w->Q g (w.re T d)):∀(n:Nat){g:Goroutine}{v:World}{m:Machine},qTz P al gl st Shr true g v->runN P n (lone g.frame g.callers v)=.next m ->
  (∃j x,goN P true j g v=some x/\Q x.1 x.2)\/∃g' v',goN P true n g v=some (g',v')/\m=lone g'.frame g'.callers v'/\qTz P al gl st Shr true g' v':=by
 intro n
 induction n with
 |zero =>
  intro g v m hO h;simp only[runN]at h;cases h;obtain⟨fr,cs,rfl⟩:=(qH8 hns0 S hO).2;exact .inr ⟨_,v,rfl,rfl,hO⟩
 | succ n ih =>
  intro g v m hO h;obtain⟨hge,fr,cs,rfl⟩:=qH8 hns0 S hO;by_cases hstop:Q (going fr cs) v
  ·exact .inl ⟨0,_,rfl,hstop⟩
  ·obtain⟨m1,h1,h2⟩:=qPK _ _ _ h;obtain⟨g1,v1,es,hst,hm1⟩:=step_lone h1 hge;have hO1:=(qKD hns0 S true hQ).kept _ _ _ _ _ hO hstop hst;have hg1:=(qH8 hns0 S hO1).2;rw[hm1 hg1]at h2;rcases ih hO1 h2 with⟨j,x,hj,hx⟩|⟨g',v',hj,e1,e2⟩
   ·exact .inl ⟨j+1,x,(qNQ j hst).trans hj,hx⟩
   ·exact .inr ⟨g',v',(qNQ n hst).trans hj,e1,e2⟩
def Ret(P:Program)(Post:Value->World->Prop)(g:Goroutine)(v:World):Prop :=
 g.frame.defers=[]/\g.frame.kind=.normal/\∃fn x,P.funcs[g.frame.fn]? = some fn/\(∀T d,(results fn g.frame.tmps).run P (v.re T d)=.ok x (v.re T d))/\Post x v
theorem qPJ(hV:qCj P){fn:Func}{t t':Array Value}(h:VsRel (fun f=>al f=true) π t t'){v w:World}(hw:WRel (fun f=>al f=true) Shr π v w){x:Value}(hr:(results fn t).run P v=.ok x v)(T:Nat->Question->Nat)(d:Nat) :
  (results fn t).run P (v.re T d)=.ok x (v.re T d):=by
 have hq:=(sResults (P:=P) (Shr:=Shr) fn h).quiet hV hw;have e0:((results fn t).runT P v #[]).1=.ok x v:=by rw[Sem.runT_eq];exact hr
 have hsim:TSim v.drawn d v.drawn v (v.re T d):=⟨by simp only[World.re];omega,rfl,rfl,rfl,fun i hi=>by omega⟩;obtain⟨x1,-⟩:=qKI P (results fn t) #[] hsim hq (by rw[e0];exact Nat.le_refl _);have hl:=qEm P (results fn t) (v.re T d) #[];rw[e0]at x1;have e1:((results fn t).runT P (v.re T d) #[]).1=(results fn t).run P (v.re T d):=by rw[Sem.runT_eq]
 rw[e1]at x1 hl;generalize (results fn t).run P (v.re T d)=r at x1 hl ⊢;cases r with
 |ok y u =>
  obtain⟨rfl,hs⟩:=x1;obtain⟨Tq,dq,rfl⟩:=hs.form;have h1:Tq=T:=hl.tape;have h2:dq=d:=by have:=hs.cnt;simp only at this;omega
  rw[h1,h2];rfl
 |halt _ _=>exact x1.elim
theorem qFz(hns0:st.stops=false)(S:Setup P al gl Shr){f:FuncId}{args:Array Value}{v:World}(hO:qTz P al gl st Shr true (going (Frame.enter P f args .normal) [deadEnd P]) v){Post:Value->World->Prop}
  (hP:∀x w T d,Post x w->Post x (w.re T d)) (hC:∀T,Calls P f args (v.re T 0) fun e w'=>∃x,e=.returned x/\Post x w') :
  Runs P true (fun g w=>qUP g/\Ret P Post g w) (going (Frame.enter P f args .normal) [deadEnd P]) v:=by
 have hQ:∀g w T d,Ret P Post g w->Ret P Post g (w.re T d):=fun g w T d ⟨h1,h2,fn,x,h3,h4,h5⟩=>⟨h1,h2,fn,x,h3,fun T' d'=>h4 T' d',hP _ _ _ _ h5⟩;have hQ':∀g w T d,(qUP g/\Ret P Post g w)->(qUP g/\Ret P Post g (w.re T d)):=fun g w T d h=>⟨h.1,hQ _ _ _ _ h.2⟩;have A:=qKD hns0 S true hQ';refine qF0 A hO fun T=>?_;obtain⟨e,w',fr,⟨x,rfl,hpost⟩,⟨n,hn⟩,hfn,hm,hd,hk,fn,hfu,hres⟩:=hC T [deadEnd P];rcases qJ4 hns0 S hQ' n (A.inv _ _ T 0 hO) hn with⟨j,y,hj,hy⟩|⟨g',v',hj,e1,hO'⟩
 ·exact⟨j,y,hj,hy⟩
 ·refine⟨n,(g',v'),hj,?_⟩;have e2:g'.frame=fr/\g'.callers=[deadEnd P]/\v'=w':=by
   have h1:=congrArg (fun m:Machine=>m.world) e1;have h2:=congrArg (fun m:Machine=>m.gs) e1;simp only[lone,Array.mk.injEq,List.cons.injEq,Goroutine.mk.injEq,and_true]at h1 h2;exact⟨h2.1.symm,h2.2.symm,h1.symm⟩
  obtain⟨e2,e3,rfl⟩:=e2;have hb:qUP g':=⟨by rw[e2];exact hm,by rw[e3];rfl⟩;refine⟨hb,by rw[e2];exact hd,by rw[e2];exact hk,fn,x,by rw[e2];exact hfu,fun T' d'=>?_,hpost⟩;rcases hO' with⟨π,b',g2,w2,h1,h2,h3,-⟩|hdead
  ·have hF:=h1.stk.top;rw[e2]at hF ⊢;exact qPJ S.fine hF.tmps h2 hres T' d'
  ·obtain⟨o,w3,es,he⟩:=hdead.2 v';obtain⟨fr2,cs2,rfl⟩:=hdead.1;simp only[going]at e2 e3;subst e2 e3
   exfalso
   unfold stepG at he;simp only[going,hm]at he;unfold unwind at he;rw[hd,hm]at he;simp only[hfu]at he;have e0:(results fn fr2.tmps).runT P v' #[]=(.ok x v',((results fn fr2.tmps).runT P v' #[]).2):=by
    have:((results fn fr2.tmps).runT P v' #[]).1=.ok x v':=by rw[Sem.runT_eq];exact hres
    rw[<-this]
   rw[e0]at he;unfold doReturn at he;simp only[hk]at he;cases he
end
def qEz(w:World):Os×Array (Nat×ByteArray):=(w.os,w.output)
structure Rely(N0:Nat)(O:Nat->Prop)(w w1:World):Prop where
 size:w.heap.size<=w1.heap.size
 own:∀r,O r->w1.heap[r]? = w.heap[r]?
 old:∀r,r<N0->w1.heap[r]? = w.heap[r]?
 os:qEz w1=qEz w
theorem Rely.refl(N0:Nat)(O:Nat->Prop)(w:World):Rely N0 O w w:=⟨Nat.le_refl _,fun _ _=>rfl,fun _ _=>rfl,rfl⟩
theorem Rely.trans{N0:Nat}{O:Nat->Prop}{a b c:World}(h:Rely N0 O a b)(k:Rely N0 O b c):Rely N0 O a c :=
 ⟨Nat.le_trans h.size k.size,fun r hr=>(k.own r hr).trans (h.own r hr),fun r hr=>(k.old r hr).trans (h.old r hr),k.os.trans h.os⟩
def EvO(N0:Nat)(O:Nat->Prop)(e:Event):Prop :=
 (∃a,e.loc=.cell a/\e.sync=false/\(O a.block\/(a.block<N0/\e.write=false)))\/(∃r,e.loc=.obj r/\e.sync=false/\(O r\/(r<N0/\e.write=false)))\/e.loc=.mark .noRoom
def grow(O:Nat->Prop)(w w':World):Nat->Prop:=fun r=>O r\/(w.heap.size<=r/\r<w'.heap.size)
structure Guar(N0:Nat)(O:Nat->Prop)(w w':World)(es:Array Event):Prop where
 size:w.heap.size<=w'.heap.size
 same:∀r,r<w.heap.size->¬O r->w'.heap[r]? = w.heap[r]?
 rest:w'.os=w.os/\w'.output=w.output/\w'.tape=w.tape/\w.drawn<=w'.drawn
 evs:∀e∈es,EvO N0 (grow O w w') e
theorem Guar.oo{N0:Nat}{O:Nat->Prop}{w w':World}{es:Array Event}(h:Guar N0 O w w' es):qEz w'=qEz w:=Prod.ext h.rest.1 h.rest.2.1
theorem Kept.oo{G:Nat}{Shr:Nat->Prop}{π:Ren G}{w w':World}(h:Kept Shr π w w'):qEz w'=qEz w:=Prod.ext h.rest.1 h.rest.2.1
inductive Prog (P:Program) (m:Bool) (N0:Nat) (Stop:(Nat->Prop)->Goroutine->World->Prop):(Nat->Prop)->Goroutine->World->Prop
 |stop {O:Nat->Prop} {g:Goroutine} {w:World} (h:∀w1,Rely N0 O w w1->Stop O g w1):Prog P m N0 Stop O g w
 | step {O : Nat → Prop} {g : Goroutine} {w : World} (hr : g.status = .running) (go : ∀ w1, Rely N0 O w w1 → ∃ g' w' es, stepG P m g w1 = .go g' w' es ∧ g'.status = .running ∧ Guar N0 O w1 w' es)
   (next:∀w1 g' w' es,Rely N0 O w w1->stepG P m g w1=.go g' w' es->Prog P m N0 Stop (grow O w1 w') g' w'):Prog P m N0 Stop O g w
section
variable{P:Program}{m:Bool}{N0:Nat}{Stop Stop':(Nat->Prop)->Goroutine->World->Prop}
variable{al:Cfg}{gl:Nat->Bool}{st:Fl}
theorem WRel.rely{Al:FuncId->Prop}{G:Nat}{π:Ren G}{O:Nat->Prop}{v w w1:World}(hw:WRel Al (fun r=>r<N0) π v w)(hO:∀r r',π r r'->r'<N0\/O r')(hr:Rely N0 O w w1):WRel Al (fun r=>r<N0) π (v.re w1.tape w1.drawn) w1:=by
 have same:∀{r r'},π r r'->w1.heap[r']? = w.heap[r']?:=fun p=>(hO _ _ p).elim (hr.old _) (hr.own _);exact⟨rfl,rfl,(congrArg Prod.fst hr.os).trans hw.os,fun p=>⟨(hw.low p).1,Nat.lt_of_lt_of_le (hw.low p).2 hr.size⟩,fun p=>by rw[same p];exact hw.obj p,fun r h=>Nat.lt_of_lt_of_le (hw.shr r h) hr.size,hw.gv,Nat.le_trans hw.gw hr.size,hw.dead⟩
theorem qJV{g:Goroutine}{w:World}(hd:g.dying=none)(hc:g.callers≠[])(hro:g.frame.roundOf=none)(m m':Bool):stepG P m g w=stepG P m' g w:=by
 obtain⟨fr,cs,st,dy,of⟩:=g;simp only at hd hc hro;subst hd;obtain⟨c,cs,rfl⟩:∃c l,cs=c::l:=by cases cs with|nil=>exact absurd rfl hc|cons c l=>exact⟨c,l,rfl⟩
 unfold stepG;simp only;cases hm:fr.mode with
 |run =>
  simp only;unfold stepG.exec;simp only[hro]
 |returning =>
  simp only;unfold unwind doReturn;rfl
 |panicking ch =>
  simp only;unfold unwind;rw[hm]
def qW6(P:Program)(al:Cfg)(gl:Nat->Bool)(N0:Nat)(π0:Ren P.globals.size)(Post:Value->World->Prop)(cs':List Frame)(O:Nat->Prop)(g':Goroutine)(w:World):Prop :=
 ∃(π:Ren P.globals.size)(v:World)(x x':Value),Ren.le π0 π/\Post x v/\VRel (fun f=>al f=true) π x x'/\WRel (fun f=>al f=true) (fun r=>r<N0) π v w/\(∀r r',π r r'->r'<N0\/O r')/\(∀g,gl g=true->π g g) /\
  g'=going g'.frame cs'/\g'.frame.mode=.returning/\g'.frame.defers=[]/\g'.frame.kind=.normal/\∃fn,P.funcs[g'.frame.fn]? = some fn/\(results fn g'.frame.tmps).run P w=.ok x' w/\∀e∈seen P g'.frame.fn ((results fn g'.frame.tmps).runT P w #[]).2,EvO N0 O e
def Still(P:Program){α:Type}(s:Sem α):Prop:=∀w a w',s.run P w=.ok a w'->w'=w
theorem Still.bind{α β:Type}{s:Sem α}(h:Still P s){f:α->Sem β}(hf:∀a,Still P (f a)):Still P (s >>= f):=by
 intro w a w' e;rw[Sem.run_bind]at e;cases hs:s.run P w with
 |ok b w1 =>
  rw[hs]at e;obtain rfl:=h w b w1 hs;exact hf b _ a w' e
 |halt y w1=>rw[hs]at e;cases e
theorem Still.pure{α:Type}(a:α):Still P (Pure.pure a:Sem α):=by
 intro w b w' e;cases e;rfl
theorem Still.stuck{α:Type}(m:String):Still P (stuck m:Sem α):=by
 intro w b w' e;cases e
theorem qF4:Still P program:=by intro w b w' e;cases e;rfl
theorem qJW(a:Addr):Still P (load a):=by
 intro w b w' e;unfold load at e;simp only[Sem.run]at e;split at e
 ·cases e;rfl
 ·split at e
  ·cases e;rfl
  ·cases e
theorem qIr(t:TypeId):Still P (typeInfo t):=by
 unfold typeInfo;refine Still.bind qF4 fun p=>?_;split
 ·exact Still.pure _
 ·exact Still.stuck _
theorem qG9(t:TypeId):Still P (underlying t):=by
 unfold underlying;refine Still.bind qF4 fun p=>?_;split
 ·exact Still.pure _
 ·exact Still.stuck _
theorem qE1(a:Addr):∀(n i:Nat)(acc:Array Value),Still P (loadCellsFrom a i n acc)
 |0,_,acc=>Still.pure acc
 |n+1,i,acc=>by
  unfold loadCellsFrom;exact Still.bind (qJW _) fun v=>qE1 a n (i+1) _
theorem qKU(t:TypeId)(a:Addr):Still P (loadVar t a):=by
 unfold loadVar isAgg sizeOf loadCells;refine Still.bind (Still.bind (qG9 t) fun d=>?_) fun b=>?_
 ·split<;>exact Still.pure _
 ·cases b
  ·exact qJW a
  ·exact Still.bind (Still.bind (qIr t) fun i=>Still.pure _) fun n=>Still.bind (qE1 a _ _ _) fun c=>Still.pure _
theorem qGv{fn:Func}{t:Array Value}{w w':World}{x:Value}(h:(results fn t).run P w=.ok x w'):w'=w:=by
 have key:Still P (results fn t):=by
  unfold results;rw[Array.mapM_eq_mapM_toList];refine Still.bind ?_ fun vs=>Still.pure _;refine Still.bind (f:=fun(x:List Value)=>Pure.pure x.toArray) ?_ fun vs=>Still.pure _;generalize fn.results.toList=l
  induction l with
  |nil=>exact Still.pure _
  | cons r l ih =>
   rw[List.mapM_cons];refine Still.bind ?_ fun v=>Still.bind ih fun vs=>Still.pure _;cases r with
   |tmp i=>exact Still.pure _
   |cell a ty =>
    refine Still.bind ?_ fun p=>qKU ty p;unfold asAddr;split
    ·exact Still.pure _
    ·intro w b w' e;cases e
    ·exact Still.stuck _
 exact key w x w' h
theorem qRP{Post:Value->World->Prop}{g:Goroutine}{v:World}(hd:qUQ P true g)(hb:¬qUP g):¬Runs P true (fun g w=>qUP g/\Ret P Post g w) g v:=by
 intro h;cases h with
 |stop h=>exact hb h.1
 |step hn go next =>
  obtain⟨g',w',es,e⟩:=go v.tape v.drawn;obtain⟨o,w2,es2,e2⟩:=hd.2 (v.re v.tape v.drawn);rw[e]at e2;cases e2
theorem qLE{G:Nat}{π:Ren G}{O:Nat->Prop}{e:Event}(hO:∀r r',π r r'->r'<N0\/O r')(h:EvOk (fun r=>r<N0) π e)(hx:∀f,e.loc≠.mark (.extern f)):EvO N0 O e:=by
 rcases h with⟨a,h1,h2,⟨r,h3⟩,h4⟩|h|⟨f,h⟩|⟨r',h1,h2,⟨r,h3⟩,h4⟩
 ·refine .inl ⟨a,h1,h2,?_⟩;rcases hO _ _ h3 with h|h
  ·right;refine⟨h,?_⟩;cases hw:e.write with
   |true=>exact absurd h (h4 hw)
   |false=>rfl
  ·exact .inl h
 ·exact .inr (.inr h)
 ·exact absurd h (hx f)
 ·refine .inr (.inl ⟨r',h1,h2,?_⟩);rcases hO _ _ h3 with h|h
  ·right;refine⟨h,?_⟩;cases hw:e.write with
   |true=>exact absurd h (h4 hw)
   |false=>rfl
  ·exact .inl h
theorem Stk.real_ne{π:Ren P.globals.size}{b:Frame}{b':List Frame}(hb:b'≠[]){f f':Frame}{l l':List Frame}(h:Stk P al gl st π b b' f l f' l'):l'≠[]:=by
 cases h with
 |base h=>exact hb
 |up h hr t=>simp
theorem qJJ{Stop:Goroutine->World->Prop}(hne:∀g v,Stop g v->g.callers≠[]){g:Goroutine}{v:World}(hd:qUQ P true g)(hb:g.callers=[]):¬Runs P true Stop g v:=by
 intro h;cases h with
 |stop h=>exact hne _ _ h hb
 |step hn go next =>
  obtain⟨g',w',es,e⟩:=go v.tape v.drawn;obtain⟨o,w2,es2,e2⟩:=hd.2 (v.re v.tape v.drawn);rw[e]at e2;cases e2
theorem qIH{Stop:Goroutine->World->Prop}(hne:∀g v,Stop g v->g.callers≠[])(hnp:∀g v,Stop g v->qIZ g){g:Goroutine}{v:World}(h:Runs P true Stop g v) :
  ∀{π:Ren P.globals.size}{b':List Frame}{g':Goroutine},GRel P al gl st π (deadEnd P) b' g g'->qIZ g:=by
 induction h with
 |stop h=>intro _ _ _ _;exact hnp _ _ h
 | @step g v hn go next ih =>
  intro π b' g' hG ch hm;obtain⟨g1,v1,es,e⟩:=go v.tape v.drawn;have hr:=next _ _ _ _ _ e;have hih:∀{π:Ren P.globals.size}{b':List Frame}{g':Goroutine},GRel P al gl st π (deadEnd P) b' g1 g'->qIZ g1:=fun hG=>ih _ _ _ _ _ e hG;have hgo:=hG.going;cases hl:Low g.callers with
  |true =>
   rw[hgo]at hG e hl;have hd:=qHO hG (by show g.frame.mode≠.run;rw[hm];simp) hl e;exact qJJ hne hd.1 hd.2 hr
  | false =>
   obtain⟨fr,cs,sx,dy,of⟩:=g;obtain⟨fr',cs',sx',dy',of'⟩:=g';obtain⟨hs,h3,h4,h5,h6,h7,h8⟩:=hG;simp only at hs h3 h4 h5 h6 h7 h8 hm hl;subst h3 h4 h5 h6 h7 h8;have h1:=hs.top;have hmr:=h1.mode;rw[hm]at hmr;obtain⟨ch',hch⟩:∃ch',ChRel al π ch ch':=by generalize fr'.mode=m at hmr;cases hmr with|panicking h=>exact⟨_,h⟩
   unfold stepG at e;simp only[hm]at e;unfold unwind at e;rw[h1.defers,hm]at e;have c1:fr.catches P=false:=(qDc h1.todo).1;simp only[c1,Bool.false_eq_true,if_false]at e;cases hs with
   |base h=>cases hl
   |@up f f' h c c' l l' hr t =>
    cases e;obtain⟨c2,e2⟩:=qGu c ch;exact hih (g':=going (c'.raise ch') l') ⟨t.put (t.top.raise hch),rfl,rfl,rfl,rfl,rfl,rfl⟩ c2 e2
theorem qGt(hns0:st.stops=false)(S:Setup P al gl (fun r=>r<N0)){π0:Ren P.globals.size}{Post:Value->World->Prop}(hP:∀x w T d,Post x w->Post x (w.re T d)){cs':List Frame}(hcs:cs'≠[]){g:Goroutine}{v:World}(h:Runs P true (fun g w=>qUP g/\Ret P Post g w) g v) :
  ∀{π:Ren P.globals.size}{O:Nat->Prop}{g':Goroutine}{w:World},GRel P al gl st π (deadEnd P) cs' g g'->WRel (fun f=>al f=true) (fun r=>r<N0) π v w->(∀r r',π r r'->r'<N0\/O r')->(∀g,gl g=true->π g g)->Ren.le π0 π ->
   Prog P m N0 (qW6 P al gl N0 π0 Post cs') O g' w:=by
 induction h with
 | @stop g v h =>
  intro π O g' w hG hw hO hg hle;refine .stop fun w1 h1=>?_;obtain⟨⟨hmode,hlow⟩,hd,hk,fn,x,hfn,hres,hpost⟩:=h;have hw1:=hw.rely hO h1;have hF:=hG.stk.top;have hrun:=(sResults (P:=P) (Shr:=fun r=>r<N0) fn hF.tmps).run S.fine #[] #[] hw1 (by simp);have e0:((results fn g.frame.tmps).runT P (v.re w1.tape w1.drawn) #[]).1=.ok x (v.re w1.tape w1.drawn):=by rw[Sem.runT_eq];exact hres _ _
  rw[e0]at hrun;obtain⟨x',w2,es,π',e,hx,hwr,hg',hk',hev⟩:=hrun;have e1:(results fn g'.frame.tmps).run P w1=.ok x' w2:=by
   have:=congrArg Prod.fst e;rw[Sem.runT_eq]at this;exact this
  obtain rfl:=qGv e1;obtain⟨fr,cs,sx,dy,of⟩:=g;obtain⟨fr',cs2,sx',dy',of'⟩:=g';obtain⟨hs,h3,h4,h5,h6,h7,h8⟩:=hG;simp only at hs h3 h4 h5 h6 h7 h8 hmode hlow hF hfn e1;subst h4 h6 h7;obtain rfl:cs2=cs':=by
   cases hs with
   |base h=>rfl
   |up h hr t=>cases t<;>simp[Low]at hlow
  have hm':fr'.mode=.returning:=by
   have hm:=hF.mode;rw[hmode]at hm;generalize fr'.mode=q at hm;cases hm;rfl
  have hO':∀r r',π' r r'->r'<N0\/O r':=by
   intro r r' p;rcases hg'.new r r' p with q|q
   ·exact hO r r' q
   ·have:=(hwr.low p).2;omega
  refine⟨π',v.re w2.tape w2.drawn,x,x',Ren.le_trans hle hg'.le,hP _ _ _ _ hpost,hx,hwr,hO',fun g hgl=>hg'.le _ _ (hg g hgl),rfl,hm',hF.defers',by rw[hF.kind];exact hk,fn,by rw[hF.fn];exact hfn,e1,fun ev hm=>?_⟩;simp only at hm;rw[e]at hm;exact qLE hO' (hev ev (Go.Conc.mem_seen hm)) (qDZ hm)
 | @step g v hn go next ih =>
  intro π O g' w hG hw hO hg hle;have hgo:=hG.going;have hnl:g.frame.mode≠.run->Low g.callers=false:=by
   intro hm;cases hl:Low g.callers with
   |false=>rfl
   |true =>
    exfalso
    obtain⟨g1,v1,es,e⟩:=go v.tape v.drawn;have hr:=next _ _ _ _ _ e;rw[hgo]at hG e hm hl;have hd:=qHO hG hm hl e;refine qRP hd.1 (fun hb=>?_) hr;have:=hb.2;rw[hd.2]at this;cases this
  have key:∀w1,Rely N0 O w w1->∃g1 v1 es1 g1' w1' es' π',stepG P true g (v.re w1.tape w1.drawn)=.go g1 v1 es1/\stepG P m g' w1=.go g1' w1' es'/\GRel P al gl st π' (deadEnd P) cs' g1 g1'/\WRel (fun f=>al f=true) (fun r=>r<N0) π' v1 w1'/\Grown π π' w1/\Kept (fun r=>r<N0) π w1 w1'/\(∀e∈es',EvOk (fun r=>r<N0) π' e/\∀f,e.loc≠.mark (.extern f)):=by
   intro w1 h1;obtain⟨g1,v1,es1,e⟩:=go w1.tape w1.drawn;have:=qF3 S hg hG hnl (fun q _=>by rw[hns0]at q;cases q) (hw.rely hO h1) true;rw[e]at this;obtain⟨g1',w1',es',π',e2,x1,x2,x3,x4,x5⟩:=this;refine⟨g1,v1,es1,g1',w1',es',π',e,?_,x1,x2,x3,x4,x5 (qIH (fun g v h e=>by have:=h.1.2;rw[e]at this;cases this) (fun g v h ch e=>by rw[h.1.1]at e;cases e) (next _ _ _ _ _ e) x1)⟩;rw[<-e2];exact qJV hG.dying' (hG.stk.real_ne hcs) hG.stk.top.round' _ _
  have grown:∀{w1 w1':World}{π':Ren P.globals.size}{v1:World},WRel (fun f=>al f=true) (fun r=>r<N0) π' v1 w1'->Grown π π' w1->∀r r',π' r r'->r'<N0\/grow O w1 w1' r':=by
   intro w1 w1' π' v1 hw' hgr r r' p;rcases hgr.new r r' p with q|q
   ·exact(hO r r' q).imp id .inl
   ·exact .inr (.inr ⟨q,(hw'.low p).2⟩)
  refine .step hG.status' (fun w1 h1=>?_) fun w1 g1x w1x esx h1 hst=>?_
  ·obtain⟨g1,v1,es1,g1',w1',es',π',e,e2,x1,x2,x3,x4,x5⟩:=key w1 h1;refine⟨g1',w1',es',e2,x1.status',x4.size,fun r hr hno=>?_,x4.rest,fun ev hev=>qLE (grown x2 x3) (x5 ev hev).1 (x5 ev hev).2⟩;rcases x4.same r hr with q|⟨q,r0,p⟩
   ·exact q
   ·rcases hO r0 r p with h|h
    ·exact absurd h q
    ·exact absurd h hno
  ·obtain⟨g1,v1,es1,g1',w1',es',π',e,e2,x1,x2,x3,x4,x5⟩:=key w1 h1;rw[e2]at hst;cases hst;exact ih _ _ _ _ _ e x1 x2 (grown x2 x3) (fun g hgl=>x3.le _ _ (hg g hgl)) (Ren.le_trans hle x3.le)
def Met(P:Program)(al:Cfg)(gl:Nat->Bool)(st:Fl)(N0:Nat)(π0:Ren P.globals.size)(Stop:Goroutine->World->Prop)(cs':List Frame)(O:Nat->Prop)(g':Goroutine)(w:World):Prop :=
 ∃(π:Ren P.globals.size)(gv:Goroutine)(v:World),Ren.le π0 π/\Stop gv v/\GRel P al gl st π (deadEnd P) cs' gv g'/\WRel (fun f=>al f=true) (fun r=>r<N0) π v w/\(∀r r',π r r'->r'<N0\/O r')/\∀g,gl g=true->π g g
theorem qTF(hns0:st.stops=false)(S:Setup P al gl (fun r=>r<N0)){π0:Ren P.globals.size}{Stop:Goroutine->World->Prop}(hS:∀g w T d,Stop g w->Stop g (w.re T d))(hne:∀g v,Stop g v->g.callers≠[])(hnp:∀g v,Stop g v->qIZ g){cs':List Frame}(hcs:m=true\/cs'≠[]){g:Goroutine}{v:World}(h:Runs P true Stop g v) :
  ∀{π:Ren P.globals.size}{O:Nat->Prop}{g':Goroutine}{w:World},GRel P al gl st π (deadEnd P) cs' g g'->WRel (fun f=>al f=true) (fun r=>r<N0) π v w->(∀r r',π r r'->r'<N0\/O r')->(∀g,gl g=true->π g g)->Ren.le π0 π ->
   Prog P m N0 (Met P al gl st N0 π0 Stop cs') O g' w:=by
 induction h with
 |@stop g v h =>
  intro π O g' w hG hw hO hg hle;exact .stop fun w1 h1=>⟨π,g,_,hle,hS _ _ _ _ h,hG,hw.rely hO h1,hO,hg⟩
 | @step g v hn go next ih =>
  intro π O g' w hG hw hO hg hle;have hgo:=hG.going;have hnl:g.frame.mode≠.run->Low g.callers=false:=by
   intro hm;cases hl:Low g.callers with
   |false=>rfl
   |true =>
    exfalso
    obtain⟨g1,v1,es,e⟩:=go v.tape v.drawn;have hr:=next _ _ _ _ _ e;rw[hgo]at hG e hm hl;have hd:=qHO hG hm hl e;exact qJJ hne hd.1 hd.2 hr
  have key:∀w1,Rely N0 O w w1->∃g1 v1 es1 g1' w1' es' π',stepG P true g (v.re w1.tape w1.drawn)=.go g1 v1 es1/\stepG P m g' w1=.go g1' w1' es'/\GRel P al gl st π' (deadEnd P) cs' g1 g1'/\WRel (fun f=>al f=true) (fun r=>r<N0) π' v1 w1'/\Grown π π' w1/\Kept (fun r=>r<N0) π w1 w1'/\(∀e∈es',EvOk (fun r=>r<N0) π' e/\∀f,e.loc≠.mark (.extern f)):=by
   intro w1 h1;obtain⟨g1,v1,es1,e⟩:=go w1.tape w1.drawn;have:=qF3 S hg hG hnl (fun q _=>by rw[hns0]at q;cases q) (hw.rely hO h1) true;rw[e]at this;obtain⟨g1',w1',es',π',e2,x1,x2,x3,x4,x5⟩:=this;refine⟨g1,v1,es1,g1',w1',es',π',e,?_,x1,x2,x3,x4,x5 (qIH hne hnp (next _ _ _ _ _ e) x1)⟩;rcases hcs with rfl|hcs
   ·exact e2
   ·rw[<-e2];exact qJV hG.dying' (hG.stk.real_ne hcs) hG.stk.top.round' _ _
  have grown:∀{w1 w1':World}{π':Ren P.globals.size}{v1:World},WRel (fun f=>al f=true) (fun r=>r<N0) π' v1 w1'->Grown π π' w1->∀r r',π' r r'->r'<N0\/grow O w1 w1' r':=by
   intro w1 w1' π' v1 hw' hgr r r' p;rcases hgr.new r r' p with q|q
   ·exact(hO r r' q).imp id .inl
   ·exact .inr (.inr ⟨q,(hw'.low p).2⟩)
  refine .step hG.status' (fun w1 h1=>?_) fun w1 g1x w1x esx h1 hst=>?_
  ·obtain⟨g1,v1,es1,g1',w1',es',π',e,e2,x1,x2,x3,x4,x5⟩:=key w1 h1;refine⟨g1',w1',es',e2,x1.status',x4.size,fun r hr hno=>?_,x4.rest,fun ev hev=>qLE (grown x2 x3) (x5 ev hev).1 (x5 ev hev).2⟩;rcases x4.same r hr with q|⟨q,r0,p⟩
   ·exact q
   ·rcases hO r0 r p with h|h
    ·exact absurd h q
    ·exact absurd h hno
  ·obtain⟨g1,v1,es1,g1',w1',es',π',e,e2,x1,x2,x3,x4,x5⟩:=key w1 h1;rw[e2]at hst;cases hst;exact ih _ _ _ _ _ e x1 x2 (grown x2 x3) (fun g hgl=>x3.le _ _ (hg g hgl)) (Ren.le_trans hle x3.le)
end
open Go Go.Conc
theorem qHw(O:Nat->Prop)(w:World):grow O w w=O:=by
 funext r;apply propext;unfold grow;constructor
 ·rintro(h|h)
  ·exact h
  ·omega
 ·exact .inl
theorem qQe(N0:Nat)(O:Nat->Prop)(w:World):Guar N0 O w w #[]:=⟨Nat.le_refl _,fun _ _ _=>rfl,⟨rfl,rfl,rfl,Nat.le_refl _⟩,by simp⟩
structure Clo(P:Program)(m:Bool)(N0:Nat){σ:Type}(K:σ->(Nat->Prop)->Goroutine->World->Prop):Prop where
 step:∀s O g w,g.status=.running->(∀w1,Rely N0 O w w1->∃g' w' es,stepG P m g w1=.go g' w' es/\g'.status=.running/\Guar N0 O w1 w' es) ->
  (∀w1 g' w' es,Rely N0 O w w1->stepG P m g w1=.go g' w' es->K s (grow O w1 w') g' w')->K s O g w
 rely:∀s O g w w1,K s O g w->Rely N0 O w w1->K s O g w1
section
variable{P:Program}{m:Bool}{N0:Nat}{σ:Type}{K:σ->(Nat->Prop)->Goroutine->World->Prop}
theorem Clo.idle(C:Clo P m N0 K){s:σ}{O:Nat->Prop}{g g':Goroutine}{w:World}(hr:g.status=.running)(hr':g'.status=.running)(h:∀w1,stepG P m g w1=.go g' w1 #[])(hk:K s O g' w):K s O g w:=by
 refine C.step s O g w hr (fun w1 _=>⟨g',w1,#[],h w1,hr',qQe _ _ _⟩) fun w1 g2 w2 es h1 e=>?_;rw[h w1]at e;cases e;rw[qHw];exact C.rely _ _ _ _ _ hk h1
theorem Prog.into(C:Clo P m N0 K){s:σ}{Stop:(Nat->Prop)->Goroutine->World->Prop}{O:Nat->Prop}{g:Goroutine}{w:World}(h:Prog P m N0 Stop O g w)(hk:∀O g w,(∀w1,Rely N0 O w w1->Stop O g w1)->K s O g w):K s O g w:=by
 induction h with
 |stop h=>exact hk _ _ _ h
 |step hr go next ih=>exact C.step s _ _ _ hr go fun w1 g' w' es h1 e=>ih w1 g' w' es h1 e
def AfterK(K:σ->(Nat->Prop)->Goroutine->World->Prop)(b:Frame)(k:List Item)(cs:List Frame):Exit->Act->σ->(Nat->Prop)->World->Prop
 |.normal,a,s,O,w=>K s O (G (b.at a k) cs) w
 |.exit id,a,s,O,w=>∃k',exitTo id k=some k'/\K s O (G (b.at a k') cs) w
 |.ret,a,s,O,w=>∀todo,K s O (G { b.at a todo with mode:=.returning } cs) w
 |_,_,_,_,_=>False
def wpK(K:σ->(Nat->Prop)->Goroutine->World->Prop)(fn:FuncId)(c:Code)(Q:Exit->Act->σ->(Nat->Prop)->World->Prop)(a:Act)(s:σ)(O:Nat->Prop)(w:World):Prop :=
 ∀(b:Frame)(k:List Item)(cs:List Frame),b.fn=fn->b.kind≠.early->(∀e a' s' O' w',Q e a' s' O' w'->AfterK K b k cs e a' s' O' w')->K s O (G (b.at a (.code c::k)) cs) w
def qEG(K:σ->(Nat->Prop)->Goroutine->World->Prop)(fn:FuncId)(ops:Array Oper)(todo:List Nat)(Q:Exit->Act->σ->(Nat->Prop)->World->Prop)(a:Act)(s:σ)(O:Nat->Prop)(w:World):Prop :=
 ∀(b:Frame)(k:List Item)(cs:List Frame),b.fn=fn->b.kind≠.early->(∀e a' s' O' w',Q e a' s' O' w'->AfterK K b k cs e a' s' O' w')->K s O (G (b.at a (.inRegion ops todo::k)) cs) w
variable{fn:FuncId}{Q:Exit->Act->σ->(Nat->Prop)->World->Prop}{a:Act}{s:σ}{O:Nat->Prop}{w:World}
def qKW(next:Act->σ->(Nat->Prop)->World->Prop)(Q:Exit->Act->σ->(Nat->Prop)->World->Prop):Exit->Act->σ->(Nat->Prop)->World->Prop
 |.normal,a,s,O,w=>next a s O w
 |e,a,s,O,w=>Q e a s O w
def qEw(id:Nat)(Q:Exit->Act->σ->(Nat->Prop)->World->Prop):Exit->Act->σ->(Nat->Prop)->World->Prop
 |.exit id',a,s,O,w=>if id'=id then Q .normal a s O w else Q (.exit id') a s O w
 |e,a,s,O,w=>Q e a s O w
theorem AfterK.push{b:Frame}{x:Item}{k:List Item}{cs:List Frame}{e:Exit}(hx:x.plain=true)(he:e≠.normal)(h:AfterK K b k cs e a s O w):AfterK K b (x::k) cs e a s O w:=by
 cases e with
 |normal=>exact absurd rfl he
 |exit id=>obtain⟨k',hk,hg⟩:=h;exact⟨k',by cases x<;>simp_all [exitTo,Item.plain],hg⟩
 |ret=>exact h
 |_=>exact h
theorem qHV{c:Code}{Q':Exit->Act->σ->(Nat->Prop)->World->Prop}(h:wpK K fn c Q a s O w)(hq:∀e a s O w,Q e a s O w->Q' e a s O w):wpK K fn c Q' a s O w :=
 fun b k cs hb hk hc=>h b k cs hb hk fun _ _ _ _ _ q=>hc _ _ _ _ _ (hq _ _ _ _ _ q)
theorem qKd(C:Clo P m N0 K)(h:Q .normal a s O w):wpK K fn .skip Q a s O w:=fun _ _ _ _ _ hc =>
 C.idle rfl rfl (fun _=>stepG_skip) (hc _ _ _ _ _ h)
theorem qVU(C:Clo P m N0 K)(h:Q .ret a s O w):wpK K fn .ret Q a s O w:=fun _ _ _ _ _ hc =>
 C.idle rfl rfl (fun _=>stepG_ret') (hc _ _ _ _ _ h _)
theorem qOG(C:Clo P m N0 K){id:Nat}(h:Q (.exit id) a s O w):wpK K fn (.exit id) Q a s O w:=fun _ _ _ _ _ hc=>by
 obtain⟨k',hk',hg⟩:=hc _ _ _ _ _ h;exact C.idle rfl rfl (fun _=>stepG_exit hk') hg
theorem qBn(C:Clo P m N0 K){x y:Code}(h:wpK K fn x (qKW (fun a' s' O' w'=>wpK K fn y Q a' s' O' w') Q) a s O w):wpK K fn (.seq x y) Q a s O w:=by
 intro b k cs hb hk hc;refine C.idle rfl rfl (fun _=>stepG_seq) (h b (.code y::k) cs hb hk fun e a' s' O' w' q=>?_);cases e with
 |normal=>exact q b k cs hb hk hc
 |exit id=>exact(hc _ _ _ _ _ q).push (x:=.code y) rfl (by simp)
 |ret=>exact(hc _ _ _ _ _ q).push (x:=.code y) rfl (by simp)
 |_=>exact hc _ _ _ _ _ q
theorem qDs(C:Clo P m N0 K){c:Operand}{x y:Code}{t:Bool}(hc:a.eval c=.bool t)(h:wpK K fn (if t then x else y) Q a s O w):wpK K fn (.cond c x y) Q a s O w :=
 fun b k cs hb hk hq=>C.idle rfl rfl (fun _=>stepG_cond hc) (h b k cs hb hk hq)
theorem qEa(C:Clo P m N0 K){id:Nat}{c:Code}(h:wpK K fn c (qEw id Q) a s O w):wpK K fn (.block id c) Q a s O w:=by
 intro b k cs hb hk hc;refine C.idle rfl rfl (fun _=>stepG_block) (h b (.inBlock id::k) cs hb hk fun e a' s' O' w' q=>?_);cases e with
 |normal=>exact C.idle rfl rfl (fun _=>stepG_inBlock) (hc _ _ _ _ _ q)
 | exit id' =>
  by_cases hid:id'=id
  ·simp only[qEw,hid,if_true]at q;exact⟨k,by simp[exitTo,hid],hc _ _ _ _ _ q⟩
  ·simp only[qEw,hid,if_false]at q;obtain⟨k',hk',hg⟩:=hc _ _ _ _ _ q;have:(id==id')=false:=by simp;exact fun h=>hid h.symm
   exact⟨k',by simp[exitTo,this,hk'],hg⟩
 |ret=>exact fun todo=>hc _ _ _ _ _ q todo
 |_=>exact hc _ _ _ _ _ q
theorem qOH(C:Clo P m N0 K){c:Code}(I:Nat->Act->σ->(Nat->Prop)->World->Prop)(n:Nat)(h0:I n a s O w)
  (round:∀n a s O w,I n a s O w->wpK K fn c (qKW (fun a' s' O' w'=>∃n',n'<n/\I n' a' s' O' w') Q) a s O w):wpK K fn (.loop c) Q a s O w:=by
 intro b k cs hb hk hc;have key:∀n a s O w,I n a s O w->K s O (G (b.at a (.code c::.inLoop c::k)) cs) w:=by
  intro n
  induction n using Nat.strongRecOn with
  | ind n ih =>
   intro a s O w hI;refine round n a s O w hI b (.inLoop c::k) cs hb hk fun e a' s' O' w' q=>?_;cases e with
   |normal =>
    obtain⟨n',hn,hI'⟩:=q;exact C.idle rfl rfl (fun _=>stepG_inLoop) (ih n' hn a' s' O' w' hI')
   |exit id=>exact(hc _ _ _ _ _ q).push (x:=.inLoop c) rfl (by simp)
   |ret=>exact(hc _ _ _ _ _ q).push (x:=.inLoop c) rfl (by simp)
   |_=>exact hc _ _ _ _ _ q
 exact C.idle rfl rfl (fun _=>stepG_loop) (key n a s O w h0)
theorem qAp(C:Clo P m N0 K){id:Nat}{ops:Array Oper}(h:qEG K fn ops (List.range ops.size) Q a s O w):wpK K fn (.region id ops false) Q a s O w :=
 fun b k cs hb hk hc=>C.idle rfl rfl (fun _=>stepG_region) (h b k cs hb hk hc)
theorem qBG(C:Clo P m N0 K){ops:Array Oper}(h:Q .normal a s O w):qEG K fn ops [] Q a s O w:=fun _ _ _ _ _ hc =>
 C.idle rfl rfl (fun _=>stepG_region_end) (hc _ _ _ _ _ h)
theorem qKB(C:Clo P m N0 K){ops:Array Oper}{i:Nat}{rest:List Nat}{o:Oper}(ho:ops[i]? = some o)(hw:Region.wanted o (yielded ops a.tmps)=false)
  (h:qEG K fn ops rest Q (a.put o.dst undef) s O w):qEG K fn ops (i::rest) Q a s O w :=
 fun b k cs hb hk hc=>C.idle rfl rfl (fun _=>stepG_unwanted ho hw) (h b k cs hb hk hc)
theorem qEj(C:Clo P m N0 K){ops:Array Oper}{i:Nat}{rest:List Nat}{o:Oper}{v:Value}(ho:ops[i]? = some o)(hw:Region.wanted o (yielded ops a.tmps)=true)
  (h:∀w1,(execOp a.eval o).run P w1=.ok (.value v) w1) (hl:∀w1,listed P fn a o w1=#[]) (hn:qEG K fn ops rest Q (a.put o.dst v) s O w):qEG K fn ops (i::rest) Q a s O w:=by
 intro b k cs hb hk hc;refine C.idle rfl rfl (fun w1=>?_) (hn b k cs hb hk hc);rw[stepG_value ho hw hk (h w1),hb,hl]
variable{al:Cfg}{gl:Nat->Bool}
end
