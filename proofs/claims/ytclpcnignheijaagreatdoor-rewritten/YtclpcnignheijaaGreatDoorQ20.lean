/-
  Parts of the proof: N1, N2, N3, N4, N5, N6.
-/
import Derived.Test.YtclpcnignheijaaGreatDoorQ19
import Derived.Conc.TokenWalk
namespace Go.Proofs.YtclpcnignheijaaGreatDoor
open Go Go.Conc
def EndsCl(P:Program)(Ends:Machine->Trace->Prop):Prop:=∀m t m' ops,stepT P m=(.next m',ops)->Ends m' (t++ops)->Ends m t
def KL(P:Program)(Ends:Machine->Trace->Prop)(g:Goroutine)(w:World):Prop :=
 ∀(gs:Array Goroutine)(sl:Option (Nat×Nat))(t:Trace)(q:Nat->Nat),gs[0]? = some g->Leavers P t gs q->Past (fun _=>False) w.heap.size t->Ends (crowd gs w sl) t
section
variable{P:Program}{Ends:Machine->Trace->Prop}
theorem KL.step(hE:EndsCl P Ends){g:Goroutine}{w:World}(hr:g.status=.running)
  (h:∀d,∃g1 w1 es,stepG P true g (w.at d)=.go g1 w1 es/\w.heap.size<=w1.heap.size/\(∀e∈es,EvL (fun _=>False) w1.heap.size e)/\KL P Ends g1 w1):KL P Ends g w:=by
 have key:∀(n:Nat)(gs:Array Goroutine)(d0:Nat)(sl:Option (Nat×Nat))(t:Trace)(q:Nat->Nat),Go.ConcN.sumTo gs.size q<=n->gs[0]? = some g->Leavers P t gs q->Past (fun _=>False) w.heap.size t->Ends (crowd gs (w.at d0) sl) t:=by
  intro n
  induction n with
  |zero =>
   intro gs d0 sl t q hn h0 hL hP;exact go 0 (fun m hm=>by omega) gs d0 sl t q hn h0 hL hP
  |succ n ih =>
   intro gs d0 sl t q hn h0 hL hP;exact go (n+1) (fun m hm gs d0 sl t q hq=>ih gs d0 sl t q (by omega)) gs d0 sl t q hn h0 hL hP
 intro gs sl t q h0 hL hP;exact key _ gs w.drawn sl t q (Nat.le_refl _) h0 hL hP
 where
  go (n : Nat) (ih : ∀ m, m < n → ∀ (gs : Array Goroutine) (d0 : Nat) (sl : Option (Nat × Nat)) (t : Trace) (q : Nat → Nat), Go.ConcN.sumTo gs.size q ≤ m → gs[0]? = some g → Leavers P t gs q → Past (fun _ => False) w.heap.size t → Ends (crowd gs (w.at d0) sl) t)
      (gs:Array Goroutine) (d0:Nat) (sl:Option (Nat×Nat)) (t:Trace) (q:Nat->Nat) (hn:Go.ConcN.sumTo gs.size q<=n) (h0:gs[0]? = some g) (hL:Leavers P t gs q) (hP:Past (fun _=>False) w.heap.size t):Ends (crowd gs (w.at d0) sl) t:=by
   have haw:∀x∈gs,awake x:=by
    intro x hx;obtain⟨i,hi⟩:=Array.mem_iff_getElem?.1 hx;rcases Nat.eq_zero_or_pos i with rfl|hpos
    ·rw[h0]at hi;cases hi;exact awake_of (.inl hr)
    ·exact awake_of ((hL.old i _ hpos hi).status.elim .inl fun x=>.inr (.inr x))
   have hlen:0<gs.size:=qCf h0;obtain⟨i,x,d,sl',hi,hx,hst⟩:=crowd_pick (P:=P) (w:=w.at d0) (sl:=sl) haw ⟨0,g,h0,hr⟩;rcases Nat.eq_zero_or_pos i with rfl|hpos
   ·rw[h0]at hi;cases hi;obtain⟨g1,w1,es,e,hsz,hev,hk⟩:=h d;have hrun:=runT_crowd_go (P:=P) (sl:=sl') (i:=0) h0 (show stepG P (0==0) g (w.at d)=_ from e);refine hE _ _ _ _ (hst.trans hrun) (hk _ _ _ q (qCN (by simpa using hlen) _) ⟨fun j y hj hy=>?_,fun j hj=>?_⟩ ((hP.mono hsz).own hev))
    ·rw[qAa (by omega),Array.getElem?_map]at hy;obtain⟨z,hz,rfl⟩:=Option.map_eq_some_iff.1 hy;have hq:=hL.old j z hj hz;rw[woken_quitsD hq,Deaf_other t (by omega) _ qHq];exact hq
    ·have hj':gs.size<=j:=by simpa using hj
     rw[Deaf_other t (g':=0) (by omega) _ qHq];exact hL.above j hj'
   ·have hq:=hL.old i x hpos hi;have hi0:(i==0)=false:=by simp;omega
    have hlt:i<gs.size:=qCf hi;cases hqi:q i with
    |zero=>rw[hqi]at hq;rw[hq.1]at hx;cases hx
    | succ k =>
     rw[hqi]at hq;rcases hq with⟨hf,-⟩|⟨-,g',es,hm,hstp,hq'⟩
     ·rw[hf]at hx;cases hx
     have hrun:=runT_crowd_go (P:=P) (sl:=sl') (i:=i) hi (by rw[hi0];exact hstp (w.at d));have hsum:Go.ConcN.sumTo gs.size (Go.ConcN.upd q i k)+(k+1)=Go.ConcN.sumTo gs.size q+k:=by
      have:=Go.ConcN.sumTo_upd q k id hlt;simpa [hqi]using this
     refine hE _ _ _ _ (hst.trans hrun) (ih (n-1) (by omega) _ d sl' _ (Go.ConcN.upd q i k) (by simp only[Array.size_setIfInBounds,Array.size_map];omega) ?_ ⟨fun j y hj hy=>?_,fun j hj=>?_⟩ (hP.mute (by omega) hm))
     ·rw[qAa (by omega),Array.getElem?_map,h0];simp[woken_run hr]
     ·by_cases hji:j=i
      ·subst hji;rw[qCN (by simpa using hlt)]at hy;cases hy;rw[Go.ConcN.upd_same,Deaf_own];exact hq'
      ·rw[qAa hji,Array.getElem?_map]at hy;obtain⟨z,hz,rfl⟩:=Option.map_eq_some_iff.1 hy;have hqj:=hL.old j z hj hz;rw[woken_quitsD hqj,Go.ConcN.upd_ne q k hji,Deaf_other t (fun e=>hji e.symm) _ qHq];exact hqj
     ·have hj':gs.size<=j:=by simpa using hj
      rw[Deaf_other t (g':=i) (by omega) _ qHq];exact hL.above j hj'
theorem qHK{O:Nat->Prop}{B:Nat}{e:Event}(h:EvO 0 O e)(hO:∀r,O r->r<B):EvL (fun _=>False) B e:=by
 obtain⟨loc,wr,sy⟩:=e;rcases h with⟨a,h1,h2,h3⟩|⟨r,h1,h2,h3⟩|h1
 ·simp only at h1 h2 h3;subst h1 h2;refine⟨fun _ _ h=>h.elim,by simp,by simp,?_⟩;exact(h3.elim (hO _) fun x=>by omega:a.block<B)
 ·simp only at h1 h2 h3;subst h1 h2;refine⟨fun _ _ h=>h.elim,by simp,by simp,?_⟩;have:r<B:=h3.elim (hO _) fun x=>by omega
  cases wr<;>exact this
 ·simp only at h1;subst h1;exact⟨fun _ _ h=>h.elim,by simp,by simp,trivial⟩
theorem Prog.beside(hE:EndsCl P Ends){Stop:(Nat->Prop)->Goroutine->World->Prop}{O:Nat->Prop}{g:Goroutine}{w:World}(h:Prog P true 0 Stop O g w)(hk:∀O g w,(∀r,O r->r<w.heap.size)->(∀w1,Rely 0 O w w1->Stop O g w1)->KL P Ends g w):(∀r,O r->r<w.heap.size)->KL P Ends g w:=by
 induction h with
 |stop h=>exact fun hO=>hk _ _ _ hO h
 |@step O g w hr go next ih =>
  intro hO;refine KL.step hE hr fun d=>?_;obtain⟨g',w',es,e,hr',hG⟩:=go _ (qDO d);have hb:∀r,grow O (w.at d) w' r->r<w'.heap.size:=fun r hr=>hr.elim (fun x=>Nat.lt_of_lt_of_le (hO r x) hG.size) (·.2);exact⟨g',w',es,e,hG.size,fun ev hev=>qHK (hG.evs ev hev) hb,ih _ _ _ _ (qDO d) e hb⟩
variable{al:Cfg}{gl:Nat->Bool}
structure Fr0(P:Program) where
 W0:World
 π0:Ren P.globals.size
 B:List Frame
structure Frm{P:Program}(F:Fr0 P)(π:Ren P.globals.size)(w:World):Prop where
 size:F.W0.heap.size<=w.heap.size
 same:∀r',r'<F.W0.heap.size->w.heap[r']? = F.W0.heap[r']?\/∃r,F.π0 r r'
 le:Ren.le F.π0 π
 old:∀r r',π r r'->F.π0 r r'\/F.W0.heap.size<=r'
 oo:qEz w=qEz F.W0
theorem Frm.go{F:Fr0 P}{π π':Ren P.globals.size}{w w':World}{Shr:Nat->Prop}(h:Frm F π w)(g:Grown π π' w)(k:Kept Shr π w w'):Frm F π' w':=by
 refine⟨Nat.le_trans h.size k.size,fun r' hr=>?_,Ren.le_trans h.le g.le,fun r r' p=>?_,k.oo.trans h.oo⟩
 ·rcases k.same r' (Nat.lt_of_lt_of_le hr h.size)with e|⟨-,r,p⟩
  ·rw[e];exact h.same r' hr
  ·exact .inr ⟨r,(h.old r r' p).resolve_right (by omega)⟩
 ·rcases g.new r r' p with q|q
  ·exact h.old r r' q
  ·exact .inr (Nat.le_trans h.size q)
theorem Frm.at{F:Fr0 P}{π:Ren P.globals.size}{w:World}(h:Frm F π w)(d:Nat):Frm F π (w.at d):=⟨h.size,h.same,h.le,h.old,h.oo⟩
structure Since(O:Nat->Prop)(w:World)(O':Nat->Prop)(w':World):Prop where
 size:w.heap.size<=w'.heap.size
 same:∀r,r<w.heap.size->¬O r->w'.heap[r]? = w.heap[r]?
 own:∀r,O' r->O r\/w.heap.size<=r
 oo:qEz w'=qEz w
theorem Prog.besideS(hE:EndsCl P Ends){Stop:(Nat->Prop)->Goroutine->World->Prop}{O0:Nat->Prop}{w0:World}{O:Nat->Prop}{g:Goroutine}{w:World}(h:Prog P true 0 Stop O g w)(hk:∀O g w,(∀r,O r->r<w.heap.size)->Since O0 w0 O w->(∀w1,Rely 0 O w w1->Stop O g w1)->KL P Ends g w):(∀r,O r->r<w.heap.size)->Since O0 w0 O w->KL P Ends g w:=by
 induction h with
 |stop h=>exact fun hO hs=>hk _ _ _ hO hs h
 | @step O g w hr go next ih =>
  intro hO hs;refine KL.step hE hr fun d=>?_;obtain⟨g',w',es,e,hr',hG⟩:=go _ (qDO d);have hb:∀r,grow O (w.at d) w' r->r<w'.heap.size:=fun r hr=>hr.elim (fun x=>Nat.lt_of_lt_of_le (hO r x) hG.size) (·.2);refine⟨g',w',es,e,hG.size,fun ev hev=>qHK (hG.evs ev hev) hb,ih _ _ _ _ (qDO d) e hb ⟨Nat.le_trans hs.size hG.size,fun r hr hn=>?_,fun r hr=>?_,hG.oo.trans hs.oo⟩⟩
  ·have hlt:r<(w.at d).heap.size:=Nat.lt_of_lt_of_le hr hs.size;rw[hG.same r hlt fun hq=>hn ((hs.own r hq).resolve_right (by omega))];exact hs.same r hr hn
  ·rcases hr with hr|hr
   ·exact hs.own r hr
   ·exact .inr (Nat.le_trans hs.size hr.1)
theorem Since.refl(O:Nat->Prop)(w:World):Since O w O w:=⟨Nat.le_refl _,fun _ _ _=>rfl,fun _ h=>.inl h,rfl⟩
theorem Frm.since{F:Fr0 P}{π π':Ren P.globals.size}{w w':World}{O':Nat->Prop}(h:Frm F π w)(hs:Since (fun r'=>∃r,π r r') w O' w')(hle:Ren.le π π')(hO:∀r r',π' r r'->r'<0\/O' r'):Frm F π' w':=by
 refine⟨Nat.le_trans h.size hs.size,fun r' hr=>?_,Ren.le_trans h.le hle,fun r r' p=>?_,hs.oo.trans h.oo⟩
 ·by_cases q:∃r,π r r'
  ·obtain⟨r,p⟩:=q;exact .inr ⟨r,(h.old r r' p).resolve_right (by omega)⟩
  ·rw[hs.same r' (Nat.lt_of_lt_of_le hr h.size) q];exact h.same r' hr
 ·rcases hs.own r' ((hO r r' p).resolve_left (by omega))with⟨s,q⟩|q
  ·obtain rfl:s=r:=(π'.inj (hle _ _ q) p).2 rfl;exact h.old s r' q
  ·exact .inr (Nat.le_trans h.size q)
variable{F:Fr0 P}
def KM(P:Program)(al:Cfg)(gl:Nat->Bool)(F:Fr0 P)(Ends:Machine->Trace->Prop)(g:Goroutine)(v:World):Prop :=
 ∀(T:Nat->Question->Nat)(d:Nat)(π:Ren P.globals.size)(g':Goroutine)(w:World),GRel P al gl ⟨true,[]⟩ π (deadEnd P) F.B g g'->WRel (fun f=>al f=true) (fun r=>r<0) π (v.re T d) w->(∀x,gl x=true->π x x)->Frm F π w->KL P Ends g' w
theorem WRel.at{Al:FuncId->Prop}{Shr:Nat->Prop}{G:Nat}{π:Ren G}{v w:World}(h:WRel Al Shr π v w)(d:Nat):WRel Al Shr π (v.re w.tape d) (w.at d):=⟨rfl,rfl,h.os,h.low,h.obj,h.shr,h.gv,h.gw,h.dead⟩
theorem qQQ{G:Nat}{Al:FuncId->Prop}{π:Ren G}{v w:World}(hw:WRel Al (fun r=>r<0) π v w){e:Event}(h:EvOk (fun r=>r<0) π e)(hx:∀f,e.loc≠.mark (.extern f)):EvL (fun _=>False) w.heap.size e :=
 qHK (O:=fun r=>r<w.heap.size) (qLE (fun _ _ p=>.inr (hw.low p).2) h hx) fun _ h=>h
theorem KM.step(S:Setup P al gl (fun r=>r<0))(hE:EndsCl P Ends){g:Goroutine}{v:World}(hat:g.frame.mode=.run->qD0 al g.frame)(hlow:g.frame.mode≠.run->Low g.callers=false)
  (h:∀T d,∃g1 v1 es,stepG P true g (v.re T d)=.go g1 v1 es/\qIZ g1/\KM P al gl F Ends g1 v1):KM P al gl F Ends g v:=by
 intro T d π g' w hG hW hgl hfm;refine KL.step hE hG.status' fun d0=>?_;obtain⟨g1,v1,es,e,hnp,hk⟩:=h w.tape d0;have:=qF3 S hgl hG hlow (fun _=>hat) (hW.at d0) true;rw[show(v.re T d).re w.tape d0=v.re w.tape d0 from rfl,e]at this;obtain⟨g1',w1,es',π',e2,x1,x2,x3,x4,x5⟩:=this;exact⟨g1',w1,es',e2,x4.size,fun ev hev=>qQQ x2 (x5 hnp ev hev).1 (x5 hnp ev hev).2,hk v1.tape v1.drawn π' g1' w1 x1 x2 (fun x hx=>x3.le _ _ (hgl x hx)) ((hfm.at d0).go x3 x4)⟩
theorem Stk.inv{st:Fl}{π:Ren P.globals.size}{b:Frame}{b':List Frame}{f f' c:Frame}{l l':List Frame}(h:Stk P al gl st π b b' f (c::l) f' l') :
  (l=[]/\c=b/\l'=b')\/∃c' l'',l'=c'::l''/\FRel P al gl st π f f'/\qOL c/\Stk P al gl st π b b' c l c' l'':=by
 cases h with
 |base h=>exact .inl ⟨rfl,rfl,rfl⟩
 |up h hr t=>exact .inr ⟨_,_,rfl,h,hr,t⟩
theorem KM.call(S:Setup P al gl (fun r=>r<0))(hE:EndsCl P Ends){b:Frame}{k:List Item}{cs:List Frame}{ops:Array Oper}{i:Nat}{rest:List Nat}{o:Oper}{a:Act}{v:World}{f:FuncId}{args:Array Operand}{ats:Array TypeId}{fd:Func}{Post:Value->World->Prop}
  (ho : ops[i]? = some o) (hw : Region.wanted o (yielded ops a.tmps) = true) (hop : o.op = .call { callee := .value (.func f), args, argTypes := ats }) (hal : al f = true) (hf : P.funcs[f]? = some fd) (hname : (fd.name == "runtime.NumGoroutine") = false) (hbody : fd.body.isNone = false) (hkd : b.kind ≠ .early)
  (hP:∀x w T d,Post x w->Post x (w.re T d)) (hC:∀T,Calls P f (args.map a.eval) (v.re T 0) fun e w'=>∃x,e=.returned x/\Post x w')
  (hnext:∀x v1,Post x v1->KM P al gl F Ends (G (b.at (a.put o.dst x) (.inRegion ops rest::k)) cs) v1):KM P al gl F Ends (G (b.at a (.inRegion ops (i::rest)::k)) cs) v:=by
 obtain⟨c,hc0⟩:∃c,fd.body=some c:=by cases h:fd.body with|none=>rw[h]at hbody;cases hbody|some c=>exact⟨c,rfl⟩
 have hent:Frame.enter P f (args.map a.eval) .normal=(Go.Conc.base f).at { tmps:=args.map a.eval++Array.replicate (fd.ntmps-(args.map a.eval).size) undef,defers:=[] } [.code c]:=by
  unfold Frame.enter;rw[hf];simp[hc0,Frame.at,Go.Conc.base]
 have hstep:∀w1,stepG P true (G (b.at a (.inRegion ops (i::rest)::k)) cs) w1=.go (going (Frame.enter P f (args.map a.eval) .normal) (b.at a (.inRegion ops (i::rest)::k)::cs)) w1 #[]:=by
  intro w1;have:=goes_call (P:=P) (main:=true) (w:=w1) (cs:=cs) (K:=fun g w es=>g=going (Frame.enter P f (args.map a.eval) .normal) (b.at a (.inRegion ops (i::rest)::k)::cs)/\w=w1/\es=#[]) ho hw hkd hop hf hname hc0 ⟨by rw[hent];rfl,rfl,rfl⟩
  revert this
  generalize stepG P true (G (b.at a (.inRegion ops (i::rest)::k)) cs) w1=st;cases st with
  |go g w es=>rintro⟨rfl,rfl,rfl⟩;rfl
  |_=>exact False.elim
 have hfin:∀x,(b.at a (.inRegion ops (i::rest)::k)).finish x=b.at (a.put o.dst x) (.inRegion ops rest::k):=fun x=>by rw[Frame.finish_at,ho];rfl
 have hat:qD0 al (b.at a (.inRegion ops (i::rest)::k)):=by
  intro ops' i' rest' k' o' e1 e2;have e1:(.inRegion ops (i::rest)::k:List Item)=.inRegion ops' (i'::rest')::k':=e1;simp only[List.cons.injEq,Item.inRegion.injEq]at e1;obtain⟨⟨rfl,rfl,rfl⟩,rfl⟩:=e1;rw[ho]at e2;cases e2;rw[hop];simp[stopOp,hal]
 intro T d π g' w hG hW hgl hfm;refine KL.step hE hG.status' fun d0=>?_;have hsr:=qF3 S hgl hG (fun h=>absurd (show(b.at a (.inRegion ops (i::rest)::k)).mode=.run from rfl) h) (fun _ _=>hat) (hW.at d0) true;rw[hstep]at hsr;have hnp:qIZ (going (Frame.enter P f (args.map a.eval) .normal) (b.at a (.inRegion ops (i::rest)::k)::cs)):=fun ch e=>by rw[hent]at e;cases e
 obtain⟨g1',w1,es',π',e2,x1,x2,x3,x4,x5⟩:=hsr;refine⟨g1',w1,es',e2,x4.size,fun ev hev=>qQQ x2 (x5 hnp ev hev).1 (x5 hnp ev hev).2,?_⟩;have hgl':∀x,gl x=true->π' x x:=fun x hx=>x3.le _ _ (hgl x hx);obtain⟨fr1,cs1,sx1,dy1,of1⟩:=g1';obtain⟨hs,y2,y3,y4,y5,y6,y7⟩:=x1;simp only at hs y3 y5 y6;subst y3 y5 y6;rcases hs.inv with⟨-,e3,-⟩|⟨c',l',rfl,hF,hr,t⟩
 ·have:=congrArg Frame.todo e3;cases this
 ·have hF0:FRel P al gl ⟨false,[]⟩ π' (Frame.enter P f (args.map a.eval) .normal) fr1:=by
   have hT:=hF.todo;rw[hent]at hT;have hT:TodoR P al gl ⟨true,[]⟩ [.code c] fr1.todo:=hT;have hcok:=S.body f fd c hal hf hc0;have:TodoR P al gl ⟨false,[]⟩ (Frame.enter P f (args.map a.eval) .normal).todo fr1.todo:=by
    rw[hent];show TodoR P al gl ⟨false,[]⟩ [.code c] fr1.todo;generalize fr1.todo=t1 at hT;cases hT with
    |tail _=>cases hcok
    |cons ok h=>cases h with
     |nil=>exact TodoR.cons (st:=⟨false,[]⟩) (x:=.code c) hcok .nil
   exact⟨hF.fn,hF.tmps,this,hF.defers,hF.defers',hF.mode,hF.kind,hF.normal,hF.round,hF.round'⟩
  have hG0:GRel P al gl ⟨false,[]⟩ π' (deadEnd P) (c'::l') (going (Frame.enter P f (args.map a.eval) .normal) [deadEnd P]) (going fr1 (c'::l')):=⟨.base hF0,rfl,rfl,rfl,rfl,rfl,rfl⟩;have hO:qTz P al gl ⟨false,[]⟩ (fun r=>r<0) true (going (Frame.enter P f (args.map a.eval) .normal) [deadEnd P]) ((v.re T d).re w.tape d0):=.inl ⟨π',c'::l',_,w1,hG0,x2,hgl',_,_,rfl⟩;have hR:=qFz rfl S hO hP fun T'=>hC T';have hprog:=qGt (m:=true) rfl S (π0:=π') hP (cs':=c'::l') (by simp) hR hG0 x2 (O:=fun r'=>∃r,π' r r') (fun r r' p=>.inr ⟨r,p⟩) hgl' (Ren.le_refl _);have hfm1:=(hfm.at d0).go x3 x4;refine hprog.besideS hE (fun O g2 w2 hO2 hsn hst=>?_) (fun r' ⟨r,p⟩=>(x2.low p).2) (Since.refl _ _);obtain⟨_,_,_,_,_,_,_,_,_,_,hgo0,_⟩:=hst w2 (.refl _ _ _);refine KL.step hE (by rw[hgo0];rfl) fun d1=>?_;obtain⟨π2,v2,x,x',hle,hp,hx,hwr,hOO,hg2,hgo,hm,hd,hkn,fd2,hfd2,hres,hev⟩:=hst (w2.at d1) (qDO d1);have e0:(results fd2 g2.frame.tmps).runT P (w2.at d1) #[]=(.ok x' (w2.at d1),((results fd2 g2.frame.tmps).runT P (w2.at d1) #[]).2):=by
   have:((results fd2 g2.frame.tmps).runT P (w2.at d1) #[]).1=.ok x' (w2.at d1):=by rw[Sem.runT_eq];exact hres
   rw[<-this]
  refine⟨going (c'.finish x') l',w2.at d1,seen P g2.frame.fn ((results fd2 g2.frame.tmps).runT P (w2.at d1) #[]).2,?_,Nat.le_refl _,fun ev hv=>qHK (hev ev hv) hO2,?_⟩
  ·rw[hgo];unfold stepG going;simp only[hm];unfold unwind;rw[hd,hm];simp only[hfd2];rw[e0];unfold doReturn;simp only[hkn];simp[GStep.after]
  ·refine hnext x v2 hp v2.tape v2.drawn π2 _ _ ⟨?_,rfl,rfl,rfl,rfl,rfl,rfl⟩ hwr hg2 ((hfm1.since hsn hle hOO).at d1);have:=(t.mono hle).put ((t.top.mono hle).finish hr hx);rw[hfin]at this;exact this
end
section
variable{P:Program}{Ends:Machine->Trace->Prop}{al:Cfg}{gl:Nat->Bool}{F:Fr0 P}
theorem TodoR.oks{st:Fl}{k k':List Item}(h:TodoR P al gl st k k'):∀i∈k',qCR P al gl true i=true:=by
 have up:∀{b:Bool}{x:Item},qCR P al gl b x=true->qCR P al gl true x=true:=by
  intro b x hx;cases b with
  |true=>exact hx
  | false =>
   cases x with
   |code c=>exact qBx true c hx
   |inLoop c=>exact qBx true c hx
   |inScope c=>exact qBx true c hx
   |inBlock _=>rfl
   |inRegion ops _ =>
    simp only[qCR,Array.all_eq_true]at hx ⊢;exact fun i hi=>qLZ true (hx i hi)
   |_=>cases hx
 induction h with
 |nil=>intro i hi;cases hi
 |tail h=>exact h
 |cons ok _ ih =>
  intro i hi;rcases List.mem_cons.1 hi with rfl|hi
  ·exact up ok
  ·exact ih i hi
theorem TodoR.self{st:Fl}(hs:st.stops=true):∀{k:List Item},(∀i∈k,qCR P al gl true i=true)->TodoR P al gl st k k
 |[],_=>.nil
 |x::k,h=>.cons (by rw[hs];exact h x (by simp)) (TodoR.self hs fun i hi=>h i (by simp[hi]))
theorem KM.frag(S:Setup P al gl (fun r=>r<0))(hE:EndsCl P Ends){c:Code}(hok:qA4 P al gl false c=true){b:Frame}{k:List Item}{cs:List Frame}{a:Act}{v:World}{Qn Qr:Act->World->Prop}
  (hQn:∀a w T d,Qn a w->Qn a (w.re T d)) (hQr:∀a w T d,Qr a w->Qr a (w.re T d)) (hC:∀T,c.wp P (fun|.normal=>Qn|.ret=>Qr|_=>fun _ _=>False) a (v.re T 0))
  (hn:∀a' v',Qn a' v'->KM P al gl F Ends (G (b.at a' k) cs) v') (hr:∀a' v',Qr a' v'->∀todo,KM P al gl F Ends (G { b.at a' todo with mode:=.returning } cs) v') :
  KM P al gl F Ends (G (b.at a (.code c::k)) cs) v:=by
 intro T d π g' w hG hW hgl hfm;obtain⟨fr1,cs1,sx1,dy1,of1⟩:=g';obtain⟨hs,y2,y3,y4,y5,y6,y7⟩:=hG;simp only at hs y3 y5 y6;subst y3 y5 y6;have hF:=hs.top;have hT:TodoR P al gl ⟨true,[]⟩ (.code c::k) fr1.todo:=hF.todo;obtain⟨k',ht,hk⟩:∃k',fr1.todo=.code c::k'/\TodoR P al gl ⟨true,[]⟩ k k':=by
  generalize fr1.todo=t at hT;generalize hz:(Item.code c::k)=z at hT;cases hT with
  |nil=>cases hz
  |tail _ =>
   simp only[mark,List.cons.injEq,Item.code.injEq]at hz;rw[hz.1]at hok;cases hok
  |@cons x ok k1 k1' h =>
   simp only[List.cons.injEq]at hz;obtain⟨rfl,rfl⟩:=hz;exact⟨k1',rfl,h⟩
 have hk':=hk.oks
 let Stop:Goroutine->World->Prop:=fun gv v=>gv.callers=[deadEnd P]/\((∃a',gv.frame=b.at a' [mark]/\Qn a' v)\/∃a' todo,gv.frame={ b.at a' todo with mode:=.returning }/\Qr a' v)
 have hStop:∀g w T d,Stop g w->Stop g (w.re T d):=fun g w T d h=>⟨h.1,h.2.imp (fun⟨a',e,q⟩=>⟨a',e,hQn _ _ _ _ q⟩) fun⟨a',todo,e,q⟩=>⟨a',todo,e,hQr _ _ _ _ q⟩⟩;have hSnp:∀g w,Stop g w->qIZ g:=fun g w h ch e=>by
  rcases h.2 with⟨a',e',-⟩|⟨a',todo,e',-⟩<;> (rw[e']at e;cases e)
 have hF0:FRel P al gl ⟨false,k'⟩ π (b.at a [.code c,mark]) fr1:=by
  refine⟨hF.fn,hF.tmps,?_,hF.defers,hF.defers',hF.mode,hF.kind,hF.normal,rfl,hF.round'⟩;rw[ht];exact TodoR.cons (st:=⟨false,k'⟩) (x:=.code c) hok (.tail hk')
 have hG0:GRel P al gl ⟨false,k'⟩ π (deadEnd P) cs1 (going (b.at a [.code c,mark]) [deadEnd P]) (going fr1 cs1):=⟨.base hF0,rfl,rfl,rfl,rfl,rfl,rfl⟩;have hO:qTz P al gl ⟨false,k'⟩ (fun r=>r<0) true (going (b.at a [.code c,mark]) [deadEnd P]) (v.re T d):=.inl ⟨π,cs1,_,w,hG0,hW,hgl,_,_,rfl⟩;have A:=qKD (st:=⟨false,k'⟩) rfl S true hStop;have hR:Runs P true Stop (going (b.at a [.code c,mark]) [deadEnd P]) (v.re T d):=by
  refine qF0 A hO fun T'=>?_;obtain⟨e,a1,w1,hq,harr⟩:=hC T' b [mark] [deadEnd P];cases e with
  | normal =>
   obtain⟨n,hn'⟩:=harr;rcases qJ4 (st:=⟨false,k'⟩) rfl S hStop n (A.inv _ _ T' 0 hO) hn' with⟨j,y,hj,hy⟩|⟨g',v',hj,e1,-⟩
   ·exact⟨j,y,hj,hy⟩
   ·refine⟨n,(g',v'),hj,?_⟩;have h1:=congrArg (fun m:Machine=>m.world) e1;have h2:=congrArg (fun m:Machine=>m.gs) e1;simp only[lone,Array.mk.injEq,List.cons.injEq,Goroutine.mk.injEq,and_true]at h1 h2;exact⟨h2.2.symm,.inl ⟨a1,h2.1.symm,by rw[<-h1];exact hq⟩⟩
  | ret =>
   obtain⟨todo,n,hn'⟩:=harr;rcases qJ4 (st:=⟨false,k'⟩) rfl S hStop n (A.inv _ _ T' 0 hO) hn' with⟨j,y,hj,hy⟩|⟨g',v',hj,e1,-⟩
   ·exact⟨j,y,hj,hy⟩
   ·refine⟨n,(g',v'),hj,?_⟩;have h1:=congrArg (fun m:Machine=>m.world) e1;have h2:=congrArg (fun m:Machine=>m.gs) e1;simp only[lone,Array.mk.injEq,List.cons.injEq,Goroutine.mk.injEq,and_true]at h1 h2;exact⟨h2.2.symm,.inr ⟨a1,todo,h2.1.symm,by rw[<-h1];exact hq⟩⟩
  |_=>exact hq.elim
 have hprog:=qTF (m:=true) (st:=⟨false,k'⟩) rfl S (π0:=π) hStop (fun g v h e=>by rw[h.1]at e;cases e) hSnp (cs':=cs1) (.inl rfl) hR hG0 hW (O:=fun r'=>∃r,π r r') (fun r r' p=>.inr ⟨r,p⟩) hgl (Ren.le_refl _);refine hprog.besideS hE (fun O g2 w2 _ hsn hst=>?_) (fun r' ⟨r,p⟩=>(hW.low p).2) (Since.refl _ _);obtain⟨π2,gv,v2,hle,⟨hcs,hst2⟩,hG2,hw2,hOO,hg2⟩:=hst w2 (.refl _ _ _);have hfm2:=hfm.since hsn hle hOO;obtain⟨fr2,cs2,sx2,dy2,of2⟩:=g2;obtain⟨hs2,z2,z3,z4,z5,z6,z7⟩:=hG2;simp only at hs2 z3 z5 z6;subst z3 z5 z6;have hF2:=hs2.top;obtain rfl:cs2=cs1:=by
  rw[hcs]at hs2;rcases hs2.inv with⟨-,-,e⟩|⟨c',l',-,-,hr,-⟩
  ·exact e
  ·obtain⟨_,_,_,_,e⟩:=hr;simp only[deadEnd,List.cons.injEq]at e;cases e.1
 rcases hst2 with⟨a',e,hq⟩|⟨a',todo,e,hq⟩
 ·rw[e]at hF2;have hT2:TodoR P al gl ⟨false,k'⟩ [mark] fr2.todo:=hF2.todo;have ht2:fr2.todo=k':=by
   generalize fr2.todo=t at hT2;cases hT2 with
   |tail _=>rfl
   |cons ok h=>cases ok
  refine hn a' v2 hq v2.tape v2.drawn π2 _ w2 ⟨(hs.mono hle).put ⟨hF2.fn,hF2.tmps,?_,hF2.defers,hF2.defers',hF2.mode,hF2.kind,hF2.normal,rfl,hF2.round'⟩,rfl,rfl,rfl,rfl,rfl,rfl⟩ hw2 hg2 hfm2;rw[ht2];exact hk
 ·rw[e]at hF2;have hT2:TodoR P al gl ⟨false,k'⟩ todo fr2.todo:=hF2.todo;refine hr a' v2 hq fr2.todo v2.tape v2.drawn π2 _ w2 ⟨(hs.mono hle).put ⟨hF2.fn,hF2.tmps,TodoR.self rfl hT2.oks,hF2.defers,hF2.defers',hF2.mode,hF2.kind,hF2.normal,rfl,hF2.round'⟩,rfl,rfl,rfl,rfl,rfl,rfl⟩ hw2 hg2 hfm2
theorem notAtStop_of{fr:Frame}(h:∀ops i rest k,fr.todo≠.inRegion ops (i::rest)::k):qD0 al fr:=fun ops i rest k _ e=>absurd e (h ops i rest k)
theorem KM.idle(S:Setup P al gl (fun r=>r<0))(hE:EndsCl P Ends){b:Frame}{a:Act}{x:Item}{k:List Item}{cs:List Frame}{g':Goroutine}{v:World}(hx:∀ops i rest,x≠.inRegion ops (i::rest))(h:∀w1,stepG P true (G (b.at a (x::k)) cs) w1=.go g' w1 #[])(hk:KM P al gl F Ends g' v)(hnp:qIZ g':=by intro ch e;cases e) :
  KM P al gl F Ends (G (b.at a (x::k)) cs) v:=by
 refine KM.step S hE (fun _=>notAtStop_of fun ops i rest k' e=>hx ops i rest ?_) (fun hm=>absurd rfl hm) fun T d=>⟨g',v.re T d,#[],h _,hnp,fun T' d'=>hk T' d'⟩;exact(List.cons.inj e).1
def AfterV(P:Program)(al:Cfg)(gl:Nat->Bool)(F:Fr0 P)(Ends:Machine->Trace->Prop)(b:Frame)(k:List Item)(cs:List Frame):Exit->Act->World->Prop
 |.normal,a,v=>KM P al gl F Ends (G (b.at a k) cs) v
 |.exit id,a,v=>∃k',exitTo id k=some k'/\KM P al gl F Ends (G (b.at a k') cs) v
 |.ret,a,v=>∀todo,KM P al gl F Ends (G { b.at a todo with mode:=.returning } cs) v
 |_,_,_=>False
def wpV(P:Program)(al:Cfg)(gl:Nat->Bool)(F:Fr0 P)(Ends:Machine->Trace->Prop)(c:Code)(Q:Exit->Act->World->Prop)(a:Act)(v:World):Prop :=
 ∀(b:Frame)(k:List Item)(cs:List Frame),b.kind≠.early->(∀e a' v',Q e a' v'->AfterV P al gl F Ends b k cs e a' v')->KM P al gl F Ends (G (b.at a (.code c::k)) cs) v
def qFp(P:Program)(al:Cfg)(gl:Nat->Bool)(F:Fr0 P)(Ends:Machine->Trace->Prop)(ops:Array Oper)(todo:List Nat)(Q:Exit->Act->World->Prop)(a:Act)(v:World):Prop :=
 ∀(b:Frame)(k:List Item)(cs:List Frame),b.kind≠.early->(∀e a' v',Q e a' v'->AfterV P al gl F Ends b k cs e a' v')->KM P al gl F Ends (G (b.at a (.inRegion ops todo::k)) cs) v
def qW2(next:Act->World->Prop)(Q:Exit->Act->World->Prop):Exit->Act->World->Prop
 |.normal,a,v=>next a v
 |e,a,v=>Q e a v
variable{Q:Exit->Act->World->Prop}{a:Act}{v:World}
theorem AfterV.push{b:Frame}{x:Item}{k:List Item}{cs:List Frame}{e:Exit}(hx:x.plain=true)(he:e≠.normal)(h:AfterV P al gl F Ends b k cs e a v):AfterV P al gl F Ends b (x::k) cs e a v:=by
 cases e with
 |normal=>exact absurd rfl he
 |exit id=>obtain⟨k',hk,hg⟩:=h;exact⟨k',by cases x<;>simp_all [exitTo,Item.plain],hg⟩
 |ret=>exact h
 |_=>exact h
theorem qTu{c:Code}{Q':Exit->Act->World->Prop}(h:wpV P al gl F Ends c Q a v)(hq:∀e a v,Q e a v->Q' e a v):wpV P al gl F Ends c Q' a v :=
 fun b k cs hb hc=>h b k cs hb fun _ _ _ q=>hc _ _ _ (hq _ _ _ q)
theorem qR5(S:Setup P al gl (fun r=>r<0))(hE:EndsCl P Ends)(h:Q .ret a v):wpV P al gl F Ends .ret Q a v:=fun _ _ _ _ hc =>
 KM.idle S hE (by simp) (fun _=>stepG_ret') (hc _ _ _ h _)
theorem qAz(S:Setup P al gl (fun r=>r<0))(hE:EndsCl P Ends){x y:Code}(h:wpV P al gl F Ends x (qW2 (fun a' v'=>wpV P al gl F Ends y Q a' v') Q) a v):wpV P al gl F Ends (.seq x y) Q a v:=by
 intro b k cs hb hc;refine KM.idle S hE (by simp) (fun _=>stepG_seq) (h b (.code y::k) cs hb fun e a' v' q=>?_);cases e with
 |normal=>exact q b k cs hb hc
 |exit id=>exact(hc _ _ _ q).push (x:=.code y) rfl (by simp)
 |ret=>exact(hc _ _ _ q).push (x:=.code y) rfl (by simp)
 |_=>exact hc _ _ _ q
theorem qAx(S:Setup P al gl (fun r=>r<0))(hE:EndsCl P Ends){id:Nat}{ops:Array Oper}(h:qFp P al gl F Ends ops (List.range ops.size) Q a v):wpV P al gl F Ends (.region id ops false) Q a v :=
 fun b k cs hb hc=>KM.idle S hE (by simp) (fun _=>stepG_region) (h b k cs hb hc)
theorem qBH(S:Setup P al gl (fun r=>r<0))(hE:EndsCl P Ends){ops:Array Oper}(h:Q .normal a v):qFp P al gl F Ends ops [] Q a v:=fun _ _ _ _ hc =>
 KM.idle S hE (by simp) (fun _=>stepG_region_end) (hc _ _ _ h)
theorem qHX(S:Setup P al gl (fun r=>r<0))(hE:EndsCl P Ends){c:Code}(hok:qA4 P al gl false c=true){Qn Qr:Act->World->Prop}(hQn:∀a w T d,Qn a w->Qn a (w.re T d))(hQr:∀a w T d,Qr a w->Qr a (w.re T d))
  (hC:∀T,c.wp P (fun|.normal=>Qn|.ret=>Qr|_=>fun _ _=>False) a (v.re T 0)) (hn:∀a v,Qn a v->Q .normal a v) (hr:∀a v,Qr a v->Q .ret a v):wpV P al gl F Ends c Q a v :=
 fun _ _ _ _ hc=>KM.frag S hE hok hQn hQr hC (fun _ _ q=>hc _ _ _ (hn _ _ q)) fun _ _ q=>hc _ _ _ (hr _ _ q)
theorem qCY(S:Setup P al gl (fun r=>r<0))(hE:EndsCl P Ends){ops:Array Oper}{i:Nat}{rest:List Nat}{o:Oper}(ho:ops[i]? = some o)(hst:stopOp al o.op=false)(hw:Region.wanted o (yielded ops a.tmps)=true)
  (h:∀T d,∃x v1,(execOp a.eval o).run P (v.re T d)=.ok (.value x) v1/\qFp P al gl F Ends ops rest Q (a.put o.dst x) v1):qFp P al gl F Ends ops (i::rest) Q a v:=by
 intro b k cs hb hc;refine KM.step S hE (fun _ ops' i' rest' k' o' e1 e2=>?_) (fun hm=>absurd rfl hm) fun T d=>?_
 ·have e1:(.inRegion ops (i::rest)::k:List Item)=.inRegion ops' (i'::rest')::k':=e1;simp only[List.cons.injEq,Item.inRegion.injEq]at e1;obtain⟨⟨rfl,rfl,rfl⟩,rfl⟩:=e1;rw[ho]at e2;cases e2;exact hst
 ·obtain⟨x,v1,e,hn⟩:=h T d;exact⟨_,v1,_,stepG_value ho hw hb e,(fun ch e=>by cases e),hn b k cs hb hc⟩
theorem qEH(S:Setup P al gl (fun r=>r<0))(hE:EndsCl P Ends){ops:Array Oper}{i:Nat}{rest:List Nat}{o:Oper}{f:FuncId}{args:Array Operand}{ats:Array TypeId}{fd:Func}{Post:Value->World->Prop}
  (ho : ops[i]? = some o) (hw : Region.wanted o (yielded ops a.tmps) = true) (hop : o.op = .call { callee := .value (.func f), args, argTypes := ats }) (hal : al f = true) (hf : P.funcs[f]? = some fd) (hname : (fd.name == "runtime.NumGoroutine") = false) (hbody : fd.body.isNone = false)
  (hP:∀x w T d,Post x w->Post x (w.re T d)) (hC:∀T,Calls P f (args.map a.eval) (v.re T 0) fun e w'=>∃x,e=.returned x/\Post x w') (hnext:∀x v1,Post x v1->qFp P al gl F Ends ops rest Q (a.put o.dst x) v1):qFp P al gl F Ends ops (i::rest) Q a v :=
 fun b k cs hb hc=>KM.call S hE ho hw hop hal hf hname hbody hb hP hC fun x v1 hp=>hnext x v1 hp b k cs hb hc
end
section
variable{P:Program}{Ends:Machine->Trace->Prop}{al:Cfg}{gl:Nat->Bool}{F:Fr0 P}
theorem FRel.real{st:Fl}{π:Ren P.globals.size}{b:Frame}{a:Act}{todo:List Item}{fr':Frame}(h:FRel P al gl st π (b.at a todo) fr'):fr'=b.at { tmps:=fr'.tmps,defers:=[] } fr'.todo:=by
 have hm:=h.mode;have hm:MRel al π .run fr'.mode:=hm;have h1:=h.fn;have h2:=h.defers';have h3:=h.kind;have h4:=h.round';have h5:=h.round;obtain⟨fn,tmps,todo',defers,mode,kind,round⟩:=fr';simp only[Frame.at]at h1 h2 h3 h4 h5 hm ⊢;subst h1 h2 h3 h4;cases hm;rfl
theorem KM.enter(hE:EndsCl P Ends){b:Frame}{k:List Item}{cs:List Frame}{ops:Array Oper}{i:Nat}{rest:List Nat}{o:Oper}{a:Act}{v:World}{f:FuncId}{args:Array Operand}{ats:Array TypeId}{fd:Func}{c:Code}
  (ho : ops[i]? = some o) (hw : ∀ ts, Region.wanted o (yielded ops ts) = true) (hop : o.op = .call { callee := .value (.func f), args, argTypes := ats }) (hargs : ∀ x ∈ args, qC2 al gl x = true) (hf : P.funcs[f]? = some fd) (hname : (fd.name == "runtime.NumGoroutine") = false) (hbody : fd.body = some c) (hok : qA4 P al gl true c = true) (hkd : b.kind ≠ .early)
  (h:KM P al gl F Ends (G ((Go.Conc.base f).at { tmps:=args.map a.eval++Array.replicate (fd.ntmps-(args.map a.eval).size) undef,defers:=[] } [.code c]) (b.at a (.inRegion ops (i::rest)::k)::cs)) v) :
  KM P al gl F Ends (G (b.at a (.inRegion ops (i::rest)::k)) cs) v:=by
 intro T d π g' w hG hW hgl hfm;refine KL.step hE hG.status' fun d0=>?_;obtain⟨fr1,cs1,sx1,dy1,of1⟩:=g';obtain⟨hs,y2,y3,y4,y5,y6,y7⟩:=hG;simp only at hs y3 y5 y6;subst y3 y5 y6;have hF:=hs.top;have hT:TodoR P al gl ⟨true,[]⟩ (.inRegion ops (i::rest)::k) fr1.todo:=hF.todo;obtain⟨k',ht,hk⟩:∃k',fr1.todo=.inRegion ops (i::rest)::k'/\TodoR P al gl ⟨true,[]⟩ k k':=by
  generalize fr1.todo=t at hT;generalize hz:(Item.inRegion ops (i::rest)::k)=z at hT;cases hT with
  |nil=>cases hz
  |tail _=>simp[mark]at hz
  |@cons x ok k1 k1' h =>
   simp only[List.cons.injEq]at hz;obtain⟨rfl,rfl⟩:=hz;exact⟨k1',rfl,h⟩
 have hreal:=hF.real;rw[ht]at hreal;have hkd':b.kind≠.early:=hkd;have hevr:∀x∈args,VRel (fun f=>al f=true) π (a.eval x) (({ tmps:=fr1.tmps,defers:=[] }:Act).eval x):=by
  intro x hx;have:=eval_rel hF hgl (hargs x hx);rw[hreal]at this;exact this
 have hvs:VsRel (fun f=>al f=true) π (args.map a.eval) (args.map ({ tmps:=fr1.tmps,defers:=[] }:Act).eval):=by
  refine⟨by simp,fun j h1 h2=>?_⟩;simp only[Array.getElem_map];exact hevr _ (Array.getElem_mem _)
 have hstep:∀w1,stepG P true (going fr1 cs1) w1=.go (G ((Go.Conc.base f).at { tmps:=args.map ({ tmps:=fr1.tmps,defers:=[] }:Act).eval++Array.replicate (fd.ntmps-(args.map ({ tmps:=fr1.tmps,defers:=[] }:Act).eval).size) undef,defers:=[] } [.code c]) (fr1::cs1)) w1 #[]:=by
  intro w1;have:=goes_call (P:=P) (main:=true) (w:=w1) (cs:=cs1) (b:=b) (k:=k') (rest:=rest) (a:={ tmps:=fr1.tmps,defers:=[] }) (K:=fun g w es=>g=G ((Go.Conc.base f).at { tmps:=args.map ({ tmps:=fr1.tmps,defers:=[] }:Act).eval++Array.replicate (fd.ntmps-(args.map ({ tmps:=fr1.tmps,defers:=[] }:Act).eval).size) undef,defers:=[] } [.code c]) (fr1::cs1)/\w=w1/\es=#[]) ho (hw _) hkd' hop hf hname hbody ⟨by rw[<-hreal],rfl,rfl⟩;rw[<-hreal]at this
  revert this
  generalize hst:stepG P true (G fr1 cs1) w1=st;intro this;have hst:stepG P true (going fr1 cs1) w1=st:=hst;rw[hst];cases st with
  |go g w es=>obtain⟨rfl,rfl,rfl⟩:=this;rfl
  |_=>exact this.elim
 refine⟨_,_,_,hstep _,Nat.le_refl _,by simp,?_⟩;refine h w.tape d0 π _ _ ⟨Stk.up ?_ ⟨_,_,_,_,rfl⟩ hs,rfl,rfl,rfl,rfl,rfl,rfl⟩ (hW.at d0) hgl (hfm.at d0);refine⟨rfl,?_,TodoR.cons (st:=⟨true,[]⟩) (x:=.code c) hok .nil,rfl,rfl,.run,rfl,rfl,rfl,rfl⟩;show VsRel _ _ (args.map a.eval++_) (args.map ({ tmps:=fr1.tmps,defers:=[] }:Act).eval++_);rw[<-hvs.size];refine hvs.append ⟨rfl,fun i h h'=>?_⟩;simp only[Array.getElem_replicate];exact qCP _ π
def qWA(P:Program)(fd:Func)(R:Value->World->Prop):Exit->Act->World->Prop
 |.normal,a,v=>a.defers=[]/\∃x,(∀T d,(results fd a.tmps).run P (v.re T d)=.ok x (v.re T d))/\R x v
 |.ret,a,v=>a.defers=[]/\∃x,(∀T d,(results fd a.tmps).run P (v.re T d)=.ok x (v.re T d))/\R x v
 |_,_,_=>False
theorem KM.leave(S:Setup P al gl (fun r=>r<0))(hE:EndsCl P Ends){f:FuncId}{fd:Func}(hf:P.funcs[f]? = some fd){a:Act}{todo:List Item}{c:Frame}{cs:List Frame}{v:World}{x:Value}(hcs:cs≠[])(hd:a.defers=[])(hx:∀T d,(results fd a.tmps).run P (v.re T d)=.ok x (v.re T d))
  (hnp:qIZ (going (c.finish x) cs)) (h:KM P al gl F Ends (G (c.finish x) cs) v):KM P al gl F Ends (G { (Go.Conc.base f).at a todo with mode:=.returning } (c::cs)) v:=by
 refine KM.step S hE (fun hm=>by cases hm) (fun _=>?_) fun T d=>?_
 ·unfold Low;cases cs with
  |nil=>exact absurd rfl hcs
  |cons _ _=>rfl
 ·have e0:(results fd a.tmps).runT P (v.re T d) #[]=(.ok x (v.re T d),((results fd a.tmps).runT P (v.re T d) #[]).2):=by
   have:((results fd a.tmps).runT P (v.re T d) #[]).1=.ok x (v.re T d):=by rw[Sem.runT_eq];exact hx T d
   rw[<-this]
  refine⟨going (c.finish x) cs,v.re T d,seen P f ((results fd a.tmps).runT P (v.re T d) #[]).2,?_,hnp,fun T' d'=>h T' d'⟩;unfold stepG G;simp only[Frame.at,Go.Conc.base];unfold unwind;simp only[hd,hf];rw[e0];unfold doReturn;simp[GStep.after,going]
theorem qGO(S:Setup P al gl (fun r=>r<0))(hE:EndsCl P Ends){Q:Exit->Act->World->Prop}{a:Act}{v:World}{ops:Array Oper}{i:Nat}{rest:List Nat}{o:Oper}{f:FuncId}{args:Array Operand}{ats:Array TypeId}{fd:Func}{c:Code}
  (ho : ops[i]? = some o) (hw : ∀ ts, Region.wanted o (yielded ops ts) = true) (hop : o.op = .call { callee := .value (.func f), args, argTypes := ats }) (hargs : ∀ x ∈ args, qC2 al gl x = true) (hf : P.funcs[f]? = some fd) (hname : (fd.name == "runtime.NumGoroutine") = false) (hbody : fd.body = some c) (hok : qA4 P al gl true c = true)
  (h:wpV P al gl F Ends c (qWA P fd fun x v1=>qFp P al gl F Ends ops rest Q (a.put o.dst x) v1) { tmps:=args.map a.eval++Array.replicate (fd.ntmps-(args.map a.eval).size) undef,defers:=[] } v):qFp P al gl F Ends ops (i::rest) Q a v:=by
 intro b k cs hb hc;by_cases hcs:cs=[]
 ·subst hcs;intro T d π g' w hG _ _ _;exact absurd rfl hG.stk.ne
 have hfin:∀x,(b.at a (.inRegion ops (i::rest)::k)).finish x=b.at (a.put o.dst x) (.inRegion ops rest::k):=fun x=>by rw[Frame.finish_at,ho];rfl
 refine KM.enter hE ho hw hop hargs hf hname hbody hok hb (h (Go.Conc.base f) [] _ (by simp[Go.Conc.base]) fun e a' v' q=>?_);have key:(a'.defers=[]/\∃x,(∀T d,(results fd a'.tmps).run P (v'.re T d)=.ok x (v'.re T d))/\qFp P al gl F Ends ops rest Q (a.put o.dst x) v')->∀todo,KM P al gl F Ends (G { (Go.Conc.base f).at a' todo with mode:=.returning } (b.at a (.inRegion ops (i::rest)::k)::cs)) v':=by
  rintro⟨hd,x,hx,hR⟩todo;refine KM.leave S hE hf hcs hd hx (fun ch e=>by rw[hfin]at e;cases e) ?_;rw[hfin];exact hR b k cs hb hc
 cases e with
 |normal =>
  refine KM.step S hE (fun _ ops' i' rest' k' o' e1=>by cases e1) (fun hm=>absurd rfl hm) fun T d=>⟨_,_,_,stepG_end,(fun ch e=>by cases e),fun T' d'=>key q [] T' d'⟩
 |ret=>exact key q
 |_=>exact q.elim
def GoodEnd(P:Program)(Post:Value->World->Prop)(m:Machine)(t:Trace):Prop :=
 ∃M last o w' t',runNT P (M+1) m t=(.ended o w',t')/\runN P M m=.next last/\step P last=.ended o w'/\Good P Post last o w' t'
theorem qI3{Post:Value->World->Prop}:EndsCl P (GoodEnd P Post):=by
 intro m t m' ops hs ⟨M,last,o,w',t',h1,h2,h3,h4⟩;refine⟨M+1,last,o,w',t',?_,?_,h3,h4⟩
 ·rw[runNT,hs];exact h1
 ·have:step P m=.next m':=by simp[step,hs]
  rw[runN,this];exact h2
def qXB(P:Program)(al:Cfg)(gl:Nat->Bool)(F:Fr0 P)(fd:Func)(Post:Value->World->Prop)(a:Act)(v:World):Prop :=
 ∃x,(∀T d,(results fd a.tmps).run P (v.re T d)=.ok x (v.re T d))/\∀T d (π:Ren P.globals.size) x' w,VRel (fun f=>al f=true) π x x'->WRel (fun f=>al f=true) (fun r=>r<0) π (v.re T d) w->(∀y,gl y=true->π y y)->Frm F π w->Post x' w
theorem KM.ends(hV:qCj P){f:FuncId}{fd:Func}(hf:P.funcs[f]? = some fd)(hin:P.inits.idxOf? f=none){Post:Value->World->Prop}{a:Act}{todo:List Item}{v:World}(hB:F.B=[])(h:qXB P al gl F fd Post a v) :
  KM P al gl F (GoodEnd P Post) (G { (Go.Conc.base f).at a todo with mode:=.returning } [deadEnd P]) v:=by
 intro T d π g' w hG hW hgl hfm gs sl t q h0 hL hP;refine beside_ends (D:=fun _ _ _=>False) (n:=0) (fun _ _ _ h=>h.elim) h0 hL hP ?_;rintro w1⟨d0,rfl⟩;obtain⟨x,hx,hpost⟩:=h;obtain⟨fr1,cs1,sx1,dy1,of1⟩:=g';obtain⟨hs,y2,y3,y4,y5,y6,y7⟩:=hG;simp only at hs y3 y5 y6;subst y3 y5 y6;have hF:=hs.top;obtain rfl:cs1=[]:=by
  rcases hs.inv with⟨-,-,e⟩|⟨c',l',-,-,hr,-⟩
  ·exact e.trans hB
  ·obtain⟨_,_,_,_,e⟩:=hr;simp only[deadEnd,List.cons.injEq]at e;cases e.1
 have hmode:fr1.mode=.returning:=by
  have hm:MRel al π .returning fr1.mode:=hF.mode;generalize fr1.mode=m at hm;cases hm;rfl
 have hfn:fr1.fn=f:=hF.fn;have hkind:fr1.kind=.normal:=hF.kind.trans rfl;have hrun:=(sResults (Shr:=fun r=>r<0) fd hF.tmps).run hV #[] #[] (hW.at d0) (by simp);have e0:(results fd a.tmps).runT P (v.re w.tape d0) #[]=(.ok x (v.re w.tape d0),((results fd a.tmps).runT P (v.re w.tape d0) #[]).2):=by
  have:((results fd a.tmps).runT P (v.re w.tape d0) #[]).1=.ok x (v.re w.tape d0):=by rw[Sem.runT_eq];exact hx _ _
  rw[<-this]
 rw[show(v.re T d).re w.tape d0=v.re w.tape d0 from rfl,show(G ({ (Go.Conc.base f).at a todo with mode:=.returning }:Frame) [deadEnd P]).frame.tmps=a.tmps from rfl,e0]at hrun;obtain⟨x',w1,es1,π',e,hab,hw1,hg1,hk1,he⟩:=hrun;have hsame:w1=w.at d0:=qGv (P:=P) (fn:=fd) (t:=fr1.tmps) (x:=x') (by have:=congrArg Prod.fst e;rw[Sem.runT_eq]at this;exact this);subst hsame;refine⟨rfl,x',seen P f es1,?_,fun ev hev=>qQQ hw1 (he ev (Go.Conc.mem_seen hev)) (qDZ hev),hpost _ _ π' x' _ hab hw1 (fun y hy=>hg1.le _ _ (hgl y hy)) ((hfm.at d0).go hg1 hk1)⟩;unfold stepG;simp only[hmode];unfold unwind;rw[hF.defers',hmode];simp only[hfn,hf];rw[e];unfold doReturn;simp[hkind,hfn,hin,GStep.after]
theorem KM.whole(S:Setup P al gl (fun r=>r<0)){f:FuncId}{fd:Func}{c:Code}(hf:P.funcs[f]? = some fd)(hin:P.inits.idxOf? f=none){Post:Value->World->Prop}{ts:Array Value}{v:World}(hB:F.B=[])
  (h:wpV P al gl F (GoodEnd P Post) c (fun|.normal|.ret=>fun a v=>qXB P al gl F fd Post a v|_=>fun _ _=>False) { tmps:=ts,defers:=[] } v) :
  KM P al gl F (GoodEnd P Post) (G ((Go.Conc.base f).at { tmps:=ts,defers:=[] } [.code c]) [deadEnd P]) v:=by
 refine h (Go.Conc.base f) [] _ (by simp[Go.Conc.base]) fun e a' v' q=>?_;cases e with
 |normal=>exact KM.step S qI3 (fun _ ops' i' rest' k' o' e1=>by cases e1) (fun hm=>absurd rfl hm) fun T d=>⟨_,_,_,stepG_end,(fun ch e=>by cases e),fun T' d'=>KM.ends S.fine hf hin hB q T' d'⟩
 |ret=>exact fun todo=>KM.ends S.fine hf hin hB q
 |_=>exact q.elim
end
def qIj(v:World)(r:Nat):Prop:=∃c e f,v.heap[r]? = some (.cells c e f)
inductive Clean (v:World):Value->Prop
 |bool (b:Bool):Clean v (.bool b)
 |int (k:IntKind) (n:Int):Clean v (.int k n)
 |string (s:ByteArray):Clean v (.string s)
 |nilPtr:Clean v (.pointer none)
 |pointer {a:Addr} (h:qIj v a.block):Clean v (.pointer (some a))
 |nilSlice (n c:Nat):Clean v (.slice none n c)
 |slice {a:Addr} (h:qIj v a.block) (n c:Nat):Clean v (.slice (some a) n c)
 |nilFunc:Clean v .nilFunc
 |nilIface:Clean v .nilIface
 |iface (t:TypeId) {x:Value} (h:Clean v x):Clean v (.iface t x)
section
variable{G:Nat}{Al Al':FuncId->Prop}{π:Ren G}{v w:World}
def Ren.rows(π:Ren G)(v:World):Ren G:=⟨fun r s=>π r s/\qIj v r,fun h=>π.ok h.1,fun h k=>π.inj h.1 k.1⟩
theorem VRel.rows{x x':Value}(h:VRel Al π x x'):∃y,VRel Al' (π.rows v) y x'/\(Clean v x->y=x):=by
 have row:∀{c c':Array Value}(_:c.size=c'.size)(_:∀i (h:i<c.size) (h':i<c'.size),∃y,VRel Al' (π.rows v) y c'[i]/\(Clean v c[i]->y=c[i])),∃d:Array Value,d.size=c'.size/\∀i (h:i<d.size) (h':i<c'.size),VRel Al' (π.rows v) d[i] c'[i]:=by
  intro c c' hs ih;refine⟨Array.ofFn fun i:Fin c'.size=>(ih i (by omega) i.2).choose,by simp,fun i h h'=>?_⟩;simp only[Array.getElem_ofFn];exact(ih i (by omega) h').choose_spec.1
 induction h with
 |@pointer a b h =>
  by_cases hr:qIj v a.block
  ·exact⟨_,.pointer ⟨⟨h.block,hr⟩,h.off,h.spot⟩,fun _=>rfl⟩
  ·exact⟨_,.lost _ rfl,fun hc=>by cases hc;exact absurd ‹_› hr⟩
 |@slice a b h n c =>
  by_cases hr:qIj v a.block
  ·exact⟨.slice (some a) n c,.slice (π:=π.rows v) ⟨⟨h.block,hr⟩,h.off,h.spot⟩ n c,fun _=>rfl⟩
  ·exact⟨_,.lost _ rfl,fun hc=>by cases hc;exact absurd ‹_› hr⟩
 |chan c=>exact⟨_,.chan c,fun _=>rfl⟩
 |@func fn ok f c f' c' hf hc _ _ i1 i2 =>
  cases fn with
  |func g=>exact⟨_,.lost _ rfl,fun hc=>by cases hc⟩
  |_=>exact ok.elim
 |iface t _ ih =>
  obtain⟨y,h1,h2⟩:=ih;exact⟨_,.iface t h1,fun hc=>by cases hc with|iface _ h=>rw[h2 h]⟩
 |agg hs _ ih =>
  obtain⟨d,s,r⟩:=row hs ih;exact⟨_,.agg s r,fun hc=>by cases hc⟩
 |tuple hs _ ih =>
  obtain⟨d,s,r⟩:=row hs ih;exact⟨_,.tuple s r,fun hc=>by cases hc⟩
 |lost x h=>exact⟨_,.lost x h,fun _=>rfl⟩
 |bool b=>exact⟨_,.bool b,fun _=>rfl⟩
 |int k n=>exact⟨_,.int k n,fun _=>rfl⟩
 |string s=>exact⟨_,.string s,fun _=>rfl⟩
 |nilPtr=>exact⟨_,.nilPtr,fun _=>rfl⟩
 |nilSlice n c=>exact⟨_,.nilSlice n c,fun _=>rfl⟩
 |nilMap=>exact⟨_,.nilMap,fun _=>rfl⟩
 |nilChan=>exact⟨_,.nilChan,fun _=>rfl⟩
 |nilFunc=>exact⟨_,.nilFunc,fun _=>rfl⟩
 |nilIface=>exact⟨_,.nilIface,fun _=>rfl⟩
theorem VsRel.rows{c c':Array Value}(h:VsRel Al π c c'):∃d,VsRel Al' (π.rows v) d c'/\d.size=c.size/\∀(i:Nat) x,c[i]? = some x->Clean v x->d[i]? = some x:=by
 have key:∀i (_:i<c.size) (h':i<c'.size),∃y,VRel Al' (π.rows v) y c'[i]/\(Clean v c[i]->y=c[i]):=fun i a b=>(h.get i a b).rows;have hs:=h.size;refine⟨Array.ofFn fun i:Fin c'.size=>(key i (by omega) i.2).choose,⟨by simp,fun i h h'=>?_⟩,by simp[hs],fun i x e hx=>?_⟩
 ·simp only[Array.getElem_ofFn];exact(key i (by omega) h').choose_spec.1
 ·obtain⟨hi,rfl⟩:=Array.getElem?_eq_some_iff.1 e;rw[Array.getElem?_eq_getElem (by simp;omega)];simp only[Array.getElem_ofFn,Option.some.injEq];exact(key i hi (by omega)).choose_spec.2 hx
def qWV(Al:FuncId->Prop)(π:Ren G)(v w:World)(r:Nat)(o:Obj):Prop :=
 ∃c e f c2,v.heap[r]? = some (.cells c e f)/\o=.cells c2 e (0,c.size)/\c2.size=c.size/\(∀(i:Nat) x,c[i]? = some x->Clean v x->c2[i]? = some x)/\∀r',π r r'->∃c' f',w.heap[r']? = some (.cells c' e f')/\VsRel Al (π.rows v) c2 c'
open Classical in
noncomputable def fzHeap(Al:FuncId->Prop)(π:Ren G)(v w:World):Array Obj:=Array.ofFn fun i:Fin v.heap.size=>if h:∃o,qWV Al π v w i o then h.choose else v.heap[i]
noncomputable def fz(Al:FuncId->Prop)(π:Ren G)(v w:World):World:={ v with heap:=fzHeap Al π v w }
theorem qVp{Shr:Nat->Prop}(hW:WRel Al Shr π v w){r:Nat}(hr:qIj v r):∃o,(fz Al' π v w).heap[r]? = some o/\qWV Al' π v w r o:=by
 obtain⟨c,e,f,hc⟩:=hr;have hlt:r<v.heap.size:=(Array.getElem?_eq_some_iff.1 hc).1;have hex:∃o,qWV Al' π v w r o:=by
  by_cases hp:∃r',π r r'
  ·obtain⟨r',hp⟩:=hp;rcases hW.obj hp with⟨c1,c',e1,f1,f',h1,h2,h3,-⟩|⟨o,o',h1,-,h2,-⟩
   ·rw[hc]at h1;cases h1;obtain⟨d,d1,d2,d3⟩:=h3.rows (v:=v);refine⟨_,c,e,f,d,hc,rfl,d2,d3,fun r2 hp2=>?_⟩;obtain rfl:r'=r2:=(π.inj hp hp2).1 rfl;exact⟨c',f',h2,d1⟩
   ·rw[hc]at h1;cases h1;cases h2
  ·exact⟨_,c,e,f,c,hc,rfl,rfl,fun _ _ h _=>h,fun r' hp'=>absurd ⟨r',hp'⟩ hp⟩
 refine⟨hex.choose,?_,hex.choose_spec⟩;show(fzHeap Al' π v w)[r]? = _;unfold fzHeap;rw[Array.getElem?_eq_getElem (by simpa using hlt),Array.getElem_ofFn];simp only[hex,dif_pos]
theorem qJ0:(fz Al π v w).heap.size=v.heap.size:=by
 show(fzHeap Al π v w).size=_;unfold fzHeap;simp
theorem qUj(h:v.heap[deadN]? = some qK9):(fz Al π v w).heap[deadN]? = some qK9:=by
 have hlt:deadN<v.heap.size:=(Array.getElem?_eq_some_iff.1 h).1;have hno:¬∃o,qWV Al π v w deadN o:=fun⟨o,c,e,f,c2,hc,_⟩=>by rw[h]at hc;cases hc
 show(fzHeap Al π v w)[deadN]? = _;unfold fzHeap;rw[Array.getElem?_eq_getElem (by simpa using hlt),Array.getElem_ofFn];simp only[hno,dif_neg,not_false_eq_true];rw[<-h,Array.getElem?_eq_getElem hlt];rfl
theorem qVq(hW:WRel Al (fun r=>r<0) π v w):WRel Al' (fun r=>r<w.heap.size) (π.rows v) (fz Al' π v w) w:=by
 refine⟨hW.tape,hW.drawn,hW.os,fun p=>⟨by rw[qJ0];exact(hW.low p.1).1,(hW.low p.1).2⟩,fun{r r'} p=>?_,fun _ h=>h,by rw[qJ0];exact hW.gv,hW.gw,qUj hW.dead.1,fun r r' p=>hW.dead.2 r r' p.1⟩;obtain⟨o,h1,c,e,f,c2,h2,rfl,h3,h4,h5⟩:=qVp (Al':=Al') hW p.2;obtain⟨c',f',h6,h7⟩:=h5 r' p.1;exact .inl ⟨c2,c',e,(0,c.size),f',h1,h6,h7,fun hn=>absurd (hW.low p.1).2 hn,fun _=>by rw[h3]⟩
theorem qQc(hW:WRel Al (fun r=>r<0) π v w){r:Nat}{c:Array Value}{e:TypeId}{f:Nat×Nat}(hc:v.heap[r]? = some (.cells c e f)):∃c2,(fz Al' π v w).heap[r]? = some (.cells c2 e (0,c.size))/\c2.size=c.size/\∀(i:Nat) x,c[i]? = some x->Clean v x->c2[i]? = some x:=by
 obtain⟨o,h1,c1,e1,f1,c2,h2,rfl,h3,h4,-⟩:=qVp (Al':=Al') hW ⟨c,e,f,hc⟩;rw[hc]at h2;cases h2;exact⟨c2,h1,h3,h4⟩
end
section
variable{P:Program}{m:Bool}{N0:Nat}
theorem Prog.frame{Stop:(Nat->Prop)->Goroutine->World->Prop}{O:Nat->Prop}{g:Goroutine}{w:World}(h:Prog P m N0 Stop O g w){E:Nat->Prop}{w0:World} :
  (∀r,E r\/r<N0->r<w.heap.size/\¬O r/\w.heap[r]? = w0.heap[r]?)->qEz w=qEz w0 ->
   Prog P m N0 (fun O' g w=>∃O1,O'=(fun r=>O1 r\/E r)/\Stop O1 g w/\(∀r,E r\/r<N0->r<w.heap.size/\¬O1 r/\w.heap[r]? = w0.heap[r]?)/\qEz w=qEz w0) (fun r=>O r\/E r) g w:=by
 have weak:∀{O:Nat->Prop}{w w1:World},Rely N0 (fun r=>O r\/E r) w w1->Rely N0 O w w1:=fun h=>⟨h.size,fun r hr=>h.own r (.inl hr),h.old,h.os⟩;have same:∀{O:Nat->Prop}{w w1:World},Rely N0 (fun r=>O r\/E r) w w1->∀r,E r\/r<N0->w1.heap[r]? = w.heap[r]?:=fun h r hr=>hr.elim (fun x=>h.own r (.inr x)) (h.old r)
 induction h with
 |@stop O g w h =>
  intro hE hos;exact .stop fun w1 h1=>⟨O,rfl,h w1 (weak h1),fun r hr=>⟨Nat.lt_of_lt_of_le (hE r hr).1 h1.size,(hE r hr).2.1,(same h1 r hr).trans (hE r hr).2.2⟩,h1.os.trans hos⟩
 | @step O g w hr go next ih =>
  intro hE hos;have eg:∀w1 w',(fun r=>grow O w1 w' r\/E r)=grow (fun r=>O r\/E r) w1 w':=by
   intro w1 w';funext r;apply propext;unfold grow;constructor
   ·rintro((h|h)|h)
    ·exact .inl (.inl h)
    ·exact .inr h
    ·exact .inl (.inr h)
   ·rintro((h|h)|h)
    ·exact .inl (.inl h)
    ·exact .inr h
    ·exact .inl (.inr h)
  refine .step hr (fun w1 h1=>?_) fun w1 g' w' es h1 e=>?_
  ·obtain⟨g',w',es,e,hr',hG⟩:=go w1 (weak h1);refine⟨g',w',es,e,hr',hG.size,fun r hr hn=>hG.same r hr fun x=>hn (.inl x),hG.rest,fun ev hev=>?_⟩;rw[<-eg];rcases hG.evs ev hev with⟨a,x1,x2,x3⟩|⟨r,x1,x2,x3⟩|x
   ·exact .inl ⟨a,x1,x2,x3.imp .inl id⟩
   ·exact .inr (.inl ⟨r,x1,x2,x3.imp .inl id⟩)
   ·exact .inr (.inr x)
  ·obtain⟨g2,w2,es2,e2,-,hG⟩:=go w1 (weak h1);rw[e2]at e;cases e;rw[<-eg];refine ih w1 _ _ _ (weak h1) e2 (fun r hr=>?_) (hG.oo.trans (h1.os.trans hos));obtain⟨a1,a2,a3⟩:=hE r hr;have l1:r<w1.heap.size:=Nat.lt_of_lt_of_le a1 h1.size;exact⟨Nat.lt_of_lt_of_le l1 hG.size,fun x=>x.elim a2 fun y=>by omega,(hG.same r l1 a2).trans ((same h1 r hr).trans a3)⟩
variable{al:Cfg}{gl:Nat->Bool}
structure InView(P:Program)(al:Cfg)(gl:Nat->Bool)(N0:Nat)(E:Nat->Prop)(w0:World)(O:Nat->Prop)(π:Ren P.globals.size)(u w:World):Prop where
 rel:WRel (fun f=>al f=true) (fun r=>r<N0) π (u.re w.tape w.drawn) w
 own:∀r r',π r r'->r'<N0\/(O r'/\¬E r')
 gls:∀x,gl x=true->π x x
 ge:∀r,O r->N0<=r
 sub:∀r,E r->O r
 old:∀r,E r\/r<N0->r<w.heap.size/\w.heap[r]? = w0.heap[r]?
 os:qEz w=qEz w0
variable{E:Nat->Prop}{w0:World}{O:Nat->Prop}{π:Ren P.globals.size}{u w:World}
theorem InView.rely(h:InView P al gl N0 E w0 O π u w){w1:World}(hr:Rely N0 O w w1):InView P al gl N0 E w0 O π u w1 :=
 ⟨h.rel.rely (fun r r' p=>(h.own r r' p).imp id fun x=>x.1) hr,h.own,h.gls,h.ge,h.sub,fun r x=>⟨Nat.lt_of_lt_of_le (h.old r x).1 hr.size,(x.elim (fun y=>hr.own r (h.sub r y)) (hr.old r)).trans (h.old r x).2⟩,hr.os.trans h.os⟩
theorem InView.re(h:InView P al gl N0 E w0 O π u w)(T:Nat->Question->Nat)(d:Nat):InView P al gl N0 E w0 O π (u.re T d) w:=⟨h.rel,h.own,h.gls,h.ge,h.sub,h.old,h.os⟩
variable{σ:Type}{K:σ->(Nat->Prop)->Goroutine->World->Prop}{fn:FuncId}{Q:Exit->Act->σ->(Nat->Prop)->World->Prop}{a:Act}{s:σ}
structure Ext{G:Nat}(N0:Nat)(π π':Ren G):Prop where
 le:Ren.le π π'
 new:∀r r',π' r r'->π r r'\/N0<=r'
theorem Ext.trans{G:Nat}{a b c:Ren G}(h:Ext N0 a b)(k:Ext N0 b c):Ext N0 a c:=⟨Ren.le_trans h.le k.le,fun r r' p=>(k.new r r' p).elim (h.new r r') .inr⟩
theorem qSN(C:Clo P m N0 K)(S:Setup P al gl (fun r=>r<N0))(V:InView P al gl N0 E w0 O π u w){ops:Array Oper}{i:Nat}{rest:List Nat}{o:Oper}{b:Frame}{k:List Item}{cs:List Frame}(hk:b.kind≠.early)(ho:ops[i]? = some o)(hw:Region.wanted o (yielded ops a.tmps)=true)(hop:qLY P al o.op=true)
  {ρ:Operand->Value} (hc:∀v,ρ (.const v)=v) (hρ:∀x∈o.op.operands,VRel (fun f=>al f=true) π (ρ x) (a.eval x)) {Post:Value->World->Prop} (hrun:∀T d,∃y u1,(execOp ρ o).run P (u.re T d)=.ok (.value y) u1/\Post y u1)
  (hnext:∀O' π' y y' u1 w',Ext N0 π π'->Post y u1->VRel (fun f=>al f=true) π' y y'->InView P al gl N0 E w0 O' π' u1 w'->K s O' (G (b.at (a.put o.dst y') (.inRegion ops rest::k)) cs) w'):K s O (G (b.at a (.inRegion ops (i::rest)::k)) cs) w:=by
 have key:∀w1,Rely N0 O w w1->∃v w',(execOp a.eval o).run P w1=.ok (.value v) w'/\Guar N0 O w1 w' (listed P b.fn a o w1)/\K s (grow O w1 w') (G (b.at (a.put o.dst v) (.inRegion ops rest::k)) cs) w':=fun w1 h1=>?_
 ·refine C.step s O _ w rfl (fun w1 h1=>?_) fun w1 g' w' es h1 e=>?_
  ·obtain⟨v,w',e,hg,-⟩:=key w1 h1;exact⟨_,w',_,stepG_value ho hw hk e,rfl,hg⟩
  ·obtain⟨v,w2,e2,hg,hn⟩:=key w1 h1;rw[stepG_value ho hw hk e2]at e;cases e;exact hn
 have V1:=V.rely h1;obtain⟨y,u1,e,hp⟩:=hrun w1.tape w1.drawn;have hs:=(qU9 (Shr:=fun r=>r<N0) (fun _ h=>h) S.free S.good V1.gls hop hρ hc).run S.fine #[] #[] V1.rel (by simp);have e0:((execOp ρ o).runT P (u.re w1.tape w1.drawn) #[]).1=.ok (.value y) u1:=by rw[Sem.runT_eq];exact e
 rw[e0]at hs;obtain⟨z,w2,es,π',e2,hz,hw2,hg,hk,hev⟩:=hs;cases hz with
 | @value _ y' hy =>
  have er:(execOp a.eval o).run P w1=.ok (.value y') w2:=by
   have:=congrArg Prod.fst e2;rw[Sem.runT_eq]at this;exact this
  have ev:(execOp a.eval o).events P w1 #[]=es:=by
   have:=congrArg Prod.snd e2;rw[Sem.runT_eq]at this;exact this
  have hown:∀r r',π' r r'->r'<N0\/(grow O w1 w2 r'/\¬E r'):=by
   intro r r' p;rcases hg.new r r' p with q|q
   ·exact(V1.own r r' q).imp id fun x=>⟨.inl x.1,x.2⟩
   ·exact .inr ⟨.inr ⟨q,(hw2.low p).2⟩,fun x=>by have:=(V1.old r' (.inl x)).1;omega⟩
  have hN:N0<=w1.heap.size:=by
   rcases Nat.eq_zero_or_pos N0 with e|e
   ·omega
   ·have:=V1.rel.shr (N0-1) (show N0-1<N0 by omega);omega
  have hsame:∀r,r<w1.heap.size->(¬O r\/E r)->w2.heap[r]? = w1.heap[r]?:=by
   intro r hr hno;rcases hk.same r hr with q|⟨q,r0,p⟩
   ·exact q
   ·rcases V1.own r0 r p with h|h
    ·exact absurd h q
    ·exact(hno.elim (fun x=>x h.1) fun x=>h.2 x).elim
  refine⟨y',w2,er,⟨hk.size,fun r hr hn=>hsame r hr (.inl hn),hk.rest,fun x hx=>?_⟩,?_⟩
  ·unfold listed at hx;rw[ev]at hx;exact qLE (fun r r' p=>(hown r r' p).imp id fun x=>x.1) (hev x (Go.Conc.mem_seen hx)) (qDZ hx)
  ·refine hnext _ π' y y' u1 w2 ⟨hg.le,fun r r' p=>(hg.new r r' p).imp id fun q=>by omega⟩ hp hy ⟨?_,hown,fun x hx=>hg.le _ _ (V1.gls x hx),fun r x=>x.elim (V1.ge r) fun y=>by omega,fun r x=>.inl (V1.sub r x),fun r x=>?_,hk.oo.trans V1.os⟩
   ·have et:=hw2.tape;have ed:=hw2.drawn;rw[show u1.re w2.tape w2.drawn=u1 from by rw[et,ed];rfl];exact hw2
   ·have q:=V1.old r x;exact⟨Nat.lt_of_lt_of_le q.1 hk.size,(hsame r q.1 (x.elim .inr fun y=>.inl fun z=>by have:=V1.ge r z;omega)).trans q.2⟩
theorem qNC(C:Clo P m N0 K)(S:Setup P al gl (fun r=>r<N0))(V:InView P al gl N0 E w0 O π u w){ops:Array Oper}{i:Nat}{rest:List Nat}{o:Oper}{f:FuncId}{args:Array Operand}{ats:Array TypeId}{fd:Func}{b:Frame}{k:List Item}{cs:List Frame}(hk:b.kind≠.early)(ho:ops[i]? = some o)(hw:Region.wanted o (yielded ops a.tmps)=true)
  (hop : o.op = .call { callee := .value (.func f), args, argTypes := ats }) (hal : al f = true) (hf : P.funcs[f]? = some fd) (hname : (fd.name == "runtime.NumGoroutine") = false) (hbody : fd.body.isNone = false)
  {xs:Array Value} (hxs:VsRel (fun f=>al f=true) π xs (args.map a.eval)) {Post:Value->World->Prop} (hP:∀x w T d,Post x w->Post x (w.re T d)) (hC:∀T,Calls P f xs (u.re T 0) fun e w'=>∃x,e=.returned x/\Post x w')
  (hnext:∀O' π' x x' u1 w',Ren.le π π'->Post x u1->VRel (fun f=>al f=true) π' x x'->InView P al gl N0 E w0 O' π' u1 w'->K s O' (G (b.at (a.put o.dst x') (.inRegion ops rest::k)) cs) w'):K s O (G (b.at a (.inRegion ops (i::rest)::k)) cs) w:=by
 obtain⟨c,hc0⟩:∃c,fd.body=some c:=by cases h:fd.body with|none=>rw[h]at hbody;cases hbody|some c=>exact⟨c,rfl⟩
 have hfin:∀v,(b.at a (.inRegion ops (i::rest)::k)).finish v=b.at (a.put o.dst v) (.inRegion ops rest::k):=fun v=>by rw[Frame.finish_at,ho];rfl
 have hk':(b.kind==CallKind.early)=false:=by simpa using hk
 have hent:Frame.enter P f (args.map a.eval) .normal=(Go.Conc.base f).at { tmps:=args.map a.eval++Array.replicate (fd.ntmps-(args.map a.eval).size) undef,defers:=[] } [.code c]:=by
  unfold Frame.enter;rw[hf];simp[hc0,Frame.at,Go.Conc.base]
 have hstep:∀w1,stepG P m (G (b.at a (.inRegion ops (i::rest)::k)) cs) w1=.go (going (Frame.enter P f (args.map a.eval) .normal) (b.at a (.inRegion ops (i::rest)::k)::cs)) w1 #[]:=by
  intro w1;have:=goes_call (P:=P) (main:=m) (w:=w1) (cs:=cs) (K:=fun g w es=>g=going (Frame.enter P f (args.map a.eval) .normal) (b.at a (.inRegion ops (i::rest)::k)::cs)/\w=w1/\es=#[]) ho hw hk hop hf hname hc0 ⟨by rw[hent];rfl,rfl,rfl⟩
  revert this
  generalize stepG P m (G (b.at a (.inRegion ops (i::rest)::k)) cs) w1=st;cases st with
  |go g w es=>rintro⟨rfl,rfl,rfl⟩;rfl
  |_=>exact False.elim
 have hG0:GRel P al gl ⟨false,[]⟩ π (deadEnd P) (b.at a (.inRegion ops (i::rest)::k)::cs) (going (Frame.enter P f xs .normal) [deadEnd P]) (going (Frame.enter P f (args.map a.eval) .normal) (b.at a (.inRegion ops (i::rest)::k)::cs)) :=
  ⟨.base (FRel.enter S hal hxs .normal rfl ⟨fd,c,hf,hc0⟩),rfl,rfl,rfl,rfl,rfl,rfl⟩
 have hO:qTz P al gl ⟨false,[]⟩ (fun r=>r<N0) true (going (Frame.enter P f xs .normal) [deadEnd P]) (u.re w.tape w.drawn):=.inl ⟨π,_,_,w,hG0,V.rel,V.gls,_,_,rfl⟩;have hR:=qFz rfl S hO hP fun T'=>hC T';have hprog:=qGt (m:=m) rfl S (π0:=π) hP (cs':=b.at a (.inRegion ops (i::rest)::k)::cs) (by simp) hR hG0 V.rel (O:=fun r=>O r/\¬E r) V.own V.gls (Ren.le_refl _);have hfr:=hprog.frame (E:=E) (w0:=w0) (fun r x=>⟨(V.old r x).1,fun y=>x.elim y.2 fun z=>by have:=V.ge r y.1;omega,(V.old r x).2⟩) V.os;have eO:(fun r=>(O r/\¬E r)\/E r)=O:=by
  funext r;apply propext;constructor
  ·rintro(h|h)
   ·exact h.1
   ·exact V.sub r h
  ·intro h;by_cases hE:E r
   ·exact .inr hE
   ·exact .inl ⟨h,hE⟩
 rw[eO]at hfr;refine C.idle rfl rfl hstep (hfr.into C fun O' g' w' hst=>?_);have pop:∀w1,Rely N0 O' w' w1->∃π' u1 x x',Ren.le π π'/\Post x u1/\VRel (fun f=>al f=true) π' x x'/\InView P al gl N0 E w0 O' π' u1 w1/\∃es,stepG P m g' w1=.go (G (b.at (a.put o.dst x') (.inRegion ops rest::k)) cs) w1 es/\∀e∈es,EvO N0 O' e:=by
  intro w1 h1;obtain⟨O1,rfl,⟨π',v,x,x',hle,hp,hx,hwr,hO,hg,hgo,hm,hd,hkd,fd2,hfd2,hres,hev⟩,hE,hos⟩:=hst w1 h1;refine⟨π',v,x,x',hle,hp,hx,⟨?_,fun r r' p=>(hO r r' p).imp id fun y=>⟨.inl y,fun z=>(hE r' (.inl z)).2.1 y⟩,hg,fun r y=>?_,fun r y=>.inr y,fun r y=>⟨(hE r y).1,(hE r y).2.2⟩,hos⟩,seen P g'.frame.fn ((results fd2 g'.frame.tmps).runT P w1 #[]).2,?_,fun e he=>?_⟩
  ·have et:=hwr.tape;have ed:=hwr.drawn;rw[show v.re w1.tape w1.drawn=v from by rw[et,ed];rfl];exact hwr
  ·rcases y with y|y
   ·exact Nat.le_of_not_lt fun z=>(hE r (.inr z)).2.1 y
   ·exact V.ge r (V.sub r y)
  ·rw[hgo];have e0:(results fd2 g'.frame.tmps).runT P w1 #[]=(.ok x' w1,((results fd2 g'.frame.tmps).runT P w1 #[]).2):=by
    have:((results fd2 g'.frame.tmps).runT P w1 #[]).1=.ok x' w1:=by rw[Sem.runT_eq];exact hres
    rw[<-this]
   unfold stepG going;simp only[hm];unfold unwind;rw[hd,hm];simp only[hfd2];rw[e0];unfold doReturn;simp only[hkd];rw[hfin];simp[GStep.after,G]
  ·rcases hev e he with⟨a,x1,x2,x3⟩|⟨r,x1,x2,x3⟩|x
   ·exact .inl ⟨a,x1,x2,x3.imp .inl id⟩
   ·exact .inr (.inl ⟨r,x1,x2,x3.imp .inl id⟩)
   ·exact .inr (.inr x)
 refine C.step s O' g' w' ?_ (fun w1 h1=>?_) fun w1 g2 w2 es h1 e=>?_
 ·obtain⟨O1,-,⟨_,_,_,_,_,_,_,_,_,_,hgo,_⟩,-,-⟩:=hst w' (.refl _ _ _);rw[hgo];rfl
 ·obtain⟨π',u1,x,x',_,_,_,_,es,e,hev⟩:=pop w1 h1;exact⟨_,w1,es,e,rfl,Nat.le_refl _,fun _ _ _=>rfl,⟨rfl,rfl,rfl,Nat.le_refl _⟩,by rw[qHw];exact hev⟩
 ·obtain⟨π',u1,x,x',hle,hp,hx,hV,es',e',hev⟩:=pop w1 h1;rw[e']at e;cases e;rw[qHw];exact hnext O' π' x x' u1 w1 hle hp hx hV
theorem qFo(C:Clo P m N0 K)(S:Setup P al gl (fun r=>r<N0))(V:InView P al gl N0 E w0 O π u w){ops:Array Oper}{i:Nat}{rest:List Nat}{o:Oper}(ho:ops[i]? = some o)(hw:Region.wanted o (yielded ops a.tmps)=true)(hop:qLY P al o.op=true)
  {ρ:Operand->Value} (hc:∀v,ρ (.const v)=v) (hρ:∀x∈o.op.operands,VRel (fun f=>al f=true) π (ρ x) (a.eval x)) {Post:Value->World->Prop} (hrun:∀T d,∃y u1,(execOp ρ o).run P (u.re T d)=.ok (.value y) u1/\Post y u1)
  (hnext:∀O' π' y y' u1 w',Ext N0 π π'->Post y u1->VRel (fun f=>al f=true) π' y y'->InView P al gl N0 E w0 O' π' u1 w'->qEG K fn ops rest Q (a.put o.dst y') s O' w'):qEG K fn ops (i::rest) Q a s O w :=
 fun b k cs hb hk hcc=>qSN C S V hk ho hw hop hc hρ hrun fun O' π' y y' u1 w' h1 h2 h3 h4=>hnext O' π' y y' u1 w' h1 h2 h3 h4 b k cs hb hk hcc
theorem qO8(C:Clo P m N0 K)(S:Setup P al gl (fun r=>r<N0))(V:InView P al gl N0 E w0 O π u w){ops:Array Oper}{i:Nat}{rest:List Nat}{o:Oper}{f:FuncId}{args:Array Operand}{ats:Array TypeId}{fd:Func}(ho:ops[i]? = some o)(hw:Region.wanted o (yielded ops a.tmps)=true)
  (hop : o.op = .call { callee := .value (.func f), args, argTypes := ats }) (hal : al f = true) (hf : P.funcs[f]? = some fd) (hname : (fd.name == "runtime.NumGoroutine") = false) (hbody : fd.body.isNone = false)
  {xs:Array Value} (hxs:VsRel (fun f=>al f=true) π xs (args.map a.eval)) {Post:Value->World->Prop} (hP:∀x w T d,Post x w->Post x (w.re T d)) (hC:∀T,Calls P f xs (u.re T 0) fun e w'=>∃x,e=.returned x/\Post x w')
  (hnext:∀O' π' x x' u1 w',Ren.le π π'->Post x u1->VRel (fun f=>al f=true) π' x x'->InView P al gl N0 E w0 O' π' u1 w'->qEG K fn ops rest Q (a.put o.dst x') s O' w'):qEG K fn ops (i::rest) Q a s O w :=
 fun b k cs hb hk hcc=>qNC C S V hk ho hw hop hal hf hname hbody hxs hP hC fun O' π' y y' u1 w' h1 h2 h3 h4=>hnext O' π' y y' u1 w' h1 h2 h3 h4 b k cs hb hk hcc
end
section
theorem qAB(a:Act)(d:Option Nat)(x:Value):(a.put d x).tmps.size=a.tmps.size:=by
 cases d<;>simp[Act.put]
theorem qAM(a:Act)(d:Option Nat)(x:Value):(a.put d x).defers=a.defers:=by
 cases d<;>simp[Act.put]
theorem qHT(a:Act)(x:Value):a.put none x=a:=rfl
theorem qAA(a:Act)(d i:Nat)(x:Value):(a.put (some d) x).eval (.tmp i)=if i=d/\d<a.tmps.size then x else a.eval (.tmp i):=by
 simp only[Act.put,Act.eval,Array.getD_eq_getD_getElem?,Array.getElem?_setIfInBounds];by_cases h:d=i
 ·subst h;by_cases h2:d<a.tmps.size
  ·simp[h2]
  ·simp[h2]
 ·simp[h,Ne.symm h]
theorem qCT(a:Act)(v:Value):a.eval (.const v)=v:=rfl
variable{P:Program}{m:Bool}{N0:Nat}{σ:Type}{K:σ->(Nat->Prop)->Goroutine->World->Prop}{fn:FuncId}{Q:Exit->Act->σ->(Nat->Prop)->World->Prop}{a:Act}{s:σ}{O:Nat->Prop}{w:World}{ops:Array Oper}{i:Nat}{rest:List Nat}{o:Oper}
theorem qBE(C:Clo P m N0 K)(d:Option Nat)(x:Operand)(ho:ops[i]? = some o)(hop:o.op=.move x)(hg:o.guard=none)(hd:o.dst=d)(h:qEG K fn ops rest Q (a.put d (a.eval x)) s O w):qEG K fn ops (i::rest) Q a s O w:=by
 subst hd;refine qEj C ho (by simp[Region.wanted,hg]) (fun w1=>?_) (fun w1=>?_) h
 ·unfold execOp;rw[hop];rfl
 ·unfold listed execOp;rw[hop];simp[seen]
theorem qBK(C:Clo P m N0 K)(d:Option Nat)(x:Operand)(ho:ops[i]? = some o)(hop:o.op=.assign x)(hg:o.guard=none)(hd:o.dst=d)(h:qEG K fn ops rest Q (a.put d (a.eval x)) s O w):qEG K fn ops (i::rest) Q a s O w:=by
 subst hd;refine qEj C ho (by simp[Region.wanted,hg]) (fun w1=>?_) (fun w1=>?_) h
 ·unfold execOp;rw[hop];rfl
 ·unfold listed execOp;rw[hop];simp[seen]
theorem qEe(C:Clo P m N0 K){b:Frame}{k:List Item}{cs:List Frame}(hk:b.kind≠.early)(d:Option Nat)(x:Operand)(ho:ops[i]? = some o)(hop:o.op=.move x\/o.op=.assign x)(hg:o.guard=none)(hd:o.dst=d)(h:K s O (G (b.at (a.put d (a.eval x)) (.inRegion ops rest::k)) cs) w):K s O (G (b.at a (.inRegion ops (i::rest)::k)) cs) w:=by
 subst hd;have e:∀w1,(execOp a.eval o).run P w1=.ok (.value (a.eval x)) w1:=fun w1=>by
  unfold execOp;rcases hop with hop|hop<;>rw[hop]<;>rfl
 refine C.idle rfl rfl (fun w1=>?_) h;rw[stepG_value ho (by simp[Region.wanted,hg]) hk (e w1),listed_none];unfold execOp;rcases hop with hop|hop<;>rw[hop]<;>simp
theorem qMz {b : Frame} {k : List Item} {cs : List Frame} {f : FuncId} {args : Array Operand} {ats : Array TypeId} {fd : Func} {c : Code} (hk : b.kind ≠ .early) (ho : ops[i]? = some o) (hg : o.guard = none) (hop : o.op = .call { callee := .value (.func f), args, argTypes := ats }) (hf : P.funcs[f]? = some fd) (hname : (fd.name == "runtime.NumGoroutine") = false) (hbody : fd.body = some c) (w1 : World) :
  stepG P m (G (b.at a (.inRegion ops (i::rest)::k)) cs) w1=.go (G ((Go.Conc.base f).at { tmps:=args.map a.eval++Array.replicate (fd.ntmps-(args.map a.eval).size) undef,defers:=[] } [.code c]) (b.at a (.inRegion ops (i::rest)::k)::cs)) w1 #[]:=by
 have:=goes_call (P:=P) (main:=m) (w:=w1) (cs:=cs) (K:=fun g w es=>g=G ((Go.Conc.base f).at { tmps:=args.map a.eval++Array.replicate (fd.ntmps-(args.map a.eval).size) undef,defers:=[] } [.code c]) (b.at a (.inRegion ops (i::rest)::k)::cs)/\w=w1/\es=#[]) ho (by simp[Region.wanted,hg]) hk hop hf hname hbody ⟨rfl,rfl,rfl⟩
 revert this
 generalize stepG P m (G (b.at a (.inRegion ops (i::rest)::k)) cs) w1=st;cases st with
 |go g w es=>rintro⟨rfl,rfl,rfl⟩;rfl
 |_=>exact False.elim
theorem qPs{c:Nat}{x:Operand}{ats:Array TypeId}{b:Frame}{k:List Item}{cs:List Frame}(hk:b.kind≠.early)(ho:ops[i]? = some o)(hop:o.op=.call { callee:=.builtin .close,args:=#[x],argTypes:=ats })(hg:o.guard=none)(hx:a.eval x=.chan (some c))(hq:(P.funcs[b.fn]?).any (·.norace)=false)(hmw:mayWake P (G (b.at a (.inRegion ops (i::rest)::k)) cs)=true)
  (n:Nat) (h:QuitsD P n 0 (G (b.at (a.put o.dst (.tuple #[])) (.inRegion ops rest::k)) cs)):WScr P N0 c [] O (G (b.at a (.inRegion ops (i::rest)::k)) cs) w :=
 .close _ n rfl hmw (fun _ _ _ _ hc=>stepG_close ho (by simp[Region.wanted,hg]) hk hop hx hc hq) h
theorem qQ9{c:Nat}{n:Int}{xs:List Int}{x y:Operand}(ho:ops[i]? = some o)(hop:o.op=.send x y)(hg:o.guard=none)(hx:a.eval x=.chan (some c))(hy:a.eval y=goInt n)
  {Q:Exit->Act->List Int->(Nat->Prop)->World->Prop} (h:qEG (WScr P N0 c) fn ops rest Q (a.put o.dst undef) xs O w):qEG (WScr P N0 c) fn ops (i::rest) Q a (n::xs) O w:=by
 intro b k cs hb hk hc;have hw:Region.wanted o (yielded ops a.tmps)=true:=by simp[Region.wanted,hg]
 have hr:∀w,(execOp a.eval o).run P w=.ok (.comm #[scase c (goInt n) (.tuple #[])] true .send) w:=fun w=>by
  unfold execOp;rw[hop];simp[hx,hy,scase]
 have he:∀w,(execOp a.eval o).events P w #[]=#[]:=fun w=>by
  unfold execOp;rw[hop];simp
 refine .send (.tuple #[]) rfl (fun w1 _=>by rw[stepG_comm ho hw hk (hr _),listed_none (he _)]) ?_;rw[finishComm_send];have hfin:(b.at a (.inRegion ops (i::rest)::k)).finish undef=b.at (a.put o.dst undef) (.inRegion ops rest::k):=by rw[Frame.finish_at,ho];rfl
 have:Go.Conc.served (G (b.at a (.inRegion ops (i::rest)::k)) cs) undef=G (b.at (a.put o.dst undef) (.inRegion ops rest::k)) cs:=by
  unfold Go.Conc.served;rw[show(G (b.at a (.inRegion ops (i::rest)::k)) cs).frame=b.at a (.inRegion ops (i::rest)::k) from rfl,hfin];rfl
 rw[this];exact h b k cs hb hk hc
theorem qS9{c:Bool->Nat}{Fin:qG1}{rem:Bool->Option (List Int)}{z:Value}{Q:Exit->Act->(Bool->Option (List Int))->(Nat->Prop)->World->Prop}(ho:ops[i]? = some o)(hg:o.guard=none)(hr:∀w,(execOp a.eval o).run P w=.ok (.comm (qA5 c z rem) true .select) w)(he:∀w,(execOp a.eval o).events P w #[]=#[])(hopen:∃b,rem b≠none)
  (got:∀b x xs,rem b=some (x::xs)->qEG (MScr P N0 c Fin) fn ops rest Q (a.put o.dst (commResult (qA5 c z rem) .select (qDz b:Nat) (goInt x) true)) (upB rem b (some xs)) O w)
  (shut:∀b,rem b=some []->qEG (MScr P N0 c Fin) fn ops rest Q (a.put o.dst (commResult (qA5 c z rem) .select (qDz b:Nat) z false)) (upB rem b none) O w):qEG (MScr P N0 c Fin) fn ops (i::rest) Q a rem O w:=by
 intro b k cs hb hk hc;have hw:Region.wanted o (yielded ops a.tmps)=true:=by simp[Region.wanted,hg]
 have hfin:∀v,Go.Conc.served (G (b.at a (.inRegion ops (i::rest)::k)) cs) v=G (b.at (a.put o.dst v) (.inRegion ops rest::k)) cs:=fun v=>by
  unfold Go.Conc.served;rw[show(G (b.at a (.inRegion ops (i::rest)::k)) cs).frame=b.at a (.inRegion ops (i::rest)::k) from rfl,Frame.finish_at,ho];rfl
 refine .sel z rfl hopen (fun w1 _=>by rw[stepG_comm ho hw hk (hr _),listed_none (he _)]) (fun b' x xs e=>?_) fun b' e=>?_
 ·rw[finishComm_served,hfin];exact got b' x xs e b k cs hb hk hc
 ·rw[finishComm_served,hfin];exact shut b' e b k cs hb hk hc
theorem qDK{j:Nat}{want:Bool}(hg:o.guard=some (j,want)){oj:Oper}(hj:ops[j]? = some oj)(d:Nat)(hd:oj.dst=some d)(hlt:d<a.tmps.size)(v:Bool)(hv:a.eval (.tmp d)=.bool v):Region.wanted o (yielded ops a.tmps)=(v==want):=by
 have h2:a.tmps[d]? = some (.bool v):=by
  simp only[Act.eval,Array.getD_eq_getD_getElem?]at hv;rw[Array.getElem?_eq_getElem hlt]at hv ⊢;simpa using hv
 unfold Region.wanted yielded;simp only[hg,hj,Option.bind_some,hd,h2];cases v<;>cases want<;>rfl
theorem qO9(C:Clo P m N0 K)(d:Option Nat)(x:Operand)(ho:ops[i]? = some o)(hop:o.op=.move x)(hw:Region.wanted o (yielded ops a.tmps)=true)(hd:o.dst=d)(h:qEG K fn ops rest Q (a.put d (a.eval x)) s O w):qEG K fn ops (i::rest) Q a s O w:=by
 subst hd;refine qEj C ho hw (fun w1=>?_) (fun w1=>?_) h
 ·unfold execOp;rw[hop];rfl
 ·unfold listed execOp;rw[hop];simp[seen]
theorem qQ8(C:Clo P m N0 K)(d:Option Nat)(ho:ops[i]? = some o)(hw:Region.wanted o (yielded ops a.tmps)=false)(hd:o.dst=d)(h:qEG K fn ops rest Q (a.put d undef) s O w):qEG K fn ops (i::rest) Q a s O w:=by
 subst hd;exact qKB C ho hw h
def one(vx:Value):Operand->Value
 |.const v=>v
 |_=>vx
theorem qCG{al:Cfg}{gl:Nat->Bool}{E:Nat->Prop}{w0:World}{π:Ren P.globals.size}{u:World}(C:Clo P m N0 K)(S:Setup P al gl (fun r=>r<N0))(V:InView P al gl N0 E w0 O π u w)(ho:ops[i]? = some o)(hg:o.guard=none)(hop:qLY P al o.op=true)(d:Option Nat)(hd:o.dst=d)(t:Nat)(hops:o.op.operands=#[.tmp t])(vx:Value)(hx:VRel (fun f=>al f=true) π vx (a.eval (.tmp t)))
  (y:Value) (hrun:∀T d,(execOp (one vx) o).run P (u.re T d)=.ok (.value y) (u.re T d))
  (hnext:∀O' π' y' w',Ext N0 π π'->VRel (fun f=>al f=true) π' y y'->InView P al gl N0 E w0 O' π' u w'->qEG K fn ops rest Q (a.put d y') s O' w'):qEG K fn ops (i::rest) Q a s O w:=by
 subst hd;refine qFo C S V (ρ:=one vx) (Post:=fun y1 u1=>y1=y/\∃T d,u1=u.re T d) ho (by simp[Region.wanted,hg]) hop (fun _=>rfl) (fun z hz=>?_) (fun T d=>⟨y,_,hrun T d,rfl,T,d,rfl⟩) ?_
 ·rw[hops]at hz;simp only[List.mem_toArray,List.mem_singleton]at hz;subst hz;exact hx
 ·rintro O1 π1 y1 y' u1 w1 hle ⟨rfl,T,d,rfl⟩ hy V1;exact hnext O1 π1 y' w1 hle hy (by have:=V1.re u.tape u.drawn;exact this)
theorem qGr{al:Cfg}{gl:Nat->Bool}{E:Nat->Prop}{w0:World}{π:Ren P.globals.size}{u:World}(C:Clo P m N0 K)(S:Setup P al gl (fun r=>r<N0))(V:InView P al gl N0 E w0 O π u w)(ho:ops[i]? = some o)(hw:Region.wanted o (yielded ops a.tmps)=true)(hop:qLY P al o.op=true)(d:Option Nat)(hd:o.dst=d)(t:Nat)(cv:Value)(hops:o.op.operands=#[.tmp t,.const cv])(hcv:VRel (fun f=>al f=true) π cv cv)(vx:Value)(hx:VRel (fun f=>al f=true) π vx (a.eval (.tmp t)))
  (y:Value) (hrun:∀T d,(execOp (one vx) o).run P (u.re T d)=.ok (.value y) (u.re T d))
  (hnext:∀O' π' y' w',Ext N0 π π'->VRel (fun f=>al f=true) π' y y'->InView P al gl N0 E w0 O' π' u w'->qEG K fn ops rest Q (a.put d y') s O' w'):qEG K fn ops (i::rest) Q a s O w:=by
 subst hd;refine qFo C S V (ρ:=one vx) (Post:=fun y1 u1=>y1=y/\∃T d,u1=u.re T d) ho hw hop (fun _=>rfl) (fun z hz=>?_) (fun T d=>⟨y,_,hrun T d,rfl,T,d,rfl⟩) ?_
 ·rw[hops]at hz;simp only[List.mem_toArray,List.mem_cons,List.not_mem_nil,or_false]at hz;rcases hz with rfl|rfl
  ·exact hx
  ·exact hcv
 ·rintro O1 π1 y1 y' u1 w1 hle ⟨rfl,T,d,rfl⟩ hy V1;exact hnext O1 π1 y' w1 hle hy (by have:=V1.re u.tape u.drawn;exact this)
theorem qDj{al:Cfg}{gl:Nat->Bool}{E:Nat->Prop}{w0:World}{π:Ren P.globals.size}{u:World}(C:Clo P m N0 K)(S:Setup P al gl (fun r=>r<N0))(V:InView P al gl N0 E w0 O π u w)(ho:ops[i]? = some o)(hg:o.guard=none)(hop:qLY P al o.op=true)(d:Option Nat)(hd:o.dst=d)(t:Nat)(cv:Value)(hops:o.op.operands=#[.tmp t,.const cv])(hcv:VRel (fun f=>al f=true) π cv cv)(vx:Value)(hx:VRel (fun f=>al f=true) π vx (a.eval (.tmp t)))
  (y:Value) (hrun:∀T d,(execOp (one vx) o).run P (u.re T d)=.ok (.value y) (u.re T d))
  (hnext:∀O' π' y' w',Ext N0 π π'->VRel (fun f=>al f=true) π' y y'->InView P al gl N0 E w0 O' π' u w'->qEG K fn ops rest Q (a.put d y') s O' w'):qEG K fn ops (i::rest) Q a s O w :=
 qGr C S V ho (by simp[Region.wanted,hg]) hop d hd t cv hops hcv vx hx y hrun hnext
theorem qJA{al:Cfg}{gl:Nat->Bool}{E:Nat->Prop}{w0:World}{π:Ren P.globals.size}{u:World}(C:Clo P m N0 K)(S:Setup P al gl (fun r=>r<N0))(V:InView P al gl N0 E w0 O π u w)(f:FuncId){fd:Func}(d:Option Nat)(t1 t2:Nat){ats:Array TypeId}(ho:ops[i]? = some o)(hg:o.guard=none)(hd:o.dst=d)
  (hop : o.op = .call { callee := .value (.func f), args := #[.tmp t1, .tmp t2], argTypes := ats }) (hal : al f = true) (hf : P.funcs[f]? = some fd) (hname : (fd.name == "runtime.NumGoroutine") = false) (hbody : fd.body.isNone = false)
  (x1 x2:Value) (h1:VRel (fun f=>al f=true) π x1 (a.eval (.tmp t1))) (h2:VRel (fun f=>al f=true) π x2 (a.eval (.tmp t2))) (Post:Value->World->Prop) (hP:∀x w T d,Post x w->Post x (w.re T d)) (hC:∀T,Calls P f #[x1,x2] (u.re T 0) fun e w'=>∃x,e=.returned x/\Post x w')
  (hnext:∀O' π' x x' u1 w',Ren.le π π'->Post x u1->VRel (fun f=>al f=true) π' x x'->InView P al gl N0 E w0 O' π' u1 w'->qEG K fn ops rest Q (a.put d x') s O' w'):qEG K fn ops (i::rest) Q a s O w:=by
 subst hd;refine qO8 C S V ho (by simp[Region.wanted,hg]) hop hal hf hname hbody (xs:=#[x1,x2]) ⟨by simp,fun j hj hj'=>?_⟩ hP hC hnext;have hj:j<2:=hj;obtain rfl|rfl:j=0\/j=1:=by omega
 ·simpa using h1
 ·simpa using h2
end
