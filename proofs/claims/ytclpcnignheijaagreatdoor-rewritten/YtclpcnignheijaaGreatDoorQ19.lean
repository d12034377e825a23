/-
  Parts of the proof: M1, M2, M3, M4, M5, M6, M7, M8, M9, M10, M11, M12.
-/
import Derived.Test.YtclpcnignheijaaGreatDoorQ18
import Derived.Conc.TokenTrace
import Derived.Conc.CrowdSel
namespace Go.Proofs.YtclpcnignheijaaGreatDoor
open Go Go.Conc
def blk:Loc->Option Nat
 |.cell a=>some a.block
 |.obj r=>some r
 |_=>none
structure Co(N0 B:Nat)(Mem:Nat->Prop)(own:Nat->Nat->Prop)(Gone:Nat->Nat->Prop)(t:Trace):Prop where
 clean:∀said,¬Race said t
 mine:∀g,Mem g->∀i a r,touchAt t i=some a->blk a.loc=some r->own g r->Knows t g i
 old:∀g,Mem g->∀i a r,touchAt t i=some a->blk a.loc=some r->r<N0->a.write=true->Knows t g i
 all:∀i a,touchAt t i=some a->a.loc.isMemory=true->Knows t 0 i\/(∃g,t.g? i=some g/\Mem g)\/∃c m,Gone c m/\Before t i m
 hears:∀g,Mem g->Deaf t g=0
 seen:∀op∈t,op.act.low B
 gone:∀c m,Gone c m->t.act? m=some (.close c)/\t.heard m
theorem qUs{B:Nat}{x:MemAct}{a:Touch}{r:Nat}(h:x.low B)(ht:x.touch? = some a)(hb:blk a.loc=some r):r<B:=by
 cases x with
 |access e =>
  simp only[MemAct.touch?,Option.some.injEq]at ht;subst ht;obtain⟨loc,wr,sy⟩:=e;cases loc with
  |cell b=>simp only[blk,Option.some.injEq]at hb;subst hb;exact h
  |obj b=>simp only[blk,Option.some.injEq]at hb;subst hb;exact h
  |_=>cases hb
 |mark mk =>
  cases mk<;>simp only[MemAct.touch?,Option.some.injEq,reduceCtorEq]at ht
  all_goals (subst ht;simp only[blk,Option.some.injEq]at hb;subst hb;exact h)
 |_=>cases ht
section
variable{N0 B:Nat}{Mem:Nat->Prop}{own own':Nat->Nat->Prop}{Gone:Nat->Nat->Prop}{t u:Trace}
theorem Co.gone_app(H:Co N0 B Mem own Gone t)(u:Trace):∀c m,Gone c m->(t++u).act? m=some (.close c)/\(t++u).heard m:=by
 intro c m h;obtain⟨h1,g,hg,hd⟩:=H.gone c m h;have hlt:=lt_of_act? h1;exact⟨by rw[act?_old hlt];exact h1,g,by rw[g?_old hlt];exact hg,by rw[deaf_old (Nat.le_of_lt hlt)];exact hd⟩
theorem Co.all_app(H:Co N0 B Mem own Gone t){i:Nat}{a:Touch}{x:MemOp}(hx:t[i]? = some x)(hxa:x.act.touch? = some a)(hm:a.loc.isMemory=true) :
  Knows (t++u) 0 i\/(∃g,(t++u).g? i=some g/\Mem g)\/∃c m,Gone c m/\Before (t++u) i m:=by
 rcases H.all i a (by rw[touchAt_of hx];exact hxa) hm with h|⟨g,hg,hmem⟩|⟨c,m,h1,h2⟩
 ·exact .inl (h.app u)
 ·exact .inr (.inl ⟨g,by rw[g?_old (lt_size_of_getElem? hx)];exact hg,hmem⟩)
 ·exact .inr (.inr ⟨c,m,h1,h2.app u⟩)
theorem Co.mute(H:Co N0 B Mem own Gone t)(hn:∀op∈u,op.act.touch? = none)(hd:∀g,Mem g->Deaf (t++u) g=Deaf t g)(hl:∀op∈u,op.act.low B):Co N0 B Mem own Gone (t++u):=by
 have keep:∀{i:Nat}{a:Touch},touchAt (t++u) i=some a->touchAt t i=some a/\∃x,t[i]? = some x/\x.act.touch? = some a:=by
  intro i a ha;obtain⟨x,hx,hxa⟩:=touch_of ha;rcases getElem?_append_cases hx with⟨_,hx'⟩|⟨_,hxu⟩
  ·exact⟨by rw[touchAt_of hx'];exact hxa,x,hx',hxa⟩
  ·rw[hn x hxu]at hxa;cases hxa
 refine⟨fun said=>noRace_appendMute (H.clean said) hn,fun g hg i a r ha hb ho=>?_,fun g hg i a r ha hb ho hw=>?_,fun i a ha hm=>?_,fun g hg=>(hd g hg).trans (H.hears g hg),seen_app H.seen hl,H.gone_app u⟩
 ·exact(H.mine g hg i a r (keep ha).1 hb ho).app u
 ·exact(H.old g hg i a r (keep ha).1 hb ho hw).app u
 ·obtain⟨-,x,hx,hxa⟩:=keep ha;exact H.all_app hx hxa hm
theorem Co.does{g:Nat}{B':Nat}(H:Co N0 B Mem own Gone t)(hg:Mem g)(hB:B<=B')(hu:∀op∈u,op.g=g)
  (he:∀op∈u,∀b,op.act.touch? = some b->∃r,blk b.loc=some r/\(own' g r\/(r<N0/\b.write=false)))
  (hnew:∀r,own' g r->own g r\/B<=r) (hge:∀r,own' g r->N0<=r) (hoth:∀g',g'≠g->∀r,own' g' r↔own g' r) (hdis:∀g',Mem g'->g'≠g->∀r,own' g' r->¬own' g r/\N0<=r)
  (hd:Deaf (t++u) g=Deaf t g) (hl:∀op∈u,op.act.low B'):Co N0 B' Mem own' Gone (t++u):=by
 have cas:∀{i:Nat}{a:Touch},touchAt (t++u) i=some a->(∃x,t[i]? = some x/\x.act.touch? = some a)\/∃x,(t++u)[i]? = some x/\x∈u/\x.act.touch? = some a:=by
  intro i a ha;obtain⟨x,hx,hxa⟩:=touch_of ha;rcases getElem?_append_cases hx with⟨_,hx'⟩|⟨_,hxu⟩
  ·exact .inl ⟨x,hx',hxa⟩
  ·exact .inr ⟨x,hx,hxu,hxa⟩
 have ownK:∀{i:Nat}{x:MemOp},(t++u)[i]? = some x->x∈u->Knows (t++u) g i:=fun hx hxu=>by
  have:=knows_own hx
  rwa[hu _ hxu]at this
 have known:∀i a r,touchAt t i=some a->blk a.loc=some r->own' g r->Knows t g i:=by
  intro i a r ha hb ho;rcases hnew r ho with h|h
  ·exact H.mine g hg i a r ha hb h
  ·obtain⟨x,hx,hxa⟩:=touch_of ha;have:=qUs (H.seen x (Array.mem_of_getElem? hx)) hxa hb;omega
 refine⟨fun said=>noRace_append (H.clean said) hu fun i a ha op hop b hb hc=>?_,fun g' hg' i a r ha hbl ho=>?_,fun g' hg' i a r ha hbl ho hw=>?_,fun i a ha hm=>?_,fun g' hg'=>?_,seen_app (fun op hop=>MemAct.low_mono hB (H.seen op hop)) hl,H.gone_app u⟩
 ·obtain⟨r,hr,h⟩:=he op hop b hb;rw[<-hc.1]at hr;rcases h with h|⟨h,hw⟩
  ·exact known i a r ha hr h
  ·rcases hc.2.2.1 with x|x
   ·exact H.old g hg i a r ha hr h x
   ·rw[hw]at x;cases x
 ·by_cases e:g'=g
  ·subst e;rcases cas ha with⟨x,hx,hxa⟩|⟨x,hx,hxu,hxa⟩
   ·exact(known i a r (by rw[touchAt_of hx];exact hxa) hbl ho).app u
   ·exact ownK hx hxu
  ·rcases cas ha with⟨x,hx,hxa⟩|⟨x,hx,hxu,hxa⟩
   ·exact(H.mine g' hg' i a r (by rw[touchAt_of hx];exact hxa) hbl ((hoth g' e r).1 ho)).app u
   ·exfalso
    obtain⟨h1,h2⟩:=hdis g' hg' e r ho;obtain⟨r',hr',h⟩:=he x hxu a hxa;rw[hbl]at hr';cases hr';rcases h with h|⟨h,-⟩
    ·exact h1 h
    ·omega
 ·rcases cas ha with⟨x,hx,hxa⟩|⟨x,hx,hxu,hxa⟩
  ·exact(H.old g' hg' i a r (by rw[touchAt_of hx];exact hxa) hbl ho hw).app u
  ·obtain⟨r',hr',h⟩:=he x hxu a hxa;rw[hbl]at hr';cases hr';rcases h with h|⟨-,h⟩
   ·have:=hge _ h;omega
   ·rw[h]at hw;cases hw
 ·rcases cas ha with⟨x,hx,hxa⟩|⟨x,hx,hxu,hxa⟩
  ·exact H.all_app hx hxa hm
  ·exact .inr (.inl ⟨g,by rw[g?_of hx,hu x hxu],hg⟩)
 ·by_cases e:g'=g
  ·subst e;exact hd.trans (H.hears g' hg')
  ·exact(Deaf_other t (fun x=>e x.symm) u hu).trans (H.hears g' hg')
theorem Co.hire{c:Nat}(H:Co N0 B Mem own Gone t)(h0:Mem 0)(hc0:Deaf t c=0)(fh:FuncId)(ph:String)(fc:FuncId)
  (hgive:∀r,own' c r->own 0 r) (hoth:∀g r,g≠c->own' g r->own g r) :
  Co N0 B (fun g=>Mem g\/g=c) own' Gone (t++#[{ g:=0,fn:=fh,pos:=ph,act:=.go c },{ g:=c,fn:=fc,pos:=ph,act:=.start }]):=by
 generalize hu:(#[{ g:=0,fn:=fh,pos:=ph,act:=.go c },{ g:=c,fn:=fc,pos:=ph,act:=.start }]:Trace)=u;have hn:∀op∈u,op.act.touch? = none:=by
  intro op hop;subst hu;simp only[List.mem_toArray,List.mem_cons,List.not_mem_nil,or_false]at hop;rcases hop with rfl|rfl<;>rfl
 have hq:∀g,∀op∈u,∀d,deafStep g d op=d:=by
  intro g op hop d;subst hu;simp only[List.mem_toArray,List.mem_cons,List.not_mem_nil,or_false]at hop;rcases hop with rfl|rfl<;>rfl
 have e0:(t++u)[t.size]? = some { g:=0,fn:=fh,pos:=ph,act:=.go c }:=by subst hu;simp
 have e1:(t++u)[t.size+1]? = some { g:=c,fn:=fc,pos:=ph,act:=.start }:=by subst hu;simp
 have edge:HappensBefore (t++u) t.size (t.size+1) :=
  Relation.TransGen.single (.inr ⟨.spawn (act?_of e0) (act?_of e1) (g?_of e1),⟨0,g?_of e0,by rw[deaf_old (Nat.le_refl _)];exact H.hears 0 h0⟩,⟨c,g?_of e1,by rw[deaf_quiet (hq c) 1 (by subst hu;simp)];exact hc0⟩⟩)
 have learns:∀{i:Nat},Knows t 0 i->Knows (t++u) c i:=fun h=>⟨t.size+1,_,e1,rfl,.inr ((h.hb_new (Nat.le_refl _) e0 rfl).trans edge)⟩;have keep:∀{i:Nat}{a:Touch},touchAt (t++u) i=some a->touchAt t i=some a/\∃x,t[i]? = some x/\x.act.touch? = some a:=by
  intro i a ha;obtain⟨x,hx,hxa⟩:=touch_of ha;rcases getElem?_append_cases hx with⟨_,hx'⟩|⟨_,hxu⟩
  ·exact⟨by rw[touchAt_of hx'];exact hxa,x,hx',hxa⟩
  ·rw[hn x hxu]at hxa;cases hxa
 refine⟨fun said=>noRace_appendMute (H.clean said) hn,fun g hg i a r ha hb ho=>?_,fun g hg i a r ha hb ho hw=>?_,fun i a ha hm=>?_,fun g hg=>(Deaf_quiet (hq g)).trans (hg.elim (H.hears g) fun e=>e▸hc0),seen_app H.seen fun op hop=>?_,H.gone_app u⟩
 ·by_cases e:g=c
  ·subst e;exact learns (H.mine 0 h0 i a r (keep ha).1 hb (hgive r ho))
  ·exact(H.mine g (hg.resolve_right e) i a r (keep ha).1 hb (hoth g r e ho)).app u
 ·by_cases e:g=c
  ·subst e;exact learns (H.old 0 h0 i a r (keep ha).1 hb ho hw)
  ·exact(H.old g (hg.resolve_right e) i a r (keep ha).1 hb ho hw).app u
 ·obtain⟨-,x,hx,hxa⟩:=keep ha;rcases H.all_app (u:=u) hx hxa hm with h|⟨g,hg,hmem⟩|h
  ·exact .inl h
  ·exact .inr (.inl ⟨g,hg,.inl hmem⟩)
  ·exact .inr (.inr h)
 ·subst hu;simp only[List.mem_toArray,List.mem_cons,List.not_mem_nil,or_false]at hop;rcases hop with rfl|rfl<;>trivial
theorem Co.leave{g c m:Nat}{op:MemOp}(H:Co N0 B Mem own Gone t)(hg:Mem g)(hm:t[m]? = some op)(hog:op.g=g)(ha:op.act=.close c)(hlast:m+1=t.size)(hd:t.deaf g m=0) :
  Co N0 B (fun x=>Mem x/\x≠g) own (fun c' m'=>Gone c' m'\/(c'=c/\m'=m)) t:=by
 refine⟨H.clean,fun x hx=>H.mine x hx.1,fun x hx=>H.old x hx.1,fun i a hi hmem=>?_,fun x hx=>H.hears x hx.1,H.seen,fun c' m' h=>?_⟩
 ·rcases H.all i a hi hmem with h|⟨x,hx,hxm⟩|⟨c',m',h1,h2⟩
  ·exact .inl h
  ·by_cases e:x=g
   ·subst e;refine .inr (.inr ⟨c,m,.inr ⟨rfl,rfl⟩,?_⟩);obtain⟨z,hz,hza⟩:=touch_of hi;have hzg:z.g=x:=by have:=g?_of hz;rw[hx]at this;exact(Option.some.inj this).symm
    have him:i<=m:=by have:=lt_size_of_getElem? hz;omega
    rcases Nat.lt_or_ge i m with hlt|hge
    ·exact .inr (hb_po hlt hz hm (hzg.trans hog.symm))
    ·exact .inl (by omega)
   ·exact .inr (.inl ⟨x,hx,hxm,e⟩)
  ·exact .inr (.inr ⟨c',m',.inl h1,h2⟩)
 ·rcases h with h|⟨rfl,rfl⟩
  ·exact H.gone c' m' h
  ·exact⟨by rw[act?_of hm,ha],g,by rw[g?_of hm,hog],hd⟩
theorem Co.take{c m:Nat}(H:Co N0 B Mem own Gone t)(h0:Mem 0)(hc:Gone c m)(fj:FuncId)(pj:String)(hcB:c<B) :
  Co N0 B Mem own (fun c' m'=>Gone c' m'/\¬(c'=c/\m'=m)) (t++#[{ g:=0,fn:=fj,pos:=pj,act:=.recvClosed c }]):=by
 generalize hu:(#[{ g:=0,fn:=fj,pos:=pj,act:=.recvClosed c }]:Trace)=u;obtain⟨hact,hhm⟩:=H.gone c m hc;have hlt:=lt_of_act? hact;have hn:∀op∈u,op.act.touch? = none:=by
  intro op hop;subst hu;simp only[List.mem_toArray,List.mem_cons,List.not_mem_nil,or_false]at hop;subst hop;rfl
 have hq:∀g,∀op∈u,∀d,deafStep g d op=d:=by
  intro g op hop d;subst hu;simp only[List.mem_toArray,List.mem_cons,List.not_mem_nil,or_false]at hop;subst hop;rfl
 have e0:(t++u)[t.size]? = some { g:=0,fn:=fj,pos:=pj,act:=.recvClosed c }:=by subst hu;simp
 have hhm':=(H.gone_app u c m hc).2;have edge:HappensBefore (t++u) m t.size :=
  Relation.TransGen.single (.inr ⟨.closed (H.gone_app u c m hc).1 (act?_of e0),hhm',⟨0,g?_of e0,by rw[deaf_old (Nat.le_refl _)];exact H.hears 0 h0⟩⟩)
 have base:Co N0 B Mem own Gone (t++u):=H.mute hn (fun g _=>Deaf_quiet (hq g)) fun op hop=>by
  subst hu;simp only[List.mem_toArray,List.mem_cons,List.not_mem_nil,or_false]at hop;subst hop;exact hcB
 refine⟨base.clean,base.mine,base.old,fun i a hi hmem=>?_,base.hears,base.seen,fun c' m' h=>base.gone c' m' h.1⟩;rcases base.all i a hi hmem with h|h|⟨c',m',h1,h2⟩
 ·exact .inl h
 ·exact .inr (.inl h)
 ·by_cases e:c'=c/\m'=m
  ·obtain⟨rfl,rfl⟩:=e;exact .inl ⟨t.size,_,e0,rfl,.inr (h2.hb edge)⟩
  ·exact .inr (.inr ⟨c',m',⟨h1,e⟩,h2⟩)
theorem Co.ofPast(H:Past (fun _=>False) B t)(own:Nat->Nat->Prop):Co N0 B (fun g=>g=0) own (fun _ _=>False) t:=by
 have kn:∀i a,touchAt t i=some a->a.loc.isMemory=true->Knows t 0 i:=fun i a ha hm=>(H.known i a ha hm).elim id fun x=>x.1.elim;have im:∀{l:Loc}{r:Nat},blk l=some r->l.isMemory=true:=fun{l r} hb=>by cases l<;>first|rfl|cases hb
 refine⟨H.clean,?_,?_,fun i a ha hm=>.inl (kn i a ha hm),?_,H.seen,fun _ _ h=>h.elim⟩
 ·rintro g rfl i a r ha hb _;exact kn i a ha (im hb)
 ·rintro g rfl i a r ha hb _ _;exact kn i a ha (im hb)
 ·rintro g rfl;exact H.hears
theorem Co.toPast(H:Co N0 B Mem own Gone t)(hM:∀g,Mem g↔g=0)(hG:∀c m,¬Gone c m):Past (fun _=>False) B t:=by
 have kn:∀i a,touchAt t i=some a->a.loc.isMemory=true->Knows t 0 i:=by
  intro i a ha hm;rcases H.all i a ha hm with h|⟨g,hg,hmem⟩|⟨c,m,h,-⟩
  ·exact h
  ·obtain rfl:=(hM g).1 hmem;obtain⟨x,hx,hxa⟩:=touch_of ha;have:=knows_own hx
   rwa[show x.g=0 from by have:=g?_of hx;rw[hg]at this;exact(Option.some.inj this).symm]at this
  ·exact absurd h (hG c m)
 refine⟨H.clean,fun i a ha hm=>.inl (kn i a ha hm),?_,H.hears 0 ((hM 0).2 rfl),H.seen⟩;intro i g hg hne hc;obtain⟨x,hx,hmem⟩:=hc;obtain⟨q,z,hq,hz,hb⟩:=kn i x hx (by first|exact hmem.1|exact hmem);rcases hb with rfl|hb
 ·have:=g?_of hq;rw[hg,hz]at this;exact absurd (Option.some.inj this) hne
 ·exact⟨q,by rw[g?_of hq,hz],hb⟩
theorem Co.fewer(H:Co N0 B Mem own Gone t)(h:∀g,Mem g->∀r,own' g r->own g r):Co N0 B Mem own' Gone t:={ H with mine:=fun g hg i a r ha hb ho=>H.mine g hg i a r ha hb (h g hg r ho) }
end
section
variable{P:Program}{gs:Array Goroutine}{w w₁ w₂:World}{sl:Option (Nat×Nat)}{i j k:Nat}{g g₂ gj:Goroutine}{es:Array Event}{c cap s r:Nat}{tm closed:Bool}{v z zj:Value}
 {shape shj:CommShape} {cases:Array CommCase} {L:List (Nat×CommCase×List Way)} {a:Nat}
theorem qLe(hi:gs[i]? = some g)(h:stepG P (i==0) g w=.comm g₂ cases true shape w₁ es)(hill:cases.any (illMade w₁)=false)
  (hL:((cases.zipIdx.toList.map fun(c,k)=>(k,c,ways w₁ (gs.setIfInBounds i ph) c)).filter fun(_,_,ws)=>!ws.isEmpty)=L) (hne:L.isEmpty=false)
  (hch:(choose (.select L.length)).run P w₁=.ok a w₂) (hp:L.getD a (0,default,[])=(k,rcase c z,[.partner j 0]))
  (hc:w₂.heap[c]? = some (.chan cap #[] closed s r tm)) (hij:j≠i) (hj:gs[j]? = some (parked gj #[scase c v zj] shj)) :
  runT P (crowd gs w sl) i=(.next (crowd ((gs.setIfInBounds j (gj.finishComm P #[scase c v zj] shj 0 undef false)).setIfInBounds i (g₂.finishComm P cases shape k v true)) (w₂.setChan c cap #[] closed (s+1) (r+1) tm) sl),
   MemOp.ofEvents i g.frame.fn g.frame.place es++#[{ g:=j,fn:=gj.frame.fn,pos:=gj.frame.place,act:=.send c s },{ g:=i,fn:=g₂.frame.fn,pos:=g₂.frame.place,act:=.recv c r cap },
    { g:=j,fn:=gj.frame.fn,pos:=gj.frame.place,act:=.sendDone c s },{ g:=i,fn:=g₂.frame.fn,pos:=g₂.frame.place,act:=.recvDone c r }]):=by
 have hj':=stand_get (i:=i) hij hj;have hfp:=finishPartner_at P (gs.setIfInBounds i ph) hj' (cs:=#[scase c v zj]) (sh:=shj) rfl 0 undef;have hgd:(gs.setIfInBounds i ph).getD j default=parked gj #[scase c v zj] shj:=by rw[Array.getD_eq_getD_getElem?,hj'];rfl
 have hov:offeredValue (gs.setIfInBounds i ph) j 0=v:=by simp[offeredValue,hj',parked,scase]
 rw[runT_crowd_comm hi h];unfold communicate;simp only[hL,hne];rw[if_neg]
 ·simp only[Bool.false_eq_true,if_false,Sem.run_bind,hch,Result.andThen_ok,hp];simp[choose,Sem.run,Question.forced,rcase,crowd,hc,hfp,hgd,hov,set_stand2,scase,parked,World.setChan];rfl
 ·rw[Bool.not_eq_true];exact hill
theorem qMh(hi:gs[i]? = some g)(h:stepG P (i==0) g w=.comm g₂ cases true shape w₁ es)(hill:cases.any (illMade w₁)=false)
  (hL:((cases.zipIdx.toList.map fun(c,k)=>(k,c,ways w₁ (gs.setIfInBounds i ph) c)).filter fun(_,_,ws)=>!ws.isEmpty)=L) (hne:L.isEmpty=false)
  (hch:(choose (.select L.length)).run P w₁=.ok a w₂) (hp:L.getD a (0,default,[])=(k,rcase c z,[.closed])) :
  runT P (crowd gs w sl) i=(.next (crowd (gs.setIfInBounds i (g₂.finishComm P cases shape k z false)) w₂ sl),
   MemOp.ofEvents i g.frame.fn g.frame.place es++#[{ g:=i,fn:=g₂.frame.fn,pos:=g₂.frame.place,act:=.recvClosed c }]):=by
 rw[runT_crowd_comm hi h];unfold communicate;simp only[hL,hne];rw[if_neg]
 ·simp only[Bool.false_eq_true,if_false,Sem.run_bind,hch,Result.andThen_ok,hp];simp[choose,Sem.run,Question.forced,rcase,crowd]
 ·rw[Bool.not_eq_true];exact hill
theorem qRx(a0 a1:CommCase)(gs':Array Goroutine):((#[a0,a1].zipIdx.toList.map fun(c,k)=>(k,c,ways w₁ gs' c)).filter fun(_,_,ws)=>!ws.isEmpty) =
  (if (ways w₁ gs' a0).isEmpty then[]else[(0,a0,ways w₁ gs' a0)])++(if (ways w₁ gs' a1).isEmpty then[]else[(1,a1,ways w₁ gs' a1)]):=by
 cases h0:(ways w₁ gs' a0).isEmpty<;>cases h1:(ways w₁ gs' a1).isEmpty<;>simp[h0,h1]
theorem qJm(n:Nat)(hn:0<n)(w:World):∃a d,a<n/\(choose (.select n)).run P w=.ok a (w.at d):=by
 unfold choose;simp only[Sem.run];by_cases h1:n<=1
 ·refine⟨0,w.drawn,hn,?_⟩;rw[if_pos (by simpa [Question.forced]using h1)];rfl
 ·refine⟨w.tape w.drawn (.select n)%n,w.drawn+1,Nat.mod_lt _ hn,?_⟩;rw[if_neg (by simpa [Question.forced]using h1)];rfl
end
inductive WScr (P:Program) (N0 c:Nat):List Int->(Nat->Prop)->Goroutine->World->Prop
 | step {xs : List Int} {O : Nat → Prop} {g : Goroutine} {w : World} (hr : g.status = .running) (go : ∀ w1, Rely N0 O w w1 → ∃ g' w' es, stepG P false g w1 = .go g' w' es ∧ g'.status = .running ∧ Guar N0 O w1 w' es)
   (next:∀w1 g' w' es,Rely N0 O w w1->stepG P false g w1=.go g' w' es->WScr P N0 c xs (grow O w1 w') g' w'):WScr P N0 c xs O g w
 | send {x : Int} {xs : List Int} {O : Nat → Prop} {g : Goroutine} {w : World} (z : Value) (hr : g.status = .running) (hc : ∀ w1, Rely N0 O w w1 → stepG P false g w1 = .comm g #[scase c (goInt x) z] true .send w1 #[])
   (next:WScr P N0 c xs O (g.finishComm P #[scase c (goInt x) z] .send 0 undef false) w):WScr P N0 c (x::xs) O g w
 | close {O : Nat → Prop} {g : Goroutine} {w : World} (g' : Goroutine) (n : Nat) (hr : g.status = .running) (hwk : mayWake P g = true)
   (hc:∀w1,Rely N0 O w w1->∀s r,w1.heap[c]? = some (.chan 0 #[] false s r false)->stepG P false g w1=.go g' (w1.setChan c 0 #[] true s r false) #[⟨.obj c,false,true⟩,⟨.obj c,true,true⟩])
   (hq:QuitsD P n 0 g'):WScr P N0 c [] O g w
def upB{α:Type}(f:Bool->α)(b:Bool)(x:α):Bool->α:=fun b'=>if b'=b then x else f b'
def qCJ(c:Bool->Nat)(z:Value)(rem:Bool->Option (List Int))(b:Bool):CommCase :=
 match rem b with
 |some _=>rcase (c b) z
 |none=>{ chan:=.chan none,send:=none,zero:=z }
def qA5(c:Bool->Nat)(z:Value)(rem:Bool->Option (List Int)):Array CommCase:=#[qCJ c z rem false,qCJ c z rem true]
def qDz(b:Bool):Nat:=if b then 1 else 0
abbrev qG1:=(Bool->Option (List Int))->(Nat->Prop)->Goroutine->World->Prop
def qNB(P:Program)(g:Goroutine)(w:World):Prop:=∀g2 cs b sh w2 es,stepG P true g w≠.comm g2 cs b sh w2 es
inductive MScr (P:Program) (N0:Nat) (c:Bool->Nat) (Fin:qG1):(Bool->Option (List Int))->(Nat->Prop)->Goroutine->World->Prop
 | step {rem : Bool → Option (List Int)} {O : Nat → Prop} {g : Goroutine} {w : World} (hr : g.status = .running) (go : ∀ w1, Rely N0 O w w1 → ∃ g' w' es, stepG P true g w1 = .go g' w' es ∧ g'.status = .running ∧ Guar N0 O w1 w' es)
   (next:∀w1 g' w' es,Rely N0 O w w1->stepG P true g w1=.go g' w' es->MScr P N0 c Fin rem (grow O w1 w') g' w'):MScr P N0 c Fin rem O g w
 | sel {rem : Bool → Option (List Int)} {O : Nat → Prop} {g : Goroutine} {w : World} (z : Value) (hr : g.status = .running) (hopen : ∃ b, rem b ≠ none) (hc : ∀ w1, Rely N0 O w w1 → stepG P true g w1 = .comm g (qA5 c z rem) true .select w1 #[])
   (got:∀b x xs,rem b=some (x::xs)->MScr P N0 c Fin (upB rem b (some xs)) O (g.finishComm P (qA5 c z rem) .select (qDz b:Nat) (goInt x) true) w)
   (shut:∀b,rem b=some []->MScr P N0 c Fin (upB rem b none) O (g.finishComm P (qA5 c z rem) .select (qDz b:Nat) z false) w):MScr P N0 c Fin rem O g w
 |fin {rem:Bool->Option (List Int)} {O:Nat->Prop} {g:Goroutine} {w:World} (hr:g.status=.running) (h:∀w1,Rely N0 O w w1->Fin rem O g w1/\qNB P g w1):MScr P N0 c Fin rem O g w
section
variable{P:Program}{N0:Nat}
theorem WScr.running{c:Nat}{xs:List Int}{O:Nat->Prop}{g:Goroutine}{w:World}(h:WScr P N0 c xs O g w):g.status=.running:=by
 cases h<;>assumption
theorem MScr.running{c:Bool->Nat}{Fin:qG1}{rem:Bool->Option (List Int)}{O:Nat->Prop}{g:Goroutine}{w:World}(h:MScr P N0 c Fin rem O g w):g.status=.running:=by
 cases h<;>assumption
theorem WScr.rely{c:Nat}{xs:List Int}{O:Nat->Prop}{g:Goroutine}{w w1:World}(h:WScr P N0 c xs O g w)(hr:Rely N0 O w w1):WScr P N0 c xs O g w1:=by
 induction h generalizing w1 with
 |step hs go next _=>exact .step hs (fun w2 h2=>go w2 (hr.trans h2)) fun w2 g' w' es h2=>next w2 g' w' es (hr.trans h2)
 |send z hs hc next ih=>exact .send z hs (fun w2 h2=>hc w2 (hr.trans h2)) (ih hr)
 |close g' n hs hwk hc hq=>exact .close g' n hs hwk (fun w2 h2=>hc w2 (hr.trans h2)) hq
theorem MScr.rely{c:Bool->Nat}{Fin:qG1}{rem:Bool->Option (List Int)}{O:Nat->Prop}{g:Goroutine}{w w1:World}(h:MScr P N0 c Fin rem O g w)(hr:Rely N0 O w w1):MScr P N0 c Fin rem O g w1:=by
 induction h generalizing w1 with
 |step hs go next _=>exact .step hs (fun w2 h2=>go w2 (hr.trans h2)) fun w2 g' w' es h2=>next w2 g' w' es (hr.trans h2)
 |sel z hs ho hc got shut ih1 ih2=>exact .sel z hs ho (fun w2 h2=>hc w2 (hr.trans h2)) (fun b x xs e=>ih1 b x xs e hr) fun b e=>ih2 b e hr
 |fin hs h=>exact .fin hs fun w2 h2=>h w2 (hr.trans h2)
theorem qKe(c:Nat):Clo P false N0 (WScr P N0 c):=⟨fun _ _ _ _ hr go next=>.step hr go next,fun _ _ _ _ _ h hr=>h.rely hr⟩
theorem qDH(c:Bool->Nat)(Fin:qG1):Clo P true N0 (MScr P N0 c Fin):=⟨fun _ _ _ _ hr go next=>.step hr go next,fun _ _ _ _ _ h hr=>h.rely hr⟩
end
structure WKey where
 xs:List Int
 O:Nat->Prop
 g:Goroutine
 w:World
structure MKey where
 rem:Bool->Option (List Int)
 O:Nat->Prop
 g:Goroutine
 w:World
def qUV(P:Program)(N0 c:Nat)(k' k:WKey):Prop :=
 (∃w1 g' w' es s r,Rely N0 k.O k.w w1/\w1.heap[c]? = some (.chan 0 #[] false s r false)/\stepG P false k.g w1=.go g' w' es/\Guar N0 k.O w1 w' es/\k'=⟨k.xs,grow k.O w1 w',g',w'⟩) \/
 ∃x xs z,k.xs=x::xs/\stepG P false k.g k.w=.comm k.g #[scase c (goInt x) z] true .send k.w #[]/\k'=⟨xs,k.O,k.g.finishComm P #[scase c (goInt x) z] .send 0 undef false,k.w⟩
def qOK(P:Program)(N0:Nat)(Fin:qG1)(km:MKey):Prop:=∀w1,Rely N0 km.O km.w w1->Fin km.rem km.O km.g w1/\qNB P km.g w1
def qUS(P:Program)(N0:Nat)(c:Bool->Nat)(Fin:qG1)(k' k:MKey):Prop :=
 (¬qOK P N0 Fin k/\∃w1 g' w' es,Rely N0 k.O k.w w1/\stepG P true k.g w1=.go g' w' es/\k'=⟨k.rem,grow k.O w1 w',g',w'⟩) \/
 ∃z,stepG P true k.g k.w=.comm k.g (qA5 c z k.rem) true .select k.w #[]/\((∃b x xs,k.rem b=some (x::xs)/\k'=⟨upB k.rem b (some xs),k.O,k.g.finishComm P (qA5 c z k.rem) .select (qDz b:Nat) (goInt x) true,k.w⟩) \/
  ∃b,k.rem b=some []/\k'=⟨upB k.rem b none,k.O,k.g.finishComm P (qA5 c z k.rem) .select (qDz b:Nat) z false,k.w⟩)
section
variable{P:Program}{N0:Nat}
theorem WScr.acc{c:Nat}{xs:List Int}{O:Nat->Prop}{g:Goroutine}{w:World}(h:WScr P N0 c xs O g w):Acc (qUV P N0 c) ⟨xs,O,g,w⟩:=by
 induction h with
 | @step xs O g w hr go next ih =>
  refine Acc.intro _ ?_;rintro _ (⟨w1,g',w',es,s,r,h1,-,e,-,rfl⟩|⟨x,xs',z,-,e,-⟩)
  ·exact ih w1 g' w' es h1 e
  ·obtain⟨g',w',es,e2,-⟩:=go w (.refl _ _ _);rw[show stepG P false g w=_ from e2]at e;cases e
 | @send x xs O g w z hr hc next ih =>
  refine Acc.intro _ ?_;rintro _ (⟨w1,g',w',es,s,r,h1,-,e,-,rfl⟩|⟨x',xs',z',e1,e,rfl⟩)
  ·rw[show stepG P false g w1=_ from hc w1 h1]at e;cases e
  ·simp only[List.cons.injEq]at e1;obtain⟨rfl,rfl⟩:=e1;rw[show stepG P false g w=_ from hc w (.refl _ _ _)]at e;cases e;exact ih
 | @close O g w g' n hr hwk hc hq =>
  refine Acc.intro _ ?_;rintro _ (⟨w1,g2,w',es,s,r,h1,ho,e,hg,rfl⟩|⟨x',xs',z',e1,-,-⟩)
  ·rw[show stepG P false g w1=_ from hc w1 h1 s r ho]at e;cases e;have:=hg.evs ⟨.obj c,false,true⟩ (by simp);rcases this with⟨a,h,-,-⟩|⟨r',-,h,-⟩|h<;>cases h
  ·cases e1
theorem qKz{c:Bool->Nat}{z z':Value}{rem:Bool->Option (List Int)}{b:Bool}(hb:rem b≠none)(h:qA5 c z' rem=qA5 c z rem):z'=z:=by
 have hz:∀b,qCJ c z' rem b=qCJ c z rem b:=by
  simp only[qA5,Array.mk.injEq,List.cons.injEq,and_true]at h;intro b;cases b
  ·exact h.1
  ·exact h.2
 have:=congrArg CommCase.zero (hz b);unfold qCJ at this;cases hr:rem b with
 |none=>exact absurd hr hb
 |some l=>rw[hr]at this;exact this
theorem MScr.acc{c:Bool->Nat}{Fin:qG1}{rem:Bool->Option (List Int)}{O:Nat->Prop}{g:Goroutine}{w:World}(h:MScr P N0 c Fin rem O g w):Acc (qUS P N0 c Fin) ⟨rem,O,g,w⟩:=by
 induction h with
 | @step rem O g w hr go next ih =>
  refine Acc.intro _ ?_;rintro _ (⟨-,w1,g',w',es,h1,e,rfl⟩|⟨z,e,-⟩)
  ·exact ih w1 g' w' es h1 e
  ·obtain⟨g',w',es,e2,-⟩:=go w (.refl _ _ _);rw[show stepG P true g w=_ from e2]at e;cases e
 | @sel rem O g w z hr ho hc got shut ih1 ih2 =>
  refine Acc.intro _ ?_;rintro _ (⟨-,w1,g',w',es,h1,e,rfl⟩|⟨z',e,h⟩)
  ·rw[show stepG P true g w1=_ from hc w1 h1]at e;cases e
  ·rw[show stepG P true g w=_ from hc w (.refl _ _ _)]at e;simp only[GStep.comm.injEq,true_and,and_true]at e;obtain⟨b,hb⟩:=ho;obtain rfl:=qKz hb e.symm;rcases h with⟨b,x,xs,e1,rfl⟩|⟨b,e1,rfl⟩
   ·exact ih1 b x xs e1
   ·exact ih2 b e1
 |@fin rem O g w hr h =>
  refine Acc.intro _ ?_;rintro _ (⟨hno,-⟩|⟨z',e,-⟩)
  ·exact absurd h hno
  ·exact absurd e ((h w (.refl _ _ _)).2 _ _ _ _ _ _)
end
section
variable{N0:Nat}{O O':Nat->Prop}{w w':World}
theorem qLj{es:Array Event}(h:Guar N0 O w w' es)(hd:∀r,O' r->¬O r)(hl:∀r,O' r->r<w.heap.size)(hge:∀r,O r->N0<=r)(hN:N0<=w.heap.size):Rely N0 O' w w' :=
 ⟨h.size,fun r hr=>h.same r (hl r hr) (hd r hr),fun r hr=>h.same r (by omega) fun q=>by have:=hge r q;omega,h.oo⟩
theorem qDO(d:Nat):Rely N0 O w (w.at d):=⟨Nat.le_refl _,fun _ _=>rfl,fun _ _=>rfl,rfl⟩
theorem qDo{c cap s r:Nat}{buf:Array Value}{cl tm:Bool}(k:Nat)(hk:k≠c):(w.setChan c cap buf cl s r tm).heap[k]? = w.heap[k]?:=by
 simp only[World.setChan,Array.getElem?_setIfInBounds_ne (fun e=>hk e.symm)]
theorem qJQ{c cap s r:Nat}{buf:Array Value}{cl tm:Bool}(hc:c<w.heap.size):(w.setChan c cap buf cl s r tm).heap[c]? = some (.chan cap buf cl s r tm):=by
 simp[World.setChan,hc]
theorem qCH{c cap s r:Nat}{buf:Array Value}{cl tm:Bool}:(w.setChan c cap buf cl s r tm).heap.size=w.heap.size:=by simp[World.setChan]
theorem qFw{c cap s r:Nat}{buf:Array Value}{cl tm:Bool}(hO:¬O c)(hc:N0<=c):Rely N0 O w (w.setChan c cap buf cl s r tm) :=
 ⟨by rw[qCH];exact Nat.le_refl _,fun k hk=>qDo k fun e=>hO (e▸hk),fun k hk=>qDo k (by omega),rfl⟩
end
section
variable{c:Bool->Nat}{z:Value}{rem:Bool->Option (List Int)}{g:Goroutine}{w:World}{sh:CommShape}
theorem qGD(b:Bool):(qA5 c z rem)[qDz b]? = some (qCJ c z rem b):=by cases b<;>rfl
theorem qDD{k:Nat}{cc:CommCase}(h:(qA5 c z rem)[k]? = some cc):∃b,k=qDz b/\cc=qCJ c z rem b:=by
 simp only[qA5]at h
 match k,h with
 |0,h=>exact⟨false,rfl,by simpa using h.symm⟩
 |1,h=>exact⟨true,rfl,by simpa using h.symm⟩
 |k+2,h=>simp at h
theorem qOa{cc:CommCase}(h:cc∈qA5 c z rem):∃b,cc=qCJ c z rem b:=by
 obtain⟨k,hk⟩:=Array.mem_iff_getElem?.1 h;obtain⟨b,-,e⟩:=qDD hk;exact⟨b,e⟩
theorem qKk(h:∀b,rem b≠none->∃s r,w.heap[c b]? = some (.chan 0 #[] false s r false)):(parked g (qA5 c z rem) sh).again w=parked g (qA5 c z rem) sh:=by
 simp[Goroutine.again,parked];intro x hx;obtain⟨b,-,e⟩:=qDD (Array.getElem?_eq_getElem hx);rw[e];unfold qCJ;cases hr:rem b with
 |none=>rfl
 |some l =>
  obtain⟨s,r,hc⟩:=h b (by rw[hr];simp);simp[rcase,hc]
theorem qJb{b:Bool}(hb:rem b≠none){s r:Nat}(hc:w.heap[c b]? = some (.chan 0 #[] true s r false)):(parked g (qA5 c z rem) sh).again w={ parked g (qA5 c z rem) sh with status:=.running }:=by
 refine again_some_closed (k:=qDz b) (c:=c b) (z:=z) ?_ hc;rw[qGD];unfold qCJ;cases hr:rem b with
 |none=>exact absurd hr hb
 |some l=>rfl
theorem qG4(hne:c false≠c true){b:Bool}(hb:rem b≠none):offersAt (parked g (qA5 c z rem) sh) (c b) false=[qDz b]:=by
 refine offersAt_parked_at (z:=z) ?_ fun m cc hm hcc=>?_
 ·rw[qGD];unfold qCJ;cases hr:rem b with
  |none=>exact absurd hr hb
  |some l=>rfl
 ·obtain⟨b',rfl,rfl⟩:=qDD hcc;have hbb:b'≠b:=fun e=>hm (by rw[e]);unfold qCJ;cases rem b' with
  |none=>simp
  |some l =>
   simp only[rcase,ne_eq,Value.chan.injEq,Option.some.injEq];cases b<;>cases b'<;>first|exact absurd rfl hbb|exact hne|exact fun e=>hne e.symm
end
inductive WPh where
 |run (k:WKey)
 |wait (k:WKey) (x:Int) (xs:List Int) (z:Value)
 |left
def WPh.O:WPh->Nat->Prop
 |.run k=>k.O
 |.wait k _ _ _=>k.O
 |.left=>fun _=>False
def WPh.shut:WPh->Bool
 |.left=>true
 |_=>false
def WOk(P:Program)(N0 c i:Nat)(rem:Option (List Int))(gs:Array Goroutine)(w:World):WPh->Prop
 |.run k=>WScr P N0 c k.xs k.O k.g k.w/\Rely N0 k.O k.w w/\gs[i]? = some k.g/\rem=some k.xs
 | .wait k x xs z => k.xs = x :: xs ∧ (∀ w1, Rely N0 k.O k.w w1 → stepG P false k.g w1 = .comm k.g #[scase c (goInt x) z] true .send w1 #[]) ∧
   WScr P N0 c xs k.O (k.g.finishComm P #[scase c (goInt x) z] .send 0 undef false) k.w/\Rely N0 k.O k.w w/\gs[i]? = some (parked k.g #[scase c (goInt x) z] .send)/\rem=some k.xs
 |.left=>rem=some []\/rem=none
def MOk(P:Program)(N0:Nat)(c:Bool->Nat)(km:MKey)(pk:Bool)(ph:Bool->WPh)(m0:Goroutine):Prop :=
 (pk=false/\m0.status=.running/\m0.frame=km.g.frame/\m0.callers=km.g.callers/\m0.dying=km.g.dying/\(m0=km.g\/∃z,∀w1,Rely N0 km.O km.w w1->stepG P true km.g w1=.comm km.g (qA5 c z km.rem) true .select w1 #[])) \/
 (pk=true/\∃z,m0=parked km.g (qA5 c z km.rem) .select/\(∃b,km.rem b≠none)/\(∀w1,Rely N0 km.O km.w w1->stepG P true km.g w1=.comm km.g (qA5 c z km.rem) true .select w1 #[])/\∀b,km.rem b≠none->∃k,ph b=.run k)
def qFj(idx:Bool->Nat)(ph:Bool->WPh)(g:Nat):Prop:=g=0\/∃b,g=idx b/\ph b≠.left
def qEJ(c idx:Bool->Nat)(O0:Nat->Prop)(ph:Bool->WPh)(g r:Nat):Prop:=(g=0/\O0 r)\/∃b,g=idx b/\ph b≠.left/\((ph b).O r\/r=c b)
def qCI(rem:Bool->Option (List Int))(ph:Bool->WPh)(b:Bool):Prop:=ph b≠.left\/rem b≠none
def qC1(c:Bool->Nat)(rem:Bool->Option (List Int))(ph:Bool->WPh)(mm:Bool->Nat)(c' m:Nat):Prop:=∃b,c'=c b/\m=mm b/\ph b=.left/\rem b≠none
structure Inv(P:Program)(N0:Nat)(c idx:Bool->Nat)(Fin:qG1)(km:MKey)(pk:Bool)(ph:Bool->WPh)(mm:Bool->Nat)(gs:Array Goroutine)(w:World)(t:Trace)(q:Nat->Nat):Prop where
 scr:MScr P N0 c Fin km.rem km.O km.g km.w
 rel:Rely N0 km.O km.w w
 main:∃m0,gs[0]? = some m0/\MOk P N0 c km pk ph m0
 work:∀b,WOk P N0 (c b) (idx b) (km.rem b) gs w (ph b)
 quit:∀i g,i≠0->(∀b,i=idx b->ph b=.left)->gs[i]? = some g->QuitsD P (q i) (Deaf t i) g
 above:∀j,gs.size<=j->Deaf t j=0
 ix0:∀b,idx b≠0
 ixn:idx false≠idx true
 ixl:∀b,ph b≠.left->idx b<gs.size
 ch:∀b,qCI km.rem ph b->∃s r,w.heap[c b]? = some (.chan 0 #[] (ph b).shut s r false)
 cn:c false≠c true
 N0_le:N0<=w.heap.size
 cN:∀b,qCI km.rem ph b->N0<=c b
 own0:∀r,km.O r->N0<=r/\r<w.heap.size/\∀b,qCI km.rem ph b->r≠c b
 ownW:∀b r,(ph b).O r->N0<=r/\r<w.heap.size/\(∀b',qCI km.rem ph b'->r≠c b')/\¬km.O r
 ownD:∀r,(ph false).O r->¬(ph true).O r
 co:Co N0 w.heap.size (qFj idx ph) (qEJ c idx km.O ph) (qC1 c km.rem ph mm) t
section
variable{P:Program}{N0:Nat}{c idx:Bool->Nat}{Fin:qG1}{km:MKey}{pk:Bool}{ph:Bool->WPh}{mm:Bool->Nat}{gs:Array Goroutine}{w:World}{t:Trace}{q:Nat->Nat}
theorem qCf{α:Type}{xs:Array α}{i:Nat}{x:α}(h:xs[i]? = some x):i<xs.size:=(Array.getElem?_eq_some_iff.1 h).1
theorem Inv.idx_inj(h:Inv P N0 c idx Fin km pk ph mm gs w t q){b b':Bool}(e:idx b=idx b'):b=b':=by
 cases b<;>cases b'<;>first|rfl|exact absurd e h.ixn|exact absurd e.symm h.ixn
theorem Inv.c_inj(h:Inv P N0 c idx Fin km pk ph mm gs w t q){b b':Bool}(e:c b=c b'):b=b':=by
 cases b<;>cases b'<;>first|rfl|exact absurd e h.cn|exact absurd e.symm h.cn
theorem Inv.c_lt(h:Inv P N0 c idx Fin km pk ph mm gs w t q){b:Bool}(hb:qCI km.rem ph b):c b<w.heap.size:=by
 obtain⟨s,r,e⟩:=h.ch b hb;exact qCf e
theorem Inv.kinds(h:Inv P N0 c idx Fin km pk ph mm gs w t q){i:Nat}{g:Goroutine}(hi:gs[i]? = some g) :
  (i=0/\MOk P N0 c km pk ph g)\/(∃b k,i=idx b/\ph b=.run k/\g=k.g)\/(∃b k x xs z,i=idx b/\ph b=.wait k x xs z/\g=parked k.g #[scase (c b) (goInt x) z] .send)\/(i≠0/\(∀b,i=idx b->ph b=.left)/\QuitsD P (q i) (Deaf t i) g):=by
 by_cases h0:i=0
 ·subst h0;obtain⟨m0,e,hm⟩:=h.main;rw[hi]at e;cases e;exact .inl ⟨rfl,hm⟩
 ·by_cases hb:∃b,i=idx b/\ph b≠.left
  ·obtain⟨b,rfl,hb⟩:=hb;have hw:=h.work b;cases hp:ph b with
   |run k =>
    rw[hp]at hw;have e:=hw.2.2.1;rw[hi]at e;cases e;exact .inr (.inl ⟨b,k,rfl,hp,rfl⟩)
   |wait k x xs z =>
    rw[hp]at hw;have e:=hw.2.2.2.2.1;rw[hi]at e;cases e;exact .inr (.inr (.inl ⟨b,k,x,xs,z,rfl,hp,rfl⟩))
   |left=>exact absurd hp hb
  ·have hl:∀b,i=idx b->ph b=.left:=fun b e=>Classical.byContradiction fun hne=>hb ⟨b,e,hne⟩;exact .inr (.inr (.inr ⟨h0,hl,h.quit i g h0 hl hi⟩))
theorem Inv.awake(h:Inv P N0 c idx Fin km pk ph mm gs w t q):∀g∈gs,awake g:=by
 intro g hg;obtain⟨i,hi⟩:=Array.mem_iff_getElem?.1 hg;rcases h.kinds hi with⟨-,hm⟩|⟨b,k,rfl,hp,rfl⟩|⟨b,k,x,xs,z,rfl,hp,rfl⟩|⟨-,-,hq⟩
 ·rcases hm with⟨-,hs,-⟩|⟨-,z,rfl,-⟩
  ·exact awake_of (.inl hs)
  ·exact awake_of (.inr (.inl rfl))
 ·have hw:=h.work b;rw[hp]at hw;exact awake_of (.inl hw.1.running)
 ·exact awake_of (.inr (.inl rfl))
 ·exact awake_of (hq.status.elim .inl fun x=>.inr (.inr x))
theorem Inv.stay(h:Inv P N0 c idx Fin km pk ph mm gs w t q){w':World}(hch:∀b,ph b≠.left->w'.heap[c b]? = w.heap[c b]?)(a a':Goroutine):gs.map (woken P a a' w')=gs:=by
 apply Array.ext_getElem?;intro j;rw[Array.getElem?_map];cases hj:gs[j]? with
 |none=>rfl
 | some x =>
  simp only[Option.map_some,Option.some.injEq];have hop:∀b,ph b≠.left->∃s r,w'.heap[c b]? = some (.chan 0 #[] false s r false):=fun b hb=>by
   obtain⟨s,r,e⟩:=h.ch b (.inl hb);refine⟨s,r,?_⟩;rw[hch b hb,e];cases hp:ph b with
   |left=>exact absurd hp hb
   |_=>rfl
  rcases h.kinds hj with⟨-,hm⟩|⟨b,k,rfl,hp,rfl⟩|⟨b,k,x,xs,z,rfl,hp,rfl⟩|⟨-,-,hq⟩
  ·rcases hm with⟨-,hs,-⟩|⟨-,z,rfl,-,-,hrun⟩
   ·exact woken_run hs
   ·unfold woken;split
    ·refine qKk fun b hb=>?_;obtain⟨k,hk⟩:=hrun b hb;exact hop b (by rw[hk];simp)
    ·rfl
  ·have hw:=h.work b;rw[hp]at hw;exact woken_run hw.1.running
  ·obtain⟨s,r,e⟩:=hop b (by rw[hp];simp);exact woken_send_open a a' e
  ·exact woken_quitsD hq
end
section
variable{N0 B i:Nat}{O:Nat->Prop}{es:Array Event}{fn:FuncId}{pos:String}
theorem qLF(h:∀e∈es,EvO N0 O e):∀op∈MemOp.ofEvents i fn pos es,∀b,op.act.touch? = some b->∃r,blk b.loc=some r/\(O r\/(r<N0/\b.write=false)):=by
 intro op hop b hb;obtain⟨e,he,rfl⟩:=Go.Conc.mem_ofEvents hop;obtain⟨loc,wr,sy⟩:=e;rcases h _ he with⟨a,h1,h2,h3⟩|⟨r,h1,h2,h3⟩|h1
 ·simp only at h1 h2 h3;subst h1 h2;simp only[MemAct.ofEvent,MemAct.touch?,Option.some.injEq]at hb;subst hb;exact⟨a.block,rfl,h3⟩
 ·simp only at h1 h2 h3;subst h1 h2;cases wr<;>(simp only[MemAct.ofEvent,MemAct.touch?,Option.some.injEq]at hb;subst hb;exact⟨r,rfl,h3⟩)
 ·simp only at h1;subst h1;simp only[MemAct.ofEvent,MemAct.touch?,reduceCtorEq]at hb
theorem qQR(h:∀e∈es,EvO N0 O e)(hO:∀r,O r->r<B)(hN:N0<=B):∀op∈MemOp.ofEvents i fn pos es,op.act.low B:=by
 intro op hop;obtain⟨e,he,rfl⟩:=Go.Conc.mem_ofEvents hop;obtain⟨loc,wr,sy⟩:=e;rcases h _ he with⟨a,h1,h2,h3⟩|⟨r,h1,h2,h3⟩|h1
 ·simp only at h1 h2 h3;subst h1 h2;have:a.block<B:=h3.elim (hO _) fun x=>by omega
  exact this
 ·simp only at h1 h2 h3;subst h1 h2;have:r<B:=h3.elim (hO _) fun x=>by omega
  cases wr<;>exact this
 ·simp only at h1;subst h1
  trivial
theorem qNM(h:∀e∈es,EvO N0 O e)(t:Trace):Deaf (t++MemOp.ofEvents i fn pos es) i=Deaf t i:=by
 rw[Deaf_own];refine deafBehind_still (fun e he=>?_) _;rcases h _ he with⟨a,h1,h2,h3⟩|⟨r,h1,h2,h3⟩|h1<;>rw[h1]<;>constructor<;>simp
theorem qHq:∀op∈MemOp.ofEvents i fn pos es,op.g=i:=fun op hop=>by obtain⟨e,_,rfl⟩:=Go.Conc.mem_ofEvents hop;rfl
end
theorem qAa{α:Type}{xs:Array α}{i j:Nat}(h:j≠i)(x:α):(xs.setIfInBounds i x)[j]? = xs[j]?:=Array.getElem?_setIfInBounds_ne fun e=>h e.symm
theorem qCN{α:Type}{xs:Array α}{i:Nat}(h:i<xs.size)(x:α):(xs.setIfInBounds i x)[i]? = some x:=Array.getElem?_setIfInBounds_self_of_lt h
theorem qFA{idx:Bool->Nat}{ph ph':Bool->WPh}(h:∀b,ph' b=.left↔ph b=.left):qFj idx ph'=qFj idx ph:=by
 funext g;apply propext;unfold qFj;exact⟨fun x=>x.imp id fun⟨b,e,hb⟩=>⟨b,e,fun q=>hb ((h b).2 q)⟩,fun x=>x.imp id fun⟨b,e,hb⟩=>⟨b,e,fun q=>hb ((h b).1 q)⟩⟩
theorem qGj{c:Bool->Nat}{rem:Bool->Option (List Int)}{mm:Bool->Nat}{ph ph':Bool->WPh}(h:∀b,ph' b=.left↔ph b=.left):qC1 c rem ph' mm=qC1 c rem ph mm:=by
 funext c' m;apply propext;unfold qC1;exact⟨fun⟨b,x,y,z,u⟩=>⟨b,x,y,(h b).1 z,u⟩,fun⟨b,x,y,z,u⟩=>⟨b,x,y,(h b).2 z,u⟩⟩
theorem qAn{α:Type}(f:Bool->α)(b:Bool)(x:α):upB f b x b=x:=by simp[upB]
theorem qAf{α:Type}(f:Bool->α){b b':Bool}(h:b'≠b)(x:α):upB f b x b'=f b':=by simp[upB,h]
section
variable{P:Program}{N0:Nat}{c idx:Bool->Nat}{Fin:qG1}{km:MKey}{pk:Bool}{ph:Bool->WPh}{mm:Bool->Nat}{gs:Array Goroutine}{w:World}{t:Trace}{q:Nat->Nat}
theorem Inv.drew(h:Inv P N0 c idx Fin km pk ph mm gs w t q)(d:Nat):Inv P N0 c idx Fin km pk ph mm gs (w.at d) t q :=
 { h with
  rel:=h.rel.trans (qDO d)
  work:=fun b=>by
   have:=h.work b;cases hp:ph b with
   |run k=>rw[hp]at this;exact⟨this.1,this.2.1.trans (qDO d),this.2.2⟩
   |wait k x xs z=>rw[hp]at this;exact⟨this.1,this.2.1,this.2.2.1,this.2.2.2.1.trans (qDO d),this.2.2.2.2⟩
   |left=>rw[hp]at this;exact this }
theorem Inv.slip(h:Inv P N0 c idx Fin km pk ph mm gs w t q){i n:Nat}{g g':Goroutine}{es:Array Event}(hi:gs[i]? = some g)(h0:i≠0)(hl:∀b,i=idx b->ph b=.left)(hm:∀e∈es,Event.mute e=true)
  (hq:QuitsD P n (deafBehind (Deaf t i) es) g'):Inv P N0 c idx Fin km pk ph mm (gs.setIfInBounds i g') w (t++MemOp.ofEvents i g.frame.fn g.frame.place es) (Go.ConcN.upd q i n):=by
 have hmem:∀x,qFj idx ph x->x≠i:=by
  rintro x (rfl|⟨b,rfl,hb⟩) e
  ·exact h0 e.symm
  ·exact hb (hl b e.symm)
 have hoth:∀x,x≠i->Deaf (t++MemOp.ofEvents i g.frame.fn g.frame.place es) x=Deaf t x:=fun x hx=>Deaf_other t (fun e=>hx e.symm) _ qHq;refine{ h with main:=?_,work:=fun b=>?_,quit:=fun j x hj hjl hx=>?_,above:=fun j hj=>?_,ixl:=fun b hb=>by simpa using h.ixl b hb,co:=?_ }
 ·obtain⟨m0,e,hm0⟩:=h.main;exact⟨m0,by rw[qAa (fun e=>h0 e.symm)];exact e,hm0⟩
 ·have:=h.work b;cases hp:ph b with
  |run k =>
   rw[hp]at this;have hne:idx b≠i:=fun e=>by have:=hl b e.symm;rw[hp]at this;cases this
   exact⟨this.1,this.2.1,by rw[qAa hne];exact this.2.2.1,this.2.2.2⟩
  |wait k x xs z =>
   rw[hp]at this;have hne:idx b≠i:=fun e=>by have:=hl b e.symm;rw[hp]at this;cases this
   exact⟨this.1,this.2.1,this.2.2.1,this.2.2.2.1,by rw[qAa hne];exact this.2.2.2.2.1,this.2.2.2.2.2⟩
  |left=>rw[hp]at this;exact this
 ·by_cases e:j=i
  ·subst e;rw[qCN (qCf hi)]at hx;cases hx;rw[Go.ConcN.upd_same,Deaf_own];exact hq
  ·rw[qAa e]at hx;rw[Go.ConcN.upd_ne q n e,hoth j e];exact h.quit j x hj hjl hx
 ·have hj':gs.size<=j:=by simpa using hj
  rw[hoth j (by have:=qCf hi;omega)];exact h.above j hj'
 ·exact h.co.mute (fun op hop=>by obtain⟨e,he,rfl⟩:=Go.Conc.mem_ofEvents hop;exact touch_mute (hm e he)) (fun x hx=>hoth x (hmem x hx)) fun op hop=>by obtain⟨e,he,rfl⟩:=Go.Conc.mem_ofEvents hop;exact low_mute (hm e he) _
theorem Inv.work_go(h:Inv P N0 c idx Fin km pk ph mm gs w t q){b:Bool}{k:WKey}(hp:ph b=.run k){g':Goroutine}{w':World}{es:Array Event}(hG:Guar N0 k.O w w' es)(hS:WScr P N0 (c b) k.xs (grow k.O w w') g' w') :
  Inv P N0 c idx Fin km pk (upB ph b (.run ⟨k.xs,grow k.O w w',g',w'⟩)) mm (gs.setIfInBounds (idx b) g') w' (t++MemOp.ofEvents (idx b) k.g.frame.fn k.g.frame.place es) q:=by
 generalize hk':(⟨k.xs,grow k.O w w',g',w'⟩:WKey)=k';have eO:k'.O=grow k.O w w':=by rw[<-hk']
 have hwb:=h.work b;rw[hp]at hwb;have hOb:∀r,k.O r->N0<=r/\r<w.heap.size/\(∀b',qCI km.rem ph b'->r≠c b')/\¬km.O r:=fun r hr=>h.ownW b r (by rw[hp];exact hr);have hbl:ph b≠.left:=by rw[hp];simp
 have hbA:qCI km.rem ph b:=.inl hbl;have hOo:∀b',b'≠b->∀r,(ph b').O r->¬k.O r:=fun b' hb r hr hk=>by
  have hbb:(ph b).O r:=by rw[hp];exact hk
  cases b<;>cases b'<;>first|exact absurd rfl hb|exact h.ownD r hr hbb|exact h.ownD r hbb hr
 have hN:=h.N0_le;have rly:∀{O:Nat->Prop},(∀r,O r->r<w.heap.size/\¬k.O r)->Rely N0 O w w':=fun hO=>qLj hG (fun r hr=>(hO r hr).2) (fun r hr=>(hO r hr).1) (fun r hr=>(hOb r hr).1) hN;have hcs:∀b',qCI km.rem ph b'->w'.heap[c b']? = w.heap[c b']?:=fun b' hb'=>hG.same _ (h.c_lt hb') fun hk=>(hOb _ hk).2.2.1 b' hb' rfl;have hleft:∀b',upB ph b (.run k') b'=.left↔ph b'=.left:=fun b'=>by
  by_cases e:b'=b
  ·subst e;rw[qAn,hp];simp
  ·rw[qAf ph e]
 have hact:∀b',qCI km.rem (upB ph b (.run k')) b'->qCI km.rem ph b':=fun b' x=>x.imp (fun q e=>q ((hleft b').2 e)) id;have hoth:∀x,x≠idx b->Deaf (t++MemOp.ofEvents (idx b) k.g.frame.fn k.g.frame.place es) x=Deaf t x:=fun x hx=>Deaf_other t (fun e=>hx e.symm) _ qHq;have hown:∀r,grow k.O w w' r->N0<=r/\r<w'.heap.size/\(∀b',qCI km.rem ph b'->r≠c b')/\¬km.O r:=fun r hr=>by
  rcases hr with hr|⟨h1,h2⟩
  ·obtain⟨a1,a2,a3,a4⟩:=hOb r hr;exact⟨a1,Nat.lt_of_lt_of_le a2 hG.size,a3,a4⟩
  ·exact⟨by omega,h2,fun b' hb' e=>by have:=h.c_lt hb';omega,fun hk=>by have:=(h.own0 r hk).2.1;omega⟩
 refine{ scr:=h.scr,rel:=?_,main:=?_,work:=fun b'=>?_,quit:=fun j x hj hjl hx=>?_,above:=fun j hj=>?_,ix0:=h.ix0,ixn:=h.ixn,ixl:=fun b' hb'=>by simpa using h.ixl b' fun e=>hb' ((hleft b').2 e),ch:=fun b' hb'=>?_,cn:=h.cn,N0_le:=Nat.le_trans hN hG.size,cN:=fun b' hb'=>h.cN b' (hact b' hb'),own0:=fun r hr=>?_,ownW:=fun b' r hr=>?_,ownD:=fun r hr=>?_,co:=?_ }
 ·exact h.rel.trans (rly fun r hr=>⟨(h.own0 r hr).2.1,fun hk=>(hOb r hk).2.2.2 hr⟩)
 ·obtain⟨m0,e,hm0⟩:=h.main;refine⟨m0,by rw[qAa (fun e=>h.ix0 b e.symm)];exact e,?_⟩;rcases hm0 with hm0|⟨e1,z,e2,ho,hc,hr⟩
  ·exact .inl hm0
  ·refine .inr ⟨e1,z,e2,ho,hc,fun b' hb'=>?_⟩;by_cases e:b'=b
   ·subst e;exact⟨k',qAn _ _ _⟩
   ·rw[qAf ph e];exact hr b' hb'
 ·by_cases e:b'=b
  ·subst e;rw[qAn,<-hk'];exact⟨hS,.refl _ _ _,qCN (h.ixl b' hbl) _,hwb.2.2.2⟩
  ·rw[qAf ph e];have hne:idx b'≠idx b:=fun q=>e (h.idx_inj q);have hw':=h.work b';have hO':=hOo b' e;have hl':∀r,(ph b').O r->r<w.heap.size:=fun r hr=>(h.ownW b' r hr).2.1;cases hp':ph b' with
   |run k2 =>
    rw[hp']at hw' hO' hl';exact⟨hw'.1,hw'.2.1.trans (rly fun r hr=>⟨hl' r hr,hO' r hr⟩),by rw[qAa hne];exact hw'.2.2.1,hw'.2.2.2⟩
   |wait k2 x xs z =>
    rw[hp']at hw' hO' hl';exact⟨hw'.1,hw'.2.1,hw'.2.2.1,hw'.2.2.2.1.trans (rly fun r hr=>⟨hl' r hr,hO' r hr⟩),by rw[qAa hne];exact hw'.2.2.2.2.1,hw'.2.2.2.2.2⟩
   |left=>rw[hp']at hw';exact hw'
 ·have hne:j≠idx b:=fun e=>by have:=hjl b e;rw[qAn]at this;cases this
  rw[qAa hne]at hx;rw[hoth j hne];refine h.quit j x hj (fun b' e=>?_) hx;exact(hleft b').1 (hjl b' e)
 ·have hj':gs.size<=j:=by simpa using hj
  rw[hoth j (by have:=h.ixl b hbl;omega)];exact h.above j hj'
 ·rw[hcs b' (hact b' hb')];obtain⟨s,r,e⟩:=h.ch b' (hact b' hb');refine⟨s,r,?_⟩;rw[e];by_cases e2:b'=b
  ·subst e2;rw[qAn,hp];rfl
  ·rw[qAf ph e2]
 ·obtain⟨a1,a2,a3⟩:=h.own0 r hr;exact⟨a1,Nat.lt_of_lt_of_le a2 hG.size,fun b' hb'=>a3 b' (hact b' hb')⟩
 ·by_cases e:b'=b
  ·subst e;rw[qAn]at hr;obtain⟨a1,a2,a3,a4⟩:=hown r (by rw[<-eO];exact hr);exact⟨a1,a2,fun b2 hb2=>a3 b2 (hact b2 hb2),a4⟩
  ·rw[qAf ph e]at hr;obtain⟨a1,a2,a3,a4⟩:=h.ownW b' r hr;exact⟨a1,Nat.lt_of_lt_of_le a2 hG.size,fun b2 hb2=>a3 b2 (hact b2 hb2),a4⟩
 ·have key:∀b',b'≠b->∀r,(ph b').O r->¬grow k.O w w' r:=fun b' hb r hr hg=>by
   rcases hg with hg|⟨hg,-⟩
   ·exact hOo b' hb r hr hg
   ·have:=(h.ownW b' r hr).2.1;omega
  cases b with
  |false =>
   rw[qAn]at hr;rw[qAf ph (by simp)];exact fun q=>key true (by simp) r q (by rw[<-eO];exact hr)
  |true =>
   rw[qAn];rw[qAf ph (by simp)]at hr;exact fun q=>key false (by simp) r hr (by rw[<-eO];exact q)
 ·rw[qFA hleft,qGj hleft];have hin:∀r,qEJ c idx km.O (upB ph b (.run k')) (idx b) r↔(grow k.O w w' r\/r=c b):=fun r=>by
   constructor
   ·rintro(⟨e,-⟩|⟨b',e,-,hr⟩)
    ·exact absurd e (h.ix0 b)
    ·obtain rfl:=h.idx_inj e;rw[qAn]at hr;exact hr.imp (fun x=>by rw[<-eO];exact x) id
   ·intro hr;exact .inr ⟨b,rfl,by rw[qAn];simp,by rw[qAn];exact hr.imp (fun x=>by rw[<-eO]at x;exact x) id⟩
  refine h.co.does (g:=idx b) (.inr ⟨b,rfl,by rw[hp];simp⟩) hG.size qHq (fun op hop x hx=>?_) (fun r hr=>?_) (fun r hr=>?_) (fun g' hg' r=>?_) (fun g' hm hg' r hr=>?_) (qNM hG.evs t) (qQR hG.evs (fun r hr=>(hown r hr).2.1) (Nat.le_trans hN hG.size))
  ·obtain⟨r,h1,h2⟩:=qLF hG.evs op hop x hx;exact⟨r,h1,h2.imp (fun x=>(hin r).2 (.inl x)) id⟩
  ·rcases (hin r).1 hr with(hr|hr)|hr
   ·exact .inl (.inr ⟨b,rfl,hbl,.inl (by rw[hp];exact hr)⟩)
   ·exact .inr hr.1
   ·exact .inl (.inr ⟨b,rfl,hbl,.inr hr⟩)
  ·rcases (hin r).1 hr with hr|rfl
   ·exact(hown r hr).1
   ·exact h.cN b hbA
  ·unfold qEJ;constructor
   ·rintro(x|⟨b',e,hl,hr⟩)
    ·exact .inl x
    ·have hb':b'≠b:=fun q=>hg' (by rw[e,q]);rw[qAf ph hb']at hr hl;exact .inr ⟨b',e,hl,hr⟩
   ·rintro(x|⟨b',e,hl,hr⟩)
    ·exact .inl x
    ·have hb':b'≠b:=fun q=>hg' (by rw[e,q]);exact .inr ⟨b',e,by rw[qAf ph hb'];exact hl,by rw[qAf ph hb'];exact hr⟩
  ·rcases hr with⟨-,hr⟩|⟨b',e,hl,hr⟩
   ·refine⟨fun q=>?_,(h.own0 r hr).1⟩;rcases (hin r).1 q with q|rfl
    ·exact(hown r q).2.2.2 hr
    ·exact(h.own0 _ hr).2.2 b hbA rfl
   ·have hb':b'≠b:=fun q=>hg' (by rw[e,q]);rw[qAf ph hb']at hr hl;rcases hr with hr|rfl
    ·obtain⟨a1,a2,a3,a4⟩:=h.ownW b' r hr;refine⟨fun q=>?_,a1⟩;rcases (hin r).1 q with(q|⟨q,-⟩)|rfl
     ·exact hOo b' hb' r hr q
     ·omega
     ·exact a3 b hbA rfl
    ·refine⟨fun q=>?_,h.cN b' (.inl hl)⟩;rcases (hin _).1 q with q|q
     ·exact(hown _ q).2.2.1 b' (.inl hl) rfl
     ·exact hb' (h.c_inj q)
end
section
variable{P:Program}{N0:Nat}{c idx:Bool->Nat}{Fin:qG1}{km:MKey}{pk:Bool}{ph:Bool->WPh}{mm:Bool->Nat}{gs:Array Goroutine}{w:World}{t:Trace}{q:Nat->Nat}
theorem Inv.len(h:Inv P N0 c idx Fin km pk ph mm gs w t q):0<gs.size:=by
 obtain⟨m0,e,-⟩:=h.main;exact qCf e
theorem WOk.carry{c i:Nat}{rem:Option (List Int)}{gs gs':Array Goroutine}{w w':World}{p:WPh}(h:WOk P N0 c i rem gs w p)(hr:Rely N0 p.O w w')(hg:p≠.left->gs'[i]? = gs[i]?):WOk P N0 c i rem gs' w' p:=by
 cases p with
 |run k=>exact⟨h.1,h.2.1.trans hr,by rw[hg (by simp)];exact h.2.2.1,h.2.2.2⟩
 |wait k x xs z=>exact⟨h.1,h.2.1,h.2.2.1,h.2.2.2.1.trans hr,by rw[hg (by simp)];exact h.2.2.2.2.1,h.2.2.2.2.2⟩
 |left=>exact h
theorem Inv.main_go(h:Inv P N0 c idx Fin km pk ph mm gs w t q){g':Goroutine}{w':World}{es:Array Event}(fn:FuncId)(pos:String)(hr:g'.status=.running)(hG:Guar N0 km.O w w' es)(hS:MScr P N0 c Fin km.rem (grow km.O w w') g' w') :
  Inv P N0 c idx Fin ⟨km.rem,grow km.O w w',g',w'⟩ false ph mm (gs.setIfInBounds 0 g') w' (t++MemOp.ofEvents 0 fn pos es) q:=by
 have hN:=h.N0_le;have rly:∀{O:Nat->Prop},(∀r,O r->r<w.heap.size/\¬km.O r)->Rely N0 O w w':=fun hO=>qLj hG (fun r hr=>(hO r hr).2) (fun r hr=>(hO r hr).1) (fun r hr=>(h.own0 r hr).1) hN;have hcs:∀b',qCI km.rem ph b'->w'.heap[c b']? = w.heap[c b']?:=fun b' hb'=>hG.same _ (h.c_lt hb') fun hk=>(h.own0 _ hk).2.2 b' hb' rfl;have hoth:∀x,x≠0->Deaf (t++MemOp.ofEvents 0 fn pos es) x=Deaf t x:=fun x hx=>Deaf_other t (fun e=>hx e.symm) _ qHq;have hown:∀r,grow km.O w w' r->N0<=r/\r<w'.heap.size/\∀b',qCI km.rem ph b'->r≠c b':=fun r hr=>by
  rcases hr with hr|⟨h1,h2⟩
  ·obtain⟨a1,a2,a3⟩:=h.own0 r hr;exact⟨a1,Nat.lt_of_lt_of_le a2 hG.size,a3⟩
  ·exact⟨by omega,h2,fun b' hb' e=>by have:=h.c_lt hb';omega⟩
 refine{ scr:=hS,rel:=.refl _ _ _,main:=⟨g',qCN h.len _,.inl ⟨rfl,hr,rfl,rfl,rfl,.inl rfl⟩⟩,work:=fun b'=>?_,quit:=fun j x hj hjl hx=>?_,above:=fun j hj=>?_,ix0:=h.ix0,ixn:=h.ixn,ixl:=fun b' hb'=>by simpa using h.ixl b' hb',ch:=fun b' hb'=>?_,cn:=h.cn,N0_le:=Nat.le_trans hN hG.size,cN:=h.cN,own0:=hown,ownW:=fun b' r hr=>?_,ownD:=h.ownD,co:=?_ }
 ·exact(h.work b').carry (rly fun r hr=>⟨(h.ownW b' r hr).2.1,(h.ownW b' r hr).2.2.2⟩) fun _=>qAa (h.ix0 b') _
 ·rw[qAa hj]at hx;rw[hoth j hj];exact h.quit j x hj hjl hx
 ·have hj':gs.size<=j:=by simpa using hj
  have:=h.len;rw[hoth j (by omega)];exact h.above j hj'
 ·rw[hcs b' hb'];exact h.ch b' hb'
 ·obtain⟨a1,a2,a3,a4⟩:=h.ownW b' r hr;refine⟨a1,Nat.lt_of_lt_of_le a2 hG.size,a3,fun hg=>?_⟩;rcases hg with hg|⟨hg,-⟩
  ·exact a4 hg
  ·omega
 ·have hin:∀r,qEJ c idx (grow km.O w w') ph 0 r↔grow km.O w w' r:=fun r=>by
   constructor
   ·rintro(⟨-,hr⟩|⟨b',e,-,-⟩)
    ·exact hr
    ·exact absurd e.symm (h.ix0 b')
   ·intro hr;exact .inl ⟨rfl,hr⟩
  refine h.co.does (g:=0) (.inl rfl) hG.size qHq (fun op hop x hx=>?_) (fun r hr=>?_) (fun r hr=>(hown r ((hin r).1 hr)).1) (fun g' hg' r=>?_) (fun g' hm hg' r hr=>?_) (qNM hG.evs t) (qQR hG.evs (fun r hr=>(hown r hr).2.1) (Nat.le_trans hN hG.size))
  ·obtain⟨r,h1,h2⟩:=qLF hG.evs op hop x hx;exact⟨r,h1,h2.imp (fun x=>(hin r).2 x) id⟩
  ·rcases (hin r).1 hr with hr|hr
   ·exact .inl (.inl ⟨rfl,hr⟩)
   ·exact .inr hr.1
  ·unfold qEJ;constructor
   ·rintro(⟨e,-⟩|x)
    ·exact absurd e hg'
    ·exact .inr x
   ·rintro(⟨e,-⟩|x)
    ·exact absurd e hg'
    ·exact .inr x
  ·rcases hr with⟨e,-⟩|⟨b',e,hl,hr⟩
   ·exact absurd e hg'
   ·rcases hr with hr|rfl
    ·obtain⟨a1,a2,a3,a4⟩:=h.ownW b' r hr;refine⟨fun q=>?_,a1⟩;rcases (hin r).1 q with q|⟨q,-⟩
     ·exact a4 q
     ·omega
    ·exact⟨fun q=>(hown _ ((hin _).1 q)).2.2 b' (.inl hl) rfl,h.cN b' (.inl hl)⟩
theorem Inv.main_waits(h:Inv P N0 c idx Fin km pk ph mm gs w t q){z:Value}(ho:∃b,km.rem b≠none)(hc:∀w1,Rely N0 km.O km.w w1->stepG P true km.g w1=.comm km.g (qA5 c z km.rem) true .select w1 #[])(hrun:∀b,km.rem b≠none->∃k,ph b=.run k) :
  Inv P N0 c idx Fin km true ph mm (gs.setIfInBounds 0 (parked km.g (qA5 c z km.rem) .select)) w t q :=
 { h with
  main:=⟨_,qCN h.len _,.inr ⟨rfl,z,rfl,ho,hc,hrun⟩⟩
  work:=fun b=>(h.work b).carry (.refl _ _ _) fun _=>qAa (h.ix0 b) _
  quit:=fun j x hj hjl hx=>by rw[qAa hj]at hx;exact h.quit j x hj hjl hx
  above:=fun j hj=>h.above j (by simpa using hj)
  ixl:=fun b hb=>by simpa using h.ixl b hb }
theorem Inv.work_waits(h:Inv P N0 c idx Fin km false ph mm gs w t q){b:Bool}{k:WKey}(hp:ph b=.run k){x:Int}{xs:List Int}{z:Value}(hx:k.xs=x::xs)(hc:∀w1,Rely N0 k.O k.w w1->stepG P false k.g w1=.comm k.g #[scase (c b) (goInt x) z] true .send w1 #[])
  (hS:WScr P N0 (c b) xs k.O (k.g.finishComm P #[scase (c b) (goInt x) z] .send 0 undef false) k.w) :
  Inv P N0 c idx Fin km false (upB ph b (.wait k x xs z)) mm (gs.setIfInBounds (idx b) (parked k.g #[scase (c b) (goInt x) z] .send)) w t q:=by
 have hwb:=h.work b;rw[hp]at hwb;have hO:∀b' r,(upB ph b (.wait k x xs z) b').O r↔(ph b').O r:=fun b' r=>by
  by_cases e:b'=b
  ·subst e;rw[qAn,hp];exact Iff.rfl
  ·rw[qAf ph e]
 have hleft:∀b',upB ph b (.wait k x xs z) b'=.left↔ph b'=.left:=fun b'=>by
  by_cases e:b'=b
  ·subst e;rw[qAn,hp];simp
  ·rw[qAf ph e]
 have hbl:ph b≠.left:=by rw[hp];simp
 have hact:∀b',qCI km.rem (upB ph b (.wait k x xs z)) b'->qCI km.rem ph b':=fun b' x=>x.imp (fun q e=>q ((hleft b').2 e)) id;refine{ h with main:=?_,work:=fun b'=>?_,quit:=fun j y hj hjl hy=>?_,above:=fun j hj=>h.above j (by simpa using hj),ixl:=fun b' hb'=>by simpa using h.ixl b' fun e=>hb' ((hleft b').2 e),ch:=fun b' hb'=>?_,cN:=fun b' hb'=>h.cN b' (hact b' hb'),own0:=fun r hr=>⟨(h.own0 r hr).1,(h.own0 r hr).2.1,fun b' hb'=>(h.own0 r hr).2.2 b' (hact b' hb')⟩,ownW:=fun b' r hr=>⟨(h.ownW b' r ((hO b' r).1 hr)).1,(h.ownW b' r ((hO b' r).1 hr)).2.1,fun b2 hb2=>(h.ownW b' r ((hO b' r).1 hr)).2.2.1 b2 (hact b2 hb2),(h.ownW b' r ((hO b' r).1 hr)).2.2.2⟩,ownD:=fun r hr q=>h.ownD r ((hO _ r).1 hr) ((hO _ r).1 q),co:=?_ }
 ·obtain⟨m0,e,hm0⟩:=h.main;refine⟨m0,by rw[qAa (fun e=>h.ix0 b e.symm)];exact e,?_⟩;rcases hm0 with hm0|⟨e1,-⟩
  ·exact .inl hm0
  ·cases e1
 ·by_cases e:b'=b
  ·subst e;rw[qAn];exact⟨hx,hc,hS,hwb.2.1,qCN (h.ixl b' hbl) _,hwb.2.2.2⟩
  ·rw[qAf ph e];exact(h.work b').carry (.refl _ _ _) fun _=>qAa (fun q=>e (h.idx_inj q)) _
 ·have hne:j≠idx b:=fun e=>by have:=hjl b e;rw[qAn]at this;cases this
  rw[qAa hne]at hy;exact h.quit j y hj (fun b' e=>(hleft b').1 (hjl b' e)) hy
 ·obtain⟨s,r,e⟩:=h.ch b' (hact b' hb');refine⟨s,r,?_⟩;rw[e];by_cases e2:b'=b
  ·subst e2;rw[qAn,hp];rfl
  ·rw[qAf ph e2]
 ·rw[qFA hleft,qGj hleft];have:qEJ c idx km.O (upB ph b (.wait k x xs z))=qEJ c idx km.O ph:=by
   funext g r;apply propext;unfold qEJ;exact⟨fun y=>y.imp id fun⟨b',e,hl,hr⟩=>⟨b',e,fun q=>hl ((hleft b').2 q),hr.imp (hO b' r).1 id⟩,fun y=>y.imp id fun⟨b',e,hl,hr⟩=>⟨b',e,fun q=>hl ((hleft b').1 q),hr.imp (hO b' r).2 id⟩⟩
  rw[this];exact h.co
end
section
variable{P:Program}{N0:Nat}{c idx:Bool->Nat}{Fin:qG1}{km:MKey}{pk:Bool}{ph:Bool->WPh}{mm:Bool->Nat}{gs gs':Array Goroutine}{w:World}{t:Trace}{q:Nat->Nat}
theorem Inv.meet(h:Inv P N0 c idx Fin km pk ph mm gs w t q){b:Bool}{k:WKey}(hO:(ph b).O=k.O)(hl:ph b≠.left)(hrel:Rely N0 k.O k.w w){x:Int}{xs:List Int}{gw gm:Goroutine}(hS:WScr P N0 (c b) xs k.O gw k.w)
  (hM:MScr P N0 c Fin (upB km.rem b (some xs)) km.O gm km.w) (_hrem:km.rem b=some (x::xs)) (hsz:gs'.size=gs.size) (h0:gs'[0]? = some gm) (hb:gs'[idx b]? = some gw) (hoth:∀j,j≠0->j≠idx b->gs'[j]? = gs[j]?)
  (s r:Nat) {u:Trace} (hn:∀op∈u,op.act.touch? = none) (hq:∀g,∀op∈u,∀d,deafStep g d op=d) (hlow:∀op∈u,op.act.low w.heap.size) :
  Inv P N0 c idx Fin ⟨upB km.rem b (some xs),km.O,gm,km.w⟩ false (upB ph b (.run ⟨xs,k.O,gw,k.w⟩)) mm gs' (w.setChan (c b) 0 #[] false s r false) (t++u) q:=by
 have hleft:∀b',upB ph b (.run ⟨xs,k.O,gw,k.w⟩) b'=.left↔ph b'=.left:=fun b'=>by
  by_cases e:b'=b
  ·subst e;rw[qAn];constructor
   ·intro e;cases e
   ·intro e;exact absurd e hl
  ·rw[qAf ph e]
 have hOO:∀b' r,(upB ph b (.run ⟨xs,k.O,gw,k.w⟩) b').O r↔(ph b').O r:=fun b' r=>by
  by_cases e:b'=b
  ·subst e;rw[qAn,hO];exact Iff.rfl
  ·rw[qAf ph e]
 have hOb:∀r,k.O r->¬r=c b:=fun r hr=>(h.ownW b r (by rw[hO];exact hr)).2.2.1 b (.inl hl);have hremb:km.rem b≠none:=by rw[_hrem];simp
 have hact:∀b',qCI (upB km.rem b (some xs)) (upB ph b (.run ⟨xs,k.O,gw,k.w⟩)) b'->qCI km.rem ph b':=fun b' x=>by
  by_cases e:b'=b
  ·subst e;exact .inl hl
  ·unfold qCI at x;rw[qAf ph e,qAf km.rem e]at x;exact x
 have hD:∀x,Deaf (t++u) x=Deaf t x:=fun x=>Deaf_quiet (hq x);refine{ scr:=hM,rel:=h.rel.trans (qFw (fun e=>(h.own0 _ e).2.2 b (.inl hl) rfl) (h.cN b (.inl hl))),main:=⟨gm,h0,.inl ⟨rfl,hM.running,rfl,rfl,rfl,.inl rfl⟩⟩,work:=fun b'=>?_,quit:=fun j y hj hjl hy=>?_,above:=fun j hj=>by rw[hD];exact h.above j (by omega),ix0:=h.ix0,ixn:=h.ixn,ixl:=fun b' hb'=>by rw[hsz];exact h.ixl b' fun e=>hb' ((hleft b').2 e),ch:=fun b' hb'=>?_,cn:=h.cn,N0_le:=by rw[qCH];exact h.N0_le,cN:=fun b' hb'=>h.cN b' (hact b' hb'),own0:=fun r hr=>by rw[qCH];exact⟨(h.own0 r hr).1,(h.own0 r hr).2.1,fun b' hb'=>(h.own0 r hr).2.2 b' (hact b' hb')⟩,ownW:=fun b' r hr=>by rw[qCH];exact⟨(h.ownW b' r ((hOO b' r).1 hr)).1,(h.ownW b' r ((hOO b' r).1 hr)).2.1,fun b2 hb2=>(h.ownW b' r ((hOO b' r).1 hr)).2.2.1 b2 (hact b2 hb2),(h.ownW b' r ((hOO b' r).1 hr)).2.2.2⟩,ownD:=fun r hr q=>h.ownD r ((hOO _ r).1 hr) ((hOO _ r).1 q),co:=?_ }
 ·show WOk P N0 (c b') (idx b') (upB km.rem b (some xs) b') gs' _ (upB ph b (.run ⟨xs,k.O,gw,k.w⟩) b');by_cases e:b'=b
  ·subst e;rw[qAn,qAn];exact⟨hS,hrel.trans (qFw (fun e=>hOb _ e rfl) (h.cN b' (.inl hl))),hb,rfl⟩
  ·rw[qAf ph e,qAf km.rem e];exact(h.work b').carry (qFw (fun q=>(h.ownW b' _ q).2.2.1 b (.inl hl) rfl) (h.cN b (.inl hl))) fun _=>hoth _ (h.ix0 b') fun q=>e (h.idx_inj q)
 ·have hne:j≠idx b:=fun e=>by have:=hjl b e;rw[qAn]at this;cases this
  rw[hoth j hj hne]at hy;rw[hD];exact h.quit j y hj (fun b' e=>(hleft b').1 (hjl b' e)) hy
 ·by_cases e:b'=b
  ·subst e;rw[qAn];exact⟨s,r,qJQ (h.c_lt (.inl hl))⟩
  ·rw[qAf ph e,qDo _ fun q=>e (h.c_inj q)];exact h.ch b' (hact b' hb')
 ·rw[qCH,qFA hleft];have e1:qEJ c idx km.O (upB ph b (.run ⟨xs,k.O,gw,k.w⟩))=qEJ c idx km.O ph:=by
   funext g r;apply propext;unfold qEJ;exact⟨fun y=>y.imp id fun⟨b',e,hl,hr⟩=>⟨b',e,fun q=>hl ((hleft b').2 q),hr.imp (hOO b' r).1 id⟩,fun y=>y.imp id fun⟨b',e,hl,hr⟩=>⟨b',e,fun q=>hl ((hleft b').1 q),hr.imp (hOO b' r).2 id⟩⟩
  have e2:qC1 c (upB km.rem b (some xs)) (upB ph b (.run ⟨xs,k.O,gw,k.w⟩)) mm=qC1 c km.rem ph mm:=by
   funext c' m;apply propext;unfold qC1;constructor
   ·rintro⟨b',h1,h2,h3,h4⟩;have e:b'≠b:=fun e=>by subst e;rw[qAn]at h3;cases h3
    rw[qAf ph e]at h3;rw[qAf km.rem e]at h4;exact⟨b',h1,h2,h3,h4⟩
   ·rintro⟨b',h1,h2,h3,h4⟩;have e:b'≠b:=fun e=>by subst e;exact hl h3
    exact⟨b',h1,h2,by rw[qAf ph e];exact h3,by rw[qAf km.rem e];exact h4⟩
  rw[e1,e2];exact h.co.mute hn (fun g _=>hD g) hlow
theorem Inv.found(h:Inv P N0 c idx Fin km pk ph mm gs w t q){b:Bool}(hp:ph b=.left)(hrem:km.rem b≠none){gm:Goroutine}(hM:MScr P N0 c Fin (upB km.rem b none) km.O gm km.w)(fn:FuncId)(pos:String) :
  Inv P N0 c idx Fin ⟨upB km.rem b none,km.O,gm,km.w⟩ false ph mm (gs.setIfInBounds 0 gm) w (t++#[{ g:=0,fn:=fn,pos:=pos,act:=.recvClosed (c b) }]) q:=by
 have hqt:∀g,∀op∈(#[{ g:=0,fn:=fn,pos:=pos,act:=.recvClosed (c b) }]:Trace),∀d,deafStep g d op=d:=by
  intro g op hop d;simp only[List.mem_toArray,List.mem_cons,List.not_mem_nil,or_false]at hop;subst hop;rfl
 have hD:∀x,Deaf (t++#[{ g:=0,fn:=fn,pos:=pos,act:=.recvClosed (c b) }]) x=Deaf t x:=fun x=>Deaf_quiet (hqt x);have hact:∀b',qCI (upB km.rem b none) ph b'->qCI km.rem ph b':=fun b' x=>x.imp id fun q=>by
  by_cases e:b'=b
  ·subst e;rw[qAn]at q;exact absurd rfl q
  ·rw[qAf km.rem e]at q;exact q
 refine{ h with scr:=hM,rel:=h.rel,main:=⟨gm,qCN h.len _,.inl ⟨rfl,hM.running,rfl,rfl,rfl,.inl rfl⟩⟩,work:=fun b'=>?_,quit:=fun j y hj hjl hy=>?_,above:=fun j hj=>by rw[hD];exact h.above j (by simpa using hj),ixl:=fun b' hb'=>by simpa using h.ixl b' hb',ch:=fun b' hb'=>h.ch b' (hact b' hb'),cN:=fun b' hb'=>h.cN b' (hact b' hb'),own0:=fun r hr=>⟨(h.own0 r hr).1,(h.own0 r hr).2.1,fun b' hb'=>(h.own0 r hr).2.2 b' (hact b' hb')⟩,ownW:=fun b' r hr=>⟨(h.ownW b' r hr).1,(h.ownW b' r hr).2.1,fun b2 hb2=>(h.ownW b' r hr).2.2.1 b2 (hact b2 hb2),(h.ownW b' r hr).2.2.2⟩,co:=?_ }
 ·show WOk P N0 (c b') (idx b') (upB km.rem b none b') (gs.setIfInBounds 0 gm) w (ph b');by_cases e:b'=b
  ·subst e;rw[qAn,hp];exact .inr rfl
  ·rw[qAf km.rem e];exact(h.work b').carry (.refl _ _ _) fun _=>qAa (h.ix0 b') _
 ·rw[qAa hj]at hy;rw[hD];exact h.quit j y hj hjl hy
 ·have:=h.co.take (.inl rfl) (c:=c b) (m:=mm b) ⟨b,rfl,rfl,hp,hrem⟩ fn pos (h.c_lt (.inr hrem));refine{ this with all:=fun i a hi hm=>?_,gone:=?_ }
  ·rcases this.all i a hi hm with x|x|⟨c',m,⟨⟨b',h1,h2,h3,h4⟩,hno⟩,hb⟩
   ·exact .inl x
   ·exact .inr (.inl x)
   ·have e:b'≠b:=fun e=>by subst e;exact hno ⟨h1,h2⟩
    exact .inr (.inr ⟨c',m,⟨b',h1,h2,h3,by show upB km.rem b none b'≠none;rw[qAf km.rem e];exact h4⟩,hb⟩)
  ·rintro c' m ⟨b',h1,h2,h3,h4⟩;have h4:upB km.rem b none b'≠none:=h4;have e:b'≠b:=fun e=>by subst e;rw[qAn]at h4;exact h4 rfl
   rw[qAf km.rem e]at h4;exact this.gone c' m ⟨⟨b',h1,h2,h3,h4⟩,fun q=>e (h.c_inj (h1.symm.trans q.1))⟩
end
section
variable{P:Program}{N0:Nat}{c idx:Bool->Nat}{Fin:qG1}{km:MKey}{pk:Bool}{ph:Bool->WPh}{mm:Bool->Nat}{gs:Array Goroutine}{w:World}{t:Trace}{q:Nat->Nat}
theorem Inv.own_ge(h:Inv P N0 c idx Fin km pk ph mm gs w t q){g r:Nat}(ho:qEJ c idx km.O ph g r):N0<=r/\r<w.heap.size:=by
 rcases ho with⟨-,ho⟩|⟨b,-,hl,ho|rfl⟩
 ·exact⟨(h.own0 r ho).1,(h.own0 r ho).2.1⟩
 ·exact⟨(h.ownW b r ho).1,(h.ownW b r ho).2.1⟩
 ·exact⟨h.cN b (.inl hl),h.c_lt (.inl hl)⟩
theorem Inv.own_dis(h:Inv P N0 c idx Fin km pk ph mm gs w t q){g g' r:Nat}(hne:g'≠g)(ho':qEJ c idx km.O ph g' r)(ho:qEJ c idx km.O ph g r):False:=by
 rcases ho with⟨rfl,ho⟩|⟨b,rfl,hl,ho⟩<;> rcases ho' with⟨rfl,ho'⟩|⟨b',rfl,hl',ho'⟩
 ·exact hne rfl
 ·rcases ho' with ho'|rfl
  ·exact(h.ownW b' r ho').2.2.2 ho
  ·exact(h.own0 _ ho).2.2 b' (.inl hl') rfl
 ·rcases ho with ho|rfl
  ·exact(h.ownW b r ho).2.2.2 ho'
  ·exact(h.own0 _ ho').2.2 b (.inl hl) rfl
 ·have hb:b'≠b:=fun e=>hne (by rw[e]);rcases ho with ho|rfl<;>rcases ho' with ho'|e
  ·cases b<;>cases b'<;>first|exact hb rfl|exact h.ownD r ho ho'|exact h.ownD r ho' ho
  ·exact(h.ownW b r ho).2.2.1 b' (.inl hl') e
  ·exact(h.ownW b' _ ho').2.2.1 b (.inl hl) rfl
  ·exact hb (h.c_inj e.symm)
theorem Inv.work_close(h:Inv P N0 c idx Fin km pk ph mm gs w t q){b:Bool}{k:WKey}(hp:ph b=.run k)(hxs:k.xs=[]){g':Goroutine}{n:Nat}(hwk:mayWake P k.g=true)(hq:QuitsD P n 0 g')(s r:Nat)(fn:FuncId)(pos:String) :
  Inv P N0 c idx Fin km false (upB ph b .left) (upB mm b (t.size+1)) ((gs.map (woken P k.g g' (w.setChan (c b) 0 #[] true s r false))).setIfInBounds (idx b) g') (w.setChan (c b) 0 #[] true s r false)
   (t++MemOp.ofEvents (idx b) fn pos #[⟨.obj (c b),false,true⟩,⟨.obj (c b),true,true⟩]) (Go.ConcN.upd q (idx b) n):=by
 generalize hw':w.setChan (c b) 0 #[] true s r false=w';have hbl:ph b≠.left:=by rw[hp];simp
 have hsize:w'.heap.size=w.heap.size:=by rw[<-hw'];exact qCH
 have hat:w'.heap[c b]? = some (.chan 0 #[] true s r false):=by rw[<-hw'];exact qJQ (h.c_lt (.inl hbl))
 have hel:∀k,k≠c b->w'.heap[k]? = w.heap[k]?:=fun k hk=>by rw[<-hw'];exact qDo k hk
 have hwb:=h.work b;rw[hp]at hwb;have hremb:km.rem b=some []:=by rw[hwb.2.2.2,hxs]
 have hwoken:∀o,woken P k.g g' w' o=o.again w':=fun o=>by
  unfold woken;rw[hwk];rcases hq.status with e|e<;>rw[e]<;>rfl
 have hget:∀j,j≠idx b->((gs.map (woken P k.g g' w')).setIfInBounds (idx b) g')[j]? = (gs[j]?).map (woken P k.g g' w'):=fun j hj=>by rw[qAa hj,Array.getElem?_map]
 have hgetb:((gs.map (woken P k.g g' w')).setIfInBounds (idx b) g')[idx b]? = some g':=qCN (by simpa using h.ixl b hbl) _;have rly:∀{O:Nat->Prop},¬O (c b)->Rely N0 O w w':=fun hO=>by rw[<-hw'];exact qFw hO (h.cN b (.inl hbl))
 have hleft:∀b',upB ph b .left b'=.left↔(b'=b\/ph b'=.left):=fun b'=>by
  by_cases e:b'=b
  ·subst e;rw[qAn];simp
  ·rw[qAf ph e];simp[e]
 have hact:∀b',qCI km.rem (upB ph b .left) b'->qCI km.rem ph b':=fun b' x=>x.imp (fun q e=>q ((hleft b').2 (.inr e))) id;have hoth:∀x,x≠idx b->Deaf (t++MemOp.ofEvents (idx b) fn pos #[⟨.obj (c b),false,true⟩,⟨.obj (c b),true,true⟩]) x=Deaf t x:=fun x hx=>Deaf_other t (fun e=>hx e.symm) _ qHq;have hself:Deaf (t++MemOp.ofEvents (idx b) fn pos #[⟨.obj (c b),false,true⟩,⟨.obj (c b),true,true⟩]) (idx b)=Deaf t (idx b):=by
  rw[Deaf_own];refine deafBehind_still (fun e he=>?_) _;simp only[List.mem_toArray,List.mem_cons,List.not_mem_nil,or_false]at he;rcases he with rfl|rfl<;>constructor<;>simp
 have hmemb:qFj idx ph (idx b):=.inr ⟨b,rfl,by rw[hp];simp⟩;have hd0:Deaf t (idx b)=0:=h.co.hears _ hmemb;refine{ scr:=h.scr,rel:=h.rel.trans (rly fun e=>(h.own0 _ e).2.2 b (.inl hbl) rfl),main:=?_,work:=fun b'=>?_,quit:=fun j y hj hjl hy=>?_,above:=fun j hj=>?_,ix0:=h.ix0,ixn:=h.ixn,ixl:=fun b' hb'=>by simpa using h.ixl b' fun e=>hb' ((hleft b').2 (.inr e)),ch:=fun b' hb'=>?_,cn:=h.cn,N0_le:=by rw[hsize];exact h.N0_le,cN:=fun b' hb'=>h.cN b' (hact b' hb'),own0:=fun r hr=>by rw[hsize];exact⟨(h.own0 r hr).1,(h.own0 r hr).2.1,fun b' hb'=>(h.own0 r hr).2.2 b' (hact b' hb')⟩,ownW:=fun b' r hr=>?_,ownD:=fun r hr=>?_,co:=?_ }
 ·obtain⟨m0,e,hm0⟩:=h.main;refine⟨_,by rw[hget 0 (fun e=>h.ix0 b e.symm),e];rfl,.inl ⟨rfl,?_⟩⟩;rcases hm0 with⟨-,h1,h2,h3,h4,h5⟩|⟨-,z,rfl,-,hsel,-⟩
  ·rw[woken_run h1];exact⟨h1,h2,h3,h4,h5⟩
  ·rw[hwoken,qJb (by rw[hremb];simp) hat];exact⟨rfl,rfl,rfl,rfl,.inr ⟨z,hsel⟩⟩
 ·by_cases e:b'=b
  ·subst e;rw[qAn];exact .inl hremb
  ·rw[qAf ph e];refine(h.work b').carry (rly fun q=>(h.ownW b' _ q).2.2.1 b (.inl hbl) rfl) fun hl=>?_;rw[hget _ fun q=>e (h.idx_inj q)];cases hj:gs[idx b']? with
   |none=>rfl
   | some x =>
    simp only[Option.map_some,Option.some.injEq];have hw:=h.work b';cases hp':ph b' with
    |left=>exact absurd hp' hl
    |run k' =>
     rw[hp']at hw;have:=hw.2.2.1;rw[hj]at this;cases this;exact woken_run hw.1.running
    |wait k' x' xs' z' =>
     rw[hp']at hw;have:=hw.2.2.2.2.1;rw[hj]at this;cases this;obtain⟨s',r',e'⟩:=h.ch b' (.inl hl);rw[hp']at e';exact woken_send_open _ _ (by rw[hel _ fun q=>e (h.c_inj q)];exact e')
 ·by_cases e:j=idx b
  ·subst e;rw[hgetb]at hy;cases hy;rw[hself,hd0,Go.ConcN.upd_same];exact hq
  ·rw[hget j e]at hy;obtain⟨x,hx,rfl⟩:=Option.map_eq_some_iff.1 hy;have hqx:=h.quit j x hj (fun b' e'=>((hleft b').1 (hjl b' e')).resolve_left fun q=>e (by rw[e',q])) hx;rw[woken_quitsD hqx,Go.ConcN.upd_ne q n e,hoth j e];exact hqx
 ·have hj':gs.size<=j:=by simpa using hj
  rw[hoth j (by have:=h.ixl b hbl;omega)];exact h.above j hj'
 ·by_cases e:b'=b
  ·subst e;rw[qAn];exact⟨s,r,hat⟩
  ·rw[qAf ph e,hel _ fun q=>e (h.c_inj q)];exact h.ch b' (hact b' hb')
 ·by_cases e:b'=b
  ·subst e;rw[qAn]at hr;exact hr.elim
  ·rw[qAf ph e]at hr;rw[hsize];exact⟨(h.ownW b' r hr).1,(h.ownW b' r hr).2.1,fun b2 hb2=>(h.ownW b' r hr).2.2.1 b2 (hact b2 hb2),(h.ownW b' r hr).2.2.2⟩
 ·intro hr2;by_cases e:false=b
  ·subst e;rw[qAn]at hr;exact hr
  ·have e2:b=true:=by cases b<;>simp_all
   subst e2;rw[qAn]at hr2;exact hr2
 ·rw[hsize];have h1:=h.co.does (own':=qEJ c idx km.O ph) (u:=MemOp.ofEvents (idx b) fn pos #[⟨.obj (c b),false,true⟩,⟨.obj (c b),true,true⟩]) (g:=idx b) hmemb (Nat.le_refl _) qHq (fun op hop x hx=>by
    obtain⟨e,he,rfl⟩:=Go.Conc.mem_ofEvents hop;simp only[List.mem_toArray,List.mem_cons,List.not_mem_nil,or_false]at he;refine⟨c b,?_,.inl (.inr ⟨b,rfl,hbl,.inr rfl⟩)⟩;rcases he with rfl|rfl
    ·simp only[MemAct.ofEvent,MemAct.touch?,Option.some.injEq]at hx;subst hx;rfl
    ·simp[MemAct.ofEvent,MemAct.touch?]at hx) (fun r hr=>.inl hr) (fun r hr=>(h.own_ge hr).1) (fun g' _ r=>Iff.rfl) (fun g' _ hg' r hr=>⟨fun q=>h.own_dis hg' hr q,(h.own_ge hr).1⟩) hself (fun op hop=>by
    obtain⟨e,he,rfl⟩:=Go.Conc.mem_ofEvents hop;simp only[List.mem_toArray,List.mem_cons,List.not_mem_nil,or_false]at he;have:=h.c_lt (.inl hbl:qCI km.rem ph b);rcases he with rfl|rfl<;>exact this)
  have hu:MemOp.ofEvents (idx b) fn pos #[⟨.obj (c b),false,true⟩,⟨.obj (c b),true,true⟩]=(#[{ g:=idx b,fn:=fn,pos:=pos,act:=.access ⟨.obj (c b),false,true⟩ },{ g:=idx b,fn:=fn,pos:=pos,act:=.close (c b) }]:Trace):=by simp[ofEvents_eq,MemAct.ofEvent]
  have h2:=h1.leave (g:=idx b) (c:=c b) (m:=t.size+1) (op:={ g:=idx b,fn:=fn,pos:=pos,act:=.close (c b) }) hmemb (by rw[hu];simp) rfl rfl (by rw[hu];simp) (by
    rw[deaf_quiet (u:=MemOp.ofEvents (idx b) fn pos #[⟨.obj (c b),false,true⟩,⟨.obj (c b),true,true⟩]) (fun op hop d=>by
     rw[hu]at hop;simp only[List.mem_toArray,List.mem_cons,List.not_mem_nil,or_false]at hop;rcases hop with rfl|rfl<;>rfl) 1 (by rw[hu];simp)]
    exact hd0)
  have eM:(fun x=>qFj idx ph x/\x≠idx b)=qFj idx (upB ph b .left):=by
   funext x;apply propext;unfold qFj;constructor
   ·rintro⟨rfl|⟨b',rfl,hb'⟩,hx⟩
    ·exact .inl rfl
    ·exact .inr ⟨b',rfl,fun q=>((hleft b').1 q).elim (fun e=>hx (by rw[e])) hb'⟩
   ·rintro(rfl|⟨b',rfl,hb'⟩)
    ·exact⟨.inl rfl,fun e=>h.ix0 b e.symm⟩
    ·exact⟨.inr ⟨b',rfl,fun q=>hb' ((hleft b').2 (.inr q))⟩,fun e=>hb' ((hleft b').2 (.inl (h.idx_inj e)))⟩
  have eG:(fun c' m'=>qC1 c km.rem ph mm c' m'\/(c'=c b/\m'=t.size+1))=qC1 c km.rem (upB ph b .left) (upB mm b (t.size+1)):=by
   funext c' m';apply propext;unfold qC1;constructor
   ·rintro(⟨b',h1,h2,h3,h4⟩|⟨rfl,rfl⟩)
    ·have e:b'≠b:=fun e=>by subst e;rw[hp]at h3;cases h3
     exact⟨b',h1,by rw[qAf mm e];exact h2,by rw[qAf ph e];exact h3,h4⟩
    ·exact⟨b,rfl,(qAn _ _ _).symm,qAn _ _ _,by rw[hremb];simp⟩
   ·rintro⟨b',i1,i2,i3,i4⟩;by_cases e:b'=b
    ·subst e;rw[qAn]at i2;exact .inr ⟨i1,i2⟩
    ·rw[qAf mm e]at i2;rw[qAf ph e]at i3;exact .inl ⟨b',i1,i2,i3,i4⟩
  rw[eM,eG]at h2;refine h2.fewer fun g hg r hr=>?_;rcases hr with hr|⟨b',e1,hl,hr⟩
  ·exact .inl hr
  ·by_cases e:b'=b
   ·subst e;rw[qAn]at hl;exact absurd rfl hl
   ·rw[qAf ph e]at hr hl;exact .inr ⟨b',e1,hl,hr⟩
end
inductive WLt (P:Program) (N0 c:Nat):WPh->WPh->Prop
 |left {p:WPh} (h:p≠.left):WLt P N0 c .left p
 |wait {k:WKey} {x:Int} {xs:List Int} {z:Value}:WLt P N0 c (.wait k x xs z) (.run k)
 |run {k k':WKey} (h:qUV P N0 c k' k):WLt P N0 c (.run k') (.run k)
theorem qKc{P:Program}{N0 c:Nat}:Acc (WLt P N0 c) .left:=Acc.intro _ fun y hy=>by cases hy with|left h=>exact absurd rfl h
theorem qOD{P:Program}{N0 c:Nat}{k:WKey}{x:Int}{xs:List Int}{z:Value}:Acc (WLt P N0 c) (.wait k x xs z):=Acc.intro _ fun y hy=>by cases hy;exact qKc
theorem qVS{P:Program}{N0 c:Nat}{k:WKey}(h:Acc (qUV P N0 c) k):Acc (WLt P N0 c) (.run k):=by
 induction h with
 |intro k _ ih =>
  refine Acc.intro _ fun y hy=>?_;cases hy with
  |left _=>exact qKc
  |wait=>exact qOD
  |run h=>exact ih _ h
section
variable{P:Program}{N0:Nat}{c idx:Bool->Nat}{Fin:qG1}{km:MKey}{pk:Bool}{ph:Bool->WPh}{mm:Bool->Nat}{gs:Array Goroutine}{w:World}{t:Trace}{q:Nat->Nat}
theorem Inv.acc(h:Inv P N0 c idx Fin km pk ph mm gs w t q)(b:Bool):Acc (WLt P N0 (c b)) (ph b):=by
 have hw:=h.work b;cases hp:ph b with
 |left=>exact qKc
 |wait k x xs z=>exact qOD
 |run k=>rw[hp]at hw;exact qVS hw.1.acc
theorem Inv.offers(h:Inv P N0 c idx Fin km pk ph mm gs w t q){j:Nat}{x:Goroutine}(hj:gs[j]? = some x)(h0:j≠0)(r:Nat)(send:Bool) :
  offersAt x r send=[]\/∃b k y ys z,j=idx b/\ph b=.wait k y ys z/\x=parked k.g #[scase (c b) (goInt y) z] .send:=by
 rcases h.kinds hj with⟨e,-⟩|⟨b,k,rfl,hp,rfl⟩|⟨b,k,y,ys,z,rfl,hp,rfl⟩|⟨-,-,hq⟩
 ·exact absurd e h0
 ·have hw:=h.work b;rw[hp]at hw;exact .inl (offersAt_of_not_blocked (by rw[hw.1.running];simp) _ _)
 ·exact .inr ⟨b,k,y,ys,z,rfl,hp,rfl⟩
 ·exact .inl (offersAt_of_not_blocked (by rcases hq.status with e|e<;>rw[e]<;>simp) _ _)
theorem Inv.senders(h:Inv P N0 c idx Fin km pk ph mm gs w t q)(b:Bool) :
  (∀k y ys z,ph b≠.wait k y ys z)->partners (gs.setIfInBounds 0 Go.Conc.ph) (c b) true=[]:=by
 intro hno;refine partners_nil fun j x hj=>?_;rcases getElem?_stand gs 0 j x hj with⟨-,rfl⟩|⟨h0,hj⟩
 ·rfl
 ·rcases h.offers hj h0 (c b) true with e|⟨b',k,y,ys,z,rfl,hp,rfl⟩
  ·exact e
  ·rw[offersAt_parked_send,if_neg];intro e;obtain rfl:=h.c_inj e;exact hno _ _ _ _ hp
theorem Inv.sender(h:Inv P N0 c idx Fin km pk ph mm gs w t q){b:Bool}{k:WKey}{y:Int}{ys:List Int}{z:Value}(hp:ph b=.wait k y ys z) :
  partners (gs.setIfInBounds 0 Go.Conc.ph) (c b) true=[(idx b,0)]:=by
 have hw:=h.work b;rw[hp]at hw;rw[partners_one (stand_get (h.ix0 b) hw.2.2.2.2.1) fun j x hne hj=>?_,offersAt_parked_send,if_pos rfl]
 ·rfl
 ·rcases getElem?_stand gs 0 j x hj with⟨-,rfl⟩|⟨h0,hj⟩
  ·rfl
  ·rcases h.offers hj h0 (c b) true with e|⟨b',k,y,ys,z,rfl,hp,rfl⟩
   ·exact e
   ·rw[offersAt_parked_send,if_neg];intro e;obtain rfl:=h.c_inj e;exact hne rfl
theorem Inv.no_taker(h:Inv P N0 c idx Fin km false ph mm gs w t q)(b:Bool):partners (gs.setIfInBounds (idx b) Go.Conc.ph) (c b) false=[]:=by
 refine partners_nil fun j x hj=>?_;rcases getElem?_stand gs _ j x hj with⟨-,rfl⟩|⟨-,hj⟩
 ·rfl
 ·by_cases h0:j=0
  ·subst h0;obtain⟨m0,e,hm⟩:=h.main;rw[hj]at e;cases e;rcases hm with⟨-,hs,-⟩|⟨e,-⟩
   ·exact offersAt_of_not_blocked (by rw[hs];simp) _ _
   ·cases e
  ·rcases h.offers hj h0 (c b) false with e|⟨b',k,y,ys,z,rfl,hp,rfl⟩
   ·exact e
   ·exact offersAt_parked_send' _ _ _ _ _ _
theorem Inv.taker(h:Inv P N0 c idx Fin km true ph mm gs w t q){b:Bool}(hb:km.rem b≠none){z:Value}(hm:gs[0]? = some (parked km.g (qA5 c z km.rem) .select)) :
  partners (gs.setIfInBounds (idx b) Go.Conc.ph) (c b) false=[(0,qDz b)]:=by
 rw[partners_one (stand_get (fun e=>h.ix0 b e.symm) hm) fun j x hne hj=>?_,qG4 h.cn hb]
 ·rfl
 ·rcases getElem?_stand gs _ j x hj with⟨-,rfl⟩|⟨-,hj⟩
  ·rfl
  ·rcases h.offers hj hne (c b) false with e|⟨b',k,y,ys,z,rfl,hp,rfl⟩
   ·exact e
   ·exact offersAt_parked_send' _ _ _ _ _ _
theorem qDR{c:Bool->Nat}{z:Value}{rem:Bool->Option (List Int)}{b:Bool}(hb:rem b≠none):qCJ c z rem b=rcase (c b) z:=by
 unfold qCJ;cases hr:rem b with
 |none=>exact absurd hr hb
 |some l=>rfl
theorem qIw{c:Bool->Nat}{z:Value}{rem:Bool->Option (List Int)}{b:Bool}(hb:rem b=none):qCJ c z rem b={ chan:=.chan none,send:=none,zero:=z }:=by
 unfold qCJ;rw[hb]
theorem Inv.made(h:Inv P N0 c idx Fin km pk ph mm gs w t q)(z:Value):(qA5 c z km.rem).any (illMade w)=false:=by
 refine any_ill fun cc hcc=>?_;obtain⟨b,rfl⟩:=qOa hcc;by_cases hb:km.rem b=none
 ·rw[qIw hb];rfl
 ·rw[qDR hb];obtain⟨s,r,e⟩:=h.ch b (.inr hb);exact made_recv z e
theorem Inv.ways(h:Inv P N0 c idx Fin km pk ph mm gs w t q)(z:Value)(b:Bool) :
  (Go.ways w (gs.setIfInBounds 0 Go.Conc.ph) (qCJ c z km.rem b)=[]/\(km.rem b≠none->∃k,ph b=.run k)) \/
  (Go.ways w (gs.setIfInBounds 0 Go.Conc.ph) (qCJ c z km.rem b)=[.partner (idx b) 0]/\km.rem b≠none/\∃k y ys z',ph b=.wait k y ys z') \/
  (Go.ways w (gs.setIfInBounds 0 Go.Conc.ph) (qCJ c z km.rem b)=[.closed]/\km.rem b≠none/\ph b=.left):=by
 by_cases hb:km.rem b=none
 ·rw[qIw hb];exact .inl ⟨rfl,fun q=>absurd hb q⟩
 ·rw[qDR hb];obtain⟨s,r,e⟩:=h.ch b (.inr hb);cases hp:ph b with
  |run k =>
   rw[hp]at e;exact .inl ⟨(ways_recv_none e (h.senders b (by rw[hp];simp))).2,fun _=>⟨k,rfl⟩⟩
  |wait k y ys z' =>
   rw[hp]at e;refine .inr (.inl ⟨?_,hb,k,y,ys,z',rfl⟩);simp[Go.ways,rcase,e,h.sender hp]
  |left =>
   rw[hp]at e;refine .inr (.inr ⟨?_,hb,rfl⟩);have:=h.senders b (by rw[hp];simp);simp[Go.ways,rcase,e,this,WPh.shut]
theorem qQm{m0 g:Goroutine}(h1:m0.frame=g.frame)(h2:m0.callers=g.callers)(h3:m0.dying=g.dying)(w:World):stepG P true m0 w=stepG P true g w:=by
 obtain⟨f,cs,st,dy,off⟩:=m0;obtain⟨f',cs',st',dy',off'⟩:=g;obtain rfl:f=f':=h1;obtain rfl:cs=cs':=h2;obtain rfl:dy=dy':=h3;rfl
end
def qSF(P:Program)(N0:Nat)(c idx:Bool->Nat)(Fin:qG1)(km:MKey)(pk:Bool)(ph:Bool->WPh)(n:Nat)(q:Nat->Nat)(t:Trace)(x:Stepped×Array MemOp):Prop :=
 ∃km' pk' ph' mm' gs' w' sl' ops q',x=(.next (crowd gs' w' sl'),ops)/\Inv P N0 c idx Fin km' pk' ph' mm' gs' w' (t++ops) q'/\gs'.size=n /\
  (qUS P N0 c Fin km' km\/(km'=km/\((∃b,WLt P N0 (c b) (ph' b) (ph b)/\∀b',b'≠b->ph' b'=ph b')\/(ph'=ph/\(if pk' then 0 else 1)+Go.ConcN.sumTo n q'<(if pk then 0 else 1)+Go.ConcN.sumTo n q))))
section
variable{P:Program}{N0:Nat}{c idx:Bool->Nat}{Fin:qG1}{km:MKey}{pk:Bool}{ph:Bool->WPh}{mm:Bool->Nat}{gs:Array Goroutine}{w:World}{sl:Option (Nat×Nat)}{t:Trace}{q:Nat->Nat}
theorem Inv.moves_work(h:Inv P N0 c idx Fin km pk ph mm gs w t q){b:Bool}{k:WKey}(hp:ph b=.run k):qSF P N0 c idx Fin km pk ph gs.size q t (runT P (crowd gs w sl) (idx b)):=by
 have hwb:=h.work b;rw[hp]at hwb;obtain⟨hS,hrel,hi,hrem⟩:=hwb;have hi0:(idx b==0)=false:=by simpa using h.ix0 b
 have hbl:ph b≠.left:=by rw[hp];simp
 obtain⟨s,r,hc⟩:=h.ch b (.inl hbl);rw[hp]at hc;obtain⟨xs,O,g,wk⟩:=k;simp only at hS hrel hi hrem;cases hS with
 |step hr go next =>
  obtain⟨g',w',es,e,hr',hG⟩:=go w hrel;have hrun:=runT_crowd_go (P:=P) (sl:=sl) hi (by rw[hi0];exact e);have hOb:∀r,O r->∀b',qCI km.rem ph b'->r≠c b':=fun r hr=>(h.ownW b r (by rw[hp];exact hr)).2.2.1;rw[h.stay (fun b' hb'=>hG.same _ (h.c_lt (.inl hb')) fun hk=>hOb _ hk b' (.inl hb') rfl)]at hrun;have:=h.work_go hp hG (next w g' w' es hrel e);refine⟨km,pk,_,mm,_,w',sl,_,q,hrun,this,by simp,.inr ⟨rfl,.inl ⟨b,?_,fun b' hb=>qAf ph hb _⟩⟩⟩;rw[qAn,hp];exact .run (.inl ⟨w,g',w',es,s,r,hrel,hc,e,hG,rfl⟩)
 | @send x xs _ _ _ z hr hcm next =>
  have e:=hcm w hrel;cases pk with
  | false =>
   have hrun:=crowd_waits (P:=P) (sl:=sl) hi (by rw[hi0];exact e) (fun cc hcc=>by
    simp only[List.mem_toArray,List.mem_cons,List.not_mem_nil,or_false]at hcc;subst hcc;exact ways_send_none hc (by simp) (h.no_taker b))
   have:=h.work_waits hp rfl hcm next;refine⟨km,false,_,mm,_,w,sl,_,q,hrun,by simpa [ofEvents_eq]using this,by simp,.inr ⟨rfl,.inl ⟨b,?_,fun b' hb=>qAf ph hb _⟩⟩⟩;rw[qAn,hp];exact .wait
  | true =>
   obtain⟨m0,hm0,hm⟩:=h.main;rcases hm with⟨e,-⟩|⟨-,z',rfl,ho,hsel,hruns⟩
   ·cases e
   have hb:km.rem b≠none:=by rw[hrem];simp
   have hk:=qGD (c:=c) (z:=z') (rem:=km.rem) b;rw[qDR hb]at hk;have hrun:=crowd_send_meets_sel (P:=P) (sl:=sl) hi (by rw[hi0];exact e) hc (fun e=>h.ix0 b e.symm) hm0 hk (h.taker hb hm0);have hM:MScr P N0 c Fin (upB km.rem b (some xs)) km.O (km.g.finishComm P (qA5 c z' km.rem) .select (qDz b:Nat) (goInt x) true) km.w:=by
    have hscr:=h.scr;have e1:=hsel km.w (.refl _ _ _);cases hscr with
    |step hr go next =>
     obtain⟨g',w',es,e2,-⟩:=go km.w (.refl _ _ _);rw[e1]at e2;cases e2
    |sel z2 hr hopen hc2 got shut =>
     have e2:=hc2 km.w (.refl _ _ _);rw[e1]at e2;simp only[GStep.comm.injEq,true_and,and_true]at e2;obtain rfl:=qKz hb e2;exact got b x xs hrem
    |fin hr hf=>exact absurd e1 ((hf km.w (.refl _ _ _)).2 _ _ _ _ _ _)
   have:=h.meet (gs':=((gs.setIfInBounds 0 (km.g.finishComm P (qA5 c z' km.rem) .select (qDz b:Nat) (goInt x) true)).setIfInBounds (idx b) (g.finishComm P #[scase (c b) (goInt x) z] .send 0 undef false))) (k:=⟨x::xs,O,g,wk⟩) (by rw[hp];rfl) (by rw[hp];simp) hrel next hM hrem (by simp) (by rw[qAa (fun e=>h.ix0 b e.symm),qCN h.len]) (qCN (by simpa using h.ixl b hbl) _) (fun j h0 hj=>by rw[qAa hj,qAa h0]) (s+1) (r+1)
    (u:=#[{ g:=idx b,fn:=g.frame.fn,pos:=g.frame.place,act:=.send (c b) s },{ g:=0,fn:=km.g.frame.fn,pos:=km.g.frame.place,act:=.recv (c b) r 0 },{ g:=idx b,fn:=g.frame.fn,pos:=g.frame.place,act:=.sendDone (c b) s },{ g:=0,fn:=km.g.frame.fn,pos:=km.g.frame.place,act:=.recvDone (c b) r }])
    (fun op hop=>by
     simp only[List.mem_toArray,List.mem_cons,List.not_mem_nil,or_false]at hop;rcases hop with rfl|rfl|rfl|rfl<;>rfl)
    (fun g op hop d=>by
     simp only[List.mem_toArray,List.mem_cons,List.not_mem_nil,or_false]at hop;rcases hop with rfl|rfl|rfl|rfl<;>rfl)
    (fun op hop=>by
     have:=h.c_lt (.inl hbl:qCI km.rem ph b);simp only[List.mem_toArray,List.mem_cons,List.not_mem_nil,or_false]at hop;rcases hop with rfl|rfl|rfl|rfl<;>exact this)
   refine⟨_,false,_,mm,_,_,sl,_,q,hrun,by simpa [ofEvents_eq]using this,by simp,.inl (.inr ⟨z',hsel km.w (.refl _ _ _),.inl ⟨b,x,xs,hrem,rfl⟩⟩)⟩
 |close g' n hr hwk hcl hq =>
  have e:=hcl w hrel s r hc;have hrun:=runT_crowd_go (P:=P) (sl:=sl) hi (by rw[hi0];exact e);have:=h.work_close hp rfl hwk hq s r g.frame.fn g.frame.place;refine⟨km,false,_,_,_,_,sl,_,_,hrun,this,by simp,.inr ⟨rfl,.inl ⟨b,?_,fun b' hb=>qAf ph hb _⟩⟩⟩;rw[qAn];exact .left (by rw[hp];simp)
theorem Inv.moves_slip(h:Inv P N0 c idx Fin km pk ph mm gs w t q){i:Nat}{g:Goroutine}(hi:gs[i]? = some g)(hg:g.status=.running)(h0:i≠0)(hl:∀b,i=idx b->ph b=.left)(hq:QuitsD P (q i) (Deaf t i) g) :
  qSF P N0 c idx Fin km pk ph gs.size q t (runT P (crowd gs w sl) i):=by
 have hi0:(i==0)=false:=by simpa using h0
 cases hqi:q i with
 |zero=>rw[hqi]at hq;rw[hq.1]at hg;cases hg
 | succ n =>
  rw[hqi]at hq;rcases hq with⟨hf,-⟩|⟨-,g',es,hm,hst,hq⟩
  ·rw[hf]at hg;cases hg
  have hrun:=runT_crowd_go (P:=P) (sl:=sl) hi (by rw[hi0];exact hst w);rw[h.stay (fun _ _=>rfl)]at hrun;have:=h.slip hi h0 hl hm hq;have hsum:Go.ConcN.sumTo gs.size (Go.ConcN.upd q i n)+(n+1)=Go.ConcN.sumTo gs.size q+n:=by
   have:=Go.ConcN.sumTo_upd q n id (qCf hi);simpa [hqi]using this
  exact⟨km,pk,ph,mm,_,w,sl,_,_,hrun,this,by simp,.inr ⟨rfl,.inr ⟨rfl,by omega⟩⟩⟩
theorem Inv.moves_main(h:Inv P N0 c idx Fin km false ph mm gs w t q)(hno:¬qOK P N0 Fin km):qSF P N0 c idx Fin km false ph gs.size q t (runT P (crowd gs w sl) 0):=by
 obtain⟨m0,hi,hm⟩:=h.main;rcases hm with⟨-,hs,e1,e2,e3,-⟩|⟨e,-⟩
 case inr=>cases e
 have hlike:=qQm (P:=P) e1 e2 e3;have hscr:=h.scr;cases hscr with
 |step hr go next =>
  obtain⟨g',w',es,e,hr',hG⟩:=go w h.rel;have hrun:=runT_crowd_go (P:=P) (sl:=sl) (i:=0) hi (by rw[show((0:Nat)==0)=true from rfl,hlike];exact e);rw[h.stay (fun b' hb'=>hG.same _ (h.c_lt (.inl hb')) fun hk=>(h.own0 _ hk).2.2 b' (.inl hb') rfl)]at hrun;have:=h.main_go m0.frame.fn m0.frame.place hr' hG (next w g' w' es h.rel e);exact⟨_,false,ph,mm,_,w',sl,_,q,hrun,this,by simp,.inl (.inl ⟨hno,w,g',w',es,h.rel,e,rfl⟩)⟩
 |fin hr hf=>exact absurd hf hno
 | sel z hr hopen hc got shut =>
  have e:=hc w h.rel;have est:stepG P ((0:Nat)==0) m0 w=.comm km.g (qA5 c z km.rem) true .select w #[]:=by rw[show((0:Nat)==0)=true from rfl,hlike];exact e
  by_cases hall:∀b,Go.ways w (gs.setIfInBounds 0 Go.Conc.ph) (qCJ c z km.rem b)=[]
  ·have hrun:=crowd_waits (P:=P) (sl:=sl) (i:=0) hi est (fun cc hcc=>by
    have hmade:=h.made z;rw[Array.any_eq_false]at hmade;obtain⟨j,hj,rfl⟩:=Array.mem_iff_getElem.1 hcc;obtain⟨b,-,eb⟩:=qDD (Array.getElem?_eq_getElem hj);exact⟨by simpa using hmade j hj,by rw[eb];exact hall b⟩)
   have:=h.main_waits hopen hc (fun b hb=>by
    rcases h.ways z b with⟨-,hx⟩|⟨hx,-⟩|⟨hx,-⟩
    ·exact hx hb
    ·rw[hall b]at hx;cases hx
    ·rw[hall b]at hx;cases hx)
   exact⟨km,true,ph,mm,_,w,sl,_,q,hrun,by simpa [ofEvents_eq]using this,by simp,.inr ⟨rfl,.inr ⟨rfl,by simp⟩⟩⟩
  ·generalize hL:((qA5 c z km.rem).zipIdx.toList.map fun(c,k)=>(k,c,Go.ways w (gs.setIfInBounds 0 Go.Conc.ph) c)).filter (fun(_,_,ws)=>!ws.isEmpty)=L;have hL2:=(qRx (w₁:=w) (qCJ c z km.rem false) (qCJ c z km.rem true) (gs.setIfInBounds 0 Go.Conc.ph)).symm.trans hL;have hmem:∀x∈L,∃b,x=(qDz b,qCJ c z km.rem b,Go.ways w (gs.setIfInBounds 0 Go.Conc.ph) (qCJ c z km.rem b))/\Go.ways w (gs.setIfInBounds 0 Go.Conc.ph) (qCJ c z km.rem b)≠[]:=by
    intro x hx;rw[<-hL2,List.mem_append]at hx;rcases hx with hx|hx<;>split at hx
    ·cases hx
    ·rename_i hne;exact⟨false,List.mem_singleton.1 hx,by simpa using hne⟩
    ·cases hx
    ·rename_i hne;exact⟨true,List.mem_singleton.1 hx,by simpa using hne⟩
   have hlen:0<L.length:=by
    apply Classical.byContradiction;intro hz;have hnil:L=[]:=List.length_eq_zero_iff.1 (by omega);rw[hnil,List.append_eq_nil_iff]at hL2;refine hall fun b=>?_;cases b
    ·have:=hL2.1;split at this
     ·rename_i hx;simpa using hx
     ·cases this
    ·have:=hL2.2;split at this
     ·rename_i hx;simpa using hx
     ·cases this
   obtain⟨a,d,ha,hch⟩:=qJm (P:=P) L.length hlen w;have hget:L.getD a (0,default,[])=L[a]:=by simp[ha]
   obtain⟨b,eb,hne⟩:=hmem L[a] (List.getElem_mem ha);have hemp:L.isEmpty=false:=by cases L with|nil=>simp at hlen|cons=>rfl
   have h':=h.drew d;rcases h.ways z b with⟨hx,-⟩|⟨hx,hb,k,y,ys,z',hp⟩|⟨hx,hb,hp⟩
   ·exact absurd hx hne
   ·have hwb:=h.work b;rw[hp]at hwb;obtain⟨w1,w2,w3,w4,w5,w6⟩:=hwb;obtain⟨s,r,hcc⟩:=h'.ch b (.inr hb);rw[hp]at hcc;have hrun:=qLe (P:=P) (sl:=sl) (i:=0) hi est (h.made z) hL hemp hch (hget.trans (eb.trans (by rw[qDR hb]at hx ⊢;rw[hx]))) hcc (h.ix0 b) w5;have hrem:km.rem b=some (y::ys):=by rw[w6,w1]
    have:=h'.meet (gs':=((gs.setIfInBounds (idx b) (k.g.finishComm P #[scase (c b) (goInt y) z'] .send 0 undef false)).setIfInBounds 0 (km.g.finishComm P (qA5 c z km.rem) .select (qDz b:Nat) (goInt y) true))) (k:=k) (b:=b) (by rw[hp];rfl) (by rw[hp];simp) (w4.trans (qDO d)) w3 (got b y ys hrem) hrem (by simp) (qCN (by simpa using h.len) _) (by rw[qAa (h.ix0 b),qCN (h.ixl b (by rw[hp];simp))]) (fun j h0 hj=>by rw[qAa h0,qAa hj]) (s+1) (r+1)
     (u:=#[{ g:=idx b,fn:=k.g.frame.fn,pos:=k.g.frame.place,act:=.send (c b) s },{ g:=0,fn:=km.g.frame.fn,pos:=km.g.frame.place,act:=.recv (c b) r 0 },{ g:=idx b,fn:=k.g.frame.fn,pos:=k.g.frame.place,act:=.sendDone (c b) s },{ g:=0,fn:=km.g.frame.fn,pos:=km.g.frame.place,act:=.recvDone (c b) r }])
     (fun op hop=>by
      simp only[List.mem_toArray,List.mem_cons,List.not_mem_nil,or_false]at hop;rcases hop with rfl|rfl|rfl|rfl<;>rfl)
     (fun g op hop d=>by
      simp only[List.mem_toArray,List.mem_cons,List.not_mem_nil,or_false]at hop;rcases hop with rfl|rfl|rfl|rfl<;>rfl)
     (fun op hop=>by
      have:=h'.c_lt (.inr hb:qCI km.rem ph b);simp only[List.mem_toArray,List.mem_cons,List.not_mem_nil,or_false]at hop;rcases hop with rfl|rfl|rfl|rfl<;>exact this)
    refine⟨_,false,_,mm,_,_,sl,_,q,hrun,by simpa [ofEvents_eq,WPh.shut]using this,by simp,.inl (.inr ⟨z,hc km.w (.refl _ _ _),.inl ⟨b,y,ys,hrem,rfl⟩⟩)⟩
   ·have hrun:=qMh (P:=P) (sl:=sl) (i:=0) hi est (h.made z) hL hemp hch (hget.trans (eb.trans (by rw[qDR hb]at hx ⊢;rw[hx])));have hwb:=h.work b;rw[hp]at hwb;have hrem:km.rem b=some []:=hwb.resolve_right hb;have:=h'.found hp hb (shut b hrem) km.g.frame.fn km.g.frame.place;refine⟨_,false,_,mm,_,_,sl,_,q,hrun,by simpa [ofEvents_eq]using this,by simp,.inl (.inr ⟨z,hc km.w (.refl _ _ _),.inr ⟨b,hrem,rfl⟩⟩)⟩
theorem Inv.moves(h:Inv P N0 c idx Fin km pk ph mm gs w t q)(sl:Option (Nat×Nat)):qSF P N0 c idx Fin km pk ph gs.size q t (stepT P (crowd gs w sl))\/(qOK P N0 Fin km/\∃d sl',stepT P (crowd gs w sl)=runT P (crowd gs (w.at d) sl') 0):=by
 have hone:∃(i:Nat)(g:Goroutine),gs[i]? = some g/\g.status=.running:=by
  obtain⟨m0,hi,hm⟩:=h.main;rcases hm with⟨-,hs,-⟩|⟨-,z,rfl,⟨b,hb⟩,-,hr⟩
  ·exact⟨0,m0,hi,hs⟩
  ·obtain⟨k,hk⟩:=hr b hb;have hw:=h.work b;rw[hk]at hw;exact⟨idx b,k.g,hw.2.2.1,hw.1.running⟩
 obtain⟨i,g,d,sl',hi,hg,hst⟩:=crowd_pick (P:=P) (w:=w) (sl:=sl) h.awake hone;rw[hst];have h':=h.drew d;rcases h'.kinds hi with⟨rfl,hm⟩|⟨b,k,rfl,hp,rfl⟩|⟨b,k,y,ys,z,rfl,hp,rfl⟩|⟨h0,hl,hq⟩
 ·cases pk with
  |false =>
   by_cases hf:qOK P N0 Fin km
   ·exact .inr ⟨hf,d,sl',rfl⟩
   ·exact .inl (h'.moves_main hf)
  |true =>
   rcases hm with⟨e,-⟩|⟨-,z,rfl,-⟩
   ·cases e
   ·cases hg
 ·exact .inl (h'.moves_work hp)
 ·cases hg
 ·exact .inl (h'.moves_slip hi hg h0 hl hq)
theorem Inv.ends(h:Inv P N0 c idx Fin km pk ph mm gs w t q)(hf:qOK P N0 Fin km):gs[0]? = some km.g:=by
 obtain⟨m0,hi,hm⟩:=h.main;have hno:∀z,¬∀w1,Rely N0 km.O km.w w1->stepG P true km.g w1=.comm km.g (qA5 c z km.rem) true .select w1 #[]:=fun z hz=>(hf km.w (.refl _ _ _)).2 _ _ _ _ _ _ (hz km.w (.refl _ _ _));rcases hm with⟨-,-,-,-,-,rfl|⟨z,hz⟩⟩|⟨-,z,-,-,hz,-⟩
 ·exact hi
 ·exact absurd hz (hno z)
 ·exact absurd hz (hno z)
theorem Inv.leavers(h:Inv P N0 c idx Fin km pk ph mm gs w t q)(hn:∀b,km.rem b=none):Leavers P t gs q/\Past (fun _=>False) w.heap.size t:=by
 have hleft:∀b,ph b=.left:=fun b=>by
  have hw:=h.work b;cases hp:ph b with
  |left=>rfl
  |run k=>rw[hp,hn b]at hw;cases hw.2.2.2
  |wait k x xs z=>rw[hp,hn b]at hw;cases hw.2.2.2.2.2
 refine⟨⟨fun i g hi hg=>h.quit i g (by omega) (fun b _=>hleft b) hg,h.above⟩,h.co.toPast (fun g=>⟨fun x=>?_,fun e=>.inl e⟩) fun c' m=>?_⟩
 ·rcases x with x|⟨b,-,hb⟩
  ·exact x
  ·exact absurd (hleft b) hb
 ·rintro⟨b,-,-,-,hb⟩;exact hb (hn b)
def qUU(P:Program)(N0:Nat)(c idx:Bool->Nat)(Fin:qG1)(m:Machine)(t:Trace)(n:Nat):Prop :=
 ∃(N:Nat)(km:MKey)(pk:Bool)(ph:Bool->WPh)(mm:Bool->Nat)(gs:Array Goroutine)(w:World)(sl:Option (Nat×Nat))(t':Trace)(q:Nat->Nat),
  runNT P N m t=(.next (crowd gs w sl),t')/\gs.size=n/\gs[0]? = some km.g/\Inv P N0 c idx Fin km pk ph mm gs w t' q/\qOK P N0 Fin km/\∃d sl',stepT P (crowd gs w sl)=runT P (crowd gs (w.at d) sl') 0
theorem qV9{km:MKey}(hk:Acc (qUS P N0 c Fin) km):∀p0,Acc (WLt P N0 (c false)) p0->∀p1,Acc (WLt P N0 (c true)) p1->∀M (pk:Bool) (ph:Bool->WPh) (mm:Bool->Nat) (gs:Array Goroutine) (w:World) (sl:Option (Nat×Nat)) (t:Trace) (q:Nat->Nat),
  ph false=p0->ph true=p1->(if pk then 0 else 1)+Go.ConcN.sumTo gs.size q<M->Inv P N0 c idx Fin km pk ph mm gs w t q->qUU P N0 c idx Fin (crowd gs w sl) t gs.size:=by
 induction hk with
 | intro km _ ihk =>
  intro p0 h0
  induction h0 with
  | intro p0 _ ih0 =>
   intro p1 h1
   induction h1 with
   | intro p1 h1 ih1 =>
    intro M
    induction M with
    |zero=>intro pk ph mm gs w sl t q _ _ hM;omega
    | succ M ihM =>
     intro pk ph mm gs w sl t q e0 e1 hM h;rcases h.moves sl with hmv|⟨hf,hturn⟩
     case inr=>exact⟨0,km,pk,ph,mm,gs,w,sl,t,q,rfl,rfl,h.ends hf,h,hf,hturn⟩
     ·obtain⟨km',pk',ph',mm',gs',w',sl',ops,q',hst,h',hsz,hless⟩:=hmv
      suffices hgoal:qUU P N0 c idx Fin (crowd gs' w' sl') (t++ops) gs'.size by
       obtain⟨N,a1,a2,a3,a4,a5,a6,a7,a8,a9,hr,hs2,hrest⟩:=hgoal;exact⟨N+1,a1,a2,a3,a4,a5,a6,a7,a8,a9,by simp only[runNT,hst];exact hr,hs2.trans hsz,hrest⟩
      rcases hless with hl|⟨rfl,⟨b,hl,hoth⟩|⟨rfl,hl⟩⟩
      ·exact ihk km' hl _ (h'.acc false) _ (h'.acc true) _ pk' ph' mm' gs' w' sl' _ q' rfl rfl (Nat.lt_succ_self _) h'
      ·cases b with
       |false =>
        exact ih0 _ (e0▸hl) _ (h'.acc true) _ pk' ph' mm' gs' w' sl' _ q' rfl rfl (Nat.lt_succ_self _) h'
       |true =>
        exact ih1 _ (e1▸hl) _ pk' ph' mm' gs' w' sl' _ q' (by rw[hoth false (by simp)];exact e0) rfl (Nat.lt_succ_self _) h'
      ·exact ihM pk' ph' mm' gs' w' sl' _ q' e0 e1 (by rw[hsz];omega) h'
theorem Inv.runs(h:Inv P N0 c idx Fin km pk ph mm gs w t q)(sl:Option (Nat×Nat)):qUU P N0 c idx Fin (crowd gs w sl) t gs.size :=
 qV9 h.scr.acc _ (h.acc false) _ (h.acc true) _ pk ph mm gs w sl t q rfl rfl (Nat.lt_succ_self _) h
end
section
variable{P:Program}{N0:Nat}{c idx:Bool->Nat}{Fin Fin':qG1}{km:MKey}{pk:Bool}{ph:Bool->WPh}{mm:Bool->Nat}{gs:Array Goroutine}{w:World}{sl:Option (Nat×Nat)}{t:Trace}{q:Nat->Nat}
theorem Inv.base(hL:Leavers P t gs q)(hP:Past (fun _=>False) w.heap.size t){g:Goroutine}(h0:gs[0]? = some g){O:Nat->Prop}(hO:∀r,O r->N0<=r/\r<w.heap.size)(hN:N0<=w.heap.size)(hM:MScr P N0 c Fin (fun _=>none) O g w)
  (hc:c false≠c true) (hi0:∀b,idx b≠0) (hin:idx false≠idx true) (mm:Bool->Nat):Inv P N0 c idx Fin ⟨fun _=>none,O,g,w⟩ false (fun _=>.left) mm gs w t q:=by
 have hno:∀b,¬qCI (fun _=>none) (fun _=>WPh.left) b:=fun b h=>h.elim (fun x=>x rfl) fun x=>x rfl;refine{ scr:=hM,rel:=.refl _ _ _,main:=⟨g,h0,.inl ⟨rfl,hM.running,rfl,rfl,rfl,.inl rfl⟩⟩,work:=fun b=>.inr rfl,quit:=fun i x hi _ hx=>hL.old i x (by omega) hx,above:=hL.above,ix0:=hi0,ixn:=hin,ixl:=fun b hb=>absurd rfl hb,ch:=fun b hb=>absurd hb (hno b),cn:=hc,N0_le:=hN,cN:=fun b hb=>absurd hb (hno b),own0:=fun r hr=>⟨(hO r hr).1,(hO r hr).2,fun b hb=>absurd hb (hno b)⟩,ownW:=fun b r hr=>hr.elim,ownD:=fun r hr=>hr.elim,co:=?_ };have:=Co.ofPast (N0:=N0) hP (qEJ c idx O (fun _=>.left));have e1:qFj idx (fun _=>WPh.left)=fun g=>g=0:=by
  funext g;apply propext;unfold qFj;exact⟨fun x=>x.elim id fun⟨b,_,hb⟩=>absurd rfl hb,.inl⟩
 have e2:qC1 c (fun _=>none) (fun _=>WPh.left) mm=fun _ _=>False:=by
  funext c' m;apply propext;unfold qC1;exact⟨fun⟨b,_,_,_,hb⟩=>hb rfl,False.elim⟩
 rw[e1,e2];exact this
theorem Inv.hire(h:Inv P N0 c idx Fin km pk ph mm gs w t q){b:Bool}(hpb:ph b=.left)(hrb:km.rem b=none)(hib:idx b=gs.size){g' child:Goroutine}{xs:List Int}{O' Ob:Nat->Prop}
  (hO':∀r,O' r->km.O r) (hOb:∀r,Ob r->km.O r) (hdis:∀r,O' r->¬Ob r) (hcb:km.O (c b)) (hcO:¬O' (c b)) (hcOb:¬Ob (c b)) (hch:∃s r,w.heap[c b]? = some (.chan 0 #[] false s r false))
  (hS:WScr P N0 (c b) xs Ob child w) (hM:MScr P N0 c Fin' (upB km.rem b (some xs)) O' g' w) (fh:FuncId) (pos:String) (fc:FuncId) :
  Inv P N0 c idx Fin' ⟨upB km.rem b (some xs),O',g',w⟩ false (upB ph b (.run ⟨xs,Ob,child,w⟩)) mm ((gs.setIfInBounds 0 g').push child) w (t++#[{ g:=0,fn:=fh,pos:=pos,act:=.go gs.size },{ g:=gs.size,fn:=fc,pos:=pos,act:=.start }]) q:=by
 have hlen:=h.len;have hql:∀x op,op∈(#[{ g:=0,fn:=fh,pos:=pos,act:=.go gs.size },{ g:=gs.size,fn:=fc,pos:=pos,act:=.start }]:Trace)->∀d,deafStep x d op=d:=fun x op hop d=>by
  simp only[List.mem_toArray,List.mem_cons,List.not_mem_nil,or_false]at hop;rcases hop with rfl|rfl<;>rfl
 have hD:∀x,Deaf (t++#[{ g:=0,fn:=fh,pos:=pos,act:=.go gs.size },{ g:=gs.size,fn:=fc,pos:=pos,act:=.start }]) x=Deaf t x:=fun x=>Deaf_quiet (hql x);have hget:∀j,j≠0->j≠gs.size->((gs.setIfInBounds 0 g').push child)[j]? = gs[j]?:=fun j h0 hj=>by
  rw[Array.getElem?_push,if_neg (by simpa using hj),qAa h0]
 have hne:∀b',ph b'≠.left->b'≠b:=fun b' hb e=>hb (e▸hpb);have hact:∀b',b'≠b->(qCI (upB km.rem b (some xs)) (upB ph b (.run ⟨xs,Ob,child,w⟩)) b'↔qCI km.rem ph b'):=fun b' e=>by
  unfold qCI;rw[qAf ph e,qAf km.rem e]
 refine{ scr:=hM,rel:=.refl _ _ _,main:=⟨g',?_,.inl ⟨rfl,hM.running,rfl,rfl,rfl,.inl rfl⟩⟩,work:=fun b'=>?_,quit:=fun j y hj hjl hy=>?_,above:=fun j hj=>?_,ix0:=h.ix0,ixn:=h.ixn,ixl:=fun b' hb'=>?_,ch:=fun b' hb'=>?_,cn:=h.cn,N0_le:=h.N0_le,cN:=fun b' hb'=>?_,own0:=fun r hr=>⟨(h.own0 r (hO' r hr)).1,(h.own0 r (hO' r hr)).2.1,fun b' hb'=>?_⟩,ownW:=fun b' r hr=>?_,ownD:=fun r hr=>?_,co:=?_ }
 ·rw[Array.getElem?_push,if_neg (by simp;omega),qCN hlen]
 ·show WOk P N0 (c b') (idx b') (upB km.rem b (some xs) b') _ w (upB ph b (.run ⟨xs,Ob,child,w⟩) b');by_cases e:b'=b
  ·subst e;rw[qAn,qAn];exact⟨hS,.refl _ _ _,by rw[hib,Array.getElem?_push,if_pos (by simp)],rfl⟩
  ·rw[qAf ph e,qAf km.rem e];refine(h.work b').carry (.refl _ _ _) fun hl=>hget _ (h.ix0 b') ?_;have:=h.ixl b' hl;omega
 ·have hjn:j≠gs.size:=fun e=>by
   have:=hjl b (by rw[hib,e]);rw[qAn]at this;cases this
  rw[hget j hj hjn]at hy;rw[hD];refine h.quit j y hj (fun b' e=>?_) hy;by_cases eb:b'=b
  ·rw[eb];exact hpb
  ·have:=hjl b' e;rw[qAf ph eb]at this;exact this
 ·rw[hD];exact h.above j (by simp only[Array.size_push,Array.size_setIfInBounds]at hj;omega)
 ·by_cases e:b'=b
  ·subst e;rw[hib];simp
  ·rw[qAf ph e]at hb';have:=h.ixl b' hb';simp;omega
 ·by_cases e:b'=b
  ·subst e;rw[qAn];exact hch
  ·rw[qAf ph e];exact h.ch b' ((hact b' e).1 hb')
 ·by_cases e:b'=b
  ·subst e;exact(h.own0 _ hcb).1
  ·exact h.cN b' ((hact b' e).1 hb')
 ·by_cases e:b'=b
  ·subst e;intro e;exact hcO (e▸hr)
  ·exact(h.own0 r (hO' r hr)).2.2 b' ((hact b' e).1 hb')
 ·by_cases e:b'=b
  ·subst e;rw[qAn]at hr;refine⟨(h.own0 r (hOb r hr)).1,(h.own0 r (hOb r hr)).2.1,fun b2 hb2=>?_,fun q=>hdis r q hr⟩;by_cases e2:b2=b'
   ·subst e2;intro e;exact hcOb (e▸hr)
   ·exact(h.own0 r (hOb r hr)).2.2 b2 ((hact b2 e2).1 hb2)
  ·rw[qAf ph e]at hr;obtain⟨a1,a2,a3,a4⟩:=h.ownW b' r hr;refine⟨a1,a2,fun b2 hb2=>?_,fun q=>a4 (hO' r q)⟩;by_cases e2:b2=b
   ·subst e2;intro e;exact a4 (e▸hcb)
   ·exact a3 b2 ((hact b2 e2).1 hb2)
 ·intro hr2;have key:∀b',b'≠b->(ph b').O r->Ob r->False:=fun b' _ h1 h2=>(h.ownW b' r h1).2.2.2 (hOb r h2);cases b with
  |false =>
   rw[qAn]at hr;rw[qAf ph (by simp)]at hr2;exact key true (by simp) hr2 hr
  |true =>
   rw[qAn]at hr2;rw[qAf ph (by simp)]at hr;exact key false (by simp) hr hr2
 ·have h1:=h.co.hire (c:=gs.size) (own':=qEJ c idx O' (upB ph b (.run ⟨xs,Ob,child,w⟩))) (.inl rfl) (h.above _ (Nat.le_refl _)) fh pos fc (fun r hr=>by
    rcases hr with⟨e,-⟩|⟨b',e,hl,hr⟩
    ·omega
    ·have eb:b'=b:=h.idx_inj (by rw[<-e,hib]);subst eb;rw[qAn]at hr;exact .inl ⟨rfl,hr.elim (hOb r) fun e=>e▸hcb⟩) (fun g r hg hr=>by
    rcases hr with⟨e,hr⟩|⟨b',e,hl,hr⟩
    ·exact .inl ⟨e,hO' r hr⟩
    ·have eb:b'≠b:=fun eb=>hg (by rw[e,eb,hib]);rw[qAf ph eb]at hl hr;exact .inr ⟨b',e,hl,hr⟩)
  have e1:(fun g=>qFj idx ph g\/g=gs.size)=qFj idx (upB ph b (.run ⟨xs,Ob,child,w⟩)):=by
   funext g;apply propext;unfold qFj;constructor
   ·rintro((x|⟨b',e,hb'⟩)|e)
    ·exact .inl x
    ·exact .inr ⟨b',e,by rw[qAf ph (hne b' hb')];exact hb'⟩
    ·exact .inr ⟨b,by rw[hib,e],by rw[qAn];simp⟩
   ·rintro(x|⟨b',e,hb'⟩)
    ·exact .inl (.inl x)
    ·by_cases eb:b'=b
     ·subst eb;exact .inr (by rw[e,hib])
     ·rw[qAf ph eb]at hb';exact .inl (.inr ⟨b',e,hb'⟩)
  have e2:qC1 c km.rem ph mm=qC1 c (upB km.rem b (some xs)) (upB ph b (.run ⟨xs,Ob,child,w⟩)) mm:=by
   funext c' m;apply propext;unfold qC1;constructor
   ·rintro⟨b',i1,i2,i3,i4⟩;have eb:b'≠b:=fun e=>i4 (e▸hrb);exact⟨b',i1,i2,by rw[qAf ph eb];exact i3,by rw[qAf km.rem eb];exact i4⟩
   ·rintro⟨b',i1,i2,i3,i4⟩;have eb:b'≠b:=fun e=>by subst e;rw[qAn]at i3;cases i3
    rw[qAf ph eb]at i3;rw[qAf km.rem eb]at i4;exact⟨b',i1,i2,i3,i4⟩
  rw[e1,e2]at h1;exact h1
end
