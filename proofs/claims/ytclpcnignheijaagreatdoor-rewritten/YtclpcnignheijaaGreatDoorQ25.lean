/-
  Parts of the proof: J7, J8.
-/
import Derived.Test.YtclpcnignheijaaGreatDoorQ23
import Derived.Test.YtclpcnignheijaaGreatDoorQ13
set_option maxHeartbeats 4000000
set_option maxRecDepth 100000
namespace Go.Proofs.YtclpcnignheijaaGreatDoor.Num
open Go.RowKit Go.Proofs.Tryz
structure Old(u0 w:World):Prop where
 size:u0.heap.size<=w.heap.size
 block:∀k,k<u0.heap.size->w.heap[k]? = u0.heap[k]?
theorem Old.refl(w:World):Old w w:=⟨Nat.le_refl _,fun _ _=>rfl⟩
theorem Old.cells{u0 w:World}(h:Old u0 w):qCu u0 w:=fun a v e=>by
 have hlt:=qMZ e;have:=h.block a.block hlt;rw[World.cell?_of_block this];exact e
theorem Old.below{B:Nat}{u0 w w':World}(h:Old u0 w)(k:Below B w w')(hB:u0.heap.size<=B):Old u0 w':=⟨Nat.le_trans h.size k.size,fun i hi=>(k.block i (by omega)).trans (h.block i hi)⟩
theorem Old.trans{a b c:World}(h:Old a b)(k:Old b c):Old a c:=⟨Nat.le_trans h.size k.size,fun i hi=>(k.block i (Nat.lt_of_lt_of_le hi h.size)).trans (h.block i hi)⟩
theorem Old.alloc{a b:World}(h:Old a b)(o:Obj):Old a (b.alloc o):=⟨by simp;exact Nat.le_succ_of_le h.size,fun i hi=>by rw[Below.heap_alloc _ _ _ (Nat.lt_of_lt_of_le hi h.size)];exact h.block i hi⟩
theorem Old.setCell{a b:World}(h:Old a b){p:Addr}(hp:a.heap.size<=p.block)(v:Value):Old a (b.setCell p v):=⟨by simp[World.setCell];exact h.size,fun i hi=>by rw[Below.heap_setCell _ _ _ _ (by omega)];exact h.block i hi⟩
theorem Old.grown{a b c:World}{row:Option Nat}(h:Old a b)(hg:b.grownBy c row)(hr:∀k,row=some k->a.heap.size<=k):Old a c:=⟨Nat.le_trans h.size hg.size,fun i hi=>(hg.block i (Nat.lt_of_lt_of_le hi h.size) fun e=>by have:=hr i e.symm;omega).trans (h.block i hi)⟩
def qKf(N:Nat)(f:Nat->Nat):Array Value:=((List.range N).map fun m=>Value.int .u8 (f m:Int)).toArray
def qNl:Array Value:=#[.func (.func 150) #[] #[],.func (.func 151) #[] #[],.func (.func 152) #[] #[],.func (.func 153) #[] #[],.func (.func 154) #[] #[],.func (.func 155) #[] #[],.func (.func 156) #[] #[],.func (.func 157) #[] #[],.func (.func 158) #[] #[],.func (.func 159) #[] #[],.func (.func 160) #[] #[]]
structure Fin(u0:World)(tb N:Nat)(lv:Value)(fb:Nat)(rows:List Nat)(M:Nat->Nat->Nat)(w:World):Prop where
 old:Old u0 w
 ge:u0.heap.size<=fb
 mem:∃(qb:Nat)(kv:Value),
  w.heap[fb]? = some (.cells #[.pointer (some ⟨tb,0,none⟩),lv,.slice (some ⟨qb,0,none⟩) 11 11,kv] 220 (0,0))/\w.heap[qb]? = some (.cells qNl 331 (0,0)) /\
  w.ownsRow u0.heap.size 310 1 kv rows.length (rows.map fun r=>Value.slice (some ⟨r,0,none⟩) N N)/\rows.Nodup /\
  (∀k r,rows[k]? = some r->u0.heap.size<=r/\w.heap[r]? = some (.cells (qKf N (M k)) 309 (0,0)))/\(∀k m,rows.length<=k->M k m=0)
theorem qMk(w:World) :
  Calls prog 124 #[] w fun e w'=>e=.returned (.slice (some ⟨w.heap.size,0,none⟩) 11 11)/\w'=w.alloc (.cells qNl 331):=by
 go_enter func124,ntmps124
 go_wp2
 go_ret
 exact⟨rfl,rfl⟩
theorem qH5(tb N:Nat)(lv:Value)(w:World)(hl:∃la ln lc,lv=.slice la ln lc) :
  Calls prog 89 #[.pointer (some ⟨tb,0,none⟩),lv] w fun e w'=>∃fb,e=.returned (.pointer (some ⟨fb,0,none⟩))/\Fin w tb N lv fb [] (fun _ _=>0) w':=by
 obtain⟨la,ln,lc,rfl⟩:=hl;go_enter func89,ntmps89
 go_wp2_with (go_at_call 124;refine(qMk _).mono ?_;rintro e w1 ⟨rfl,rfl⟩)
 go_ret
 refine⟨_,rfl,((Old.refl w).alloc _).alloc _,by simp,w.heap.size,.slice none 0 0,?_,?_,World.ownsRow_nil _ _ _ _,by simp,by simp,by simp⟩
 ·exact qAm _ (by simp)
 ·exact qAG (qAE _ _) _
theorem Tryz.infoVs:(prog.info? 310).map (fun i=>(i.zero,i.size,i.bytes))=some (some (.slice none 0 0),1,24):=by kernel_rfl
theorem Tryz.infoV:(prog.info? 309).map (fun i=>(i.zero,i.size,i.bytes))=some (some (.int .u8 0),1,1):=by kernel_rfl
theorem qQs(N:Nat):madeCells (Value.int .u8 0).cells (N*1)=qKf N (fun _=>0):=by
 apply Array.ext
 ·simp[madeCells,qKf]
 ·intro i h1 h2;simp[madeCells,qKf,Value.cells,Nat.mod_one]
theorem qS2(N:Nat)(hN:N<=5000)(w:World):(Instr.makeSlice 310 (.int .i64 (N:Int)) (.int .i64 (N:Int))).run prog w=.ok (.slice (some ⟨w.heap.size,0,none⟩) N N) (w.alloc (.cells (qKf N (fun _=>0)) 309)):=by
 obtain⟨i0,hi,hz0,hz1,hz2⟩:=info_parts Tryz.infoV;have:=run_make (w:=w) 310 309 i0 (.int .u8 0) underlying310 hi hz0 .i64 .i64 (N:Int) (N:Int) (by omega) (by omega) (by rw[hz2];omega) (by omega);rw[this,hz1,Int.toNat_natCast,qQs]
theorem qXJ:(220:TypeId)≠310:=by decide
def qQk(w:World)(fb:Nat):Nat:=match w.cell? ⟨fb,3,none⟩with|some (.slice _ n _)=>n|_=>0
theorem qV7{w:World}{B:Nat}{e:TypeId}{v:Value}{n:Nat}{xs:List Value}(h:w.ownsRow B e 1 v n xs){k:Nat}{x:Value}(hx:xs[k]? = some x):∃g cap,v=.slice (some ⟨g,0,none⟩) n cap/\w.cell? ⟨g,k,none⟩=some x:=by
 obtain⟨hl,⟨-,rfl⟩|⟨g,cap,cur,rfl,-,hg,-,-,-,ht⟩⟩:=h
 ·have:xs=[]:=List.length_eq_zero_iff.1 (by simpa using hl);rw[this]at hx;simp at hx
 ·refine⟨g,cap,rfl,?_⟩;rw[<-ht]at hx;have h2:cur.toList[k]? = some x:=by
   rw[List.getElem?_take]at hx;split at hx
   ·exact hx
   ·cases hx
  unfold World.cell?;dsimp only;rw[hg];simpa using h2
theorem qGb{N:Nat}{f g:Nat->Nat}(h:∀m,f m=g m):qKf N f=qKf N g:=by rw[show f=g from funext h]
theorem Fin.push{u0 wr w5:World}{tb N fb qb g cap:Nat}{lv kv:Value}{M:Nat->Nat->Nat}{rows:List Nat}(hold:Old u0 wr)(hge:u0.heap.size<=fb)
  (m1:wr.heap[fb]? = some (.cells #[.pointer (some ⟨tb,0,none⟩),lv,.slice (some ⟨qb,0,none⟩) 11 11,kv] 220 (0,0))) (m2:wr.heap[qb]? = some (.cells qNl 331 (0,0)))
  (m3:wr.ownsRow u0.heap.size 310 1 kv rows.length (rows.map fun r=>Value.slice (some ⟨r,0,none⟩) N N)) (m4:rows.Nodup)
  (m5:∀k r,rows[k]? = some r->u0.heap.size<=r/\wr.heap[r]? = some (.cells (qKf N (M k)) 309 (0,0))) (m6:∀k m,rows.length<=k->M k m=0)
  (own5:w5.ownsRow u0.heap.size 310 1 (.slice (some ⟨g,0,none⟩) (rows.length+1) cap) (rows.length+1) ((rows.map fun r=>Value.slice (some ⟨r,0,none⟩) N N)++[.slice (some ⟨wr.heap.size,0,none⟩) N N]))
  (hg:((wr.alloc (.cells (qKf N fun _=>0) 309)).alloc (.cells #[.slice (some ⟨wr.heap.size,0,none⟩) N N] 310)).grownBy w5 kv.ownBlock) :
  Fin u0 tb N lv fb (rows++[wr.heap.size]) M (w5.setCell ⟨fb,3,none⟩ (.slice (some ⟨g,0,none⟩) (rows.length+1) cap)):=by
 have ho:=(m3.alloc (.cells (qKf N fun _=>0) 309)).alloc (.cells #[.slice (some ⟨wr.heap.size,0,none⟩) N N] 310);have kk:∀{c:Array Value}{ty:TypeId}{i:Nat},wr.heap[i]? = some (.cells c ty (0,0))->ty≠310->w5.heap[i]? = some (.cells c ty (0,0)):=fun hb ht=>qA1 ho hg (qAG (qAG hb _) _) ht;have e1:=kk m1 (by decide);have kps:=Kp.setAny (p:=⟨fb,3,none⟩) e1 (.slice (some ⟨g,0,none⟩) (rows.length+1) cap);have kz:∀{c:Array Value}{ty:TypeId}{i:Nat},wr.heap[i]? = some (.cells c ty (0,0))->ty≠310->ty≠220->(w5.setCell ⟨fb,3,none⟩ (.slice (some ⟨g,0,none⟩) (rows.length+1) cap)).heap[i]? = some (.cells c ty (0,0)):=fun hb h1 h2=>kps.at (kk hb h1) (by simpa using h2);refine⟨?_,hge,qb,.slice (some ⟨g,0,none⟩) (rows.length+1) cap,qAZ (o:=3) e1 _,kz m2 (by decide) (by decide),?_,?_,?_,?_⟩
 ·refine(((hold.alloc _).alloc _).grown hg fun k e=>?_).setCell hge _;exact(m3.lt k e).1
 ·rw[List.map_append,List.length_append];exact kps.owns own5 (by decide)
 ·rw[List.nodup_append];refine⟨m4,by simp,fun a ha b hb=>?_⟩;obtain⟨i,hi⟩:=List.getElem?_of_mem ha;have:=lt_of_block (m5 i a hi).2;simp at hb;omega
 ·intro k r hr;rcases Nat.lt_trichotomy k rows.length with h|h|h
  ·rw[List.getElem?_append_left h]at hr;exact⟨(m5 k r hr).1,kz (m5 k r hr).2 (by decide) (by decide)⟩
  ·subst h;simp at hr;subst hr;refine⟨hold.size,?_⟩;rw[qGb (g:=fun _=>0) fun m=>m6 _ m (Nat.le_refl _)];exact kps.at (qA1 ho hg (qAG (qAE wr _) _) (by decide)) (by decide)
  ·rw[List.getElem?_eq_none (by simp;omega)]at hr;cases hr
 ·intro k m hk;exact m6 k m (by simp at hk;omega)
theorem qWD(u0:World)(tb N:Nat)(lv:Value)(fb:Nat)(rows0:List Nat)(M:Nat->Nat->Nat)(w:World)(b:BS)(h:Fin u0 tb N lv fb rows0 M w)(ht:TrC u0 tb b)(hN:b.els.length=N)(hs:N<=5000)(k:Nat)(hk:k<=3000) :
  Calls prog 211 #[.pointer (some ⟨fb,0,none⟩),.int .i64 (k:Int)] w fun e w'=>∃r rows',e=.returned (.slice (some ⟨r,0,none⟩) N N)/\Fin u0 tb N lv fb rows' M w'/\rows0 <+: rows'/\rows'[k]? = some r:=by
 obtain⟨i0,hi,hz0,hz1,hz2⟩:=info_parts Tryz.infoVs;obtain⟨-,ve,av,tc0,⟨ao,cp,rfl,-⟩,-⟩:=ht;go_enter func211,ntmps211
 go_wp2
 go_loopw [5] (fun _ wr=>∃rows,Fin u0 tb N lv fb rows M wr/\rows0 <+: rows) (fun _ wr=>k+1-qQk wr fb)
 case atStart=>exact⟨rows0,h,List.prefix_refl _⟩
 case round =>
  obtain⟨rows,⟨hold,hge,qb,kv,m1,m2,m3,m4,m5,m6⟩,hpre⟩:=hrel;obtain⟨ka,kc,rfl⟩:=qC3 m3;obtain⟨⟨c0,c1,c2,c3⟩,f0,f1,f2,f3⟩:=qAk m1;have tc:=hold.cells _ _ tc0;have hlen:qQk wr fb=rows.length:=by unfold qQk;rw[c3]
  by_cases hle:rows.length<=k
  ·have hle':(rows.length:Int)<=(k:Int):=by omega
   have hrs:rows.length<=3000:=by omega
   obtain⟨⟨-,-,-,ca3⟩,-,-,-,fa3⟩:=qAk (qAG m1 (.cells (qKf N fun _=>0) 309));obtain⟨⟨-,-,-,cb3⟩,-,-,-,fb3⟩:=qAk (qAG (qAG m1 (.cells (qKf N fun _=>0) 309)) (.cells #[.slice (some ⟨wr.heap.size,0,none⟩) N N] 310));have M1:=qAF m1;have M2:=qAF m2;have M4:=qAF m4;have M5:=qAF m5;have M6:=qAF m6;clear m1 m2 m4 m5 m6;have hmk:=qS2 N hs;have hsz:=hold.size;go_wp2
   go_region_law (refine step_append_lies _ rfl (.tmp 16) (.tmp 26) 218 rfl u0.heap.size 310 i0 (.slice none 0 0) 1 24 underlying218 hi hz0 hz1 hz2 ?_ ?_ (.slice ka rows.length kc) rows.length (rows.map fun r=>Value.slice (some ⟨r,0,none⟩) N N) ?_ ?_ ⟨wr.heap.size+1,0,none⟩ 1 1 [.slice (some ⟨wr.heap.size,0,none⟩) N N] ?_ ?_ ?_ ?_ ?_ ?_ ?_ ?_ (wr.heap.size+2) ?_ ?_;(rfl);(decide);(simp[Act.eval]);(exact(m3.alloc _).alloc _);(simp[Act.eval]);(rfl);(exact qCL #[.slice (some ⟨wr.heap.size,0,none⟩) N N] 310 (by simp));(intro u hu;simp at hu;subst hu;rfl);(decide);(unfold maxLen;omega);(omega);(simp;omega);(simp);intro g cap w5 own5 hgrow5' hat5 hlt5;have hgrow5:=qRy hgrow5';clear hgrow5';have e1:=qA1 ((m3.alloc _).alloc _) hgrow5 (qAG (qAG M1.out _) _) qXJ;obtain⟨⟨d0,d1,d2,d3⟩,_,_,_,g3⟩:=qAk e1)
   all_goals
    have FF:=Fin.push hold hge M1.out M2.out m3 M4.out M5.out M6.out own5 hgrow5;have hl2:qQk (w5.setCell ⟨fb,3,none⟩ (.slice (some ⟨g,0,none⟩) (rows.length+1) cap)) fb=rows.length+1:=by
     unfold qQk;rw[(qAk (qAZ (o:=3) e1 (.slice (some ⟨g,0,none⟩) (rows.length+1) cap))).1.2.2.2]
    go_wp2
    go_roundw
    case rel=>exact⟨_,FF,hpre.trans (List.prefix_append _ _)⟩
    case measure=>rw[hl2,hlen];omega
  ·have hle':¬(rows.length:Int)<=(k:Int):=by omega
   obtain⟨r,hr⟩:∃r,rows[k]? = some r:=⟨rows[k]'(by omega),List.getElem?_eq_getElem (by omega)⟩;have hx:(rows.map fun r=>Value.slice (some ⟨r,0,none⟩) N N)[k]? = some (Value.slice (some ⟨r,0,none⟩) N N):=by rw[List.getElem?_map,hr];rfl
   obtain⟨g,cap,e1,e2⟩:=qV7 m3 hx;injection e1 with e1 _ e3;subst e1;subst e3;have hlt:(k:Int)<(rows.length:Int):=by omega
   have F:Fin u0 tb N lv fb rows M wr:=⟨hold,hge,qb,_,m1,m2,m3,m4,m5,m6⟩;have R:=qAF hr;clear m1 m2 m3 m4 m5 m6 hx hr;go_wp2
   go_ret
   exact⟨r,rfl,rows,F,hpre,R.out⟩
