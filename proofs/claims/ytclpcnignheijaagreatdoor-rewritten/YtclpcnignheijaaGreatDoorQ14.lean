/-
  Parts of the proof: KV1, KV2, KV3, KV4, KV5.
-/
import Derived.Test.YtclpcnignheijaaGreatDoorKU4
set_option maxHeartbeats 4000000
set_option maxRecDepth 100000
namespace Go.Proofs.YtclpcnignheijaaGreatDoor.Num
open Go.RowKit Go.Proofs.YtclpcnignheijaaGreatDoor
theorem compound_star (A : List Cpx) (B xb rb : Nat) (s : ByteArray) (n p a b c : Nat) (w : World) (IH : ListOk B xb rb s n) (h : Sx A w xb rb s p a b c) (hB : B ≤ rb) (hBx : B ≤ xb) (hA : A.length ≤ p) (ha : a ≤ p) (hb : b ≤ p + 1) (hbc : b ≤ c) (hn : s.size ≤ p + n) (h42 : peekI s p = 42) :
  Calls Tryz.prog 173 #[.pointer (some ⟨xb,0,none⟩)] w (CompPost A B xb rb s n p a b c w):=by
 have h5:=h.1.max; have h6:=h.1.le
 have h0:=(h.alloc (.cells #[.string ⟨#[]⟩,.slice none 0 0] 254)).alloc (.cells #[.string ⟨#[]⟩,.slice none 0 0] 254)
 have rs0:=alloc_old (alloc_at w (.cells #[.string ⟨#[]⟩,.slice none 0 0] 254)) (.cells #[.string ⟨#[]⟩,.slice none 0 0] 254)
 have ns0:=alloc_at' (w:=w.alloc (.cells #[.string ⟨#[]⟩,.slice none 0 0] 254)) (n:=w.heap.size+1) (.cells #[.string ⟨#[]⟩,.slice none 0 0] 254) (by simp)
 have hk0:=((Kp.refl B TS w).alloc (.cells #[.string ⟨#[]⟩,.slice none 0 0] 254)).alloc (.cells #[.string ⟨#[]⟩,.slice none 0 0] 254)
 have c0:=h0.c0
 obtain ⟨i0,hi,hz0,hz1,hz2⟩:=info_parts Tryz.infoSim
 have H0:Hid (headP s p=(p+1,some (bytesOf [42]))):=by unfold headP; rw [if_pos h42]; rfl
 have hlt:=peek_in h42 (by decide)
 have H42:=hide h42
 clear h42
 unfold CompPost
 go_enter Tryz.func173,Tryz.ntmps173
 go_wp2_with fail
 refine (take_yes B rb s p _ _ h0.1 hB (by decide) H42.out).mono ?_
 rintro e w1 ⟨rfl,hr1,hk1⟩
 have h1:=h0.step hr1 hk1
 have rs1:=hk1.at (k:=w.heap.size) rs0 (by decide)
 have ns1:=hk1.at (k:=w.heap.size+1) ns0 (by decide)
 have hkA:=hk0.trans hk1.ts
 have q0:=cell2_0 ns1; have f0:=free_of (o:=0) ns1
 clear h0 rs0 ns0 hk0 c0
 go_wp2_with fail
 clear q0 f0
 have kpo:=Kp.setAny (p:=⟨w.heap.size+1,0,none⟩) ns1 (.string (bytesOf [42]))
 have hs:=h1.kept kpo (by decide) (by decide)
 have rsS:=setCell_other (a:=⟨w.heap.size+1,0,none⟩) rs1 (by simp) (.string (bytesOf [42]))
 have nsS:(w1.setCell ⟨w.heap.size+1,0,none⟩ (.string (bytesOf [42]))).heap[w.heap.size+1]? = some (.cells #[.string (bytesOf [42]),.slice none 0 0] 254 (0,0)):=set_blk (o:=0) ns1 _
 have hkS:=hkA.setNew (p:=⟨w.heap.size+1,0,none⟩) (by simp) (.string (bytesOf [42]))
 go_loopw [35] (fun _ wr=>∃ (A1:List Cpx) (q f cn d:Nat) (l:List Sim) (sv:Value) (xs:List Value),Sx A1 wr xb rb s q (a+cn) b (max c (b+d))∧(p≤q∧s.size < q+f∧a+cn≤q∧l.length≤q∧A <+: A1∧A1.length≤q∧(A1=A∨A1.length < q))∧wr.heap[w.heap.size]? = some (.cells #[.string ⟨#[]⟩,.slice none 0 0] 254 (0,0))∧wr.heap[w.heap.size+1]? = some (.cells #[.string (bytesOf [42]),sv] 254 (0,0))∧wr.ownsRow w.heap.size 263 11 sv l.length xs∧Row (repS (RepL A1 (fun k=>w.heap.size≤k∧sv.ownBlock≠some k) wr n)) l xs∧Hid (simplesP (listP s n) s f l cn d q=simplesP (listP s n) s (s.size+1) [] 0 0 (p+1))∧Kp B TS w wr) (fun _ wr=>s.size - placeOf wr rb)
 case atStart =>
  refine ⟨A,(p+1),s.size+1,0,0,[],.slice none 0 0,[],?_,⟨by omega,by omega,by omega,Nat.zero_le _,List.prefix_refl A,by omega,.inl rfl⟩,rsS,nsS,World.ownsRow_nil _ _ _ _,rfl,rfl,hkS⟩
  rw [show a+0=a from rfl,show max c (b+0)=c from by omega]
  exact hs
 case round =>
  obtain ⟨A1,q,f,cn,d,l,sv,xs,hx,⟨hpq,hf,hcq,hlq,hA1,hAq,hAlt⟩,rs,ns,own,hrow,HQ,hk⟩:=hrel
  clear hs rsS nsS hkS
  obtain ⟨la,lc,rfl⟩:=own_slice own
  obtain ⟨f,rfl⟩:∃ f',f=f'+1:=⟨f - 1,by have:=hx.1.le; omega⟩
  cases hat:atB (peekI s q)
  ·have HE:Hid (compoundP (listP s n) s p=(q,some (((bytesOf [42]),l),cn,d))):=by
    rw [comp_done H0.out (HQ.out.symm.trans (simples_stop hat))]; rfl
   have HAt:=hide hat
   clear hat
   have q0:=cell2_0 ns; have q1:=cell2_1 ns
   have r0:=cell2_0 rs; have r1:=cell2_1 rs; have f0:=free_of (o:=0) rs; have f1:=free_of (o:=1) rs
   go_wp2_with (go_at_call 209; refine (atSimple_is xb rb s q (a+cn) b (max c (b+d)) _ false hx.old HAt.out).mono ?_; rintro e w2 ⟨rfl,nq,rfl⟩)
   obtain ⟨rsF,kpF⟩:=fin2 (w:=wr.drewN nq) rs (.string (bytesOf [42])) (.slice la l.length lc)
   have hkF:=((hk.drewN nq).setNew (p:=⟨w.heap.size,0,none⟩) (Nat.le_refl _) (.string (bytesOf [42]))).setNew (p:=⟨w.heap.size,1,none⟩) (Nat.le_refl _) (.slice la l.length lc)
   refine bodyPost_ret (v:=.tuple #[.agg #[.string (bytesOf [42]),.slice la l.length lc],.nilIface]) (by simp [results,Tryz.results173,go_sem,r0,r1]) rfl ?_
   rw [HE.out]
   have hF:=(hx.drewN nq).kept kpF (by decide) (by decide)
   have fr:Fr progL (fun k=>w.heap.size≤k∧(Value.slice la l.length lc).ownBlock≠some k) (fun k=>w.heap.size≤k) wr (((wr.drewN nq).setCell ⟨w.heap.size,0,none⟩ (.string (bytesOf [42]))).setCell ⟨w.heap.size,1,none⟩ (.slice la l.length lc)):=fun g cc t hg hb ht=>⟨hg.1,kpF.at hb (by rcases ht with rfl | rfl | rfl <;> decide)⟩
   exact ⟨(bytesOf [42]),_,_,rfl,hkF,⟨_,_,_,rfl⟩,.inl ⟨l,cn,d,A1,rfl,rfl,hF,⟨hA1,hAlt⟩,xs,⟨owns_base (kpF.owns (w:=wr.drewN nq) own (by decide)) (Nat.zero_le _),fun g hg=>(own.lt g hg).1⟩,hrow.mono fun _ _ hh=>hh.mp fr⟩⟩
  ·have HAt:=hide hat
   have c0:=hx.c0
   have hle:=simpleP_gd (listP_gd s n) (lf:=listP s n) hx.1.le
   go_wp2_with fail
   refine (atSimple_is xb rb s q (a+cn) b (max c (b+d)) _ true hx.old HAt.out).mono ?_
   rintro e w2 ⟨rfl,nq,rfl⟩
   go_wp2_with fail
   refine (simple_any A1 B xb rb s n q (a+cn) b (max c (b+d)) _ IH (hx.drewN nq) hB hBx hAq hcq (by omega) (by omega) (by omega)).mono ?_
   rintro e w3 ⟨k,x,y,z,lv,v,rfl,hk3,⟨va,vm,vc,rfl⟩,hor⟩
   have hk3':Kp B TS wr w3:=hk3.fromDrewN
   have rs3:=hk3'.tsR rs (by decide) (by decide)
   have ns3:=hk3'.tsR ns (by decide) (by decide)
   have own3:=hk3'.owns own (by simp [TS])
   have hkA:=hk.trans hk3'
   have hrow3:=hrow.mono fun _ _ hh=>hh.mp (Fr.ofKp hk3' (by simp [TS,progL]) (by simp [TS,progL]) (by simp [TS,progL]) fun _ hg=>hg)
   rw [show (wr.drewN nq).heap.size=wr.heap.size from rfl] at hor
   have hsz3:=hk3'.size
   unfold simV
   rcases hor with ⟨m,c1,d1,A2,ho,rfl,h3,hA2,hr3⟩ | ⟨ho,⟨A9,q',a',b',c',h3⟩,j,hc⟩
   rotate_left
   ·have HE:Hid (compoundP (listP s n) s p=((simpleP (listP s n) s q).1,none)):=by
     have e1:simpleP (listP s n) s q=((simpleP (listP s n) s q).1,none):=by rw [← ho]
     rw [comp_done H0.out (HQ.out.symm.trans (simples_goN HAt.out e1))]; rfl
    obtain ⟨ty,kk,hv⟩:=hc.shape
    rw [hv] at hc ⊢
    clear ho
    have hcB:=hc.alloc (.cells #[.int .i64 k,.string x,.string y.name,.string y.op,.string y.val,.bool y.any,.string z.word,.bool z.hasN,.int .i64 z.a,.int .i64 z.b,.slice va vm vc] 263)
    have hB3:=h3.alloc (.cells #[.int .i64 k,.string x,.string y.name,.string y.op,.string y.val,.bool y.any,.string z.word,.bool z.hasN,.int .i64 z.a,.int .i64 z.b,.slice va vm vc] 263)
    have rsB:=alloc_old rs3 (.cells #[.int .i64 k,.string x,.string y.name,.string y.op,.string y.val,.bool y.any,.string z.word,.bool z.hasN,.int .i64 z.a,.int .i64 z.b,.slice va vm vc] 263)
    have hkB:=hkA.alloc (.cells #[.int .i64 k,.string x,.string y.name,.string y.op,.string y.val,.bool y.any,.string z.word,.bool z.hasN,.int .i64 z.a,.int .i64 z.b,.slice va vm vc] 263)
    have r0:=cell2_0 rsB; have r1:=cell2_1 rsB; have f0:=free_of (o:=0) rsB; have f1:=free_of (o:=1) rsB
    go_wp2
    clear r0 r1 f0 f1
    generalize w3.alloc (.cells #[.int .i64 k,.string x,.string y.name,.string y.op,.string y.val,.bool y.any,.string z.word,.bool z.hasN,.int .i64 z.a,.int .i64 z.b,.slice va vm vc] 263)=w4 at *
    have r0:=cell2_0 rsB; have r1:=cell2_1 rsB
    obtain ⟨rsF,kpF⟩:=fin2 rsB (.string ⟨#[]⟩) (.slice none 0 0)
    have hkF:=(hkB.setNew (p:=⟨w.heap.size,0,none⟩) (Nat.le_refl _) (.string ⟨#[]⟩)).setNew (p:=⟨w.heap.size,1,none⟩) (Nat.le_refl _) (.slice none 0 0)
    refine bodyPost_ret (v:=.tuple #[.agg #[.string ⟨#[]⟩,.slice none 0 0],.iface ty (.pointer (some ⟨kk,0,none⟩))]) (by simp [results,Tryz.results173,go_sem,r0,r1]) rfl ?_
    rw [HE.out]
    exact ⟨_,_,_,rfl,hkF,⟨_,_,_,rfl⟩,.inr ⟨rfl,⟨_,_,_,_,_,hB3.kept kpF (by decide) (by decide)⟩,j,hcB.kept kpF (by decide) (by decide)⟩⟩
   ·obtain ⟨⟨g1,g2,g3⟩,g4⟩:=hle
    have g3:=g3 _ ho
    have g4:=g4 _ ho
    dsimp only at g3
    generalize hq2:(simpleP (listP s n) s q).1=q2 at *
    have HS:Hid (simpleP (listP s n) s q=(q2,some (m,c1,d1))):=by rw [← hq2,← ho]; rfl
    have HE:Hid (simplesP (listP s n) s f (l++[m]) (cn+c1) (max d d1) q2=simplesP (listP s n) s (s.size+1) [] 0 0 (p+1)):=by
     rw [← HQ.out,simples_goS HAt.out HS.out]; rfl
    clear hq2 ho
    have h4:=h3.alloc (.cells #[.int .i64 k,.string x,.string y.name,.string y.op,.string y.val,.bool y.any,.string z.word,.bool z.hasN,.int .i64 z.a,.int .i64 z.b,.slice va vm vc] 263)
    have rs4:=alloc_old rs3 (.cells #[.int .i64 k,.string x,.string y.name,.string y.op,.string y.val,.bool y.any,.string z.word,.bool z.hasN,.int .i64 z.a,.int .i64 z.b,.slice va vm vc] 263)
    have ns4:=alloc_old ns3 (.cells #[.int .i64 k,.string x,.string y.name,.string y.op,.string y.val,.bool y.any,.string z.word,.bool z.hasN,.int .i64 z.a,.int .i64 z.b,.slice va vm vc] 263)
    have own4:=own3.alloc (.cells #[.int .i64 k,.string x,.string y.name,.string y.op,.string y.val,.bool y.any,.string z.word,.bool z.hasN,.int .i64 z.a,.int .i64 z.b,.slice va vm vc] 263)
    have ms4:=alloc_at w3 (.cells #[.int .i64 k,.string x,.string y.name,.string y.op,.string y.val,.bool y.any,.string z.word,.bool z.hasN,.int .i64 z.a,.int .i64 z.b,.slice va vm vc] 263)
    have hkB:=hkA.alloc (.cells #[.int .i64 k,.string x,.string y.name,.string y.op,.string y.val,.bool y.any,.string z.word,.bool z.hasN,.int .i64 z.a,.int .i64 z.b,.slice va vm vc] 263)
    have hrow4:=(hrow3.mono fun _ _ hh=>hh.up hA2.1).mono fun _ _ hh=>hh.mp (Fr.alloc (.cells #[.int .i64 k,.string x,.string y.name,.string y.op,.string y.val,.bool y.any,.string z.word,.bool z.hasN,.int .i64 z.a,.int .i64 z.b,.slice va vm vc] 263) fun _ hg=>hg)
    have hr4:repS (RepL A2 (fun k=>w.heap.size≤k∧(Value.slice la l.length lc).ownBlock≠some k) (w3.alloc (.cells #[.int .i64 k,.string x,.string y.name,.string y.op,.string y.val,.bool y.any,.string z.word,.bool z.hasN,.int .i64 z.a,.int .i64 z.b,.slice va vm vc] 263)) n) m (simCells k x y z (.slice va vm vc)):=hr3.mp (Fr.alloc _ fun g hg=>⟨by have:=hk.size; omega,fun e=>by have:=(own.lt g e).2; omega⟩)
    obtain ⟨⟨m0,m1,m2,m3,m4,m5,m6,m7,m8,m9,m10⟩,_⟩:=cells11 ms4
    have t0:=cell2_0 ns4; have t1:=cell2_1 ns4; have f1:=free_of (o:=1) ns4
    have hw3:=hkA.size
    clear own3 ns3 rs3 hkA hrow3 hr3 h3 own hrow rs ns
    go_wp2_with (at_builtin; refine wpList_append_lies _ rfl _ _ 252 rfl w.heap.size 263 i0 (.agg #[.int .i64 0,.string ⟨#[]⟩,.string ⟨#[]⟩,.string ⟨#[]⟩,.string ⟨#[]⟩,.bool false,.string ⟨#[]⟩,.bool false,.int .i64 0,.int .i64 0,.slice none 0 0]) 11 144 Tryz.underlying252 hi hz0 hz1 hz2 rfl (by decide) _ _ _ rfl (own4.alloc _) ⟨w3.heap.size+1,0,none⟩ 1 1 (simCells k x y z (.slice va vm vc)) rfl rfl ?c1 ?c2 (by decide) ?c3 ?c4 ?c5 _ rfl ?_)
    case c1=>exact cells_new #[.int .i64 k,.string x,.string y.name,.string y.op,.string y.val,.bool y.any,.string z.word,.bool z.hasN,.int .i64 z.a,.int .i64 z.b,.slice va vm vc] 263 (by simp)
    case c2=>exact simCells_one _ _ _ _ _ _ _
    case c3=>unfold maxLen; omega
    case c4=>omega
    case c5=>simp; omega
    intro g cap w5 own5 hgrow5 hat5 hlt5
    have KA:=(hkB.alloc (.cells #[.int .i64 k,.string x,.string y.name,.string y.op,.string y.val,.bool y.any,.string z.word,.bool z.hasN,.int .i64 z.a,.int .i64 z.b,.slice va vm vc] 263)).grownNew hgrow5 (fun k e=>(own4.lt k e).1)
    have NB:∀ {cc:Array Value} {ty:TypeId} {bk:Nat},(w3.alloc (.cells #[.int .i64 k,.string x,.string y.name,.string y.op,.string y.val,.bool y.any,.string z.word,.bool z.hasN,.int .i64 z.a,.int .i64 z.b,.slice va vm vc] 263)).heap[bk]? = some (.cells cc ty (0,0))→ty≠263→w5.heap[bk]? = some (.cells cc ty (0,0)):=fun hb hty=>kept_grown (own4.alloc _) hgrow5 (alloc_old hb _) hty
    have h5x:Sx A2 w5 xb rb s q2 (a+cn+c1) b (max (max c (b+d)) (b+d1)):=⟨⟨NB h4.1.1 (by decide),h4.1.2,h4.1.3⟩,NB h4.2 (by decide)⟩
    have rs5:=NB rs4 (by decide)
    have ns5:=NB ns4 (by decide)
    have frg:Fr progL (fun k=>w.heap.size≤k∧(Value.slice la l.length lc).ownBlock≠some k) (fun k=>w.heap.size≤k∧(Value.slice (some ⟨g,0,none⟩) (l.length+1) cap).ownBlock≠some k) ((w3.alloc (.cells #[.int .i64 k,.string x,.string y.name,.string y.op,.string y.val,.bool y.any,.string z.word,.bool z.hasN,.int .i64 z.a,.int .i64 z.b,.slice va vm vc] 263)).alloc (.cells #[.int .i64 k,.string x,.string y.name,.string y.op,.string y.val,.bool y.any,.string z.word,.bool z.hasN,.int .i64 z.a,.int .i64 z.b,.slice va vm vc] 263)) w5 :=
     Fr.grown hgrow5 (by simpa using hat5) (fun k hk=>hk.2) (fun k hk hne=>⟨hk.1,by simp only [Value.ownBlock,ne_eq,Option.some.injEq]; exact fun e=>hne e.symm⟩)
    have hrow5:=(hrow4.mono fun _ _ hh=>(hh.mp (Fr.alloc (.cells #[.int .i64 k,.string x,.string y.name,.string y.op,.string y.val,.bool y.any,.string z.word,.bool z.hasN,.int .i64 z.a,.int .i64 z.b,.slice va vm vc] 263) fun _ hg=>hg)).mp frg).snoc ((hr4.mp (Fr.alloc (.cells #[.int .i64 k,.string x,.string y.name,.string y.op,.string y.val,.bool y.any,.string z.word,.bool z.hasN,.int .i64 z.a,.int .i64 z.b,.slice va vm vc] 263) fun _ hg=>hg)).mp frg)
    clear hgrow5 NB frg hat5 own4 hrow4 hr4 h4 rs4 ns4 hkB m0 m1 m2 m3 m4 m5 m6 m7 m8 m9 m10 t0 t1 f1
    have kps:=Kp.setAny (p:=⟨w.heap.size+1,1,none⟩) ns5 (.slice (some ⟨g,0,none⟩) (l.length+1) cap)
    have own6:=kps.owns own5 (by decide)
    have h6x:=h5x.kept kps (by decide) (by decide)
    have rs6:=setCell_other (a:=⟨w.heap.size+1,1,none⟩) rs5 (by simp) (.slice (some ⟨g,0,none⟩) (l.length+1) cap)
    have ns6:(w5.setCell ⟨w.heap.size+1,1,none⟩ (.slice (some ⟨g,0,none⟩) (l.length+1) cap)).heap[w.heap.size+1]? = some (.cells #[.string (bytesOf [42]),.slice (some ⟨g,0,none⟩) (l.length+1) cap] 254 (0,0)):=set_blk (o:=1) ns5 _
    have KB:=KA.setNew (p:=⟨w.heap.size+1,1,none⟩) (by simp) (.slice (some ⟨g,0,none⟩) (l.length+1) cap)
    have hrow6:=hrow5.mono fun _ _ hh=>hh.mp (Fr.ofKp kps (by decide) (by decide) (by decide) fun _ hg=>hg)
    have t0:=cell2_0 ns5; have t1:=cell2_1 ns5; have f1:=free_of (o:=1) ns5
    have hpl:=h6x.1.placeOf
    have hpl0:=hx.1.placeOf
    have HROW:=hide hrow6
    clear hrow5 hrow6
    have hA2q:A2.length≤q2∧(A2=A∨A2.length < q2):=by
     rcases hA2.2 with e | e
     ·rw [e]; exact ⟨by omega,hAlt.imp id fun h=>by omega⟩
     ·exact ⟨by omega,.inr e⟩
    have hA12:=hA1.trans hA2.1
    clear hA2
    go_wp2
    go_roundw
    case rel =>
     refine ⟨A2,q2,f,cn+c1,max d d1,l++[m],_,_,?_,⟨by omega,by omega,by omega,by simp; omega,hA12,hA2q.1,hA2q.2⟩,rs6,ns6,by rw [List.length_append]; exact own6,HROW.out,HE,KB⟩
     rw [show a+(cn+c1)=a+cn+c1 from by omega,show max c (b+max d d1)=max (max c (b+d)) (b+d1) from by omega]
     exact h6x
    case measure=>rw [hpl,hpl0]; omega
theorem compound_none (A : List Cpx) (B xb rb : Nat) (s : ByteArray) (n p a b c : Nat) (w : World) (IH : ListOk B xb rb s n) (h : Sx A w xb rb s p a b c) (hB : B ≤ rb) (hBx : B ≤ xb) (hA : A.length ≤ p) (ha : a ≤ p) (hb : b ≤ p + 1) (hbc : b ≤ c) (hn : s.size ≤ p + n) (h42 : peekI s p ≠ 42) (hat : atB (peekI s p) = true) :
  Calls Tryz.prog 173 #[.pointer (some ⟨xb,0,none⟩)] w (CompPost A B xb rb s n p a b c w):=by
 have h5:=h.1.max; have h6:=h.1.le
 have h0:=(h.alloc (.cells #[.string ⟨#[]⟩,.slice none 0 0] 254)).alloc (.cells #[.string ⟨#[]⟩,.slice none 0 0] 254)
 have rs0:=alloc_old (alloc_at w (.cells #[.string ⟨#[]⟩,.slice none 0 0] 254)) (.cells #[.string ⟨#[]⟩,.slice none 0 0] 254)
 have ns0:=alloc_at' (w:=w.alloc (.cells #[.string ⟨#[]⟩,.slice none 0 0] 254)) (n:=w.heap.size+1) (.cells #[.string ⟨#[]⟩,.slice none 0 0] 254) (by simp)
 have hk0:=((Kp.refl B TS w).alloc (.cells #[.string ⟨#[]⟩,.slice none 0 0] 254)).alloc (.cells #[.string ⟨#[]⟩,.slice none 0 0] 254)
 have c0:=h0.c0
 obtain ⟨i0,hi,hz0,hz1,hz2⟩:=info_parts Tryz.infoSim
 have H0:Hid (headP s p=(p,some noB)):=by unfold headP; rw [if_neg h42,if_pos hat]; rfl
 have H42:=hide h42
 have HAt:=hide hat
 clear h42 hat
 unfold CompPost
 go_enter Tryz.func173,Tryz.ntmps173
 go_wp2_with fail
 refine (take_no B rb s p _ _ h0.1 (.inr H42.out)).mono ?_
 rintro e w1 ⟨rfl,hr1,hk1⟩
 have h1:=h0.step hr1 hk1
 have rs1:=hk1.at (k:=w.heap.size) rs0 (by decide)
 have ns1:=hk1.at (k:=w.heap.size+1) ns0 (by decide)
 have hkA:=hk0.trans hk1.ts
 clear h0 rs0 ns0 hk0 c0
 go_wp2_with fail
 refine (atSimple_is xb rb s p a b c _ true h1.old HAt.out).mono ?_
 rintro e w2 ⟨rfl,nq,rfl⟩
 go_wp2_with fail
 have hs:=h1.drewN nq
 have rsS:(w1.drewN nq).heap[w.heap.size]? = some (.cells #[.string ⟨#[]⟩,.slice none 0 0] 254 (0,0)):=rs1
 have nsS:(w1.drewN nq).heap[w.heap.size+1]? = some (.cells #[.string noB,.slice none 0 0] 254 (0,0)):=ns1
 have hkS:=hkA.drewN nq
 go_loopw [35] (fun _ wr=>∃ (A1:List Cpx) (q f cn d:Nat) (l:List Sim) (sv:Value) (xs:List Value),Sx A1 wr xb rb s q (a+cn) b (max c (b+d))∧(p≤q∧s.size < q+f∧a+cn≤q∧l.length≤q∧A <+: A1∧A1.length≤q∧(A1=A∨A1.length < q))∧wr.heap[w.heap.size]? = some (.cells #[.string ⟨#[]⟩,.slice none 0 0] 254 (0,0))∧wr.heap[w.heap.size+1]? = some (.cells #[.string noB,sv] 254 (0,0))∧wr.ownsRow w.heap.size 263 11 sv l.length xs∧Row (repS (RepL A1 (fun k=>w.heap.size≤k∧sv.ownBlock≠some k) wr n)) l xs∧Hid (simplesP (listP s n) s f l cn d q=simplesP (listP s n) s (s.size+1) [] 0 0 p)∧Kp B TS w wr) (fun _ wr=>s.size - placeOf wr rb)
 case atStart =>
  refine ⟨A,p,s.size+1,0,0,[],.slice none 0 0,[],?_,⟨by omega,by omega,by omega,Nat.zero_le _,List.prefix_refl A,by omega,.inl rfl⟩,rsS,nsS,World.ownsRow_nil _ _ _ _,rfl,rfl,hkS⟩
  rw [show a+0=a from rfl,show max c (b+0)=c from by omega]
  exact hs
 case round =>
  obtain ⟨A1,q,f,cn,d,l,sv,xs,hx,⟨hpq,hf,hcq,hlq,hA1,hAq,hAlt⟩,rs,ns,own,hrow,HQ,hk⟩:=hrel
  clear hs rsS nsS hkS
  obtain ⟨la,lc,rfl⟩:=own_slice own
  obtain ⟨f,rfl⟩:∃ f',f=f'+1:=⟨f - 1,by have:=hx.1.le; omega⟩
  cases hat:atB (peekI s q)
  ·have HE:Hid (compoundP (listP s n) s p=(q,some ((noB,l),cn,d))):=by
    rw [comp_done H0.out (HQ.out.symm.trans (simples_stop hat))]; rfl
   have HAt:=hide hat
   clear hat
   have q0:=cell2_0 ns; have q1:=cell2_1 ns
   have r0:=cell2_0 rs; have r1:=cell2_1 rs; have f0:=free_of (o:=0) rs; have f1:=free_of (o:=1) rs
   go_wp2_with (go_at_call 209; refine (atSimple_is xb rb s q (a+cn) b (max c (b+d)) _ false hx.old HAt.out).mono ?_; rintro e w2 ⟨rfl,nq,rfl⟩)
   obtain ⟨rsF,kpF⟩:=fin2 (w:=wr.drewN nq) rs (.string noB) (.slice la l.length lc)
   have hkF:=((hk.drewN nq).setNew (p:=⟨w.heap.size,0,none⟩) (Nat.le_refl _) (.string noB)).setNew (p:=⟨w.heap.size,1,none⟩) (Nat.le_refl _) (.slice la l.length lc)
   refine bodyPost_ret (v:=.tuple #[.agg #[.string noB,.slice la l.length lc],.nilIface]) (by simp [results,Tryz.results173,go_sem,r0,r1]) rfl ?_
   rw [HE.out]
   have hF:=(hx.drewN nq).kept kpF (by decide) (by decide)
   have fr:Fr progL (fun k=>w.heap.size≤k∧(Value.slice la l.length lc).ownBlock≠some k) (fun k=>w.heap.size≤k) wr (((wr.drewN nq).setCell ⟨w.heap.size,0,none⟩ (.string noB)).setCell ⟨w.heap.size,1,none⟩ (.slice la l.length lc)):=fun g cc t hg hb ht=>⟨hg.1,kpF.at hb (by rcases ht with rfl | rfl | rfl <;> decide)⟩
   exact ⟨noB,_,_,rfl,hkF,⟨_,_,_,rfl⟩,.inl ⟨l,cn,d,A1,rfl,rfl,hF,⟨hA1,hAlt⟩,xs,⟨owns_base (kpF.owns (w:=wr.drewN nq) own (by decide)) (Nat.zero_le _),fun g hg=>(own.lt g hg).1⟩,hrow.mono fun _ _ hh=>hh.mp fr⟩⟩
  ·have HAt:=hide hat
   have c0:=hx.c0
   have hle:=simpleP_gd (listP_gd s n) (lf:=listP s n) hx.1.le
   go_wp2_with fail
   refine (atSimple_is xb rb s q (a+cn) b (max c (b+d)) _ true hx.old HAt.out).mono ?_
   rintro e w2 ⟨rfl,nq,rfl⟩
   go_wp2_with fail
   refine (simple_any A1 B xb rb s n q (a+cn) b (max c (b+d)) _ IH (hx.drewN nq) hB hBx hAq hcq (by omega) (by omega) (by omega)).mono ?_
   rintro e w3 ⟨k,x,y,z,lv,v,rfl,hk3,⟨va,vm,vc,rfl⟩,hor⟩
   have hk3':Kp B TS wr w3:=hk3.fromDrewN
   have rs3:=hk3'.tsR rs (by decide) (by decide)
   have ns3:=hk3'.tsR ns (by decide) (by decide)
   have own3:=hk3'.owns own (by simp [TS])
   have hkA:=hk.trans hk3'
   have hrow3:=hrow.mono fun _ _ hh=>hh.mp (Fr.ofKp hk3' (by simp [TS,progL]) (by simp [TS,progL]) (by simp [TS,progL]) fun _ hg=>hg)
   rw [show (wr.drewN nq).heap.size=wr.heap.size from rfl] at hor
   have hsz3:=hk3'.size
   unfold simV
   rcases hor with ⟨m,c1,d1,A2,ho,rfl,h3,hA2,hr3⟩ | ⟨ho,⟨A9,q',a',b',c',h3⟩,j,hc⟩
   rotate_left
   ·have HE:Hid (compoundP (listP s n) s p=((simpleP (listP s n) s q).1,none)):=by
     have e1:simpleP (listP s n) s q=((simpleP (listP s n) s q).1,none):=by rw [← ho]
     rw [comp_done H0.out (HQ.out.symm.trans (simples_goN HAt.out e1))]; rfl
    obtain ⟨ty,kk,hv⟩:=hc.shape
    rw [hv] at hc ⊢
    clear ho
    have hcB:=hc.alloc (.cells #[.int .i64 k,.string x,.string y.name,.string y.op,.string y.val,.bool y.any,.string z.word,.bool z.hasN,.int .i64 z.a,.int .i64 z.b,.slice va vm vc] 263)
    have hB3:=h3.alloc (.cells #[.int .i64 k,.string x,.string y.name,.string y.op,.string y.val,.bool y.any,.string z.word,.bool z.hasN,.int .i64 z.a,.int .i64 z.b,.slice va vm vc] 263)
    have rsB:=alloc_old rs3 (.cells #[.int .i64 k,.string x,.string y.name,.string y.op,.string y.val,.bool y.any,.string z.word,.bool z.hasN,.int .i64 z.a,.int .i64 z.b,.slice va vm vc] 263)
    have hkB:=hkA.alloc (.cells #[.int .i64 k,.string x,.string y.name,.string y.op,.string y.val,.bool y.any,.string z.word,.bool z.hasN,.int .i64 z.a,.int .i64 z.b,.slice va vm vc] 263)
    have r0:=cell2_0 rsB; have r1:=cell2_1 rsB; have f0:=free_of (o:=0) rsB; have f1:=free_of (o:=1) rsB
    go_wp2
    clear r0 r1 f0 f1
    generalize w3.alloc (.cells #[.int .i64 k,.string x,.string y.name,.string y.op,.string y.val,.bool y.any,.string z.word,.bool z.hasN,.int .i64 z.a,.int .i64 z.b,.slice va vm vc] 263)=w4 at *
    have r0:=cell2_0 rsB; have r1:=cell2_1 rsB
    obtain ⟨rsF,kpF⟩:=fin2 rsB (.string ⟨#[]⟩) (.slice none 0 0)
    have hkF:=(hkB.setNew (p:=⟨w.heap.size,0,none⟩) (Nat.le_refl _) (.string ⟨#[]⟩)).setNew (p:=⟨w.heap.size,1,none⟩) (Nat.le_refl _) (.slice none 0 0)
    refine bodyPost_ret (v:=.tuple #[.agg #[.string ⟨#[]⟩,.slice none 0 0],.iface ty (.pointer (some ⟨kk,0,none⟩))]) (by simp [results,Tryz.results173,go_sem,r0,r1]) rfl ?_
    rw [HE.out]
    exact ⟨_,_,_,rfl,hkF,⟨_,_,_,rfl⟩,.inr ⟨rfl,⟨_,_,_,_,_,hB3.kept kpF (by decide) (by decide)⟩,j,hcB.kept kpF (by decide) (by decide)⟩⟩
   ·obtain ⟨⟨g1,g2,g3⟩,g4⟩:=hle
    have g3:=g3 _ ho
    have g4:=g4 _ ho
    dsimp only at g3
    generalize hq2:(simpleP (listP s n) s q).1=q2 at *
    have HS:Hid (simpleP (listP s n) s q=(q2,some (m,c1,d1))):=by rw [← hq2,← ho]; rfl
    have HE:Hid (simplesP (listP s n) s f (l++[m]) (cn+c1) (max d d1) q2=simplesP (listP s n) s (s.size+1) [] 0 0 p):=by
     rw [← HQ.out,simples_goS HAt.out HS.out]; rfl
    clear hq2 ho
    have h4:=h3.alloc (.cells #[.int .i64 k,.string x,.string y.name,.string y.op,.string y.val,.bool y.any,.string z.word,.bool z.hasN,.int .i64 z.a,.int .i64 z.b,.slice va vm vc] 263)
    have rs4:=alloc_old rs3 (.cells #[.int .i64 k,.string x,.string y.name,.string y.op,.string y.val,.bool y.any,.string z.word,.bool z.hasN,.int .i64 z.a,.int .i64 z.b,.slice va vm vc] 263)
    have ns4:=alloc_old ns3 (.cells #[.int .i64 k,.string x,.string y.name,.string y.op,.string y.val,.bool y.any,.string z.word,.bool z.hasN,.int .i64 z.a,.int .i64 z.b,.slice va vm vc] 263)
    have own4:=own3.alloc (.cells #[.int .i64 k,.string x,.string y.name,.string y.op,.string y.val,.bool y.any,.string z.word,.bool z.hasN,.int .i64 z.a,.int .i64 z.b,.slice va vm vc] 263)
    have ms4:=alloc_at w3 (.cells #[.int .i64 k,.string x,.string y.name,.string y.op,.string y.val,.bool y.any,.string z.word,.bool z.hasN,.int .i64 z.a,.int .i64 z.b,.slice va vm vc] 263)
    have hkB:=hkA.alloc (.cells #[.int .i64 k,.string x,.string y.name,.string y.op,.string y.val,.bool y.any,.string z.word,.bool z.hasN,.int .i64 z.a,.int .i64 z.b,.slice va vm vc] 263)
    have hrow4:=(hrow3.mono fun _ _ hh=>hh.up hA2.1).mono fun _ _ hh=>hh.mp (Fr.alloc (.cells #[.int .i64 k,.string x,.string y.name,.string y.op,.string y.val,.bool y.any,.string z.word,.bool z.hasN,.int .i64 z.a,.int .i64 z.b,.slice va vm vc] 263) fun _ hg=>hg)
    have hr4:repS (RepL A2 (fun k=>w.heap.size≤k∧(Value.slice la l.length lc).ownBlock≠some k) (w3.alloc (.cells #[.int .i64 k,.string x,.string y.name,.string y.op,.string y.val,.bool y.any,.string z.word,.bool z.hasN,.int .i64 z.a,.int .i64 z.b,.slice va vm vc] 263)) n) m (simCells k x y z (.slice va vm vc)):=hr3.mp (Fr.alloc _ fun g hg=>⟨by have:=hk.size; omega,fun e=>by have:=(own.lt g e).2; omega⟩)
    obtain ⟨⟨m0,m1,m2,m3,m4,m5,m6,m7,m8,m9,m10⟩,_⟩:=cells11 ms4
    have t0:=cell2_0 ns4; have t1:=cell2_1 ns4; have f1:=free_of (o:=1) ns4
    have hw3:=hkA.size
    clear own3 ns3 rs3 hkA hrow3 hr3 h3 own hrow rs ns
    go_wp2_with (at_builtin; refine wpList_append_lies _ rfl _ _ 252 rfl w.heap.size 263 i0 (.agg #[.int .i64 0,.string ⟨#[]⟩,.string ⟨#[]⟩,.string ⟨#[]⟩,.string ⟨#[]⟩,.bool false,.string ⟨#[]⟩,.bool false,.int .i64 0,.int .i64 0,.slice none 0 0]) 11 144 Tryz.underlying252 hi hz0 hz1 hz2 rfl (by decide) _ _ _ rfl (own4.alloc _) ⟨w3.heap.size+1,0,none⟩ 1 1 (simCells k x y z (.slice va vm vc)) rfl rfl ?c1 ?c2 (by decide) ?c3 ?c4 ?c5 _ rfl ?_)
    case c1=>exact cells_new #[.int .i64 k,.string x,.string y.name,.string y.op,.string y.val,.bool y.any,.string z.word,.bool z.hasN,.int .i64 z.a,.int .i64 z.b,.slice va vm vc] 263 (by simp)
    case c2=>exact simCells_one _ _ _ _ _ _ _
    case c3=>unfold maxLen; omega
    case c4=>omega
    case c5=>simp; omega
    intro g cap w5 own5 hgrow5 hat5 hlt5
    have KA:=(hkB.alloc (.cells #[.int .i64 k,.string x,.string y.name,.string y.op,.string y.val,.bool y.any,.string z.word,.bool z.hasN,.int .i64 z.a,.int .i64 z.b,.slice va vm vc] 263)).grownNew hgrow5 (fun k e=>(own4.lt k e).1)
    have NB:∀ {cc:Array Value} {ty:TypeId} {bk:Nat},(w3.alloc (.cells #[.int .i64 k,.string x,.string y.name,.string y.op,.string y.val,.bool y.any,.string z.word,.bool z.hasN,.int .i64 z.a,.int .i64 z.b,.slice va vm vc] 263)).heap[bk]? = some (.cells cc ty (0,0))→ty≠263→w5.heap[bk]? = some (.cells cc ty (0,0)):=fun hb hty=>kept_grown (own4.alloc _) hgrow5 (alloc_old hb _) hty
    have h5x:Sx A2 w5 xb rb s q2 (a+cn+c1) b (max (max c (b+d)) (b+d1)):=⟨⟨NB h4.1.1 (by decide),h4.1.2,h4.1.3⟩,NB h4.2 (by decide)⟩
    have rs5:=NB rs4 (by decide)
    have ns5:=NB ns4 (by decide)
    have frg:Fr progL (fun k=>w.heap.size≤k∧(Value.slice la l.length lc).ownBlock≠some k) (fun k=>w.heap.size≤k∧(Value.slice (some ⟨g,0,none⟩) (l.length+1) cap).ownBlock≠some k) ((w3.alloc (.cells #[.int .i64 k,.string x,.string y.name,.string y.op,.string y.val,.bool y.any,.string z.word,.bool z.hasN,.int .i64 z.a,.int .i64 z.b,.slice va vm vc] 263)).alloc (.cells #[.int .i64 k,.string x,.string y.name,.string y.op,.string y.val,.bool y.any,.string z.word,.bool z.hasN,.int .i64 z.a,.int .i64 z.b,.slice va vm vc] 263)) w5 :=
     Fr.grown hgrow5 (by simpa using hat5) (fun k hk=>hk.2) (fun k hk hne=>⟨hk.1,by simp only [Value.ownBlock,ne_eq,Option.some.injEq]; exact fun e=>hne e.symm⟩)
    have hrow5:=(hrow4.mono fun _ _ hh=>(hh.mp (Fr.alloc (.cells #[.int .i64 k,.string x,.string y.name,.string y.op,.string y.val,.bool y.any,.string z.word,.bool z.hasN,.int .i64 z.a,.int .i64 z.b,.slice va vm vc] 263) fun _ hg=>hg)).mp frg).snoc ((hr4.mp (Fr.alloc (.cells #[.int .i64 k,.string x,.string y.name,.string y.op,.string y.val,.bool y.any,.string z.word,.bool z.hasN,.int .i64 z.a,.int .i64 z.b,.slice va vm vc] 263) fun _ hg=>hg)).mp frg)
    clear hgrow5 NB frg hat5 own4 hrow4 hr4 h4 rs4 ns4 hkB m0 m1 m2 m3 m4 m5 m6 m7 m8 m9 m10 t0 t1 f1
    have kps:=Kp.setAny (p:=⟨w.heap.size+1,1,none⟩) ns5 (.slice (some ⟨g,0,none⟩) (l.length+1) cap)
    have own6:=kps.owns own5 (by decide)
    have h6x:=h5x.kept kps (by decide) (by decide)
    have rs6:=setCell_other (a:=⟨w.heap.size+1,1,none⟩) rs5 (by simp) (.slice (some ⟨g,0,none⟩) (l.length+1) cap)
    have ns6:(w5.setCell ⟨w.heap.size+1,1,none⟩ (.slice (some ⟨g,0,none⟩) (l.length+1) cap)).heap[w.heap.size+1]? = some (.cells #[.string noB,.slice (some ⟨g,0,none⟩) (l.length+1) cap] 254 (0,0)):=set_blk (o:=1) ns5 _
    have KB:=KA.setNew (p:=⟨w.heap.size+1,1,none⟩) (by simp) (.slice (some ⟨g,0,none⟩) (l.length+1) cap)
    have hrow6:=hrow5.mono fun _ _ hh=>hh.mp (Fr.ofKp kps (by decide) (by decide) (by decide) fun _ hg=>hg)
    have t0:=cell2_0 ns5; have t1:=cell2_1 ns5; have f1:=free_of (o:=1) ns5
    have hpl:=h6x.1.placeOf
    have hpl0:=hx.1.placeOf
    have HROW:=hide hrow6
    clear hrow5 hrow6
    have hA2q:A2.length≤q2∧(A2=A∨A2.length < q2):=by
     rcases hA2.2 with e | e
     ·rw [e]; exact ⟨by omega,hAlt.imp id fun h=>by omega⟩
     ·exact ⟨by omega,.inr e⟩
    have hA12:=hA1.trans hA2.1
    clear hA2
    go_wp2
    go_roundw
    case rel =>
     refine ⟨A2,q2,f,cn+c1,max d d1,l++[m],_,_,?_,⟨by omega,by omega,by omega,by simp; omega,hA12,hA2q.1,hA2q.2⟩,rs6,ns6,by rw [List.length_append]; exact own6,HROW.out,HE,KB⟩
     rw [show a+(cn+c1)=a+cn+c1 from by omega,show max c (b+max d d1)=max (max c (b+d)) (b+d1) from by omega]
     exact h6x
    case measure=>rw [hpl,hpl0]; omega
theorem compound_name (A : List Cpx) (B xb rb : Nat) (s : ByteArray) (n p a b c : Nat) (w : World) (IH : ListOk B xb rb s n) (h : Sx A w xb rb s p a b c) (hB : B ≤ rb) (hBx : B ≤ xb) (hA : A.length ≤ p) (ha : a ≤ p) (hb : b ≤ p + 1) (hbc : b ≤ c) (hn : s.size ≤ p + n) (h42 : peekI s p ≠ 42) (hat : atB (peekI s p) = false) :
  Calls Tryz.prog 173 #[.pointer (some ⟨xb,0,none⟩)] w (CompPost A B xb rb s n p a b c w):=by
 have h5:=h.1.max; have h6:=h.1.le
 have h0:=(h.alloc (.cells #[.string ⟨#[]⟩,.slice none 0 0] 254)).alloc (.cells #[.string ⟨#[]⟩,.slice none 0 0] 254)
 have rs0:=alloc_old (alloc_at w (.cells #[.string ⟨#[]⟩,.slice none 0 0] 254)) (.cells #[.string ⟨#[]⟩,.slice none 0 0] 254)
 have ns0:=alloc_at' (w:=w.alloc (.cells #[.string ⟨#[]⟩,.slice none 0 0] 254)) (n:=w.heap.size+1) (.cells #[.string ⟨#[]⟩,.slice none 0 0] 254) (by simp)
 have hk0:=((Kp.refl B TS w).alloc (.cells #[.string ⟨#[]⟩,.slice none 0 0] 254)).alloc (.cells #[.string ⟨#[]⟩,.slice none 0 0] 254)
 have c0:=h0.c0
 obtain ⟨i0,hi,hz0,hz1,hz2⟩:=info_parts Tryz.infoSim
 have HH:Hid (headP s p=newP s p noneTaken):=by unfold headP; rw [if_neg h42,hat]; rfl
 have hnl:=newP_le s p noneTaken h6
 have H42:=hide h42
 have HAt:=hide hat
 clear h42 hat
 unfold CompPost
 go_enter Tryz.func173,Tryz.ntmps173
 go_wp2_with fail
 refine (take_no B rb s p _ _ h0.1 (.inr H42.out)).mono ?_
 rintro e w1 ⟨rfl,hr1,hk1⟩
 have h1:=h0.step hr1 hk1
 have rs1:=hk1.at (k:=w.heap.size) rs0 (by decide)
 have ns1:=hk1.at (k:=w.heap.size+1) ns0 (by decide)
 have hkA:=hk0.trans hk1.ts
 clear h0 rs0 ns0 hk0 c0
 go_wp2_with fail
 refine (atSimple_is xb rb s p a b c _ false h1.old HAt.out).mono ?_
 rintro e w2 ⟨rfl,nq,rfl⟩
 have c2:=(h1.drewN nq).c0
 go_wp2_with fail
 refine (sname_any B rb s p _ (h1.drewN nq).1 hB).mono ?_
 rintro e w3 ⟨nm,v,rfl,hr3,hk3,hor⟩
 have h3:=(h1.drewN nq).step hr3 hk3
 have rs3:=hk3.at (k:=w.heap.size) rs1 (by decide)
 have ns3:=hk3.at (k:=w.heap.size+1) ns1 (by decide)
 have hkB:=hkA.trans hk3.fromDrewN.ts
 clear h1 rs1 ns1 hkA c2
 rcases hor with ⟨ho,rfl⟩ | ⟨ho,hc⟩
 rotate_left
 ·have HE:Hid (compoundP (listP s n) s p=((newP s p noneTaken).1,none)):=by
   unfold compoundP; rw [HH.out]
   generalize newP s p noneTaken=r at ho
   obtain ⟨q,o⟩:=r
   dsimp only at ho
   subst ho; rfl
  obtain ⟨ty,kk,hv⟩:=hc.shape
  rw [hv] at hc ⊢
  clear ho
  go_wp2_with fail
  refine (while_err B [] _ _ _ _ _ _ hc).mono ?_
  rintro e w4 ⟨u,rfl,hc4,hk4⟩
  have rs4:=hk4.at rs3 (by simp)
  have r0:=cell2_0 rs4; have r1:=cell2_1 rs4; have f0:=free_of (o:=0) rs4; have f1:=free_of (o:=1) rs4
  go_wp2
  obtain ⟨rsF,kpF⟩:=fin2 rs4 (.string ⟨#[]⟩) (.slice none 0 0)
  have hkF:=((hkB.trans (hk4.mono (Nat.le_refl _) (by simp))).setNew (p:=⟨w.heap.size,0,none⟩) (Nat.le_refl _) (.string ⟨#[]⟩)).setNew (p:=⟨w.heap.size,1,none⟩) (Nat.le_refl _) (.slice none 0 0)
  refine bodyPost_ret (v:=.tuple #[.agg #[.string ⟨#[]⟩,.slice none 0 0],u]) (by simp [results,Tryz.results173,go_sem,r0,r1]) rfl ?_
  rw [HE.out]
  exact ⟨_,_,_,rfl,hkF,⟨_,_,_,rfl⟩,.inr ⟨rfl,⟨_,_,_,_,_,(h3.kept hk4 (by simp) (by simp)).kept kpF (by decide) (by decide)⟩,_,hc4.kept kpF (by decide) (by decide)⟩⟩
 generalize hq0:(newP s p noneTaken).1=q00 at *
 have H0:Hid (headP s p=(q00,some nm)):=by rw [HH.out,← hq0,ho]; rfl
 clear hq0 ho
 have t0:=cell2_0 ns3; have f0:=free_of (o:=0) ns3
 go_wp2_with fail
 clear t0 f0
 have kpo:=Kp.setAny (p:=⟨w.heap.size+1,0,none⟩) ns3 (.string nm)
 have hs:=h3.kept kpo (by decide) (by decide)
 have rsS:=setCell_other (a:=⟨w.heap.size+1,0,none⟩) rs3 (by simp) (.string nm)
 have nsS:(w3.setCell ⟨w.heap.size+1,0,none⟩ (.string nm)).heap[w.heap.size+1]? = some (.cells #[.string nm,.slice none 0 0] 254 (0,0)):=set_blk (o:=0) ns3 _
 have hkS:=hkB.setNew (p:=⟨w.heap.size+1,0,none⟩) (by simp) (.string nm)
 go_loopw [35] (fun _ wr=>∃ (A1:List Cpx) (q f cn d:Nat) (l:List Sim) (sv:Value) (xs:List Value),Sx A1 wr xb rb s q (a+cn) b (max c (b+d))∧(p≤q∧s.size < q+f∧a+cn≤q∧l.length≤q∧A <+: A1∧A1.length≤q∧(A1=A∨A1.length < q))∧wr.heap[w.heap.size]? = some (.cells #[.string ⟨#[]⟩,.slice none 0 0] 254 (0,0))∧wr.heap[w.heap.size+1]? = some (.cells #[.string nm,sv] 254 (0,0))∧wr.ownsRow w.heap.size 263 11 sv l.length xs∧Row (repS (RepL A1 (fun k=>w.heap.size≤k∧sv.ownBlock≠some k) wr n)) l xs∧Hid (simplesP (listP s n) s f l cn d q=simplesP (listP s n) s (s.size+1) [] 0 0 q00)∧Kp B TS w wr) (fun _ wr=>s.size - placeOf wr rb)
 case atStart =>
  refine ⟨A,q00,s.size+1,0,0,[],.slice none 0 0,[],?_,⟨by omega,by omega,by omega,Nat.zero_le _,List.prefix_refl A,by omega,.inl rfl⟩,rsS,nsS,World.ownsRow_nil _ _ _ _,rfl,rfl,hkS⟩
  rw [show a+0=a from rfl,show max c (b+0)=c from by omega]
  exact hs
 case round =>
  obtain ⟨A1,q,f,cn,d,l,sv,xs,hx,⟨hpq,hf,hcq,hlq,hA1,hAq,hAlt⟩,rs,ns,own,hrow,HQ,hk⟩:=hrel
  clear hs rsS nsS hkS
  obtain ⟨la,lc,rfl⟩:=own_slice own
  obtain ⟨f,rfl⟩:∃ f',f=f'+1:=⟨f - 1,by have:=hx.1.le; omega⟩
  cases hat:atB (peekI s q)
  ·have HE:Hid (compoundP (listP s n) s p=(q,some ((nm,l),cn,d))):=by
    rw [comp_done H0.out (HQ.out.symm.trans (simples_stop hat))]; rfl
   have HAt:=hide hat
   clear hat
   have q0:=cell2_0 ns; have q1:=cell2_1 ns
   have r0:=cell2_0 rs; have r1:=cell2_1 rs; have f0:=free_of (o:=0) rs; have f1:=free_of (o:=1) rs
   go_wp2_with (go_at_call 209; refine (atSimple_is xb rb s q (a+cn) b (max c (b+d)) _ false hx.old HAt.out).mono ?_; rintro e w2 ⟨rfl,nq,rfl⟩)
   obtain ⟨rsF,kpF⟩:=fin2 (w:=wr.drewN nq) rs (.string nm) (.slice la l.length lc)
   have hkF:=((hk.drewN nq).setNew (p:=⟨w.heap.size,0,none⟩) (Nat.le_refl _) (.string nm)).setNew (p:=⟨w.heap.size,1,none⟩) (Nat.le_refl _) (.slice la l.length lc)
   refine bodyPost_ret (v:=.tuple #[.agg #[.string nm,.slice la l.length lc],.nilIface]) (by simp [results,Tryz.results173,go_sem,r0,r1]) rfl ?_
   rw [HE.out]
   have hF:=(hx.drewN nq).kept kpF (by decide) (by decide)
   have fr:Fr progL (fun k=>w.heap.size≤k∧(Value.slice la l.length lc).ownBlock≠some k) (fun k=>w.heap.size≤k) wr (((wr.drewN nq).setCell ⟨w.heap.size,0,none⟩ (.string nm)).setCell ⟨w.heap.size,1,none⟩ (.slice la l.length lc)):=fun g cc t hg hb ht=>⟨hg.1,kpF.at hb (by rcases ht with rfl | rfl | rfl <;> decide)⟩
   exact ⟨nm,_,_,rfl,hkF,⟨_,_,_,rfl⟩,.inl ⟨l,cn,d,A1,rfl,rfl,hF,⟨hA1,hAlt⟩,xs,⟨owns_base (kpF.owns (w:=wr.drewN nq) own (by decide)) (Nat.zero_le _),fun g hg=>(own.lt g hg).1⟩,hrow.mono fun _ _ hh=>hh.mp fr⟩⟩
  ·have HAt:=hide hat
   have c0:=hx.c0
   have hle:=simpleP_gd (listP_gd s n) (lf:=listP s n) hx.1.le
   go_wp2_with fail
   refine (atSimple_is xb rb s q (a+cn) b (max c (b+d)) _ true hx.old HAt.out).mono ?_
   rintro e w2 ⟨rfl,nq,rfl⟩
   go_wp2_with fail
   refine (simple_any A1 B xb rb s n q (a+cn) b (max c (b+d)) _ IH (hx.drewN nq) hB hBx hAq hcq (by omega) (by omega) (by omega)).mono ?_
   rintro e w3 ⟨k,x,y,z,lv,v,rfl,hk3,⟨va,vm,vc,rfl⟩,hor⟩
   have hk3':Kp B TS wr w3:=hk3.fromDrewN
   have rs3:=hk3'.tsR rs (by decide) (by decide)
   have ns3:=hk3'.tsR ns (by decide) (by decide)
   have own3:=hk3'.owns own (by simp [TS])
   have hkA:=hk.trans hk3'
   have hrow3:=hrow.mono fun _ _ hh=>hh.mp (Fr.ofKp hk3' (by simp [TS,progL]) (by simp [TS,progL]) (by simp [TS,progL]) fun _ hg=>hg)
   rw [show (wr.drewN nq).heap.size=wr.heap.size from rfl] at hor
   have hsz3:=hk3'.size
   unfold simV
   rcases hor with ⟨m,c1,d1,A2,ho,rfl,h3,hA2,hr3⟩ | ⟨ho,⟨A9,q',a',b',c',h3⟩,j,hc⟩
   rotate_left
   ·have HE:Hid (compoundP (listP s n) s p=((simpleP (listP s n) s q).1,none)):=by
     have e1:simpleP (listP s n) s q=((simpleP (listP s n) s q).1,none):=by rw [← ho]
     rw [comp_done H0.out (HQ.out.symm.trans (simples_goN HAt.out e1))]; rfl
    obtain ⟨ty,kk,hv⟩:=hc.shape
    rw [hv] at hc ⊢
    clear ho
    have hcB:=hc.alloc (.cells #[.int .i64 k,.string x,.string y.name,.string y.op,.string y.val,.bool y.any,.string z.word,.bool z.hasN,.int .i64 z.a,.int .i64 z.b,.slice va vm vc] 263)
    have hB3:=h3.alloc (.cells #[.int .i64 k,.string x,.string y.name,.string y.op,.string y.val,.bool y.any,.string z.word,.bool z.hasN,.int .i64 z.a,.int .i64 z.b,.slice va vm vc] 263)
    have rsB:=alloc_old rs3 (.cells #[.int .i64 k,.string x,.string y.name,.string y.op,.string y.val,.bool y.any,.string z.word,.bool z.hasN,.int .i64 z.a,.int .i64 z.b,.slice va vm vc] 263)
    have hkB:=hkA.alloc (.cells #[.int .i64 k,.string x,.string y.name,.string y.op,.string y.val,.bool y.any,.string z.word,.bool z.hasN,.int .i64 z.a,.int .i64 z.b,.slice va vm vc] 263)
    have r0:=cell2_0 rsB; have r1:=cell2_1 rsB; have f0:=free_of (o:=0) rsB; have f1:=free_of (o:=1) rsB
    go_wp2
    clear r0 r1 f0 f1
    generalize w3.alloc (.cells #[.int .i64 k,.string x,.string y.name,.string y.op,.string y.val,.bool y.any,.string z.word,.bool z.hasN,.int .i64 z.a,.int .i64 z.b,.slice va vm vc] 263)=w4 at *
    have r0:=cell2_0 rsB; have r1:=cell2_1 rsB
    obtain ⟨rsF,kpF⟩:=fin2 rsB (.string ⟨#[]⟩) (.slice none 0 0)
    have hkF:=(hkB.setNew (p:=⟨w.heap.size,0,none⟩) (Nat.le_refl _) (.string ⟨#[]⟩)).setNew (p:=⟨w.heap.size,1,none⟩) (Nat.le_refl _) (.slice none 0 0)
    refine bodyPost_ret (v:=.tuple #[.agg #[.string ⟨#[]⟩,.slice none 0 0],.iface ty (.pointer (some ⟨kk,0,none⟩))]) (by simp [results,Tryz.results173,go_sem,r0,r1]) rfl ?_
    rw [HE.out]
    exact ⟨_,_,_,rfl,hkF,⟨_,_,_,rfl⟩,.inr ⟨rfl,⟨_,_,_,_,_,hB3.kept kpF (by decide) (by decide)⟩,j,hcB.kept kpF (by decide) (by decide)⟩⟩
   ·obtain ⟨⟨g1,g2,g3⟩,g4⟩:=hle
    have g3:=g3 _ ho
    have g4:=g4 _ ho
    dsimp only at g3
    generalize hq2:(simpleP (listP s n) s q).1=q2 at *
    have HS:Hid (simpleP (listP s n) s q=(q2,some (m,c1,d1))):=by rw [← hq2,← ho]; rfl
    have HE:Hid (simplesP (listP s n) s f (l++[m]) (cn+c1) (max d d1) q2=simplesP (listP s n) s (s.size+1) [] 0 0 q00):=by
     rw [← HQ.out,simples_goS HAt.out HS.out]; rfl
    clear hq2 ho
    have h4:=h3.alloc (.cells #[.int .i64 k,.string x,.string y.name,.string y.op,.string y.val,.bool y.any,.string z.word,.bool z.hasN,.int .i64 z.a,.int .i64 z.b,.slice va vm vc] 263)
    have rs4:=alloc_old rs3 (.cells #[.int .i64 k,.string x,.string y.name,.string y.op,.string y.val,.bool y.any,.string z.word,.bool z.hasN,.int .i64 z.a,.int .i64 z.b,.slice va vm vc] 263)
    have ns4:=alloc_old ns3 (.cells #[.int .i64 k,.string x,.string y.name,.string y.op,.string y.val,.bool y.any,.string z.word,.bool z.hasN,.int .i64 z.a,.int .i64 z.b,.slice va vm vc] 263)
    have own4:=own3.alloc (.cells #[.int .i64 k,.string x,.string y.name,.string y.op,.string y.val,.bool y.any,.string z.word,.bool z.hasN,.int .i64 z.a,.int .i64 z.b,.slice va vm vc] 263)
    have ms4:=alloc_at w3 (.cells #[.int .i64 k,.string x,.string y.name,.string y.op,.string y.val,.bool y.any,.string z.word,.bool z.hasN,.int .i64 z.a,.int .i64 z.b,.slice va vm vc] 263)
    have hkB:=hkA.alloc (.cells #[.int .i64 k,.string x,.string y.name,.string y.op,.string y.val,.bool y.any,.string z.word,.bool z.hasN,.int .i64 z.a,.int .i64 z.b,.slice va vm vc] 263)
    have hrow4:=(hrow3.mono fun _ _ hh=>hh.up hA2.1).mono fun _ _ hh=>hh.mp (Fr.alloc (.cells #[.int .i64 k,.string x,.string y.name,.string y.op,.string y.val,.bool y.any,.string z.word,.bool z.hasN,.int .i64 z.a,.int .i64 z.b,.slice va vm vc] 263) fun _ hg=>hg)
    have hr4:repS (RepL A2 (fun k=>w.heap.size≤k∧(Value.slice la l.length lc).ownBlock≠some k) (w3.alloc (.cells #[.int .i64 k,.string x,.string y.name,.string y.op,.string y.val,.bool y.any,.string z.word,.bool z.hasN,.int .i64 z.a,.int .i64 z.b,.slice va vm vc] 263)) n) m (simCells k x y z (.slice va vm vc)):=hr3.mp (Fr.alloc _ fun g hg=>⟨by have:=hk.size; omega,fun e=>by have:=(own.lt g e).2; omega⟩)
    obtain ⟨⟨m0,m1,m2,m3,m4,m5,m6,m7,m8,m9,m10⟩,_⟩:=cells11 ms4
    have t0:=cell2_0 ns4; have t1:=cell2_1 ns4; have f1:=free_of (o:=1) ns4
    have hw3:=hkA.size
    clear own3 ns3 rs3 hkA hrow3 hr3 h3 own hrow rs ns
    go_wp2_with (at_builtin; refine wpList_append_lies _ rfl _ _ 252 rfl w.heap.size 263 i0 (.agg #[.int .i64 0,.string ⟨#[]⟩,.string ⟨#[]⟩,.string ⟨#[]⟩,.string ⟨#[]⟩,.bool false,.string ⟨#[]⟩,.bool false,.int .i64 0,.int .i64 0,.slice none 0 0]) 11 144 Tryz.underlying252 hi hz0 hz1 hz2 rfl (by decide) _ _ _ rfl (own4.alloc _) ⟨w3.heap.size+1,0,none⟩ 1 1 (simCells k x y z (.slice va vm vc)) rfl rfl ?c1 ?c2 (by decide) ?c3 ?c4 ?c5 _ rfl ?_)
    case c1=>exact cells_new #[.int .i64 k,.string x,.string y.name,.string y.op,.string y.val,.bool y.any,.string z.word,.bool z.hasN,.int .i64 z.a,.int .i64 z.b,.slice va vm vc] 263 (by simp)
    case c2=>exact simCells_one _ _ _ _ _ _ _
    case c3=>unfold maxLen; omega
    case c4=>omega
    case c5=>simp; omega
    intro g cap w5 own5 hgrow5 hat5 hlt5
    have KA:=(hkB.alloc (.cells #[.int .i64 k,.string x,.string y.name,.string y.op,.string y.val,.bool y.any,.string z.word,.bool z.hasN,.int .i64 z.a,.int .i64 z.b,.slice va vm vc] 263)).grownNew hgrow5 (fun k e=>(own4.lt k e).1)
    have NB:∀ {cc:Array Value} {ty:TypeId} {bk:Nat},(w3.alloc (.cells #[.int .i64 k,.string x,.string y.name,.string y.op,.string y.val,.bool y.any,.string z.word,.bool z.hasN,.int .i64 z.a,.int .i64 z.b,.slice va vm vc] 263)).heap[bk]? = some (.cells cc ty (0,0))→ty≠263→w5.heap[bk]? = some (.cells cc ty (0,0)):=fun hb hty=>kept_grown (own4.alloc _) hgrow5 (alloc_old hb _) hty
    have h5x:Sx A2 w5 xb rb s q2 (a+cn+c1) b (max (max c (b+d)) (b+d1)):=⟨⟨NB h4.1.1 (by decide),h4.1.2,h4.1.3⟩,NB h4.2 (by decide)⟩
    have rs5:=NB rs4 (by decide)
    have ns5:=NB ns4 (by decide)
    have frg:Fr progL (fun k=>w.heap.size≤k∧(Value.slice la l.length lc).ownBlock≠some k) (fun k=>w.heap.size≤k∧(Value.slice (some ⟨g,0,none⟩) (l.length+1) cap).ownBlock≠some k) ((w3.alloc (.cells #[.int .i64 k,.string x,.string y.name,.string y.op,.string y.val,.bool y.any,.string z.word,.bool z.hasN,.int .i64 z.a,.int .i64 z.b,.slice va vm vc] 263)).alloc (.cells #[.int .i64 k,.string x,.string y.name,.string y.op,.string y.val,.bool y.any,.string z.word,.bool z.hasN,.int .i64 z.a,.int .i64 z.b,.slice va vm vc] 263)) w5 :=
     Fr.grown hgrow5 (by simpa using hat5) (fun k hk=>hk.2) (fun k hk hne=>⟨hk.1,by simp only [Value.ownBlock,ne_eq,Option.some.injEq]; exact fun e=>hne e.symm⟩)
    have hrow5:=(hrow4.mono fun _ _ hh=>(hh.mp (Fr.alloc (.cells #[.int .i64 k,.string x,.string y.name,.string y.op,.string y.val,.bool y.any,.string z.word,.bool z.hasN,.int .i64 z.a,.int .i64 z.b,.slice va vm vc] 263) fun _ hg=>hg)).mp frg).snoc ((hr4.mp (Fr.alloc (.cells #[.int .i64 k,.string x,.string y.name,.string y.op,.string y.val,.bool y.any,.string z.word,.bool z.hasN,.int .i64 z.a,.int .i64 z.b,.slice va vm vc] 263) fun _ hg=>hg)).mp frg)
    clear hgrow5 NB frg hat5 own4 hrow4 hr4 h4 rs4 ns4 hkB m0 m1 m2 m3 m4 m5 m6 m7 m8 m9 m10 t0 t1 f1
    have kps:=Kp.setAny (p:=⟨w.heap.size+1,1,none⟩) ns5 (.slice (some ⟨g,0,none⟩) (l.length+1) cap)
    have own6:=kps.owns own5 (by decide)
    have h6x:=h5x.kept kps (by decide) (by decide)
    have rs6:=setCell_other (a:=⟨w.heap.size+1,1,none⟩) rs5 (by simp) (.slice (some ⟨g,0,none⟩) (l.length+1) cap)
    have ns6:(w5.setCell ⟨w.heap.size+1,1,none⟩ (.slice (some ⟨g,0,none⟩) (l.length+1) cap)).heap[w.heap.size+1]? = some (.cells #[.string nm,.slice (some ⟨g,0,none⟩) (l.length+1) cap] 254 (0,0)):=set_blk (o:=1) ns5 _
    have KB:=KA.setNew (p:=⟨w.heap.size+1,1,none⟩) (by simp) (.slice (some ⟨g,0,none⟩) (l.length+1) cap)
    have hrow6:=hrow5.mono fun _ _ hh=>hh.mp (Fr.ofKp kps (by decide) (by decide) (by decide) fun _ hg=>hg)
    have t0:=cell2_0 ns5; have t1:=cell2_1 ns5; have f1:=free_of (o:=1) ns5
    have hpl:=h6x.1.placeOf
    have hpl0:=hx.1.placeOf
    have HROW:=hide hrow6
    clear hrow5 hrow6
    have hA2q:A2.length≤q2∧(A2=A∨A2.length < q2):=by
     rcases hA2.2 with e | e
     ·rw [e]; exact ⟨by omega,hAlt.imp id fun h=>by omega⟩
     ·exact ⟨by omega,.inr e⟩
    have hA12:=hA1.trans hA2.1
    clear hA2
    go_wp2
    go_roundw
    case rel =>
     refine ⟨A2,q2,f,cn+c1,max d d1,l++[m],_,_,?_,⟨by omega,by omega,by omega,by simp; omega,hA12,hA2q.1,hA2q.2⟩,rs6,ns6,by rw [List.length_append]; exact own6,HROW.out,HE,KB⟩
     rw [show a+(cn+c1)=a+cn+c1 from by omega,show max c (b+max d d1)=max (max c (b+d)) (b+d1) from by omega]
     exact h6x
    case measure=>rw [hpl,hpl0]; omega
theorem compound_any (A:List Cpx) (B xb rb:Nat) (s:ByteArray) (n p a b c:Nat) (w:World) (IH:ListOk B xb rb s n) (h:Sx A w xb rb s p a b c) (hB:B≤rb) (hBx:B≤xb) (hA:A.length≤p) (ha:a≤p) (hb:b≤p+1) (hbc:b≤c) (hn:s.size≤p+n) :
  Calls Tryz.prog 173 #[.pointer (some ⟨xb,0,none⟩)] w (CompPost A B xb rb s n p a b c w):=by
 by_cases h42:peekI s p=42
 ·exact compound_star A B xb rb s n p a b c w IH h hB hBx hA ha hb hbc hn h42
 ·cases hat:atB (peekI s p)
  ·exact compound_name A B xb rb s n p a b c w IH h hB hBx hA ha hb hbc hn h42 hat
  ·exact compound_none A B xb rb s n p a b c w IH h hB hBx hA ha hb hbc hn h42 hat
theorem complex_any (A : List Cpx) (B xb rb : Nat) (s : ByteArray) (n p a b c : Nat) (w : World) (IH : ListOk B xb rb s n) (h : Sx A w xb rb s p a b c) (hB : B ≤ rb) (hBx : B ≤ xb) (hA : A.length ≤ p) (ha : a ≤ p) (hb : b ≤ p + 1) (hbc : b ≤ c) (hn : s.size ≤ p + n) :
  Calls Tryz.prog 128 #[.pointer (some ⟨xb,0,none⟩)] w (CpxPost A B xb rb s n p a b c w):=by
 have h5:=h.1.max; have h6:=h.1.le
 obtain ⟨i0,hi,hz0,hz1,hz2⟩:=info_parts Tryz.infoStep
 unfold CpxPost
 go_enter Tryz.func128,Tryz.ntmps128
 go_wp2
 go_loopw [4,5,6] (fun sv cb mv wr=>∃ (A1:List Cpx) (q f cn d:Nat) (l:Cpx) (xs:List Value) (bb:Int) (m:Bool),cb=.int .u8 bb∧mv=.bool m∧Sx A1 wr xb rb s q (a+cn) b (max c (b+d))∧(p≤q∧s.size < q+f∧a+cn≤q∧l.length≤q∧A <+: A1∧A1.length≤q)∧wr.ownsRow w.heap.size 256 4 sv l.length xs∧Row (repT A1 (fun k=>w.heap.size≤k∧sv.ownBlock≠some k) wr (RepL A1 (fun k=>w.heap.size≤k∧sv.ownBlock≠some k) wr n)) (prefs l) xs∧Hid (cpxAt (listP s n) s m f l cn d bb q=complexP (listP s n) s (s.size+1) [] 0 0 0 p)∧Kp B TS w wr) (fun _ _ mv wr=>if boolOf mv=true then s.size+1 - placeOf wr rb else 0)
 case atStart =>
  refine ⟨A,p,s.size+1,0,0,[],[],0,true,rfl,rfl,?_,⟨by omega,by omega,by omega,Nat.zero_le _,List.prefix_refl A,hA⟩,World.ownsRow_nil _ _ _ _,rfl,rfl,Kp.refl _ _ _⟩
  rw [show a+0=a from rfl,show max c (b+0)=c from by omega]
  exact h
 case round =>
  obtain ⟨A1,q,f,cn,d,l,xs,bb,m,rfl,rfl,hx,⟨hpq,hf,hcq,hlq,hA1,hAq⟩,own,hrow,HQ,hk⟩:=hrel
  obtain ⟨la,lc,rfl⟩:=own_slice own
  cases m
  ·have HE:Hid (complexP (listP s n) s (s.size+1) [] 0 0 0 p=(q,some (l,cn,d))):=hide HQ.out.symm
   go_wp2
   go_ret2
   rw [HE.out]
   have fr:Fr progL (fun k=>w.heap.size≤k∧(Value.slice la l.length lc).ownBlock≠some k) (fun k=>w.heap.size≤k) wr wr:=Fr.same fun _ hg=>hg.1
   exact ⟨_,_,rfl,hk,.inl ⟨l,cn,d,A1,rfl,rfl,hx,⟨hA1,hAq⟩,xs,⟨owns_base own (Nat.zero_le _),fun g hg=>(own.lt g hg).1⟩,hrow.mono fun _ _ hh=>hh.mp fr⟩⟩
  ·have HQ' : Hid (complexP (listP s n) s f l cn d bb q = complexP (listP s n) s (s.size + 1) [] 0 0 0 p) := hide HQ.out
   clear HQ
   obtain ⟨f,rfl⟩:∃ f',f=f'+1:=⟨f - 1,by have:=hx.1.le; omega⟩
   have hle:=compoundP_gd (listP_gd s n) (lf:=listP s n) hx.1.le
   go_wp2_with fail
   refine (compound_any A1 B xb rb s n q (a+cn) b (max c (b+d)) _ IH hx hB hBx hAq hcq (by omega) (by omega) (by omega)).mono ?_
   rintro e w3 ⟨nm,lv,v,rfl,hk3,⟨va,vm,vc,rfl⟩,hor⟩
   have own3:=hk3.owns own (by simp [TS])
   have hkA:=hk.trans hk3
   have hrow3:=hrow.mono fun _ _ hh=>hh.mp (Fr.ofKp hk3 (by simp [TS,progL]) (by simp [TS,progL]) (by simp [TS,progL]) fun _ hg=>hg)
   have hsz3:=hk3.size
   rcases hor with ⟨ms,c1,d1,A2,ho,rfl,h3,hA2,hr3⟩ | ⟨ho,⟨A9,q',a',b',c',h3⟩,j,hc⟩
   rotate_left
   ·have HE:Hid (complexP (listP s n) s (s.size+1) [] 0 0 0 p=((compoundP (listP s n) s q).1,none)):=by
     have e1:compoundP (listP s n) s q=((compoundP (listP s n) s q).1,none):=by rw [← ho]
     rw [← HQ'.out,cpx_N e1]; rfl
    obtain ⟨ty,kk,hv⟩:=hc.shape
    rw [hv] at hc ⊢
    clear ho
    go_wp2
    go_ret2
    rw [HE.out]
    exact ⟨_,_,rfl,hkA.alloc _,.inr ⟨rfl,rfl,⟨_,_,_,_,_,h3.alloc _⟩,j,hc.alloc _⟩⟩
   ·obtain ⟨⟨g1, g2, g3⟩, g4⟩ := hle
    have g3:=g3 _ ho
    have g4:=g4 _ ho
    dsimp only at g3
    generalize hq2:(compoundP (listP s n) s q).1=q2 at *
    have HS:Hid (compoundP (listP s n) s q=(q2,some ((nm,ms),c1,d1))):=by rw [← hq2,← ho]; rfl
    clear hq2 ho
    have h4:=h3.alloc (.cells #[.string nm,.slice va vm vc] 254)
    have own4:=own3.alloc (.cells #[.string nm,.slice va vm vc] 254)
    have ms4:=alloc_at w3 (.cells #[.string nm,.slice va vm vc] 254)
    have hkB:=hkA.alloc (.cells #[.string nm,.slice va vm vc] 254)
    obtain ⟨A3,hA3⟩:∃ A3,A3=A2++[l++[(bb,nm,ms)]]:=⟨_,rfl⟩
    have hA23:A2 <+: A3:=⟨_,hA3.symm⟩
    have hA3l:A3.length=A2.length+1:=by rw [hA3]; simp
    have hA3g:A3[A2.length]? = some (l++[(bb,nm,ms)]):=by rw [hA3]; simp
    have hA3q:A3.length≤q2:=by
     rcases hA2.2 with e | e
     ·rw [hA3l,e]; omega
     ·omega
    have HA3l:=hide hA3l
    have HA3g:=hide hA3g
    clear hA3l hA3g hA3
    have hrow4:=(hrow3.mono fun _ _ hh=>hh.up (hA2.1.trans hA23)).mono fun _ _ hh=>hh.mp (Fr.alloc (.cells #[.string nm,.slice va vm vc] 254) fun _ hg=>hg)
    have hkx0:=h4.2
    obtain ⟨kx,hkx1⟩:∃ kx:Int,kx=(A2.length:Int):=⟨_,rfl⟩
    have hkx:(w3.alloc (.cells #[.string nm,.slice va vm vc] 254)).heap[xb]? = some (.cells #[.pointer (some ⟨rb,0,none⟩),.int .i64 kx,.int .i64 (a+cn+c1:Nat),.int .i64 b,.int .i64 (max (max c (b+d)) (b+d1):Nat)] 179 (0,0)):=by rw [hkx1]; exact hkx0
    clear hkx0
    have hkl:0≤kx∧kx≤3000:=by have e3:=HA3l.out; rw [hkx1]; omega
    have HKX:=hide hkx1
    clear hkx1
    have kc1:(w3.alloc (.cells #[.string nm,.slice va vm vc] 254)).cell? ⟨xb,1,none⟩=some (.int .i64 kx):=by simp [World.cell?,hkx]
    have hr4:repT A3 (fun k=>w.heap.size≤k∧(Value.slice la l.length lc).ownBlock≠some k) (w3.alloc (.cells #[.string nm,.slice va vm vc] 254)) (RepL A3 (fun k=>w.heap.size≤k∧(Value.slice la l.length lc).ownBlock≠some k) (w3.alloc (.cells #[.string nm,.slice va vm vc] 254)) n) (l++[(bb,nm,ms)]) [.int .i64 kx,.int .u8 bb,.string nm,.slice va vm vc] :=
     ⟨l,(bb,nm,ms),A2.length,.slice va vm vc,rfl,by rw [HKX.out],HA3g.out,(hr3.up hA23).mp (Fr.alloc _ fun g hg=>⟨by have:=hk.size; omega,fun e=>by have:=(own.lt g e).2; omega⟩)⟩
    have m0:=cell2_0 ms4; have m1:=cell2_1 ms4
    have hw3:=hkA.size
    clear own3 hkA hrow3 hr3 h3 own hrow
    go_wp2
    go_region_law (refine step_append_lies _ rfl (.tmp 18) (.tmp 26) 206 rfl w.heap.size 256 i0 (.agg #[.int .i64 0,.int .u8 0,.string ⟨#[]⟩,.slice none 0 0]) 4 56 Tryz.underlying206 hi hz0 hz1 hz2 ?_ ?_ (.slice la l.length lc) l.length xs ?_ ?_ ⟨w3.heap.size+1,0,none⟩ 1 1 [.int .i64 kx,.int .u8 bb,.string nm,.slice va vm vc] ?_ ?_ ?_ ?_ ?_ ?_ ?_ ?_ (w3.heap.size+2) ?_ ?_; (rfl); (decide); (simp [Act.eval]); (exact own4.alloc _); (simp [Act.eval]); (rfl); (exact cells_new #[.int .i64 kx,.int .u8 bb,.string nm,.slice va vm vc] 256 (by simp)); (intro u hu; simp at hu; rcases hu with rfl | rfl | rfl | rfl <;> rfl); (decide); (unfold maxLen; omega); (omega); (simp; omega); (simp); intro g cap w5 own5 hgrow5' hat5 hlt5; have hgrow5:=undrew hgrow5'; clear hgrow5')
    all_goals
     have KA:=(hkB.alloc (.cells #[.int .i64 kx,.int .u8 bb,.string nm,.slice va vm vc] 256)).grownNew hgrow5 (fun k e=>(own4.lt k e).1)
     have NB:∀ {cc:Array Value} {ty:TypeId} {bk:Nat},(w3.alloc (.cells #[.string nm,.slice va vm vc] 254)).heap[bk]? = some (.cells cc ty (0,0))→ty≠256→w5.heap[bk]? = some (.cells cc ty (0,0)):=fun hb hty=>kept_grown (own4.alloc _) hgrow5 (alloc_old hb _) hty
     have h5x:Sx A2 w5 xb rb s q2 (a+cn+c1) b (max (max c (b+d)) (b+d1)):=⟨⟨NB h4.1.1 (by decide),h4.1.2,h4.1.3⟩,by rw [← HKX.out]; exact NB hkx (by decide)⟩
     have kb5:=NB hkx (by decide)
     have kc5:w5.cell? ⟨xb,1,none⟩=some (.int .i64 kx):=by simp [World.cell?,kb5]
     have kf5:w5.frozen? ⟨xb,1,none⟩=false:=h5x.free
     have frg:Fr progL (fun k=>w.heap.size≤k∧(Value.slice la l.length lc).ownBlock≠some k) (fun k=>w.heap.size≤k∧(Value.slice (some ⟨g,0,none⟩) (l.length+1) cap).ownBlock≠some k) ((w3.alloc (.cells #[.string nm,.slice va vm vc] 254)).alloc (.cells #[.int .i64 kx,.int .u8 bb,.string nm,.slice va vm vc] 256)) w5 :=
      Fr.grown hgrow5 (by simpa using hat5) (fun k hk=>hk.2) (fun k hk hne=>⟨hk.1,by simp only [Value.ownBlock,ne_eq,Option.some.injEq]; exact fun e=>hne e.symm⟩)
     have hrow5:=(hrow4.mono fun _ _ hh=>(hh.mp (Fr.alloc (.cells #[.int .i64 kx,.int .u8 bb,.string nm,.slice va vm vc] 256) fun _ hg=>hg)).mp frg).snoc ((hr4.mp (Fr.alloc (.cells #[.int .i64 kx,.int .u8 bb,.string nm,.slice va vm vc] 256) fun _ hg=>hg)).mp frg)
     have HROW:=hide hrow5
     clear hgrow5 NB frg hat5 own4 hrow4 hr4 h4 hkB m0 m1 ms4 hrow5
     have h5s:∀ vv:Int,vv=kx+1→Sx A3 (w5.setCell ⟨xb,1,none⟩ (.int .i64 vv)) xb rb s q2 (a+cn+c1) b (max (max c (b+d)) (b+d1)):=fun vv hv=>⟨⟨setCell_other h5x.1.1 h5x.ne _,h5x.1.2,h5x.1.3⟩,by rw [show (A3.length:Int)=vv from by rw [hv,HKX.out,HA3l.out]; omega]; exact set_blk (o:=1) kb5 _⟩
     have kps:∀ vv:Int,Kp 0 [179] w5 (w5.setCell ⟨xb,1,none⟩ (.int .i64 vv)):=fun vv=>Kp.setAny (p:=⟨xb,1,none⟩) kb5 (.int .i64 vv)
     have KAs:∀ vv:Int,Kp B TS w (w5.setCell ⟨xb,1,none⟩ (.int .i64 vv)):=fun vv=>h5x.kpS (o:=1) KA hBx (.int .i64 vv)
     have hcl:=combP_le (s:=s) (p:=q2) h5x.1.le
     go_wp2_with fail
     refine (combinator_any B xb rb s q2 (a+cn+c1) b (max (max c (b+d)) (b+d1)) _ (h5s _ rfl).old hB).mono ?_
     rintro e w6 ⟨x6,m6,rfl,h6o,hk6,hor6⟩
     have h6x:=(h5s _ rfl).step h6o.1 hk6
     have own6:=hk6.owns ((kps _).owns own5 (by decide)) (by decide)
     have KB:=(KAs _).trans hk6.ts
     have hrow6:=HROW.out.mono fun _ _ hh=>(hh.mp (Fr.ofKp (kps _) (by decide) (by decide) (by decide) fun _ hg=>hg)).mp (Fr.ofKp hk6 (by decide) (by decide) (by decide) fun _ hg=>hg)
     have hpl:=h6x.1.placeOf
     have hpl0:=hx.1.placeOf
     have hle6:=h6x.1.le
     have HROW6:=hide hrow6
     clear hrow6 HROW
     go_wp2
     go_roundw
     case rel =>
      refine ⟨A3,(combP s q2).1,f,cn+c1,max d d1,l++[(bb,nm,ms)],_,x6,m6,rfl,rfl,?_,⟨by omega,by omega,by omega,by simp; omega,(hA1.trans hA2.1).trans hA23,by omega⟩,by rw [List.length_append]; exact own6,by rw [prefs_snoc]; exact HROW6.out,?_,KB⟩
      ·rw [show a+(cn+c1)=a+cn+c1 from by omega,show max c (b+max d d1)=max (max c (b+d)) (b+d1) from by omega]
       exact h6x
      ·rcases hor6 with ⟨ho,rfl⟩ | ⟨ho,rfl⟩
       ·refine hide (Eq.trans ?_ HQ'.out)
        rw [cpx_G HS.out (q2:=(combP s q2).1) (b':=x6) (by rw [← ho])]; rfl
       ·refine hide (Eq.trans ?_ HQ'.out)
        rw [cpx_S HS.out (q2:=(combP s q2).1) (by rw [← ho])]; rfl
     case measure =>
      rw [hpl,hpl0]
      cases m6
      ·simp [boolOf]; omega
      ·simp [boolOf]; omega
theorem rowC_mp {A:List Cpx} {P P':Nat→Prop} {w w':World} (hf:Fr progL P P' w w') {n:Nat} {l:SLst} {xs:List Value} (h:Row (fun cx vs=>∃ v',vs=[v']∧repC A P w (RepL A P w n) v' cx) l xs):Row (fun cx vs=>∃ v',vs=[v']∧repC A P' w' (RepL A P' w' n) v' cx) l xs:=h.mono fun _ _ ⟨v',hv',hh⟩=>⟨v',hv',hh.mp hf⟩
theorem rowC_up {A A':List Cpx} {P:Nat→Prop} {w:World} (hA:A <+: A') {n:Nat} {l:SLst} {xs:List Value} (h:Row (fun cx vs=>∃ v',vs=[v']∧repC A P w (RepL A P w n) v' cx) l xs):Row (fun cx vs=>∃ v',vs=[v']∧repC A' P w (RepL A' P w n) v' cx) l xs:=h.mono fun _ _ ⟨v',hv',hh⟩=>⟨v',hv',hh.up hA⟩
theorem list_succ (B xb rb : Nat) (s : ByteArray) (n : Nat) (IH : ListOk B xb rb s n) (hB : B ≤ rb) (hBx : B ≤ xb) : ListOk B xb rb s (n + 1) := by
 intro A p a b c w h hA ha hb hbc hn
 have h5:=h.1.max; have h6:=h.1.le
 obtain ⟨i0,hi,hz0,hz1,hz2⟩:=info_parts Tryz.infoCpx
 have d2:=h.c2; have df:=h.free (o:=3)
 unfold ListPost
 go_enter Tryz.func93,Tryz.ntmps93
 go_wp2
 have h1:=h.set2 (b':=b+1) (v:=(b:Int)+1) (by omega)
 have hk1:=h.kpS (o:=3) (Kp.refl B TS w) hBx (.int .i64 ((b:Int)+1))
 clear d2 df
 generalize w.setCell ⟨xb,3,none⟩ (.int .i64 ((b:Int)+1))=w1 at *
 have d2:=h1.c2; have d3:=h1.c3; have df:=h1.free (o:=4)
 go_region_with (fail)
 all_goals
  have hmx:(if (c:Int) < (b:Int)+1 then (b:Int)+1 else (c:Int))=((max c (b+1):Nat):Int):=by split <;> omega
  rw [hmx]
  have h2:=(h1.set3 (c':=max c (b+1)) rfl).drewN 1
  have hk2:=(h1.kpS (o:=4) hk1 hBx (.int .i64 ((max c (b+1):Nat):Int))).drewN 1
  clear d2 d3 df hmx
  go_wp2_with fail
  go_loopw [4] (fun sv wr=>∃ (A1:List Cpx) (q f cn d:Nat) (l:SLst) (xs:List Value),Sx A1 wr xb rb s q (a+cn) (b+1) (max c (b+1+d))∧(p≤q∧s.size < q+f∧a+cn≤q∧l.length≤q∧A <+: A1∧A1.length≤q)∧wr.ownsRow w.heap.size 206 1 sv l.length xs∧Row (fun cx vs=>∃ v',vs=[v']∧repC A1 (fun k=>w.heap.size≤k∧sv.ownBlock≠some k) wr (RepL A1 (fun k=>w.heap.size≤k∧sv.ownBlock≠some k) wr n) v' cx) l xs∧Hid (partsP (listP s n) s f l cn d q=listP s (n+1) p)∧Kp B TS w wr) (fun _ wr=>s.size+1 - placeOf wr rb)
  case atStart=>exact ⟨A,p,s.size+1,0,0,[],[],h2,⟨by omega,by omega,by omega,Nat.zero_le _,List.prefix_refl A,hA⟩,World.ownsRow_nil _ _ _ _,rfl,rfl,hk2⟩
  case round =>
   clear h1 hk1 h2 hk2
   obtain ⟨A1,q,f,cn,d,l,xs,hx,⟨hpq,hf,hcq,hlq,hA1,hAq⟩,own,hrow,HQ,hk⟩:=hrel
   obtain ⟨la,lc,rfl⟩:=own_slice own
   obtain ⟨f,rfl⟩:∃ f',f=f'+1:=⟨f - 1,by have:=hx.1.le; omega⟩
   have hsp:=spP_le hx.1.le
   have hle:=complexP_gd (listP_gd s n) (lf:=listP s n) (s.size+1) [] 0 0 0 (spP s q) hsp.2
   have c0:=hx.c0
   go_wp2_with fail
   refine (spaces_any B rb s q _ hx.1 hB).mono ?_
   rintro e w2 ⟨rfl,hr2,hk2⟩
   have h2:=hx.step hr2 hk2
   have own2:=hk2.owns own (by decide)
   have hkA:=hk.trans hk2.ts
   have hrow2:=rowC_mp (Fr.ofKp hk2 (by decide) (by decide) (by decide) fun _ hg=>hg) hrow
   have hsz2:=hk2.size
   go_wp2_with fail
   refine (complex_any A1 B xb rb s n (spP s q) (a+cn) (b+1) (max c (b+1+d)) _ IH h2 hB hBx (by omega) (by omega) (by omega) (by omega) (by omega)).mono ?_
   rintro e w3 ⟨cv,v,rfl,hk3,hor⟩
   have own3:=hk3.owns own2 (by simp [TS])
   have hkB:=hkA.trans hk3
   have hrow3:=rowC_mp (Fr.ofKp hk3 (by simp [TS,progL]) (by simp [TS,progL]) (by simp [TS,progL]) fun _ hg=>hg) hrow2
   have hsz3:=hk3.size
   rcases hor with ⟨cx,c1,d1,A2,ho,rfl,h3,hA2,hr3⟩ | ⟨ho,rfl,⟨A9,q',a',b',c',h3⟩,j,hc⟩
   rotate_left
   ·have HE:Hid (listP s (n+1) p=((complexP (listP s n) s (s.size+1) [] 0 0 0 (spP s q)).1,none)):=by
     rw [← HQ.out,partsP]
     generalize complexP (listP s n) s (s.size+1) [] 0 0 0 (spP s q)=r at ho
     obtain ⟨q',o⟩:=r
     dsimp only at ho
     subst ho; rfl
    obtain ⟨ty,kk,hv⟩:=hc.shape
    rw [hv] at hc ⊢
    clear ho
    go_wp2
    go_ret2
    rw [HE.out]
    exact ⟨_,_,rfl,hkB,.inr ⟨rfl,rfl,⟨_,_,_,_,_,h3⟩,j,hc⟩⟩
   ·obtain ⟨g1,g2,g3⟩:=hle
    obtain ⟨⟨g3,g3'⟩,g4⟩:=g3 _ ho
    dsimp only at g3 g3'
    obtain ⟨va,vm,vc,rfl⟩:∃ va vm vc,cv=.slice va vm vc:=by
     obtain ⟨ys,⟨ho',_⟩,_⟩:=hr3
     obtain ⟨x1,x2,x3⟩:=own_slice ho'
     exact ⟨_,_,_,x3⟩
    generalize hq3:(complexP (listP s n) s (s.size+1) [] 0 0 0 (spP s q)).1=q3 at *
    have HS:Hid (complexP (listP s n) s (s.size+1) [] 0 0 0 (spP s q)=(q3,some (cx,c1,d1))):=by rw [← hq3,← ho]; rfl
    clear hq3 ho
    have hr4:repC A2 (fun k=>w.heap.size≤k∧(Value.slice la l.length lc).ownBlock≠some k) w3 (RepL A2 (fun k=>w.heap.size≤k∧(Value.slice la l.length lc).ownBlock≠some k) w3 n) (.slice va vm vc) cx:=hr3.mp (Fr.same fun g hg=>⟨by have:=hk.size; omega,fun e=>by have:=(own.lt g e).2; omega⟩)
    have hw3:=hkB.size
    have hrow3:=rowC_up hA2.1 hrow3
    clear own2 hkA hrow2 hr3 own hrow h2
    go_wp2_with (at_builtin; refine wpList_append_lies _ rfl _ _ 94 rfl w.heap.size 206 i0 (.slice none 0 0) 1 24 Tryz.underlying94 hi hz0 hz1 hz2 rfl (by decide) _ _ _ rfl (own3.alloc _) ⟨w3.heap.size,0,none⟩ 1 1 [.slice va vm vc] rfl rfl ?c1 ?c2 (by decide) ?c3 ?c4 ?c5 _ rfl ?_)
    case c1=>exact cells_new #[.slice va vm vc] 206 rfl
    case c2=>intro u hu; simp at hu; subst hu; rfl
    case c3=>unfold maxLen; omega
    case c4=>omega
    case c5=>simp; omega
    intro g cap w5 own5 hgrow5 hat5 hlt5
    have KA:=(hkB.alloc (.cells #[.slice va vm vc] 206)).grownNew hgrow5 (fun k e=>(own3.lt k e).1)
    have NB:∀ {cc:Array Value} {ty:TypeId} {bk:Nat},w3.heap[bk]? = some (.cells cc ty (0,0))→ty≠206→w5.heap[bk]? = some (.cells cc ty (0,0)):=fun hb hty=>kept_grown (own3.alloc _) hgrow5 (alloc_old hb _) hty
    have h5x:Sx A2 w5 xb rb s q3 (a+cn+c1) (b+1) (max (max c (b+1+d)) (b+1+d1)):=⟨⟨NB h3.1.1 (by decide),h3.1.2,h3.1.3⟩,NB h3.2 (by decide)⟩
    have frg:Fr progL (fun k=>w.heap.size≤k∧(Value.slice la l.length lc).ownBlock≠some k) (fun k=>w.heap.size≤k∧(Value.slice (some ⟨g,0,none⟩) (l.length+1) cap).ownBlock≠some k) (w3.alloc (.cells #[.slice va vm vc] 206)) w5 :=
     Fr.grown hgrow5 (by simpa using hat5) (fun k hk=>hk.2) (fun k hk hne=>⟨hk.1,by simp only [Value.ownBlock,ne_eq,Option.some.injEq]; exact fun e=>hne e.symm⟩)
    have hrow5:=(rowC_mp frg (rowC_mp (Fr.alloc (.cells #[.slice va vm vc] 206) fun _ hg=>hg) hrow3)).snoc (a:=cx) (c:=[.slice va vm vc]) ⟨_,rfl,(hr4.mp (Fr.alloc (.cells #[.slice va vm vc] 206) fun _ hg=>hg)).mp frg⟩
    have HROW:=hide hrow5
    clear hgrow5 NB frg hat5 own3 hrow3 hr4 h3 hkB hrow5
    have c5:=h5x.c0
    have hle5:=h5x.1.le
    by_cases h44:peekI s q3=44
    ·have HE:Hid (partsP (listP s n) s f (l++[cx]) (cn+c1) (max d d1) (q3+1)=listP s (n+1) p):=by
      rw [← HQ.out,partsP,HS.out]; dsimp only; rw [if_pos h44]; rfl
     have H44:=hide h44
     have hlt:=peek_in h44 (by decide)
     clear h44
     go_wp2_with fail
     refine (take_yes B rb s q3 _ _ h5x.1 hB (by decide) H44.out).mono ?_
     rintro e w6 ⟨rfl,hr6,hk6⟩
     have h6x:=h5x.step hr6 hk6
     have own6:=hk6.owns own5 (by decide)
     have KB:=KA.trans hk6.ts
     have hrow6:=rowC_mp (Fr.ofKp hk6 (by decide) (by decide) (by decide) fun _ hg=>hg) HROW.out
     have hpl:=h6x.1.placeOf
     have hpl0:=hx.1.placeOf
     have HROW6:=hide hrow6
     clear hrow6 HROW
     go_wp2
     go_roundw
     case rel =>
      refine ⟨A2,q3+1,f,cn+c1,max d d1,l++[cx],_,?_,⟨by omega,by omega,by omega,by simp; omega,hA1.trans hA2.1,by omega⟩,by rw [List.length_append]; exact own6,HROW6.out,HE,KB⟩
      rw [show a+(cn+c1)=a+cn+c1 from by omega,show max c (b+1+max d d1)=max (max c (b+1+d)) (b+1+d1) from by omega]
      exact h6x
     case measure=>rw [hpl,hpl0]; omega
    ·have HE:Hid (listP s (n+1) p=(q3,some (l++[cx],cn+c1,max d d1))):=by
      rw [← HQ.out,partsP,HS.out]; dsimp only; rw [if_neg h44]; rfl
     have H44:=hide h44
     clear h44
     go_wp2_with fail
     refine (take_no B rb s q3 _ _ h5x.1 (.inr H44.out)).mono ?_
     rintro e w6 ⟨rfl,hr6,hk6⟩
     have h6x:=h5x.step hr6 hk6
     have own6:=hk6.owns own5 (by decide)
     have KB:=KA.trans hk6.ts
     have hrow6:=rowC_mp (Fr.ofKp hk6 (by decide) (by decide) (by decide) fun _ hg=>hg) HROW.out
     have HROW6:=hide hrow6
     clear hrow6 HROW
     have d2:=h6x.c2; have df:=h6x.free (o:=3)
     go_wp2
     go_ret2
     rw [HE.out]
     have h7:∀ vv:Int,vv=(b:Int)→Sx A2 (w6.setCell ⟨xb,3,none⟩ (.int .i64 vv)) xb rb s q3 (a+cn+c1) b (max (max c (b+1+d)) (b+1+d1)):=fun vv hv=>h6x.set2 hv
     have kps:∀ vv:Int,Kp 0 [179] w6 (w6.setCell ⟨xb,3,none⟩ (.int .i64 vv)):=fun vv=>Kp.setAny (p:=⟨xb,3,none⟩) h6x.2 (.int .i64 vv)
     have kpf:∀ vv:Int,Kp B TS w (w6.setCell ⟨xb,3,none⟩ (.int .i64 vv)):=fun vv=>h6x.kpS (o:=3) KB hBx (.int .i64 vv)
     refine ⟨_,_,rfl,kpf _,.inl ⟨l++[cx],cn+c1,max d d1,A2,rfl,rfl,?_,⟨hA1.trans hA2.1,hA2.2⟩,_,⟨?_,?_⟩,rowC_mp (Fr.ofKp (kps _) (by decide) (by decide) (by decide) fun _ hg=>hg.1) HROW6.out⟩⟩
     ·rw [show a+(cn+c1)=a+cn+c1 from by omega,show max c (b+1+max d d1)=max (max c (b+1+d)) (b+1+d1) from by omega]
      exact h7 _ (by omega)
     ·rw [List.length_append]
      exact owns_base ((kps _).owns own6 (by decide)) (Nat.zero_le _)
     ·intro gg hg
      exact (own6.lt gg hg).1
theorem list_ok (B xb rb:Nat) (s:ByteArray) (hB:B≤rb) (hBx:B≤xb):∀ n,ListOk B xb rb s n
 | 0=>fun A p a b c w h _ _ _ _ hn=>absurd h.1.le (by omega)
 | n+1=>list_succ B xb rb s n (list_ok B xb rb s hB hBx n) hB hBx
theorem sread_any (s : ByteArray) (w : World) :
  Calls Tryz.prog 63 #[.string s] w fun e w'=>∃ (lv v:Value),e=.returned (.tuple #[lv,v])∧Below w.heap.size w w' ∧
   ((∃ l A1,compP s=(0,0,some l)∧v=.nilIface∧A1.length≤s.size∧RepL A1 (fun g=>w.heap.size≤g) w' (s.size+1) lv l)∨((compP s).2.2=none∧(compP s).1≠0∧lv=.slice none 0 0∧∃ n,Chain w' (compP s).1 (compP s).2.1 n v)):=by
 by_cases hs:200 < s.size
 ·have e1:(200:Int) < (s.size:Int):=by omega
  have HE:=hide (comp_long hs)
  go_enter Tryz.func63,Tryz.ntmps63
  go_wp2
  go_ret2
  rw [HE.out]
  exact ⟨_,_,rfl,(Below.refl _ _).alloc (Nat.le_refl _) _,.inr ⟨rfl,by decide,rfl,0,_,rfl,alloc_at _ _⟩⟩
 ·have e1 : ¬ (200 : Int) < (s.size : Int) := by omega
  have h1:Rd (w.alloc (.cells #[.string s,.int .i64 0] 210)) w.heap.size s 0:=⟨alloc_at _ _,Nat.zero_le _,by omega⟩
  have h2:Sx [] ((w.alloc (.cells #[.string s,.int .i64 0] 210)).alloc (.cells #[.pointer (some ⟨w.heap.size,0,none⟩),.int .i64 0,.int .i64 0,.int .i64 0,.int .i64 0] 179)) (w.heap.size+1) w.heap.size s 0 0 0 0:=⟨h1.alloc _,alloc_at' _ (by simp)⟩
  have hk2:=((Kp.refl w.heap.size TS w).alloc (.cells #[.string s,.int .i64 0] 210)).alloc (.cells #[.pointer (some ⟨w.heap.size,0,none⟩),.int .i64 0,.int .i64 0,.int .i64 0,.int .i64 0] 179)
  have hgd:=listP_gd s (s.size+1) 0 (Nat.zero_le _)
  go_enter Tryz.func63,Tryz.ntmps63
  go_wp2_with fail
  refine (newReader_any s _).mono ?_
  rintro e w1 ⟨rfl,rfl⟩
  go_wp2_with fail
  have hsz2:((w.alloc (.cells #[.string s,.int .i64 0] 210)).alloc (.cells #[.pointer (some ⟨w.heap.size,0,none⟩),.int .i64 0,.int .i64 0,.int .i64 0,.int .i64 0] 179)).heap.size=w.heap.size+2:=by simp
  refine (list_ok w.heap.size (w.heap.size+1) w.heap.size s (Nat.le_refl _) (by omega) (s.size+1) [] 0 0 0 0 _ h2 (Nat.le_refl _) (Nat.le_refl _) (Nat.le_refl _) (Nat.le_refl _) (by omega)).mono ?_
  rintro e w3 ⟨lv,v,rfl,hk3,hor⟩
  have hkA:=hk2.trans hk3
  rw [hsz2] at hor
  rcases hor with ⟨l,cn,d,A1,ho,rfl,h3,hA1,hr3⟩ | ⟨ho,rfl,_,n,hc⟩
  rotate_left
  ·have HE:Hid (compP s=(2,(listP s (s.size+1) 0).1,none)):=hide (comp_bad hs (by rw [← ho]))
   obtain ⟨ty,kk,hv⟩:=hc.shape
   rw [hv] at hc ⊢
   clear ho
   go_wp2
   go_ret2
   rw [HE.out]
   exact ⟨_,_,rfl,hkA.below (Nat.le_refl _),.inr ⟨rfl,by simp,rfl,n,hc⟩⟩
  ·obtain ⟨g1,g2,g3⟩:=hgd
   have g3:=g3 _ ho
   dsimp only at g3
   generalize hq:(listP s (s.size+1) 0).1=q at *
   have HL:Hid (listP s (s.size+1) 0=(q,some (l,cn,d))):=by rw [← hq,← ho]; rfl
   clear hq ho
   have c3:=h3.c0
   obtain ⟨va,vm,vc,rfl⟩:=hr3.shape
   rw [show max 0 (0+1+d)=1+d from by omega,show 0+cn=cn from by omega] at h3
   by_cases hqs:q=s.size
   ·go_wp2_with fail
    refine (done_yes w.heap.size s q _ h3.1 hqs).mono ?_
    rintro e w4 ⟨rfl,n4,rfl⟩
    go_wp2_with fail
    refine (limits_any w.heap.size (w.heap.size+1) w.heap.size s q cn 0 (1+d) _ (h3.drewN n4).old (by omega) (by omega)).mono ?_
    rintro e w5 ⟨v5,rfl,hk5,hor5⟩
    have hkB:=(hkA.drewN n4).trans (hk5.mono (Nat.le_refl _) (by simp))
    rcases hor5 with ⟨hl,rfl⟩ | ⟨hl,n5,hc5⟩
    ·have HE:=hide (comp_good hs HL.out hqs hl)
     have hr5:RepL A1 (fun g=>w.heap.size≤g) w5 (s.size+1) (.slice va vm vc) l:=hr3.map (Fr.ofKp hk5.fromDrewN (by simp) (by simp) (by simp) fun g hg=>by omega)
     go_wp2
     go_ret2
     exact ⟨_,_,rfl,hkB.below (Nat.le_refl _),.inl ⟨l,A1,HE.out,rfl,hqs ▸ hA1.2,hr5⟩⟩
    ·have HE:=hide (comp_limit hs HL.out hqs hl)
     obtain ⟨ty,kk,hv⟩:=hc5.shape
     rw [hv] at hc5 ⊢
     clear hl
     go_wp2
     go_ret2
     rw [HE.out]
     exact ⟨_,_,rfl,hkB.below (Nat.le_refl _),.inr ⟨rfl,by decide,rfl,n5,hc5⟩⟩
   ·have HE:=hide (comp_more hs HL.out hqs)
    have hq':q < s.size:=by omega
    go_wp2_with fail
    refine (done_no w.heap.size s q _ h3.1 hq').mono ?_
    rintro e w4 ⟨rfl,n4,rfl⟩
    have c4:=(h3.drewN n4).c0
    go_wp2_with fail
    refine (fail_any w.heap.size w.heap.size s q _ (h3.drewN n4).1).mono ?_
    rintro e w5 ⟨v5,rfl,hc5,hr5,hk5⟩
    go_wp2
    go_ret2
    rw [HE.out]
    exact ⟨_,_,rfl,((hkA.drewN n4).trans hk5.ts).below (Nat.le_refl _),.inr ⟨rfl,by simp,rfl,0,hc5⟩⟩
theorem compile_any (s : ByteArray) (w : World) :
  Calls Tryz.prog 29 #[.string s] w fun e w'=>Below w.heap.size w w' ∧
   ((∃ l sb lv A1,compP s=(0,0,some l)∧e=.returned (.tuple #[.pointer (some ⟨sb,0,none⟩),.nilIface])∧w.heap.size≤sb∧w'.heap[sb]? = some (.cells #[lv] 96 (0,0))∧A1.length≤s.size∧RepL A1 (fun g=>w.heap.size≤g) w' (s.size+1) lv l) ∨
    ((compP s).2.2=none∧(compP s).1≠0∧∃ v,e=.returned (.tuple #[.pointer none,v])∧Refused w' (compP s).1 (compP s).2.1 v)):=by
 go_enter Tryz.func29,Tryz.ntmps29
 go_wp2_with fail
 refine (sread_any s _).mono ?_
 rintro e w1 ⟨lv,v,rfl,hb1,hor⟩
 have hsz:=hb1.size
 rcases hor with ⟨l,A1,hcp,rfl,hA1,hr⟩ | ⟨hcn,hc0,rfl,n,hc⟩
 ·obtain ⟨va,vm,vc,rfl⟩:=hr.shape
  have HC:=hide hcp
  clear hcp
  go_wp2
  go_ret2
  exact ⟨hb1.alloc hsz _,.inl ⟨l,w1.heap.size,_,A1,HC.out,rfl,hsz,alloc_at _ _,hA1,hr.map (Fr.alloc _ fun _ hg=>hg)⟩⟩
 ·obtain ⟨ty,kk,rfl⟩:=hc.shape
  have HC:=hide hcn; have H0:=hide hc0
  clear hcn hc0
  go_wp2_with fail
  refine (while_err w.heap.size [] _ _ _ _ _ _ hc).mono ?_
  rintro e w2 ⟨u,rfl,hc2,hk2⟩
  have hb2:=hb1.trans (hk2.below hsz)
  obtain ⟨ty2,kk2,rfl⟩:=hc2.shape
  go_wp2
  go_ret2
  exact ⟨hb2.alloc (by have:=hb2.size; exact this) _,.inr ⟨HC.out,H0.out,_,rfl,_,_,_,rfl,alloc_at _ _,hc2.alloc _⟩⟩
end Go.Proofs.YtclpcnignheijaaGreatDoor.Num
