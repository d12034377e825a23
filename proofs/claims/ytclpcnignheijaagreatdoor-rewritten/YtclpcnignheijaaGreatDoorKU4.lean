/-
  Parts of the proof: KU4.
-/
import Derived.Test.YtclpcnignheijaaGreatDoorQ13
set_option maxHeartbeats 4000000
set_option maxRecDepth 100000
namespace Go.Proofs.YtclpcnignheijaaGreatDoor.Num
open Go.RowKit Go.Proofs.Tryz
theorem qSf{s:ByteArray}{k q m:Nat}(h:(qAo s (qAq k) q).2=true)(hm:m<=q)(hk:8<=k):m<(qAo s (qAq k) q).1:=by
 have e:qAq k=[41]:=by unfold qAq;rw[if_neg (by omega),if_pos hk]
 rw[e]at h ⊢;by_cases h1:qAC s q=41
 ·simp_all [qAo];try omega
 ·simp_all [qAo]
theorem qGW(A:List Cpx)(B xb rb:Nat)(s:ByteArray)(n p a b c:Nat)(w:World)(IH:qDu B xb rb s n)(h:Sx A w xb rb s p a b c)(hB:B<=rb)(hBx:B<=xb)(hA:A.length<=p)(ha:a<=p)(hb:b<=p+1)(hbc:b<=c)(hn:s.size<=p+n) :
  Calls prog 210 #[.pointer (some ⟨xb,0,none⟩)] w (qPj A B xb rb s n p a b c w):=by
 have h5:=h.1.max;have h6:=h.1.le;have h0:=h.alloc (.cells #[.int .i64 0,.string ⟨#[]⟩,.string ⟨#[]⟩,.string ⟨#[]⟩,.string ⟨#[]⟩,.bool false,.string ⟨#[]⟩,.bool false,.int .i64 0,.int .i64 0,.slice none 0 0] 263);have rs0:=qAE w (.cells #[.int .i64 0,.string ⟨#[]⟩,.string ⟨#[]⟩,.string ⟨#[]⟩,.string ⟨#[]⟩,.bool false,.string ⟨#[]⟩,.bool false,.int .i64 0,.int .i64 0,.slice none 0 0] 263);have hk0:=(Kp.refl B TS w).alloc (.cells #[.int .i64 0,.string ⟨#[]⟩,.string ⟨#[]⟩,.string ⟨#[]⟩,.string ⟨#[]⟩,.bool false,.string ⟨#[]⟩,.bool false,.int .i64 0,.int .i64 0,.slice none 0 0] 263);have d1:=h0.c1;have d0:=h0.c0;have df:=h0.free (o:=2);have h1:=h0.set1 (a':=a+1) (v:=(a:Int)+1) (by omega);have rs1:=qAH (a:=⟨xb,2,none⟩) rs0 (qFW rs0 h0.2 (by decide)) (.int .i64 ((a:Int)+1));have hk1:=h0.kpS (o:=2) hk0 hBx (.int .i64 ((a:Int)+1));have c1:=h1.c0;unfold qPj;go_enter func210,ntmps210
 go_wp2_with fail
 clear d1 d0 df h0 rs0 hk0;have hsz:((w.alloc (.cells #[.int .i64 0,.string ⟨#[]⟩,.string ⟨#[]⟩,.string ⟨#[]⟩,.string ⟨#[]⟩,.bool false,.string ⟨#[]⟩,.bool false,.int .i64 0,.int .i64 0,.slice none 0 0] 263)).setCell ⟨xb,2,none⟩ (.int .i64 ((a:Int)+1))).heap.size=w.heap.size+1:=by simp[World.setCell]
 generalize (w.alloc (.cells #[.int .i64 0,.string ⟨#[]⟩,.string ⟨#[]⟩,.string ⟨#[]⟩,.string ⟨#[]⟩,.bool false,.string ⟨#[]⟩,.bool false,.int .i64 0,.int .i64 0,.slice none 0 0] 263)).setCell ⟨xb,2,none⟩ (.int .i64 ((a:Int)+1))=w1 at *;go_region_held3 (fun wx=>wx.cell? ⟨xb,0,none⟩=some (.pointer (some ⟨rb,0,none⟩))) (first|exact hS|simp[go_sem, *]) (first|(go_at_call 216;refine(qMf A B xb rb s p (a+1) b c _ (h1.drewN _)).mono ?_;rintro e w2 ⟨g2,rfl,ws2,h2,hk2⟩;have hS:=h2.c0)|(go_at_call 232;refine(qLX B rb g2 11 13 openW s p _ h2.1 hB ws2 (by decide) qEE qKA (by decide)).mono ?_;rintro e w3 ⟨k,v,rfl,hr3,hk3,hor⟩;have h3:=h2.step hr3 hk3;have hS:=h3.c0))
 have rs3:=hk3.at (hk2.at (k:=w.heap.size) rs1 (by decide)) (by decide);have hkA:=(hk1.trans hk2.fromDrewN.ts).trans hk3.ts;have hlen:=qCp (s:=s) (words:=openW) 13 [] p k;clear hS;rcases hor with⟨ho,rfl⟩|⟨ho,rfl,hc⟩;rotate_left
 ·have HE:Hid (qAe (qAP s n) s p=((qCo s openW 13 [] p).1,none)):=by
   unfold qAe;generalize qCo s openW 13 [] p=r at ho;obtain⟨q,o⟩:=r;dsimp only at ho;subst ho;rfl
  clear hlen ho;obtain⟨ty,kk,hv⟩:=hc.shape;rw[hv]at hc ⊢;go_wp2_with fail
  refine(qA9 B [] _ _ _ _ _ _ hc).mono ?_;rintro e w4⟨u,rfl,hc4,hk4⟩;have rs4:=hk4.at rs3 (by simp);obtain⟨⟨q0,q1,q2,q3,q4,q5,q6,q7,q8,q9,q10⟩,f0,f1,f2,f3,f4,f5,f6,f7,f8,f9,f10⟩:=qAY rs4;go_wp2
  obtain⟨rsF,kpF⟩:=qMS rs4 (.int .i64 0) (.string ⟨#[]⟩) (.string ⟨#[]⟩) (.string ⟨#[]⟩) (.string ⟨#[]⟩) (.bool false) (.string ⟨#[]⟩) (.bool false) (.int .i64 0) (.int .i64 0) (.slice none 0 0);have hkF:=(hkA.trans (hk4.mono (Nat.le_refl _) (by simp))).set11 (Nat.le_refl _) (.int .i64 0) (.string ⟨#[]⟩) (.string ⟨#[]⟩) (.string ⟨#[]⟩) (.string ⟨#[]⟩) (.bool false) (.string ⟨#[]⟩) (.bool false) (.int .i64 0) (.int .i64 0) (.slice none 0 0);refine bodyPost_ret (v:=.tuple #[qIM 0 noB qBD qB2 (.slice none 0 0),u]) (by simp[results,Tryz.results210,go_sem,q0,q1,q2,q3,q4,q5,q6,q7,q8,q9,q10,qIM,qBD,qB2,noB]) rfl ?_;rw[HE.out];exact⟨0,noB,qBD,qB2,.slice none 0 0,u,rfl,hkF,⟨_,_,_,rfl⟩,.inr ⟨rfl,⟨_,_,_,_,_,(h3.kept hk4 (by simp) (by simp)).kept kpF (by decide) (by decide)⟩,_,hc4.kept kpF (by decide) (by decide)⟩⟩
 ·obtain⟨xw,hxw,hlen⟩:=hlen ho;have hlo:=qS6 hxw;generalize hq:(qCo s openW 13 [] p).1=q at *;have HO:Hid (qCo s openW 13 [] p=(q,some k)):=by rw[<-hq,<-ho];rfl
  simp only[List.length_nil,Nat.add_zero]at hlen;have HX:=qAF hxw;clear hq ho hxw;go_wp2_with fail
  refine(qPp A B xb rb s n k q (a+1) b c _ IH h3 hB (by omega) (by omega) (by omega) hbc (by omega) hlo.1).mono ?_;rintro e w4⟨x,y,z,lv,v,rfl,hk4,⟨la,lm,lc,rfl⟩,hor⟩;have rs4:=hk4.tsR (k:=w.heap.size) rs3 (by decide) (by decide);have hkB:=hkA.trans hk4;have hsz4:=hk4.size;have hlt3:w.heap.size<=w3.heap.size:=hkA.size;unfold qIM;have rs5:=qAG rs4 (.cells #[.int .i64 k,.string x,.string y.name,.string y.op,.string y.val,.bool y.any,.string z.word,.bool z.hasN,.int .i64 z.a,.int .i64 z.b,.slice la lm lc] 263);have ns5:=qAE w4 (.cells #[.int .i64 k,.string x,.string y.name,.string y.op,.string y.val,.bool y.any,.string z.word,.bool z.hasN,.int .i64 z.a,.int .i64 z.b,.slice la lm lc] 263);have hkC:=hkB.alloc (.cells #[.int .i64 k,.string x,.string y.name,.string y.op,.string y.val,.bool y.any,.string z.word,.bool z.hasN,.int .i64 z.a,.int .i64 z.b,.slice la lm lc] 263);have hNR:w.heap.size<w4.heap.size:=lt_of_block rs4;rcases hor with⟨m,cn,d,A1,ho,rfl,h4,hA1,hr⟩|⟨ho,⟨A9,q',a',b',c',h4⟩,j,hc⟩
  ·have h5':=h4.alloc (.cells #[.int .i64 k,.string x,.string y.name,.string y.op,.string y.val,.bool y.any,.string z.word,.bool z.hasN,.int .i64 z.a,.int .i64 z.b,.slice la lm lc] 263);have c5:=h5'.c0;generalize hq2:(qAu (qAP s n) s k q).1=q2 at *;have HA:Hid (qAu (qAP s n) s k q=(q2,some (m,cn,d))):=by rw[<-hq2,<-ho];rfl
   clear hq2 ho;have hr5:repS (RepL A1 (fun g=>w.heap.size<g/\g≠w4.heap.size) (w4.alloc (.cells #[.int .i64 k,.string x,.string y.name,.string y.op,.string y.val,.bool y.any,.string z.word,.bool z.hasN,.int .i64 z.a,.int .i64 z.b,.slice la lm lc] 263)) n) m (qBJ k x y z (.slice la lm lc)):=by
    refine hr.mp ?_;intro g cc tt hg hbk _;have:=lt_of_block hbk;have:=lt_of_block rs3;exact⟨⟨by omega,by omega⟩,qAG hbk _⟩
   obtain⟨⟨m0,m1,m2,m3,m4,m5,m6,m7,m8,m9,m10⟩,_⟩:=qAY ns5;go_wp2_with fail
   clear m0 m1 m2 m3 m4 m5 m6 m7 m8 m9 m10 c5 hr h4 rs4 hkB hkA;generalize w4.alloc (.cells #[.int .i64 k,.string x,.string y.name,.string y.op,.string y.val,.bool y.any,.string z.word,.bool z.hasN,.int .i64 z.a,.int .i64 z.b,.slice la lm lc] 263)=w5 at *;generalize w4.heap.size=N5 at *;have hcs:(bytesOf (qAq k)).size<=2000:=by
    unfold qAq;split
    ·decide
    ·split<;>decide
   obtain⟨⟨m0,m1,m2,m3,m4,m5,m6,m7,m8,m9,m10⟩,_⟩:=qAY ns5;have c5:=h5'.c0;go_region_held3 (fun wx=>wx.cell? ⟨xb,0,none⟩=some (.pointer (some ⟨rb,0,none⟩))/\wx.cell? ⟨N5,0,none⟩=some (.int .i64 k)) (first|exact hS|simp[go_sem, *]) (first|(go_at_call 184;refine(qHe k _ hlo.1).mono ?_;rintro e w6 ⟨rfl,rfl⟩)|(go_at_call 188;refine(qAw B rb s (bytesOf (qAq k)) q2 _ (h5'.1.drewN _) hB hcs).mono ?_;rintro e w6 ⟨v,rfl,hr6,hk6,hor⟩;have h6':=(h5'.drewN _).step hr6 hk6;have ns6:=hk6.at (k:=N5) ns5 (by decide);have hS:=And.intro h6'.c0 (qAY ns6).1.1))
   have rs6:=hk6.at (k:=w.heap.size) rs5 (by decide);have hkD:=hkC.trans hk6.fromDrewN.ts;have hr6':repS (RepL A1 (fun g=>w.heap.size<g/\g≠N5) w6 n) m (qBJ k x y z (.slice la lm lc)):=hr5.mp (Fr.ofKp hk6.fromDrewN (by decide) (by decide) (by decide) fun _ hg=>hg);clear hS m0 m1 m2 m3 m4 m5 m6 m7 m8 m9 m10 c5 hr5 ns5 rs5 hkC h5';obtain⟨⟨m0,m1,m2,m3,m4,m5,m6,m7,m8,m9,m10⟩,_⟩:=qAY ns6;have hxs:(bytesOf xw).size<=100:=by
    have h1:=qKA xw (List.mem_of_getElem? HX.out);have h2:(bytesOf xw).size=xw.length:=by show xw.toArray.size=_;simp
    omega
   have hvw:v=.nilIface\/∃nn,Chain w6 2 (qAo s (qAq k) q2).1 nn v:=by
    rcases hor with⟨_,hv⟩|⟨_,hc⟩
    ·exact .inl hv
    ·exact .inr ⟨0,hc⟩
   have HOR:=qAF hor;clear hor;go_wp2_with fail
   go_region_with (first|(go_at_call 181;refine(qGp B k xw _ HX.out (qJf rs6 _) (qJf ns6 _)).mono ?_;rintro e w7 ⟨rfl,hk7,rs7,ns7⟩;obtain⟨⟨k0,k1,k2,k3,k4,k5,k6,k7,k8,k9,k10⟩,_⟩:=qAY ns7)|(go_at_call 54;refine(qOB B _ v _ _ (hvw.imp id fun hx=>hx.elim fun nn hc=>⟨nn,(hc.drewN _).kept hk7 (by simp) (by simp)⟩) rs7 ns7).mono ?_;rintro e w8 ⟨u,rfl,hk8,rs8,ns8,hu⟩;obtain⟨⟨i0,i1,i2,i3,i4,i5,i6,i7,i8,i9,i10⟩,_⟩:=qAY ns8;obtain⟨⟨q0,q1,q2',q3,q4,q5,q6,q7,q8,q9,q10⟩,f0,f1,f2,f3,f4,f5,f6,f7,f8,f9,f10⟩:=qAY rs8))
   all_goals
    have hk78:Kp B [] w6 w8:=hk7.fromDrewN.trans hk8;have h8:=h6'.kept hk78 (by simp) (by simp);have hr8:=hr6'.mp (Fr.ofKp hk78 (by simp) (by simp) (by simp) fun _ hg=>hg);have hkE:=hkD.trans (hk78.mono (Nat.le_refl _) (by simp));clear hk7 hk8;go_wp2
    obtain⟨rsF,kpF⟩:=qMS rs8 (.int .i64 k) (.string x) (.string y.name) (.string y.op) (.string y.val) (.bool y.any) (.string z.word) (.bool z.hasN) (.int .i64 z.a) (.int .i64 z.b) (.slice la lm lc);have hkF:=hkE.set11 (Nat.le_refl _) (.int .i64 k) (.string x) (.string y.name) (.string y.op) (.string y.val) (.bool y.any) (.string z.word) (.bool z.hasN) (.int .i64 z.a) (.int .i64 z.b) (.slice la lm lc);refine bodyPost_ret (v:=.tuple #[qIM k x y z (.slice la lm lc),u]) (by simp[results,Tryz.results210,go_sem,q0,q1,q2',q3,q4,q5,q6,q7,q8,q9,q10,qIM]) rfl ?_;have HE:qAe (qAP s n) s p=((qAo s (qAq k) q2).1,if (qAo s (qAq k) q2).2=true then some (m,cn+1,d)else none):=by unfold qAe;rw[HO.out];dsimp only;rw[HA.out]
    rw[HE];refine⟨k,x,y,z,.slice la lm lc,u,rfl,hkF,⟨_,_,_,rfl⟩,?_⟩;have hF:=h8.kept kpF (by decide) (by decide);rcases HOR.out with⟨ho,hv⟩|⟨ho,hc⟩
    ·refine .inl ⟨m,cn+1,d,A1,if_pos ho,?_,by rw[show a+(cn+1)=a+1+cn from by omega];exact hF,⟨hA1.1,hA1.2.imp id fun hh=>qSf ho hh.1 hh.2⟩,?_⟩
     ·rcases hu with⟨_,hu⟩|⟨hn,_⟩
      ·exact hu
      ·exact absurd hv hn
     ·refine hr8.mp ?_;intro g cc tt hg hbk _;exact⟨Nat.le_of_lt hg.1,qIJ hbk (by have:=hg.1;omega) _ _ _ _ _ _ _ _ _ _ _⟩
    ·refine .inr ⟨by dsimp only;rw[show(qAo s (qAq k) q2).2=false from ho];rfl,⟨_,_,_,_,_,hF⟩,?_⟩;rcases hu with⟨hv,_⟩|⟨_,nn,hcu⟩
     ·obtain⟨ty,kk,hv'⟩:=hc.shape;rw[hv]at hv';cases hv'
     ·exact⟨nn,hcu.kept kpF (by decide) (by decide)⟩
  ·have HE:Hid (qAe (qAP s n) s p=((qAu (qAP s n) s k q).1,none)):=by
    unfold qAe;rw[HO.out];dsimp only;generalize qAu (qAP s n) s k q=r at ho;obtain⟨q2,o⟩:=r;dsimp only at ho;subst ho;rfl
   clear ho;obtain⟨ty,kk,hv⟩:=hc.shape;have h5':=h4.alloc (.cells #[.int .i64 k,.string x,.string y.name,.string y.op,.string y.val,.bool y.any,.string z.word,.bool z.hasN,.int .i64 z.a,.int .i64 z.b,.slice la lm lc] 263);have hc5:=hc.alloc (.cells #[.int .i64 k,.string x,.string y.name,.string y.op,.string y.val,.bool y.any,.string z.word,.bool z.hasN,.int .i64 z.a,.int .i64 z.b,.slice la lm lc] 263);have hxs:(bytesOf xw).size<=100:=by
    have h1:=qKA xw (List.mem_of_getElem? HX.out);have h2:(bytesOf xw).size=xw.length:=by show xw.toArray.size=_;simp
    omega
   rw[hv]at hc5 ⊢;clear hv hc h4 rs4 hkB hkA;go_wp2_with fail
   generalize w4.alloc (.cells #[.int .i64 k,.string x,.string y.name,.string y.op,.string y.val,.bool y.any,.string z.word,.bool z.hasN,.int .i64 z.a,.int .i64 z.b,.slice la lm lc] 263)=w5 at *;generalize w4.heap.size=N5 at *;obtain⟨⟨m0,m1,m2,m3,m4,m5,m6,m7,m8,m9,m10⟩,_⟩:=qAY ns5;go_region_with (first|(go_at_call 181;refine(qGp B k xw _ HX.out (qJf rs5 _) (qJf ns5 _)).mono ?_;rintro e w7 ⟨rfl,hk7,rs7,ns7⟩;obtain⟨⟨k0,k1,k2,k3,k4,k5,k6,k7,k8,k9,k10⟩,_⟩:=qAY ns7)|(go_at_call 54;refine(qOB B _ _ _ _ (.inr ⟨j,(hc5.drewN _).kept hk7 (by simp) (by simp)⟩) rs7 ns7).mono ?_;rintro e w8 ⟨u,rfl,hk8,rs8,ns8,hu⟩;obtain⟨⟨i0,i1,i2,i3,i4,i5,i6,i7,i8,i9,i10⟩,_⟩:=qAY ns8;obtain⟨⟨q0,q1,q2',q3,q4,q5,q6,q7,q8,q9,q10⟩,f0,f1,f2,f3,f4,f5,f6,f7,f8,f9,f10⟩:=qAY rs8))
   all_goals
    have hk78:Kp B [] w5 w8:=hk7.fromDrewN.trans hk8;have h8:=h5'.kept hk78 (by simp) (by simp);have hkE:=hkC.trans (hk78.mono (Nat.le_refl _) (by simp));clear hk7 hk8;go_wp2
    obtain⟨rsF,kpF⟩:=qMS rs8 (.int .i64 k) (.string x) (.string y.name) (.string y.op) (.string y.val) (.bool y.any) (.string z.word) (.bool z.hasN) (.int .i64 z.a) (.int .i64 z.b) (.slice la lm lc);have hkF:=hkE.set11 (Nat.le_refl _) (.int .i64 k) (.string x) (.string y.name) (.string y.op) (.string y.val) (.bool y.any) (.string z.word) (.bool z.hasN) (.int .i64 z.a) (.int .i64 z.b) (.slice la lm lc);refine bodyPost_ret (v:=.tuple #[qIM k x y z (.slice la lm lc),u]) (by simp[results,Tryz.results210,go_sem,q0,q1,q2',q3,q4,q5,q6,q7,q8,q9,q10,qIM]) rfl ?_;rw[HE.out];refine⟨k,x,y,z,.slice la lm lc,u,rfl,hkF,⟨_,_,_,rfl⟩,.inr ⟨rfl,⟨_,_,_,_,_,h8.kept kpF (by decide) (by decide)⟩,?_⟩⟩;rcases hu with⟨hv,_⟩|⟨_,nn,hcu⟩
    ·cases hv
    ·exact⟨nn,hcu.kept kpF (by decide) (by decide)⟩
