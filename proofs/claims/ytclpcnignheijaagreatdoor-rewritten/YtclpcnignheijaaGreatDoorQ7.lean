/-
  Parts of the proof: S5, S6, S7, S8, S9, P2.
-/
import Derived.Test.YtclpcnignheijaaGreatDoorQ6
import Derived.Test.YtclpcnignheijaaGreatDoorQ2
set_option maxHeartbeats 1600000
namespace Go.Proofs.YtclpcnignheijaaGreatDoor
open Go.RowKit Go.Proofs.Tryz
def Sx(w:World)(xb rb:Nat)(s:ByteArray)(p a b c:Nat):Prop :=
 Rd w rb s p/\∃k:Int,w.heap[xb]? = some (.cells #[.pointer (some ⟨rb,0,none⟩),.int .i64 k,.int .i64 a,.int .i64 b,.int .i64 c] 179 (0,0))
section
variable{w w':World}{xb rb:Nat}{s:ByteArray}{p q a b c B:Nat}
theorem Sx.step(h:Sx w xb rb s p a b c)(hr:Rd w' rb s q)(k:Kp B [210] w w'):Sx w' xb rb s q a b c:=⟨hr,h.2.imp fun _ hh=>k.at hh (by decide)⟩
theorem Sx.c0(h:Sx w xb rb s p a b c):w.cell? ⟨xb,0,none⟩=some (.pointer (some ⟨rb,0,none⟩)):=by obtain⟨_,k,hk⟩:=h;simp[World.cell?,hk]
theorem Sx.c1(h:Sx w xb rb s p a b c):w.cell? ⟨xb,2,none⟩=some (.int .i64 a):=by obtain⟨_,k,hk⟩:=h;simp[World.cell?,hk]
theorem Sx.c2(h:Sx w xb rb s p a b c):w.cell? ⟨xb,3,none⟩=some (.int .i64 b):=by obtain⟨_,k,hk⟩:=h;simp[World.cell?,hk]
theorem Sx.c3(h:Sx w xb rb s p a b c):w.cell? ⟨xb,4,none⟩=some (.int .i64 c):=by obtain⟨_,k,hk⟩:=h;simp[World.cell?,hk]
theorem Sx.drewN(h:Sx w xb rb s p a b c)(n:Nat):Sx (w.drewN n) xb rb s p a b c:=⟨h.1.drewN n,h.2⟩
theorem Sx.alloc(h:Sx w xb rb s p a b c)(o:Obj):Sx (w.alloc o) xb rb s p a b c:=⟨h.1.alloc o,h.2.imp fun _ hh=>qAG hh o⟩
end
theorem qN2(B xb rb:Nat)(s:ByteArray)(p a b c:Nat)(w:World)(h:Sx w xb rb s p a b c)(hB:B<=rb) :
  Calls prog 281 #[.pointer (some ⟨xb,0,none⟩)] w fun e w'=>e=.returned (.tuple #[.int .i64 (qBN s p).2.1,.bool (qBN s p).2.2])/\Sx w' xb rb s (qBN s p).1 a b c/\Kp B [210] w w':=by
 have c0:=h.c0;by_cases h1:qAC s p=45
 ·have HE:Hid (qBN s p=(p+1,-1,true)):=by unfold qBN;rw[if_pos h1];rfl
  have H1:=qAF h1;clear h1;go_enter func281,ntmps281
  go_wp2_with (go_at_call 129;refine(qBU B rb s p _ _ h.1 hB (by decide) H1.out).mono ?_;rintro e w1 ⟨rfl,hr1,hk1⟩)
  go_ret2
  rw[HE.out];exact⟨rfl,h.step hr1 hk1,hk1⟩
 ·have H1:=qAF h1;by_cases h2:qAC s p=43
  ·have HE:Hid (qBN s p=(p+1,1,true)):=by unfold qBN;rw[if_neg h1,if_pos h2];rfl
   have H2:=qAF h2;clear h1 h2;go_enter func281,ntmps281
   go_wp2_with fail
   refine(qBm B rb s p _ _ h.1 (.inr H1.out)).mono ?_;rintro e w1⟨rfl,hr1,hk1⟩;have h':=h.step hr1 hk1;have c1:=h'.c0;go_wp2_with (go_at_call 129;refine(qBU B rb s p _ _ hr1 hB (by decide) H2.out).mono ?_;rintro e w2 ⟨rfl,hr2,hk2⟩)
   go_ret2
   rw[HE.out];exact⟨rfl,h'.step hr2 hk2,hk1.trans hk2⟩
  ·have HE:Hid (qBN s p=(p,1,false)):=by unfold qBN;rw[if_neg h1,if_neg h2];rfl
   have H2:=qAF h2;clear h1 h2;go_enter func281,ntmps281
   go_wp2_with fail
   refine(qBm B rb s p _ _ h.1 (.inr H1.out)).mono ?_;rintro e w1⟨rfl,hr1,hk1⟩;have h':=h.step hr1 hk1;have c1:=h'.c0;go_wp2_with (go_at_call 129;refine(qBm B rb s p _ _ hr1 (.inr H2.out)).mono ?_;rintro e w2 ⟨rfl,hr2,hk2⟩)
   go_ret2
   rw[HE.out];exact⟨rfl,h'.step hr2 hk2,hk1.trans hk2⟩
theorem qK7(B xb rb:Nat)(s:ByteArray)(p a b c:Nat)(w:World)(h:Sx w xb rb s p a b c)(hB:B<=rb) :
  Calls prog 282 #[.pointer (some ⟨xb,0,none⟩)] w fun e w'=>e=.returned (.tuple #[.int .i64 (qA8 s p).2.1,.bool (qA8 s p).2.2])/\Sx w' xb rb s (qA8 s p).1 a b c/\Kp B [210] w w':=by
 have c0:=h.c0;cases h1:qCE (qAC s p)
 ·have HE:Hid (qA8 s p=(p,0,false)):=by unfold qA8;rw[h1,if_neg (by simp)];rfl
  have H1:=qAF h1;clear h1;go_enter func282,ntmps282
  go_wp2_with fail
  refine(digit_no B rb s p _ h.1 H1.out).mono ?_;rintro e w1⟨rfl,hr1,hk1⟩;have h':=h.step hr1 hk1;have c1:=h'.c0;go_wp2_with (go_at_call 288;refine(digit_no B rb s p _ hr1 H1.out).mono ?_;rintro e w2 ⟨rfl,hr2,hk2⟩)
  go_ret2
  rw[HE.out];exact⟨rfl,h'.step hr2 hk2,hk1.trans hk2⟩
 ·have hb1:=qD9 h1;cases h2:qCE (qAC s (p+1))
  ·have HE:Hid (qA8 s p=(p+1,qAC s p-48,true)):=by unfold qA8;rw[h1,h2,if_pos rfl,if_neg (by simp)];rfl
   have H1:=qAF h1;have H2:=qAF h2;clear h1 h2;go_enter func282,ntmps282
   go_wp2_with fail
   refine(qHl B rb s p _ h.1 hB H1.out).mono ?_;rintro e w1⟨rfl,hr1,hk1⟩;have h':=h.step hr1 hk1;have c1:=h'.c0;go_wp2_with (go_at_call 288;refine(digit_no B rb s (p+1) _ hr1 H2.out).mono ?_;rintro e w2 ⟨rfl,hr2,hk2⟩)
   go_ret2
   rw[HE.out];exact⟨rfl,h'.step hr2 hk2,hk1.trans hk2⟩
  ·have hb2:=qD9 h2;have HE:Hid (qA8 s p=(p+2,10*(qAC s p-48)+(qAC s (p+1)-48),true)):=by unfold qA8;rw[h1,h2,if_pos rfl,if_pos rfl];rfl
   have H1:=qAF h1;have H2:=qAF h2;clear h1 h2;go_enter func282,ntmps282
   go_wp2_with fail
   refine(qHl B rb s p _ h.1 hB H1.out).mono ?_;rintro e w1⟨rfl,hr1,hk1⟩;have h':=h.step hr1 hk1;have c1:=h'.c0;go_wp2_with (go_at_call 288;refine(qHl B rb s (p+1) _ hr1 hB H2.out).mono ?_;rintro e w2 ⟨rfl,hr2,hk2⟩)
   go_ret2
   rw[HE.out];exact⟨rfl,h'.step hr2 hk2,hk1.trans hk2⟩
theorem qHi(s:ByteArray)(p:Nat):0<=(qA8 s p).2.1/\(qA8 s p).2.1<=99:=by
 unfold qA8;split
 ·rename_i h1;have:=qD9 h1;split
  ·rename_i h2;have:=qD9 h2;dsimp only;omega
  ·dsimp only;omega
 ·exact⟨Int.le_refl _,(by decide:(0:Int)<=99)⟩
theorem qIK(s:ByteArray)(p:Nat):(qBN s p).2.1=1\/(qBN s p).2.1=-1:=by
 unfold qBN;split
 ·exact .inr rfl
 ·split<;>exact .inl rfl
theorem qMB(B xb rb:Nat)(s:ByteArray)(p a b c:Nat)(w:World)(h:Sx w xb rb s p a b c)(hB:B<=rb) :
  Calls prog 283 #[.pointer (some ⟨xb,0,none⟩)] w fun e w'=>∃(i:Int)(v:Value),e=.returned (.tuple #[.int .i64 i,v])/\Sx w' xb rb s (qBX s p).1 a b c/\Kp B [210] w w' /\
   (((qBX s p).2=some i/\v=.nilIface)\/((qBX s p).2=none/\Chain w' 2 (qBX s p).1 0 v)):=by
 have c0:=h.c0;go_enter func283,ntmps283
 go_wp2_with fail
 refine(qAt B rb s p _ h.1 hB).mono ?_;rintro e w1⟨rfl,hr1,hk1⟩;have h1:=h.step hr1 hk1;have c1:=h1.c0;go_wp2_with fail
 refine(qN2 B xb rb s (spP s p) a b c _ h1 hB).mono ?_;rintro e w2⟨rfl,h2,hk2⟩;have c2:=h2.c0;have hsv:=qIK s (spP s p);generalize hsg:qBN s (spP s p)=r at *;obtain⟨q2,sg,sd⟩:=r;dsimp only at *;cases sd
 ·have HE:Hid (qBX s p=(q2,some 0)):=by unfold qBX;rw[hsg];rfl
  clear hsg;go_wp2
  go_ret2
  rw[HE.out];exact⟨_,_,rfl,h2,hk1.trans hk2,.inl ⟨rfl,rfl⟩⟩
 ·go_wp2_with fail
  refine(qAt B rb s q2 _ h2.1 hB).mono ?_;rintro e w3⟨rfl,hr3,hk3⟩;have h3:=h2.step hr3 hk3;have c3:=h3.c0;go_wp2_with fail
  refine(qK7 B xb rb s (spP s q2) a b c _ h3 hB).mono ?_;rintro e w4⟨rfl,h4,hk4⟩;have c4:=h4.c0;have hbd:=qHi s (spP s q2);generalize hcn:qA8 s (spP s q2)=r at *;obtain⟨q4,cn,cd⟩:=r;dsimp only at *;cases cd
  ·have HE:Hid (qBX s p=(q4,none)):=by unfold qBX;rw[hsg];dsimp only;rw[hcn];rfl
   clear hsg hcn;go_wp2_with (go_at_call 95;refine(qBB B rb s q4 _ h4.1).mono ?_;rintro e w5 ⟨v,rfl,hc,hr5,hk5⟩)
   go_ret2
   rw[HE.out];exact⟨_,_,rfl,h4.step hr5 hk5,(((hk1.trans hk2).trans hk3).trans hk4).trans hk5,.inr ⟨rfl,hc⟩⟩
  ·have HE:Hid (qBX s p=(q4,some (sg*cn))):=by unfold qBX;rw[hsg];dsimp only;rw[hcn];rfl
   have hm:-99<=sg*cn/\sg*cn<=99:=by rcases hsv with e|e<;>rw[e]<;>omega
   clear hsg hcn hsv;go_wp2
   go_ret2
   rw[HE.out];exact⟨_,_,rfl,h4,((hk1.trans hk2).trans hk3).trans hk4,.inl ⟨rfl,rfl⟩⟩
theorem Sx.kept{w w':World}{xb rb:Nat}{s:ByteArray}{p a b c B:Nat}{T:List TypeId}(h:Sx w xb rb s p a b c)(k:Kp B T w w')(h1:210 ∉ T)(h2:179 ∉ T):Sx w' xb rb s p a b c:=⟨h.1.kept k h1,h.2.imp fun _ hh=>k.at hh h2⟩
theorem qOi{w:World}{R:Nat}{t:TypeId}{x0 x1 x2 x3:Value}(h:w.heap[R]? = some (.cells #[x0,x1,x2,x3] t (0,0)))(v0 v1 v2 v3:Value) :
  ((((w.setCell ⟨R,0,none⟩ v0).setCell ⟨R,1,none⟩ v1).setCell ⟨R,2,none⟩ v2).setCell ⟨R,3,none⟩ v3).heap[R]? = some (.cells #[v0,v1,v2,v3] t (0,0)) /\
  Kp 0 [t] w ((((w.setCell ⟨R,0,none⟩ v0).setCell ⟨R,1,none⟩ v1).setCell ⟨R,2,none⟩ v2).setCell ⟨R,3,none⟩ v3):=by
 have h1:=qAZ (o:=0) h v0;have h2:=qAZ (o:=1) h1 v1;have h3:=qAZ (o:=2) h2 v2;have h4:=qAZ (o:=3) h3 v3;refine⟨by simpa using h4,?_⟩;exact((((Kp.refl 0 [t] w).setCell h (by simp) (Nat.zero_le _) v0).setCell h1 (by simp) (Nat.zero_le _) v1).setCell h2 (by simp) (Nat.zero_le _) v2).setCell h3 (by simp) (Nat.zero_le _) v3
theorem qAk{w:World}{b:Nat}{x y z u:Value}{t:TypeId}(h:w.heap[b]? = some (.cells #[x,y,z,u] t (0,0))) :
  (w.cell? ⟨b,0,none⟩=some x/\w.cell? ⟨b,1,none⟩=some y/\w.cell? ⟨b,2,none⟩=some z/\w.cell? ⟨b,3,none⟩=some u)/\w.frozen? ⟨b,0,none⟩=false/\w.frozen? ⟨b,1,none⟩=false/\w.frozen? ⟨b,2,none⟩=false/\w.frozen? ⟨b,3,none⟩=false:=by simp[World.cell?,World.frozen?,h]
theorem Kp.set4{B:Nat}{T:List TypeId}{a w:World}{R:Nat}(h:Kp B T a w)(hR:a.heap.size<=R)(v0 v1 v2 v3:Value) :
  Kp B T a ((((w.setCell ⟨R,0,none⟩ v0).setCell ⟨R,1,none⟩ v1).setCell ⟨R,2,none⟩ v2).setCell ⟨R,3,none⟩ v3) :=
 (((h.setNew (p:=⟨R,0,none⟩) hR v0).setNew (p:=⟨R,1,none⟩) hR v1).setNew (p:=⟨R,2,none⟩) hR v2).setNew (p:=⟨R,3,none⟩) hR v3
def qVV(x:NthQ):Value:=.agg #[.string x.word,.bool x.hasN,.int .i64 x.a,.int .i64 x.b]
theorem qMc(B xb rb:Nat)(s:ByteArray)(p a b c:Nat)(w:World)(h:Sx w xb rb s p a b c)(hB:B<=rb) :
  Calls prog 271 #[.pointer (some ⟨xb,0,none⟩)] w fun e w'=>∃(y:NthQ)(v:Value),e=.returned (.tuple #[qVV y,v])/\Sx w' xb rb s (qAj s p).1 a b c/\Kp B [210] w w' /\
   (((qAj s p).2=some y/\v=.nilIface)\/((qAj s p).2=none/\Chain w' 2 (qAj s p).1 0 v)):=by
 have h0:=h.alloc (.cells #[.string ⟨#[]⟩,.bool false,.int .i64 0,.int .i64 0] 261);have rs0:=qAE w (.cells #[.string ⟨#[]⟩,.bool false,.int .i64 0,.int .i64 0] 261);have hk0:=(Kp.refl B [210] w).alloc (.cells #[.string ⟨#[]⟩,.bool false,.int .i64 0,.int .i64 0] 261);have c0:=h0.c0;go_enter func271,ntmps271
 go_wp2_with fail
 refine(qAL rb s p _ h0.1).mono ?_;rintro e w1⟨rfl,n1,rfl⟩;have h1:=h0.drewN n1;have c1:=h1.c0;have hk1:=hk0.drewN n1;by_cases h111:qAC s p=111
 ·have HE:Hid (qAj s p=((qAo s qO4 p).1,if (qAo s qO4 p).2=true then some ⟨bytesOf qO4,true,2,1⟩else none)):=by unfold qAj;rw[if_pos h111];rfl
  rw[h111];clear h111;go_wp2_with fail
  refine(qAw B rb s (bytesOf qO4) p _ h1.1 hB (by decide)).mono ?_;rintro e w2⟨v,rfl,hr2,hk2,hor⟩;have rs2:=hk2.at (k:=w.heap.size) rs0 (by decide);obtain⟨⟨q0,q1,q2,q3⟩,f0,f1,f2,f3⟩:=qAk rs2;go_wp2
  obtain⟨rsF,kpF⟩:=qOi rs2 (.string ⟨#[111,100,100]⟩) (.bool true) (.int .i64 2) (.int .i64 1);refine bodyPost_ret (v:=.tuple #[.agg #[.string ⟨#[111,100,100]⟩,.bool true,.int .i64 2,.int .i64 1],v]) (by simp[results,Tryz.results271,go_sem,q0,q1,q2,q3]) rfl ?_;rw[HE.out];refine⟨⟨bytesOf qO4,true,2,1⟩,_,rfl,(h1.step hr2 hk2).kept kpF (by decide) (by decide),(hk1.trans hk2).set4 (Nat.le_refl _) _ _ _ _,?_⟩;rcases hor with⟨ho,rfl⟩|⟨ho,hc⟩
  ·exact .inl ⟨if_pos ho,rfl⟩
  ·exact .inr ⟨by dsimp only;rw[show(qAo s qO4 p).2=false from ho];rfl,hc.kept kpF (by decide) (by decide)⟩
 ·by_cases h101:qAC s p=101
  ·have HE:Hid (qAj s p=((qAo s qGK p).1,if (qAo s qGK p).2=true then some ⟨bytesOf qGK,true,2,0⟩else none)):=by unfold qAj;rw[if_neg h111,if_pos h101];rfl
   rw[h101];clear h111 h101;go_wp2_with fail
   refine(qAw B rb s (bytesOf qGK) p _ h1.1 hB (by decide)).mono ?_;rintro e w2⟨v,rfl,hr2,hk2,hor⟩;have rs2:=hk2.at (k:=w.heap.size) rs0 (by decide);obtain⟨⟨q0,q1,q2,q3⟩,f0,f1,f2,f3⟩:=qAk rs2;go_wp2
   obtain⟨rsF,kpF⟩:=qOi rs2 (.string ⟨#[101,118,101,110]⟩) (.bool true) (.int .i64 2) (.int .i64 0);refine bodyPost_ret (v:=.tuple #[.agg #[.string ⟨#[101,118,101,110]⟩,.bool true,.int .i64 2,.int .i64 0],v]) (by simp[results,Tryz.results271,go_sem,q0,q1,q2,q3]) rfl ?_;rw[HE.out];refine⟨⟨bytesOf qGK,true,2,0⟩,_,rfl,(h1.step hr2 hk2).kept kpF (by decide) (by decide),(hk1.trans hk2).set4 (Nat.le_refl _) _ _ _ _,?_⟩;rcases hor with⟨ho,rfl⟩|⟨ho,hc⟩
   ·exact .inl ⟨if_pos ho,rfl⟩
   ·exact .inr ⟨by dsimp only;rw[show(qAo s qGK p).2=false from ho];rfl,hc.kept kpF (by decide) (by decide)⟩
  ·have hn1:(qAC s p==111)=false:=by simp[h111]
   have hn2:(qAC s p==101)=false:=by simp[h101]
   have H111:=qAF h111;have H101:=qAF h101;clear h111 h101;go_wp2_with fail
   refine(qN2 B xb rb s p a b c _ h1 hB).mono ?_;rintro e w2⟨rfl,h2,hk2⟩;have c2:=h2.c0;have rs2:=hk2.at (k:=w.heap.size) rs0 (by decide);have hsv:=qIK s p;generalize hsg:qBN s p=r at *;obtain⟨q2,sg,sd⟩:=r;dsimp only at *;go_wp2_with fail
   refine(qK7 B xb rb s q2 a b c _ h2 hB).mono ?_;rintro e w3⟨rfl,h3,hk3⟩;have c3:=h3.c0;have rs3:=hk3.at (k:=w.heap.size) rs2 (by decide);have hbd:=qHi s q2;generalize hcn:qA8 s q2=r at *;obtain⟨q3,cn,cd⟩:=r;dsimp only at *;by_cases hn:qAC s q3=110
   ·have HX:Hid (qAj s p=((qBX s (q3+1)).1,(qBX s (q3+1)).2.map fun b=>⟨noB,true,sg*(if cd=true then cn else 1),b⟩)):=by
     unfold qAj;rw[if_neg H111.out,if_neg H101.out,hsg];dsimp only;rw[hcn];dsimp only;rw[if_pos hn];rfl
    have HN:=qAF hn;clear hsg hcn hn;go_wp2_with fail
    refine(qBU B rb s q3 _ _ h3.1 hB (by decide) HN.out).mono ?_;rintro e w4⟨rfl,hr4,hk4⟩;have h4:=h3.step hr4 hk4;have c4:=h4.c0;have rs4:=hk4.at (k:=w.heap.size) rs3 (by decide);cases cd
    all_goals
     go_wp2_with fail
     refine(qMB B xb rb s (q3+1) a b c _ h4 hB).mono ?_;rintro e w5⟨i5,v,rfl,h5,hk5,hor⟩;have rs5:=hk5.at (k:=w.heap.size) rs4 (by decide);have hm:-99<=sg*cn/\sg*cn<=99:=by rcases hsv with e|e<;>rw[e]<;>omega
     have hm1:-99<=sg*1/\sg*1<=99:=by rcases hsv with e|e<;>rw[e]<;>omega
     have hkk:=(((hk1.trans hk2).trans hk3).trans hk4).trans hk5;have HS:=qAF hsv;clear hsv;obtain⟨⟨q0,q1,q2',q3'⟩,f0,f1,f2,f3⟩:=qAk rs5;go_wp2
    ·obtain⟨rsF,kpF⟩:=qOi rs5 (.string ⟨#[]⟩) (.bool true) (.int .i64 (sg)) (.int .i64 i5);refine bodyPost_ret (v:=.tuple #[.agg #[.string ⟨#[]⟩,.bool true,.int .i64 (sg),.int .i64 i5],v]) (by simp[results,Tryz.results271,go_sem,q0,q1,q2',q3']) rfl ?_;rw[HX.out];refine⟨⟨noB,true,sg,i5⟩,_,rfl,h5.kept kpF (by decide) (by decide),hkk.set4 (Nat.le_refl _) _ _ _ _,?_⟩;rcases hor with⟨ho,rfl⟩|⟨ho,hc⟩
     ·exact .inl ⟨by rw[ho];simp,rfl⟩
     ·exact .inr ⟨by rw[ho];rfl,hc.kept kpF (by decide) (by decide)⟩
    ·obtain⟨rsF,kpF⟩:=qOi rs5 (.string ⟨#[]⟩) (.bool true) (.int .i64 (sg*cn)) (.int .i64 i5);refine bodyPost_ret (v:=.tuple #[.agg #[.string ⟨#[]⟩,.bool true,.int .i64 (sg*cn),.int .i64 i5],v]) (by simp[results,Tryz.results271,go_sem,q0,q1,q2',q3']) rfl ?_;rw[HX.out];refine⟨⟨noB,true,sg*cn,i5⟩,_,rfl,h5.kept kpF (by decide) (by decide),hkk.set4 (Nat.le_refl _) _ _ _ _,?_⟩;rcases hor with⟨ho,rfl⟩|⟨ho,hc⟩
     ·exact .inl ⟨by rw[ho];simp,rfl⟩
     ·exact .inr ⟨by rw[ho];rfl,hc.kept kpF (by decide) (by decide)⟩
   ·have HN:=qAF hn;cases cd
    ·have HX:Hid (qAj s p=(q3,none)):=by
      unfold qAj;rw[if_neg H111.out,if_neg H101.out,hsg];dsimp only;rw[hcn];dsimp only;rw[if_neg hn,if_pos rfl];rfl
     clear hsg hcn hn;go_wp2_with fail
     refine(qBm B rb s q3 _ _ h3.1 (.inr HN.out)).mono ?_;rintro e w4⟨rfl,hr4,hk4⟩;have h4:=h3.step hr4 hk4;have c4:=h4.c0;have rs4:=hk4.at (k:=w.heap.size) rs3 (by decide);go_wp2_with fail
     refine(qBB B rb s q3 _ h4.1).mono ?_;rintro e w5⟨v,rfl,hc,hr5,hk5⟩;have rs5:=hk5.at (k:=w.heap.size) rs4 (by decide);have hkk:=(((hk1.trans hk2).trans hk3).trans hk4).trans hk5;obtain⟨⟨q0,q1,q2',q3'⟩,f0,f1,f2,f3⟩:=qAk rs5;go_wp2
     obtain⟨rsF,kpF⟩:=qOi rs5 (.string ⟨#[]⟩) (.bool false) (.int .i64 0) (.int .i64 0);refine bodyPost_ret (v:=.tuple #[.agg #[.string ⟨#[]⟩,.bool false,.int .i64 0,.int .i64 0],v]) (by simp[results,Tryz.results271,go_sem,q0,q1,q2',q3']) rfl ?_;rw[HX.out];exact⟨qB2,_,rfl,(h4.step hr5 hk5).kept kpF (by decide) (by decide),hkk.set4 (Nat.le_refl _) _ _ _ _,.inr ⟨rfl,hc.kept kpF (by decide) (by decide)⟩⟩
    ·have HX:Hid (qAj s p=(q3,some ⟨noB,false,0,sg*cn⟩)):=by
      unfold qAj;rw[if_neg H111.out,if_neg H101.out,hsg];dsimp only;rw[hcn];dsimp only;rw[if_neg hn,if_neg (by simp)];rfl
     clear hsg hcn hn;go_wp2_with fail
     refine(qBm B rb s q3 _ _ h3.1 (.inr HN.out)).mono ?_;rintro e w4⟨rfl,hr4,hk4⟩;have h4:=h3.step hr4 hk4;have c4:=h4.c0;have rs4:=hk4.at (k:=w.heap.size) rs3 (by decide);have hkk:=((hk1.trans hk2).trans hk3).trans hk4;have hm:-99<=sg*cn/\sg*cn<=99:=by rcases hsv with e|e<;>rw[e]<;>omega
     obtain⟨⟨q0,q1,q2',q3'⟩,f0,f1,f2,f3⟩:=qAk rs4;clear hsv;go_wp2
     obtain⟨rsF,kpF⟩:=qOi rs4 (.string ⟨#[]⟩) (.bool false) (.int .i64 0) (.int .i64 (sg*cn));refine bodyPost_ret (v:=.tuple #[.agg #[.string ⟨#[]⟩,.bool false,.int .i64 0,.int .i64 (sg*cn)],.nilIface]) (by simp[results,Tryz.results271,go_sem,q0,q1,q2',q3']) rfl ?_;rw[HX.out];exact⟨⟨noB,false,0,sg*cn⟩,_,rfl,h4.kept kpF (by decide) (by decide),hkk.set4 (Nat.le_refl _) _ _ _ _,.inl ⟨rfl,rfl⟩⟩
theorem qUu(B xb rb:Nat)(s:ByteArray)(p a b c:Nat)(w:World)(h:Sx w xb rb s p a b c)(hB:B<=rb) :
  Calls prog 256 #[.pointer (some ⟨xb,0,none⟩)] w fun e w'=>∃(y:NthQ)(v:Value)(q:Nat),e=.returned (.tuple #[qVV y,v])/\Sx w' xb rb s q a b c/\Kp B [210] w w' /\
   (((qJ7 s p).2=some y/\q=(qJ7 s p).1/\v=.nilIface)\/((qJ7 s p).2=none/\Chain w' 2 (qJ7 s p).1 0 v)):=by
 have h0:=h.alloc (.cells #[.string ⟨#[]⟩,.bool false,.int .i64 0,.int .i64 0] 261);have c0:=h0.c0;go_enter func256,ntmps256
 have rs0:=qAE w (.cells #[.string ⟨#[]⟩,.bool false,.int .i64 0,.int .i64 0] 261);have hk0:=(Kp.refl B [210] w).alloc (.cells #[.string ⟨#[]⟩,.bool false,.int .i64 0,.int .i64 0] 261);go_wp2_with fail
 refine(qAt B rb s p _ h0.1 hB).mono ?_;rintro e w1⟨rfl,hr1,hk1⟩;have h1:=h0.step hr1 hk1;have c1:=h1.c0;have rs1:=hk1.at (k:=w.heap.size) rs0 (by decide);go_wp2_with fail
 refine(qMc B xb rb s (spP s p) a b c _ h1 hB).mono ?_;rintro e w2⟨y,v,rfl,h2,hk2,hor⟩;have rs2:=hk2.at (k:=w.heap.size) rs1 (by decide);have h3:=h2.alloc (.cells #[.string y.word,.bool y.hasN,.int .i64 y.a,.int .i64 y.b] 261);have c3:=h3.c0;have ns3:=qAE w2 (.cells #[.string y.word,.bool y.hasN,.int .i64 y.a,.int .i64 y.b] 261);have rs3:=qAG rs2 (.cells #[.string y.word,.bool y.hasN,.int .i64 y.a,.int .i64 y.b] 261);have hk3:=((hk0.trans hk1).trans hk2).alloc (.cells #[.string y.word,.bool y.hasN,.int .i64 y.a,.int .i64 y.b] 261);unfold qVV;go_wp2_with fail
 refine(qAt B rb s _ _ h3.1 hB).mono ?_;rintro e w4⟨rfl,hr4,hk4⟩;have h4:=h3.step hr4 hk4;have rs4:=hk4.at rs3 (by decide);have ns4:=hk4.at ns3 (by decide);obtain⟨⟨q0,q1,q2,q3⟩,f0,f1,f2,f3⟩:=qAk rs4;obtain⟨⟨m0,m1,m2,m3⟩,_⟩:=qAk ns4;go_wp2
 obtain⟨rsF,kpF⟩:=qOi rs4 (.string y.word) (.bool y.hasN) (.int .i64 y.a) (.int .i64 y.b);refine bodyPost_ret (v:=.tuple #[.agg #[.string y.word,.bool y.hasN,.int .i64 y.a,.int .i64 y.b],v]) (by simp[results,Tryz.results256,go_sem,q0,q1,q2,q3]) rfl ?_;refine⟨y,v,_,rfl,h4.kept kpF (by decide) (by decide),(hk3.trans hk4).set4 (Nat.le_refl _) _ _ _ _,?_⟩;unfold qJ7;generalize qAj s (spP s p)=r at hor hr4;obtain⟨q,o⟩:=r;rcases hor with⟨ho,rfl⟩|⟨ho,hc⟩
 ·dsimp only at ho;subst ho;exact .inl ⟨rfl,rfl,rfl⟩
 ·dsimp only at ho;subst ho;exact .inr ⟨rfl,(hc.alloc _).kept hk4 (by decide) (by decide) |>.kept kpF (by decide) (by decide)⟩
theorem qL1(B rb:Nat)(s:ByteArray)(p:Nat)(w:World)(h:Rd w rb s p)(hB:B<=rb) :
  Calls prog 192 #[.pointer (some ⟨rb,0,none⟩)] w fun e w'=>∃n v,e=.returned (.tuple #[.string n,v])/\Rd w' rb s (qBQ s p qAI).1/\Kp B [210] w w' /\
   ((some n=(qBQ s p qAI).2/\v=.nilIface)\/((qBQ s p qAI).2=none/\Chain w' 2 (qBQ s p qAI).1 0 v)):=by
 go_enter func192,ntmps192
 go_wp2_with fail
 refine(qI8 B rb s p _ h hB).mono ?_;rintro e w1⟨n,v,rfl,hr1,hk1,hor⟩;go_wp2
 go_ret2
 exact⟨_,_,rfl,hr1,hk1,hor⟩
theorem qT1(x:Int):inB [35,46,91,58] x=atB x:=by
 unfold inB atB;simp only[List.any_cons,List.any_nil,Bool.or_false];rw[Bool.eq_iff_iff];simp only[Bool.or_eq_true,beq_iff_eq];show((35:Int)=x\/(46:Int)=x\/(91:Int)=x\/(58:Int)=x)↔(((x=35\/x=46)\/x=91)\/x=58);omega
theorem qBu(xb rb:Nat)(s:ByteArray)(p a b c:Nat)(w:World)(v:Bool)(h:Sx w xb rb s p a b c)(hv:atB (qAC s p)=v) :
  Calls prog 209 #[.pointer (some ⟨xb,0,none⟩)] w fun e w'=>e=.returned (.bool v)/\∃n,w'=w.drewN n:=by
 have c0:=h.c0;have hbd:=qKE s p;cases v
 ·have HV:=qAF hv;clear hv;go_enter func209,ntmps209
  go_wp2_with (first|(go_at_call 144;refine(qAL rb s p _ h.1).mono ?_;rintro e w' ⟨rfl,nq,rfl⟩)|(go_at_call 218;refine(qDG _ _ _ hbd.1 hbd.2 ((qT1 _).trans HV.out)).mono ?_;rintro e w' ⟨i,rfl,hi,rfl⟩))
  go_ret
  exact⟨qBT (by simp;omega),nq,rfl⟩
 ·have HV:=qAF hv;clear hv;go_enter func209,ntmps209
  go_wp2_with (first|(go_at_call 144;refine(qAL rb s p _ h.1).mono ?_;rintro e w' ⟨rfl,nq,rfl⟩)|(go_at_call 218;refine(qFe _ _ _ hbd.1 hbd.2 ((qT1 _).trans HV.out)).mono ?_;rintro e w' ⟨i,rfl,hi,rfl⟩))
  go_ret
  exact⟨qBT (by simp),nq,rfl⟩
theorem qSt{s:ByteArray}{q:Nat}{c:UInt8}(h0:(c.toNat:Int)≠0)(h:qAC s q=(c.toNat:Int)):qAo s [c] q=(q+1,true):=by rw[qAo,if_pos ⟨h0,h⟩,qAo]
theorem qUg{s:ByteArray}{q:Nat}{c:UInt8}(h:qAC s q≠(c.toNat:Int)):qAo s [c] q=(q,false):=by rw[qAo,if_neg fun h'=>h h'.2]
theorem qUz:∀x∈opsW,x.length<3:=by decide
theorem qLa(B xb rb:Nat)(s:ByteArray)(p a b c:Nat)(w:World)(h:Sx w xb rb s p a b c)(hB:B<=rb) :
  Calls prog 269 #[.pointer (some ⟨xb,0,none⟩)] w fun e w'=>∃(o:ByteArray)(v:Value),e=.returned (.tuple #[.string o,v])/\Sx w' xb rb s (qCo s opsW 3 [] p).1 a b c/\Kp B [210] w w' /\
   ((∃i,(qCo s opsW 3 [] p).2=some i/\o=bytesOf (opsW.getD i [])/\v=.nilIface)\/((qCo s opsW 3 [] p).2=none/\Chain w' 2 (qCo s opsW 3 [] p).1 0 v)):=by
 have h0:=h.alloc (.cells (opsW.map fun l=>Value.string (bytesOf l)).toArray 9);have ws0:Ws (w.alloc (.cells (opsW.map fun l=>Value.string (bytesOf l)).toArray 9)) w.heap.size opsW:=qAE w _;have hk0:=(Kp.refl B [210] w).alloc (.cells (opsW.map fun l=>Value.string (bytesOf l)).toArray 9);have c0:(w.alloc (.cells #[.string ⟨#[61]⟩,.string ⟨#[126,61]⟩,.string ⟨#[124,61]⟩,.string ⟨#[94,61]⟩,.string ⟨#[36,61]⟩,.string ⟨#[42,61]⟩] 9)).cell? ⟨xb,0,none⟩=some (.pointer (some ⟨rb,0,none⟩)):=h0.c0;go_enter func269,ntmps269
 go_wp2_with fail
 refine(qLX B rb w.heap.size 6 3 opsW s p _ h0.1 hB ws0 (by decide) qHQ qUz (by decide)).mono ?_;rintro e w1⟨i,v,rfl,hr1,hk1,hor⟩;have h1:=h0.step hr1 hk1;have ws1:=ws0.kept hk1 (by decide);have hlt:i<6:=by
  rcases hor with⟨ho,_⟩|⟨_,hi,_⟩
  ·obtain⟨x,hx,_⟩:=qCp 3 [] p i ho;exact(List.getElem?_eq_some_iff.1 hx).1
  ·omega
 obtain⟨x,hx⟩:∃x,opsW[i]? = some x:=⟨opsW[i]'(by simpa [opsW]using hlt),List.getElem?_eq_getElem _⟩;have d0:=ws1.cell hx;have HX:=qAF hx;clear hx;go_wp2
 go_ret2
 refine⟨_,_,rfl,h1,hk0.trans hk1,?_⟩;rcases hor with⟨ho,hv⟩|⟨ho,_,hc⟩
 ·exact .inl ⟨i,ho,by rw[List.getD_eq_getElem?_getD,HX.out];rfl,hv⟩
 ·exact .inr ⟨ho,hc⟩
theorem qL9(B xb rb:Nat)(s:ByteArray)(p a b c:Nat)(w:World)(h:Sx w xb rb s p a b c)(hB:B<=rb) :
  Calls prog 270 #[.pointer (some ⟨xb,0,none⟩)] w fun e w'=>∃(o:ByteArray)(v:Value),e=.returned (.tuple #[.string o,v])/\Sx w' xb rb s (qAl s p).1 a b c/\Kp B [210] w w' /\
   (((qAl s p).2=some o/\v=.nilIface)\/((qAl s p).2=none/\Chain w' 2 (qAl s p).1 0 v)):=by
 have c0:=h.c0;by_cases h34:qAC s p=34
 ·have HE:Hid (qAl s p=if qAC s (qBq s (p+1))=34 then(qBq s (p+1)+1,some (qCd s (p+1) (qBq s (p+1))))else(qBq s (p+1),none)):=by unfold qAl;rw[if_pos h34];rfl
  have H34:=qAF h34;clear h34;go_enter func270,ntmps270
  go_wp2_with fail
  refine(qBU B rb s p _ _ h.1 hB (by decide) H34.out).mono ?_;rintro e w1⟨rfl,hr1,hk1⟩;have h1:=h.step hr1 hk1;have c1:=h1.c0;go_wp2_with fail
  go_region_held3 (fun wx=>wx.cell? ⟨xb,0,none⟩=some (.pointer (some ⟨rb,0,none⟩))) (first|exact hS|simp[go_sem, *]) (first|(go_at_call 280;refine(qR0 B rb s (p+1) _ (hr1.drewN _) hB).mono ?_;rintro e w2 ⟨rfl,hr2,hk2⟩;have h2:=(h1.drewN _).step hr2 hk2;have hS:=h2.c0)|(go_at_call 188;refine(qAw B rb s ⟨#[34]⟩ (qBq s (p+1)) _ h2.1 hB (by decide)).mono ?_;rintro e w3 ⟨v,rfl,hr3,hk3,hor⟩;have h3:=h2.step hr3 hk3;have hS:=h3.c0))
  go_wp2
  go_ret2
  rw[HE.out];have hkk:=(hk1.trans hk2.fromDrewN).trans hk3;by_cases hq:qAC s (qBq s (p+1))=34
  ·have he:qAo s [34] (qBq s (p+1))=(qBq s (p+1)+1,true):=qSt (by decide) hq;rw[he]at hor h3;rw[if_pos hq];rcases hor with⟨_,hv⟩|⟨ho,_⟩
   ·exact⟨_,_,rfl,h3,hkk,.inl ⟨rfl,hv⟩⟩
   ·cases ho
  ·have he:qAo s [34] (qBq s (p+1))=(qBq s (p+1),false):=qUg hq;rw[he]at hor h3;rw[if_neg hq];rcases hor with⟨ho,_⟩|⟨_,hc⟩
   ·cases ho
   ·exact⟨_,_,rfl,h3,hkk,.inr ⟨rfl,hc⟩⟩
 ·have HE:Hid (qAl s p=qB5 s p):=by unfold qAl;rw[if_neg h34];rfl
  have H34:=qAF h34;clear h34;go_enter func270,ntmps270
  go_wp2_with fail
  refine(qBm B rb s p _ _ h.1 (.inr H34.out)).mono ?_;rintro e w1⟨rfl,hr1,hk1⟩;have h1:=h.step hr1 hk1;have c1:=h1.c0;go_wp2_with fail
  refine(qOF B rb s p _ hr1 hB).mono ?_;rintro e w2⟨n,v,rfl,hr2,hk2,hor⟩;go_wp2
  go_ret2
  rw[HE.out];exact⟨_,_,rfl,h1.step hr2 hk2,hk1.trans hk2,hor⟩
theorem qIc(B xb rb:Nat)(s:ByteArray)(p a b c:Nat)(w:World)(h:Sx w xb rb s p a b c)(hB:B<=rb) :
  Calls prog 174 #[.pointer (some ⟨xb,0,none⟩)] w fun e w'=>∃(x:Int)(m:Bool),e=.returned (.tuple #[.int .u8 x,.bool m])/\Sx w' xb rb s (qBr s p).1 a b c/\Kp B [210] w w' /\
   (((qBr s p).2=some x/\m=true)\/((qBr s p).2=none/\m=false)):=by
 have c0:=h.c0;have hbd:=qKE s (spP s p);go_enter func174,ntmps174
 go_wp2_with fail
 refine(qAt B rb s p _ h.1 hB).mono ?_;rintro e w1⟨rfl,hr1,hk1⟩;have h1:=h.step hr1 hk1;have c1:=h1.c0;go_wp2_with fail
 refine(qAL rb s (spP s p) _ hr1).mono ?_;rintro e w2⟨rfl,n2,rfl⟩;have h2:=h1.drewN n2;have c2:=h2.c0;have hk2:=hk1.drewN n2;cases hc:qGH (qAC s (spP s p))
 ·cases hst:qKV (qAC s (spP s p))
  ·have HE:Hid (qBr s p=if p<spP s p then(spP s p,some 32)else(spP s p,none)):=by unfold qBr;rw[hc,hst];rfl
   have hne:qAC s (spP s p)≠62/\qAC s (spP s p)≠43/\qAC s (spP s p)≠126/\qAC s (spP s p)≠44/\qAC s (spP s p)≠41/\qAC s (spP s p)≠0:=by
    unfold qGH at hc;unfold qKV at hst;simp only[Bool.or_eq_false_iff,beq_eq_false_iff_ne]at hc hst;omega
   obtain⟨n1,n2,n3,n4,n5,n6⟩:=hne;clear hc hst;go_wp2
   go_ret2
   rw[HE.out];by_cases hlt:p<spP s p
   ·rw[if_pos hlt];exact⟨_,_,rfl,h2,hk2,.inl ⟨rfl,decide_eq_true hlt⟩⟩
   ·rw[if_neg hlt];exact⟨_,_,rfl,h2,hk2,.inr ⟨rfl,decide_eq_false hlt⟩⟩
  ·have HE:Hid (qBr s p=(spP s p,none)):=by unfold qBr;rw[hc,hst];rfl
   unfold qGH at hc;unfold qKV at hst;simp only[Bool.or_eq_false_iff,Bool.or_eq_true,beq_eq_false_iff_ne,beq_iff_eq]at hc hst;obtain⟨⟨n1,n2⟩,n3⟩:=hc;rcases hst with(hs|hs)|hs
   all_goals
    rw[hs]at n1 n2 n3 ⊢;go_wp2
    go_ret2
    rw[HE.out];exact⟨_,_,rfl,h2,hk2,.inr ⟨rfl,rfl⟩⟩
 ·have HE:Hid (qBr s p=(spP s (spP s p+1),some (qAC s (spP s p)))):=by unfold qBr;rw[hc];rfl
  have hlt:spP s p<s.size:=qAX (fun e=>by rw[e]at hc;revert hc;decide);have hsk:skipP s (spP s p)=spP s p+1:=by
   unfold skipP;rw[if_neg (fun e=>by rw[e]at hc;revert hc;decide)]
  unfold qGH at hc;simp only[Bool.or_eq_true,beq_iff_eq]at hc;have HSk:=qAF hsk;clear hsk;rcases hc with(hs|hs)|hs
  all_goals
   rw[hs]at HE ⊢;go_wp2_with fail
   refine(skip_any B rb s (spP s p) _ h2.1 hB).mono ?_;rintro e w3⟨rfl,hr3,hk3⟩;rw[HSk.out]at hr3;have h3:=h2.step hr3 hk3;have c3:=h3.c0;go_wp2_with fail
   refine(qAt B rb s (spP s p+1) _ h3.1 hB).mono ?_;rintro e w4⟨rfl,hr4,hk4⟩;go_wp2
   go_ret2
   rw[HE.out];exact⟨_,_,rfl,h3.step hr4 hk4,(hk2.trans hk3).trans hk4,.inl ⟨rfl,rfl⟩⟩
def qSP(x:AttrQ):Value:=.agg #[.string x.name,.string x.op,.string x.val,.bool x.any]
theorem qIp(B xb rb:Nat)(s:ByteArray)(p a b c:Nat)(w:World)(h:Sx w xb rb s p a b c)(hB:B<=rb) :
  Calls prog 255 #[.pointer (some ⟨xb,0,none⟩)] w fun e w'=>∃(y:AttrQ)(v:Value)(q:Nat),e=.returned (.tuple #[qSP y,v])/\Sx w' xb rb s q a b c/\Kp B [210] w w' /\
   (((qBC s p).2=some y/\q=(qBC s p).1/\v=.nilIface)\/((qBC s p).2=none/\∃n,Chain w' 2 (qBC s p).1 n v)):=by
 have h0:=h.alloc (.cells #[.string ⟨#[]⟩,.string ⟨#[]⟩,.string ⟨#[]⟩,.bool false] 259);have rs0:=qAE w (.cells #[.string ⟨#[]⟩,.string ⟨#[]⟩,.string ⟨#[]⟩,.bool false] 259);have hk0:=(Kp.refl B [210] w).alloc (.cells #[.string ⟨#[]⟩,.string ⟨#[]⟩,.string ⟨#[]⟩,.bool false] 259);have c0:=h0.c0;go_enter func255,ntmps255
 go_wp2_with fail
 refine(qAt B rb s p _ h0.1 hB).mono ?_;rintro e w1⟨rfl,hr1,hk1⟩;have h1:=h0.step hr1 hk1;have c1:=h1.c0;have rs1:=hk1.at (k:=w.heap.size) rs0 (by decide);have hkA:=hk0.trans hk1;clear c0 h0 rs0 hk0;go_wp2_with fail
 refine(qL1 B rb s (spP s p) _ h1.1 hB).mono ?_;rintro e w2⟨n,v,rfl,hr2,hk2,hor⟩;have h2:=h1.step hr2 hk2;have rs2:=hk2.at (k:=w.heap.size) rs1 (by decide);have hkB:=hkA.trans hk2;clear c1 h1 rs1 hkA;rcases hor with⟨ho,rfl⟩|⟨ho,hc⟩;rotate_left
 ·have HE:Hid (qBC s p=((qBQ s (spP s p) qAI).1,none)):=by
   unfold qBC;generalize qBQ s (spP s p) qAI=r at ho;obtain⟨q,o⟩:=r;dsimp only at ho;subst ho;rfl
  obtain⟨ty,kk,hv⟩:=hc.shape;rw[hv]at hc ⊢;go_wp2_with fail
  refine(qA9 B [] _ _ _ _ _ _ hc).mono ?_;rintro e w3⟨u,rfl,hc3,hk3⟩;have rs3:=hk3.at rs2 (by simp);obtain⟨⟨q0,q1,q2,q3⟩,f0,f1,f2,f3⟩:=qAk rs3;go_wp2
  obtain⟨rsF,kpF⟩:=qOi rs3 (.string ⟨#[]⟩) (.string ⟨#[]⟩) (.string ⟨#[]⟩) (.bool false);refine bodyPost_ret (v:=.tuple #[.agg #[.string ⟨#[]⟩,.string ⟨#[]⟩,.string ⟨#[]⟩,.bool false],u]) (by simp[results,Tryz.results255,go_sem,q0,q1,q2,q3]) rfl ?_;rw[HE.out];exact⟨qBD,u,_,rfl,(h2.kept hk3 (by simp) (by simp)).kept kpF (by decide) (by decide),(hkB.trans (hk3.mono (Nat.le_refl _) (by simp))).set4 (Nat.le_refl _) _ _ _ _,.inr ⟨rfl,_,hc3.kept kpF (by decide) (by decide)⟩⟩
 ·generalize hq:(qBQ s (spP s p) qAI).1=q at *;have HN:Hid (qBQ s (spP s p) qAI=(q,some n)):=by rw[<-hq,ho];rfl
  clear hq ho;have c2:=h2.c0;go_wp2_with fail
  refine(qAt B rb s q _ h2.1 hB).mono ?_;rintro e w3⟨rfl,hr3,hk3⟩;have h3:=h2.step hr3 hk3;have rs3:=hk3.at (k:=w.heap.size) rs2 (by decide);have hkC:=hkB.trans hk3;clear c2 h2 rs2 hkB;have h4:=h3.alloc (.cells #[.string n,.string ⟨#[]⟩,.string ⟨#[]⟩,.bool false] 259);have ns4:=qAE w3 (.cells #[.string n,.string ⟨#[]⟩,.string ⟨#[]⟩,.bool false] 259);have rs4:=qAG rs3 (.cells #[.string n,.string ⟨#[]⟩,.string ⟨#[]⟩,.bool false] 259);have hkD:=hkC.alloc (.cells #[.string n,.string ⟨#[]⟩,.string ⟨#[]⟩,.bool false] 259);have c4:=h4.c0;have hNR:w.heap.size<w3.heap.size:=lt_of_block rs3;generalize hN3:w3.heap.size=N3 at *;clear h3 rs3 hkC;go_wp2_with fail
  refine(qAL rb s (spP s q) _ h4.1).mono ?_;rintro e w5⟨rfl,n5,rfl⟩;have h5:=h4.drewN n5;have c5:=h5.c0;have hkE:=hkD.drewN n5;by_cases h93:qAC s (spP s q)=93
  ·have HE:Hid (qBC s p=(spP s q,some ⟨n,noB,noB,false⟩)):=by unfold qBC;rw[HN.out];dsimp only;rw[if_pos h93];rfl
   rw[h93];clear h93;obtain⟨⟨q0,q1,q2,q3⟩,f0,f1,f2,f3⟩:=qAk (w:=(w3.alloc (.cells #[.string n,.string ⟨#[]⟩,.string ⟨#[]⟩,.bool false] 259)).drewN n5) rs4;obtain⟨⟨m0,m1,m2,m3⟩,_⟩:=qAk (w:=(w3.alloc (.cells #[.string n,.string ⟨#[]⟩,.string ⟨#[]⟩,.bool false] 259)).drewN n5) ns4;go_wp2
   obtain⟨rsF,kpF⟩:=qOi (w:=(w3.alloc (.cells #[.string n,.string ⟨#[]⟩,.string ⟨#[]⟩,.bool false] 259)).drewN n5) rs4 (.string n) (.string ⟨#[]⟩) (.string ⟨#[]⟩) (.bool false);refine bodyPost_ret (v:=.tuple #[.agg #[.string n,.string ⟨#[]⟩,.string ⟨#[]⟩,.bool false],.nilIface]) (by simp[results,Tryz.results255,go_sem,q0,q1,q2,q3]) rfl ?_;rw[HE.out];exact⟨⟨n,noB,noB,false⟩,_,_,rfl,h5.kept kpF (by decide) (by decide),hkE.set4 (Nat.le_refl _) _ _ _ _,.inl ⟨rfl,rfl,rfl⟩⟩
  ·have h93':(qAC s (spP s q)==93)=false:=by simp[h93]
   have H93:=qAF h93;clear h93;go_wp2_with fail
   refine(qLa B xb rb s (spP s q) a b c _ h5 hB).mono ?_;rintro e w6⟨o,v,rfl,h6,hk6,hor⟩;have rs6:=hk6.at (k:=w.heap.size) rs4 (by decide);have ns6:=hk6.at (k:=N3) ns4 (by decide);have hkF:=hkE.trans hk6;clear h5 c5 rs4 ns4 hkE hkD c4 h4;rcases hor with⟨i,ho,hob,rfl⟩|⟨ho,hc⟩;rotate_left
   ·have HE:Hid (qBC s p=((qCo s opsW 3 [] (spP s q)).1,none)):=by
     unfold qBC;rw[HN.out];dsimp only;rw[if_neg H93.out];generalize qCo s opsW 3 [] (spP s q)=r at ho;obtain⟨q',o'⟩:=r;dsimp only at ho;subst ho;rfl
    obtain⟨ty,kk,hv⟩:=hc.shape;rw[hv]at hc ⊢;obtain⟨⟨m0,m1,m2,m3⟩,e0,e1,e2,e3⟩:=qAk ns6;have kpo:=Kp.setAny (p:=⟨N3,1,none⟩) ns6 (.string o);have rs7:=qAH (a:=⟨N3,1,none⟩) rs6 (Nat.ne_of_lt hNR) (.string o);have hkG:=hkF.setNew (p:=⟨N3,1,none⟩) (Nat.le_of_lt hNR) (.string o);go_wp2_with fail
    refine(qA9 B [] _ _ _ _ _ _ (hc.kept kpo (by decide) (by decide))).mono ?_;rintro e w8⟨u,rfl,hc8,hk8⟩;have rs8:=hk8.at rs7 (by simp);obtain⟨⟨q0,q1,q2,q3⟩,f0,f1,f2,f3⟩:=qAk rs8;go_wp2
    obtain⟨rsF,kpF⟩:=qOi rs8 (.string ⟨#[]⟩) (.string ⟨#[]⟩) (.string ⟨#[]⟩) (.bool false);refine bodyPost_ret (v:=.tuple #[.agg #[.string ⟨#[]⟩,.string ⟨#[]⟩,.string ⟨#[]⟩,.bool false],u]) (by simp[results,Tryz.results255,go_sem,q0,q1,q2,q3]) rfl ?_;rw[HE.out];exact⟨qBD,u,_,rfl,((h6.kept kpo (by decide) (by decide)).kept hk8 (by simp) (by simp)).kept kpF (by decide) (by decide),(hkG.trans (hk8.mono (Nat.le_refl _) (by simp))).set4 (Nat.le_refl _) _ _ _ _,.inr ⟨rfl,_,hc8.kept kpF (by decide) (by decide)⟩⟩
   ·generalize hq2:(qCo s opsW 3 [] (spP s q)).1=qq at *;have HO:Hid (qCo s opsW 3 [] (spP s q)=(qq,some i)):=by rw[<-hq2,<-ho];rfl
    have HOB:=qAF hob;clear hq2 ho hob;obtain⟨⟨m0,m1,m2,m3⟩,e0,e1,e2,e3⟩:=qAk ns6;have kpo:=Kp.setAny (p:=⟨N3,1,none⟩) ns6 (.string o);have rs7:=qAH (a:=⟨N3,1,none⟩) rs6 (Nat.ne_of_lt hNR) (.string o);have ns7:(w6.setCell ⟨N3,1,none⟩ (.string o)).heap[N3]? = some (.cells #[.string n,.string o,.string ⟨#[]⟩,.bool false] 259 (0,0)):=qAZ (o:=1) ns6 (.string o);have hkG:=hkF.setNew (p:=⟨N3,1,none⟩) (Nat.le_of_lt hNR) (.string o);have h7:=h6.kept kpo (by decide) (by decide);have c7:=h7.c0;have c6:=h6.c0;have hxN:=qFW h6.2.choose_spec ns6 (by decide);have hNx:=Ne.symm hxN;clear h6 rs6 ns6 hkF;go_wp2_with fail
    refine(qAt B rb s qq _ h7.1 hB).mono ?_;rintro e w8⟨rfl,hr8,hk8⟩;have h8:=h7.step hr8 hk8;have c8:=h8.c0;have rs8:=hk8.at (k:=w.heap.size) rs7 (by decide);have ns8:=hk8.at (k:=N3) ns7 (by decide);have hkH:=hkG.trans hk8;clear c6 h7 c7 rs7 ns7 hkG m0 m1 m2 m3 e0 e1 e2 e3 kpo;go_wp2_with fail
    refine(qL9 B xb rb s (spP s qq) a b c _ h8 hB).mono ?_;rintro e w9⟨x,v,rfl,h9,hk9,hor⟩;have rs9:=hk9.at (k:=w.heap.size) rs8 (by decide);have ns9:=hk9.at (k:=N3) ns8 (by decide);have hkI:=hkH.trans hk9;clear h8 c8 rs8 ns8 hkH;obtain⟨⟨m0,m1,m2,m3⟩,e0,e1,e2,e3⟩:=qAk ns9;have kpo:=Kp.setAny (p:=⟨N3,2,none⟩) ns9 (.string x);have rs10:=qAH (a:=⟨N3,2,none⟩) rs9 (Nat.ne_of_lt hNR) (.string x);have ns10:(w9.setCell ⟨N3,2,none⟩ (.string x)).heap[N3]? = some (.cells #[.string n,.string o,.string x,.bool false] 259 (0,0)):=qAZ (o:=2) ns9 (.string x);have hkJ:=hkI.setNew (p:=⟨N3,2,none⟩) (Nat.le_of_lt hNR) (.string x);have h10:=h9.kept kpo (by decide) (by decide);rcases hor with⟨ho,rfl⟩|⟨ho,hc⟩;rotate_left
    ·have HE:Hid (qBC s p=((qAl s (spP s qq)).1,none)):=by
      unfold qBC;rw[HN.out];dsimp only;rw[if_neg H93.out,HO.out];dsimp only;generalize qAl s (spP s qq)=r at ho;obtain⟨q',o'⟩:=r;dsimp only at ho;subst ho;rfl
     obtain⟨ty,kk,hv⟩:=hc.shape;rw[hv]at hc ⊢;go_wp2_with fail
     refine(qA9 B [] _ _ _ _ _ _ (hc.kept kpo (by decide) (by decide))).mono ?_;rintro e w11⟨u,rfl,hc11,hk11⟩;have rs11:=hk11.at rs10 (by simp);clear m0 m1 m2 m3 e0 e1 e2 e3;obtain⟨⟨q0,q1,q2,q3⟩,f0,f1,f2,f3⟩:=qAk rs11;go_wp2
     obtain⟨rsF,kpF⟩:=qOi rs11 (.string ⟨#[]⟩) (.string ⟨#[]⟩) (.string ⟨#[]⟩) (.bool false);refine bodyPost_ret (v:=.tuple #[.agg #[.string ⟨#[]⟩,.string ⟨#[]⟩,.string ⟨#[]⟩,.bool false],u]) (by simp[results,Tryz.results255,go_sem,q0,q1,q2,q3]) rfl ?_;rw[HE.out];exact⟨qBD,u,_,rfl,(h10.kept hk11 (by simp) (by simp)).kept kpF (by decide) (by decide),(hkJ.trans (hk11.mono (Nat.le_refl _) (by simp))).set4 (Nat.le_refl _) _ _ _ _,.inr ⟨rfl,_,hc11.kept kpF (by decide) (by decide)⟩⟩
    ·generalize hq3:(qAl s (spP s qq)).1=q3 at *;have HA:Hid (qAl s (spP s qq)=(q3,some x)):=by rw[<-hq3,<-ho];rfl
     clear hq3 ho;have c10:=h10.c0;have c9:=h9.c0;go_wp2_with fail
     refine(qAt B rb s q3 _ h10.1 hB).mono ?_;rintro e w11⟨rfl,hr11,hk11⟩;have h11:=h10.step hr11 hk11;have c11:=h11.c0;have rs11:=hk11.at (k:=w.heap.size) rs10 (by decide);have ns11:=hk11.at (k:=N3) ns10 (by decide);have hkK:=hkJ.trans hk11;clear c9 m0 m1 m2 m3 e0 e1 e2 e3 h10 c10 rs10 ns10 hkJ h9 rs9 ns9 hkI kpo;by_cases h105:qAC s (spP s q3)=105
     ·have HE:Hid (qBC s p=(spP s (spP s q3+1),some ⟨n,o,x,true⟩)):=by
       unfold qBC;rw[HN.out];dsimp only;rw[if_neg H93.out,HO.out];dsimp only;rw[HA.out];dsimp only;unfold qON;rw[if_pos h105,HOB.out];rfl
      have H105:=qAF h105;clear h105;go_wp2_with fail
      refine(qBU B rb s (spP s q3) _ _ h11.1 hB (by decide) H105.out).mono ?_;rintro e w12⟨rfl,hr12,hk12⟩;have h12:=h11.step hr12 hk12;have rs12:=hk12.at (k:=w.heap.size) rs11 (by decide);have ns12:=hk12.at (k:=N3) ns11 (by decide);have hkL:=hkK.trans hk12;obtain⟨⟨m0,m1,m2,m3⟩,e0,e1,e2,e3⟩:=qAk ns12;have kpo:=Kp.setAny (p:=⟨N3,3,none⟩) ns12 (.bool true);have rs13:=qAH (a:=⟨N3,3,none⟩) rs12 (Nat.ne_of_lt hNR) (.bool true);have ns13:(w12.setCell ⟨N3,3,none⟩ (.bool true)).heap[N3]? = some (.cells #[.string n,.string o,.string x,.bool true] 259 (0,0)):=qAZ (o:=3) ns12 (.bool true);have hkM:=hkL.setNew (p:=⟨N3,3,none⟩) (Nat.le_of_lt hNR) (.bool true);have h13:=h12.kept kpo (by decide) (by decide);have c13:=h13.c0;have c12:=h12.c0;go_wp2_with fail
      refine(qAt B rb s _ _ h13.1 hB).mono ?_;rintro e w14⟨rfl,hr14,hk14⟩;have h14:=h13.step hr14 hk14;have rs14:=hk14.at (k:=w.heap.size) rs13 (by decide);have ns14:=hk14.at (k:=N3) ns13 (by decide);have hkN:=hkM.trans hk14;clear m0 m1 m2 m3 e0 e1 e2 e3 c12 c13 c11;obtain⟨⟨m0,m1,m2,m3⟩,e0,e1,e2,e3⟩:=qAk ns14;obtain⟨⟨q0,q1,q2,q3'⟩,f0,f1,f2,f3⟩:=qAk rs14;go_wp2
      obtain⟨rsF,kpF⟩:=qOi rs14 (.string n) (.string o) (.string x) (.bool true);refine bodyPost_ret (v:=.tuple #[.agg #[.string n,.string o,.string x,.bool true],.nilIface]) (by simp[results,Tryz.results255,go_sem,q0,q1,q2,q3']) rfl ?_;rw[HE.out];exact⟨⟨n,o,x,true⟩,_,_,rfl,h14.kept kpF (by decide) (by decide),hkN.set4 (Nat.le_refl _) _ _ _ _,.inl ⟨rfl,rfl,rfl⟩⟩
     ·have HE:Hid (qBC s p=(spP s (spP s q3),some ⟨n,o,x,false⟩)):=by
       unfold qBC;rw[HN.out];dsimp only;rw[if_neg H93.out,HO.out];dsimp only;rw[HA.out];dsimp only;unfold qON;rw[if_neg h105,HOB.out];rfl
      have H105:=qAF h105;clear h105;go_wp2_with fail
      refine(qBm B rb s (spP s q3) _ _ h11.1 (.inr H105.out)).mono ?_;rintro e w12⟨rfl,hr12,hk12⟩;have h12:=h11.step hr12 hk12;have rs12:=hk12.at (k:=w.heap.size) rs11 (by decide);have ns12:=hk12.at (k:=N3) ns11 (by decide);have hkL:=hkK.trans hk12;obtain⟨⟨m0,m1,m2,m3⟩,e0,e1,e2,e3⟩:=qAk ns12;have kpo:=Kp.setAny (p:=⟨N3,3,none⟩) ns12 (.bool false);have rs13:=qAH (a:=⟨N3,3,none⟩) rs12 (Nat.ne_of_lt hNR) (.bool false);have ns13:(w12.setCell ⟨N3,3,none⟩ (.bool false)).heap[N3]? = some (.cells #[.string n,.string o,.string x,.bool false] 259 (0,0)):=qAZ (o:=3) ns12 (.bool false);have hkM:=hkL.setNew (p:=⟨N3,3,none⟩) (Nat.le_of_lt hNR) (.bool false);have h13:=h12.kept kpo (by decide) (by decide);have c13:=h13.c0;have c12:=h12.c0;go_wp2_with fail
      refine(qAt B rb s _ _ h13.1 hB).mono ?_;rintro e w14⟨rfl,hr14,hk14⟩;have h14:=h13.step hr14 hk14;have rs14:=hk14.at (k:=w.heap.size) rs13 (by decide);have ns14:=hk14.at (k:=N3) ns13 (by decide);have hkN:=hkM.trans hk14;clear m0 m1 m2 m3 e0 e1 e2 e3 c12 c13 c11;obtain⟨⟨m0,m1,m2,m3⟩,e0,e1,e2,e3⟩:=qAk ns14;obtain⟨⟨q0,q1,q2,q3'⟩,f0,f1,f2,f3⟩:=qAk rs14;go_wp2
      obtain⟨rsF,kpF⟩:=qOi rs14 (.string n) (.string o) (.string x) (.bool false);refine bodyPost_ret (v:=.tuple #[.agg #[.string n,.string o,.string x,.bool false],.nilIface]) (by simp[results,Tryz.results255,go_sem,q0,q1,q2,q3']) rfl ?_;rw[HE.out];exact⟨⟨n,o,x,false⟩,_,_,rfl,h14.kept kpF (by decide) (by decide),hkN.set4 (Nat.le_refl _) _ _ _ _,.inl ⟨rfl,rfl,rfl⟩⟩
def qW9(ws:List (List UInt8))(t:List UInt8)(i:Nat)(x:List UInt8):Prop:=ws[i]? = some x/\∀j y,ws[j]? = some y->t.isPrefixOf y=true->j=i
