/-
  Parts of the proof: J12.
-/
import Derived.Test.YtclpcnignheijaaGreatDoorQ26
set_option maxHeartbeats 8000000
set_option maxRecDepth 100000
namespace Go.Proofs.YtclpcnignheijaaGreatDoor.Num
open Go.RowKit Go.Proofs.Tryz
section
variable{u0:World}{tb:Nat}{b:BS}{lv:Value}{A:List Cpx}
theorem qQy(hb:BOk b){fb:Nat}(m:Nat)(hm:m<b.els.length)(w:World)(ht:TrC w tb b)(c0:w.cell? ⟨fb,0,none⟩=some (.pointer (some ⟨tb,0,none⟩)))(n:ByteArray)(v:Bool)(hv:Hid (qQw b n m=v)) :
  Calls prog 234 #[.pointer (some ⟨fb,0,none⟩),.int .i64 (m:Int),.string n] w fun e w'=>e=.returned (.bool v)/\Old w w':=hv.out▸qQf hb m hm ht c0 n
theorem qTG{k:Nat}(h:k<11):qf k=150\/qf k=151\/qf k=152\/qf k=153\/qf k=154\/qf k=155\/qf k=156\/qf k=157\/qf k=158\/qf k=159\/qf k=160:=by
 rcases k with _|_|_|_|_|_|_|_|_|_|_|k<;>first|simp[qf]|omega
theorem qOe(E:Env u0 tb b A){σ:Nat}(IH:qE3 u0 tb b lv A σ){d:Nat}{st:Stp}{mv:Value}(hw:wfT (wfN d) st)(hl:∀k x a t l,Sim.mk k x a t l∈st.2.2->szl l<σ)(hs:selM u0 (SelL A u0 d) mv st.2.2)
  (fb m:Nat) (rows:List Nat) (M:Nat->Nat->Nat) (w:World) (hm:m<b.els.length) (hF:Fin u0 tb b.els.length lv fb rows M w) (hR:RightTo b A σ M) (g o:Nat) (h0:u0.cell? ⟨g,o,none⟩=some (.string st.2.1)) (h1:u0.cell? ⟨g,o+1,none⟩=some mv) :
  Calls prog 212 #[.pointer (some ⟨fb,0,none⟩),.pointer (some ⟨g,o,none⟩),.int .i64 (m:Int)] w (Ans u0 tb b lv A fb rows M (qGJ b (qIL b (qDV b)) st m)):=by
 obtain⟨by',n,ms⟩:=st;dsimp only at hl hs h0;have hwm:∀s∈ms,wfS (wfN d) s:=hw;obtain⟨ao,cp,rfl,hmx⟩:=hs.shape;have k0:=hF.old.cells _ _ h0;have k1:=hF.old.cells _ _ h1;have c0:=hF.c0.1;have hmx':(ms.length:Int)<=9223372036854775807:=by unfold maxLen at hmx;omega
 cases hnm:qQw b n m
 ·have HN:=qAF hnm;have HE:Hid (qGJ b (qIL b (qDV b)) (by',n,ms) m=false):=by unfold qGJ;dsimp only;rw[hnm];rfl
  clear hnm;go_enter func212,ntmps212
  go_wp2_with fail
  refine(qQy E.ok m hm _ (hF.old.tr E.tree) c0 n false HN).mono ?_;rintro e w1⟨rfl,ho⟩;go_wp2
  go_ret
  rw[HE.out];exact Ans.same hF ho
 ·have HN:=qAF hnm;have HE:Hid (qGJ b (qIL b (qDV b)) (by',n,ms) m=ms.all fun s=>qIL b (qDV b) s m):=by unfold qGJ;dsimp only;rw[hnm];rfl
  clear hnm;go_enter func212,ntmps212
  go_wp2_with fail
  refine(qQy E.ok m hm _ (hF.old.tr E.tree) c0 n true HN).mono ?_;rintro e w1⟨rfl,ho⟩;have hF1:=hF.go ho;have k1:=hF1.old.cells _ _ h1;clear k0 c0;go_wp2_with fail
  go_loopw [22] (fun iv wr=>∃(i:Nat)(rows1:List Nat)(M1:Nat->Nat->Nat),iv=.int .i64 (i:Int)/\i<=ms.length/\Fin u0 tb b.els.length lv fb rows1 M1 wr/\rows <+: rows1/\UpM b A M M1/\Hid (((ms.drop i).all fun s=>qIL b (qDV b) s m)=ms.all fun s=>qIL b (qDV b) s m)) (fun iv _=>((ms.length:Int)-intOf iv).toNat)
  case atStart=>exact⟨0,rows,M,rfl,Nat.zero_le _,hF1,List.prefix_refl _,UpM.refl _ _ _,rfl⟩
  case round =>
   obtain⟨i,rows1,M1,rfl,hi,hF2,hpre,hup,HA⟩:=hrel;by_cases hlt:i<ms.length
   ·obtain⟨s,hsi⟩:∃s,ms[i]? = some s:=⟨ms[i],List.getElem?_eq_getElem hlt⟩;have hsm:=List.mem_of_getElem? hsi;obtain⟨k,x,a,t,l⟩:=s;obtain⟨g2,cap2,lv2,hv2,hcell,hval,hsel⟩:=hs.get hsi;injection hv2 with e1 _ e3;subst e1;subst e3;have hq:=hwm _ hsm;have hk11:k<11:=hq.1;have q0:wr.cell? ⟨g2,i*11,none⟩=some (.int .i64 (k:Int)):=hF2.old.cells _ _ (hcell 0 _ rfl);have q1:=hF2.old.cells _ _ h1;obtain⟨hold,hge,qb,kv,m1,m2,m3,m4,m5,m6⟩:=hF2;obtain⟨⟨c0,c1,c2,c3⟩,f0,f1,f2,f3⟩:=qAk m1;have qk:wr.cell? ⟨qb,k,none⟩=some (.func (.func (qf k)) #[] #[]):=by
     unfold World.cell?;dsimp only;rw[m2];exact qRI hk11
    have hF2:Fin u0 tb b.els.length lv fb rows1 M1 wr:=⟨hold,hge,qb,kv,m1,m2,m3,m4,m5,m6⟩;have M3:=qAF m3;have M5:=qAF m5;have M6:=qAF m6;have M1':=qAF m1;have M2:=qAF m2;clear m1 m2 m3 m4 m5 m6;have hlt':(i:Int)<(ms.length:Int):=by omega
    obtain⟨r,HS⟩:∃r,Hid (qIL b (qDV b) (.mk k x a t l) m=r):=⟨_,rfl⟩;have hsq:∀w2:World,w2.heap=wr.heap->Calls prog (qf k) #[.pointer (some ⟨fb,0,none⟩),.int .i64 (m:Int),.pointer (some ⟨g2,i*11,none⟩)] w2 (Ans u0 tb b lv A fb rows1 M1 r):=fun w2 e=>by
     rw[<-HS.out];exact qTe E IH hq (hl _ _ _ _ _ hsm) hval hsel fb m rows1 M1 _ hm (hF2.go (Old.heap e)) ((hR.up hup).mono (Nat.le_of_lt (hl _ _ _ _ _ hsm))) g2 (i*11) hcell
    have hdrop:ms.drop i=.mk k x a t l::ms.drop (i+1):=by
     rw[List.drop_eq_getElem_cons hlt];congr 1;rw[List.getElem?_eq_getElem hlt]at hsi;exact Option.some.inj hsi
    have HB:Hid ((ms.all fun s=>qIL b (qDV b) s m)=(r&&(ms.drop (i+1)).all fun s=>qIL b (qDV b) s m)):=qAF (by rw[<-HA.out,hdrop,List.all_cons,HS.out]);have hqs:=qTG hk11;clear hF2 hcell hval hsel hsi hdrop hq hsm;cases r
    ·rcases hqs with e|e|e|e|e|e|e|e|e|e|e
     all_goals
      rw[e]at qk hsq;clear e;go_wp2
      go_region_with (refine(hsq _ (by rfl)).mono ?_;rintro e w3 ⟨rfl,rows3,M3',hF3,hp3,hu3⟩)
      all_goals
       go_wp2
       go_ret
       rw[HE.out,HB.out];exact⟨rfl,rows3,M3',hF3,hpre.trans hp3,hup.trans hu3⟩
    ·rcases hqs with e|e|e|e|e|e|e|e|e|e|e
     all_goals
      rw[e]at qk hsq;clear e;go_wp2
      go_region_with (refine(hsq _ (by rfl)).mono ?_;rintro e w3 ⟨rfl,rows3,M3',hF3,hp3,hu3⟩)
      all_goals
       go_wp2
       go_roundw
       case rel=>exact⟨i+1,rows3,M3',by simp,by omega,hF3,hpre.trans hp3,hup.trans hu3,qAF (by rw[HB.out];rfl)⟩
       case measure=>simp[intOf];omega
   ·have hlt':¬(i:Int)<(ms.length:Int):=by omega
    have HX:Hid ((ms.all fun s=>qIL b (qDV b) s m)=true):=qAF (by rw[<-HA.out,List.drop_eq_nil_of_le (by omega)];rfl);go_wp2
    go_ret
    rw[HE.out,HX.out];exact⟨rfl,rows1,M1,hF2,hpre,hup⟩
end
