import Derived.Test.YtclpcnignheijaaGreatDoorR7
import Derived.Deep.RegionWith
namespace Go.Proofs.YtclpcnignheijaaGreatDoor
open Go.RowKit

theorem at_drewR {w : World} {k : Nat} {o : Option Obj} (h : w.heap[k]? = o) (n : Nat) : (w.drewN n).heap[k]? = o := h
theorem number_keep (B : Nat) (n : Int) (w : World) (h1 : -100 < n) (h2 : n < 100) {R : Nat} {cr : Array Value} {t : TypeId} {fr : Nat × Nat} (rs : w.heap[R]? = some (.cells cr t fr)) :
    Calls Tryz.prog 240 #[.int .i64 n] w fun e w' => e = .returned (.string (bytesOf (numT n))) ∧ Kp B [] w w' ∧ w'.heap[R]? = some (.cells cr t fr) := by
  refine (number_any n w h1 h2).mono ?_
  rintro e w' ⟨rfl, hb⟩
  have hk : Kp B [] w w' := Kp.ofBelow hb
  exact ⟨rfl, hk, hk.at rs (by simp)⟩
theorem count_zero (s : ByteArray) (p : Nat) (h : (countP s p).2.2 = false) : (countP s p).2.1 = 0 := by
  unfold countP at h ⊢
  split
  · rename_i h1
    rw [if_pos h1] at h
    split at h <;> simp at h
  · rfl
set_option maxRecDepth 100000 in
set_option maxHeartbeats 4000000 in
theorem rnth_step (B mb sb : Nat) (s : ByteArray) (p a m : Nat) (so : Int) (wd : ByteArray) (lv : Value) (w : World) (h : Mk w mb s p false a m) (hs : Sb w sb so wd noB noB false 0 0 noB lv) (hB : B ≤ mb) (hBs : B ≤ sb) (h1 : peekI s p ≠ 111) (h2 : peekI s p ≠ 101) (hn : peekI s (countP s (signP s p).1).1 = 110) : RNth B mb sb s p a m so wd lv w := by
  have hsc := sign_cases s p
  have hcb := countP_bd s (signP s p).1
  have e1 : (peekI s p == 111) = false := by simp [h1]
  have e2 : (peekI s p == 101) = false := by simp [h2]
  have H1 := hide h1; have H2 := hide h2; have HN := hide hn
  clear h1 h2 hn
  unfold RNth
  go_enter Tryz.func215, Tryz.ntmps215
  go_wp2_with fail
  refine (next_is mb s p false a m _ (peekI s p) h (nextI_ok s p)).mono ?_
  rintro e w1 ⟨rfl, n1, rfl⟩
  go_wp2_with fail
  refine (rsign_any B mb s p a m _ (h.drewN n1) hB).mono ?_
  rintro e w2 ⟨rfl, hm2, hk2⟩
  have hs2 : Sb w2 sb so wd noB noB false 0 0 noB lv := hk2.at (w := w.drewN n1) hs (by decide)
  have hkA := ((Kp.refl B [153] w).drewN n1).trans hk2
  generalize hsg : signP s p = r at *
  obtain ⟨q2, sg, sd⟩ := r
  dsimp only at *
  generalize hsr : signR s p = sR at *
  go_wp2_with fail
  refine (rcount_any B mb s q2 a m _ hm2 hB).mono ?_
  rintro e w3 ⟨kk, rfl, ⟨hk2', hkz⟩, hm3, hk3⟩
  have hs3 : Sb w3 sb so wd noB noB false 0 0 noB lv := hk3.at hs2 (by decide)
  have hkB := hkA.trans hk3
  generalize hcn : countP s q2 = r at *
  obtain ⟨q3, cn, cd⟩ := r
  dsimp only at *
  have HSG := hide hsg; have HCN := hide hcn
  clear hsg hcn hsr
  have hkkI : ((kk : Int) == 0) = !cd := by
    rw [← hkz, Bool.eq_iff_iff, beq_iff_eq, beq_iff_eq]; omega
  have HNum : Hid (numbersP s p = ((behindP s (q3 + 1)).1, (behindP s (q3 + 1)).2.map fun b => ⟨noB, true, sg * (if cd = true then cn else 1), b⟩)) := by
    unfold numbersP
    rw [if_neg H1.out, if_neg H2.out, HSG.out]; dsimp only
    rw [HCN.out]; dsimp only
    rw [if_pos HN.out]; rfl
  clear hkz HSG HCN
  rcases hsc with ⟨rfl, hsn⟩ | ⟨rfl, hsn⟩
  · cases cd
    · rw [show (1 : Int) * (if false = true then cn else 1) = 1 from rfl] at HNum
      go_wp2_with fail
      refine (is_yes B mb s q3 a m _ _ hm3 hB HN.out (by decide)).mono ?_
      rintro e w4 ⟨rfl, hm4, hk4⟩
      have hs4 : Sb w4 sb so wd noB noB false 0 0 noB lv := hk4.at hs3 (by decide)
      have hkC := hkB.trans hk4
      obtain ⟨⟨u0, u1, u2, u3, u4, u5, u6, u7, u8⟩, fu⟩ := cells9 hs4
      have fu5 := fu 5
      go_wp2_with fail
      have b0 := set_blk (o := 5) hs4 (.int .i64 (cn))
      have z0 := (Kp.refl 0 [104] w4).setCell (p := ⟨sb, 5, none⟩) hs4 (by simp) (Nat.zero_le _) (.int .i64 (cn))
      have y0 := hkC.tm.setCell (p := ⟨sb, 5, none⟩) hs4 (by simp [TM]) hBs (.int .i64 (cn))
      have b1 := set_blk (o := 5) b0 (.int .i64 (1))
      have z1 := z0.setCell (p := ⟨sb, 5, none⟩) b0 (by simp) (Nat.zero_le _) (.int .i64 (1))
      have y1 := y0.setCell (p := ⟨sb, 5, none⟩) b0 (by simp [TM]) hBs (.int .i64 (1))
      have s5 : Sb ((w4.setCell ⟨sb, 5, none⟩ (.int .i64 (cn))).setCell ⟨sb, 5, none⟩ (.int .i64 (1))) sb so wd noB noB false (1) 0 noB lv := b1
      have kz5 := z1
      have hk5 := y1
      clear b0 z0 y0 b1 z1 y1
      have hm5 := hm4.kept kz5 (by decide)
      have hbA := numT_size (1)
      clear u0 u1 u2 u3 u4 u5 u6 u7 u8 fu fu5
      generalize ((w4.setCell ⟨sb, 5, none⟩ (.int .i64 (cn))).setCell ⟨sb, 5, none⟩ (.int .i64 (1))) = w5 at *
      refine (number_any (1) _ (by omega) (by omega)).mono ?_
      rintro e w6 ⟨rfl, hb6⟩
      have hk60 : Kp 0 [] w5 w6 := Kp.ofBelow hb6
      have hk6 := hk5.trans (Kp.ofBelow (B := B) (T := [153]) hb6).tm
      have s6 : Sb w6 sb so wd noB noB false (1) 0 noB lv := hk60.at s5 (by simp)
      have hm6 := hm5.kept hk60 (by simp)
      obtain ⟨⟨u0, u1, u2, u3, u4, u5, u6, u7, u8⟩, fu⟩ := cells9 s6
      have fu7 := fu 7
      go_wp2_with fail
      rw [show (bytesOf (numT (1)) ++ ({ data := #[110] } : ByteArray)) = bytesOf (numT (1) ++ [110]) from app_bytes _ [110]]
      have kz7 := Kp.setAny (p := ⟨sb, 7, none⟩) s6 (.string (bytesOf (numT (1) ++ [110])))
      have s7 : Sb (w6.setCell ⟨sb, 7, none⟩ (.string (bytesOf (numT (1) ++ [110])))) sb so wd noB noB false (1) 0 (bytesOf (numT (1) ++ [110])) lv := set_blk (o := 7) s6 _
      have hk7 := hk6.setCell (p := ⟨sb, 7, none⟩) s6 (by simp [TM]) hBs (.string (bytesOf (numT (1) ++ [110])))
      have hm7 := hm6.kept kz7 (by decide)
      clear u0 u1 u2 u3 u4 u5 u6 u7 u8 fu fu7 kz7 s6 hm6 hk6 hk60
      generalize w6.setCell ⟨sb, 7, none⟩ (.string (bytesOf (numT (1) ++ [110]))) = w7 at *
      refine (rspaces_any B mb s (q3 + 1) false a m _ hm7 hB).mono ?_
      rintro e w8 ⟨rfl, hm8, hk8⟩
      rw [show spR s (q3 + 1) false = spP s (q3 + 1) from rfl] at hm8 ⊢
      have s8 : Sb w8 sb so wd noB noB false (1) 0 (bytesOf (numT (1) ++ [110])) lv := hk8.at s7 (by decide)
      have hkD := hk7.trans hk8.tm
      have hsc2 := sign_cases s (spP s (q3 + 1))
      have hsv2 : signR s (spP s (q3 + 1)) = if (signP s (spP s (q3 + 1))).2.2 = true then (signP s (spP s (q3 + 1))).2.1 else 0 := rfl
      go_wp2_with fail
      refine (rsign_any B mb s (spP s (q3 + 1)) a m _ hm8 hB).mono ?_
      rintro e w9 ⟨rfl, hm9, hk9⟩
      have s9 : Sb w9 sb so wd noB noB false (1) 0 (bytesOf (numT (1) ++ [110])) lv := hk9.at s8 (by decide)
      have hkE := hkD.trans hk9.tm
      generalize hsg2 : signP s (spP s (q3 + 1)) = r at *
      obtain ⟨q5, sg2, sd2⟩ := r
      dsimp only at *
      generalize hsr2 : signR s (spP s (q3 + 1)) = sR2 at *
      clear hsr2 s8 hkD hm8 s7 hk7 hm7
      cases sd2
      · have hz : (sR2 == 0) = true := by rw [hsv2]; rfl
        have HB : Hid (behindP s (q3 + 1) = (q5, some 0)) := by unfold behindP; rw [hsg2]; rfl
        clear hsv2 hsc2 hsg2
        go_wp2
        refine bodyPost_ret (results_none Tryz.results215 _ _ _) rfl ?_
        rw [HNum.out, HB.out]
        exact ⟨rfl, hkE, .inl ⟨_, rfl, hm9, s9⟩⟩
      · have hs2v : sR2 = sg2 := by rw [hsv2]; rfl
        have hz : (sR2 == 0) = false := by
          rw [beq_eq_false_iff_ne, hs2v]
          rcases hsc2 with ⟨e, _⟩ | ⟨e, _⟩ <;> rw [e] <;> decide
        have HSG2 := hide hsg2
        clear hsv2 hsg2
        subst hs2v
        go_wp2_with fail
        refine (rspaces_any B mb s q5 false a m _ hm9 hB).mono ?_
        rintro e w10 ⟨rfl, hm10, hk10⟩
        rw [show spR s q5 false = spP s q5 from rfl] at hm10 ⊢
        have s10 : Sb w10 sb so wd noB noB false (1) 0 (bytesOf (numT (1) ++ [110])) lv := hk10.at s9 (by decide)
        have hkF := hkE.trans hk10.tm
        have hcb2 := countP_bd s (spP s q5)
        go_wp2_with fail
        refine (rcount_any B mb s (spP s q5) a m _ hm10 hB).mono ?_
        rintro e w11 ⟨k2, rfl, ⟨hk2b, hk2z⟩, hm11, hk11⟩
        have s11 : Sb w11 sb so wd noB noB false (1) 0 (bytesOf (numT (1) ++ [110])) lv := hk11.at s10 (by decide)
        have hkG := hkF.trans hk11.tm
        generalize hcn2 : countP s (spP s q5) = r at *
        obtain ⟨q7, cn2, cd2⟩ := r
        dsimp only at *
        have hk2I : ((k2 : Int) == 0) = !cd2 := by
          rw [← hk2z, Bool.eq_iff_iff, beq_iff_eq, beq_iff_eq]; omega
        have HB : Hid (behindP s (q3 + 1) = (q7, if cd2 = true then some (sR2 * cn2) else none)) := by
          unfold behindP; rw [HSG2.out]; dsimp only; rw [hcn2]; dsimp only
          cases cd2 <;> rfl
        have hzero : cd2 = false → cn2 = 0 := by
          intro hcd
          have := count_zero s (spP s q5)
          rw [hcn2] at this
          exact this hcd
        have hTs : (bytesOf (numT (1) ++ [110])).size ≤ 20 := by
          rw [← app_bytes, ByteArray.size_append]
          have h2 : (bytesOf [110]).size = 1 := rfl
          omega
        clear hk2z hcn2 s10 hkF hm10 s9 hkE hm9
        have d2 := hm11.c2; have df := hm11.free (o := 2)
        have hneb := block_ne hm11.blk s11 (by decide)
        have hneb' := Ne.symm hneb
        obtain ⟨⟨u0, u1, u2, u3, u4, u5, u6, u7, u8⟩, fu⟩ := cells9 s11
        have fu6 := fu 6; have fu7 := fu 7
        clear fu
        cases cd2
        · obtain rfl := hzero rfl
          rw [show sR2 * (0 : Int) = 0 from by omega] at HB
          have sB := (Kp.setAny (p := ⟨mb, 2, none⟩) hm11.blk (.bool true)).at s11 (by decide)
          have hkH := hkG.trans ((Kp.refl B [153] w11).setCell (p := ⟨mb, 2, none⟩) hm11.blk (by simp) hB (.bool true)).tm
          have hmB := hm11.set2 true
          have k6 := set_blk (o := 6) sB (.int .i64 0)
          have kz6 := Kp.setAny (p := ⟨sb, 6, none⟩) sB (.int .i64 0)
          have hk6 := hkH.setCell (p := ⟨sb, 6, none⟩) sB (by simp [TM]) hBs (.int .i64 0)
          have hm6 := hmB.kept kz6 (by decide)
          clear sB kz6 hzero
          go_wp2
          go_end0
          rw [HNum.out, HB.out]
          exact ⟨rfl, hk6, .inr ⟨rfl, hm6, _, _, _, k6⟩⟩
        · clear hzero
          by_cases hc0 : cn2 = 0
          · subst hc0
            rw [show sR2 * (0 : Int) = 0 from by omega] at HB
            have k6 := set_blk (o := 6) s11 (.int .i64 0)
            have kz6 := Kp.setAny (p := ⟨sb, 6, none⟩) s11 (.int .i64 0)
            have hk6 := hkG.setCell (p := ⟨sb, 6, none⟩) s11 (by simp [TM]) hBs (.int .i64 0)
            have hm6 := hm11.kept kz6 (by decide)
            clear kz6
            go_wp2
            go_end0
            rw [HNum.out, HB.out]
            exact ⟨rfl, hk6, .inl ⟨_, rfl, hm6, k6⟩⟩
          · have hpos : 0 < cn2 := by omega
            have hpos' : ¬ cn2 ≤ 0 := by omega
            have hnz : (cn2 != 0) = true := by simp [hc0]
            have HSC2 := hide hsc2
            clear hsc2 hc0
            rcases HSC2.out with ⟨hs1, _⟩ | ⟨hs1, _⟩
            · subst hs1
              rw [show (1 : Int) * cn2 = cn2 from by omega] at HB
              have k6 := set_blk (o := 6) s11 (.int .i64 cn2)
              have kz6 := Kp.setAny (p := ⟨sb, 6, none⟩) s11 (.int .i64 cn2)
              have hk6 := hkG.setCell (p := ⟨sb, 6, none⟩) s11 (by simp [TM]) hBs (.int .i64 cn2)
              have hm6 := hm11.kept kz6 (by decide)
              have kp7 := set_blk (o := 7) k6 (.string (bytesOf (numT (1) ++ [110]) ++ ({ data := #[43] } : ByteArray)))
              have kz7 := kz6.setCell (p := ⟨sb, 7, none⟩) k6 (by simp) (Nat.zero_le _) (.string (bytesOf (numT (1) ++ [110]) ++ ({ data := #[43] } : ByteArray)))
              have hk7 := hk6.setCell (p := ⟨sb, 7, none⟩) k6 (by simp [TM]) hBs (.string (bytesOf (numT (1) ++ [110]) ++ ({ data := #[43] } : ByteArray)))
              have hm7 := hm11.kept kz7 (by decide)
              go_wp2_with fail
              clear u0 u1 u2 u3 u4 u5 u6 u7 u8 fu6 fu7 d2 df k6 kz6 hk6 hm6 kz7
              have hT1 : (bytesOf (numT (1) ++ [110]) ++ ({ data := #[43] } : ByteArray)) = bytesOf (numT (1) ++ [110, 43]) := by
                rw [show ({ data := #[43] } : ByteArray) = bytesOf [43] from rfl, app_bytes, List.append_assoc]; rfl
              rw [hT1] at kp7 hk7 hm7 ⊢
              have hTs2 : (bytesOf (numT (1) ++ [110, 43])).size ≤ 30 := by
                rw [← hT1, ByteArray.size_append]
                have h2 : ({ data := #[43] } : ByteArray).size = 1 := rfl
                omega
              generalize (w11.setCell ⟨sb, 6, none⟩ (.int .i64 cn2)).setCell ⟨sb, 7, none⟩ (.string (bytesOf (numT (1) ++ [110, 43]))) = w12 at *
              have kp7' : Sb w12 sb so wd noB noB false (1) cn2 (bytesOf (numT (1) ++ [110, 43])) lv := kp7
              obtain ⟨⟨u0, u1, u2, u3, u4, u5, u6, u7, u8⟩, _⟩ := cells9 kp7'
              have hns := numT_size cn2
              go_region_with (go_at_call 240; refine (number_keep B cn2 _ (by omega) (by omega) (at_drewR kp7' _)).mono ?_; rintro e w13 ⟨rfl, hk13, s13⟩; obtain ⟨⟨x0, x1, x2, x3, x4, x5, x6, x7, x8⟩, fx⟩ := cells9 s13; have fx7 := fx 7)
              all_goals
                have hk13' : Kp B [] w12 w13 := hk13.fromDrewN
                have s14 := set_blk (o := 7) s13 (.string (bytesOf (numT (1) ++ [110, 43]) ++ bytesOf (numT cn2)))
                have hk14 := (hk7.trans (hk13'.mono (T' := [153]) (Nat.le_refl _) (by simp)).tm).setCell (p := ⟨sb, 7, none⟩) s13 (by simp [TM]) hBs (.string (bytesOf (numT (1) ++ [110, 43]) ++ bytesOf (numT cn2)))
                have hm14 := (hm7.kept hk13' (by simp)).kept (Kp.setAny (p := ⟨sb, 7, none⟩) s13 (.string (bytesOf (numT (1) ++ [110, 43]) ++ bytesOf (numT cn2)))) (by decide)
                have hpl : bytesOf (numT (1) ++ [110, 43]) ++ bytesOf (numT cn2) = bytesOf (numT (1) ++ 110 :: plusT cn2) := by
                  rw [app_bytes, List.append_assoc]
                  unfold plusT; rw [if_pos hpos]; rfl
                clear fx
                go_wp2
                go_end0
                rw [HNum.out, HB.out]
                rw [hpl] at s14 hk14 hm14
                try rw [hpl]
                exact ⟨rfl, hk14, .inl ⟨_, rfl, hm14, s14⟩⟩
            · subst hs1
              rw [show (-1 : Int) * cn2 = -cn2 from by omega] at HB
              have hneg : -cn2 < 0 := by omega
              have hneg' : ¬ 0 < -cn2 := by omega
              have hnz' : (-cn2 != 0) = true := by simp; omega
              have k6 := set_blk (o := 6) s11 (.int .i64 (-cn2))
              have kz6 := Kp.setAny (p := ⟨sb, 6, none⟩) s11 (.int .i64 (-cn2))
              have hk6 := hkG.setCell (p := ⟨sb, 6, none⟩) s11 (by simp [TM]) hBs (.int .i64 (-cn2))
              have hm6 := hm11.kept kz6 (by decide)
              go_wp2_with fail
              clear u0 u1 u2 u3 u4 u5 u6 u7 u8 fu6 fu7 d2 df kz6
              generalize w11.setCell ⟨sb, 6, none⟩ (.int .i64 (-cn2)) = w12 at *
              have kp7' : Sb w12 sb so wd noB noB false (1) (-cn2) (bytesOf (numT (1) ++ [110])) lv := k6
              obtain ⟨⟨u0, u1, u2, u3, u4, u5, u6, u7, u8⟩, _⟩ := cells9 kp7'
              have hns := numT_size (-cn2)
              go_region_with (go_at_call 240; refine (number_keep B (-cn2) _ (by omega) (by omega) (at_drewR kp7' _)).mono ?_; rintro e w13 ⟨rfl, hk13, s13⟩; obtain ⟨⟨x0, x1, x2, x3, x4, x5, x6, x7, x8⟩, fx⟩ := cells9 s13; have fx7 := fx 7)
              all_goals
                have hk13' : Kp B [] w12 w13 := hk13.fromDrewN
                have s14 := set_blk (o := 7) s13 (.string (bytesOf (numT (1) ++ [110]) ++ bytesOf (numT (-cn2))))
                have hk14 := (hk6.trans (hk13'.mono (T' := [153]) (Nat.le_refl _) (by simp)).tm).setCell (p := ⟨sb, 7, none⟩) s13 (by simp [TM]) hBs (.string (bytesOf (numT (1) ++ [110]) ++ bytesOf (numT (-cn2))))
                have hm14 := (hm6.kept hk13' (by simp)).kept (Kp.setAny (p := ⟨sb, 7, none⟩) s13 (.string (bytesOf (numT (1) ++ [110]) ++ bytesOf (numT (-cn2))))) (by decide)
                have hpl : bytesOf (numT (1) ++ [110]) ++ bytesOf (numT (-cn2)) = bytesOf (numT (1) ++ 110 :: plusT (-cn2)) := by
                  rw [app_bytes, List.append_assoc]
                  unfold plusT; rw [if_neg (by omega), if_pos hneg]; rfl
                clear fx
                go_wp2
                go_end0
                rw [HNum.out, HB.out]
                rw [hpl] at s14 hk14 hm14
                try rw [hpl]
                exact ⟨rfl, hk14, .inl ⟨_, rfl, hm14, s14⟩⟩
    · rw [show (1 : Int) * (if true = true then cn else 1) = cn from by rw [if_pos rfl]; omega] at HNum
      go_wp2_with fail
      refine (is_yes B mb s q3 a m _ _ hm3 hB HN.out (by decide)).mono ?_
      rintro e w4 ⟨rfl, hm4, hk4⟩
      have hs4 : Sb w4 sb so wd noB noB false 0 0 noB lv := hk4.at hs3 (by decide)
      have hkC := hkB.trans hk4
      obtain ⟨⟨u0, u1, u2, u3, u4, u5, u6, u7, u8⟩, fu⟩ := cells9 hs4
      have fu5 := fu 5
      go_wp2_with fail
      have b0 := set_blk (o := 5) hs4 (.int .i64 (cn))
      have z0 := (Kp.refl 0 [104] w4).setCell (p := ⟨sb, 5, none⟩) hs4 (by simp) (Nat.zero_le _) (.int .i64 (cn))
      have y0 := hkC.tm.setCell (p := ⟨sb, 5, none⟩) hs4 (by simp [TM]) hBs (.int .i64 (cn))
      have s5 : Sb (w4.setCell ⟨sb, 5, none⟩ (.int .i64 (cn))) sb so wd noB noB false (cn) 0 noB lv := b0
      have kz5 := z0
      have hk5 := y0
      clear b0 z0 y0
      have hm5 := hm4.kept kz5 (by decide)
      have hbA := numT_size (cn)
      clear u0 u1 u2 u3 u4 u5 u6 u7 u8 fu fu5
      generalize (w4.setCell ⟨sb, 5, none⟩ (.int .i64 (cn))) = w5 at *
      refine (number_any (cn) _ (by omega) (by omega)).mono ?_
      rintro e w6 ⟨rfl, hb6⟩
      have hk60 : Kp 0 [] w5 w6 := Kp.ofBelow hb6
      have hk6 := hk5.trans (Kp.ofBelow (B := B) (T := [153]) hb6).tm
      have s6 : Sb w6 sb so wd noB noB false (cn) 0 noB lv := hk60.at s5 (by simp)
      have hm6 := hm5.kept hk60 (by simp)
      obtain ⟨⟨u0, u1, u2, u3, u4, u5, u6, u7, u8⟩, fu⟩ := cells9 s6
      have fu7 := fu 7
      go_wp2_with fail
      rw [show (bytesOf (numT (cn)) ++ ({ data := #[110] } : ByteArray)) = bytesOf (numT (cn) ++ [110]) from app_bytes _ [110]]
      have kz7 := Kp.setAny (p := ⟨sb, 7, none⟩) s6 (.string (bytesOf (numT (cn) ++ [110])))
      have s7 : Sb (w6.setCell ⟨sb, 7, none⟩ (.string (bytesOf (numT (cn) ++ [110])))) sb so wd noB noB false (cn) 0 (bytesOf (numT (cn) ++ [110])) lv := set_blk (o := 7) s6 _
      have hk7 := hk6.setCell (p := ⟨sb, 7, none⟩) s6 (by simp [TM]) hBs (.string (bytesOf (numT (cn) ++ [110])))
      have hm7 := hm6.kept kz7 (by decide)
      clear u0 u1 u2 u3 u4 u5 u6 u7 u8 fu fu7 kz7 s6 hm6 hk6 hk60
      generalize w6.setCell ⟨sb, 7, none⟩ (.string (bytesOf (numT (cn) ++ [110]))) = w7 at *
      refine (rspaces_any B mb s (q3 + 1) false a m _ hm7 hB).mono ?_
      rintro e w8 ⟨rfl, hm8, hk8⟩
      rw [show spR s (q3 + 1) false = spP s (q3 + 1) from rfl] at hm8 ⊢
      have s8 : Sb w8 sb so wd noB noB false (cn) 0 (bytesOf (numT (cn) ++ [110])) lv := hk8.at s7 (by decide)
      have hkD := hk7.trans hk8.tm
      have hsc2 := sign_cases s (spP s (q3 + 1))
      have hsv2 : signR s (spP s (q3 + 1)) = if (signP s (spP s (q3 + 1))).2.2 = true then (signP s (spP s (q3 + 1))).2.1 else 0 := rfl
      go_wp2_with fail
      refine (rsign_any B mb s (spP s (q3 + 1)) a m _ hm8 hB).mono ?_
      rintro e w9 ⟨rfl, hm9, hk9⟩
      have s9 : Sb w9 sb so wd noB noB false (cn) 0 (bytesOf (numT (cn) ++ [110])) lv := hk9.at s8 (by decide)
      have hkE := hkD.trans hk9.tm
      generalize hsg2 : signP s (spP s (q3 + 1)) = r at *
      obtain ⟨q5, sg2, sd2⟩ := r
      dsimp only at *
      generalize hsr2 : signR s (spP s (q3 + 1)) = sR2 at *
      clear hsr2 s8 hkD hm8 s7 hk7 hm7
      cases sd2
      · have hz : (sR2 == 0) = true := by rw [hsv2]; rfl
        have HB : Hid (behindP s (q3 + 1) = (q5, some 0)) := by unfold behindP; rw [hsg2]; rfl
        clear hsv2 hsc2 hsg2
        go_wp2
        refine bodyPost_ret (results_none Tryz.results215 _ _ _) rfl ?_
        rw [HNum.out, HB.out]
        exact ⟨rfl, hkE, .inl ⟨_, rfl, hm9, s9⟩⟩
      · have hs2v : sR2 = sg2 := by rw [hsv2]; rfl
        have hz : (sR2 == 0) = false := by
          rw [beq_eq_false_iff_ne, hs2v]
          rcases hsc2 with ⟨e, _⟩ | ⟨e, _⟩ <;> rw [e] <;> decide
        have HSG2 := hide hsg2
        clear hsv2 hsg2
        subst hs2v
        go_wp2_with fail
        refine (rspaces_any B mb s q5 false a m _ hm9 hB).mono ?_
        rintro e w10 ⟨rfl, hm10, hk10⟩
        rw [show spR s q5 false = spP s q5 from rfl] at hm10 ⊢
        have s10 : Sb w10 sb so wd noB noB false (cn) 0 (bytesOf (numT (cn) ++ [110])) lv := hk10.at s9 (by decide)
        have hkF := hkE.trans hk10.tm
        have hcb2 := countP_bd s (spP s q5)
        go_wp2_with fail
        refine (rcount_any B mb s (spP s q5) a m _ hm10 hB).mono ?_
        rintro e w11 ⟨k2, rfl, ⟨hk2b, hk2z⟩, hm11, hk11⟩
        have s11 : Sb w11 sb so wd noB noB false (cn) 0 (bytesOf (numT (cn) ++ [110])) lv := hk11.at s10 (by decide)
        have hkG := hkF.trans hk11.tm
        generalize hcn2 : countP s (spP s q5) = r at *
        obtain ⟨q7, cn2, cd2⟩ := r
        dsimp only at *
        have hk2I : ((k2 : Int) == 0) = !cd2 := by
          rw [← hk2z, Bool.eq_iff_iff, beq_iff_eq, beq_iff_eq]; omega
        have HB : Hid (behindP s (q3 + 1) = (q7, if cd2 = true then some (sR2 * cn2) else none)) := by
          unfold behindP; rw [HSG2.out]; dsimp only; rw [hcn2]; dsimp only
          cases cd2 <;> rfl
        have hzero : cd2 = false → cn2 = 0 := by
          intro hcd
          have := count_zero s (spP s q5)
          rw [hcn2] at this
          exact this hcd
        have hTs : (bytesOf (numT (cn) ++ [110])).size ≤ 20 := by
          rw [← app_bytes, ByteArray.size_append]
          have h2 : (bytesOf [110]).size = 1 := rfl
          omega
        clear hk2z hcn2 s10 hkF hm10 s9 hkE hm9
        have d2 := hm11.c2; have df := hm11.free (o := 2)
        have hneb := block_ne hm11.blk s11 (by decide)
        have hneb' := Ne.symm hneb
        obtain ⟨⟨u0, u1, u2, u3, u4, u5, u6, u7, u8⟩, fu⟩ := cells9 s11
        have fu6 := fu 6; have fu7 := fu 7
        clear fu
        cases cd2
        · obtain rfl := hzero rfl
          rw [show sR2 * (0 : Int) = 0 from by omega] at HB
          have sB := (Kp.setAny (p := ⟨mb, 2, none⟩) hm11.blk (.bool true)).at s11 (by decide)
          have hkH := hkG.trans ((Kp.refl B [153] w11).setCell (p := ⟨mb, 2, none⟩) hm11.blk (by simp) hB (.bool true)).tm
          have hmB := hm11.set2 true
          have k6 := set_blk (o := 6) sB (.int .i64 0)
          have kz6 := Kp.setAny (p := ⟨sb, 6, none⟩) sB (.int .i64 0)
          have hk6 := hkH.setCell (p := ⟨sb, 6, none⟩) sB (by simp [TM]) hBs (.int .i64 0)
          have hm6 := hmB.kept kz6 (by decide)
          clear sB kz6 hzero
          go_wp2
          go_end0
          rw [HNum.out, HB.out]
          exact ⟨rfl, hk6, .inr ⟨rfl, hm6, _, _, _, k6⟩⟩
        · clear hzero
          by_cases hc0 : cn2 = 0
          · subst hc0
            rw [show sR2 * (0 : Int) = 0 from by omega] at HB
            have k6 := set_blk (o := 6) s11 (.int .i64 0)
            have kz6 := Kp.setAny (p := ⟨sb, 6, none⟩) s11 (.int .i64 0)
            have hk6 := hkG.setCell (p := ⟨sb, 6, none⟩) s11 (by simp [TM]) hBs (.int .i64 0)
            have hm6 := hm11.kept kz6 (by decide)
            clear kz6
            go_wp2
            go_end0
            rw [HNum.out, HB.out]
            exact ⟨rfl, hk6, .inl ⟨_, rfl, hm6, k6⟩⟩
          · have hpos : 0 < cn2 := by omega
            have hpos' : ¬ cn2 ≤ 0 := by omega
            have hnz : (cn2 != 0) = true := by simp [hc0]
            have HSC2 := hide hsc2
            clear hsc2 hc0
            rcases HSC2.out with ⟨hs1, _⟩ | ⟨hs1, _⟩
            · subst hs1
              rw [show (1 : Int) * cn2 = cn2 from by omega] at HB
              have k6 := set_blk (o := 6) s11 (.int .i64 cn2)
              have kz6 := Kp.setAny (p := ⟨sb, 6, none⟩) s11 (.int .i64 cn2)
              have hk6 := hkG.setCell (p := ⟨sb, 6, none⟩) s11 (by simp [TM]) hBs (.int .i64 cn2)
              have hm6 := hm11.kept kz6 (by decide)
              have kp7 := set_blk (o := 7) k6 (.string (bytesOf (numT (cn) ++ [110]) ++ ({ data := #[43] } : ByteArray)))
              have kz7 := kz6.setCell (p := ⟨sb, 7, none⟩) k6 (by simp) (Nat.zero_le _) (.string (bytesOf (numT (cn) ++ [110]) ++ ({ data := #[43] } : ByteArray)))
              have hk7 := hk6.setCell (p := ⟨sb, 7, none⟩) k6 (by simp [TM]) hBs (.string (bytesOf (numT (cn) ++ [110]) ++ ({ data := #[43] } : ByteArray)))
              have hm7 := hm11.kept kz7 (by decide)
              go_wp2_with fail
              clear u0 u1 u2 u3 u4 u5 u6 u7 u8 fu6 fu7 d2 df k6 kz6 hk6 hm6 kz7
              have hT1 : (bytesOf (numT (cn) ++ [110]) ++ ({ data := #[43] } : ByteArray)) = bytesOf (numT (cn) ++ [110, 43]) := by
                rw [show ({ data := #[43] } : ByteArray) = bytesOf [43] from rfl, app_bytes, List.append_assoc]; rfl
              rw [hT1] at kp7 hk7 hm7 ⊢
              have hTs2 : (bytesOf (numT (cn) ++ [110, 43])).size ≤ 30 := by
                rw [← hT1, ByteArray.size_append]
                have h2 : ({ data := #[43] } : ByteArray).size = 1 := rfl
                omega
              generalize (w11.setCell ⟨sb, 6, none⟩ (.int .i64 cn2)).setCell ⟨sb, 7, none⟩ (.string (bytesOf (numT (cn) ++ [110, 43]))) = w12 at *
              have kp7' : Sb w12 sb so wd noB noB false (cn) cn2 (bytesOf (numT (cn) ++ [110, 43])) lv := kp7
              obtain ⟨⟨u0, u1, u2, u3, u4, u5, u6, u7, u8⟩, _⟩ := cells9 kp7'
              have hns := numT_size cn2
              go_region_with (go_at_call 240; refine (number_keep B cn2 _ (by omega) (by omega) (at_drewR kp7' _)).mono ?_; rintro e w13 ⟨rfl, hk13, s13⟩; obtain ⟨⟨x0, x1, x2, x3, x4, x5, x6, x7, x8⟩, fx⟩ := cells9 s13; have fx7 := fx 7)
              all_goals
                have hk13' : Kp B [] w12 w13 := hk13.fromDrewN
                have s14 := set_blk (o := 7) s13 (.string (bytesOf (numT (cn) ++ [110, 43]) ++ bytesOf (numT cn2)))
                have hk14 := (hk7.trans (hk13'.mono (T' := [153]) (Nat.le_refl _) (by simp)).tm).setCell (p := ⟨sb, 7, none⟩) s13 (by simp [TM]) hBs (.string (bytesOf (numT (cn) ++ [110, 43]) ++ bytesOf (numT cn2)))
                have hm14 := (hm7.kept hk13' (by simp)).kept (Kp.setAny (p := ⟨sb, 7, none⟩) s13 (.string (bytesOf (numT (cn) ++ [110, 43]) ++ bytesOf (numT cn2)))) (by decide)
                have hpl : bytesOf (numT (cn) ++ [110, 43]) ++ bytesOf (numT cn2) = bytesOf (numT (cn) ++ 110 :: plusT cn2) := by
                  rw [app_bytes, List.append_assoc]
                  unfold plusT; rw [if_pos hpos]; rfl
                clear fx
                go_wp2
                go_end0
                rw [HNum.out, HB.out]
                rw [hpl] at s14 hk14 hm14
                try rw [hpl]
                exact ⟨rfl, hk14, .inl ⟨_, rfl, hm14, s14⟩⟩
            · subst hs1
              rw [show (-1 : Int) * cn2 = -cn2 from by omega] at HB
              have hneg : -cn2 < 0 := by omega
              have hneg' : ¬ 0 < -cn2 := by omega
              have hnz' : (-cn2 != 0) = true := by simp; omega
              have k6 := set_blk (o := 6) s11 (.int .i64 (-cn2))
              have kz6 := Kp.setAny (p := ⟨sb, 6, none⟩) s11 (.int .i64 (-cn2))
              have hk6 := hkG.setCell (p := ⟨sb, 6, none⟩) s11 (by simp [TM]) hBs (.int .i64 (-cn2))
              have hm6 := hm11.kept kz6 (by decide)
              go_wp2_with fail
              clear u0 u1 u2 u3 u4 u5 u6 u7 u8 fu6 fu7 d2 df kz6
              generalize w11.setCell ⟨sb, 6, none⟩ (.int .i64 (-cn2)) = w12 at *
              have kp7' : Sb w12 sb so wd noB noB false (cn) (-cn2) (bytesOf (numT (cn) ++ [110])) lv := k6
              obtain ⟨⟨u0, u1, u2, u3, u4, u5, u6, u7, u8⟩, _⟩ := cells9 kp7'
              have hns := numT_size (-cn2)
              go_region_with (go_at_call 240; refine (number_keep B (-cn2) _ (by omega) (by omega) (at_drewR kp7' _)).mono ?_; rintro e w13 ⟨rfl, hk13, s13⟩; obtain ⟨⟨x0, x1, x2, x3, x4, x5, x6, x7, x8⟩, fx⟩ := cells9 s13; have fx7 := fx 7)
              all_goals
                have hk13' : Kp B [] w12 w13 := hk13.fromDrewN
                have s14 := set_blk (o := 7) s13 (.string (bytesOf (numT (cn) ++ [110]) ++ bytesOf (numT (-cn2))))
                have hk14 := (hk6.trans (hk13'.mono (T' := [153]) (Nat.le_refl _) (by simp)).tm).setCell (p := ⟨sb, 7, none⟩) s13 (by simp [TM]) hBs (.string (bytesOf (numT (cn) ++ [110]) ++ bytesOf (numT (-cn2))))
                have hm14 := (hm6.kept hk13' (by simp)).kept (Kp.setAny (p := ⟨sb, 7, none⟩) s13 (.string (bytesOf (numT (cn) ++ [110]) ++ bytesOf (numT (-cn2))))) (by decide)
                have hpl : bytesOf (numT (cn) ++ [110]) ++ bytesOf (numT (-cn2)) = bytesOf (numT (cn) ++ 110 :: plusT (-cn2)) := by
                  rw [app_bytes, List.append_assoc]
                  unfold plusT; rw [if_neg (by omega), if_pos hneg]; rfl
                clear fx
                go_wp2
                go_end0
                rw [HNum.out, HB.out]
                rw [hpl] at s14 hk14 hm14
                try rw [hpl]
                exact ⟨rfl, hk14, .inl ⟨_, rfl, hm14, s14⟩⟩
  · cases cd
    · rw [show (-1 : Int) * (if false = true then cn else 1) = -1 from rfl] at HNum
      go_wp2_with fail
      refine (is_yes B mb s q3 a m _ _ hm3 hB HN.out (by decide)).mono ?_
      rintro e w4 ⟨rfl, hm4, hk4⟩
      have hs4 : Sb w4 sb so wd noB noB false 0 0 noB lv := hk4.at hs3 (by decide)
      have hkC := hkB.trans hk4
      obtain ⟨⟨u0, u1, u2, u3, u4, u5, u6, u7, u8⟩, fu⟩ := cells9 hs4
      have fu5 := fu 5
      have b0 := set_blk (o := 5) hs4 (.int .i64 (-cn))
      have z0 := (Kp.refl 0 [104] w4).setCell (p := ⟨sb, 5, none⟩) hs4 (by simp) (Nat.zero_le _) (.int .i64 (-cn))
      have y0 := hkC.tm.setCell (p := ⟨sb, 5, none⟩) hs4 (by simp [TM]) hBs (.int .i64 (-cn))
      have b1 := set_blk (o := 5) b0 (.int .i64 (1))
      have z1 := z0.setCell (p := ⟨sb, 5, none⟩) b0 (by simp) (Nat.zero_le _) (.int .i64 (1))
      have y1 := y0.setCell (p := ⟨sb, 5, none⟩) b0 (by simp [TM]) hBs (.int .i64 (1))
      have b2 := set_blk (o := 5) b1 (.int .i64 (-1))
      have z2 := z1.setCell (p := ⟨sb, 5, none⟩) b1 (by simp) (Nat.zero_le _) (.int .i64 (-1))
      have y2 := y1.setCell (p := ⟨sb, 5, none⟩) b1 (by simp [TM]) hBs (.int .i64 (-1))
      have s5 : Sb (((w4.setCell ⟨sb, 5, none⟩ (.int .i64 (-cn))).setCell ⟨sb, 5, none⟩ (.int .i64 (1))).setCell ⟨sb, 5, none⟩ (.int .i64 (-1))) sb so wd noB noB false (-1) 0 noB lv := b2
      have kz5 := z2
      have hk5 := y2
      clear b0 z0 y0 b1 z1 y1 b2 z2 y2
      obtain ⟨⟨_, _, _, _, _, hc5, _, _, _⟩, _⟩ := cells9 s5
      go_wp2_with fail
      clear hc5
      have hm5 := hm4.kept kz5 (by decide)
      have hbA := numT_size (-1)
      clear u0 u1 u2 u3 u4 u5 u6 u7 u8 fu fu5
      generalize (((w4.setCell ⟨sb, 5, none⟩ (.int .i64 (-cn))).setCell ⟨sb, 5, none⟩ (.int .i64 (1))).setCell ⟨sb, 5, none⟩ (.int .i64 (-1))) = w5 at *
      refine (number_any (-1) _ (by omega) (by omega)).mono ?_
      rintro e w6 ⟨rfl, hb6⟩
      have hk60 : Kp 0 [] w5 w6 := Kp.ofBelow hb6
      have hk6 := hk5.trans (Kp.ofBelow (B := B) (T := [153]) hb6).tm
      have s6 : Sb w6 sb so wd noB noB false (-1) 0 noB lv := hk60.at s5 (by simp)
      have hm6 := hm5.kept hk60 (by simp)
      obtain ⟨⟨u0, u1, u2, u3, u4, u5, u6, u7, u8⟩, fu⟩ := cells9 s6
      have fu7 := fu 7
      go_wp2_with fail
      rw [show (bytesOf (numT (-1)) ++ ({ data := #[110] } : ByteArray)) = bytesOf (numT (-1) ++ [110]) from app_bytes _ [110]]
      have kz7 := Kp.setAny (p := ⟨sb, 7, none⟩) s6 (.string (bytesOf (numT (-1) ++ [110])))
      have s7 : Sb (w6.setCell ⟨sb, 7, none⟩ (.string (bytesOf (numT (-1) ++ [110])))) sb so wd noB noB false (-1) 0 (bytesOf (numT (-1) ++ [110])) lv := set_blk (o := 7) s6 _
      have hk7 := hk6.setCell (p := ⟨sb, 7, none⟩) s6 (by simp [TM]) hBs (.string (bytesOf (numT (-1) ++ [110])))
      have hm7 := hm6.kept kz7 (by decide)
      clear u0 u1 u2 u3 u4 u5 u6 u7 u8 fu fu7 kz7 s6 hm6 hk6 hk60
      generalize w6.setCell ⟨sb, 7, none⟩ (.string (bytesOf (numT (-1) ++ [110]))) = w7 at *
      refine (rspaces_any B mb s (q3 + 1) false a m _ hm7 hB).mono ?_
      rintro e w8 ⟨rfl, hm8, hk8⟩
      rw [show spR s (q3 + 1) false = spP s (q3 + 1) from rfl] at hm8 ⊢
      have s8 : Sb w8 sb so wd noB noB false (-1) 0 (bytesOf (numT (-1) ++ [110])) lv := hk8.at s7 (by decide)
      have hkD := hk7.trans hk8.tm
      have hsc2 := sign_cases s (spP s (q3 + 1))
      have hsv2 : signR s (spP s (q3 + 1)) = if (signP s (spP s (q3 + 1))).2.2 = true then (signP s (spP s (q3 + 1))).2.1 else 0 := rfl
      go_wp2_with fail
      refine (rsign_any B mb s (spP s (q3 + 1)) a m _ hm8 hB).mono ?_
      rintro e w9 ⟨rfl, hm9, hk9⟩
      have s9 : Sb w9 sb so wd noB noB false (-1) 0 (bytesOf (numT (-1) ++ [110])) lv := hk9.at s8 (by decide)
      have hkE := hkD.trans hk9.tm
      generalize hsg2 : signP s (spP s (q3 + 1)) = r at *
      obtain ⟨q5, sg2, sd2⟩ := r
      dsimp only at *
      generalize hsr2 : signR s (spP s (q3 + 1)) = sR2 at *
      clear hsr2 s8 hkD hm8 s7 hk7 hm7
      cases sd2
      · have hz : (sR2 == 0) = true := by rw [hsv2]; rfl
        have HB : Hid (behindP s (q3 + 1) = (q5, some 0)) := by unfold behindP; rw [hsg2]; rfl
        clear hsv2 hsc2 hsg2
        go_wp2
        refine bodyPost_ret (results_none Tryz.results215 _ _ _) rfl ?_
        rw [HNum.out, HB.out]
        exact ⟨rfl, hkE, .inl ⟨_, rfl, hm9, s9⟩⟩
      · have hs2v : sR2 = sg2 := by rw [hsv2]; rfl
        have hz : (sR2 == 0) = false := by
          rw [beq_eq_false_iff_ne, hs2v]
          rcases hsc2 with ⟨e, _⟩ | ⟨e, _⟩ <;> rw [e] <;> decide
        have HSG2 := hide hsg2
        clear hsv2 hsg2
        subst hs2v
        go_wp2_with fail
        refine (rspaces_any B mb s q5 false a m _ hm9 hB).mono ?_
        rintro e w10 ⟨rfl, hm10, hk10⟩
        rw [show spR s q5 false = spP s q5 from rfl] at hm10 ⊢
        have s10 : Sb w10 sb so wd noB noB false (-1) 0 (bytesOf (numT (-1) ++ [110])) lv := hk10.at s9 (by decide)
        have hkF := hkE.trans hk10.tm
        have hcb2 := countP_bd s (spP s q5)
        go_wp2_with fail
        refine (rcount_any B mb s (spP s q5) a m _ hm10 hB).mono ?_
        rintro e w11 ⟨k2, rfl, ⟨hk2b, hk2z⟩, hm11, hk11⟩
        have s11 : Sb w11 sb so wd noB noB false (-1) 0 (bytesOf (numT (-1) ++ [110])) lv := hk11.at s10 (by decide)
        have hkG := hkF.trans hk11.tm
        generalize hcn2 : countP s (spP s q5) = r at *
        obtain ⟨q7, cn2, cd2⟩ := r
        dsimp only at *
        have hk2I : ((k2 : Int) == 0) = !cd2 := by
          rw [← hk2z, Bool.eq_iff_iff, beq_iff_eq, beq_iff_eq]; omega
        have HB : Hid (behindP s (q3 + 1) = (q7, if cd2 = true then some (sR2 * cn2) else none)) := by
          unfold behindP; rw [HSG2.out]; dsimp only; rw [hcn2]; dsimp only
          cases cd2 <;> rfl
        have hzero : cd2 = false → cn2 = 0 := by
          intro hcd
          have := count_zero s (spP s q5)
          rw [hcn2] at this
          exact this hcd
        have hTs : (bytesOf (numT (-1) ++ [110])).size ≤ 20 := by
          rw [← app_bytes, ByteArray.size_append]
          have h2 : (bytesOf [110]).size = 1 := rfl
          omega
        clear hk2z hcn2 s10 hkF hm10 s9 hkE hm9
        have d2 := hm11.c2; have df := hm11.free (o := 2)
        have hneb := block_ne hm11.blk s11 (by decide)
        have hneb' := Ne.symm hneb
        obtain ⟨⟨u0, u1, u2, u3, u4, u5, u6, u7, u8⟩, fu⟩ := cells9 s11
        have fu6 := fu 6; have fu7 := fu 7
        clear fu
        cases cd2
        · obtain rfl := hzero rfl
          rw [show sR2 * (0 : Int) = 0 from by omega] at HB
          have sB := (Kp.setAny (p := ⟨mb, 2, none⟩) hm11.blk (.bool true)).at s11 (by decide)
          have hkH := hkG.trans ((Kp.refl B [153] w11).setCell (p := ⟨mb, 2, none⟩) hm11.blk (by simp) hB (.bool true)).tm
          have hmB := hm11.set2 true
          have k6 := set_blk (o := 6) sB (.int .i64 0)
          have kz6 := Kp.setAny (p := ⟨sb, 6, none⟩) sB (.int .i64 0)
          have hk6 := hkH.setCell (p := ⟨sb, 6, none⟩) sB (by simp [TM]) hBs (.int .i64 0)
          have hm6 := hmB.kept kz6 (by decide)
          clear sB kz6 hzero
          go_wp2
          go_end0
          rw [HNum.out, HB.out]
          exact ⟨rfl, hk6, .inr ⟨rfl, hm6, _, _, _, k6⟩⟩
        · clear hzero
          by_cases hc0 : cn2 = 0
          · subst hc0
            rw [show sR2 * (0 : Int) = 0 from by omega] at HB
            have k6 := set_blk (o := 6) s11 (.int .i64 0)
            have kz6 := Kp.setAny (p := ⟨sb, 6, none⟩) s11 (.int .i64 0)
            have hk6 := hkG.setCell (p := ⟨sb, 6, none⟩) s11 (by simp [TM]) hBs (.int .i64 0)
            have hm6 := hm11.kept kz6 (by decide)
            clear kz6
            go_wp2
            go_end0
            rw [HNum.out, HB.out]
            exact ⟨rfl, hk6, .inl ⟨_, rfl, hm6, k6⟩⟩
          · have hpos : 0 < cn2 := by omega
            have hpos' : ¬ cn2 ≤ 0 := by omega
            have hnz : (cn2 != 0) = true := by simp [hc0]
            have HSC2 := hide hsc2
            clear hsc2 hc0
            rcases HSC2.out with ⟨hs1, _⟩ | ⟨hs1, _⟩
            · subst hs1
              rw [show (1 : Int) * cn2 = cn2 from by omega] at HB
              have k6 := set_blk (o := 6) s11 (.int .i64 cn2)
              have kz6 := Kp.setAny (p := ⟨sb, 6, none⟩) s11 (.int .i64 cn2)
              have hk6 := hkG.setCell (p := ⟨sb, 6, none⟩) s11 (by simp [TM]) hBs (.int .i64 cn2)
              have hm6 := hm11.kept kz6 (by decide)
              have kp7 := set_blk (o := 7) k6 (.string (bytesOf (numT (-1) ++ [110]) ++ ({ data := #[43] } : ByteArray)))
              have kz7 := kz6.setCell (p := ⟨sb, 7, none⟩) k6 (by simp) (Nat.zero_le _) (.string (bytesOf (numT (-1) ++ [110]) ++ ({ data := #[43] } : ByteArray)))
              have hk7 := hk6.setCell (p := ⟨sb, 7, none⟩) k6 (by simp [TM]) hBs (.string (bytesOf (numT (-1) ++ [110]) ++ ({ data := #[43] } : ByteArray)))
              have hm7 := hm11.kept kz7 (by decide)
              go_wp2_with fail
              clear u0 u1 u2 u3 u4 u5 u6 u7 u8 fu6 fu7 d2 df k6 kz6 hk6 hm6 kz7
              have hT1 : (bytesOf (numT (-1) ++ [110]) ++ ({ data := #[43] } : ByteArray)) = bytesOf (numT (-1) ++ [110, 43]) := by
                rw [show ({ data := #[43] } : ByteArray) = bytesOf [43] from rfl, app_bytes, List.append_assoc]; rfl
              rw [hT1] at kp7 hk7 hm7 ⊢
              have hTs2 : (bytesOf (numT (-1) ++ [110, 43])).size ≤ 30 := by
                rw [← hT1, ByteArray.size_append]
                have h2 : ({ data := #[43] } : ByteArray).size = 1 := rfl
                omega
              generalize (w11.setCell ⟨sb, 6, none⟩ (.int .i64 cn2)).setCell ⟨sb, 7, none⟩ (.string (bytesOf (numT (-1) ++ [110, 43]))) = w12 at *
              have kp7' : Sb w12 sb so wd noB noB false (-1) cn2 (bytesOf (numT (-1) ++ [110, 43])) lv := kp7
              obtain ⟨⟨u0, u1, u2, u3, u4, u5, u6, u7, u8⟩, _⟩ := cells9 kp7'
              have hns := numT_size cn2
              go_region_with (go_at_call 240; refine (number_keep B cn2 _ (by omega) (by omega) (at_drewR kp7' _)).mono ?_; rintro e w13 ⟨rfl, hk13, s13⟩; obtain ⟨⟨x0, x1, x2, x3, x4, x5, x6, x7, x8⟩, fx⟩ := cells9 s13; have fx7 := fx 7)
              all_goals
                have hk13' : Kp B [] w12 w13 := hk13.fromDrewN
                have s14 := set_blk (o := 7) s13 (.string (bytesOf (numT (-1) ++ [110, 43]) ++ bytesOf (numT cn2)))
                have hk14 := (hk7.trans (hk13'.mono (T' := [153]) (Nat.le_refl _) (by simp)).tm).setCell (p := ⟨sb, 7, none⟩) s13 (by simp [TM]) hBs (.string (bytesOf (numT (-1) ++ [110, 43]) ++ bytesOf (numT cn2)))
                have hm14 := (hm7.kept hk13' (by simp)).kept (Kp.setAny (p := ⟨sb, 7, none⟩) s13 (.string (bytesOf (numT (-1) ++ [110, 43]) ++ bytesOf (numT cn2)))) (by decide)
                have hpl : bytesOf (numT (-1) ++ [110, 43]) ++ bytesOf (numT cn2) = bytesOf (numT (-1) ++ 110 :: plusT cn2) := by
                  rw [app_bytes, List.append_assoc]
                  unfold plusT; rw [if_pos hpos]; rfl
                clear fx
                go_wp2
                go_end0
                rw [HNum.out, HB.out]
                rw [hpl] at s14 hk14 hm14
                try rw [hpl]
                exact ⟨rfl, hk14, .inl ⟨_, rfl, hm14, s14⟩⟩
            · subst hs1
              rw [show (-1 : Int) * cn2 = -cn2 from by omega] at HB
              have hneg : -cn2 < 0 := by omega
              have hneg' : ¬ 0 < -cn2 := by omega
              have hnz' : (-cn2 != 0) = true := by simp; omega
              have k6 := set_blk (o := 6) s11 (.int .i64 (-cn2))
              have kz6 := Kp.setAny (p := ⟨sb, 6, none⟩) s11 (.int .i64 (-cn2))
              have hk6 := hkG.setCell (p := ⟨sb, 6, none⟩) s11 (by simp [TM]) hBs (.int .i64 (-cn2))
              have hm6 := hm11.kept kz6 (by decide)
              go_wp2_with fail
              clear u0 u1 u2 u3 u4 u5 u6 u7 u8 fu6 fu7 d2 df kz6
              generalize w11.setCell ⟨sb, 6, none⟩ (.int .i64 (-cn2)) = w12 at *
              have kp7' : Sb w12 sb so wd noB noB false (-1) (-cn2) (bytesOf (numT (-1) ++ [110])) lv := k6
              obtain ⟨⟨u0, u1, u2, u3, u4, u5, u6, u7, u8⟩, _⟩ := cells9 kp7'
              have hns := numT_size (-cn2)
              go_region_with (go_at_call 240; refine (number_keep B (-cn2) _ (by omega) (by omega) (at_drewR kp7' _)).mono ?_; rintro e w13 ⟨rfl, hk13, s13⟩; obtain ⟨⟨x0, x1, x2, x3, x4, x5, x6, x7, x8⟩, fx⟩ := cells9 s13; have fx7 := fx 7)
              all_goals
                have hk13' : Kp B [] w12 w13 := hk13.fromDrewN
                have s14 := set_blk (o := 7) s13 (.string (bytesOf (numT (-1) ++ [110]) ++ bytesOf (numT (-cn2))))
                have hk14 := (hk6.trans (hk13'.mono (T' := [153]) (Nat.le_refl _) (by simp)).tm).setCell (p := ⟨sb, 7, none⟩) s13 (by simp [TM]) hBs (.string (bytesOf (numT (-1) ++ [110]) ++ bytesOf (numT (-cn2))))
                have hm14 := (hm6.kept hk13' (by simp)).kept (Kp.setAny (p := ⟨sb, 7, none⟩) s13 (.string (bytesOf (numT (-1) ++ [110]) ++ bytesOf (numT (-cn2))))) (by decide)
                have hpl : bytesOf (numT (-1) ++ [110]) ++ bytesOf (numT (-cn2)) = bytesOf (numT (-1) ++ 110 :: plusT (-cn2)) := by
                  rw [app_bytes, List.append_assoc]
                  unfold plusT; rw [if_neg (by omega), if_pos hneg]; rfl
                clear fx
                go_wp2
                go_end0
                rw [HNum.out, HB.out]
                rw [hpl] at s14 hk14 hm14
                try rw [hpl]
                exact ⟨rfl, hk14, .inl ⟨_, rfl, hm14, s14⟩⟩
    · rw [show (-1 : Int) * (if true = true then cn else 1) = -cn from by rw [if_pos rfl]; omega] at HNum
      go_wp2_with fail
      refine (is_yes B mb s q3 a m _ _ hm3 hB HN.out (by decide)).mono ?_
      rintro e w4 ⟨rfl, hm4, hk4⟩
      have hs4 : Sb w4 sb so wd noB noB false 0 0 noB lv := hk4.at hs3 (by decide)
      have hkC := hkB.trans hk4
      obtain ⟨⟨u0, u1, u2, u3, u4, u5, u6, u7, u8⟩, fu⟩ := cells9 hs4
      have fu5 := fu 5
      go_wp2_with fail
      have b0 := set_blk (o := 5) hs4 (.int .i64 (-cn))
      have z0 := (Kp.refl 0 [104] w4).setCell (p := ⟨sb, 5, none⟩) hs4 (by simp) (Nat.zero_le _) (.int .i64 (-cn))
      have y0 := hkC.tm.setCell (p := ⟨sb, 5, none⟩) hs4 (by simp [TM]) hBs (.int .i64 (-cn))
      have s5 : Sb (w4.setCell ⟨sb, 5, none⟩ (.int .i64 (-cn))) sb so wd noB noB false (-cn) 0 noB lv := b0
      have kz5 := z0
      have hk5 := y0
      clear b0 z0 y0
      have hm5 := hm4.kept kz5 (by decide)
      have hbA := numT_size (-cn)
      clear u0 u1 u2 u3 u4 u5 u6 u7 u8 fu fu5
      generalize (w4.setCell ⟨sb, 5, none⟩ (.int .i64 (-cn))) = w5 at *
      refine (number_any (-cn) _ (by omega) (by omega)).mono ?_
      rintro e w6 ⟨rfl, hb6⟩
      have hk60 : Kp 0 [] w5 w6 := Kp.ofBelow hb6
      have hk6 := hk5.trans (Kp.ofBelow (B := B) (T := [153]) hb6).tm
      have s6 : Sb w6 sb so wd noB noB false (-cn) 0 noB lv := hk60.at s5 (by simp)
      have hm6 := hm5.kept hk60 (by simp)
      obtain ⟨⟨u0, u1, u2, u3, u4, u5, u6, u7, u8⟩, fu⟩ := cells9 s6
      have fu7 := fu 7
      go_wp2_with fail
      rw [show (bytesOf (numT (-cn)) ++ ({ data := #[110] } : ByteArray)) = bytesOf (numT (-cn) ++ [110]) from app_bytes _ [110]]
      have kz7 := Kp.setAny (p := ⟨sb, 7, none⟩) s6 (.string (bytesOf (numT (-cn) ++ [110])))
      have s7 : Sb (w6.setCell ⟨sb, 7, none⟩ (.string (bytesOf (numT (-cn) ++ [110])))) sb so wd noB noB false (-cn) 0 (bytesOf (numT (-cn) ++ [110])) lv := set_blk (o := 7) s6 _
      have hk7 := hk6.setCell (p := ⟨sb, 7, none⟩) s6 (by simp [TM]) hBs (.string (bytesOf (numT (-cn) ++ [110])))
      have hm7 := hm6.kept kz7 (by decide)
      clear u0 u1 u2 u3 u4 u5 u6 u7 u8 fu fu7 kz7 s6 hm6 hk6 hk60
      generalize w6.setCell ⟨sb, 7, none⟩ (.string (bytesOf (numT (-cn) ++ [110]))) = w7 at *
      refine (rspaces_any B mb s (q3 + 1) false a m _ hm7 hB).mono ?_
      rintro e w8 ⟨rfl, hm8, hk8⟩
      rw [show spR s (q3 + 1) false = spP s (q3 + 1) from rfl] at hm8 ⊢
      have s8 : Sb w8 sb so wd noB noB false (-cn) 0 (bytesOf (numT (-cn) ++ [110])) lv := hk8.at s7 (by decide)
      have hkD := hk7.trans hk8.tm
      have hsc2 := sign_cases s (spP s (q3 + 1))
      have hsv2 : signR s (spP s (q3 + 1)) = if (signP s (spP s (q3 + 1))).2.2 = true then (signP s (spP s (q3 + 1))).2.1 else 0 := rfl
      go_wp2_with fail
      refine (rsign_any B mb s (spP s (q3 + 1)) a m _ hm8 hB).mono ?_
      rintro e w9 ⟨rfl, hm9, hk9⟩
      have s9 : Sb w9 sb so wd noB noB false (-cn) 0 (bytesOf (numT (-cn) ++ [110])) lv := hk9.at s8 (by decide)
      have hkE := hkD.trans hk9.tm
      generalize hsg2 : signP s (spP s (q3 + 1)) = r at *
      obtain ⟨q5, sg2, sd2⟩ := r
      dsimp only at *
      generalize hsr2 : signR s (spP s (q3 + 1)) = sR2 at *
      clear hsr2 s8 hkD hm8 s7 hk7 hm7
      cases sd2
      · have hz : (sR2 == 0) = true := by rw [hsv2]; rfl
        have HB : Hid (behindP s (q3 + 1) = (q5, some 0)) := by unfold behindP; rw [hsg2]; rfl
        clear hsv2 hsc2 hsg2
        go_wp2
        refine bodyPost_ret (results_none Tryz.results215 _ _ _) rfl ?_
        rw [HNum.out, HB.out]
        exact ⟨rfl, hkE, .inl ⟨_, rfl, hm9, s9⟩⟩
      · have hs2v : sR2 = sg2 := by rw [hsv2]; rfl
        have hz : (sR2 == 0) = false := by
          rw [beq_eq_false_iff_ne, hs2v]
          rcases hsc2 with ⟨e, _⟩ | ⟨e, _⟩ <;> rw [e] <;> decide
        have HSG2 := hide hsg2
        clear hsv2 hsg2
        subst hs2v
        go_wp2_with fail
        refine (rspaces_any B mb s q5 false a m _ hm9 hB).mono ?_
        rintro e w10 ⟨rfl, hm10, hk10⟩
        rw [show spR s q5 false = spP s q5 from rfl] at hm10 ⊢
        have s10 : Sb w10 sb so wd noB noB false (-cn) 0 (bytesOf (numT (-cn) ++ [110])) lv := hk10.at s9 (by decide)
        have hkF := hkE.trans hk10.tm
        have hcb2 := countP_bd s (spP s q5)
        go_wp2_with fail
        refine (rcount_any B mb s (spP s q5) a m _ hm10 hB).mono ?_
        rintro e w11 ⟨k2, rfl, ⟨hk2b, hk2z⟩, hm11, hk11⟩
        have s11 : Sb w11 sb so wd noB noB false (-cn) 0 (bytesOf (numT (-cn) ++ [110])) lv := hk11.at s10 (by decide)
        have hkG := hkF.trans hk11.tm
        generalize hcn2 : countP s (spP s q5) = r at *
        obtain ⟨q7, cn2, cd2⟩ := r
        dsimp only at *
        have hk2I : ((k2 : Int) == 0) = !cd2 := by
          rw [← hk2z, Bool.eq_iff_iff, beq_iff_eq, beq_iff_eq]; omega
        have HB : Hid (behindP s (q3 + 1) = (q7, if cd2 = true then some (sR2 * cn2) else none)) := by
          unfold behindP; rw [HSG2.out]; dsimp only; rw [hcn2]; dsimp only
          cases cd2 <;> rfl
        have hzero : cd2 = false → cn2 = 0 := by
          intro hcd
          have := count_zero s (spP s q5)
          rw [hcn2] at this
          exact this hcd
        have hTs : (bytesOf (numT (-cn) ++ [110])).size ≤ 20 := by
          rw [← app_bytes, ByteArray.size_append]
          have h2 : (bytesOf [110]).size = 1 := rfl
          omega
        clear hk2z hcn2 s10 hkF hm10 s9 hkE hm9
        have d2 := hm11.c2; have df := hm11.free (o := 2)
        have hneb := block_ne hm11.blk s11 (by decide)
        have hneb' := Ne.symm hneb
        obtain ⟨⟨u0, u1, u2, u3, u4, u5, u6, u7, u8⟩, fu⟩ := cells9 s11
        have fu6 := fu 6; have fu7 := fu 7
        clear fu
        cases cd2
        · obtain rfl := hzero rfl
          rw [show sR2 * (0 : Int) = 0 from by omega] at HB
          have sB := (Kp.setAny (p := ⟨mb, 2, none⟩) hm11.blk (.bool true)).at s11 (by decide)
          have hkH := hkG.trans ((Kp.refl B [153] w11).setCell (p := ⟨mb, 2, none⟩) hm11.blk (by simp) hB (.bool true)).tm
          have hmB := hm11.set2 true
          have k6 := set_blk (o := 6) sB (.int .i64 0)
          have kz6 := Kp.setAny (p := ⟨sb, 6, none⟩) sB (.int .i64 0)
          have hk6 := hkH.setCell (p := ⟨sb, 6, none⟩) sB (by simp [TM]) hBs (.int .i64 0)
          have hm6 := hmB.kept kz6 (by decide)
          clear sB kz6 hzero
          go_wp2
          go_end0
          rw [HNum.out, HB.out]
          exact ⟨rfl, hk6, .inr ⟨rfl, hm6, _, _, _, k6⟩⟩
        · clear hzero
          by_cases hc0 : cn2 = 0
          · subst hc0
            rw [show sR2 * (0 : Int) = 0 from by omega] at HB
            have k6 := set_blk (o := 6) s11 (.int .i64 0)
            have kz6 := Kp.setAny (p := ⟨sb, 6, none⟩) s11 (.int .i64 0)
            have hk6 := hkG.setCell (p := ⟨sb, 6, none⟩) s11 (by simp [TM]) hBs (.int .i64 0)
            have hm6 := hm11.kept kz6 (by decide)
            clear kz6
            go_wp2
            go_end0
            rw [HNum.out, HB.out]
            exact ⟨rfl, hk6, .inl ⟨_, rfl, hm6, k6⟩⟩
          · have hpos : 0 < cn2 := by omega
            have hpos' : ¬ cn2 ≤ 0 := by omega
            have hnz : (cn2 != 0) = true := by simp [hc0]
            have HSC2 := hide hsc2
            clear hsc2 hc0
            rcases HSC2.out with ⟨hs1, _⟩ | ⟨hs1, _⟩
            · subst hs1
              rw [show (1 : Int) * cn2 = cn2 from by omega] at HB
              have k6 := set_blk (o := 6) s11 (.int .i64 cn2)
              have kz6 := Kp.setAny (p := ⟨sb, 6, none⟩) s11 (.int .i64 cn2)
              have hk6 := hkG.setCell (p := ⟨sb, 6, none⟩) s11 (by simp [TM]) hBs (.int .i64 cn2)
              have hm6 := hm11.kept kz6 (by decide)
              have kp7 := set_blk (o := 7) k6 (.string (bytesOf (numT (-cn) ++ [110]) ++ ({ data := #[43] } : ByteArray)))
              have kz7 := kz6.setCell (p := ⟨sb, 7, none⟩) k6 (by simp) (Nat.zero_le _) (.string (bytesOf (numT (-cn) ++ [110]) ++ ({ data := #[43] } : ByteArray)))
              have hk7 := hk6.setCell (p := ⟨sb, 7, none⟩) k6 (by simp [TM]) hBs (.string (bytesOf (numT (-cn) ++ [110]) ++ ({ data := #[43] } : ByteArray)))
              have hm7 := hm11.kept kz7 (by decide)
              go_wp2_with fail
              clear u0 u1 u2 u3 u4 u5 u6 u7 u8 fu6 fu7 d2 df k6 kz6 hk6 hm6 kz7
              have hT1 : (bytesOf (numT (-cn) ++ [110]) ++ ({ data := #[43] } : ByteArray)) = bytesOf (numT (-cn) ++ [110, 43]) := by
                rw [show ({ data := #[43] } : ByteArray) = bytesOf [43] from rfl, app_bytes, List.append_assoc]; rfl
              rw [hT1] at kp7 hk7 hm7 ⊢
              have hTs2 : (bytesOf (numT (-cn) ++ [110, 43])).size ≤ 30 := by
                rw [← hT1, ByteArray.size_append]
                have h2 : ({ data := #[43] } : ByteArray).size = 1 := rfl
                omega
              generalize (w11.setCell ⟨sb, 6, none⟩ (.int .i64 cn2)).setCell ⟨sb, 7, none⟩ (.string (bytesOf (numT (-cn) ++ [110, 43]))) = w12 at *
              have kp7' : Sb w12 sb so wd noB noB false (-cn) cn2 (bytesOf (numT (-cn) ++ [110, 43])) lv := kp7
              obtain ⟨⟨u0, u1, u2, u3, u4, u5, u6, u7, u8⟩, _⟩ := cells9 kp7'
              have hns := numT_size cn2
              go_region_with (go_at_call 240; refine (number_keep B cn2 _ (by omega) (by omega) (at_drewR kp7' _)).mono ?_; rintro e w13 ⟨rfl, hk13, s13⟩; obtain ⟨⟨x0, x1, x2, x3, x4, x5, x6, x7, x8⟩, fx⟩ := cells9 s13; have fx7 := fx 7)
              all_goals
                have hk13' : Kp B [] w12 w13 := hk13.fromDrewN
                have s14 := set_blk (o := 7) s13 (.string (bytesOf (numT (-cn) ++ [110, 43]) ++ bytesOf (numT cn2)))
                have hk14 := (hk7.trans (hk13'.mono (T' := [153]) (Nat.le_refl _) (by simp)).tm).setCell (p := ⟨sb, 7, none⟩) s13 (by simp [TM]) hBs (.string (bytesOf (numT (-cn) ++ [110, 43]) ++ bytesOf (numT cn2)))
                have hm14 := (hm7.kept hk13' (by simp)).kept (Kp.setAny (p := ⟨sb, 7, none⟩) s13 (.string (bytesOf (numT (-cn) ++ [110, 43]) ++ bytesOf (numT cn2)))) (by decide)
                have hpl : bytesOf (numT (-cn) ++ [110, 43]) ++ bytesOf (numT cn2) = bytesOf (numT (-cn) ++ 110 :: plusT cn2) := by
                  rw [app_bytes, List.append_assoc]
                  unfold plusT; rw [if_pos hpos]; rfl
                clear fx
                go_wp2
                go_end0
                rw [HNum.out, HB.out]
                rw [hpl] at s14 hk14 hm14
                try rw [hpl]
                exact ⟨rfl, hk14, .inl ⟨_, rfl, hm14, s14⟩⟩
            · subst hs1
              rw [show (-1 : Int) * cn2 = -cn2 from by omega] at HB
              have hneg : -cn2 < 0 := by omega
              have hneg' : ¬ 0 < -cn2 := by omega
              have hnz' : (-cn2 != 0) = true := by simp; omega
              have k6 := set_blk (o := 6) s11 (.int .i64 (-cn2))
              have kz6 := Kp.setAny (p := ⟨sb, 6, none⟩) s11 (.int .i64 (-cn2))
              have hk6 := hkG.setCell (p := ⟨sb, 6, none⟩) s11 (by simp [TM]) hBs (.int .i64 (-cn2))
              have hm6 := hm11.kept kz6 (by decide)
              go_wp2_with fail
              clear u0 u1 u2 u3 u4 u5 u6 u7 u8 fu6 fu7 d2 df kz6
              generalize w11.setCell ⟨sb, 6, none⟩ (.int .i64 (-cn2)) = w12 at *
              have kp7' : Sb w12 sb so wd noB noB false (-cn) (-cn2) (bytesOf (numT (-cn) ++ [110])) lv := k6
              obtain ⟨⟨u0, u1, u2, u3, u4, u5, u6, u7, u8⟩, _⟩ := cells9 kp7'
              have hns := numT_size (-cn2)
              go_region_with (go_at_call 240; refine (number_keep B (-cn2) _ (by omega) (by omega) (at_drewR kp7' _)).mono ?_; rintro e w13 ⟨rfl, hk13, s13⟩; obtain ⟨⟨x0, x1, x2, x3, x4, x5, x6, x7, x8⟩, fx⟩ := cells9 s13; have fx7 := fx 7)
              all_goals
                have hk13' : Kp B [] w12 w13 := hk13.fromDrewN
                have s14 := set_blk (o := 7) s13 (.string (bytesOf (numT (-cn) ++ [110]) ++ bytesOf (numT (-cn2))))
                have hk14 := (hk6.trans (hk13'.mono (T' := [153]) (Nat.le_refl _) (by simp)).tm).setCell (p := ⟨sb, 7, none⟩) s13 (by simp [TM]) hBs (.string (bytesOf (numT (-cn) ++ [110]) ++ bytesOf (numT (-cn2))))
                have hm14 := (hm6.kept hk13' (by simp)).kept (Kp.setAny (p := ⟨sb, 7, none⟩) s13 (.string (bytesOf (numT (-cn) ++ [110]) ++ bytesOf (numT (-cn2))))) (by decide)
                have hpl : bytesOf (numT (-cn) ++ [110]) ++ bytesOf (numT (-cn2)) = bytesOf (numT (-cn) ++ 110 :: plusT (-cn2)) := by
                  rw [app_bytes, List.append_assoc]
                  unfold plusT; rw [if_neg (by omega), if_pos hneg]; rfl
                clear fx
                go_wp2
                go_end0
                rw [HNum.out, HB.out]
                rw [hpl] at s14 hk14 hm14
                try rw [hpl]
                exact ⟨rfl, hk14, .inl ⟨_, rfl, hm14, s14⟩⟩
end Go.Proofs.YtclpcnignheijaaGreatDoor
