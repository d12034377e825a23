import Derived.Test.YtclpcnignheijaaGreatDoorR6
import Derived.Test.YtclpcnignheijaaGreatDoorS5
namespace Go.Proofs.YtclpcnignheijaaGreatDoor
open Go.RowKit

/-- The sign and the count ahead, as both readers see them. -/
theorem sign_cases (s : ByteArray) (p : Nat) : ((signP s p).2.1 = 1 ∧ ¬ signR s p < 0) ∨ ((signP s p).2.1 = -1 ∧ signR s p < 0) := by
  unfold signR signP
  split
  · exact .inr ⟨rfl, (by decide : (-1 : Int) < 0)⟩
  · split
    · exact .inl ⟨rfl, (by decide : ¬ (1 : Int) < 0)⟩
    · exact .inl ⟨rfl, (by decide : ¬ (0 : Int) < 0)⟩
theorem numT_size (n : Int) : (bytesOf (numT n)).size ≤ 10 := by
  show (numT n).toArray.size ≤ 10
  unfold numT digsT
  split <;> split <;> simp
set_option maxRecDepth 100000 in
set_option maxHeartbeats 4000000 in
theorem rnth_plain (B mb sb : Nat) (s : ByteArray) (p a m : Nat) (so : Int) (wd : ByteArray) (lv : Value) (w : World) (h : Mk w mb s p false a m) (hs : Sb w sb so wd noB noB false 0 0 noB lv) (hB : B ≤ mb) (hBs : B ≤ sb) (h1 : peekI s p ≠ 111) (h2 : peekI s p ≠ 101) (hn : peekI s (countP s (signP s p).1).1 ≠ 110) : RNth B mb sb s p a m so wd lv w := by
  have hsc := sign_cases s p
  have hcb := countP_bd s (signP s p).1
  have e1 : (peekI s p == 111) = false := by simp [h1]
  have e2 : (peekI s p == 101) = false := by simp [h2]
  have H1 := hide h1; have H2 := hide h2; have HN := hide hn
  clear h1 h2 hn
  unfold RNth
  go_enter Tryz.func215, Tryz.ntmps215
  go_wp2_with fail
  refine (next_is mb s p false a m _ (peekI s p) h (nextI_ok s p)).mono ?_
  rintro e w1 ⟨rfl, n1, rfl⟩
  go_wp2_with fail
  refine (rsign_any B mb s p a m _ (h.drewN n1) hB).mono ?_
  rintro e w2 ⟨rfl, hm2, hk2⟩
  have hs2 : Sb w2 sb so wd noB noB false 0 0 noB lv := hk2.at (w := w.drewN n1) hs (by decide)
  have hkA := ((Kp.refl B [153] w).drewN n1).trans hk2
  generalize hsg : signP s p = r at *
  obtain ⟨q2, sg, sd⟩ := r
  dsimp only at *
  generalize hsr : signR s p = sR at *
  go_wp2_with fail
  refine (rcount_any B mb s q2 a m _ hm2 hB).mono ?_
  rintro e w3 ⟨kk, rfl, ⟨hk2', hkz⟩, hm3, hk3⟩
  have hs3 : Sb w3 sb so wd noB noB false 0 0 noB lv := hk3.at hs2 (by decide)
  have hkB := hkA.trans hk3
  generalize hcn : countP s q2 = r at *
  obtain ⟨q3, cn, cd⟩ := r
  dsimp only at *
  have hne : nextI s q3 false ≠ 110 := by rw [nextI_ok]; exact HN.out
  have HNE := hide hne
  have HSG := hide hsg; have HCN := hide hcn
  clear hsg hcn hsr hne
  obtain ⟨⟨m0, m1, m2, m3, m4, m5, m6, m7, m8⟩, fz⟩ := cells9 hs3
  have hkkI : ((kk : Int) == 0) = !cd := by
    rw [← hkz, Bool.eq_iff_iff, beq_iff_eq, beq_iff_eq]; omega
  have HNum : Hid (numbersP s p = (q3, if cd = true then some ⟨noB, false, 0, sg * cn⟩ else none)) := by
    unfold numbersP
    rw [if_neg H1.out, if_neg H2.out, HSG.out]; dsimp only
    rw [HCN.out]; dsimp only
    rw [if_neg HN.out]
    cases cd <;> rfl
  clear hkz HSG HCN HN
  rcases hsc with ⟨rfl, hsn⟩ | ⟨rfl, hsn⟩
  · rw [show (1 : Int) * cn = cn from by omega] at HNum
    go_wp2_with fail
    refine (is_no B mb s q3 false a m _ _ hm3 HNE.out).mono ?_
    rintro e w4 ⟨rfl, hm4, hk4⟩
    have hs4 : Sb w4 sb so wd noB noB false 0 0 noB lv := hk4.at hs3 (by decide)
    have hkC := hkB.trans hk4
    have d2 := hm4.c2; have df := hm4.free (o := 2)
    have hneb := block_ne hm4.blk hs4 (by decide)
    have hneb' := Ne.symm hneb
    clear m0 m1 m2 m3 m4 m5 m6 m7 m8 fz
    cases cd
    · have b5 := hm4.set2 true
      have kb5 := hm4.kp hkC hB 2 (.bool true)
      have kbz := Kp.setAny (p := ⟨mb, 2, none⟩) hm4.blk (.bool true)
      have hs5 : Sb (w4.setCell ⟨mb, 2, none⟩ (.bool true)) sb so wd noB noB false 0 0 noB lv := kbz.at hs4 (by decide)
      have k6 := set_blk (o := 6) hs5 (.int .i64 (cn))
      have kk6 := Kp.setAny (p := ⟨sb, 6, none⟩) hs5 (.int .i64 (cn))
      have hk6 := kb5.tm.setCell (p := ⟨sb, 6, none⟩) hs5 (by simp [TM]) hBs (.int .i64 (cn))
      have hm6 := b5.kept kk6 (by decide)
      obtain ⟨⟨u0, u1, u2, u3, u4, u5, u6, u7, u8⟩, fu⟩ := cells9 hs5
      have fu6 := fu 6
      clear fu
      go_wp2_with fail
      generalize (w4.setCell ⟨mb, 2, none⟩ (.bool true)).setCell ⟨sb, 6, none⟩ (.int .i64 (cn)) = w6 at *
      refine (number_any (cn) _ (by omega) (by omega)).mono ?_
      rintro e w7 ⟨rfl, hb7⟩
      have hk7 : Ks B sb w6 w7 := (Kp.ofBelow hb7).tm
      have hk70 : Kp 0 [] w6 w7 := Kp.ofBelow hb7
      have k7 := hk70.at k6 (by simp)
      have hm7 := hm6.kept hk70 (by simp)
      have k8 := set_blk (o := 7) k7 (.string (bytesOf (numT (cn))))
      have kk8 := Kp.setAny (p := ⟨sb, 7, none⟩) k7 (.string (bytesOf (numT (cn))))
      have hk8 := (hk6.trans hk7).setCell (p := ⟨sb, 7, none⟩) k7 (by simp [TM]) hBs (.string (bytesOf (numT (cn))))
      have hm8 := hm7.kept kk8 (by decide)
      obtain ⟨⟨v0, v1, v2, v3, v4, v5, v6, v7, v8⟩, fv⟩ := cells9 k7
      have fv7 := fv 7
      clear fv u0 u1 u2 u3 u4 u5 u6 u7 u8 fu6
      go_wp2
      refine bodyPost_ret (results_none Tryz.results215 _ _ _) rfl ?_
      rw [HNum.out]
      exact ⟨rfl, hk8, .inr ⟨rfl, hm8, _, _, _, k8⟩⟩
    · have k6 := set_blk (o := 6) hs4 (.int .i64 (cn))
      have kk6 := Kp.setAny (p := ⟨sb, 6, none⟩) hs4 (.int .i64 (cn))
      have hk6 := hkC.tm.setCell (p := ⟨sb, 6, none⟩) hs4 (by simp [TM]) hBs (.int .i64 (cn))
      have hm6 := hm4.kept kk6 (by decide)
      obtain ⟨⟨u0, u1, u2, u3, u4, u5, u6, u7, u8⟩, fu⟩ := cells9 hs4
      have fu6 := fu 6
      clear fu
      go_wp2_with fail
      generalize w4.setCell ⟨sb, 6, none⟩ (.int .i64 (cn)) = w6 at *
      refine (number_any (cn) _ (by omega) (by omega)).mono ?_
      rintro e w7 ⟨rfl, hb7⟩
      have hk7 : Ks B sb w6 w7 := (Kp.ofBelow hb7).tm
      have hk70 : Kp 0 [] w6 w7 := Kp.ofBelow hb7
      have k7 := hk70.at k6 (by simp)
      have hm7 := hm6.kept hk70 (by simp)
      have k8 := set_blk (o := 7) k7 (.string (bytesOf (numT (cn))))
      have kk8 := Kp.setAny (p := ⟨sb, 7, none⟩) k7 (.string (bytesOf (numT (cn))))
      have hk8 := (hk6.trans hk7).setCell (p := ⟨sb, 7, none⟩) k7 (by simp [TM]) hBs (.string (bytesOf (numT (cn))))
      have hm8 := hm7.kept kk8 (by decide)
      obtain ⟨⟨v0, v1, v2, v3, v4, v5, v6, v7, v8⟩, fv⟩ := cells9 k7
      have fv7 := fv 7
      clear fv u0 u1 u2 u3 u4 u5 u6 u7 u8 fu6
      go_wp2
      refine bodyPost_ret (results_none Tryz.results215 _ _ _) rfl ?_
      rw [HNum.out]
      exact ⟨rfl, hk8, .inl ⟨_, rfl, hm8, k8⟩⟩
  · rw [show (-1 : Int) * cn = -cn from by omega] at HNum
    go_wp2_with fail
    refine (is_no B mb s q3 false a m _ _ hm3 HNE.out).mono ?_
    rintro e w4 ⟨rfl, hm4, hk4⟩
    have hs4 : Sb w4 sb so wd noB noB false 0 0 noB lv := hk4.at hs3 (by decide)
    have hkC := hkB.trans hk4
    have d2 := hm4.c2; have df := hm4.free (o := 2)
    have hneb := block_ne hm4.blk hs4 (by decide)
    have hneb' := Ne.symm hneb
    clear m0 m1 m2 m3 m4 m5 m6 m7 m8 fz
    cases cd
    · have b5 := hm4.set2 true
      have kb5 := hm4.kp hkC hB 2 (.bool true)
      have kbz := Kp.setAny (p := ⟨mb, 2, none⟩) hm4.blk (.bool true)
      have hs5 : Sb (w4.setCell ⟨mb, 2, none⟩ (.bool true)) sb so wd noB noB false 0 0 noB lv := kbz.at hs4 (by decide)
      have k6 := set_blk (o := 6) hs5 (.int .i64 (-cn))
      have kk6 := Kp.setAny (p := ⟨sb, 6, none⟩) hs5 (.int .i64 (-cn))
      have hk6 := kb5.tm.setCell (p := ⟨sb, 6, none⟩) hs5 (by simp [TM]) hBs (.int .i64 (-cn))
      have hm6 := b5.kept kk6 (by decide)
      obtain ⟨⟨u0, u1, u2, u3, u4, u5, u6, u7, u8⟩, fu⟩ := cells9 hs5
      have fu6 := fu 6
      clear fu
      go_wp2_with fail
      generalize (w4.setCell ⟨mb, 2, none⟩ (.bool true)).setCell ⟨sb, 6, none⟩ (.int .i64 (-cn)) = w6 at *
      refine (number_any (-cn) _ (by omega) (by omega)).mono ?_
      rintro e w7 ⟨rfl, hb7⟩
      have hk7 : Ks B sb w6 w7 := (Kp.ofBelow hb7).tm
      have hk70 : Kp 0 [] w6 w7 := Kp.ofBelow hb7
      have k7 := hk70.at k6 (by simp)
      have hm7 := hm6.kept hk70 (by simp)
      have k8 := set_blk (o := 7) k7 (.string (bytesOf (numT (-cn))))
      have kk8 := Kp.setAny (p := ⟨sb, 7, none⟩) k7 (.string (bytesOf (numT (-cn))))
      have hk8 := (hk6.trans hk7).setCell (p := ⟨sb, 7, none⟩) k7 (by simp [TM]) hBs (.string (bytesOf (numT (-cn))))
      have hm8 := hm7.kept kk8 (by decide)
      obtain ⟨⟨v0, v1, v2, v3, v4, v5, v6, v7, v8⟩, fv⟩ := cells9 k7
      have fv7 := fv 7
      clear fv u0 u1 u2 u3 u4 u5 u6 u7 u8 fu6
      go_wp2
      refine bodyPost_ret (results_none Tryz.results215 _ _ _) rfl ?_
      rw [HNum.out]
      exact ⟨rfl, hk8, .inr ⟨rfl, hm8, _, _, _, k8⟩⟩
    · have k6 := set_blk (o := 6) hs4 (.int .i64 (-cn))
      have kk6 := Kp.setAny (p := ⟨sb, 6, none⟩) hs4 (.int .i64 (-cn))
      have hk6 := hkC.tm.setCell (p := ⟨sb, 6, none⟩) hs4 (by simp [TM]) hBs (.int .i64 (-cn))
      have hm6 := hm4.kept kk6 (by decide)
      obtain ⟨⟨u0, u1, u2, u3, u4, u5, u6, u7, u8⟩, fu⟩ := cells9 hs4
      have fu6 := fu 6
      clear fu
      go_wp2_with fail
      generalize w4.setCell ⟨sb, 6, none⟩ (.int .i64 (-cn)) = w6 at *
      refine (number_any (-cn) _ (by omega) (by omega)).mono ?_
      rintro e w7 ⟨rfl, hb7⟩
      have hk7 : Ks B sb w6 w7 := (Kp.ofBelow hb7).tm
      have hk70 : Kp 0 [] w6 w7 := Kp.ofBelow hb7
      have k7 := hk70.at k6 (by simp)
      have hm7 := hm6.kept hk70 (by simp)
      have k8 := set_blk (o := 7) k7 (.string (bytesOf (numT (-cn))))
      have kk8 := Kp.setAny (p := ⟨sb, 7, none⟩) k7 (.string (bytesOf (numT (-cn))))
      have hk8 := (hk6.trans hk7).setCell (p := ⟨sb, 7, none⟩) k7 (by simp [TM]) hBs (.string (bytesOf (numT (-cn))))
      have hm8 := hm7.kept kk8 (by decide)
      obtain ⟨⟨v0, v1, v2, v3, v4, v5, v6, v7, v8⟩, fv⟩ := cells9 k7
      have fv7 := fv 7
      clear fv u0 u1 u2 u3 u4 u5 u6 u7 u8 fu6
      go_wp2
      refine bodyPost_ret (results_none Tryz.results215 _ _ _) rfl ?_
      rw [HNum.out]
      exact ⟨rfl, hk8, .inl ⟨_, rfl, hm8, k8⟩⟩
end Go.Proofs.YtclpcnignheijaaGreatDoor
