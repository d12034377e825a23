import Derived.Test.YtclpcnignheijaaGreatDoorR2
import Derived.Deep.RegionWith
namespace Go.Proofs.YtclpcnignheijaaGreatDoor
open Go.RowKit

set_option maxRecDepth 100000 in
set_option maxHeartbeats 4000000 in
theorem rword_word (B mb : Nat) (s : ByteArray) (p a m : Nat) (w : World) (h : Mk w mb s p false a m) (hB : B ≤ mb) :
    Calls Tryz.prog 133 #[.pointer (some ⟨mb, 0, none⟩), .bool false] w fun e w' => ∃ x, e = .returned (.string x) ∧ Kp B [153] w w' ∧
      (((wordP s p).2 = some x ∧ Mk w' mb s (wordP s p).1 false a m) ∨ ((wordP s p).2 = none ∧ Mk w' mb s (wordP s p).1 true a m)) := by
  have h4 := h.le; have h5 := h.max
  have d1 := h.c1
  go_enter Tryz.func133, Tryz.ntmps133
  go_wp2_with (first | (go_at_call 131; refine (next_any mb s p false a m _ h).mono ?_; rintro e w' ⟨rfl, nq, rfl⟩) | (go_at_call 134; refine (rletter_any _ _).mono ?_; rintro e w' ⟨rfl, rfl⟩))
  clear d1
  go_loopw [25] (fun _ wr => ∃ q : Nat, Mk wr mb s q false a m ∧ p ≤ q ∧ q ≤ p + 16 ∧ Hid (runP wordB s (16 - (q - p)) q = runP wordB s 16 p) ∧ Kp B [153] w wr) (fun _ wr => s.size - placeM wr mb)
  case atStart => exact ⟨p, h.drewN _, Nat.le_refl _, by omega, by rw [Nat.sub_self]; rfl, (Kp.refl _ _ _).drewN _⟩
  case round =>
    obtain ⟨q, hm, hpq, hq16, HQ, hk⟩ := hrel
    have h6 := hm.le
    cases hw : wordB (peekI s q)
    · have hend : runP wordB s 16 p = q := by rw [← HQ.out]; exact runP_no hw
      have HEnd := hide hend
      have hw' := hw
      unfold wordB nameB at hw'
      simp only [Bool.or_eq_false_iff, beq_eq_false_iff_ne] at hw'
      obtain ⟨⟨⟨l1, l2⟩, l3⟩, l4⟩ := hw'
      obtain ⟨cc, hcc⟩ : ∃ cc, peekI s q = cc := ⟨_, rfl⟩
      have HCC := hide hcc
      rw [hcc] at l1 l2 l3 l4
      have L1 := hide l1; have L2 := hide l2
      have e3 : (cc != 45) = true := by simp [l3]
      have e4 : (cc != 95) = true := by simp [l4]
      have HW := hide hw
      clear hw hend l1 l2 l3 l4 hcc
      have d0 := hm.c0; have d1 := hm.c1; have d2 := hm.c2; have df := hm.free (o := 2)
      by_cases hqp : q = p
      · have HE : Hid ((wordP s p) = (q, none)) := by unfold wordP; rw [HEnd.out, if_pos (.inl hqp)]; rfl
        have hqp' : ((q : Int) == (p : Int)) = true := by simp; omega
        clear hqp
        go_wp2_with (first | (go_at_call 131; refine (next_is mb s q false a m _ cc hm ((nextI_ok s q).trans HCC.out)).mono ?_; rintro e w' ⟨rfl, nq, rfl⟩) | (go_at_call 134; refine (rletter_is _ _ _ L1.out).mono ?_; rintro e w' ⟨rfl, rfl⟩) | (go_at_call 176; refine (rdigit_is _ _ _ L2.out).mono ?_; rintro e w' ⟨rfl, rfl⟩))
        go_ret
        rw [HE.out]
        exact ⟨_, rfl, (hm.drewN _).kp (hk.drewN _) hB _ _, .inr ⟨rfl, (hm.drewN _).set2 true⟩⟩
      · have hqp' : ((q : Int) == (p : Int)) = false := by simp; omega
        have HE : Hid ((wordP s p) = (q, some (subB s p q))) := by unfold wordP; rw [HEnd.out, if_neg (by rw [HW.out]; simp [hqp])]; rfl
        have hsz := subB_size h6 hpq
        have hs5 : (s.extract p q).size ≤ 100000 := by rw [subB_eq, hsz]; omega
        clear hqp
        go_wp2_with (first | (go_at_call 131; refine (next_is mb s q false a m _ cc hm ((nextI_ok s q).trans HCC.out)).mono ?_; rintro e w' ⟨rfl, nq, rfl⟩) | (go_at_call 134; refine (rletter_is _ _ _ L1.out).mono ?_; rintro e w' ⟨rfl, rfl⟩) | (go_at_call 176; refine (rdigit_is _ _ _ L2.out).mono ?_; rintro e w' ⟨rfl, rfl⟩))
        go_quiet (fail)
        go_wp2
        go_ret
        rw [HE.out]
        exact ⟨_, rfl, (hk.drewN _).drewN _, .inl ⟨congrArg some (subB_eq s p q).symm, (hm.drewN _).drewN _⟩⟩
    · obtain ⟨cc, hcc⟩ : ∃ cc, peekI s q = cc := ⟨_, rfl⟩
      have HCC := hide hcc
      have hor : letterB cc = true ∨ (letterB cc = false ∧ digitB cc = true) ∨ (letterB cc = false ∧ digitB cc = false ∧ (cc != 45) = false) ∨ (letterB cc = false ∧ digitB cc = false ∧ (cc != 45) = true ∧ (cc != 95) = false) := by
        have hw' := hw
        rw [hcc] at hw'
        unfold wordB nameB at hw'
        cases h1 : letterB cc
        · cases h2 : digitB cc
          · rw [h1, h2] at hw'; simp at hw'; rcases hw' with h | h
            · exact .inr (.inr (.inl ⟨rfl, rfl, by simp [h]⟩))
            · exact .inr (.inr (.inr ⟨rfl, rfl, by simp [h], by simp [h]⟩))
          · exact .inr (.inl ⟨rfl, rfl⟩)
        · exact .inl rfl
      clear hcc
      have HW := hide hw
      have hlt : q < s.size := peekI_lt (fun e => by rw [e] at hw; revert hw; decide)
      clear hw
      have d1 := hm.c1; have df := hm.free (o := 2); have df1 := hm.free (o := 1); have d2 := hm.c2
      by_cases hq : q - p = 16
      · have hend : runP wordB s 16 p = q := by rw [← HQ.out, hq]; rfl
        have HE : Hid ((wordP s p) = (q, none)) := by unfold wordP; rw [hend, if_pos (.inr HW.out)]; rfl
        have e16 : ((q : Int) - (p : Int) == 16) = true := by simp; omega
        clear hend hq
        rcases hor with l1 | ⟨l1, l2⟩ | ⟨l1, l2, l3⟩ | ⟨l1, l2, l3, l4⟩
        all_goals
          have L1 := hide l1
          clear l1
          go_wp2_with (first | (go_at_call 131; refine (next_is mb s q false a m _ cc hm ((nextI_ok s q).trans HCC.out)).mono ?_; rintro e w' ⟨rfl, nq, rfl⟩) | (go_at_call 134; refine (rletter_is _ _ _ L1.out).mono ?_; rintro e w' ⟨rfl, rfl⟩) | (go_at_call 176; refine (rdigit_any _ _).mono ?_; rintro e w' ⟨rfl, rfl⟩) )
          all_goals
            go_ret
            rw [HE.out]
            exact ⟨_, rfl, (hm.drewN _).kp (hk.drewN _) hB _ _, .inr ⟨rfl, (hm.drewN _).set2 true⟩⟩
      · have e16 : ((q : Int) - (p : Int) == 16) = false := by simp; omega
        rcases hor with l1 | ⟨l1, l2⟩ | ⟨l1, l2, l3⟩ | ⟨l1, l2, l3, l4⟩
        all_goals
          have L1 := hide l1
          clear l1
          go_wp2_with (first | (go_at_call 131; refine (next_is mb s q false a m _ cc hm ((nextI_ok s q).trans HCC.out)).mono ?_; rintro e w' ⟨rfl, nq, rfl⟩) | (go_at_call 134; refine (rletter_is _ _ _ L1.out).mono ?_; rintro e w' ⟨rfl, rfl⟩) | (go_at_call 176; refine (rdigit_any _ _).mono ?_; rintro e w' ⟨rfl, rfl⟩) )
          all_goals
            go_roundw
            case rel =>
              refine ⟨q + 1, (hm.drewN _).set1 (by omega) (by simp), by omega, by omega, hide ?_, (hm.drewN _).kp (hk.drewN _) hB _ _⟩
              rw [← HQ.out, show 16 - (q - p) = (16 - (q + 1 - p)) + 1 from by omega, runP_yes HW.out]
            case measure => rw [((hm.drewN _).set1 (q := q + 1) (by omega) (by simp)).placeM, hm.placeM]; omega
set_option maxRecDepth 100000 in
set_option maxHeartbeats 4000000 in
theorem rword_name (B mb : Nat) (s : ByteArray) (p a m : Nat) (w : World) (h : Mk w mb s p false a m) (hB : B ≤ mb) :
    Calls Tryz.prog 133 #[.pointer (some ⟨mb, 0, none⟩), .bool true] w fun e w' => ∃ x, e = .returned (.string x) ∧ Kp B [153] w w' ∧
      (((newP s p noneTaken).2 = some x ∧ Mk w' mb s (newP s p noneTaken).1 false a m) ∨ ((newP s p noneTaken).2 = none ∧ Mk w' mb s (newP s p noneTaken).1 true a m)) := by
  have h4 := h.le; have h5 := h.max
  have d1 := h.c1
  cases hl : letterB (peekI s p)
  · have HE : Hid ((newP s p noneTaken) = (p, none)) := by unfold newP; rw [if_pos hl]; rfl
    have HL := hide hl
    clear hl
    have df := h.free (o := 2); have d2 := h.c2
    go_enter Tryz.func133, Tryz.ntmps133
    go_wp2_with (first | (go_at_call 131; refine (next_is mb s p false a m _ (peekI s p) h (nextI_ok s p)).mono ?_; rintro e w' ⟨rfl, nq, rfl⟩) | (go_at_call 134; refine (rletter_is _ _ _ HL.out).mono ?_; rintro e w' ⟨rfl, rfl⟩))
    have hb := (h.drewN nq).set2 true
    have hkb := (h.drewN nq).kp ((Kp.refl B [153] w).drewN nq) hB 2 (.bool true)
    clear d1 d2 df
    generalize (w.drewN nq).setCell ⟨mb, 2, none⟩ (.bool true) = w1 at *
    refine wp_loop_rounds 1 ?_
    rw [rounds_succ]
    have d1 := hb.c1; have d2 := hb.c2; have df := hb.free (o := 2)
    go_wp2_with (first | (go_at_call 131; refine (next_is mb s p true a m _ 0 hb rfl).mono ?_; rintro e w' ⟨rfl, nq2, rfl⟩) | (go_at_call 134; refine (rletter_is _ _ false rfl).mono ?_; rintro e w' ⟨rfl, rfl⟩) | (go_at_call 176; refine (rdigit_is _ _ false rfl).mono ?_; rintro e w' ⟨rfl, rfl⟩))
    go_ret
    rw [HE.out]
    exact ⟨_, rfl, (hb.drewN _).kp (hkb.drewN _) hB _ _, .inr ⟨rfl, (hb.drewN _).set2 true⟩⟩
  have HL := hide hl
  have hnm : nameB (peekI s p) = true := by unfold nameB; rw [hl]; rfl
  have HNM := hide hnm
  clear hl hnm
  go_enter Tryz.func133, Tryz.ntmps133
  go_wp2_with (first | (go_at_call 131; refine (next_is mb s p false a m _ (peekI s p) h (nextI_ok s p)).mono ?_; rintro e w' ⟨rfl, nq, rfl⟩) | (go_at_call 134; refine (rletter_is _ _ _ HL.out).mono ?_; rintro e w' ⟨rfl, rfl⟩))
  clear d1
  go_loopw [25] (fun _ wr => ∃ q : Nat, Mk wr mb s q false a m ∧ p ≤ q ∧ q ≤ p + 16 ∧ Hid (runP nameB s (16 - (q - p)) q = runP nameB s 16 p) ∧ Kp B [153] w wr) (fun _ wr => s.size - placeM wr mb)
  case atStart => exact ⟨p, h.drewN _, Nat.le_refl _, by omega, by rw [Nat.sub_self]; rfl, (Kp.refl _ _ _).drewN _⟩
  case round =>
    obtain ⟨q, hm, hpq, hq16, HQ, hk⟩ := hrel
    have h6 := hm.le
    cases hw : nameB (peekI s q)
    · have hend : runP nameB s 16 p = q := by rw [← HQ.out]; exact runP_no hw
      have HEnd := hide hend
      have hw' := hw
      unfold nameB at hw'
      simp only [Bool.or_eq_false_iff, beq_eq_false_iff_ne] at hw'
      obtain ⟨⟨l1, l2⟩, l3⟩ := hw'
      obtain ⟨cc, hcc⟩ : ∃ cc, peekI s q = cc := ⟨_, rfl⟩
      have HCC := hide hcc
      rw [hcc] at l1 l2 l3
      have L1 := hide l1; have L2 := hide l2
      have e3 : (cc != 45) = true := by simp [l3]
      have HW := hide hw
      clear hw hend l1 l2 l3 hcc
      have d0 := hm.c0; have d1 := hm.c1; have d2 := hm.c2; have df := hm.free (o := 2)
      by_cases hqp : q = p
      · exact absurd (hqp ▸ HW.out) (by rw [HNM.out]; simp)
      · have hqp' : ((q : Int) == (p : Int)) = false := by simp; omega
        have HE : Hid ((newP s p noneTaken) = (q, some (nameAt s p))) := by have hx := newP_free (taken := noneTaken) HL.out rfl (show nameEnd s p = q from HEnd.out) rfl; rw [hx, if_neg (by rw [HW.out]; simp)]; rfl
        have hsz := subB_size h6 hpq
        have hs5 : (s.extract p q).size ≤ 100000 := by rw [subB_eq, hsz]; omega
        clear hqp
        go_wp2_with (first | (go_at_call 131; refine (next_is mb s q false a m _ cc hm ((nextI_ok s q).trans HCC.out)).mono ?_; rintro e w' ⟨rfl, nq, rfl⟩) | (go_at_call 134; refine (rletter_is _ _ _ L1.out).mono ?_; rintro e w' ⟨rfl, rfl⟩) | (go_at_call 176; refine (rdigit_is _ _ _ L2.out).mono ?_; rintro e w' ⟨rfl, rfl⟩))
        go_region_with (go_at_call 79; refine (rsmall_any _ _ hs5).mono ?_; rintro e w' ⟨rfl, hbl⟩)
        all_goals
          go_wp2
          go_ret
          rw [HE.out]
          have hkz : Kp B [153] wr _ := Kp.belowD (Kp.refl B [153] wr) hbl rfl rfl rfl rfl rfl
          refine ⟨_, rfl, hk.trans hkz, .inl ⟨?_, ⟨?_, h6, h5⟩⟩⟩
          · have hend := HEnd.out
            show some (nameAt s p) = some _
            unfold nameAt nameEnd
            rw [hend]
          · rw [hbl.block mb (lt_of_block hm.blk)]; exact hm.blk
    · obtain ⟨cc, hcc⟩ : ∃ cc, peekI s q = cc := ⟨_, rfl⟩
      have HCC := hide hcc
      have hor : letterB cc = true ∨ (letterB cc = false ∧ digitB cc = true) ∨ (letterB cc = false ∧ digitB cc = false ∧ (cc != 45) = false) := by
        have hw' := hw
        rw [hcc] at hw'
        unfold nameB at hw'
        cases h1 : letterB cc
        · cases h2 : digitB cc
          · rw [h1, h2] at hw'; simp at hw'; exact .inr (.inr ⟨rfl, rfl, by simp [hw']⟩)
          · exact .inr (.inl ⟨rfl, rfl⟩)
        · exact .inl rfl
      clear hcc
      have HW := hide hw
      have hlt : q < s.size := peekI_lt (fun e => by rw [e] at hw; revert hw; decide)
      clear hw
      have d1 := hm.c1; have df := hm.free (o := 2); have df1 := hm.free (o := 1); have d2 := hm.c2
      by_cases hq : q - p = 16
      · have hend : runP nameB s 16 p = q := by rw [← HQ.out, hq]; rfl
        have HE : Hid ((newP s p noneTaken) = (q, none)) := by have hx := newP_free (taken := noneTaken) HL.out rfl (show nameEnd s p = q from hend) rfl; rw [hx, if_pos HW.out]; rfl
        have e16 : ((q : Int) - (p : Int) == 16) = true := by simp; omega
        clear hend hq
        rcases hor with l1 | ⟨l1, l2⟩ | ⟨l1, l2, l3⟩
        all_goals
          have L1 := hide l1
          clear l1
          go_wp2_with (first | (go_at_call 131; refine (next_is mb s q false a m _ cc hm ((nextI_ok s q).trans HCC.out)).mono ?_; rintro e w' ⟨rfl, nq, rfl⟩) | (go_at_call 134; refine (rletter_is _ _ _ L1.out).mono ?_; rintro e w' ⟨rfl, rfl⟩) | (go_at_call 176; refine (rdigit_any _ _).mono ?_; rintro e w' ⟨rfl, rfl⟩) )
          all_goals
            go_ret
            rw [HE.out]
            exact ⟨_, rfl, (hm.drewN _).kp (hk.drewN _) hB _ _, .inr ⟨rfl, (hm.drewN _).set2 true⟩⟩
      · have e16 : ((q : Int) - (p : Int) == 16) = false := by simp; omega
        rcases hor with l1 | ⟨l1, l2⟩ | ⟨l1, l2, l3⟩
        all_goals
          have L1 := hide l1
          clear l1
          go_wp2_with (first | (go_at_call 131; refine (next_is mb s q false a m _ cc hm ((nextI_ok s q).trans HCC.out)).mono ?_; rintro e w' ⟨rfl, nq, rfl⟩) | (go_at_call 134; refine (rletter_is _ _ _ L1.out).mono ?_; rintro e w' ⟨rfl, rfl⟩) | (go_at_call 176; refine (rdigit_any _ _).mono ?_; rintro e w' ⟨rfl, rfl⟩) )
          all_goals
            go_roundw
            case rel =>
              refine ⟨q + 1, (hm.drewN _).set1 (by omega) (by simp), by omega, by omega, hide ?_, (hm.drewN _).kp (hk.drewN _) hB _ _⟩
              rw [← HQ.out, show 16 - (q - p) = (16 - (q + 1 - p)) + 1 from by omega, runP_yes HW.out]
            case measure => rw [((hm.drewN _).set1 (q := q + 1) (by omega) (by simp)).placeM, hm.placeM]; omega
end Go.Proofs.YtclpcnignheijaaGreatDoor
