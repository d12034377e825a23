import Derived.Test.YtclpcnignheijaaGreatDoorB6
namespace Go.Proofs.YtclpcnignheijaaGreatDoor
open Go.RowKit

set_option maxRecDepth 100000 in
set_option maxHeartbeats 2000000 in
theorem comment_any (B rb bb : Nat) (s : ByteArray) (p : Nat) (w : World) (h : Rd w rb s p) (hB : B ≤ rb) :
    Calls Tryz.prog 145 #[.agg #[.pointer (some ⟨rb, 0, none⟩), .pointer (some ⟨bb, 0, none⟩)]] w fun e w' => ∃ (v : Value), e = .returned v ∧
      Rd w' rb s (commentP s p).1 ∧ Kp B [210] w w' ∧ (((commentP s p).2 = true ∧ v = .nilIface) ∨ ((commentP s p).2 = false ∧ ∃ n, Chain w' 2 (commentP s p).1 n v)) := by
  have h5 := h.max; have h4 := h.le
  have hle := expP_le s [33, 45, 45] p h4
  cases h1 : (expP s [33, 45, 45] p).2
  · have HE : Hid (commentP s p = ((expP s [33, 45, 45] p).1, false)) := by unfold commentP; rw [if_pos h1]; rfl
    have H1 := hide h1
    clear h1
    go_enter Tryz.func145, Tryz.ntmps145
    go_wp2_with fail
    refine (expect_any B rb s ⟨#[33, 45, 45]⟩ p _ (h.alloc _) hB (by decide)).mono ?_
    rintro e w1 ⟨v, rfl, hr1, hk1, hor⟩
    rcases hor with ⟨ho, _⟩ | ⟨_, hc⟩
    · exact absurd (ho.symm.trans H1.out) (by decide)
    obtain ⟨ty, kk, hv⟩ := hc.shape
    rw [hv] at hc ⊢
    go_wp2
    go_ret
    rw [HE.out]
    exact ⟨_, rfl, hr1, ((Kp.refl _ _ _).alloc _).trans hk1, .inr ⟨rfl, 0, hc⟩⟩
  · have HE : Hid (commentP s p = comP s (s.size + 1) (expP s [33, 45, 45] p).1) := by unfold commentP; rw [if_neg (by rw [h1]; exact Bool.noConfusion)]; rfl
    have H1 := hide h1
    clear h1
    go_enter Tryz.func145, Tryz.ntmps145
    go_wp2_with fail
    refine (expect_any B rb s ⟨#[33, 45, 45]⟩ p _ (h.alloc _) hB (by decide)).mono ?_
    rintro e w1 ⟨v, rfl, hr1, hk1, hor⟩
    rcases hor with ⟨_, rfl⟩ | ⟨ho, _⟩
    rotate_left
    · exact absurd (ho.symm.trans H1.out) (by decide)
    have bx1 := hk1.at (alloc_at w _) (by decide)
    go_wp2
    go_loopw [10] (fun _ wr => ∃ (q f : Nat), Rd wr rb s q ∧ s.size < q + f ∧ wr.heap[w.heap.size]? = some (.cells #[.pointer (some ⟨rb, 0, none⟩), .pointer (some ⟨bb, 0, none⟩)] 163 (0, 0)) ∧ Hid (comP s f q = commentP s p) ∧ Kp B [210] w wr) (fun _ wr => s.size - placeOf wr rb)
    case atStart => exact ⟨_, s.size + 1, hr1, by omega, bx1, hide HE.out.symm, ((Kp.refl _ _ _).alloc _).trans hk1⟩
    case round =>
      clear hr1 hk1 bx1 HE H1 hle h
      obtain ⟨q, f, hr, hf, hbx, HQ, hk⟩ := hrel
      have b0 := cell2_0 hbx
      have g4 := hr.le
      obtain ⟨f, rfl⟩ : ∃ f', f = f' + 1 := ⟨f - 1, by omega⟩
      by_cases hm : peekI s q = 45
      · have hlt : q < s.size := peekI_lt (by omega)
        have HM := hide hm
        by_cases hm2 : peekI s (q + 1) = 45
        · have hlt2 : q + 1 < s.size := peekI_lt (by omega)
          have HE : Hid (commentP s p = expP s [62] (q + 2)) := by rw [← HQ.out, comP, if_pos hm, if_pos hm2]; rfl
          have HM2 := hide hm2
          clear hm hm2
          go_wp2_with fail
          refine (take_yes B rb s q 45 _ hr hB (by decide) HM.out).mono ?_
          rintro e w2 ⟨rfl, hr2, hk2⟩
          have bx2 := hk2.at hbx (by decide)
          have c0 := cell2_0 bx2
          go_wp2_with fail
          refine (take_yes B rb s (q + 1) 45 _ hr2 hB (by decide) HM2.out).mono ?_
          rintro e w3 ⟨rfl, hr3, hk3⟩
          have bx3 := hk3.at bx2 (by decide)
          have d0 := cell2_0 bx3
          go_wp2_with fail
          refine (expect_any B rb s ⟨#[62]⟩ (q + 1 + 1) _ hr3 hB (by decide)).mono ?_
          rintro e w4 ⟨v, rfl, hr4, hk4, hor⟩
          have KK := ((hk.trans hk2).trans hk3).trans hk4
          rcases hor with ⟨ho, rfl⟩ | ⟨ho, hc⟩
          · have HO := hide ho
            clear ho
            go_wp2
            go_ret
            rw [HE.out]
            exact ⟨_, rfl, hr4, KK, .inl ⟨HO.out, rfl⟩⟩
          · have HO := hide ho
            clear ho
            obtain ⟨ty, kk, hv⟩ := hc.shape
            rw [hv] at hc ⊢
            go_wp2
            go_ret
            rw [HE.out]
            exact ⟨_, rfl, hr4, KK, .inr ⟨HO.out, 0, hc⟩⟩
        · have HM2 := hide hm2
          by_cases hz : peekI s (q + 1) = 0
          · have HE : Hid (commentP s p = (q + 1, false)) := by rw [← HQ.out, comP, if_pos hm, if_neg hm2, if_pos hz]; rfl
            have hz' : (peekI s (q + 1) == 0) = true := by simp [hz]
            clear hm hm2 hz
            go_wp2_with fail
            refine (take_yes B rb s q 45 _ hr hB (by decide) HM.out).mono ?_
            rintro e w2 ⟨rfl, hr2, hk2⟩
            have bx2 := hk2.at hbx (by decide)
            have c0 := cell2_0 bx2
            go_wp2_with fail
            refine (take_no B rb s (q + 1) 45 _ hr2 (.inr HM2.out)).mono ?_
            rintro e w3 ⟨rfl, hr3, hk3⟩
            have bx3 := hk3.at bx2 (by decide)
            have d0 := cell2_0 bx3
            go_wp2_with fail
            refine (peek_any rb s (q + 1) _ hr3).mono ?_
            rintro e w4 ⟨rfl, nq, rfl⟩
            go_wp2_with fail
            refine (fail_any B rb s (q + 1) _ (hr3.drewN _)).mono ?_
            rintro e w5 ⟨v, rfl, hc, hr5, hk5⟩
            go_wp2
            go_ret
            rw [HE.out]
            exact ⟨_, rfl, hr5, ((hk.trans hk2).trans hk3).trans hk5.fromDrewN, .inr ⟨rfl, 0, hc⟩⟩
          · have HE : Hid (commentP s p = comP s f (q + 2)) := by rw [← HQ.out, comP, if_pos hm, if_neg hm2, if_neg hz]; rfl
            have hz' : (peekI s (q + 1) == 0) = false := by simp [hz]
            have hlt2 := peekI_lt hz
            have HSk : Hid (skipP s (q + 1) = q + 1 + 1) := by unfold skipP; rw [if_neg hz]; rfl
            clear hm hm2 hz
            go_wp2_with fail
            refine (take_yes B rb s q 45 _ hr hB (by decide) HM.out).mono ?_
            rintro e w2 ⟨rfl, hr2, hk2⟩
            have bx2 := hk2.at hbx (by decide)
            have c0 := cell2_0 bx2
            go_wp2_with fail
            refine (take_no B rb s (q + 1) 45 _ hr2 (.inr HM2.out)).mono ?_
            rintro e w3 ⟨rfl, hr3, hk3⟩
            have bx3 := hk3.at bx2 (by decide)
            have d0 := cell2_0 bx3
            go_wp2_with fail
            refine (peek_any rb s (q + 1) _ hr3).mono ?_
            rintro e w4 ⟨rfl, nq, rfl⟩
            go_wp2_with fail
            refine (skip_any B rb s (q + 1) _ (hr3.drewN _) hB).mono ?_
            rintro e w5 ⟨rfl, hr5, hk5⟩
            rw [HSk.out] at hr5
            have bx5 := hk5.at bx3 (by decide)
            go_wp2
            go_roundw
            case rel => exact ⟨q + 2, f, hr5, by omega, bx5, hide HE.out.symm, ((hk.trans hk2).trans hk3).trans hk5.fromDrewN⟩
            case measure => rw [hr5.placeOf, hr.placeOf]; omega
      · have HM := hide hm
        by_cases hz : peekI s q = 0
        · have HE : Hid (commentP s p = (q, false)) := by rw [← HQ.out, comP, if_neg hm, if_pos hz]; rfl
          have hz' : (peekI s q == 0) = true := by simp [hz]
          clear hm hz
          go_wp2_with fail
          refine (take_no B rb s q 45 _ hr (.inr HM.out)).mono ?_
          rintro e w2 ⟨rfl, hr2, hk2⟩
          have bx2 := hk2.at hbx (by decide)
          have c0 := cell2_0 bx2
          go_wp2_with fail
          refine (peek_any rb s q _ hr2).mono ?_
          rintro e w4 ⟨rfl, nq, rfl⟩
          go_wp2_with fail
          refine (fail_any B rb s q _ (hr2.drewN _)).mono ?_
          rintro e w5 ⟨v, rfl, hc, hr5, hk5⟩
          go_wp2
          go_ret
          rw [HE.out]
          exact ⟨_, rfl, hr5, (hk.trans hk2).trans hk5.fromDrewN, .inr ⟨rfl, 0, hc⟩⟩
        · have HE : Hid (commentP s p = comP s f (q + 1)) := by rw [← HQ.out, comP, if_neg hm, if_neg hz]; rfl
          have hz' : (peekI s q == 0) = false := by simp [hz]
          have hlt2 := peekI_lt hz
          have HSk : Hid (skipP s q = q + 1) := by unfold skipP; rw [if_neg hz]; rfl
          clear hm hz
          go_wp2_with fail
          refine (take_no B rb s q 45 _ hr (.inr HM.out)).mono ?_
          rintro e w2 ⟨rfl, hr2, hk2⟩
          have bx2 := hk2.at hbx (by decide)
          have c0 := cell2_0 bx2
          go_wp2_with fail
          refine (peek_any rb s q _ hr2).mono ?_
          rintro e w4 ⟨rfl, nq, rfl⟩
          go_wp2_with fail
          refine (skip_any B rb s q _ (hr2.drewN _) hB).mono ?_
          rintro e w5 ⟨rfl, hr5, hk5⟩
          rw [HSk.out] at hr5
          have bx5 := hk5.at bx2 (by decide)
          go_wp2
          go_roundw
          case rel => exact ⟨q + 1, f, hr5, by omega, bx5, hide HE.out.symm, (hk.trans hk2).trans hk5.fromDrewN⟩
          case measure => rw [hr5.placeOf, hr.placeOf]; omega
end Go.Proofs.YtclpcnignheijaaGreatDoor
