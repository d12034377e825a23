import Derived.Test.YtclpcnignheijaaGreatDoorS7
namespace Go.Proofs.YtclpcnignheijaaGreatDoor
open Go.RowKit

theorem exp1_yes {s : ByteArray} {q : Nat} {c : UInt8} (h0 : (c.toNat : Int) ≠ 0) (h : peekI s q = (c.toNat : Int)) : expP s [c] q = (q + 1, true) := by rw [expP, if_pos ⟨h0, h⟩, expP]
theorem exp1_no {s : ByteArray} {q : Nat} {c : UInt8} (h : peekI s q ≠ (c.toNat : Int)) : expP s [c] q = (q, false) := by rw [expP, if_neg fun h' => h h'.2]
theorem ops_len : ∀ x ∈ opsW, x.length < 3 := by decide
set_option maxHeartbeats 800000 in
theorem operator_any (B xb rb : Nat) (s : ByteArray) (p a b c : Nat) (w : World) (h : Sx w xb rb s p a b c) (hB : B ≤ rb) :
    Calls Tryz.prog 269 #[.pointer (some ⟨xb, 0, none⟩)] w fun e w' => ∃ (o : ByteArray) (v : Value), e = .returned (.tuple #[.string o, v]) ∧ Sx w' xb rb s (oneP s opsW 3 [] p).1 a b c ∧ Kp B [210] w w' ∧
      ((∃ i, (oneP s opsW 3 [] p).2 = some i ∧ o = bytesOf (opsW.getD i []) ∧ v = .nilIface) ∨ ((oneP s opsW 3 [] p).2 = none ∧ Chain w' 2 (oneP s opsW 3 [] p).1 0 v)) := by
  have h0 := h.alloc (.cells (opsW.map fun l => Value.string (bytesOf l)).toArray 9)
  have ws0 : Ws (w.alloc (.cells (opsW.map fun l => Value.string (bytesOf l)).toArray 9)) w.heap.size opsW := alloc_at w _
  have hk0 := (Kp.refl B [210] w).alloc (.cells (opsW.map fun l => Value.string (bytesOf l)).toArray 9)
  have c0 : (w.alloc (.cells #[.string ⟨#[61]⟩, .string ⟨#[126, 61]⟩, .string ⟨#[124, 61]⟩, .string ⟨#[94, 61]⟩, .string ⟨#[36, 61]⟩, .string ⟨#[42, 61]⟩] 9)).cell? ⟨xb, 0, none⟩ = some (.pointer (some ⟨rb, 0, none⟩)) := h0.c0
  go_enter Tryz.func269, Tryz.ntmps269
  go_wp2_with fail
  refine (oneOf_any B rb w.heap.size 6 3 opsW s p _ h0.1 hB ws0 (by decide) opsW_no0 ops_len (by decide)).mono ?_
  rintro e w1 ⟨i, v, rfl, hr1, hk1, hor⟩
  have h1 := h0.step hr1 hk1
  have ws1 := ws0.kept hk1 (by decide)
  have hlt : i < 6 := by
    rcases hor with ⟨ho, _⟩ | ⟨_, hi, _⟩
    · obtain ⟨x, hx, _⟩ := oneP_len 3 [] p i ho
      exact (List.getElem?_eq_some_iff.1 hx).1
    · omega
  obtain ⟨x, hx⟩ : ∃ x, opsW[i]? = some x := ⟨opsW[i]'(by simpa [opsW] using hlt), List.getElem?_eq_getElem _⟩
  have d0 := ws1.cell hx
  have HX := hide hx
  clear hx
  go_wp2
  go_ret2
  refine ⟨_, _, rfl, h1, hk0.trans hk1, ?_⟩
  rcases hor with ⟨ho, hv⟩ | ⟨ho, _, hc⟩
  · exact .inl ⟨i, ho, by rw [List.getD_eq_getElem?_getD, HX.out]; rfl, hv⟩
  · exact .inr ⟨ho, hc⟩
set_option maxHeartbeats 800000 in
theorem against_any (B xb rb : Nat) (s : ByteArray) (p a b c : Nat) (w : World) (h : Sx w xb rb s p a b c) (hB : B ≤ rb) :
    Calls Tryz.prog 270 #[.pointer (some ⟨xb, 0, none⟩)] w fun e w' => ∃ (o : ByteArray) (v : Value), e = .returned (.tuple #[.string o, v]) ∧ Sx w' xb rb s (againstP s p).1 a b c ∧ Kp B [210] w w' ∧
      (((againstP s p).2 = some o ∧ v = .nilIface) ∨ ((againstP s p).2 = none ∧ Chain w' 2 (againstP s p).1 0 v)) := by
  have c0 := h.c0
  by_cases h34 : peekI s p = 34
  · have HE : Hid (againstP s p = if peekI s (untilP s (p + 1)) = 34 then (untilP s (p + 1) + 1, some (subB s (p + 1) (untilP s (p + 1)))) else (untilP s (p + 1), none)) := by unfold againstP; rw [if_pos h34]; rfl
    have H34 := hide h34
    clear h34
    go_enter Tryz.func270, Tryz.ntmps270
    go_wp2_with fail
    refine (take_yes B rb s p _ _ h.1 hB (by decide) H34.out).mono ?_
    rintro e w1 ⟨rfl, hr1, hk1⟩
    have h1 := h.step hr1 hk1
    have c1 := h1.c0
    go_wp2_with fail
    go_region_held3 (fun wx => wx.cell? ⟨xb, 0, none⟩ = some (.pointer (some ⟨rb, 0, none⟩))) (first | exact hS | simp [go_sem, *]) (first | (go_at_call 280; refine (until_any B rb s (p + 1) _ (hr1.drewN _) hB).mono ?_; rintro e w2 ⟨rfl, hr2, hk2⟩; have h2 := (h1.drewN _).step hr2 hk2; have hS := h2.c0) | (go_at_call 188; refine (expect_any B rb s ⟨#[34]⟩ (untilP s (p + 1)) _ h2.1 hB (by decide)).mono ?_; rintro e w3 ⟨v, rfl, hr3, hk3, hor⟩; have h3 := h2.step hr3 hk3; have hS := h3.c0))
    go_wp2
    go_ret2
    rw [HE.out]
    have hkk := (hk1.trans hk2.fromDrewN).trans hk3
    by_cases hq : peekI s (untilP s (p + 1)) = 34
    · have he : expP s [34] (untilP s (p + 1)) = (untilP s (p + 1) + 1, true) := exp1_yes (by decide) hq
      rw [he] at hor h3
      rw [if_pos hq]
      rcases hor with ⟨_, hv⟩ | ⟨ho, _⟩
      · exact ⟨_, _, rfl, h3, hkk, .inl ⟨rfl, hv⟩⟩
      · cases ho
    · have he : expP s [34] (untilP s (p + 1)) = (untilP s (p + 1), false) := exp1_no hq
      rw [he] at hor h3
      rw [if_neg hq]
      rcases hor with ⟨ho, _⟩ | ⟨_, hc⟩
      · cases ho
      · exact ⟨_, _, rfl, h3, hkk, .inr ⟨rfl, hc⟩⟩
  · have HE : Hid (againstP s p = wordP s p) := by unfold againstP; rw [if_neg h34]; rfl
    have H34 := hide h34
    clear h34
    go_enter Tryz.func270, Tryz.ntmps270
    go_wp2_with fail
    refine (take_no B rb s p _ _ h.1 (.inr H34.out)).mono ?_
    rintro e w1 ⟨rfl, hr1, hk1⟩
    have h1 := h.step hr1 hk1
    have c1 := h1.c0
    go_wp2_with fail
    refine (word_any B rb s p _ hr1 hB).mono ?_
    rintro e w2 ⟨n, v, rfl, hr2, hk2, hor⟩
    go_wp2
    go_ret2
    rw [HE.out]
    exact ⟨_, _, rfl, h1.step hr2 hk2, hk1.trans hk2, hor⟩
set_option maxHeartbeats 800000 in
theorem combinator_any (B xb rb : Nat) (s : ByteArray) (p a b c : Nat) (w : World) (h : Sx w xb rb s p a b c) (hB : B ≤ rb) :
    Calls Tryz.prog 174 #[.pointer (some ⟨xb, 0, none⟩)] w fun e w' => ∃ (x : Int) (m : Bool), e = .returned (.tuple #[.int .u8 x, .bool m]) ∧ Sx w' xb rb s (combP s p).1 a b c ∧ Kp B [210] w w' ∧
      (((combP s p).2 = some x ∧ m = true) ∨ ((combP s p).2 = none ∧ m = false)) := by
  have c0 := h.c0
  have hbd := peekI_bd s (spP s p)
  go_enter Tryz.func174, Tryz.ntmps174
  go_wp2_with fail
  refine (spaces_any B rb s p _ h.1 hB).mono ?_
  rintro e w1 ⟨rfl, hr1, hk1⟩
  have h1 := h.step hr1 hk1
  have c1 := h1.c0
  go_wp2_with fail
  refine (peek_any rb s (spP s p) _ hr1).mono ?_
  rintro e w2 ⟨rfl, n2, rfl⟩
  have h2 := h1.drewN n2
  have c2 := h2.c0
  have hk2 := hk1.drewN n2
  cases hc : combB (peekI s (spP s p))
  · cases hst : stopB (peekI s (spP s p))
    · have HE : Hid (combP s p = if p < spP s p then (spP s p, some 32) else (spP s p, none)) := by unfold combP; rw [hc, hst]; rfl
      have hne : peekI s (spP s p) ≠ 62 ∧ peekI s (spP s p) ≠ 43 ∧ peekI s (spP s p) ≠ 126 ∧ peekI s (spP s p) ≠ 44 ∧ peekI s (spP s p) ≠ 41 ∧ peekI s (spP s p) ≠ 0 := by
        unfold combB at hc; unfold stopB at hst
        simp only [Bool.or_eq_false_iff, beq_eq_false_iff_ne] at hc hst
        omega
      obtain ⟨n1, n2, n3, n4, n5, n6⟩ := hne
      clear hc hst
      go_wp2
      go_ret2
      rw [HE.out]
      by_cases hlt : p < spP s p
      · rw [if_pos hlt]
        exact ⟨_, _, rfl, h2, hk2, .inl ⟨rfl, decide_eq_true hlt⟩⟩
      · rw [if_neg hlt]
        exact ⟨_, _, rfl, h2, hk2, .inr ⟨rfl, decide_eq_false hlt⟩⟩
    · have HE : Hid (combP s p = (spP s p, none)) := by unfold combP; rw [hc, hst]; rfl
      unfold combB at hc
      unfold stopB at hst
      simp only [Bool.or_eq_false_iff, Bool.or_eq_true, beq_eq_false_iff_ne, beq_iff_eq] at hc hst
      obtain ⟨⟨n1, n2⟩, n3⟩ := hc
      rcases hst with (hs | hs) | hs
      all_goals
        rw [hs] at n1 n2 n3 ⊢
        go_wp2
        go_ret2
        rw [HE.out]
        exact ⟨_, _, rfl, h2, hk2, .inr ⟨rfl, rfl⟩⟩
  · have HE : Hid (combP s p = (spP s (spP s p + 1), some (peekI s (spP s p)))) := by unfold combP; rw [hc]; rfl
    have hlt : spP s p < s.size := peekI_lt (fun e => by rw [e] at hc; revert hc; decide)
    have hsk : skipP s (spP s p) = spP s p + 1 := by
      unfold skipP; rw [if_neg (fun e => by rw [e] at hc; revert hc; decide)]
    unfold combB at hc
    simp only [Bool.or_eq_true, beq_iff_eq] at hc
    have HSk := hide hsk
    clear hsk
    rcases hc with (hs | hs) | hs
    all_goals
      rw [hs] at HE ⊢
      go_wp2_with fail
      refine (skip_any B rb s (spP s p) _ h2.1 hB).mono ?_
      rintro e w3 ⟨rfl, hr3, hk3⟩
      rw [HSk.out] at hr3
      have h3 := h2.step hr3 hk3
      have c3 := h3.c0
      go_wp2_with fail
      refine (spaces_any B rb s (spP s p + 1) _ h3.1 hB).mono ?_
      rintro e w4 ⟨rfl, hr4, hk4⟩
      go_wp2
      go_ret2
      rw [HE.out]
      exact ⟨_, _, rfl, h3.step hr4 hk4, (hk2.trans hk3).trans hk4, .inl ⟨rfl, rfl⟩⟩
end Go.Proofs.YtclpcnignheijaaGreatDoor
