import Derived.Test.YtclpcnignheijaaGreatDoorS4
namespace Go.Proofs.YtclpcnignheijaaGreatDoor
open Go.RowKit

/-- A reader of selectors at block xb, over the reader at rb: its place, how many simples, how many lists are open, the most that were. -/
def Sx (w : World) (xb rb : Nat) (s : ByteArray) (p a b c : Nat) : Prop :=
  Rd w rb s p ∧ ∃ k : Int, w.heap[xb]? = some (.cells #[.pointer (some ⟨rb, 0, none⟩), .int .i64 k, .int .i64 a, .int .i64 b, .int .i64 c] 179 (0, 0))
section
variable {w w' : World} {xb rb : Nat} {s : ByteArray} {p q a b c B : Nat}
theorem Sx.step (h : Sx w xb rb s p a b c) (hr : Rd w' rb s q) (k : Kp B [210] w w') : Sx w' xb rb s q a b c := ⟨hr, h.2.imp fun _ hh => k.at hh (by decide)⟩
theorem Sx.c0 (h : Sx w xb rb s p a b c) : w.cell? ⟨xb, 0, none⟩ = some (.pointer (some ⟨rb, 0, none⟩)) := by obtain ⟨_, k, hk⟩ := h; simp [World.cell?, hk]
theorem Sx.c1 (h : Sx w xb rb s p a b c) : w.cell? ⟨xb, 2, none⟩ = some (.int .i64 a) := by obtain ⟨_, k, hk⟩ := h; simp [World.cell?, hk]
theorem Sx.c2 (h : Sx w xb rb s p a b c) : w.cell? ⟨xb, 3, none⟩ = some (.int .i64 b) := by obtain ⟨_, k, hk⟩ := h; simp [World.cell?, hk]
theorem Sx.c3 (h : Sx w xb rb s p a b c) : w.cell? ⟨xb, 4, none⟩ = some (.int .i64 c) := by obtain ⟨_, k, hk⟩ := h; simp [World.cell?, hk]
theorem Sx.drewN (h : Sx w xb rb s p a b c) (n : Nat) : Sx (w.drewN n) xb rb s p a b c := ⟨h.1.drewN n, h.2⟩
theorem Sx.alloc (h : Sx w xb rb s p a b c) (o : Obj) : Sx (w.alloc o) xb rb s p a b c := ⟨h.1.alloc o, h.2.imp fun _ hh => alloc_old hh o⟩
end

set_option maxHeartbeats 400000 in
theorem sign_any (B xb rb : Nat) (s : ByteArray) (p a b c : Nat) (w : World) (h : Sx w xb rb s p a b c) (hB : B ≤ rb) :
    Calls Tryz.prog 281 #[.pointer (some ⟨xb, 0, none⟩)] w fun e w' => e = .returned (.tuple #[.int .i64 (signP s p).2.1, .bool (signP s p).2.2]) ∧ Sx w' xb rb s (signP s p).1 a b c ∧ Kp B [210] w w' := by
  have c0 := h.c0
  by_cases h1 : peekI s p = 45
  · have HE : Hid (signP s p = (p + 1, -1, true)) := by unfold signP; rw [if_pos h1]; rfl
    have H1 := hide h1
    clear h1
    go_enter Tryz.func281, Tryz.ntmps281
    go_wp2_with (go_at_call 129; refine (take_yes B rb s p _ _ h.1 hB (by decide) H1.out).mono ?_; rintro e w1 ⟨rfl, hr1, hk1⟩)
    go_ret2
    rw [HE.out]
    exact ⟨rfl, h.step hr1 hk1, hk1⟩
  · have H1 := hide h1
    by_cases h2 : peekI s p = 43
    · have HE : Hid (signP s p = (p + 1, 1, true)) := by unfold signP; rw [if_neg h1, if_pos h2]; rfl
      have H2 := hide h2
      clear h1 h2
      go_enter Tryz.func281, Tryz.ntmps281
      go_wp2_with fail
      refine (take_no B rb s p _ _ h.1 (.inr H1.out)).mono ?_
      rintro e w1 ⟨rfl, hr1, hk1⟩
      have h' := h.step hr1 hk1
      have c1 := h'.c0
      go_wp2_with (go_at_call 129; refine (take_yes B rb s p _ _ hr1 hB (by decide) H2.out).mono ?_; rintro e w2 ⟨rfl, hr2, hk2⟩)
      go_ret2
      rw [HE.out]
      exact ⟨rfl, h'.step hr2 hk2, hk1.trans hk2⟩
    · have HE : Hid (signP s p = (p, 1, false)) := by unfold signP; rw [if_neg h1, if_neg h2]; rfl
      have H2 := hide h2
      clear h1 h2
      go_enter Tryz.func281, Tryz.ntmps281
      go_wp2_with fail
      refine (take_no B rb s p _ _ h.1 (.inr H1.out)).mono ?_
      rintro e w1 ⟨rfl, hr1, hk1⟩
      have h' := h.step hr1 hk1
      have c1 := h'.c0
      go_wp2_with (go_at_call 129; refine (take_no B rb s p _ _ hr1 (.inr H2.out)).mono ?_; rintro e w2 ⟨rfl, hr2, hk2⟩)
      go_ret2
      rw [HE.out]
      exact ⟨rfl, h'.step hr2 hk2, hk1.trans hk2⟩
set_option maxHeartbeats 400000 in
theorem count_any (B xb rb : Nat) (s : ByteArray) (p a b c : Nat) (w : World) (h : Sx w xb rb s p a b c) (hB : B ≤ rb) :
    Calls Tryz.prog 282 #[.pointer (some ⟨xb, 0, none⟩)] w fun e w' => e = .returned (.tuple #[.int .i64 (countP s p).2.1, .bool (countP s p).2.2]) ∧ Sx w' xb rb s (countP s p).1 a b c ∧ Kp B [210] w w' := by
  have c0 := h.c0
  cases h1 : digitB (peekI s p)
  · have HE : Hid (countP s p = (p, 0, false)) := by unfold countP; rw [h1, if_neg (by simp)]; rfl
    have H1 := hide h1
    clear h1
    go_enter Tryz.func282, Tryz.ntmps282
    go_wp2_with fail
    refine (digit_no B rb s p _ h.1 H1.out).mono ?_
    rintro e w1 ⟨rfl, hr1, hk1⟩
    have h' := h.step hr1 hk1
    have c1 := h'.c0
    go_wp2_with (go_at_call 288; refine (digit_no B rb s p _ hr1 H1.out).mono ?_; rintro e w2 ⟨rfl, hr2, hk2⟩)
    go_ret2
    rw [HE.out]
    exact ⟨rfl, h'.step hr2 hk2, hk1.trans hk2⟩
  · have hb1 := digitB_bd h1
    cases h2 : digitB (peekI s (p + 1))
    · have HE : Hid (countP s p = (p + 1, peekI s p - 48, true)) := by unfold countP; rw [h1, h2, if_pos rfl, if_neg (by simp)]; rfl
      have H1 := hide h1; have H2 := hide h2
      clear h1 h2
      go_enter Tryz.func282, Tryz.ntmps282
      go_wp2_with fail
      refine (digit_yes B rb s p _ h.1 hB H1.out).mono ?_
      rintro e w1 ⟨rfl, hr1, hk1⟩
      have h' := h.step hr1 hk1
      have c1 := h'.c0
      go_wp2_with (go_at_call 288; refine (digit_no B rb s (p + 1) _ hr1 H2.out).mono ?_; rintro e w2 ⟨rfl, hr2, hk2⟩)
      go_ret2
      rw [HE.out]
      exact ⟨rfl, h'.step hr2 hk2, hk1.trans hk2⟩
    · have hb2 := digitB_bd h2
      have HE : Hid (countP s p = (p + 2, 10 * (peekI s p - 48) + (peekI s (p + 1) - 48), true)) := by unfold countP; rw [h1, h2, if_pos rfl, if_pos rfl]; rfl
      have H1 := hide h1; have H2 := hide h2
      clear h1 h2
      go_enter Tryz.func282, Tryz.ntmps282
      go_wp2_with fail
      refine (digit_yes B rb s p _ h.1 hB H1.out).mono ?_
      rintro e w1 ⟨rfl, hr1, hk1⟩
      have h' := h.step hr1 hk1
      have c1 := h'.c0
      go_wp2_with (go_at_call 288; refine (digit_yes B rb s (p + 1) _ hr1 hB H2.out).mono ?_; rintro e w2 ⟨rfl, hr2, hk2⟩)
      go_ret2
      rw [HE.out]
      exact ⟨rfl, h'.step hr2 hk2, hk1.trans hk2⟩
theorem countP_bd (s : ByteArray) (p : Nat) : 0 ≤ (countP s p).2.1 ∧ (countP s p).2.1 ≤ 99 := by
  unfold countP
  split
  · rename_i h1
    have := digitB_bd h1
    split
    · rename_i h2
      have := digitB_bd h2
      dsimp only; omega
    · dsimp only; omega
  · exact ⟨Int.le_refl _, (by decide : (0 : Int) ≤ 99)⟩
theorem signP_val (s : ByteArray) (p : Nat) : (signP s p).2.1 = 1 ∨ (signP s p).2.1 = -1 := by
  unfold signP
  split
  · exact .inr rfl
  · split <;> exact .inl rfl
set_option maxHeartbeats 800000 in
theorem behindN_any (B xb rb : Nat) (s : ByteArray) (p a b c : Nat) (w : World) (h : Sx w xb rb s p a b c) (hB : B ≤ rb) :
    Calls Tryz.prog 283 #[.pointer (some ⟨xb, 0, none⟩)] w fun e w' => ∃ (i : Int) (v : Value), e = .returned (.tuple #[.int .i64 i, v]) ∧ Sx w' xb rb s (behindP s p).1 a b c ∧ Kp B [210] w w' ∧
      (((behindP s p).2 = some i ∧ v = .nilIface) ∨ ((behindP s p).2 = none ∧ Chain w' 2 (behindP s p).1 0 v)) := by
  have c0 := h.c0
  go_enter Tryz.func283, Tryz.ntmps283
  go_wp2_with fail
  refine (spaces_any B rb s p _ h.1 hB).mono ?_
  rintro e w1 ⟨rfl, hr1, hk1⟩
  have h1 := h.step hr1 hk1
  have c1 := h1.c0
  go_wp2_with fail
  refine (sign_any B xb rb s (spP s p) a b c _ h1 hB).mono ?_
  rintro e w2 ⟨rfl, h2, hk2⟩
  have c2 := h2.c0
  have hsv := signP_val s (spP s p)
  generalize hsg : signP s (spP s p) = r at *
  obtain ⟨q2, sg, sd⟩ := r
  dsimp only at *
  cases sd
  · have HE : Hid (behindP s p = (q2, some 0)) := by unfold behindP; rw [hsg]; rfl
    clear hsg
    go_wp2
    go_ret2
    rw [HE.out]
    exact ⟨_, _, rfl, h2, hk1.trans hk2, .inl ⟨rfl, rfl⟩⟩
  · go_wp2_with fail
    refine (spaces_any B rb s q2 _ h2.1 hB).mono ?_
    rintro e w3 ⟨rfl, hr3, hk3⟩
    have h3 := h2.step hr3 hk3
    have c3 := h3.c0
    go_wp2_with fail
    refine (count_any B xb rb s (spP s q2) a b c _ h3 hB).mono ?_
    rintro e w4 ⟨rfl, h4, hk4⟩
    have c4 := h4.c0
    have hbd := countP_bd s (spP s q2)
    generalize hcn : countP s (spP s q2) = r at *
    obtain ⟨q4, cn, cd⟩ := r
    dsimp only at *
    cases cd
    · have HE : Hid (behindP s p = (q4, none)) := by unfold behindP; rw [hsg]; dsimp only; rw [hcn]; rfl
      clear hsg hcn
      go_wp2_with (go_at_call 95; refine (fail_any B rb s q4 _ h4.1).mono ?_; rintro e w5 ⟨v, rfl, hc, hr5, hk5⟩)
      go_ret2
      rw [HE.out]
      exact ⟨_, _, rfl, h4.step hr5 hk5, (((hk1.trans hk2).trans hk3).trans hk4).trans hk5, .inr ⟨rfl, hc⟩⟩
    · have HE : Hid (behindP s p = (q4, some (sg * cn))) := by unfold behindP; rw [hsg]; dsimp only; rw [hcn]; rfl
      have hm : -99 ≤ sg * cn ∧ sg * cn ≤ 99 := by rcases hsv with e | e <;> rw [e] <;> omega
      clear hsg hcn hsv
      go_wp2
      go_ret2
      rw [HE.out]
      exact ⟨_, _, rfl, h4, ((hk1.trans hk2).trans hk3).trans hk4, .inl ⟨rfl, rfl⟩⟩

end Go.Proofs.YtclpcnignheijaaGreatDoor
