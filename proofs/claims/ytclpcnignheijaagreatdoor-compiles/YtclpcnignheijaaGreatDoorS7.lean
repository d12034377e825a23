import Derived.Test.YtclpcnignheijaaGreatDoorS6
import Derived.Test.YtclpcnignheijaaGreatDoorB1
namespace Go.Proofs.YtclpcnignheijaaGreatDoor
open Go.RowKit

set_option maxHeartbeats 800000 in
theorem nth_any (B xb rb : Nat) (s : ByteArray) (p a b c : Nat) (w : World) (h : Sx w xb rb s p a b c) (hB : B ≤ rb) :
    Calls Tryz.prog 256 #[.pointer (some ⟨xb, 0, none⟩)] w fun e w' => ∃ (y : NthQ) (v : Value) (q : Nat), e = .returned (.tuple #[nthV y, v]) ∧ Sx w' xb rb s q a b c ∧ Kp B [210] w w' ∧
      (((nthP s p).2 = some y ∧ q = (nthP s p).1 ∧ v = .nilIface) ∨ ((nthP s p).2 = none ∧ Chain w' 2 (nthP s p).1 0 v)) := by
  have h0 := h.alloc (.cells #[.string ⟨#[]⟩, .bool false, .int .i64 0, .int .i64 0] 261)
  have c0 := h0.c0
  go_enter Tryz.func256, Tryz.ntmps256
  have rs0 := alloc_at w (.cells #[.string ⟨#[]⟩, .bool false, .int .i64 0, .int .i64 0] 261)
  have hk0 := (Kp.refl B [210] w).alloc (.cells #[.string ⟨#[]⟩, .bool false, .int .i64 0, .int .i64 0] 261)
  go_wp2_with fail
  refine (spaces_any B rb s p _ h0.1 hB).mono ?_
  rintro e w1 ⟨rfl, hr1, hk1⟩
  have h1 := h0.step hr1 hk1
  have c1 := h1.c0
  have rs1 := hk1.at (k := w.heap.size) rs0 (by decide)
  go_wp2_with fail
  refine (numbers_any B xb rb s (spP s p) a b c _ h1 hB).mono ?_
  rintro e w2 ⟨y, v, rfl, h2, hk2, hor⟩
  have rs2 := hk2.at (k := w.heap.size) rs1 (by decide)
  have h3 := h2.alloc (.cells #[.string y.word, .bool y.hasN, .int .i64 y.a, .int .i64 y.b] 261)
  have c3 := h3.c0
  have ns3 := alloc_at w2 (.cells #[.string y.word, .bool y.hasN, .int .i64 y.a, .int .i64 y.b] 261)
  have rs3 := alloc_old rs2 (.cells #[.string y.word, .bool y.hasN, .int .i64 y.a, .int .i64 y.b] 261)
  have hk3 := ((hk0.trans hk1).trans hk2).alloc (.cells #[.string y.word, .bool y.hasN, .int .i64 y.a, .int .i64 y.b] 261)
  unfold nthV
  go_wp2_with fail
  refine (spaces_any B rb s _ _ h3.1 hB).mono ?_
  rintro e w4 ⟨rfl, hr4, hk4⟩
  have h4 := h3.step hr4 hk4
  have rs4 := hk4.at rs3 (by decide)
  have ns4 := hk4.at ns3 (by decide)
  obtain ⟨⟨q0, q1, q2, q3⟩, f0, f1, f2, f3⟩ := cells4 rs4
  obtain ⟨⟨m0, m1, m2, m3⟩, _⟩ := cells4 ns4
  go_wp2
  obtain ⟨rsF, kpF⟩ := fin4 rs4 (.string y.word) (.bool y.hasN) (.int .i64 y.a) (.int .i64 y.b)
  refine bodyPost_ret (v := .tuple #[.agg #[.string y.word, .bool y.hasN, .int .i64 y.a, .int .i64 y.b], v]) (by simp [results, Tryz.results256, go_sem, q0, q1, q2, q3]) rfl ?_
  refine ⟨y, v, _, rfl, h4.kept kpF (by decide) (by decide), (hk3.trans hk4).set4 (Nat.le_refl _) _ _ _ _, ?_⟩
  unfold nthP
  generalize numbersP s (spP s p) = r at hor hr4
  obtain ⟨q, o⟩ := r
  rcases hor with ⟨ho, rfl⟩ | ⟨ho, hc⟩
  · dsimp only at ho
    subst ho
    exact .inl ⟨rfl, rfl, rfl⟩
  · dsimp only at ho
    subst ho
    exact .inr ⟨rfl, (hc.alloc _).kept hk4 (by decide) (by decide) |>.kept kpF (by decide) (by decide)⟩
theorem sname_any (B rb : Nat) (s : ByteArray) (p : Nat) (w : World) (h : Rd w rb s p) (hB : B ≤ rb) :
    Calls Tryz.prog 192 #[.pointer (some ⟨rb, 0, none⟩)] w fun e w' => ∃ n v, e = .returned (.tuple #[.string n, v]) ∧ Rd w' rb s (newP s p noneTaken).1 ∧ Kp B [210] w w' ∧
      ((some n = (newP s p noneTaken).2 ∧ v = .nilIface) ∨ ((newP s p noneTaken).2 = none ∧ Chain w' 2 (newP s p noneTaken).1 0 v)) := by
  go_enter Tryz.func192, Tryz.ntmps192
  go_wp2_with fail
  refine (newName_no B rb s p _ h hB).mono ?_
  rintro e w1 ⟨n, v, rfl, hr1, hk1, hor⟩
  go_wp2
  go_ret2
  exact ⟨_, _, rfl, hr1, hk1, hor⟩
theorem atB_in (x : Int) : inB [35, 46, 91, 58] x = atB x := by
  unfold inB atB
  simp only [List.any_cons, List.any_nil, Bool.or_false]
  rw [Bool.eq_iff_iff]
  simp only [Bool.or_eq_true, beq_iff_eq]
  show ((35 : Int) = x ∨ (46 : Int) = x ∨ (91 : Int) = x ∨ (58 : Int) = x) ↔ (((x = 35 ∨ x = 46) ∨ x = 91) ∨ x = 58)
  omega
set_option maxHeartbeats 400000 in
theorem atSimple_is (xb rb : Nat) (s : ByteArray) (p a b c : Nat) (w : World) (v : Bool) (h : Sx w xb rb s p a b c) (hv : atB (peekI s p) = v) :
    Calls Tryz.prog 209 #[.pointer (some ⟨xb, 0, none⟩)] w fun e w' => e = .returned (.bool v) ∧ ∃ n, w' = w.drewN n := by
  have c0 := h.c0
  have hbd := peekI_bd s p
  cases v
  · have HV := hide hv
    clear hv
    go_enter Tryz.func209, Tryz.ntmps209
    go_wp2_with (first | (go_at_call 144; refine (peek_any rb s p _ h.1).mono ?_; rintro e w' ⟨rfl, nq, rfl⟩) | (go_at_call 218; refine (indexByte_no _ _ _ hbd.1 hbd.2 ((atB_in _).trans HV.out)).mono ?_; rintro e w' ⟨i, rfl, hi, rfl⟩))
    go_ret
    exact ⟨ret_bool (by simp; omega), nq, rfl⟩
  · have HV := hide hv
    clear hv
    go_enter Tryz.func209, Tryz.ntmps209
    go_wp2_with (first | (go_at_call 144; refine (peek_any rb s p _ h.1).mono ?_; rintro e w' ⟨rfl, nq, rfl⟩) | (go_at_call 218; refine (indexByte_yes _ _ _ hbd.1 hbd.2 ((atB_in _).trans HV.out)).mono ?_; rintro e w' ⟨i, rfl, hi, rfl⟩))
    go_ret
    exact ⟨ret_bool (by simp), nq, rfl⟩
end Go.Proofs.YtclpcnignheijaaGreatDoor
