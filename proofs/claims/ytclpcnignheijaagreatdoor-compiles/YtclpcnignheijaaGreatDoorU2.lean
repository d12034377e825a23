import Derived.Test.YtclpcnignheijaaGreatDoorU1
namespace Go.Proofs.YtclpcnignheijaaGreatDoor
open Go.RowKit

theorem set11_other {w : World} {g R : Nat} {x : Obj} (hb : w.heap[g]? = some x) (hne : g ≠ R) (v0 v1 v2 v3 v4 v5 v6 v7 v8 v9 v10 : Value) : (((((((((((w.setCell ⟨R, 0, none⟩ v0).setCell ⟨R, 1, none⟩ v1).setCell ⟨R, 2, none⟩ v2).setCell ⟨R, 3, none⟩ v3).setCell ⟨R, 4, none⟩ v4).setCell ⟨R, 5, none⟩ v5).setCell ⟨R, 6, none⟩ v6).setCell ⟨R, 7, none⟩ v7).setCell ⟨R, 8, none⟩ v8).setCell ⟨R, 9, none⟩ v9).setCell ⟨R, 10, none⟩ v10).heap[g]? = some x :=
  (setCell_other (a := ⟨R, 10, none⟩) (setCell_other (a := ⟨R, 9, none⟩) (setCell_other (a := ⟨R, 8, none⟩) (setCell_other (a := ⟨R, 7, none⟩) (setCell_other (a := ⟨R, 6, none⟩) (setCell_other (a := ⟨R, 5, none⟩) (setCell_other (a := ⟨R, 4, none⟩) (setCell_other (a := ⟨R, 3, none⟩) (setCell_other (a := ⟨R, 2, none⟩) (setCell_other (a := ⟨R, 1, none⟩) (setCell_other (a := ⟨R, 0, none⟩) hb hne v0) hne v1) hne v2) hne v3) hne v4) hne v5) hne v6) hne v7) hne v8) hne v9) hne v10)
theorem RepL.shape {L : Lay} {P : Nat → Prop} {w : World} {n : Nat} {v : Value} {l : SLst} (h : RepL L P w n v l) : ∃ a m c, v = .slice a m c := by
  cases n with
  | zero => exact ⟨_, _, _, h.1⟩
  | succ n =>
    obtain ⟨xs, ⟨⟨_, h2⟩, _⟩, _⟩ := h
    rcases h2 with ⟨hv, _⟩ | ⟨g, cap, cur, hv, _⟩
    · exact ⟨_, _, _, hv⟩
    · exact ⟨_, _, _, hv⟩
set_option maxHeartbeats 4000000 in
theorem asked_word (B xb rb : Nat) (s : ByteArray) (n k q a b c : Nat) (w : World) (h : Sx w xb rb s q a b c) (hB : B ≤ rb) (hbc : b ≤ c) (hk : k = 0 ∨ k = 1) :
    Calls Tryz.prog 233 #[.pointer (some ⟨xb, 0, none⟩), .int .i64 k] w (AskPost B xb rb s n k q a b c w) := by
  have h0 := h.alloc (.cells #[.int .i64 0, .string ⟨#[]⟩, .string ⟨#[]⟩, .string ⟨#[]⟩, .string ⟨#[]⟩, .bool false, .string ⟨#[]⟩, .bool false, .int .i64 0, .int .i64 0, .slice none 0 0] 263)
  have rs0 := alloc_at w (.cells #[.int .i64 0, .string ⟨#[]⟩, .string ⟨#[]⟩, .string ⟨#[]⟩, .string ⟨#[]⟩, .bool false, .string ⟨#[]⟩, .bool false, .int .i64 0, .int .i64 0, .slice none 0 0] 263)
  have hk0 := (Kp.refl B [210] w).alloc (.cells #[.int .i64 0, .string ⟨#[]⟩, .string ⟨#[]⟩, .string ⟨#[]⟩, .string ⟨#[]⟩, .bool false, .string ⟨#[]⟩, .bool false, .int .i64 0, .int .i64 0, .slice none 0 0] 263)
  have h1 := h0.alloc (.cells #[.int .i64 k, .string ⟨#[]⟩, .string ⟨#[]⟩, .string ⟨#[]⟩, .string ⟨#[]⟩, .bool false, .string ⟨#[]⟩, .bool false, .int .i64 0, .int .i64 0, .slice none 0 0] 263)
  have rs1 := alloc_old rs0 (.cells #[.int .i64 k, .string ⟨#[]⟩, .string ⟨#[]⟩, .string ⟨#[]⟩, .string ⟨#[]⟩, .bool false, .string ⟨#[]⟩, .bool false, .int .i64 0, .int .i64 0, .slice none 0 0] 263)
  have ns1 := alloc_at' (w := w.alloc (.cells #[.int .i64 0, .string ⟨#[]⟩, .string ⟨#[]⟩, .string ⟨#[]⟩, .string ⟨#[]⟩, .bool false, .string ⟨#[]⟩, .bool false, .int .i64 0, .int .i64 0, .slice none 0 0] 263)) (n := w.heap.size + 1) (.cells #[.int .i64 k, .string ⟨#[]⟩, .string ⟨#[]⟩, .string ⟨#[]⟩, .string ⟨#[]⟩, .bool false, .string ⟨#[]⟩, .bool false, .int .i64 0, .int .i64 0, .slice none 0 0] 263) (by simp)
  have hk1 := hk0.alloc (.cells #[.int .i64 k, .string ⟨#[]⟩, .string ⟨#[]⟩, .string ⟨#[]⟩, .string ⟨#[]⟩, .bool false, .string ⟨#[]⟩, .bool false, .int .i64 0, .int .i64 0, .slice none 0 0] 263)
  have c1 := h1.c0
  have HE : Hid (askedP (listP s n) s k q = ((wordP s q).1, (wordP s q).2.map fun x => (.mk k x noAttr noNth [], 0, 0))) := by unfold askedP; rw [if_pos (by omega)]; rfl
  unfold AskPost
  have hkk : (((k : Int) == 0) = true ∧ ((k : Int) == 1) = false) ∨ (((k : Int) == 0) = false ∧ ((k : Int) == 1) = true) := by
    rcases hk with rfl | rfl <;> decide
  clear hk
  rcases hkk with ⟨e0, e1⟩ | ⟨e0, e1⟩
  all_goals
    go_enter Tryz.func233, Tryz.ntmps233
    go_wp2_with fail
    refine (word_any B rb s q _ h1.1 hB).mono ?_
    rintro e w2 ⟨x, v, rfl, hr2, hk2, hor⟩
    have h2 := h1.step hr2 hk2
    have rs2 := hk2.at (k := w.heap.size) rs1 (by decide)
    have ns2 := hk2.at (k := w.heap.size + 1) ns1 (by decide)
    have hk3 := hk1.trans hk2
    obtain ⟨⟨q0, q1, q2, q3, q4, q5, q6, q7, q8, q9, q10⟩, f0, f1, f2, f3, f4, f5, f6, f7, f8, f9, f10⟩ := cells11 rs2
    obtain ⟨⟨m0, m1, m2, m3, m4, m5, m6, m7, m8, m9, m10⟩, g0, g1, g2, g3, g4, g5, g6, g7, g8, g9, g10⟩ := cells11 ns2
    have kpo := Kp.setAny (p := ⟨w.heap.size + 1, 1, none⟩) ns2 (.string x)
    have rs3 := setCell_other (a := ⟨w.heap.size + 1, 1, none⟩) rs2 (by simp) (.string x)
    have hk4 := hk3.setNew (p := ⟨w.heap.size + 1, 1, none⟩) (by simp) (.string x)
    go_wp2
    obtain ⟨rsF, kpF⟩ := fin11 rs3 (.int .i64 k) (.string x) (.string ⟨#[]⟩) (.string ⟨#[]⟩) (.string ⟨#[]⟩) (.bool false) (.string ⟨#[]⟩) (.bool false) (.int .i64 0) (.int .i64 0) (.slice none 0 0)
    have hkF := hk4.set11 (Nat.le_refl _) (.int .i64 k) (.string x) (.string ⟨#[]⟩) (.string ⟨#[]⟩) (.string ⟨#[]⟩) (.bool false) (.string ⟨#[]⟩) (.bool false) (.int .i64 0) (.int .i64 0) (.slice none 0 0)
    refine bodyPost_ret (v := .tuple #[simV k x noAttr noNth (.slice none 0 0), v]) (by simp [results, Tryz.results233, go_sem, q0, q1, q2, q3, q4, q5, q6, q7, q8, q9, q10, simV, noAttr, noNth, noB]) rfl ?_
    rw [HE.out]
    have hF := (h2.kept kpo (by decide) (by decide)).kept kpF (by decide) (by decide)
    refine ⟨x, noAttr, noNth, .slice none 0 0, v, rfl, hkF.ts, ⟨_, _, _, rfl⟩, ?_⟩
    rcases hor with ⟨ho, hv⟩ | ⟨ho, hc⟩
    · exact .inl ⟨.mk k x noAttr noNth [], 0, 0, by rw [ho]; rfl, hv, by rw [show max c (b + 0) = c from by omega]; exact hF, _, rfl, RepL.nil _ _ _ _⟩
    · exact .inr ⟨by rw [ho]; rfl, ⟨_, _, _, _, hF⟩, 0, (hc.kept kpo (by decide) (by decide)).kept kpF (by decide) (by decide)⟩
set_option maxHeartbeats 4000000 in
theorem asked_attr (B xb rb : Nat) (s : ByteArray) (n k q a b c : Nat) (w : World) (h : Sx w xb rb s q a b c) (hB : B ≤ rb) (hbc : b ≤ c) (hk : k = 2) :
    Calls Tryz.prog 233 #[.pointer (some ⟨xb, 0, none⟩), .int .i64 k] w (AskPost B xb rb s n k q a b c w) := by
  have h0 := h.alloc (.cells #[.int .i64 0, .string ⟨#[]⟩, .string ⟨#[]⟩, .string ⟨#[]⟩, .string ⟨#[]⟩, .bool false, .string ⟨#[]⟩, .bool false, .int .i64 0, .int .i64 0, .slice none 0 0] 263)
  have rs0 := alloc_at w (.cells #[.int .i64 0, .string ⟨#[]⟩, .string ⟨#[]⟩, .string ⟨#[]⟩, .string ⟨#[]⟩, .bool false, .string ⟨#[]⟩, .bool false, .int .i64 0, .int .i64 0, .slice none 0 0] 263)
  have hk0 := (Kp.refl B [210] w).alloc (.cells #[.int .i64 0, .string ⟨#[]⟩, .string ⟨#[]⟩, .string ⟨#[]⟩, .string ⟨#[]⟩, .bool false, .string ⟨#[]⟩, .bool false, .int .i64 0, .int .i64 0, .slice none 0 0] 263)
  have h1 := h0.alloc (.cells #[.int .i64 k, .string ⟨#[]⟩, .string ⟨#[]⟩, .string ⟨#[]⟩, .string ⟨#[]⟩, .bool false, .string ⟨#[]⟩, .bool false, .int .i64 0, .int .i64 0, .slice none 0 0] 263)
  have rs1 := alloc_old rs0 (.cells #[.int .i64 k, .string ⟨#[]⟩, .string ⟨#[]⟩, .string ⟨#[]⟩, .string ⟨#[]⟩, .bool false, .string ⟨#[]⟩, .bool false, .int .i64 0, .int .i64 0, .slice none 0 0] 263)
  have ns1 := alloc_at' (w := w.alloc (.cells #[.int .i64 0, .string ⟨#[]⟩, .string ⟨#[]⟩, .string ⟨#[]⟩, .string ⟨#[]⟩, .bool false, .string ⟨#[]⟩, .bool false, .int .i64 0, .int .i64 0, .slice none 0 0] 263)) (n := w.heap.size + 1) (.cells #[.int .i64 k, .string ⟨#[]⟩, .string ⟨#[]⟩, .string ⟨#[]⟩, .string ⟨#[]⟩, .bool false, .string ⟨#[]⟩, .bool false, .int .i64 0, .int .i64 0, .slice none 0 0] 263) (by simp)
  have hk1 := hk0.alloc (.cells #[.int .i64 k, .string ⟨#[]⟩, .string ⟨#[]⟩, .string ⟨#[]⟩, .string ⟨#[]⟩, .bool false, .string ⟨#[]⟩, .bool false, .int .i64 0, .int .i64 0, .slice none 0 0] 263)
  have c1 := h1.c0
  have HE : Hid (askedP (listP s n) s k q = ((attrQP s q).1, (attrQP s q).2.map fun x => (.mk k noB x noNth [], 0, 0))) := by
    subst hk; rfl
  unfold AskPost
  have e0 : ((k : Int) == 0) = false := by subst hk; decide
  have e1 : ((k : Int) == 1) = false := by subst hk; decide
  have e2 : ((k : Int) == 2) = true := by subst hk; decide
  clear hk
  first
  | skip
    go_enter Tryz.func233, Tryz.ntmps233
    go_wp2_with fail
    refine (sattribute_any B xb rb s q a b c _ h1 hB).mono ?_
    rintro e w2 ⟨y, v, qq, rfl, h2, hk2, hor⟩
    unfold attrV
    have rs2 := hk2.at (k := w.heap.size) rs1 (by decide)
    have ns2 := hk2.at (k := w.heap.size + 1) ns1 (by decide)
    have hk3 := hk1.trans hk2
    obtain ⟨⟨q0, q1, q2, q3, q4, q5, q6, q7, q8, q9, q10⟩, f0, f1, f2, f3, f4, f5, f6, f7, f8, f9, f10⟩ := cells11 rs2
    obtain ⟨⟨m0, m1, m2, m3, m4, m5, m6, m7, m8, m9, m10⟩, g0, g1, g2, g3, g4, g5, g6, g7, g8, g9, g10⟩ := cells11 ns2
    have na0 := set_blk (o := 2) ns2 (.string y.name)
    have ka0 := (Kp.refl 0 [263] w2).setCell (p := ⟨w.heap.size + 1, 2, none⟩) ns2 (by simp) (Nat.zero_le _) (.string y.name)
    have ra0 := setCell_other (a := ⟨w.heap.size + 1, 2, none⟩) rs2 (by simp) (.string y.name)
    have ha0 := hk3.setNew (p := ⟨w.heap.size + 1, 2, none⟩) (by simp) (.string y.name)
    have na1 := set_blk (o := 3) na0 (.string y.op)
    have ka1 := ka0.setCell (p := ⟨w.heap.size + 1, 3, none⟩) na0 (by simp) (Nat.zero_le _) (.string y.op)
    have ra1 := setCell_other (a := ⟨w.heap.size + 1, 3, none⟩) ra0 (by simp) (.string y.op)
    have ha1 := ha0.setNew (p := ⟨w.heap.size + 1, 3, none⟩) (by simp) (.string y.op)
    have na2 := set_blk (o := 4) na1 (.string y.val)
    have ka2 := ka1.setCell (p := ⟨w.heap.size + 1, 4, none⟩) na1 (by simp) (Nat.zero_le _) (.string y.val)
    have ra2 := setCell_other (a := ⟨w.heap.size + 1, 4, none⟩) ra1 (by simp) (.string y.val)
    have ha2 := ha1.setNew (p := ⟨w.heap.size + 1, 4, none⟩) (by simp) (.string y.val)
    have na3 := set_blk (o := 5) na2 (.bool y.any)
    have ka3 := ka2.setCell (p := ⟨w.heap.size + 1, 5, none⟩) na2 (by simp) (Nat.zero_le _) (.bool y.any)
    have ra3 := setCell_other (a := ⟨w.heap.size + 1, 5, none⟩) ra2 (by simp) (.bool y.any)
    have ha3 := ha2.setNew (p := ⟨w.heap.size + 1, 5, none⟩) (by simp) (.bool y.any)
    have kpo := ka3; have rs3 := ra3; have hk4 := ha3
    clear na0 na1 na2 na3 ka0 ka1 ka2 ka3 ra0 ra1 ra2 ra3 ha0 ha1 ha2 ha3
    go_wp2
    obtain ⟨rsF, kpF⟩ := fin11 rs3 (.int .i64 k) (.string ⟨#[]⟩) (.string y.name) (.string y.op) (.string y.val) (.bool y.any) (.string ⟨#[]⟩) (.bool false) (.int .i64 0) (.int .i64 0) (.slice none 0 0)
    have hkF := hk4.set11 (Nat.le_refl _) (.int .i64 k) (.string ⟨#[]⟩) (.string y.name) (.string y.op) (.string y.val) (.bool y.any) (.string ⟨#[]⟩) (.bool false) (.int .i64 0) (.int .i64 0) (.slice none 0 0)
    refine bodyPost_ret (v := .tuple #[simV k noB y noNth (.slice none 0 0), v]) (by simp [results, Tryz.results233, go_sem, q0, q1, q2, q3, q4, q5, q6, q7, q8, q9, q10, simV, noNth, noB]) rfl ?_
    rw [HE.out]
    have hF := (h2.kept kpo (by decide) (by decide)).kept kpF (by decide) (by decide)
    refine ⟨noB, y, noNth, .slice none 0 0, v, rfl, hkF.ts, ⟨_, _, _, rfl⟩, ?_⟩
    rcases hor with ⟨ho, hq, hv⟩ | ⟨ho, hc⟩
    · subst hq
      exact .inl ⟨.mk k noB y noNth [], 0, 0, by rw [ho]; rfl, hv, by rw [show max c (b + 0) = c from by omega]; exact hF, _, rfl, RepL.nil _ _ _ _⟩
    · obtain ⟨j, hc⟩ := hc
      exact .inr ⟨by rw [ho]; rfl, ⟨_, _, _, _, hF⟩, j, (hc.kept kpo (by decide) (by decide)).kept kpF (by decide) (by decide)⟩
set_option maxHeartbeats 4000000 in
theorem asked_nth (B xb rb : Nat) (s : ByteArray) (n k q a b c : Nat) (w : World) (h : Sx w xb rb s q a b c) (hB : B ≤ rb) (hbc : b ≤ c) (hk : k = 8) :
    Calls Tryz.prog 233 #[.pointer (some ⟨xb, 0, none⟩), .int .i64 k] w (AskPost B xb rb s n k q a b c w) := by
  have h0 := h.alloc (.cells #[.int .i64 0, .string ⟨#[]⟩, .string ⟨#[]⟩, .string ⟨#[]⟩, .string ⟨#[]⟩, .bool false, .string ⟨#[]⟩, .bool false, .int .i64 0, .int .i64 0, .slice none 0 0] 263)
  have rs0 := alloc_at w (.cells #[.int .i64 0, .string ⟨#[]⟩, .string ⟨#[]⟩, .string ⟨#[]⟩, .string ⟨#[]⟩, .bool false, .string ⟨#[]⟩, .bool false, .int .i64 0, .int .i64 0, .slice none 0 0] 263)
  have hk0 := (Kp.refl B [210] w).alloc (.cells #[.int .i64 0, .string ⟨#[]⟩, .string ⟨#[]⟩, .string ⟨#[]⟩, .string ⟨#[]⟩, .bool false, .string ⟨#[]⟩, .bool false, .int .i64 0, .int .i64 0, .slice none 0 0] 263)
  have h1 := h0.alloc (.cells #[.int .i64 k, .string ⟨#[]⟩, .string ⟨#[]⟩, .string ⟨#[]⟩, .string ⟨#[]⟩, .bool false, .string ⟨#[]⟩, .bool false, .int .i64 0, .int .i64 0, .slice none 0 0] 263)
  have rs1 := alloc_old rs0 (.cells #[.int .i64 k, .string ⟨#[]⟩, .string ⟨#[]⟩, .string ⟨#[]⟩, .string ⟨#[]⟩, .bool false, .string ⟨#[]⟩, .bool false, .int .i64 0, .int .i64 0, .slice none 0 0] 263)
  have ns1 := alloc_at' (w := w.alloc (.cells #[.int .i64 0, .string ⟨#[]⟩, .string ⟨#[]⟩, .string ⟨#[]⟩, .string ⟨#[]⟩, .bool false, .string ⟨#[]⟩, .bool false, .int .i64 0, .int .i64 0, .slice none 0 0] 263)) (n := w.heap.size + 1) (.cells #[.int .i64 k, .string ⟨#[]⟩, .string ⟨#[]⟩, .string ⟨#[]⟩, .string ⟨#[]⟩, .bool false, .string ⟨#[]⟩, .bool false, .int .i64 0, .int .i64 0, .slice none 0 0] 263) (by simp)
  have hk1 := hk0.alloc (.cells #[.int .i64 k, .string ⟨#[]⟩, .string ⟨#[]⟩, .string ⟨#[]⟩, .string ⟨#[]⟩, .bool false, .string ⟨#[]⟩, .bool false, .int .i64 0, .int .i64 0, .slice none 0 0] 263)
  have c1 := h1.c0
  have HE : Hid (askedP (listP s n) s k q = ((nthP s q).1, (nthP s q).2.map fun x => (.mk k noB noAttr x [], 0, 0))) := by
    subst hk; rfl
  unfold AskPost
  have e0 : ((k : Int) == 0) = false := by subst hk; decide
  have e1 : ((k : Int) == 1) = false := by subst hk; decide
  have e2 : ((k : Int) == 2) = false := by subst hk; decide
  have e8 : ((k : Int) == 8) = true := by subst hk; decide
  clear hk
  first
  | skip
    go_enter Tryz.func233, Tryz.ntmps233
    go_wp2_with fail
    refine (nth_any B xb rb s q a b c _ h1 hB).mono ?_
    rintro e w2 ⟨y, v, qq, rfl, h2, hk2, hor⟩
    unfold nthV
    have rs2 := hk2.at (k := w.heap.size) rs1 (by decide)
    have ns2 := hk2.at (k := w.heap.size + 1) ns1 (by decide)
    have hk3 := hk1.trans hk2
    obtain ⟨⟨q0, q1, q2, q3, q4, q5, q6, q7, q8, q9, q10⟩, f0, f1, f2, f3, f4, f5, f6, f7, f8, f9, f10⟩ := cells11 rs2
    obtain ⟨⟨m0, m1, m2, m3, m4, m5, m6, m7, m8, m9, m10⟩, g0, g1, g2, g3, g4, g5, g6, g7, g8, g9, g10⟩ := cells11 ns2
    have na0 := set_blk (o := 6) ns2 (.string y.word)
    have ka0 := (Kp.refl 0 [263] w2).setCell (p := ⟨w.heap.size + 1, 6, none⟩) ns2 (by simp) (Nat.zero_le _) (.string y.word)
    have ra0 := setCell_other (a := ⟨w.heap.size + 1, 6, none⟩) rs2 (by simp) (.string y.word)
    have ha0 := hk3.setNew (p := ⟨w.heap.size + 1, 6, none⟩) (by simp) (.string y.word)
    have na1 := set_blk (o := 7) na0 (.bool y.hasN)
    have ka1 := ka0.setCell (p := ⟨w.heap.size + 1, 7, none⟩) na0 (by simp) (Nat.zero_le _) (.bool y.hasN)
    have ra1 := setCell_other (a := ⟨w.heap.size + 1, 7, none⟩) ra0 (by simp) (.bool y.hasN)
    have ha1 := ha0.setNew (p := ⟨w.heap.size + 1, 7, none⟩) (by simp) (.bool y.hasN)
    have na2 := set_blk (o := 8) na1 (.int .i64 y.a)
    have ka2 := ka1.setCell (p := ⟨w.heap.size + 1, 8, none⟩) na1 (by simp) (Nat.zero_le _) (.int .i64 y.a)
    have ra2 := setCell_other (a := ⟨w.heap.size + 1, 8, none⟩) ra1 (by simp) (.int .i64 y.a)
    have ha2 := ha1.setNew (p := ⟨w.heap.size + 1, 8, none⟩) (by simp) (.int .i64 y.a)
    have na3 := set_blk (o := 9) na2 (.int .i64 y.b)
    have ka3 := ka2.setCell (p := ⟨w.heap.size + 1, 9, none⟩) na2 (by simp) (Nat.zero_le _) (.int .i64 y.b)
    have ra3 := setCell_other (a := ⟨w.heap.size + 1, 9, none⟩) ra2 (by simp) (.int .i64 y.b)
    have ha3 := ha2.setNew (p := ⟨w.heap.size + 1, 9, none⟩) (by simp) (.int .i64 y.b)
    have kpo := ka3; have rs3 := ra3; have hk4 := ha3
    clear na0 na1 na2 na3 ka0 ka1 ka2 ka3 ra0 ra1 ra2 ra3 ha0 ha1 ha2 ha3
    go_wp2
    obtain ⟨rsF, kpF⟩ := fin11 rs3 (.int .i64 k) (.string ⟨#[]⟩) (.string ⟨#[]⟩) (.string ⟨#[]⟩) (.string ⟨#[]⟩) (.bool false) (.string y.word) (.bool y.hasN) (.int .i64 y.a) (.int .i64 y.b) (.slice none 0 0)
    have hkF := hk4.set11 (Nat.le_refl _) (.int .i64 k) (.string ⟨#[]⟩) (.string ⟨#[]⟩) (.string ⟨#[]⟩) (.string ⟨#[]⟩) (.bool false) (.string y.word) (.bool y.hasN) (.int .i64 y.a) (.int .i64 y.b) (.slice none 0 0)
    refine bodyPost_ret (v := .tuple #[simV k noB noAttr y (.slice none 0 0), v]) (by simp [results, Tryz.results233, go_sem, q0, q1, q2, q3, q4, q5, q6, q7, q8, q9, q10, simV, noAttr, noB]) rfl ?_
    rw [HE.out]
    have hF := (h2.kept kpo (by decide) (by decide)).kept kpF (by decide) (by decide)
    refine ⟨noB, noAttr, y, .slice none 0 0, v, rfl, hkF.ts, ⟨_, _, _, rfl⟩, ?_⟩
    rcases hor with ⟨ho, hq, hv⟩ | ⟨ho, hc⟩
    · subst hq
      exact .inl ⟨.mk k noB noAttr y [], 0, 0, by rw [ho]; rfl, hv, by rw [show max c (b + 0) = c from by omega]; exact hF, _, rfl, RepL.nil _ _ _ _⟩
    · exact .inr ⟨by rw [ho]; rfl, ⟨_, _, _, _, hF⟩, 0, (hc.kept kpo (by decide) (by decide)).kept kpF (by decide) (by decide)⟩
end Go.Proofs.YtclpcnignheijaaGreatDoor
