import Derived.Test.YtclpcnignheijaaGreatDoorS1
namespace Go.Proofs.YtclpcnignheijaaGreatDoor
open Go.RowKit

theorem Tryz.infoU8 : (Tryz.prog.info? 5).map (fun i => (i.zero, i.size, i.bytes)) = some (some (.int .u8 0), 1, 1) := by kernel_rfl
set_option maxRecDepth 100000 in
set_option maxHeartbeats 1000000 in
theorem slClone_any (s : ByteArray) (w : World) (hs : s.size ≤ 100000) :
    Calls Tryz.prog 279 #[.string s] w fun e w' => e = .returned (.string s) ∧ Below w.heap.size w w' := by
  by_cases h0 : s.size = 0
  · obtain rfl := eq_empty h0
    go_enter Tryz.func279, Tryz.ntmps279
    go_wp2
    go_ret
    exact ⟨rfl, Below.refl _ _⟩
  · obtain ⟨i0, hi, hz0, hz1, hz2⟩ := info_parts Tryz.infoU8
    have hinfo : (Tryz.prog.info? 5).map (·.size) = some 1 := by rw [hi]; simp [hz1]
    have hco : Tryz.prog.cellsOf 5 = 1 := by simp [Program.cellsOf, hi, hz1]
    obtain ⟨M, hM⟩ : ∃ M, M = madeCells (Value.int .u8 0).cells (((s.size : Nat) : Int).toNat * i0.size) := ⟨_, rfl⟩
    have hMs : M.size = s.size := by rw [hM, size_madeCells, hz1]; simp
    have hmk : ∀ W : World, (Instr.makeSlice 50 (.int .i64 (s.size : Int)) (.int .i64 (s.size : Int))).run Tryz.prog W = .ok (.slice (some ⟨W.heap.size, 0, none⟩) s.size s.size) (W.alloc (.cells M 5)) := fun W => by
      have h := run_make (P := Tryz.prog) W 50 5 i0 (.int .u8 0) Tryz.underlying50 hi hz0 .i64 .i64 (s.size : Int) (s.size : Int) (by omega) (by omega) (by rw [hz2]; omega) (by omega)
      rw [← hM] at h
      simpa using h
    clear hM
    have hnew := alloc_at w (.cells M 5)
    have hcp := Lib.run_copy_row_string (P := Tryz.prog) (w.alloc (.cells M 5)) 50 9 3 5 w.heap.size 0 s.size s.size s M 5 Tryz.underlying50 hinfo hnew (Nat.le_refl _) (by omega)
    obtain ⟨Y, hY⟩ : ∃ Y, Y = (M.toList.take 0 ++ Lib.byteCells s.data.toList ++ M.toList.drop (0 + s.size)).toArray := ⟨_, rfl⟩
    rw [← hY] at hcp
    have hYl : Y.toList = Lib.byteCells s.data.toList := by
      rw [hY, List.toList_toArray, List.take_zero, List.nil_append, List.drop_of_length_le (by rw [Array.length_toList]; omega), List.append_nil]
    have hYs : Y.size = s.size := by rw [← Array.length_toList, hYl, Lib.byteCells_length, ← Lib.size_eq]
    have hgY : ((w.alloc (.cells M 5)).setRow w.heap.size Y).heap[w.heap.size]? = some (.cells Y 5 (0, 0)) := setRow_heap _ _ M _ 5 (0, 0) hnew
    have hne : s.data.toList ≠ [] := fun e => h0 (by rw [Lib.size_eq, e]; rfl)
    have hUS := Lib.run_unsafeString_row (P := Tryz.prog) ((w.alloc (.cells M 5)).setRow w.heap.size Y) 201 3 9 5 Tryz.underlying201 hco w.heap.size Y.size (by unfold World.shape?; rw [hgY]) s.data.toList hne (by rw [← Lib.size_eq]; omega) (by rw [← Lib.size_eq]; omega)
      (fun j x hx => Lib.cells_of_row hgY Y.size j _ (by rw [List.take_of_length_le (by rw [Array.length_toList]; exact Nat.le_refl _), hYl]; simp [Lib.byteCells, hx]))
    rw [← Lib.size_eq] at hUS
    clear hY
    go_enter Tryz.func279, Tryz.ntmps279
    go_wp2
    go_ret
    have hb1 : Below w.heap.size w (w.alloc (.cells M 5)) := (Below.refl _ w).alloc (Nat.le_refl _) _
    have hb2 : Below w.heap.size (w.alloc (.cells M 5)) ((w.alloc (.cells M 5)).setRow w.heap.size Y) := ⟨rfl, rfl, rfl, by simp, fun k hk => setRow_other _ _ _ _ (by omega)⟩
    exact ⟨rfl, Lib.below_freeze (hb1.trans hb2) (p := ⟨w.heap.size, 0, none⟩) (Nat.le_refl _) _⟩
theorem clone_any (s : ByteArray) (w : World) (hs : s.size ≤ 100000) :
    Calls Tryz.prog 268 #[.string s] w fun e w' => e = .returned (.string s) ∧ Below w.heap.size w w' := by
  go_enter Tryz.func268, Tryz.ntmps268
  go_wp2_with (go_at_call 279; refine (slClone_any s _ hs).mono ?_; rintro e w' ⟨rfl, hb⟩)
  go_ret
  exact ⟨rfl, hb⟩

set_option maxHeartbeats 1000000 in
theorem until_any (B rb : Nat) (s : ByteArray) (p : Nat) (w : World) (h : Rd w rb s p) (hB : B ≤ rb) :
    Calls Tryz.prog 280 #[.pointer (some ⟨rb, 0, none⟩), .int .u8 34] w fun e w' => e = .returned (.string (subB s p (untilP s p))) ∧ Rd w' rb s (untilP s p) ∧ Kp B [210] w w' := by
  have h4 := h.le; have h5 := h.max
  have h2 := h.place
  go_enter Tryz.func280, Tryz.ntmps280
  go_wp2
  clear h2
  go_loopw [10] (fun _ wr => ∃ q : Nat, Rd wr rb s q ∧ p ≤ q ∧ Hid (untilP s q = untilP s p) ∧ Kp B [210] w wr) (fun _ wr => s.size - placeOf wr rb)
  case atStart => exact ⟨p, h, Nat.le_refl _, rfl, Kp.refl _ _ _⟩
  case round =>
    obtain ⟨q, hr, hpq, HQ, hk⟩ := hrel
    have g2 := hr.place; have g3 := hr.free; have g4 := hr.le
    by_cases hy : peekI s q ≠ 34 ∧ peekI s q ≠ 0
    · obtain ⟨y1, y2⟩ := hy
      have hlt : q < s.size := peekI_lt y2
      have HS : Hid ((fun b : Int => b != 34 && b != 0) (peekI s q) = true) := by simp [y1, y2]; exact trivial
      have e1 : (peekI s q != 34) = true := by simp [y1]
      have e2 : (peekI s q != 0) = true := by simp [y2]
      clear y1 y2
      go_wp2_with (first | (go_at_call 144; refine (peek_any rb s q _ hr).mono ?_; rintro e w' ⟨rfl, nq, rfl⟩) | (go_at_call 144; refine (peek_any rb s q _ (hr.drewN _)).mono ?_; rintro e w' ⟨rfl, nq2, rfl⟩))
      go_roundw
      case rel => exact ⟨q + 1, (hr.drewN _).moved (by omega) (by simp), by omega, hide ((runTo_yes (by decide) HS.out).symm.trans HQ.out), (hk.drewN _).setCell (hr.drewN _).blk (by simp) hB _⟩
      case measure => rw [((hr.drewN _).moved (q := q + 1) (by omega) (by simp)).placeOf, hr.placeOf]; omega
    · have hend : untilP s p = q := by
        rw [← HQ.out]
        refine runTo_no ?_
        by_cases h34 : peekI s q = 34
        · simp [h34]
        · have : peekI s q = 0 := Classical.not_not.1 fun h0 => hy ⟨h34, h0⟩
          simp [this]
      have HEnd := hide hend
      have g1 := hr.text
      have hor : peekI s q = 34 ∨ peekI s q = 0 := by
        by_cases h34 : peekI s q = 34
        · exact .inl h34
        · exact .inr (Classical.not_not.1 fun h0 => hy ⟨h34, h0⟩)
      have hsz : (s.extract p q).size ≤ 100000 := by rw [subB_eq, subB_size g4 hpq]; omega
      clear hy hend h
      rcases hor with ho | ho
      all_goals
        first | (have e1 : (peekI s q != 34) = false := by simp [ho]) | (have e1 : (peekI s q != 34) = true := by simp [ho])
        try (have e2 : (peekI s q != 0) = false := by simp [ho])
        clear ho
        go_wp2_with (first | (go_at_call 144; refine (peek_any rb s q _ hr).mono ?_; rintro e w' ⟨rfl, nq, rfl⟩) | (go_at_call 144; refine (peek_any rb s q _ (hr.drewN _)).mono ?_; rintro e w' ⟨rfl, nq2, rfl⟩))
        go_region_with (go_at_call 268; refine (clone_any _ _ hsz).mono ?_; rintro e w' ⟨rfl, hbl⟩)
      all_goals
        go_wp2
        go_ret
        rw [HEnd.out]
        exact ⟨congrArg (fun x => Ending.returned (.string x)) (subB_eq s p q), hr.belowD hbl rfl rfl, hk.belowD hbl rfl rfl rfl rfl rfl⟩

end Go.Proofs.YtclpcnignheijaaGreatDoor
