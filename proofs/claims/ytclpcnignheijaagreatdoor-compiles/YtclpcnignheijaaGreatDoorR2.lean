import Derived.Test.YtclpcnignheijaaGreatDoorR1
namespace Go.Proofs.YtclpcnignheijaaGreatDoor
open Go.RowKit

theorem smallI_up {b : Int} (h1 : 65 ≤ b) (h2 : b ≤ 90) : smallI b = b + 32 := by unfold smallI; rw [if_pos ⟨h1, h2⟩]
theorem smallI_id {b : Int} (h : ¬ (65 ≤ b ∧ b ≤ 90)) : smallI b = b := by unfold smallI; rw [if_neg h]
set_option maxHeartbeats 1000000 in
theorem rsmall_any (t : ByteArray) (w : World) (ht : t.size ≤ 100000) :
    Calls Tryz.prog 79 #[.string t] w fun e w' => e = .returned (.string ⟨(smallL t.data.toList).toArray⟩) ∧ Below w.heap.size w w' := by
  have hcv := fun w s => run_bytes_of_string (P := Tryz.prog) w 9 50 5 s Tryz.underlying9 Tryz.underlying50 Tryz.underlying5
  go_enter Tryz.func79, Tryz.ntmps79
  go_wp2
  clear hcv
  go_loopw [4] (fun i wr => ∃ k : Nat, i = .int .i64 k ∧ k ≤ t.size ∧ Below w.heap.size w wr ∧ w.heap.size < wr.heap.size ∧
      (∀ j, j < t.size → wr.cell? ⟨w.heap.size, j, none⟩ = some (.int .u8 (((part t.data.toList k)[j]?.getD 0).toNat : Int)) ∧ wr.frozen? ⟨w.heap.size, j, none⟩ = false)) (fun i _ => t.size - (intOf i).toNat)
  case atStart =>
    refine ⟨0, rfl, Nat.zero_le _, ?_, by simp, fun j hj => ?_⟩
    · exact ((Below.refl _ _).alloc (Nat.le_refl _) _).drew
    · exact bytesRow_cell (alloc_at _ _) hj
  case round =>
    obtain ⟨k, rfl, hkt, hbl, hsz, hcells⟩ := hrel
    by_cases hlt : k < t.size
    · have hc := (hcells k hlt).1
      have hf := (hcells k hlt).2
      have hl : k < t.data.toList.length := by simpa using hlt
      rw [part_at hl] at hc
      have HC := hide hcells
      have hbd := (t.data.toList[k]?.getD 0).toNat_lt
      clear hcells
      generalize hbb : (t.data.toList[k]?.getD 0) = bb at *
      have HBB := hide hbb
      clear hbb
      by_cases hy : (65 : Int) ≤ (bb.toNat : Int) ∧ (bb.toNat : Int) ≤ 90
      · obtain ⟨y1, y2⟩ := hy
        have hsm := smallI_up y1 y2
        rw [smallU_int] at hsm
        have HSM := hide hsm
        clear hsm
        go_wp2
        go_roundw
        case rel =>
          refine ⟨k + 1, by go_num, by omega, hbl.setCell (Nat.le_refl _) _, by simp [World.setCell]; exact hsz, fun j hj => ?_⟩
          obtain ⟨c1, c2⟩ := HC.out j hj
          rw [part_succ hl, HBB.out]
          by_cases e : j = k
          · subst e
            rw [if_pos rfl]
            refine ⟨?_, by simpa using c2⟩
            rw [cell_set c1, HSM.out]
          · rw [if_neg e]
            refine ⟨?_, by simpa using c2⟩
            rw [cell_set_ne (by intro h; injection h with _ h2 _; exact e h2.symm)]
            exact c1
        case measure => simp [intOf]; omega
      · have hsm := smallI_id hy
        rw [smallU_int] at hsm
        have HSM := hide hsm
        clear hsm
        have hor : ¬ (65 : Int) ≤ (bb.toNat : Int) ∨ ((65 : Int) ≤ (bb.toNat : Int) ∧ ¬ (bb.toNat : Int) ≤ 90) := by omega
        clear hy
        rcases hor with hy | ⟨hy1, hy2⟩
        all_goals
          go_wp2
          go_roundw
          case rel =>
            refine ⟨k + 1, by go_num, by omega, hbl, hsz, fun j hj => ?_⟩
            obtain ⟨c1, c2⟩ := HC.out j hj
            rw [part_succ hl, HBB.out]
            by_cases e : j = k
            · subst e
              rw [if_pos rfl]
              refine ⟨?_, c2⟩
              rw [hc, HSM.out]
            · rw [if_neg e]
              exact ⟨c1, c2⟩
          case measure => simp [intOf]; omega
    · have e : k = t.size := by omega
      subst e
      have hl : t.data.toList.length = t.size := by simp
      have hcv := run_convert_bytes_back (P := Tryz.prog) wr 50 9 5 ⟨w.heap.size, 0, none⟩ (grownCap w t.size 0 5) (smallL t.data.toList) Tryz.underlying50 Tryz.underlying5 Tryz.underlying9 (fun j hj => by
        have hj' : j < t.size := by simpa [smallL] using hj
        have := (hcells j hj').1
        rw [← hl, part_all, List.getElem?_eq_getElem hj] at this
        rw [addr_add, Nat.zero_add]; simpa using this)
      rw [show (smallL t.data.toList).length = t.size from by simp [smallL]] at hcv
      clear hcells
      go_wp2
      go_ret
      exact ⟨rfl, hbl⟩
theorem rletter_is (b : Int) (w : World) (v : Bool) (h : letterB b = v) :
    Calls Tryz.prog 134 #[.int .u8 b] w fun e w' => e = .returned (.bool v) ∧ w' = w := by
  subst h; exact rletter_any b w
theorem rdigit_is (b : Int) (w : World) (v : Bool) (h : digitB b = v) :
    Calls Tryz.prog 176 #[.int .u8 b] w fun e w' => e = .returned (.bool v) ∧ w' = w := by
  subst h; exact rdigit_any b w
theorem nextI_ok (s : ByteArray) (p : Nat) : nextI s p false = peekI s p := by unfold nextI; rw [if_neg (by simp)]
end Go.Proofs.YtclpcnignheijaaGreatDoor
