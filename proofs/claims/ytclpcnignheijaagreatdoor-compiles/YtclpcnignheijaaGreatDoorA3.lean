import Derived.Test.YtclpcnignheijaaGreatDoorA2
import Derived.Laws.IdiomStrings
namespace Go.Proofs.YtclpcnignheijaaGreatDoor
open Go.RowKit

theorem Kp.ofBelow {B : Nat} {T : List TypeId} {w w' : World} (h : Below w.heap.size w w') : Kp B T w w' := ⟨h.os, h.tape, h.output, h.size, fun k hk _ => h.block k hk⟩

def smallU (b : UInt8) : UInt8 := if 65 ≤ b.toNat ∧ b.toNat ≤ 90 then b + 32 else b
def smallL (l : List UInt8) : List UInt8 := l.map smallU
theorem smallU_int (b : UInt8) : smallI (b.toNat : Int) = ((smallU b).toNat : Int) := by
  unfold smallI smallU
  by_cases h : 65 ≤ b.toNat ∧ b.toNat ≤ 90
  · rw [if_pos (by omega), if_pos h, UInt8.toNat_add]
    have : (32 : UInt8).toNat = 32 := rfl
    omega
  · rw [if_neg (by omega), if_neg h]
theorem addr_add (b o j : Nat) : (⟨b, o, none⟩ : Addr).add j = ⟨b, o + j, none⟩ := by unfold Addr.add; split <;> simp_all
theorem smallI_bd {b : Int} (h0 : 0 ≤ b) (h1 : b < 256) : 0 ≤ smallI b ∧ smallI b < 256 := by unfold smallI; split <;> omega

/-- The first k made small. -/
def part (l : List UInt8) (k : Nat) : List UInt8 := (l.take k).map smallU ++ l.drop k
theorem part_len (l : List UInt8) (k : Nat) : (part l k).length = l.length := by
  unfold part; simp; omega
theorem part_at {l : List UInt8} {k : Nat} (h : k < l.length) : (part l k)[k]?.getD 0 = l[k]?.getD 0 := by
  unfold part
  rw [List.getElem?_append_right (by simp; omega)]
  simp [Nat.min_eq_left (Nat.le_of_lt h)]
theorem part_succ {l : List UInt8} {k : Nat} (h : k < l.length) (j : Nat) : (part l (k + 1))[j]?.getD 0 = if j = k then smallU (l[k]?.getD 0) else (part l k)[j]?.getD 0 := by
  unfold part
  have h1 : (l.take (k + 1)).map smallU = (l.take k).map smallU ++ [smallU (l[k]?.getD 0)] := by
    rw [List.take_succ_eq_append_getElem h, List.map_append, List.getElem?_eq_getElem h]; rfl
  have h2 : l.drop k = l[k] :: l.drop (k + 1) := List.drop_eq_getElem_cons h
  rw [h1, h2, List.append_assoc, List.singleton_append]
  have hl : ((l.take k).map smallU).length = k := by simp; omega
  by_cases hj : j < k
  · rw [List.getElem?_append_left (by omega), List.getElem?_append_left (by omega), if_neg (by omega)]
  · rw [List.getElem?_append_right (by omega), List.getElem?_append_right (by omega), hl]
    by_cases e : j = k
    · subst e; simp
    · rw [if_neg e]
      obtain ⟨m, hm⟩ : ∃ m, j - k = m + 1 := ⟨j - k - 1, by omega⟩
      rw [hm]; rfl
theorem part_all (l : List UInt8) : part l l.length = smallL l := by unfold part smallL; simp

theorem bytesRow_cell {wx : World} {b cap : Nat} {s : ByteArray} {e : TypeId} (hx : wx.heap[b]? = some (.cells (bytesRow s cap) e ((bytesRow s cap).size, (bytesRow s cap).size + 1))) {j : Nat} (hj : j < s.size) :
    wx.cell? ⟨b, j, none⟩ = some (.int .u8 ((s.data.toList[j]?.getD 0).toNat : Int)) ∧ wx.frozen? ⟨b, j, none⟩ = false := by
  have hj' : j < s.data.size := hj
  have hz : (bytesRow s cap).size = s.data.size + (cap - s.size) := by simp [bytesRow]
  refine ⟨?_, ?_⟩
  · simp only [World.cell?, hx]
    have : (bytesRow s cap)[j]? = some (.int .u8 (s.data[j].toNat : Int)) := by
      unfold bytesRow
      rw [Array.getElem?_append_left (by simpa using hj')]
      rw [Array.getElem?_map, Array.getElem?_eq_getElem hj']; rfl
    rw [this]
    have e : s.data.toList[j]? = some s.data[j] := by rw [Array.getElem?_toList]; exact Array.getElem?_eq_getElem hj'
    rw [e]; rfl
  · simp only [World.frozen?, hx]
    simp; omega

set_option maxHeartbeats 400000 in
theorem small_any (t : ByteArray) (w : World) (ht : t.size ≤ 140737488351232) :
    Calls Tryz.prog 56 #[.string t] w fun e w' => e = .returned (.string ⟨(smallL t.data.toList).toArray⟩) ∧ Below w.heap.size w w' := by
  have hcv := fun w s => run_bytes_of_string (P := Tryz.prog) w 9 50 5 s Tryz.underlying9 Tryz.underlying50 Tryz.underlying5
  go_enter Tryz.func56, Tryz.ntmps56
  go_wp2
  clear hcv
  go_loopw [10] (fun i wr => ∃ k : Nat, i = .int .i64 k ∧ k ≤ t.size ∧ Below w.heap.size w wr ∧ w.heap.size < wr.heap.size ∧
      (∀ j, j < t.size → wr.cell? ⟨w.heap.size, j, none⟩ = some (.int .u8 (((part t.data.toList k)[j]?.getD 0).toNat : Int)) ∧ wr.frozen? ⟨w.heap.size, j, none⟩ = false)) (fun i _ => t.size - (intOf i).toNat)
  case atStart =>
    refine ⟨0, rfl, Nat.zero_le _, ?_, by simp, fun j hj => ?_⟩
    · exact ((Below.refl _ _).alloc (Nat.le_refl _) _).drew
    · exact bytesRow_cell (alloc_at _ _) hj
  case round =>
    obtain ⟨k, rfl, hkt, hbl, hsz, hcells⟩ := hrel
    by_cases hlt : k < t.size
    · have hc := (hcells k hlt).1
      have hf := (hcells k hlt).2
      have hl : k < t.data.toList.length := by simpa using hlt
      rw [part_at hl] at hc
      have HC := hide hcells
      clear hcells
      go_wp2_with (go_at_call 87; refine (smallByte_any _ _).mono ?_; rintro e w' ⟨rfl, rfl⟩)
      go_roundw
      case rel =>
        refine ⟨k + 1, by go_num, by omega, hbl.setCell (Nat.le_refl _) _, by simp [World.setCell]; exact hsz, fun j hj => ?_⟩
        obtain ⟨c1, c2⟩ := HC.out j hj
        rw [part_succ hl]
        by_cases e : j = k
        · subst e
          rw [if_pos rfl]
          refine ⟨?_, by simpa using c2⟩
          rw [cell_set c1, ← smallU_int]
          simp only [List.getElem?_eq_getElem hl, Option.getD_some]
          rfl
        · rw [if_neg e]
          refine ⟨?_, by simpa using c2⟩
          rw [cell_set_ne (by intro h; injection h with _ h2 _; exact e h2.symm)]
          exact c1
      case measure => simp [intOf]; omega
    · have e : k = t.size := by omega
      subst e
      have hl : t.data.toList.length = t.size := by simp
      have hcv := run_convert_bytes_back (P := Tryz.prog) wr 50 9 5 ⟨w.heap.size, 0, none⟩ (grownCap w t.size 0 5) (smallL t.data.toList) Tryz.underlying50 Tryz.underlying5 Tryz.underlying9 (fun j hj => by
        have hj' : j < t.size := by simpa [smallL] using hj
        have := (hcells j hj').1
        rw [← hl, part_all, List.getElem?_eq_getElem hj] at this
        rw [addr_add, Nat.zero_add]; simpa using this)
      rw [show (smallL t.data.toList).length = t.size from by simp [smallL]] at hcv
      clear hcells
      go_wp2
      go_ret
      exact ⟨rfl, hbl⟩
end Go.Proofs.YtclpcnignheijaaGreatDoor
