import Derived.Test.YtclpcnignheijaaGreatDoorP1
import Derived.Lib.AppendStr
import Derived.Lib.UnsafeStr
import Derived.Lib.BufferWrite
import Derived.Laws.MakeOwn
namespace Go.Proofs.YtclpcnignheijaaGreatDoor
open Go.RowKit

theorem isDigit_is (b : Int) (w : World) (v : Bool) (h : digitB b = v) :
    Calls Tryz.prog 244 #[.int .u8 b] w fun e w' => e = .returned (.bool v) ∧ w' = w := by
  subst h; exact isDigit_any b w

/-- A row of words. -/
def Ws (w : World) (g : Nat) (ws : List (List UInt8)) : Prop := w.heap[g]? = some (.cells (ws.map fun l => Value.string (bytesOf l)).toArray 9 (0, 0))
theorem Ws.kept {B : Nat} {T : List TypeId} {w w' : World} {g : Nat} {ws : List (List UInt8)} (h : Ws w g ws) (k : Kp B T w w') (ht : 9 ∉ T) : Ws w' g ws := k.at h ht
theorem Ws.drewN {w : World} {g : Nat} {ws : List (List UInt8)} (h : Ws w g ws) (n : Nat) : Ws (w.drewN n) g ws := h
theorem Ws.cell {w : World} {g : Nat} {ws : List (List UInt8)} (h : Ws w g ws) {k : Nat} {x : List UInt8} (hx : ws[k]? = some x) : w.cell? ⟨g, k, none⟩ = some (.string (bytesOf x)) := by
  unfold Ws at h
  simp [World.cell?, h, hx]

set_option maxHeartbeats 1000000 in
theorem openings_any (w : World) :
    Calls Tryz.prog 216 #[] w fun e w' => e = .returned (.slice (some ⟨w.heap.size, 0, none⟩) 11 11) ∧ w' = w.alloc (.cells (openW.map fun l => Value.string (bytesOf l)).toArray 9) := by
  go_enter Tryz.func216, Tryz.ntmps216
  go_wp2
  go_ret
  exact ⟨rfl, rfl⟩
theorem prefix_eq (s t : ByteArray) : ((s.extract 0 t.size).toList == t.toList) = t.data.toList.isPrefixOf s.data.toList := by
  rw [subB_eq, Lib.toList_data, Lib.toList_data, subB_list, Bool.eq_iff_iff, beq_iff_eq, List.isPrefixOf_iff_prefix, List.prefix_iff_eq_take]
  have : t.data.toList.length = t.size := by simp
  rw [List.drop_zero, Nat.sub_zero, this]
  exact eq_comm
theorem prefix_no {s t : ByteArray} (h : ¬ t.size ≤ s.size) : t.data.toList.isPrefixOf s.data.toList = false := by
  cases hb : t.data.toList.isPrefixOf s.data.toList
  · rfl
  · rw [List.isPrefixOf_iff_prefix] at hb
    have := hb.length_le
    simp at this
    exact absurd this h
set_option maxHeartbeats 1000000 in
theorem slHasPrefix_any (s t : ByteArray) (w : World) :
    Calls Tryz.prog 250 #[.string s, .string t] w fun e w' => e = .returned (.bool (t.data.toList.isPrefixOf s.data.toList)) ∧ w' = w := by
  go_enter Tryz.func250, Tryz.ntmps250
  go_wp2
  · go_ret
    exact ⟨ret_bool (prefix_eq s t), rfl⟩
  · go_ret
    exact ⟨ret_bool (prefix_no (by assumption)).symm, rfl⟩
theorem slHasPrefix_is (s t : ByteArray) (w : World) (v : Bool) (hv : t.data.toList.isPrefixOf s.data.toList = v) :
    Calls Tryz.prog 250 #[.string s, .string t] w fun e w' => e = .returned (.bool v) ∧ w' = w := by
  subst hv; exact slHasPrefix_any s t w
theorem hasPrefix_is (s t : ByteArray) (w : World) (v : Bool) (hv : t.data.toList.isPrefixOf s.data.toList = v) :
    Calls Tryz.prog 229 #[.string s, .string t] w fun e w' => e = .returned (.bool v) ∧ w' = w := by
  have HV := hide hv
  clear hv
  go_enter Tryz.func229, Tryz.ntmps229
  go_wp2_with (go_at_call 250; refine (slHasPrefix_is s t _ v HV.out).mono ?_; rintro e w' ⟨rfl, rfl⟩)
  go_ret
  exact ⟨rfl, rfl⟩

/-! ### Digit, Until, Word -/
set_option maxHeartbeats 400000 in
theorem digit_no (B rb : Nat) (s : ByteArray) (p : Nat) (w : World) (h : Rd w rb s p) (hd : digitB (peekI s p) = false) :
    Calls Tryz.prog 288 #[.pointer (some ⟨rb, 0, none⟩)] w fun e w' => e = .returned (.tuple #[.int .i64 0, .bool false]) ∧ Rd w' rb s p ∧ Kp B [210] w w' := by
  have HD := hide hd
  clear hd
  go_enter Tryz.func288, Tryz.ntmps288
  go_wp2_with (first | (go_at_call 144; refine (peek_any rb s p _ h).mono ?_; rintro e w' ⟨rfl, nq, rfl⟩) | (go_at_call 244; refine (isDigit_is _ _ _ HD.out).mono ?_; rintro e w' ⟨rfl, rfl⟩))
  go_ret2
  exact ⟨rfl, h.drewN _, (Kp.refl _ _ _).drewN _⟩
theorem digitB_bd {b : Int} (h : digitB b = true) : 48 ≤ b ∧ b ≤ 57 := by
  simpa [digitB] using h
set_option maxHeartbeats 400000 in
theorem digit_yes (B rb : Nat) (s : ByteArray) (p : Nat) (w : World) (h : Rd w rb s p) (hB : B ≤ rb) (hd : digitB (peekI s p) = true) :
    Calls Tryz.prog 288 #[.pointer (some ⟨rb, 0, none⟩)] w fun e w' => e = .returned (.tuple #[.int .i64 (peekI s p - 48), .bool true]) ∧ Rd w' rb s (p + 1) ∧ Kp B [210] w w' := by
  have hbd := digitB_bd hd
  have hlt := digit_in hd
  have HD := hide hd
  have h2 := h.place; have h3 := h.free; have h5 := h.max
  clear hd
  go_enter Tryz.func288, Tryz.ntmps288
  go_wp2_with (first | (go_at_call 144; refine (peek_any rb s p _ h).mono ?_; rintro e w' ⟨rfl, nq, rfl⟩) | (go_at_call 244; refine (isDigit_is _ _ _ HD.out).mono ?_; rintro e w' ⟨rfl, rfl⟩))
  go_ret2
  exact ⟨rfl, (h.drewN _).moved (by omega) (by simp), ((Kp.refl _ _ _).drewN _).setCell (h.drewN _).blk (by simp) hB _⟩

theorem eq_empty {s : ByteArray} (h : s.size = 0) : s = ⟨#[]⟩ := ByteArray.ext (Array.eq_empty_of_size_eq_zero h)
end Go.Proofs.YtclpcnignheijaaGreatDoor
