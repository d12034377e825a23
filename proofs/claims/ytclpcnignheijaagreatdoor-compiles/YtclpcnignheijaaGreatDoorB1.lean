import Derived.Test.YtclpcnignheijaaGreatDoorA5
import Derived.Lib.Bytealg
namespace Go.Proofs.YtclpcnignheijaaGreatDoor
open Go.RowKit

/-! ### strings.IndexByte -/
theorem run_ib (s : ByteArray) (c : Int) (w : World) : (callFunc 261 #[.string s, .int .u8 c]).run Tryz.prog w = .ok (.value (.int .i64 (Lib.indexByte s.data.toList c.toNat.toUInt8))) w := by
  rw [run_callFunc_extern Tryz.func261 (by kernel_rfl) (by kernel_rfl) (by kernel_rfl) (e := Extern.BytealgIndexByte.indexByte) (by kernel_rfl), Lib.run_indexByteString]
  rfl
set_option maxHeartbeats 400000 in
theorem slIndexByte_any (t : ByteArray) (c : Int) (w : World) :
    Calls Tryz.prog 242 #[.string t, .int .u8 c] w fun e w' => e = .returned (.int .i64 (Lib.indexByte t.data.toList c.toNat.toUInt8)) ∧ w' = w := by
  go_enter Tryz.func242, Tryz.ntmps242
  go_wp2_with (simp only [run_ib])
  go_ret
  exact ⟨rfl, rfl⟩
set_option maxHeartbeats 400000 in
theorem indexByte_any (t : ByteArray) (c : Int) (w : World) :
    Calls Tryz.prog 218 #[.string t, .int .u8 c] w fun e w' => e = .returned (.int .i64 (Lib.indexByte t.data.toList c.toNat.toUInt8)) ∧ w' = w := by
  go_enter Tryz.func218, Tryz.ntmps218
  go_wp2_with (go_at_call 242; refine (slIndexByte_any _ _ _).mono ?_; rintro e w' ⟨rfl, rfl⟩)
  go_ret
  exact ⟨rfl, rfl⟩
def inB (l : List UInt8) (c : Int) : Bool := l.any fun b => (b.toNat : Int) == c
theorem inB_index (l : List UInt8) (c : Int) (h0 : 0 ≤ c) (h1 : c < 256) : (0 ≤ Lib.indexByte l c.toNat.toUInt8) ↔ inB l c = true := by
  have hc : (c.toNat.toUInt8.toNat : Int) = c := by
    rw [Nat.toUInt8, UInt8.toNat_ofNat']; omega
  induction l with
  | nil => simp [Lib.indexByte, inB]
  | cons b l ih =>
    unfold Lib.indexByte
    have hb : (b == c.toNat.toUInt8) = ((b.toNat : Int) == c) := by
      rw [Bool.eq_iff_iff, beq_iff_eq, beq_iff_eq]
      exact ⟨fun h => by rw [h, hc], fun h => UInt8.toNat_inj.1 (by omega)⟩
    have hg := Lib.indexByte_ge l c.toNat.toUInt8
    rw [hb]
    cases hv : ((b.toNat : Int) == c)
    · have e : inB (b :: l) c = inB l c := by simp [inB, hv]
      rw [e, if_neg Bool.false_ne_true]
      refine Iff.trans ?_ ih
      split
      · rename_i h; rw [beq_iff_eq] at h; omega
      · rename_i h; have h3 : Lib.indexByte l c.toNat.toUInt8 ≠ -1 := fun e => h (by rw [e]; rfl)
        omega
    · simp [inB, hv]
theorem indexByte_yes (t : ByteArray) (c : Int) (w : World) (h0 : 0 ≤ c) (h1 : c < 256) (h : inB t.data.toList c = true) :
    Calls Tryz.prog 218 #[.string t, .int .u8 c] w fun e w' => ∃ i : Int, e = .returned (.int .i64 i) ∧ 0 ≤ i ∧ w' = w :=
  (indexByte_any t c w).mono fun _ _ ⟨he, hw⟩ => ⟨_, he, (inB_index _ c h0 h1).2 h, hw⟩
theorem indexByte_no (t : ByteArray) (c : Int) (w : World) (h0 : 0 ≤ c) (h1 : c < 256) (h : inB t.data.toList c = false) :
    Calls Tryz.prog 218 #[.string t, .int .u8 c] w fun e w' => ∃ i : Int, e = .returned (.int .i64 i) ∧ i < 0 ∧ w' = w :=
  (indexByte_any t c w).mono fun _ _ ⟨he, hw⟩ => ⟨_, he, by have := mt (inB_index _ c h0 h1).1 (by rw [h]; exact Bool.false_ne_true); omega, hw⟩

/-! ### scan.While -/
set_option maxHeartbeats 400000 in
theorem while_nil (t : ByteArray) (w : World) :
    Calls Tryz.prog 54 #[.string t, .nilIface] w fun e w' => e = .returned .nilIface ∧ w' = w := by
  go_enter Tryz.func54, Tryz.ntmps54
  go_wp2
  go_ret
  exact ⟨rfl, rfl⟩
theorem Chain.shape {w : World} {c pl : Int} {n : Nat} {v : Value} (h : Chain w c pl n v) : ∃ ty k, v = .iface ty (.pointer (some ⟨k, 0, none⟩)) := by
  cases n with
  | zero => obtain ⟨k, rfl, _⟩ := h; exact ⟨_, _, rfl⟩
  | succ n => obtain ⟨k, _, _, rfl, _⟩ := h; exact ⟨_, _, rfl⟩
set_option maxHeartbeats 400000 in
theorem while_err (B : Nat) (T : List TypeId) (t : ByteArray) (c pl : Int) (n : Nat) (v : Value) (w : World) (h : Chain w c pl n v) :
    Calls Tryz.prog 54 #[.string t, v] w fun e w' => ∃ u, e = .returned u ∧ Chain w' c pl (n + 1) u ∧ Kp B T w w' := by
  obtain ⟨ty, k, hv⟩ := h.shape
  rw [hv] at h ⊢
  go_enter Tryz.func54, Tryz.ntmps54
  go_wp2
  go_ret
  exact ⟨_, rfl, ⟨_, _, _, rfl, alloc_at _ _, h.alloc _⟩, (Kp.refl _ _ _).alloc _⟩
end Go.Proofs.YtclpcnignheijaaGreatDoor
