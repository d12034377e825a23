import Derived.Test.YtclpcnignheijaaGreatDoorRows
import Derived.Test.YtclpcnignheijaaGreatDoorK0
import Derived.WalkKit
import Derived.WalkSpells
import Derived.WalkLawsBesides
import Derived.Deep.QuietTactic
import Derived.BigQuiet
namespace Go.Proofs.YtclpcnignheijaaGreatDoor
open Go.RowKit

def allowedB (b : Int) : Bool := b == 9 || b == 10 || (decide (32 ≤ b) && decide (b ≤ 126))
def spaceB (b : Int) : Bool := b == 32 || b == 9 || b == 10
def letterB (b : Int) : Bool := (decide (97 ≤ b) && decide (b ≤ 122)) || (decide (65 ≤ b) && decide (b ≤ 90))
def digitB (b : Int) : Bool := decide (48 ≤ b) && decide (b ≤ 57)
def nameB (b : Int) : Bool := letterB b || digitB b || b == 45
def smallI (b : Int) : Int := if 65 ≤ b ∧ b ≤ 90 then b + 32 else b


set_option maxHeartbeats 400000 in
theorem isAllowed_any (b : Int) (w : World) :
    Calls Tryz.prog 187 #[.int .u8 b] w fun e w' => e = .returned (.bool (allowedB b)) ∧ w' = w := by
  go_enter Tryz.func187, Tryz.ntmps187
  go_wp2
  all_goals (go_ret; exact ⟨ret_bool (by simp [allowedB, *] <;> omega), rfl⟩)
set_option maxHeartbeats 400000 in
theorem isSpace_any (b : Int) (w : World) :
    Calls Tryz.prog 172 #[.int .u8 b] w fun e w' => e = .returned (.bool (spaceB b)) ∧ w' = w := by
  go_enter Tryz.func172, Tryz.ntmps172
  go_wp2
  all_goals (go_ret; exact ⟨ret_bool (by simp [spaceB]; try omega), rfl⟩)
set_option maxHeartbeats 400000 in
theorem isLetter_any (b : Int) (w : World) :
    Calls Tryz.prog 243 #[.int .u8 b] w fun e w' => e = .returned (.bool (letterB b)) ∧ w' = w := by
  go_enter Tryz.func243, Tryz.ntmps243
  go_wp2
  all_goals (go_ret; exact ⟨ret_bool (by simp [letterB, *]; try omega), rfl⟩)
set_option maxHeartbeats 400000 in
theorem isDigit_any (b : Int) (w : World) :
    Calls Tryz.prog 244 #[.int .u8 b] w fun e w' => e = .returned (.bool (digitB b)) ∧ w' = w := by
  go_enter Tryz.func244, Tryz.ntmps244
  go_wp2
  all_goals (go_ret; exact ⟨ret_bool (by simp [digitB, *]; try omega), rfl⟩)
set_option maxHeartbeats 400000 in
theorem isName_any (b : Int) (w : World) :
    Calls Tryz.prog 220 #[.int .u8 b] w fun e w' => e = .returned (.bool (nameB b)) ∧ w' = w := by
  go_enter Tryz.func220, Tryz.ntmps220
  go_wp2_with (first | (go_at_call 243; refine (isLetter_any _ _).mono ?_; rintro e w' ⟨rfl, rfl⟩) | (go_at_call 244; refine (isDigit_any _ _).mono ?_; rintro e w' ⟨rfl, rfl⟩))
  all_goals (go_ret; exact ⟨ret_bool (by simp [nameB, *]), rfl⟩)
set_option maxHeartbeats 400000 in
theorem isAllowed_is (b : Int) (w : World) (v : Bool) (h : allowedB b = v) :
    Calls Tryz.prog 187 #[.int .u8 b] w fun e w' => e = .returned (.bool v) ∧ w' = w := by
  subst h; exact isAllowed_any b w
theorem isSpace_is (b : Int) (w : World) (v : Bool) (h : spaceB b = v) :
    Calls Tryz.prog 172 #[.int .u8 b] w fun e w' => e = .returned (.bool v) ∧ w' = w := by
  subst h; exact isSpace_any b w
theorem isLetter_is (b : Int) (w : World) (v : Bool) (h : letterB b = v) :
    Calls Tryz.prog 243 #[.int .u8 b] w fun e w' => e = .returned (.bool v) ∧ w' = w := by
  subst h; exact isLetter_any b w
theorem isName_is (b : Int) (w : World) (v : Bool) (h : nameB b = v) :
    Calls Tryz.prog 220 #[.int .u8 b] w fun e w' => e = .returned (.bool v) ∧ w' = w := by
  subst h; exact isName_any b w
set_option maxHeartbeats 400000 in
theorem smallByte_any (b : Int) (w : World) :
    Calls Tryz.prog 87 #[.int .u8 b] w fun e w' => e = .returned (.int .u8 (smallI b)) ∧ w' = w := by
  go_enter Tryz.func87, Tryz.ntmps87
  go_wp2
  all_goals (go_ret; exact ⟨ret_int (by unfold smallI; split <;> omega), rfl⟩)

/-- A reader at block rb: its text, its place. -/
structure Rd (w : World) (rb : Nat) (s : ByteArray) (p : Nat) : Prop where
  blk : w.heap[rb]? = some (.cells #[.string s, .int .i64 p] 210 (0, 0))
  le : p ≤ s.size
  max : s.size ≤ 2000
theorem Rd.drewN {w : World} {rb : Nat} {s : ByteArray} {p : Nat} (h : Rd w rb s p) (n : Nat) : Rd (w.drewN n) rb s p := ⟨h.1, h.2, h.3⟩
theorem Rd.text {w : World} {rb : Nat} {s : ByteArray} {p : Nat} (h : Rd w rb s p) : w.cell? ⟨rb, 0, none⟩ = some (.string s) := cell2_0 h.1
theorem Rd.place {w : World} {rb : Nat} {s : ByteArray} {p : Nat} (h : Rd w rb s p) : w.cell? ⟨rb, 1, none⟩ = some (.int .i64 p) := cell2_1 h.1
theorem Rd.free {w : World} {rb : Nat} {s : ByteArray} {p : Nat} (h : Rd w rb s p) : w.frozen? ⟨rb, 1, none⟩ = false := free_of h.1
theorem Rd.kept {B : Nat} {T : List TypeId} {w w' : World} {rb : Nat} {s : ByteArray} {p : Nat} (h : Rd w rb s p) (k : Kp B T w w') (ht : 210 ∉ T) : Rd w' rb s p := ⟨k.at h.1 ht, h.2, h.3⟩
theorem Rd.alloc {w : World} {rb : Nat} {s : ByteArray} {p : Nat} (h : Rd w rb s p) (o : Obj) : Rd (w.alloc o) rb s p := ⟨alloc_old h.1 o, h.2, h.3⟩
theorem Rd.moved {w : World} {rb : Nat} {s : ByteArray} {p q : Nat} (h : Rd w rb s p) (hq : q ≤ s.size) {v : Int} (hv : v = (q : Int)) : Rd (w.setCell ⟨rb, 1, none⟩ (.int .i64 v)) rb s q := ⟨by rw [hv]; exact two_set1 h.1, hq, h.3⟩

set_option maxHeartbeats 400000 in
theorem done_any (rb : Nat) (s : ByteArray) (p : Nat) (w : World) (h : Rd w rb s p) :
    Calls Tryz.prog 94 #[.pointer (some ⟨rb, 0, none⟩)] w fun e w' => e = .returned (.bool ((p : Int) == (s.size : Int))) ∧ ∃ n, w' = w.drewN n := by
  have h1 := h.text; have h2 := h.place; have h4 := h.le; have h5 := h.max
  clear h
  go_enter Tryz.func94, Tryz.ntmps94
  go_wp2
  go_quiet (fail)
  go_wp2
  go_ret
  exact ⟨rfl, _, rfl⟩

theorem done_yes (rb : Nat) (s : ByteArray) (p : Nat) (w : World) (h : Rd w rb s p) (hp : p = s.size) :
    Calls Tryz.prog 94 #[.pointer (some ⟨rb, 0, none⟩)] w fun e w' => e = .returned (.bool true) ∧ ∃ n, w' = w.drewN n :=
  (done_any rb s p w h).mono fun e w' ⟨he, hw⟩ => ⟨he.trans (ret_bool (by simp [hp])), hw⟩
theorem done_no (rb : Nat) (s : ByteArray) (p : Nat) (w : World) (h : Rd w rb s p) (hp : p < s.size) :
    Calls Tryz.prog 94 #[.pointer (some ⟨rb, 0, none⟩)] w fun e w' => e = .returned (.bool false) ∧ ∃ n, w' = w.drewN n :=
  (done_any rb s p w h).mono fun e w' ⟨he, hw⟩ => ⟨he.trans (ret_bool (by simp; omega)), hw⟩

def byteI (s : ByteArray) (p : Nat) : Int := ((s.data.toList[p]?.getD 0).toNat : Int)
def peekI (s : ByteArray) (p : Nat) : Int := if p < s.size ∧ allowedB (byteI s p) = true then byteI s p else 0

theorem byteI_get (s : ByteArray) (p : Nat) (h : p < s.size) : byteI s p = (s[p].toNat : Int) := by
  unfold byteI
  have h' : p < s.data.toList.length := by simpa using h
  rw [List.getElem?_eq_getElem h']
  rfl

set_option maxHeartbeats 400000 in
theorem peek_any (rb : Nat) (s : ByteArray) (p : Nat) (w : World) (h : Rd w rb s p) :
    Calls Tryz.prog 144 #[.pointer (some ⟨rb, 0, none⟩)] w fun e w' => e = .returned (.int .u8 (peekI s p)) ∧ ∃ n, w' = w.drewN n := by
  have h' := h
  have h1 := h.text; have h2 := h.place; have h4 := h.le; have h5 := h.max
  clear h
  by_cases hp : p = s.size
  · have HP : Hid (p = s.size) := hp
    clear hp
    go_enter Tryz.func144, Tryz.ntmps144
    go_wp2
    go_quiet ((go_at_call 94; exact Calls.quiet_of (done_yes rb s p _ (h'.drewN _) HP.out)))
    go_wp2
    go_ret
    exact ⟨ret_int (by unfold peekI; rw [if_neg (by have := HP.out; omega)]), _, rfl⟩
  · have hlt : p < s.size := by omega
    have hb := byteI_get s p hlt
    have HB : Hid (byteI s p = (s[p].toNat : Int)) := hb
    clear hb
    cases ha : allowedB (s[p].toNat : Int)
    · have HA := hide ha
      clear ha
      go_enter Tryz.func144, Tryz.ntmps144
      go_wp2
      go_quiet ((first | (go_at_call 94; exact Calls.quiet_of (done_no rb s p _ (h'.drewN _) hlt)) | (go_at_call 187; exact Calls.quiet_of_same (isAllowed_is _ _ _ HA.out))))
      go_wp2
      go_ret
      exact ⟨ret_int (by unfold peekI; rw [HB.out, HA.out, if_neg (by simp)]), _, rfl⟩
    · have HA := hide ha
      clear ha
      go_enter Tryz.func144, Tryz.ntmps144
      go_wp2
      go_quiet ((first | (go_at_call 94; exact Calls.quiet_of (done_no rb s p _ (h'.drewN _) hlt)) | (go_at_call 187; exact Calls.quiet_of_same (isAllowed_is _ _ _ HA.out))))
      go_wp2
      go_quiet (fail)
      go_wp2
      go_ret
      exact ⟨ret_int (by unfold peekI; rw [HB.out, HA.out, if_pos (by simp [hlt])]), _, World.drewN_drewN ..⟩
end Go.Proofs.YtclpcnignheijaaGreatDoor
