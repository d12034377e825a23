import Derived.Test.YtclpcnignheijaaGreatDoorB1
import Derived.Laws.Rows
import Derived.Deep.RegionHeld3
namespace Go.Proofs.YtclpcnignheijaaGreatDoor
open Go.RowKit

/-! ### The table of references, and reference() -/
def refArr : Array Value := #[.string ⟨#[97, 109, 112, 59]⟩, .int .u8 38, .string ⟨#[108, 116, 59]⟩, .int .u8 60, .string ⟨#[103, 116, 59]⟩, .int .u8 62, .string ⟨#[113, 117, 111, 116, 59]⟩, .int .u8 34]
def Gl (w : World) : Prop := ∃ t fr, w.heap[1]? = some (.cells refArr t fr)
theorem Gl.kept {B : Nat} {T : List TypeId} {w w' : World} (h : Gl w) (k : Kp B T w w') (hB : 1 < B) : Gl w' := by
  obtain ⟨t, fr, h⟩ := h
  exact ⟨t, fr, by rw [k.low (lt_of_block h) hB]; exact h⟩
theorem Gl.drewN {w : World} (h : Gl w) (n : Nat) : Gl (w.drewN n) := h
theorem Gl.alloc {w : World} (h : Gl w) (o : Obj) : Gl (w.alloc o) := by
  obtain ⟨t, fr, h⟩ := h
  exact ⟨t, fr, alloc_old h o⟩

def refsL : List (List UInt8 × Int) := [([97, 109, 112, 59], 38), ([108, 116, 59], 60), ([103, 116, 59], 62), ([113, 117, 111, 116, 59], 34)]
def refL (s : ByteArray) (p : Nat) : List (List UInt8 × Int) → Nat × Option Int
  | [] => (p, none)
  | x :: r => if peekI s p = ((x.1.headD 0).toNat : Int) then ((expP s x.1 p).1, if (expP s x.1 p).2 = true then some x.2 else none) else refL s p r
def refP (s : ByteArray) (p : Nat) : Nat × Option Int := refL s p refsL
theorem refL_le (s : ByteArray) (p : Nat) (h : p ≤ s.size) : ∀ l, p ≤ (refL s p l).1 ∧ (refL s p l).1 ≤ s.size
  | [] => ⟨Nat.le_refl _, h⟩
  | x :: r => by
    rw [refL]; split
    · exact expP_le s x.1 p h
    · exact refL_le s p h r
theorem refL_small (s : ByteArray) (p : Nat) : ∀ l, (∀ x ∈ l, 0 ≤ x.2 ∧ x.2 < 256) → ∀ m, (refL s p l).2 = some m → 0 ≤ m ∧ m < 256
  | [], _, m, h => by simp [refL] at h
  | x :: r, hx, m, h => by
    rw [refL] at h
    split at h
    · dsimp only at h
      split at h
      · cases h; exact hx x (List.mem_cons_self ..)
      · cases h
    · exact refL_small s p r (fun y hy => hx y (List.mem_cons_of_mem _ hy)) m h
theorem refP_small {s : ByteArray} {p : Nat} {m : Int} (h : (refP s p).2 = some m) : 0 ≤ m ∧ m < 256 := refL_small s p refsL (by decide) m h

/-- What a reader method hands back of an error, and how it leaves the world. -/
def Res (w w' : World) (B rb : Nat) (s : ByteArray) (q : Nat) (ok : Bool) (v : Value) : Prop :=
  Rd w' rb s q ∧ Kp B [210] w w' ∧ ((ok = true ∧ v = .nilIface) ∨ (ok = false ∧ ∃ n, Chain w' 2 q n v))


set_option maxRecDepth 100000 in
set_option maxHeartbeats 1000000 in
theorem reference_any (B rb bb : Nat) (s : ByteArray) (p : Nat) (w : World) (h : Rd w rb s p) (hB : B ≤ rb) (hg : Gl w) :
    Calls Tryz.prog 219 #[.agg #[.pointer (some ⟨rb, 0, none⟩), .pointer (some ⟨bb, 0, none⟩)]] w fun e w' => ∃ (m : Int) (v : Value), e = .returned (.tuple #[.int .u8 m, v]) ∧
      Rd w' rb s (refP s p).1 ∧ Kp B [210] w w' ∧ ((some m = (refP s p).2 ∧ v = .nilIface) ∨ ((refP s p).2 = none ∧ Chain w' 2 (refP s p).1 0 v)) := by
  obtain ⟨tt, fr, hg1⟩ := hg
  have hg2 := alloc_old hg1 (.cells #[.pointer (some ⟨rb, 0, none⟩), .pointer (some ⟨bb, 0, none⟩)] 163)
  go_enter Tryz.func219, Tryz.ntmps219
  go_wp2_with (refine wpList_load_row rfl 287 _ rfl 1 rfl tt _ fr _ hg2 Tryz.underlying287 rfl (by kernel_rfl) ?_)
  clear hg2
  go_loopw [7] (fun i wr => ∃ k : Nat, i = .int .i64 k ∧ k ≤ 4 ∧ Rd wr rb s p ∧ wr.heap[w.heap.size]? = some (.cells #[.pointer (some ⟨rb, 0, none⟩), .pointer (some ⟨bb, 0, none⟩)] 163 (0, 0)) ∧ Hid (refL s p (refsL.drop k) = refP s p) ∧ Kp B [210] w wr) (fun i _ => 4 - (intOf i).toNat)
  case atStart => exact ⟨0, rfl, Nat.zero_le _, h.alloc _, alloc_at _ _, rfl, (Kp.refl _ _ _).alloc _⟩
  case round =>
    obtain ⟨k, rfl, hk4, hr, hbx, HQ, hk⟩ := hrel
    clear hg1 h
    have b0 := cell2_0 hbx
    have bl := lt_of_block hbx
    rcases (show k = 0 ∨ k = 1 ∨ k = 2 ∨ k = 3 ∨ k = 4 from by omega) with rfl | rfl | rfl | rfl | rfl
    · have ix : ∀ w, (Instr.index 287 (.agg refArr) (.int .i64 0)).run Tryz.prog w = .ok (.agg #[.string ⟨#[97, 109, 112, 59]⟩, .int .u8 38]) w := fun _ => by kernel_rfl
      have hq : refL s p (refsL.drop 0) = if peekI s p = 97 then ((expP s [97, 109, 112, 59] p).1, if (expP s [97, 109, 112, 59] p).2 = true then some 38 else none) else refL s p (refsL.drop (0 + 1)) := rfl
      have HR := hide hq
      clear hq
      by_cases hy : peekI s p = 97
      · have hy' : (peekI s p == (((⟨#[97, 109, 112, 59]⟩ : ByteArray)[0]'(by decide)).toNat : Int)) = true := by rw [hy]; rfl
        have HY := hide hy
        clear hy
        go_wp2
        go_quiet ((go_at_call 144; exact Calls.quiet_of (peek_any rb s p _ ((hr.alloc _).drewN _))))
        go_wp2
        have HF : Hid (refP s p = ((expP s [97, 109, 112, 59] p).1, if (expP s [97, 109, 112, 59] p).2 = true then some 38 else none)) := by
          have e := HR.out; rw [if_pos HY.out] at e; exact HQ.out.symm.trans e
        go_region_held3 (fun wx => wx.cell? ⟨wr.heap.size, 0, none⟩ = some (.string ⟨#[97, 109, 112, 59]⟩) ∧ wx.cell? ⟨wr.heap.size, 1, none⟩ = some (.int .u8 38) ∧ wx.cell? ⟨w.heap.size, 0, none⟩ = some (.pointer (some ⟨rb, 0, none⟩))) (first | exact hS | simp [go_sem, *]) (first | (go_at_call 188; refine (expect_any B rb s ⟨#[97, 109, 112, 59]⟩ p _ ((hr.alloc _).drewN _) hB (by decide)).mono ?_; rintro e w' ⟨v, rfl, hr', hk', hor⟩; have hS := And.intro (cell2_0 (hk'.at (k := wr.heap.size) (t := 286) (alloc_at wr _) (by decide))) (And.intro (cell2_1 (hk'.at (k := wr.heap.size) (t := 286) (alloc_at wr _) (by decide))) (cell2_0 (hk'.at (k := w.heap.size) (t := 163) (alloc_old hbx _) (by decide))))))
        go_wp2
        go_ret2
        rw [HF.out]
        rcases hor with ⟨ho, rfl⟩ | ⟨ho, hc⟩
        · rw [ho, if_pos rfl]
          exact ⟨_, _, rfl, hr', ((hk.alloc _).drewN _).trans hk', .inl ⟨rfl, rfl⟩⟩
        · rw [ho, if_neg Bool.false_ne_true]
          exact ⟨_, _, rfl, hr', ((hk.alloc _).drewN _).trans hk', .inr ⟨rfl, hc⟩⟩
      · have hy' : (peekI s p == (((⟨#[97, 109, 112, 59]⟩ : ByteArray)[0]'(by decide)).toNat : Int)) = false := by rw [show (((⟨#[97, 109, 112, 59]⟩ : ByteArray)[0]'(by decide)).toNat : Int) = 97 from rfl]; simp [hy]
        have HY := hide hy
        clear hy
        go_wp2
        go_quiet ((go_at_call 144; exact Calls.quiet_of (peek_any rb s p _ ((hr.alloc _).drewN _))))
        go_wp2
        go_roundw
        case rel =>
          refine ⟨0 + 1, by go_num, by omega, (hr.alloc _).drewN _, alloc_old hbx _, hide ?_, (hk.alloc _).drewN _⟩
          have e := HR.out; rw [if_neg HY.out] at e; exact e.symm.trans HQ.out
        case measure => simp [intOf]
    · have ix : ∀ w, (Instr.index 287 (.agg refArr) (.int .i64 1)).run Tryz.prog w = .ok (.agg #[.string ⟨#[108, 116, 59]⟩, .int .u8 60]) w := fun _ => by kernel_rfl
      have hq : refL s p (refsL.drop 1) = if peekI s p = 108 then ((expP s [108, 116, 59] p).1, if (expP s [108, 116, 59] p).2 = true then some 60 else none) else refL s p (refsL.drop (1 + 1)) := rfl
      have HR := hide hq
      clear hq
      by_cases hy : peekI s p = 108
      · have hy' : (peekI s p == (((⟨#[108, 116, 59]⟩ : ByteArray)[0]'(by decide)).toNat : Int)) = true := by rw [hy]; rfl
        have HY := hide hy
        clear hy
        go_wp2
        go_quiet ((go_at_call 144; exact Calls.quiet_of (peek_any rb s p _ ((hr.alloc _).drewN _))))
        go_wp2
        have HF : Hid (refP s p = ((expP s [108, 116, 59] p).1, if (expP s [108, 116, 59] p).2 = true then some 60 else none)) := by
          have e := HR.out; rw [if_pos HY.out] at e; exact HQ.out.symm.trans e
        go_region_held3 (fun wx => wx.cell? ⟨wr.heap.size, 0, none⟩ = some (.string ⟨#[108, 116, 59]⟩) ∧ wx.cell? ⟨wr.heap.size, 1, none⟩ = some (.int .u8 60) ∧ wx.cell? ⟨w.heap.size, 0, none⟩ = some (.pointer (some ⟨rb, 0, none⟩))) (first | exact hS | simp [go_sem, *]) (first | (go_at_call 188; refine (expect_any B rb s ⟨#[108, 116, 59]⟩ p _ ((hr.alloc _).drewN _) hB (by decide)).mono ?_; rintro e w' ⟨v, rfl, hr', hk', hor⟩; have hS := And.intro (cell2_0 (hk'.at (k := wr.heap.size) (t := 286) (alloc_at wr _) (by decide))) (And.intro (cell2_1 (hk'.at (k := wr.heap.size) (t := 286) (alloc_at wr _) (by decide))) (cell2_0 (hk'.at (k := w.heap.size) (t := 163) (alloc_old hbx _) (by decide))))))
        go_wp2
        go_ret2
        rw [HF.out]
        rcases hor with ⟨ho, rfl⟩ | ⟨ho, hc⟩
        · rw [ho, if_pos rfl]
          exact ⟨_, _, rfl, hr', ((hk.alloc _).drewN _).trans hk', .inl ⟨rfl, rfl⟩⟩
        · rw [ho, if_neg Bool.false_ne_true]
          exact ⟨_, _, rfl, hr', ((hk.alloc _).drewN _).trans hk', .inr ⟨rfl, hc⟩⟩
      · have hy' : (peekI s p == (((⟨#[108, 116, 59]⟩ : ByteArray)[0]'(by decide)).toNat : Int)) = false := by rw [show (((⟨#[108, 116, 59]⟩ : ByteArray)[0]'(by decide)).toNat : Int) = 108 from rfl]; simp [hy]
        have HY := hide hy
        clear hy
        go_wp2
        go_quiet ((go_at_call 144; exact Calls.quiet_of (peek_any rb s p _ ((hr.alloc _).drewN _))))
        go_wp2
        go_roundw
        case rel =>
          refine ⟨1 + 1, by go_num, by omega, (hr.alloc _).drewN _, alloc_old hbx _, hide ?_, (hk.alloc _).drewN _⟩
          have e := HR.out; rw [if_neg HY.out] at e; exact e.symm.trans HQ.out
        case measure => simp [intOf]
    · have ix : ∀ w, (Instr.index 287 (.agg refArr) (.int .i64 2)).run Tryz.prog w = .ok (.agg #[.string ⟨#[103, 116, 59]⟩, .int .u8 62]) w := fun _ => by kernel_rfl
      have hq : refL s p (refsL.drop 2) = if peekI s p = 103 then ((expP s [103, 116, 59] p).1, if (expP s [103, 116, 59] p).2 = true then some 62 else none) else refL s p (refsL.drop (2 + 1)) := rfl
      have HR := hide hq
      clear hq
      by_cases hy : peekI s p = 103
      · have hy' : (peekI s p == (((⟨#[103, 116, 59]⟩ : ByteArray)[0]'(by decide)).toNat : Int)) = true := by rw [hy]; rfl
        have HY := hide hy
        clear hy
        go_wp2
        go_quiet ((go_at_call 144; exact Calls.quiet_of (peek_any rb s p _ ((hr.alloc _).drewN _))))
        go_wp2
        have HF : Hid (refP s p = ((expP s [103, 116, 59] p).1, if (expP s [103, 116, 59] p).2 = true then some 62 else none)) := by
          have e := HR.out; rw [if_pos HY.out] at e; exact HQ.out.symm.trans e
        go_region_held3 (fun wx => wx.cell? ⟨wr.heap.size, 0, none⟩ = some (.string ⟨#[103, 116, 59]⟩) ∧ wx.cell? ⟨wr.heap.size, 1, none⟩ = some (.int .u8 62) ∧ wx.cell? ⟨w.heap.size, 0, none⟩ = some (.pointer (some ⟨rb, 0, none⟩))) (first | exact hS | simp [go_sem, *]) (first | (go_at_call 188; refine (expect_any B rb s ⟨#[103, 116, 59]⟩ p _ ((hr.alloc _).drewN _) hB (by decide)).mono ?_; rintro e w' ⟨v, rfl, hr', hk', hor⟩; have hS := And.intro (cell2_0 (hk'.at (k := wr.heap.size) (t := 286) (alloc_at wr _) (by decide))) (And.intro (cell2_1 (hk'.at (k := wr.heap.size) (t := 286) (alloc_at wr _) (by decide))) (cell2_0 (hk'.at (k := w.heap.size) (t := 163) (alloc_old hbx _) (by decide))))))
        go_wp2
        go_ret2
        rw [HF.out]
        rcases hor with ⟨ho, rfl⟩ | ⟨ho, hc⟩
        · rw [ho, if_pos rfl]
          exact ⟨_, _, rfl, hr', ((hk.alloc _).drewN _).trans hk', .inl ⟨rfl, rfl⟩⟩
        · rw [ho, if_neg Bool.false_ne_true]
          exact ⟨_, _, rfl, hr', ((hk.alloc _).drewN _).trans hk', .inr ⟨rfl, hc⟩⟩
      · have hy' : (peekI s p == (((⟨#[103, 116, 59]⟩ : ByteArray)[0]'(by decide)).toNat : Int)) = false := by rw [show (((⟨#[103, 116, 59]⟩ : ByteArray)[0]'(by decide)).toNat : Int) = 103 from rfl]; simp [hy]
        have HY := hide hy
        clear hy
        go_wp2
        go_quiet ((go_at_call 144; exact Calls.quiet_of (peek_any rb s p _ ((hr.alloc _).drewN _))))
        go_wp2
        go_roundw
        case rel =>
          refine ⟨2 + 1, by go_num, by omega, (hr.alloc _).drewN _, alloc_old hbx _, hide ?_, (hk.alloc _).drewN _⟩
          have e := HR.out; rw [if_neg HY.out] at e; exact e.symm.trans HQ.out
        case measure => simp [intOf]
    · have ix : ∀ w, (Instr.index 287 (.agg refArr) (.int .i64 3)).run Tryz.prog w = .ok (.agg #[.string ⟨#[113, 117, 111, 116, 59]⟩, .int .u8 34]) w := fun _ => by kernel_rfl
      have hq : refL s p (refsL.drop 3) = if peekI s p = 113 then ((expP s [113, 117, 111, 116, 59] p).1, if (expP s [113, 117, 111, 116, 59] p).2 = true then some 34 else none) else refL s p (refsL.drop (3 + 1)) := rfl
      have HR := hide hq
      clear hq
      by_cases hy : peekI s p = 113
      · have hy' : (peekI s p == (((⟨#[113, 117, 111, 116, 59]⟩ : ByteArray)[0]'(by decide)).toNat : Int)) = true := by rw [hy]; rfl
        have HY := hide hy
        clear hy
        go_wp2
        go_quiet ((go_at_call 144; exact Calls.quiet_of (peek_any rb s p _ ((hr.alloc _).drewN _))))
        go_wp2
        have HF : Hid (refP s p = ((expP s [113, 117, 111, 116, 59] p).1, if (expP s [113, 117, 111, 116, 59] p).2 = true then some 34 else none)) := by
          have e := HR.out; rw [if_pos HY.out] at e; exact HQ.out.symm.trans e
        go_region_held3 (fun wx => wx.cell? ⟨wr.heap.size, 0, none⟩ = some (.string ⟨#[113, 117, 111, 116, 59]⟩) ∧ wx.cell? ⟨wr.heap.size, 1, none⟩ = some (.int .u8 34) ∧ wx.cell? ⟨w.heap.size, 0, none⟩ = some (.pointer (some ⟨rb, 0, none⟩))) (first | exact hS | simp [go_sem, *]) (first | (go_at_call 188; refine (expect_any B rb s ⟨#[113, 117, 111, 116, 59]⟩ p _ ((hr.alloc _).drewN _) hB (by decide)).mono ?_; rintro e w' ⟨v, rfl, hr', hk', hor⟩; have hS := And.intro (cell2_0 (hk'.at (k := wr.heap.size) (t := 286) (alloc_at wr _) (by decide))) (And.intro (cell2_1 (hk'.at (k := wr.heap.size) (t := 286) (alloc_at wr _) (by decide))) (cell2_0 (hk'.at (k := w.heap.size) (t := 163) (alloc_old hbx _) (by decide))))))
        go_wp2
        go_ret2
        rw [HF.out]
        rcases hor with ⟨ho, rfl⟩ | ⟨ho, hc⟩
        · rw [ho, if_pos rfl]
          exact ⟨_, _, rfl, hr', ((hk.alloc _).drewN _).trans hk', .inl ⟨rfl, rfl⟩⟩
        · rw [ho, if_neg Bool.false_ne_true]
          exact ⟨_, _, rfl, hr', ((hk.alloc _).drewN _).trans hk', .inr ⟨rfl, hc⟩⟩
      · have hy' : (peekI s p == (((⟨#[113, 117, 111, 116, 59]⟩ : ByteArray)[0]'(by decide)).toNat : Int)) = false := by rw [show (((⟨#[113, 117, 111, 116, 59]⟩ : ByteArray)[0]'(by decide)).toNat : Int) = 113 from rfl]; simp [hy]
        have HY := hide hy
        clear hy
        go_wp2
        go_quiet ((go_at_call 144; exact Calls.quiet_of (peek_any rb s p _ ((hr.alloc _).drewN _))))
        go_wp2
        go_roundw
        case rel =>
          refine ⟨3 + 1, by go_num, by omega, (hr.alloc _).drewN _, alloc_old hbx _, hide ?_, (hk.alloc _).drewN _⟩
          have e := HR.out; rw [if_neg HY.out] at e; exact e.symm.trans HQ.out
        case measure => simp [intOf]
    · have HF : Hid (refP s p = (p, none)) := HQ.out.symm
      go_wp2_with (go_at_call 95; refine (fail_any B rb s p _ hr).mono ?_; rintro e w' ⟨v, rfl, hc, hr'', hk''⟩)
      go_ret2
      rw [HF.out]
      exact ⟨_, _, rfl, hr'', hk.trans hk'', .inr ⟨rfl, hc⟩⟩
end Go.Proofs.YtclpcnignheijaaGreatDoor
