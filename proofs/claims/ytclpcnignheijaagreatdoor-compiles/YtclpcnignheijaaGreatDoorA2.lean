import Derived.Test.YtclpcnignheijaaGreatDoorA1
namespace Go.Proofs.YtclpcnignheijaaGreatDoor
open Go.RowKit

/-! ### What reading does, in plain functions: a text, a place. -/
def skipP (s : ByteArray) (p : Nat) : Nat := if peekI s p = 0 then p else p + 1
def runP (f : Int → Bool) (s : ByteArray) : Nat → Nat → Nat
  | 0, p => p
  | n + 1, p => if f (peekI s p) = true then runP f s n (p + 1) else p
def runTo (f : Int → Bool) (s : ByteArray) (p : Nat) : Nat := runP f s (s.size - p) p
def expP (s : ByteArray) : List UInt8 → Nat → Nat × Bool
  | [], p => (p, true)
  | c :: cs, p => if (c.toNat : Int) ≠ 0 ∧ peekI s p = (c.toNat : Int) then expP s cs (p + 1) else (p, false)
def exnP (s : ByteArray) : List UInt8 → Nat → Nat × Bool
  | [], p => (p, !nameB (peekI s p))
  | c :: cs, p => if smallI (peekI s p) = (c.toNat : Int) then exnP s cs (skipP s p) else (p, false)

theorem byteI_nonneg (s : ByteArray) (p : Nat) : 0 ≤ byteI s p := Int.natCast_nonneg _
theorem byteI_lt (s : ByteArray) (p : Nat) : byteI s p < 256 := by
  unfold byteI; have := (s.data.toList[p]?.getD 0).toNat_lt; omega
theorem peekI_bd (s : ByteArray) (p : Nat) : 0 ≤ peekI s p ∧ peekI s p < 256 := by
  unfold peekI; split
  · exact ⟨byteI_nonneg s p, byteI_lt s p⟩
  · omega
theorem peekI_lt {s : ByteArray} {p : Nat} (h : peekI s p ≠ 0) : p < s.size := by
  unfold peekI at h; split at h
  · rename_i h'; exact h'.1
  · exact absurd rfl h
theorem runTo_yes {f : Int → Bool} {s : ByteArray} {p : Nat} (h0 : f 0 = false) (h : f (peekI s p) = true) : runTo f s p = runTo f s (p + 1) := by
  have hp : p < s.size := peekI_lt (fun e => by rw [e, h0] at h; cases h)
  unfold runTo
  rw [show s.size - p = (s.size - (p + 1)) + 1 from by omega, runP, if_pos h]
theorem runTo_no {f : Int → Bool} {s : ByteArray} {p : Nat} (h : f (peekI s p) = false) : runTo f s p = p := by
  unfold runTo
  cases s.size - p with
  | zero => rfl
  | succ n => rw [runP, if_neg (by rw [h]; exact Bool.false_ne_true)]
theorem runP_le (f : Int → Bool) (h0 : f 0 = false) (s : ByteArray) : ∀ n p, p ≤ s.size → p ≤ runP f s n p ∧ runP f s n p ≤ s.size ∧ runP f s n p ≤ p + n
  | 0, p, h => ⟨Nat.le_refl _, h, by simp [runP]⟩
  | n + 1, p, h => by
    rw [runP]
    split
    · rename_i hf
      have hp : p < s.size := peekI_lt (fun e => by rw [e, h0] at hf; cases hf)
      have := runP_le f h0 s n (p + 1) hp
      omega
    · omega
theorem expP_le (s : ByteArray) : ∀ l p, p ≤ s.size → p ≤ (expP s l p).1 ∧ (expP s l p).1 ≤ s.size
  | [], p, h => ⟨Nat.le_refl _, h⟩
  | c :: cs, p, h => by
    rw [expP]
    split
    · rename_i hf
      have hp : p < s.size := peekI_lt (fun e => by omega)
      have := expP_le s cs (p + 1) hp
      omega
    · exact ⟨Nat.le_refl _, h⟩
theorem skipP_le {s : ByteArray} {p : Nat} (h : p ≤ s.size) : p ≤ skipP s p ∧ skipP s p ≤ s.size := by
  unfold skipP; split
  · omega
  · rename_i hf; have := peekI_lt hf; omega
theorem exnP_le (s : ByteArray) : ∀ l p, p ≤ s.size → p ≤ (exnP s l p).1 ∧ (exnP s l p).1 ≤ s.size
  | [], p, h => ⟨Nat.le_refl _, h⟩
  | c :: cs, p, h => by
    rw [exnP]
    split
    · have h1 := skipP_le h
      have := exnP_le s cs (skipP s p) h1.2
      omega
    · exact ⟨Nat.le_refl _, h⟩

/-! ### Faults -/
def Chain (w : World) (c pl : Int) : Nat → Value → Prop
  | 0, v => ∃ k, v = .iface 128 (.pointer (some ⟨k, 0, none⟩)) ∧ w.heap[k]? = some (.cells #[.int .i64 c, .int .i64 pl] 134 (0, 0))
  | n + 1, v => ∃ k t u, v = .iface 166 (.pointer (some ⟨k, 0, none⟩)) ∧ w.heap[k]? = some (.cells #[.string t, u] 168 (0, 0)) ∧ Chain w c pl n u
theorem Chain.kept {B : Nat} {T : List TypeId} {w w' : World} {c pl : Int} (k : Kp B T w w') (h1 : 134 ∉ T) (h2 : 168 ∉ T) : ∀ {n : Nat} {v : Value}, Chain w c pl n v → Chain w' c pl n v
  | 0, _, ⟨j, hv, hb⟩ => ⟨j, hv, k.at hb h1⟩
  | _ + 1, _, ⟨j, t, u, hv, hb, hc⟩ => ⟨j, t, u, hv, k.at hb h2, hc.kept k h1 h2⟩
theorem Chain.alloc {w : World} {c pl : Int} (o : Obj) {n : Nat} {v : Value} (h : Chain w c pl n v) : Chain (w.alloc o) c pl n v := h.kept ((Kp.refl 0 [] w).alloc o) (by simp) (by simp)
theorem Chain.drewN {w : World} {c pl : Int} (m : Nat) {n : Nat} {v : Value} (h : Chain w c pl n v) : Chain (w.drewN m) c pl n v := h.kept ((Kp.refl 0 [] w).drewN m) (by simp) (by simp)

/-! ### The reader's own methods -/
set_option maxHeartbeats 400000 in
theorem skip_any (B rb : Nat) (s : ByteArray) (p : Nat) (w : World) (h : Rd w rb s p) (hB : B ≤ rb) :
    Calls Tryz.prog 189 #[.pointer (some ⟨rb, 0, none⟩)] w fun e w' => e = .returned (.tuple #[]) ∧ Rd w' rb s (skipP s p) ∧ Kp B [210] w w' := by
  have h' := h
  have h1 := h.text; have h2 := h.place; have h3 := h.free; have h4 := h.le; have h5 := h.max
  clear h
  by_cases hz : peekI s p = 0
  · have HZ := hide hz
    have hz' : (peekI s p != 0) = false := by simp [hz]
    clear hz
    go_enter Tryz.func189, Tryz.ntmps189
    go_wp2_with (go_at_call 144; refine (peek_any rb s p _ h').mono ?_; rintro e w' ⟨rfl, nq, rfl⟩)
    go_end0
    refine ⟨rfl, ?_, (Kp.refl _ _ _).drewN _⟩
    unfold skipP; rw [if_pos HZ.out]; exact h'.drewN _
  · have HZ := hide hz
    have hz' : (peekI s p != 0) = true := by simp [hz]
    have hlt := peekI_lt hz
    clear hz
    go_enter Tryz.func189, Tryz.ntmps189
    go_wp2_with (go_at_call 144; refine (peek_any rb s p _ h').mono ?_; rintro e w' ⟨rfl, nq, rfl⟩)
    go_end0
    refine ⟨rfl, ?_, ((Kp.refl _ _ _).drewN _).setCell (h'.drewN _).blk (by simp) hB _⟩
    unfold skipP; rw [if_neg HZ.out]
    exact (h'.drewN _).moved (by omega) (by simp)

set_option maxHeartbeats 400000 in
theorem take_no (B rb : Nat) (s : ByteArray) (p : Nat) (b : Int) (w : World) (h : Rd w rb s p) (hb : b = 0 ∨ peekI s p ≠ b) :
    Calls Tryz.prog 129 #[.pointer (some ⟨rb, 0, none⟩), .int .u8 b] w fun e w' => e = .returned (.bool false) ∧ Rd w' rb s p ∧ Kp B [210] w w' := by
  by_cases hz : b = 0
  · have hz' : (b == 0) = true := by simp [hz]
    clear hz hb
    go_enter Tryz.func129, Tryz.ntmps129
    go_wp2
    go_ret
    exact ⟨rfl, h, Kp.refl _ _ _⟩
  · have hz' : (b == 0) = false := by simp [hz]
    have hn : (peekI s p != b) = true := by simp; omega
    clear hb hz
    go_enter Tryz.func129, Tryz.ntmps129
    go_wp2_with (go_at_call 144; refine (peek_any rb s p _ h).mono ?_; rintro e w' ⟨rfl, nq, rfl⟩)
    go_ret
    exact ⟨rfl, h.drewN _, (Kp.refl _ _ _).drewN _⟩
set_option maxHeartbeats 400000 in
theorem take_yes (B rb : Nat) (s : ByteArray) (p : Nat) (b : Int) (w : World) (h : Rd w rb s p) (hB : B ≤ rb) (hz : b ≠ 0) (hb : peekI s p = b) :
    Calls Tryz.prog 129 #[.pointer (some ⟨rb, 0, none⟩), .int .u8 b] w fun e w' => e = .returned (.bool true) ∧ Rd w' rb s (p + 1) ∧ Kp B [210] w w' := by
  have hlt : p < s.size := peekI_lt (by omega)
  have hz' : (b == 0) = false := by simp [hz]
  have hn : (peekI s p != b) = false := by simp [hb]
  have h' := h
  have h1 := h.text; have h2 := h.place; have h3 := h.free; have h4 := h.le; have h5 := h.max
  clear hz hb h
  go_enter Tryz.func129, Tryz.ntmps129
  go_wp2_with (go_at_call 144; refine (peek_any rb s p _ h').mono ?_; rintro e w' ⟨rfl, nq, rfl⟩)
  go_ret
  exact ⟨rfl, (h'.drewN _).moved (by omega) (by simp), ((Kp.refl _ _ _).drewN _).setCell (h'.drewN _).blk (by simp) hB _⟩

set_option maxHeartbeats 400000 in
theorem fail_any (B rb : Nat) (s : ByteArray) (p : Nat) (w : World) (h : Rd w rb s p) :
    Calls Tryz.prog 95 #[.pointer (some ⟨rb, 0, none⟩)] w fun e w' => ∃ v, e = .returned v ∧ Chain w' 2 p 0 v ∧ Rd w' rb s p ∧ Kp B [210] w w' := by
  have h2 := h.place
  go_enter Tryz.func95, Tryz.ntmps95
  go_wp2
  go_ret
  exact ⟨_, rfl, ⟨_, rfl, alloc_at _ _⟩, h.alloc _, (Kp.refl _ _ _).alloc _⟩

/-- Where the reader stands, for a loop's measure. -/
def placeOf (w : World) (rb : Nat) : Nat := match w.cell? ⟨rb, 1, none⟩ with | some (.int _ x) => x.toNat | _ => 0
theorem Rd.placeOf {w : World} {rb : Nat} {s : ByteArray} {p : Nat} (h : Rd w rb s p) : placeOf w rb = p := by
  unfold Proofs.YtclpcnignheijaaGreatDoor.placeOf; rw [h.place]; simp

set_option maxHeartbeats 400000 in
theorem spaces_any (B rb : Nat) (s : ByteArray) (p : Nat) (w : World) (h : Rd w rb s p) (hB : B ≤ rb) :
    Calls Tryz.prog 127 #[.pointer (some ⟨rb, 0, none⟩)] w fun e w' => e = .returned (.bool (decide (p < runTo spaceB s p))) ∧ Rd w' rb s (runTo spaceB s p) ∧ Kp B [210] w w' := by
  have h2 := h.place
  have h4 := h.le; have h5 := h.max
  go_enter Tryz.func127, Tryz.ntmps127
  go_wp2
  clear h2
  go_loopw [8] (fun _ wr => ∃ q : Nat, Rd wr rb s q ∧ Hid (runTo spaceB s q = runTo spaceB s p) ∧ Kp B [210] w wr) (fun _ wr => s.size - placeOf wr rb)
  case atStart => exact ⟨p, h, rfl, Kp.refl _ _ _⟩
  case round =>
    obtain ⟨q, hr, HQ, hk⟩ := hrel
    have g2 := hr.place; have g3 := hr.free; have g4 := hr.le
    cases hs : spaceB (peekI s q)
    · have HS := hide hs
      clear hs
      go_wp2_with (first | (go_at_call 144; refine (peek_any rb s q _ hr).mono ?_; rintro e w' ⟨rfl, nq, rfl⟩) | (go_at_call 172; refine (isSpace_is _ _ _ HS.out).mono ?_; rintro e w' ⟨rfl, rfl⟩))
      go_ret
      have e : runTo spaceB s p = q := HQ.out.symm.trans (runTo_no HS.out)
      exact ⟨ret_bool (by rw [e]), by rw [e]; exact hr.drewN _, hk.drewN _⟩
    · have HS := hide hs
      have hlt : q < s.size := peekI_lt (fun e => by rw [e] at hs; revert hs; decide)
      clear hs
      go_wp2_with (first | (go_at_call 144; refine (peek_any rb s q _ hr).mono ?_; rintro e w' ⟨rfl, nq, rfl⟩) | (go_at_call 172; refine (isSpace_is _ _ _ HS.out).mono ?_; rintro e w' ⟨rfl, rfl⟩))
      go_roundw
      case rel => exact ⟨q + 1, (hr.drewN _).moved (by omega) (by simp), hide ((runTo_yes (by decide) HS.out).symm.trans HQ.out), (hk.drewN _).setCell (hr.drewN _).blk (by simp) hB _⟩
      case measure => rw [((hr.drewN _).moved (q := q + 1) (by omega) (by simp)).placeOf, hr.placeOf]; omega

theorem drop_cons {t : ByteArray} {k : Nat} (h : k < t.size) : t.data.toList.drop k = t[k] :: t.data.toList.drop (k + 1) := by
  have h' : k < t.data.toList.length := by simpa using h
  rw [List.drop_eq_getElem_cons h']
  rfl
theorem drop_end {t : ByteArray} {k : Nat} (h : ¬ k < t.size) : t.data.toList.drop k = [] := by
  rw [List.drop_eq_nil_iff]; simp; omega

set_option maxHeartbeats 400000 in
theorem expect_any (B rb : Nat) (s t : ByteArray) (p : Nat) (w : World) (h : Rd w rb s p) (hB : B ≤ rb) (ht : t.size ≤ 2000) :
    Calls Tryz.prog 188 #[.pointer (some ⟨rb, 0, none⟩), .string t] w fun e w' => ∃ v, e = .returned v ∧ Rd w' rb s (expP s t.data.toList p).1 ∧ Kp B [210] w w' ∧
      (((expP s t.data.toList p).2 = true ∧ v = .nilIface) ∨ ((expP s t.data.toList p).2 = false ∧ Chain w' 2 (expP s t.data.toList p).1 0 v)) := by
  have h4 := h.le; have h5 := h.max
  go_enter Tryz.func188, Tryz.ntmps188
  go_wp2
  go_loopw [8] (fun i wr => ∃ k q : Nat, i = .int .i64 k ∧ k ≤ t.size ∧ Rd wr rb s q ∧ Hid (expP s (t.data.toList.drop k) q = expP s t.data.toList p) ∧ Kp B [210] w wr) (fun i _ => t.size - (intOf i).toNat)
  case atStart => exact ⟨0, p, rfl, Nat.zero_le _, h, rfl, Kp.refl _ _ _⟩
  case round =>
    obtain ⟨k, q, rfl, hkt, hr, HQ, hk⟩ := hrel
    by_cases hlt : k < t.size
    · have hc := drop_cons hlt
      by_cases hy : (t[k].toNat : Int) ≠ 0 ∧ peekI s q = (t[k].toNat : Int)
      · obtain ⟨y1, y2⟩ := hy
        have HC := hide hc; have Y1 := hide y1; have Y2 := hide y2
        clear hc y1 y2
        go_wp2_with (go_at_call 129; refine (take_yes B rb s q _ _ hr hB Y1.out Y2.out).mono ?_; rintro e w' ⟨rfl, hr', hk'⟩)
        have hk2 := hk.trans ‹Kp B [210] wr _›
        go_roundw
        case rel =>
          refine ⟨k + 1, q + 1, by go_num, by omega, ‹Rd _ rb s (q + 1)›, hide ?_, hk2⟩
          rw [← HQ.out, HC.out, expP, if_pos ⟨Y1.out, Y2.out⟩]
        case measure => simp [intOf]; omega
      · have HC := hide hc; have HY := hide hy
        clear hc hy
        have e : expP s t.data.toList p = (q, false) := by rw [← HQ.out, HC.out, expP, if_neg HY.out]
        have HE := hide e
        clear e
        go_wp2_with (first | (go_at_call 129; refine (take_no B rb s q _ _ hr (by have := HY.out; omega)).mono ?_; rintro e w' ⟨rfl, hr', hk'⟩) | (go_at_call 95; refine (fail_any B rb s q _ (by assumption)).mono ?_; rintro e w' ⟨v, rfl, hc, hr'', hk''⟩))
        go_ret
        rw [HE.out]
        exact ⟨_, rfl, ‹Rd _ rb s q›, (hk.trans hk').trans hk'', .inr ⟨rfl, hc⟩⟩
    · have e : expP s t.data.toList p = (q, true) := by rw [← HQ.out, drop_end hlt, expP]
      have HE := hide e
      clear e
      go_wp2
      go_ret
      rw [HE.out]
      exact ⟨_, rfl, hr, hk, .inl ⟨rfl, rfl⟩⟩
end Go.Proofs.YtclpcnignheijaaGreatDoor
