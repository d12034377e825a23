import Derived.Test.YtclpcnignheijaaGreatDoorA4
import Derived.Deep.RegionWith
namespace Go.Proofs.YtclpcnignheijaaGreatDoor
open Go.RowKit

def nameEnd (s : ByteArray) (p : Nat) : Nat := runP nameB s 16 p
def nameAt (s : ByteArray) (p : Nat) : ByteArray := ⟨(smallL ((s.data.toList.drop p).take (nameEnd s p - p))).toArray⟩
def newP (s : ByteArray) (p : Nat) (taken : ByteArray → Bool) : Nat × Option ByteArray :=
  if letterB (peekI s p) = false then (p, none)
  else if taken (nameAt s p) = true then (if nameEnd s p - p = 16 then nameEnd s p - 1 else nameEnd s p, none)
  else if nameB (peekI s (nameEnd s p)) = true then (nameEnd s p, none)
  else (nameEnd s p, some (nameAt s p))
theorem nameEnd_le {s : ByteArray} {p : Nat} (h : p ≤ s.size) : p ≤ nameEnd s p ∧ nameEnd s p ≤ s.size ∧ nameEnd s p ≤ p + 16 := runP_le nameB (by decide) s 16 p h
theorem nameAt_size {s : ByteArray} {p : Nat} (h : p ≤ s.size) : (nameAt s p).size = nameEnd s p - p := by
  have := nameEnd_le h
  show (smallL ((s.data.toList.drop p).take (nameEnd s p - p))).toArray.size = _
  simp [smallL]; omega
theorem Rd.belowD {wr wx w' : World} {rb N : Nat} {s : ByteArray} {q : Nat} (h : Rd wr rb s q) (hb : Below N wx w') (hx : wx.heap = wr.heap) (hN : N = wr.heap.size) : Rd w' rb s q := by
  refine ⟨?_, h.2, h.3⟩
  rw [hb.block rb (by rw [hN]; exact lt_of_block h.1), hx]; exact h.1
theorem Kp.belowD {B : Nat} {T : List TypeId} {w wr wx w' : World} {N : Nat} (h : Kp B T w wr) (hb : Below N wx w') (hx : wx.heap = wr.heap) (ho : wx.os = wr.os) (ht : wx.tape = wr.tape) (hp : wx.output = wr.output) (hN : N = wr.heap.size) : Kp B T w w' :=
  h.trans ⟨hb.os.trans ho, hb.tape.trans ht, hb.output.trans hp, by rw [← hx]; exact hb.size, fun k hk _ => by rw [hb.block k (by omega), hx]⟩
theorem runP_yes {f : Int → Bool} {s : ByteArray} {n q : Nat} (h : f (peekI s q) = true) : runP f s (n + 1) q = runP f s n (q + 1) := by rw [runP, if_pos h]
theorem runP_no {f : Int → Bool} {s : ByteArray} {n q : Nat} (h : f (peekI s q) = false) : runP f s n q = q := by
  cases n with
  | zero => rfl
  | succ n => rw [runP, if_neg (by rw [h]; exact Bool.false_ne_true)]
theorem newP_taken {s : ByteArray} {p q : Nat} {taken : ByteArray → Bool} {nm : ByteArray} (hl : letterB (peekI s p) = true) (hn : nameAt s p = nm) (hq : nameEnd s p = q) (ht : taken nm = true) : newP s p taken = (if q - p = 16 then q - 1 else q, none) := by
  unfold newP; rw [if_neg (by rw [hl]; exact Bool.noConfusion), hn, if_pos ht, hq]
theorem newP_free {s : ByteArray} {p q : Nat} {taken : ByteArray → Bool} {nm : ByteArray} (hl : letterB (peekI s p) = true) (hn : nameAt s p = nm) (hq : nameEnd s p = q) (ht : taken nm = false) : newP s p taken = if nameB (peekI s q) = true then (q, none) else (q, some nm) := by
  unfold newP; rw [if_neg (by rw [hl]; exact Bool.noConfusion), hn, if_neg (by rw [ht]; exact Bool.noConfusion), hq]
def noneTaken : ByteArray → Bool := fun _ => false
theorem newP_le (s : ByteArray) (p : Nat) (taken : ByteArray → Bool) (h : p ≤ s.size) : p ≤ (newP s p taken).1 ∧ (newP s p taken).1 ≤ s.size := by
  have := nameEnd_le h
  unfold newP
  split
  · exact ⟨Nat.le_refl _, h⟩
  · split
    · split <;> (constructor <;> dsimp only <;> omega)
    · split <;> exact ⟨this.1, this.2.1⟩

def wordB (b : Int) : Bool := nameB b || b == 95
def subB (s : ByteArray) (p q : Nat) : ByteArray := ⟨((s.data.toList.drop p).take (q - p)).toArray⟩
theorem subB_eq (s : ByteArray) (p q : Nat) : s.extract p q = subB s p q := by
  apply ByteArray.ext
  apply Array.toList_inj.mp
  simp [subB]
theorem subB_list (s : ByteArray) (p q : Nat) : (subB s p q).data.toList = (s.data.toList.drop p).take (q - p) := rfl
theorem subB_size {s : ByteArray} {p q : Nat} (h : q ≤ s.size) (hp : p ≤ q) : (subB s p q).size = q - p := by
  show ((s.data.toList.drop p).take (q - p)).toArray.size = _
  simp; omega
set_option maxHeartbeats 400000 in
theorem isWord_any (b : Int) (w : World) :
    Calls Tryz.prog 267 #[.int .u8 b] w fun e w' => e = .returned (.bool (wordB b)) ∧ w' = w := by
  go_enter Tryz.func267, Tryz.ntmps267
  go_wp2_with (go_at_call 220; refine (isName_any _ _).mono ?_; rintro e w' ⟨rfl, rfl⟩)
  all_goals (go_ret; exact ⟨ret_bool (by simp [wordB, *]), rfl⟩)
theorem isWord_is (b : Int) (w : World) (v : Bool) (h : wordB b = v) :
    Calls Tryz.prog 267 #[.int .u8 b] w fun e w' => e = .returned (.bool v) ∧ w' = w := by
  subst h; exact isWord_any b w

set_option maxHeartbeats 1000000 in
theorem run_name (B rb : Nat) (s : ByteArray) (p : Nat) (w : World) (h : Rd w rb s p) (hB : B ≤ rb) :
    Calls Tryz.prog 245 #[.pointer (some ⟨rb, 0, none⟩), .func (Fn.func 220) #[] #[]] w fun e w' => e = .returned (.string (subB s p (runP nameB s 16 p))) ∧ Rd w' rb s (runP nameB s 16 p) ∧ Kp B [210] w w' := by
  have h4 := h.le; have h5 := h.max
  have h2 := h.place
  go_enter Tryz.func245, Tryz.ntmps245
  go_wp2
  clear h2
  go_loopw [10] (fun _ wr => ∃ q : Nat, Rd wr rb s q ∧ p ≤ q ∧ q ≤ p + 16 ∧ Hid (runP nameB s (16 - (q - p)) q = runP nameB s 16 p) ∧ Kp B [210] w wr) (fun _ wr => s.size - placeOf wr rb)
  case atStart => exact ⟨p, h, Nat.le_refl _, by omega, by rw [Nat.sub_self]; rfl, Kp.refl _ _ _⟩
  case round =>
    obtain ⟨q, hr, hpq, hq16, HQ, hk⟩ := hrel
    have g2 := hr.place; have g3 := hr.free; have g4 := hr.le
    by_cases hy : nameB (peekI s q) = true ∧ q < p + 16
    · obtain ⟨y1, y2⟩ := hy
      have Y1 := hide y1
      have hlt : q < s.size := peekI_lt (fun e => by rw [e] at y1; revert y1; decide)
      clear y1
      go_wp2_with (first | (go_at_call 144; refine (peek_any rb s q _ hr).mono ?_; rintro e w' ⟨rfl, nq, rfl⟩) | (go_at_call 220; refine (isName_is _ _ _ Y1.out).mono ?_; rintro e w' ⟨rfl, rfl⟩))
      go_roundw
      case rel =>
        refine ⟨q + 1, (hr.drewN _).moved (by omega) (by simp), by omega, by omega, hide ?_, (hk.drewN _).setCell (hr.drewN _).blk (by simp) hB _⟩
        rw [← HQ.out, show 16 - (q - p) = (16 - (q + 1 - p)) + 1 from by omega, runP_yes Y1.out]
      case measure => rw [((hr.drewN _).moved (q := q + 1) (by omega) (by simp)).placeOf, hr.placeOf]; omega
    · have hend : runP nameB s 16 p = q := by
        rw [← HQ.out]
        cases hn : nameB (peekI s q)
        · exact runP_no hn
        · rw [show 16 - (q - p) = 0 from by have : ¬ q < p + 16 := fun h => hy ⟨hn, h⟩
                                            omega]; rfl
      have HEnd := hide hend
      have g1 := hr.text
      have hor : nameB (peekI s q) = false ∨ (nameB (peekI s q) = true ∧ p + 16 ≤ q) := by
        cases hn : nameB (peekI s q)
        · exact .inl rfl
        · exact .inr ⟨rfl, by have : ¬ q < p + 16 := fun h => hy ⟨hn, h⟩
                              omega⟩
      clear hy hend h
      rcases hor with hn | ⟨hn, hge⟩
      all_goals
        have HNm := hide hn
        clear hn
        go_wp2_with (first | (go_at_call 144; refine (peek_any rb s q _ hr).mono ?_; rintro e w' ⟨rfl, nq, rfl⟩) | (go_at_call 220; refine (isName_is _ _ _ HNm.out).mono ?_; rintro e w' ⟨rfl, rfl⟩))
        go_quiet (fail)
        go_wp2
        go_ret
      all_goals (rw [HEnd.out]; exact ⟨congrArg (fun x => Ending.returned (.string x)) (subB_eq s p q), by first | exact hr.drewN _ | exact (hr.drewN _).drewN _, by first | exact hk.drewN _ | exact (hk.drewN _).drewN _⟩)

set_option maxHeartbeats 1000000 in
theorem run_word (B rb : Nat) (s : ByteArray) (p : Nat) (w : World) (h : Rd w rb s p) (hB : B ≤ rb) :
    Calls Tryz.prog 245 #[.pointer (some ⟨rb, 0, none⟩), .func (Fn.func 267) #[] #[]] w fun e w' => e = .returned (.string (subB s p (runP wordB s 16 p))) ∧ Rd w' rb s (runP wordB s 16 p) ∧ Kp B [210] w w' := by
  have h4 := h.le; have h5 := h.max
  have h2 := h.place
  go_enter Tryz.func245, Tryz.ntmps245
  go_wp2
  clear h2
  go_loopw [10] (fun _ wr => ∃ q : Nat, Rd wr rb s q ∧ p ≤ q ∧ q ≤ p + 16 ∧ Hid (runP wordB s (16 - (q - p)) q = runP wordB s 16 p) ∧ Kp B [210] w wr) (fun _ wr => s.size - placeOf wr rb)
  case atStart => exact ⟨p, h, Nat.le_refl _, by omega, by rw [Nat.sub_self]; rfl, Kp.refl _ _ _⟩
  case round =>
    obtain ⟨q, hr, hpq, hq16, HQ, hk⟩ := hrel
    have g2 := hr.place; have g3 := hr.free; have g4 := hr.le
    by_cases hy : wordB (peekI s q) = true ∧ q < p + 16
    · obtain ⟨y1, y2⟩ := hy
      have Y1 := hide y1
      have hlt : q < s.size := peekI_lt (fun e => by rw [e] at y1; revert y1; decide)
      clear y1
      go_wp2_with (first | (go_at_call 144; refine (peek_any rb s q _ hr).mono ?_; rintro e w' ⟨rfl, nq, rfl⟩) | (go_at_call 267; refine (isWord_is _ _ _ Y1.out).mono ?_; rintro e w' ⟨rfl, rfl⟩))
      go_roundw
      case rel =>
        refine ⟨q + 1, (hr.drewN _).moved (by omega) (by simp), by omega, by omega, hide ?_, (hk.drewN _).setCell (hr.drewN _).blk (by simp) hB _⟩
        rw [← HQ.out, show 16 - (q - p) = (16 - (q + 1 - p)) + 1 from by omega, runP_yes Y1.out]
      case measure => rw [((hr.drewN _).moved (q := q + 1) (by omega) (by simp)).placeOf, hr.placeOf]; omega
    · have hend : runP wordB s 16 p = q := by
        rw [← HQ.out]
        cases hn : wordB (peekI s q)
        · exact runP_no hn
        · rw [show 16 - (q - p) = 0 from by have : ¬ q < p + 16 := fun h => hy ⟨hn, h⟩
                                            omega]; rfl
      have HEnd := hide hend
      have g1 := hr.text
      have hor : wordB (peekI s q) = false ∨ (wordB (peekI s q) = true ∧ p + 16 ≤ q) := by
        cases hn : wordB (peekI s q)
        · exact .inl rfl
        · exact .inr ⟨rfl, by have : ¬ q < p + 16 := fun h => hy ⟨hn, h⟩
                              omega⟩
      clear hy hend h
      rcases hor with hn | ⟨hn, hge⟩
      all_goals
        have HNm := hide hn
        clear hn
        go_wp2_with (first | (go_at_call 144; refine (peek_any rb s q _ hr).mono ?_; rintro e w' ⟨rfl, nq, rfl⟩) | (go_at_call 267; refine (isWord_is _ _ _ HNm.out).mono ?_; rintro e w' ⟨rfl, rfl⟩))
        go_quiet (fail)
        go_wp2
        go_ret
      all_goals (rw [HEnd.out]; exact ⟨congrArg (fun x => Ending.returned (.string x)) (subB_eq s p q), by first | exact hr.drewN _ | exact (hr.drewN _).drewN _, by first | exact hk.drewN _ | exact (hk.drewN _).drewN _⟩)

theorem run_nameE (B rb : Nat) (s : ByteArray) (p q : Nat) (w : World) (h : Rd w rb s p) (hB : B ≤ rb) (hq : nameEnd s p = q) :
    Calls Tryz.prog 245 #[.pointer (some ⟨rb, 0, none⟩), .func (Fn.func 220) #[] #[]] w fun e w' => e = .returned (.string (subB s p q)) ∧ Rd w' rb s q ∧ Kp B [210] w w' := by
  subst hq; exact run_name B rb s p w h hB

set_option maxHeartbeats 1000000 in
theorem newName_no (B rb : Nat) (s : ByteArray) (p : Nat) (w : World) (h : Rd w rb s p) (hB : B ≤ rb) :
    Calls Tryz.prog 221 #[.pointer (some ⟨rb, 0, none⟩), .func (Fn.func 222) #[] #[]] w fun e w' => ∃ n v, e = .returned (.tuple #[.string n, v]) ∧ Rd w' rb s (newP s p noneTaken).1 ∧ Kp B [210] w w' ∧
      ((some n = (newP s p noneTaken).2 ∧ v = .nilIface) ∨ ((newP s p noneTaken).2 = none ∧ Chain w' 2 (newP s p noneTaken).1 0 v)) := by
  have h4 := h.le; have h5 := h.max
  cases hl : letterB (peekI s p)
  · have HE : Hid (newP s p noneTaken = (p, none)) := by unfold newP; rw [if_pos hl]; rfl
    have HL := hide hl
    clear hl
    go_enter Tryz.func221, Tryz.ntmps221
    go_wp2_with (first | (go_at_call 144; refine (peek_any rb s p _ h).mono ?_; rintro e w' ⟨rfl, nq, rfl⟩) | (go_at_call 243; refine (isLetter_is _ _ _ HL.out).mono ?_; rintro e w' ⟨rfl, rfl⟩) | (go_at_call 95; refine (fail_any B rb s p _ (h.drewN _)).mono ?_; rintro e w' ⟨v, rfl, hc, hr'', hk''⟩))
    go_ret2
    rw [HE.out]
    exact ⟨_, _, rfl, hr'', hk''.fromDrewN, .inr ⟨rfl, hc⟩⟩
  · have HL := hide hl
    clear hl
    obtain ⟨q, hq⟩ : ∃ q, nameEnd s p = q := ⟨_, rfl⟩
    have hnl := nameEnd_le h4
    have hsz := nameAt_size h4
    rw [hq] at hnl hsz
    have HEnd := hide hq
    have HName : Hid (nameAt s p = (⟨(smallL (subB s p q).data.toList).toArray⟩ : ByteArray)) := by unfold nameAt; rw [hq]; rfl
    rw [HName.out] at hsz
    obtain ⟨hpq, hqs, hq16⟩ := hnl
    have hsb : (subB s p q).size ≤ 140737488351232 := by rw [subB_size hqs hpq]; omega
    clear hq
    go_enter Tryz.func221, Tryz.ntmps221
    go_wp2_with (first | (go_at_call 144; refine (peek_any rb s p _ h).mono ?_; rintro e w' ⟨rfl, nq, rfl⟩) | (go_at_call 243; refine (isLetter_is _ _ _ HL.out).mono ?_; rintro e w' ⟨rfl, rfl⟩) | (go_at_call 245; refine (run_nameE B rb s p q _ (h.drewN _) hB HEnd.out).mono ?_; rintro e wr ⟨rfl, hr, hk0⟩; have hk := hk0.fromDrewN; clear hk0) | (go_at_call 56; refine (small_any _ _ hsb).mono ?_; rintro e w' ⟨rfl, hbl⟩))
    have hr2 := hr.belowD hbl rfl rfl
    have hk2 := hk.belowD hbl rfl rfl rfl rfl rfl
    clear hbl
    generalize hnm : ({ data := (smallL (subB s p q).data.toList).toArray } : ByteArray) = nm at *
    clear hnm
    have g2 := hr2.place; have g3 := hr2.free
    cases hn : nameB (peekI s q)
    all_goals
      have HNm := hide hn
      clear hn
      cases htk : noneTaken nm
      · have HT := hide htk
        clear htk
        have HF : Hid (newP s p noneTaken = if nameB (peekI s q) = true then (q, none) else (q, some nm)) := by
          exact newP_free HL.out HName.out HEnd.out HT.out
        go_wp2_with (first | (go_at_call 222; refine (closure_no _ _).mono ?_; rintro e w3 ⟨rfl, hbl3⟩; have hr3 := hr2.belowD hbl3 rfl rfl; have hk3 := hk2.belowD hbl3 rfl rfl rfl rfl rfl; have g5 := hr3.place; have g6 := hr3.free) | (go_at_call 144; refine (peek_any rb s q _ hr3).mono ?_; rintro e w5 ⟨rfl, nq5, rfl⟩) | (go_at_call 220; refine (isName_is _ _ _ HNm.out).mono ?_; rintro e w5 ⟨rfl, rfl⟩) | (go_at_call 95; refine (fail_any B rb s q _ (hr3.drewN _)).mono ?_; rintro e w4 ⟨v, rfl, hc, hr4, hk4⟩))
        go_ret2
        rw [HF.out, HNm.out]
        first | rw [if_pos rfl] | rw [if_neg Bool.false_ne_true]
        first
          | exact ⟨_, _, rfl, hr3.drewN _, hk3.drewN _, .inl ⟨rfl, rfl⟩⟩
          | exact ⟨_, _, rfl, hr4, hk3.trans hk4.fromDrewN, .inr ⟨rfl, hc⟩⟩
      · cases htk


set_option maxHeartbeats 1000000 in
theorem newName_has (B rb : Nat) (s : ByteArray) (p : Nat) (cb : Nat) (l : List (ByteArray × ByteArray)) (bv : Value) (w : World) (h : Rd w rb s p) (hB : B ≤ rb) (hcb : w.heap[cb]? = some (.cells #[bv] 137 (0, 0))) (ho : w.ownsRow B 169 2 bv l.length (attrCells l)) (hll : l.length ≤ 2000) :
    Calls Tryz.prog 221 #[.pointer (some ⟨rb, 0, none⟩), .func (Fn.func 262) #[] #[.pointer (some ⟨cb, 0, none⟩)]] w fun e w' => ∃ n v, e = .returned (.tuple #[.string n, v]) ∧ Rd w' rb s (newP s p (hasN l)).1 ∧ Kp B [210] w w' ∧
      ((some n = (newP s p (hasN l)).2 ∧ v = .nilIface) ∨ ((newP s p (hasN l)).2 = none ∧ Chain w' 2 (newP s p (hasN l)).1 0 v)) := by
  have h4 := h.le; have h5 := h.max
  cases hl : letterB (peekI s p)
  · have HE : Hid (newP s p (hasN l) = (p, none)) := by unfold newP; rw [if_pos hl]; rfl
    have HL := hide hl
    clear hl
    go_enter Tryz.func221, Tryz.ntmps221
    go_wp2_with (first | (go_at_call 144; refine (peek_any rb s p _ h).mono ?_; rintro e w' ⟨rfl, nq, rfl⟩) | (go_at_call 243; refine (isLetter_is _ _ _ HL.out).mono ?_; rintro e w' ⟨rfl, rfl⟩) | (go_at_call 95; refine (fail_any B rb s p _ (h.drewN _)).mono ?_; rintro e w' ⟨v, rfl, hc, hr'', hk''⟩))
    go_ret2
    rw [HE.out]
    exact ⟨_, _, rfl, hr'', hk''.fromDrewN, .inr ⟨rfl, hc⟩⟩
  · have HL := hide hl
    clear hl
    obtain ⟨q, hq⟩ : ∃ q, nameEnd s p = q := ⟨_, rfl⟩
    have hnl := nameEnd_le h4
    have hsz := nameAt_size h4
    rw [hq] at hnl hsz
    have HEnd := hide hq
    have HName : Hid (nameAt s p = (⟨(smallL (subB s p q).data.toList).toArray⟩ : ByteArray)) := by unfold nameAt; rw [hq]; rfl
    rw [HName.out] at hsz
    obtain ⟨hpq, hqs, hq16⟩ := hnl
    have hsb : (subB s p q).size ≤ 140737488351232 := by rw [subB_size hqs hpq]; omega
    clear hq
    go_enter Tryz.func221, Tryz.ntmps221
    go_wp2_with (first | (go_at_call 144; refine (peek_any rb s p _ h).mono ?_; rintro e w' ⟨rfl, nq, rfl⟩) | (go_at_call 243; refine (isLetter_is _ _ _ HL.out).mono ?_; rintro e w' ⟨rfl, rfl⟩) | (go_at_call 245; refine (run_nameE B rb s p q _ (h.drewN _) hB HEnd.out).mono ?_; rintro e wr ⟨rfl, hr, hk0⟩; have hk := hk0.fromDrewN; clear hk0) | (go_at_call 56; refine (small_any _ _ hsb).mono ?_; rintro e w' ⟨rfl, hbl⟩))
    have hr2 := hr.belowD hbl rfl rfl
    have hk2 := hk.belowD hbl rfl rfl rfl rfl rfl
    clear hbl
    generalize hnm : ({ data := (smallL (subB s p q).data.toList).toArray } : ByteArray) = nm at *
    clear hnm
    have g2 := hr2.place; have g3 := hr2.free
    cases hn : nameB (peekI s q)
    all_goals
      have HNm := hide hn
      clear hn
      cases htk : (hasN l) nm
      · have HT := hide htk
        clear htk
        have HF : Hid (newP s p (hasN l) = if nameB (peekI s q) = true then (q, none) else (q, some nm)) := by
          exact newP_free HL.out HName.out HEnd.out HT.out
        go_wp2_with (first | (go_at_call 262; refine (closure_hasv B cb l bv _ _ _ (by have := hk2.at hcb (by decide); exact this) (hk2.owns ho (by decide)) hll HT.out).mono ?_; rintro e w3 ⟨rfl, hbl3⟩; have hr3 := hr2.belowD hbl3 rfl rfl; have hk3 := hk2.belowD hbl3 rfl rfl rfl rfl rfl; have g5 := hr3.place; have g6 := hr3.free) | (go_at_call 144; refine (peek_any rb s q _ hr3).mono ?_; rintro e w5 ⟨rfl, nq5, rfl⟩) | (go_at_call 220; refine (isName_is _ _ _ HNm.out).mono ?_; rintro e w5 ⟨rfl, rfl⟩) | (go_at_call 95; refine (fail_any B rb s q _ (hr3.drewN _)).mono ?_; rintro e w4 ⟨v, rfl, hc, hr4, hk4⟩))
        go_ret2
        rw [HF.out, HNm.out]
        first | rw [if_pos rfl] | rw [if_neg Bool.false_ne_true]
        first
          | exact ⟨_, _, rfl, hr3.drewN _, hk3.drewN _, .inl ⟨rfl, rfl⟩⟩
          | exact ⟨_, _, rfl, hr4, hk3.trans hk4.fromDrewN, .inr ⟨rfl, hc⟩⟩
      · have HT := hide htk
        clear htk
        have HF : Hid (newP s p (hasN l) = (if q - p = 16 then q - 1 else q, none)) := by
          exact newP_taken HL.out HName.out HEnd.out HT.out
        by_cases h16 : q = p + 16
        · have e16 : ((nm.size : Int) == 16) = true := by rw [beq_iff_eq, hsz]; omega
          have hq1 : 16 ≤ q := by omega
          have H16 := hide h16
          clear h16
          go_wp2_with (first | (go_at_call 262; refine (closure_hasv B cb l bv _ _ _ (by have := hk2.at hcb (by decide); exact this) (hk2.owns ho (by decide)) hll HT.out).mono ?_; rintro e w3 ⟨rfl, hbl3⟩; have hr3 := hr2.belowD hbl3 rfl rfl; have hk3 := hk2.belowD hbl3 rfl rfl rfl rfl rfl; have g5 := hr3.place; have g6 := hr3.free) | (go_at_call 95; refine (fail_any B rb s (q - 1) _ (hr3.moved (q := q - 1) (by omega) (by omega))).mono ?_; rintro e w4 ⟨v, rfl, hc, hr4, hk4⟩))
          go_ret2
          rw [HF.out, if_pos (by have := H16.out; omega)]
          exact ⟨_, _, rfl, hr4, (hk3.setCell hr3.blk (by simp) hB _).trans hk4, .inr ⟨rfl, hc⟩⟩
        · first
            | (exfalso; omega)
            | (have e16 : ((nm.size : Int) == 16) = false := by rw [beq_eq_false_iff_ne, hsz]; omega
               have H16 := hide h16
               clear h16
               go_wp2_with (first | (go_at_call 262; refine (closure_hasv B cb l bv _ _ _ (by have := hk2.at hcb (by decide); exact this) (hk2.owns ho (by decide)) hll HT.out).mono ?_; rintro e w3 ⟨rfl, hbl3⟩; have hr3 := hr2.belowD hbl3 rfl rfl; have hk3 := hk2.belowD hbl3 rfl rfl rfl rfl rfl; have g5 := hr3.place; have g6 := hr3.free) | (go_at_call 95; refine (fail_any B rb s q _ hr3).mono ?_; rintro e w4 ⟨v, rfl, hc, hr4, hk4⟩))
               go_ret2
               rw [HF.out, if_neg (by have := H16.out; omega)]
               exact ⟨_, _, rfl, hr4, hk3.trans hk4, .inr ⟨rfl, hc⟩⟩)

end Go.Proofs.YtclpcnignheijaaGreatDoor
