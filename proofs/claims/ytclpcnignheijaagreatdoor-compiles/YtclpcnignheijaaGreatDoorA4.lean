import Derived.Test.YtclpcnignheijaaGreatDoorA3
namespace Go.Proofs.YtclpcnignheijaaGreatDoor
open Go.RowKit

set_option maxHeartbeats 800000 in
theorem expectName_any (B rb : Nat) (s t : ByteArray) (p : Nat) (w : World) (h : Rd w rb s p) (hB : B ≤ rb) (ht : t.size ≤ 2000) :
    Calls Tryz.prog 190 #[.pointer (some ⟨rb, 0, none⟩), .string t] w fun e w' => ∃ v, e = .returned v ∧ Rd w' rb s (exnP s t.data.toList p).1 ∧ Kp B [210] w w' ∧
      (((exnP s t.data.toList p).2 = true ∧ v = .nilIface) ∨ ((exnP s t.data.toList p).2 = false ∧ Chain w' 2 (exnP s t.data.toList p).1 0 v)) := by
  have h4 := h.le; have h5 := h.max
  go_enter Tryz.func190, Tryz.ntmps190
  go_wp2
  go_loopw [8] (fun i wr => ∃ k q : Nat, i = .int .i64 k ∧ k ≤ t.size ∧ Rd wr rb s q ∧ Hid (exnP s (t.data.toList.drop k) q = exnP s t.data.toList p) ∧ Kp B [210] w wr) (fun i _ => t.size - (intOf i).toNat)
  case atStart => exact ⟨0, p, rfl, Nat.zero_le _, h, rfl, Kp.refl _ _ _⟩
  case round =>
    obtain ⟨k, q, rfl, hkt, hr, HQ, hk⟩ := hrel
    by_cases hlt : k < t.size
    · have hc := drop_cons hlt
      by_cases hy : smallI (peekI s q) = (t[k].toNat : Int)
      · have hn : (smallI (peekI s q) != (t[k].toNat : Int)) = false := by simp [hy]
        have HC := hide hc; have HY := hide hy
        clear hc hy
        go_wp2
        go_quiet ((first | (go_at_call 144; exact Calls.quiet_of (peek_any rb s q _ (hr.drewN _))) | (go_at_call 87; exact Calls.quiet_of_same (smallByte_any _ _))))
        go_wp2_with (go_at_call 189; refine (skip_any B rb s q _ (hr.drewN _) hB).mono ?_; rintro e w' ⟨rfl, hr', hk'⟩)
        have hk2 := hk.trans hk'.fromDrewN
        go_roundw
        case rel =>
          refine ⟨k + 1, skipP s q, by go_num, by omega, hr', hide ?_, hk2⟩
          rw [← HQ.out, HC.out, exnP, if_pos HY.out]
        case measure => simp [intOf]; omega
      · have hn : (smallI (peekI s q) != (t[k].toNat : Int)) = true := by simp [hy]
        have HC := hide hc; have HY := hide hy
        clear hc hy
        have e : exnP s t.data.toList p = (q, false) := by rw [← HQ.out, HC.out, exnP, if_neg HY.out]
        have HE := hide e
        clear e
        go_wp2
        go_quiet ((first | (go_at_call 144; exact Calls.quiet_of (peek_any rb s q _ (hr.drewN _))) | (go_at_call 87; exact Calls.quiet_of_same (smallByte_any _ _))))
        go_wp2_with (go_at_call 95; refine (fail_any B rb s q _ (hr.drewN _)).mono ?_; rintro e w' ⟨v, rfl, hc, hr'', hk''⟩)
        go_ret
        rw [HE.out]
        exact ⟨_, rfl, hr'', hk.trans hk''.fromDrewN, .inr ⟨rfl, hc⟩⟩
    · have e : exnP s t.data.toList p = (q, !nameB (peekI s q)) := by rw [← HQ.out, drop_end hlt, exnP]
      have HE := hide e
      clear e
      cases hn : nameB (peekI s q)
      · have HN := hide hn
        clear hn
        go_wp2_with (first | (go_at_call 144; refine (peek_any rb s q _ hr).mono ?_; rintro e w' ⟨rfl, nq, rfl⟩) | (go_at_call 220; refine (isName_is _ _ _ HN.out).mono ?_; rintro e w' ⟨rfl, rfl⟩))
        go_ret
        rw [HE.out, HN.out]
        exact ⟨_, rfl, hr.drewN _, hk.drewN _, .inl ⟨rfl, rfl⟩⟩
      · have HN := hide hn
        clear hn
        go_wp2_with (first | (go_at_call 144; refine (peek_any rb s q _ hr).mono ?_; rintro e w' ⟨rfl, nq, rfl⟩) | (go_at_call 220; refine (isName_is _ _ _ HN.out).mono ?_; rintro e w' ⟨rfl, rfl⟩) | (go_at_call 95; refine (fail_any B rb s q _ (hr.drewN _)).mono ?_; rintro e w' ⟨v, rfl, hc, hr'', hk''⟩))
        go_ret
        rw [HE.out, HN.out]
        exact ⟨_, rfl, hr'', hk.trans hk''.fromDrewN, .inr ⟨rfl, hc⟩⟩

/-! ### Attributes -/
def attrCells : List (ByteArray × ByteArray) → List Value
  | [] => []
  | x :: r => .string x.1 :: .string x.2 :: attrCells r
theorem attrCells_len : ∀ l, (attrCells l).length = l.length * 2
  | [] => rfl
  | x :: r => by simp [attrCells, attrCells_len r]; omega
theorem attrCells_at : ∀ (l : List (ByteArray × ByteArray)) (k : Nat) (x : ByteArray × ByteArray), l[k]? = some x → (attrCells l)[k * 2]? = some (.string x.1) ∧ (attrCells l)[k * 2 + 1]? = some (.string x.2)
  | [], k, x, h => by simp at h
  | y :: r, 0, x, h => by simp at h; subst h; exact ⟨rfl, rfl⟩
  | y :: r, k + 1, x, h => by
    have := attrCells_at r k x (by simpa using h)
    rw [show (k + 1) * 2 = k * 2 + 2 from by omega]
    exact this
def hasN (l : List (ByteArray × ByteArray)) (n : ByteArray) : Bool := l.any fun x => x.1.toList == n.toList

set_option maxHeartbeats 800000 in
theorem hasName_any (B g cap : Nat) (l : List (ByteArray × ByteArray)) (n : ByteArray) (w : World) (ho : w.ownsRow B 169 2 (.slice (some ⟨g, 0, none⟩) l.length cap) l.length (attrCells l)) (hl : l.length ≤ 2000) :
    Calls Tryz.prog 263 #[.slice (some ⟨g, 0, none⟩) l.length cap, .string n] w fun e w' => e = .returned (.bool (hasN l n)) ∧ Below w.heap.size w w' := by
  go_enter Tryz.func263, Tryz.ntmps263
  go_wp2
  go_loopw [9] (fun i wr => ∃ k : Nat, i = .int .i64 k ∧ k ≤ l.length ∧ Below w.heap.size w wr ∧ Hid (hasN l n = hasN (l.drop k) n)) (fun i _ => l.length - (intOf i).toNat)
  case atStart => exact ⟨0, rfl, Nat.zero_le _, Below.refl _ _, rfl⟩
  case round =>
    obtain ⟨k, rfl, hkl, hbl, HQ⟩ := hrel
    by_cases hlt : k < l.length
    · obtain ⟨x, hx⟩ : ∃ x, l[k]? = some x := ⟨l[k], List.getElem?_eq_getElem hlt⟩
      obtain ⟨a1, a2⟩ := attrCells_at l k x hx
      have hg : g < w.heap.size := (ho.lt g rfl).2
      have c1 : wr.cell? ⟨g, k * 2, none⟩ = some (.string x.1) := by rw [hbl.cell (p := ⟨g, k * 2, none⟩) hg, ho.cellAt _ (by omega), a1]
      have c2 : wr.cell? ⟨g, k * 2 + 1, none⟩ = some (.string x.2) := by rw [hbl.cell (p := ⟨g, k * 2 + 1, none⟩) hg, ho.cellAt _ (by omega), a2]
      clear a1 a2
      have HX := hide hx
      clear hx
      go_wp2
      · go_ret
        have e : (x.1.toList == n.toList) = true := by assumption
        refine ⟨ret_bool ?_, hbl.alloc hbl.size _⟩
        rw [HQ.out, List.drop_eq_getElem_cons hlt]
        have e2 : l[k] = x := by have := HX.out; rw [List.getElem?_eq_getElem hlt] at this; exact Option.some.inj this
        simp [hasN, e2, e]
      · have e : (x.1.toList == n.toList) = false := by assumption
        go_roundw
        case rel =>
          refine ⟨k + 1, by go_num, by omega, hbl.alloc hbl.size _, hide ?_⟩
          rw [HQ.out, List.drop_eq_getElem_cons hlt]
          have e2 : l[k] = x := by have := HX.out; rw [List.getElem?_eq_getElem hlt] at this; exact Option.some.inj this
          simp [hasN, e2, e]
        case measure => simp [intOf]; omega
    · go_wp2
      go_ret
      refine ⟨ret_bool ?_, hbl⟩
      rw [HQ.out, List.drop_eq_nil_of_le (by omega)]
      rfl
set_option maxHeartbeats 400000 in
theorem hasName_nil (n : ByteArray) (w : World) :
    Calls Tryz.prog 263 #[.slice none 0 0, .string n] w fun e w' => e = .returned (.bool false) ∧ Below w.heap.size w w' := by
  go_enter Tryz.func263, Tryz.ntmps263
  go_wp2
  refine wp_loop_rounds 1 ?_
  rw [rounds_succ]
  go_wp2
  go_ret
  exact ⟨rfl, Below.refl _ _⟩
theorem hasName_own (B : Nat) (l : List (ByteArray × ByteArray)) (v : Value) (n : ByteArray) (w : World) (ho : w.ownsRow B 169 2 v l.length (attrCells l)) (hl : l.length ≤ 2000) :
    Calls Tryz.prog 263 #[v, .string n] w fun e w' => e = .returned (.bool (hasN l n)) ∧ Below w.heap.size w w' := by
  rcases ho.2 with ⟨hv, h0⟩ | ⟨g, cap, cur, hv, _⟩
  · have : l = [] := List.eq_nil_of_length_eq_zero h0
    subst this; subst hv
    exact hasName_nil n w
  · subst hv
    exact hasName_any B g cap l n w ho hl
set_option maxHeartbeats 400000 in
theorem closure_has (B cb : Nat) (l : List (ByteArray × ByteArray)) (v : Value) (n : ByteArray) (w : World) (hb : w.heap[cb]? = some (.cells #[v] 137 (0, 0))) (ho : w.ownsRow B 169 2 v l.length (attrCells l)) (hl : l.length ≤ 2000) :
    Calls Tryz.prog 262 #[.string n, .pointer (some ⟨cb, 0, none⟩)] w fun e w' => e = .returned (.bool (hasN l n)) ∧ Below w.heap.size w w' := by
  have c0 := cell_of_one hb
  go_enter Tryz.func262, Tryz.ntmps262
  go_wp2_with (go_at_call 263; refine (hasName_own B l v n _ ho hl).mono ?_; rintro e w' ⟨rfl, hbl⟩)
  go_ret
  exact ⟨rfl, hbl⟩
theorem closure_hasv (B cb : Nat) (l : List (ByteArray × ByteArray)) (v : Value) (n : ByteArray) (w : World) (b : Bool) (hb : w.heap[cb]? = some (.cells #[v] 137 (0, 0))) (ho : w.ownsRow B 169 2 v l.length (attrCells l)) (hl : l.length ≤ 2000) (h : hasN l n = b) :
    Calls Tryz.prog 262 #[.string n, .pointer (some ⟨cb, 0, none⟩)] w fun e w' => e = .returned (.bool b) ∧ Below w.heap.size w w' := by
  subst h; exact closure_has B cb l v n w hb ho hl
set_option maxHeartbeats 400000 in
theorem closure_no (n : ByteArray) (w : World) :
    Calls Tryz.prog 222 #[.string n] w fun e w' => e = .returned (.bool false) ∧ Below w.heap.size w w' := by
  go_enter Tryz.func222, Tryz.ntmps222
  go_wp2
  go_ret
  exact ⟨rfl, Below.refl _ _⟩
end Go.Proofs.YtclpcnignheijaaGreatDoor
