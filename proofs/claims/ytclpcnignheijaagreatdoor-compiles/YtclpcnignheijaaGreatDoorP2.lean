/-
  Words that stand ahead: of a list of words in which only one goes on behind what stands there, that one is asked for, byte by byte; and the openings that begin with a colon are the pseudo names behind it.
-/
import Derived.Test.YtclpcnignheijaaGreatDoorS4
namespace Go.Proofs.YtclpcnignheijaaGreatDoor
open Go.RowKit

/-- Only the word number i, x, begins with t. -/
def Only (ws : List (List UInt8)) (t : List UInt8) (i : Nat) (x : List UInt8) : Prop := ws[i]? = some x ∧ ∀ j y, ws[j]? = some y → t.isPrefixOf y = true → j = i
theorem goes_only {ws : List (List UInt8)} {t r : List UInt8} {c : UInt8} {i : Nat} (h : Only ws t i (t ++ c :: r)) (b : Int) : goesOn ws t b = ((c.toNat : Int) == b) := by
  have hx : goesW (t ++ c :: r) t b = ((c.toNat : Int) == b) := by
    unfold goesW
    rw [show t.isPrefixOf (t ++ c :: r) = true from by rw [List.isPrefixOf_iff_prefix]; exact List.prefix_append _ _]
    rw [List.getElem?_append_right (Nat.le_refl _), Nat.sub_self]
    rfl
  cases hb : ((c.toNat : Int) == b)
  · refine goesOn_no fun j hj y hy => ?_
    cases hp : t.isPrefixOf y
    · unfold goesW; rw [hp]; rfl
    · have hji := h.2 j y hy hp
      subst hji
      have e : y = t ++ c :: r := Option.some.inj (hy.symm.trans h.1)
      rw [e, hx, hb]
  · exact goesOn_yes h.1 (by rw [hx, hb])
theorem idx_only {ws : List (List UInt8)} {t r : List UInt8} {c : UInt8} {i : Nat} (h : Only ws t i (t ++ c :: r)) : ws.findIdx? (· == t) = none := by
  refine List.findIdx?_eq_none_iff.2 fun y hy => ?_
  obtain ⟨j, hj, e⟩ := List.getElem_of_mem hy
  have hy' : ws[j]? = some y := by rw [List.getElem?_eq_getElem hj, e]
  cases hb : y == t
  · rfl
  · have hyt : y = t := by simpa using hb
    have hji := h.2 j y hy' (by rw [hyt, List.isPrefixOf_iff_prefix]; exact List.prefix_refl t)
    subst hji
    have e2 : y = t ++ c :: r := Option.some.inj (hy'.symm.trans h.1)
    rw [hyt] at e2
    have := congrArg List.length e2
    simp at this
theorem only_more {ws : List (List UInt8)} {t r : List UInt8} {c : UInt8} {i : Nat} (h : Only ws t i (t ++ c :: r)) : Only ws (t ++ [c]) i ((t ++ [c]) ++ r) := by
  refine ⟨by rw [h.1]; simp, fun j y hy hp => h.2 j y hy ?_⟩
  rw [List.isPrefixOf_iff_prefix] at hp ⊢
  exact (List.prefix_append t [c]).trans hp
theorem one_only {s : ByteArray} {ws : List (List UInt8)} {i : Nat} : ∀ (r t : List UInt8) (n p : Nat), Only ws t i (t ++ r) → (∀ c ∈ r, (c.toNat : Int) ≠ 0) → (∀ j y, ws[j]? = some y → y = t ++ r → j = i) → r.length < n →
    oneP s ws n t p = ((expP s r p).1, if (expP s r p).2 = true then some i else none)
  | [], t, n, p, h, _, hu, hn => by
    obtain ⟨n, rfl⟩ : ∃ n', n = n' + 1 := ⟨n - 1, by simp at hn; omega⟩
    have h1 : ws[i]? = some t := by simpa using h.1
    have hi : ws.findIdx? (· == t) = some i := by
      refine wordsI_some h1 (by simp) fun j hj y hy => ?_
      cases hb : y == t
      · rfl
      · have : j = i := hu j y hy (by simpa using hb)
        omega
    rw [oneP_some hi]; rfl
  | c :: r, t, n, p, h, h0, hu, hn => by
    obtain ⟨n, rfl⟩ : ∃ n', n = n' + 1 := ⟨n - 1, by simp at hn; omega⟩
    have hg := goes_only h (peekI s p)
    have hi := idx_only h
    have hc0 : (c.toNat : Int) ≠ 0 := h0 c (by simp)
    by_cases hp : peekI s p = (c.toNat : Int)
    · have hg' : goesOn ws t (peekI s p) = true := by rw [hg, hp]; simp
      have hb : UInt8.ofNat (peekI s p).toNat = c := by rw [hp]; simp
      rw [oneP_go hi hg', hb, one_only r (t ++ [c]) n (p + 1) (only_more h) (fun d hd => h0 d (by simp [hd])) (fun j y hy e => hu j y hy (by rw [e]; simp)) (by simp at hn; omega)]
      have e : expP s (c :: r) p = expP s r (p + 1) := by rw [expP, if_pos ⟨hc0, hp⟩]
      rw [e]
    · have hg' : goesOn ws t (peekI s p) = false := by rw [hg]; simp; exact fun e => hp e.symm
      have e : expP s (c :: r) p = (p, false) := by rw [expP, if_neg fun hh => hp hh.2]
      rw [oneP_no hi hg', e]; rfl
def evodW : List (List UInt8) := [evenW, oddW]
theorem evod_odd (s : ByteArray) (p : Nat) (h : peekI s p = 111) : oneP s evodW 5 [] p = ((expP s oddW p).1, if (expP s oddW p).2 = true then some 1 else none) := by
  have hi : evodW.findIdx? (· == ([] : List UInt8)) = none := by decide
  have hg : goesOn evodW [] (peekI s p) = true := by rw [h]; decide
  rw [oneP_go hi hg, h]
  have e : expP s oddW p = expP s [100, 100] (p + 1) := by
    show expP s (111 :: [100, 100]) p = _
    rw [expP, if_pos ⟨by decide, h⟩]
  rw [e]
  refine one_only [100, 100] [111] 4 (p + 1) ⟨rfl, ?_⟩ (by decide) ?_ (by decide)
  · intro j y hy hp
    match j, hy with
    | 0, hy => simp [evodW, evenW] at hy; subst hy; revert hp; decide
    | 1, _ => rfl
    | j + 2, hy => simp [evodW] at hy
  · intro j y hy e
    match j, hy with
    | 0, hy => simp [evodW, evenW] at hy; subst hy; revert e; decide
    | 1, _ => rfl
    | j + 2, hy => simp [evodW] at hy
theorem evod_even (s : ByteArray) (p : Nat) (h : peekI s p = 101) : oneP s evodW 5 [] p = ((expP s evenW p).1, if (expP s evenW p).2 = true then some 0 else none) := by
  have hi : evodW.findIdx? (· == ([] : List UInt8)) = none := by decide
  have hg : goesOn evodW [] (peekI s p) = true := by rw [h]; decide
  rw [oneP_go hi hg, h]
  have e : expP s evenW p = expP s [118, 101, 110] (p + 1) := by
    show expP s (101 :: [118, 101, 110]) p = _
    rw [expP, if_pos ⟨by decide, h⟩]
  rw [e]
  refine one_only [118, 101, 110] [101] 4 (p + 1) ⟨rfl, ?_⟩ (by decide) ?_ (by decide)
  · intro j y hy hp
    match j, hy with
    | 0, _ => rfl
    | 1, hy => simp [evodW, oddW] at hy; subst hy; revert hp; decide
    | j + 2, hy => simp [evodW] at hy
  · intro j y hy e
    match j, hy with
    | 0, _ => rfl
    | 1, hy => simp [evodW, oddW] at hy; subst hy; revert e; decide
    | j + 2, hy => simp [evodW] at hy

/-- The pseudo names, as the document's reader lists them. -/
def pseudoW : List (List UInt8) := [[114, 111, 111, 116], [101, 109, 112, 116, 121], [102, 105, 114, 115, 116, 45, 99, 104, 105, 108, 100], [108, 97, 115, 116, 45, 99, 104, 105, 108, 100], [111, 110, 108, 121, 45, 99, 104, 105, 108, 100], [110, 111, 116, 40], [105, 115, 40], [110, 116, 104, 45, 99, 104, 105, 108, 100, 40]]
def kindOf (k : Nat) : Nat := if k ≤ 4 then k + 3 else if k = 7 then 8 else k + 4
theorem idx_pseudo (t : List UInt8) : openW.findIdx? (· == (58 :: t)) = (pseudoW.findIdx? (· == t)).map kindOf := by
  by_cases h0 : t = [114, 111, 111, 116]
  · subst h0; decide
  by_cases h1 : t = [101, 109, 112, 116, 121]
  · subst h1; decide
  by_cases h2 : t = [102, 105, 114, 115, 116, 45, 99, 104, 105, 108, 100]
  · subst h2; decide
  by_cases h3 : t = [108, 97, 115, 116, 45, 99, 104, 105, 108, 100]
  · subst h3; decide
  by_cases h4 : t = [111, 110, 108, 121, 45, 99, 104, 105, 108, 100]
  · subst h4; decide
  by_cases h5 : t = [110, 111, 116, 40]
  · subst h5; decide
  by_cases h6 : t = [105, 115, 40]
  · subst h6; decide
  by_cases h7 : t = [110, 116, 104, 45, 99, 104, 105, 108, 100, 40]
  · subst h7; decide
  have e1 : pseudoW.findIdx? (· == t) = none := by
    refine List.findIdx?_eq_none_iff.2 fun y hy => ?_
    simp only [pseudoW, List.mem_cons, List.not_mem_nil, or_false] at hy
    rw [beq_eq_false_iff_ne]
    rcases hy with rfl | rfl | rfl | rfl | rfl | rfl | rfl | rfl <;> exact fun e => by first | exact h0 e.symm | exact h1 e.symm | exact h2 e.symm | exact h3 e.symm | exact h4 e.symm | exact h5 e.symm | exact h6 e.symm | exact h7 e.symm
  have e2 : openW.findIdx? (· == (58 :: t)) = none := by
    refine List.findIdx?_eq_none_iff.2 fun y hy => ?_
    simp only [openW, List.mem_cons, List.not_mem_nil, or_false] at hy
    rw [beq_eq_false_iff_ne]
    rcases hy with rfl | rfl | rfl | rfl | rfl | rfl | rfl | rfl | rfl | rfl | rfl <;> intro e <;> simp only [List.cons.injEq] at e <;> first | (exact absurd e.1 (by decide)) | (exact h0 e.2.symm) | (exact h1 e.2.symm) | (exact h2 e.2.symm) | (exact h3 e.2.symm) | (exact h4 e.2.symm) | (exact h5 e.2.symm) | (exact h6 e.2.symm) | (exact h7 e.2.symm)
  rw [e1, e2]; rfl
theorem goes_cons (t y : List UInt8) (b : Int) : goesW (58 :: y) (58 :: t) b = goesW y t b := by
  unfold goesW
  simp [List.isPrefixOf]
theorem goes_other {c : UInt8} (hc : (c == 58) = false) (t y : List UInt8) (b : Int) : goesW (c :: y) (58 :: t) b = false := by
  unfold goesW
  have : (58 == c) = false := by rw [BEq.comm]; exact hc
  simp [List.isPrefixOf, this]
theorem goesOn_any (ws : List (List UInt8)) (t : List UInt8) (b : Int) : goesOn ws t b = ws.any fun x => goesW x t b := rfl
theorem goes_pseudo (t : List UInt8) (b : Int) : goesOn openW (58 :: t) b = goesOn pseudoW t b := by
  rw [goesOn_any, goesOn_any]
  simp only [openW, pseudoW, List.any_cons, List.any_nil, goes_cons]
  rw [goes_other (by decide), goes_other (by decide), goes_other (by decide)]
  simp only [Bool.false_or, Bool.or_false]
  generalize goesW [114, 111, 111, 116] t b = b0
  generalize goesW [101, 109, 112, 116, 121] t b = b1
  generalize goesW [102, 105, 114, 115, 116, 45, 99, 104, 105, 108, 100] t b = b2
  generalize goesW [108, 97, 115, 116, 45, 99, 104, 105, 108, 100] t b = b3
  generalize goesW [111, 110, 108, 121, 45, 99, 104, 105, 108, 100] t b = b4
  generalize goesW [110, 111, 116, 40] t b = b5
  generalize goesW [105, 115, 40] t b = b6
  generalize goesW [110, 116, 104, 45, 99, 104, 105, 108, 100, 40] t b = b7
  cases b0 <;> cases b1 <;> cases b2 <;> cases b3 <;> cases b4 <;> cases b5 <;> cases b6 <;> cases b7 <;> rfl
theorem one_pseudo (s : ByteArray) : ∀ (n : Nat) (t : List UInt8) (p : Nat), oneP s openW n (58 :: t) p = ((oneP s pseudoW n t p).1, (oneP s pseudoW n t p).2.map kindOf)
  | 0, _, _ => rfl
  | n + 1, t, p => by
    cases hi : pseudoW.findIdx? (· == t) with
    | some i =>
      have h2 : openW.findIdx? (· == (58 :: t)) = some (kindOf i) := by rw [idx_pseudo, hi]; rfl
      rw [oneP_some hi, oneP_some h2]; rfl
    | none =>
      have h2 : openW.findIdx? (· == (58 :: t)) = none := by rw [idx_pseudo, hi]; rfl
      cases hg : goesOn pseudoW t (peekI s p)
      · have hg2 : goesOn openW (58 :: t) (peekI s p) = false := by rw [goes_pseudo]; exact hg
        rw [oneP_no hi hg, oneP_no h2 hg2]; rfl
      · have hg2 : goesOn openW (58 :: t) (peekI s p) = true := by rw [goes_pseudo]; exact hg
        rw [oneP_go hi hg, oneP_go h2 hg2]
        exact one_pseudo s n (t ++ [UInt8.ofNat (peekI s p).toNat]) (p + 1)
theorem open_colon (s : ByteArray) (p : Nat) (h : peekI s p = 58) : oneP s openW 13 [] p = ((oneP s pseudoW 12 [] (p + 1)).1, (oneP s pseudoW 12 [] (p + 1)).2.map kindOf) := by
  have hi : openW.findIdx? (· == ([] : List UInt8)) = none := by decide
  have hg : goesOn openW [] (peekI s p) = true := by rw [h]; decide
  rw [oneP_go hi hg, h]
  exact one_pseudo s 12 [] (p + 1)
theorem open_one (s : ByteArray) (p : Nat) (c : UInt8) (i : Nat) (h : peekI s p = (c.toNat : Int)) (hc : (c, i) = (35, 0) ∨ (c, i) = (46, 1) ∨ (c, i) = (91, 2)) : oneP s openW 13 [] p = (p + 1, some i) := by
  have hi : openW.findIdx? (· == ([] : List UInt8)) = none := by decide
  rcases hc with e | e | e
  all_goals
    obtain ⟨rfl, rfl⟩ := Prod.mk.inj e
    have hg : goesOn openW [] (peekI s p) = true := by rw [h]; decide
    rw [oneP_go hi hg, h]
    exact oneP_some (by decide)
end Go.Proofs.YtclpcnignheijaaGreatDoor
