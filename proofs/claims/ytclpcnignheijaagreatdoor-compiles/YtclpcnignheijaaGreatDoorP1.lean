import Derived.Test.YtclpcnignheijaaGreatDoorP0
namespace Go.Proofs.YtclpcnignheijaaGreatDoor
open Go.RowKit

/-- A reader's places, and what is told of a list: no more simples, and no deeper, than bytes. -/
def Gd {α : Type} (s : ByteArray) (p : Nat) (r : Nat × Option (α × Nat × Nat)) : Prop :=
  p ≤ r.1 ∧ r.1 ≤ s.size ∧ ∀ x, r.2 = some x → p + x.2.1 ≤ r.1 ∧ p + x.2.2 ≤ r.1
def Gd1 {α : Type} (s : ByteArray) (p : Nat) (r : Nat × Option (α × Nat × Nat)) : Prop :=
  Gd s p r ∧ ∀ x, r.2 = some x → p < r.1
theorem newP_lt {s : ByteArray} {p : Nat} {x : ByteArray} (h : (newP s p noneTaken).2 = some x) : p < (newP s p noneTaken).1 := by
  unfold newP at h ⊢
  split at h
  · simp at h
  · rename_i hl
    rw [if_neg hl]
    have hl' : letterB (peekI s p) = true := by revert hl; cases letterB (peekI s p) <;> simp
    have hn : nameB (peekI s p) = true := by unfold nameB; rw [hl']; rfl
    have hlt : p < s.size := peekI_lt (fun e => by rw [e] at hl'; revert hl'; decide)
    have h2 : p < nameEnd s p := by
      unfold nameEnd
      rw [runP_yes hn]
      have := runP_le nameB (by decide) s 15 (p + 1) hlt
      omega
    split at h
    · simp at h
    · rename_i ht
      rw [if_neg ht]
      split at h
      · simp at h
      · rename_i h3
        rw [if_neg h3]; exact h2
section
variable {lf : Nat → Nat × Option (SLst × Nat × Nat)} {s : ByteArray}
theorem askedP_gd (hl : ∀ p, p ≤ s.size → Gd s p (lf p)) {k p : Nat} (h : p ≤ s.size) :
    p ≤ (askedP lf s k p).1 ∧ (askedP lf s k p).1 ≤ s.size ∧ ∀ x, (askedP lf s k p).2 = some x → p + x.2.1 ≤ (askedP lf s k p).1 ∧ p + x.2.2 ≤ (askedP lf s k p).1 + (if 9 ≤ k then 1 else 0) := by
  unfold askedP
  split
  · have := wordP_le h
    refine ⟨this.1, this.2.1, fun x hx => ?_⟩
    simp only [Option.map_eq_some_iff] at hx
    obtain ⟨a, _, rfl⟩ := hx
    dsimp only; omega
  · split
    · have := attrQP_le h
      refine ⟨this.1, this.2, fun x hx => ?_⟩
      simp only [Option.map_eq_some_iff] at hx
      obtain ⟨a, _, rfl⟩ := hx
      dsimp only; omega
    · split
      · have := nthP_le h
        refine ⟨this.1, this.2, fun x hx => ?_⟩
        simp only [Option.map_eq_some_iff] at hx
        obtain ⟨a, _, rfl⟩ := hx
        dsimp only; omega
      · split
        · obtain ⟨h1, h2, h3⟩ := hl p h
          refine ⟨h1, h2, fun x hx => ?_⟩
          simp only [Option.map_eq_some_iff] at hx
          obtain ⟨a, ha, rfl⟩ := hx
          have := h3 a ha
          dsimp only; omega
        · refine ⟨Nat.le_refl _, h, fun x hx => ?_⟩
          simp only [Option.some.injEq] at hx
          subst hx
          dsimp only; omega
theorem simpleP_gd (hl : ∀ p, p ≤ s.size → Gd s p (lf p)) {p : Nat} (h : p ≤ s.size) : Gd1 s p (simpleP lf s p) := by
  unfold simpleP
  have h1 := oneP_le (s := s) openW_no0 13 [] p h
  have h2 := fun i => oneP_len (s := s) (words := openW) 13 [] p i
  generalize oneP s openW 13 [] p = r at h1 h2
  obtain ⟨q, o⟩ := r
  cases o with
  | none => exact ⟨⟨h1.1, h1.2, fun x hx => by simp at hx⟩, fun x hx => by simp at hx⟩
  | some k =>
    obtain ⟨x, hx, hlen⟩ := h2 k rfl
    have hk : k < 11 := (List.getElem?_eq_some_iff.1 hx).1
    have hlo : 1 ≤ x.length ∧ (9 ≤ k → 2 ≤ x.length) := by
      rcases k with _ | _ | _ | _ | _ | _ | _ | _ | _ | _ | _ | k <;> first | (simp [openW] at hx; subst hx; simp) | omega
    dsimp only at h1 hlen ⊢
    simp only [List.length_nil, Nat.add_zero] at hlen
    have h3 := askedP_gd hl (k := k) h1.2
    generalize askedP lf s k q = r at h3
    obtain ⟨q2, o2⟩ := r
    cases o2 with
    | none => dsimp only at h3 ⊢; exact ⟨⟨by dsimp only; omega, h3.2.1, fun x hx => by simp at hx⟩, fun x hx => by simp at hx⟩
    | some y =>
      dsimp only at h3 ⊢
      have h4 := expP_le s (closeW k) q2 h3.2.1
      have h5 := h3.2.2 y rfl
      have h6 : p + (y.2.1 + 1) ≤ (expP s (closeW k) q2).1 := by omega
      have h7 : p + y.2.2 ≤ (expP s (closeW k) q2).1 := by split at h5 <;> omega
      refine ⟨⟨by dsimp only; omega, h4.2, fun z hz => ?_⟩, fun z hz => by dsimp only; omega⟩
      dsimp only at hz
      split at hz
      · simp only [Option.some.injEq] at hz
        subst hz
        exact ⟨h6, h7⟩
      · simp at hz
theorem simplesP_gd (hl : ∀ p, p ≤ s.size → Gd s p (lf p)) : ∀ f l c d p, p ≤ s.size →
    p ≤ (simplesP lf s f l c d p).1 ∧ (simplesP lf s f l c d p).1 ≤ s.size ∧ ∀ x, (simplesP lf s f l c d p).2 = some x → (p + x.2.1 ≤ (simplesP lf s f l c d p).1 + c ∧ x.2.2 ≤ max d ((simplesP lf s f l c d p).1 - p)) ∧ (atB (peekI s p) = true → p < (simplesP lf s f l c d p).1)
  | 0, l, c, d, p, h => ⟨Nat.le_refl _, h, fun x hx => by simp [simplesP] at hx⟩
  | f + 1, l, c, d, p, h => by
    rw [simplesP]
    by_cases ha : atB (peekI s p) = true
    · rw [if_pos ha]
      obtain ⟨⟨h1, h2, h3⟩, h4⟩ := simpleP_gd hl h
      generalize simpleP lf s p = r at h1 h2 h3 h4
      obtain ⟨q, o⟩ := r
      cases o with
      | none => exact ⟨h1, h2, fun x hx => by simp at hx⟩
      | some y =>
        dsimp only at h1 h2 h3 h4 ⊢
        have h5 := h3 y rfl
        have h6 := h4 y rfl
        obtain ⟨g1, g2, g3⟩ := simplesP_gd hl f (l ++ [y.1]) (c + y.2.1) (max d y.2.2) q h2
        refine ⟨by omega, g2, fun x hx => ?_⟩
        obtain ⟨⟨g4, g5⟩, _⟩ := g3 x hx
        refine ⟨⟨by omega, by omega⟩, fun _ => by omega⟩
    · rw [if_neg ha]
      refine ⟨Nat.le_refl _, h, fun x hx => ?_⟩
      simp only [Option.some.injEq] at hx
      subst hx
      exact ⟨⟨Nat.le_refl _, Nat.le_max_left _ _⟩, fun h => absurd h ha⟩
theorem headP_le {p : Nat} (h : p ≤ s.size) : p ≤ (headP s p).1 ∧ (headP s p).1 ≤ s.size ∧ ∀ x, (headP s p).2 = some x → atB (peekI s p) = false → p < (headP s p).1 := by
  unfold headP
  split
  · rename_i h1
    have := peek_in h1 (by decide)
    dsimp only
    exact ⟨by omega, by omega, fun _ _ _ => by omega⟩
  · split
    · rename_i h2
      exact ⟨Nat.le_refl _, h, fun _ _ h3 => by rw [h2] at h3; cases h3⟩
    · have := newP_le s p noneTaken h
      exact ⟨this.1, this.2, fun x hx _ => newP_lt hx⟩
theorem headP_stay {p : Nat} (ha : atB (peekI s p) = true) : (headP s p).1 = p := by
  unfold headP
  split
  · rename_i h1; rw [h1] at ha; exact absurd ha (by decide)
  · rfl
theorem compoundP_gd (hl : ∀ p, p ≤ s.size → Gd s p (lf p)) {p : Nat} (h : p ≤ s.size) : Gd1 s p (compoundP lf s p) := by
  unfold compoundP
  obtain ⟨h1, h2, h3⟩ := headP_le h
  have h4 := headP_stay (s := s) (p := p)
  generalize headP s p = r at h1 h2 h3 h4
  obtain ⟨q, o⟩ := r
  cases o with
  | none => exact ⟨⟨h1, h2, fun x hx => by simp at hx⟩, fun x hx => by simp at hx⟩
  | some n =>
    dsimp only at h1 h2 h3 h4 ⊢
    obtain ⟨g1, g2, g3⟩ := simplesP_gd hl (s.size + 1) [] 0 0 q h2
    generalize simplesP lf s (s.size + 1) [] 0 0 q = r at g1 g2 g3
    obtain ⟨q2, o2⟩ := r
    cases o2 with
    | none => exact ⟨⟨by dsimp only at g1 ⊢; omega, g2, fun x hx => by simp at hx⟩, fun x hx => by simp at hx⟩
    | some y =>
      dsimp only at g1 g2 g3 ⊢
      obtain ⟨⟨g4, g5⟩, g6⟩ := g3 y rfl
      have hlt : p < q2 := by
        cases ha : atB (peekI s p)
        · have := h3 n rfl ha; omega
        · have e := h4 ha
          subst e
          exact g6 ha
      refine ⟨⟨by dsimp only; omega, g2, fun x hx => ?_⟩, fun x hx => hlt⟩
      simp only [Option.some.injEq] at hx
      subst hx
      dsimp only; omega
theorem combP_le {p : Nat} (h : p ≤ s.size) : p ≤ (combP s p).1 ∧ (combP s p).1 ≤ s.size := by
  unfold combP
  have h1 := spP_le h
  split
  · rename_i h2
    have h3 : spP s p < s.size := peekI_lt (fun e => by rw [e] at h2; revert h2; decide)
    have := spP_le (s := s) (p := spP s p + 1) h3
    dsimp only; omega
  · split
    · exact h1
    · split <;> exact h1
theorem complexP_gd (hl : ∀ p, p ≤ s.size → Gd s p (lf p)) : ∀ f l c d b p, p ≤ s.size →
    p ≤ (complexP lf s f l c d b p).1 ∧ (complexP lf s f l c d b p).1 ≤ s.size ∧ ∀ x, (complexP lf s f l c d b p).2 = some x → (p + x.2.1 ≤ (complexP lf s f l c d b p).1 + c ∧ x.2.2 ≤ max d ((complexP lf s f l c d b p).1 - p)) ∧ p < (complexP lf s f l c d b p).1
  | 0, l, c, d, b, p, h => ⟨Nat.le_refl _, h, fun x hx => by simp [complexP] at hx⟩
  | f + 1, l, c, d, b, p, h => by
    rw [complexP]
    obtain ⟨⟨h1, h2, h3⟩, h4⟩ := compoundP_gd hl h
    generalize compoundP lf s p = r at h1 h2 h3 h4
    obtain ⟨q, o⟩ := r
    cases o with
    | none => exact ⟨h1, h2, fun x hx => by simp at hx⟩
    | some y =>
      dsimp only at h1 h2 h3 h4 ⊢
      have h5 := h3 y rfl
      have h6 := h4 y rfl
      have h7 := combP_le (s := s) h2
      generalize combP s q = r at h7
      obtain ⟨q2, o2⟩ := r
      cases o2 with
      | none =>
        dsimp only at h7 ⊢
        refine ⟨by omega, h7.2, fun x hx => ?_⟩
        simp only [Option.some.injEq] at hx
        subst hx
        exact ⟨⟨by dsimp only; omega, by dsimp only; omega⟩, by omega⟩
      | some b' =>
        dsimp only at h7 ⊢
        obtain ⟨g1, g2, g3⟩ := complexP_gd hl f (l ++ [(b, y.1.1, y.1.2)]) (c + y.2.1) (max d y.2.2) b' q2 h7.2
        refine ⟨by omega, g2, fun x hx => ?_⟩
        obtain ⟨⟨g4, g5⟩, g6⟩ := g3 x hx
        exact ⟨⟨by omega, by omega⟩, by omega⟩
theorem partsP_gd (hl : ∀ p, p ≤ s.size → Gd s p (lf p)) : ∀ f l c d p, p ≤ s.size →
    p ≤ (partsP lf s f l c d p).1 ∧ (partsP lf s f l c d p).1 ≤ s.size ∧ ∀ x, (partsP lf s f l c d p).2 = some x → p + x.2.1 ≤ (partsP lf s f l c d p).1 + c ∧ x.2.2 ≤ max d ((partsP lf s f l c d p).1 - p)
  | 0, l, c, d, p, h => ⟨Nat.le_refl _, h, fun x hx => by simp [partsP] at hx⟩
  | f + 1, l, c, d, p, h => by
    rw [partsP]
    have h0 := spP_le h
    obtain ⟨h1, h2, h3⟩ := complexP_gd hl (s.size + 1) [] 0 0 0 (spP s p) h0.2
    generalize complexP lf s (s.size + 1) [] 0 0 0 (spP s p) = r at h1 h2 h3
    obtain ⟨q, o⟩ := r
    cases o with
    | none => exact ⟨by dsimp only at h1 ⊢; omega, h2, fun x hx => by simp at hx⟩
    | some y =>
      dsimp only at h1 h2 h3 ⊢
      obtain ⟨⟨g4, g5⟩, g6⟩ := h3 y rfl
      by_cases hc : peekI s q = 44
      · rw [if_pos hc]
        have hq := peek_in hc (by decide)
        obtain ⟨e1, e2, e3⟩ := partsP_gd hl f (l ++ [y.1]) (c + y.2.1) (max d y.2.2) (q + 1) hq
        refine ⟨by omega, e2, fun x hx => ?_⟩
        have := e3 x hx
        omega
      · rw [if_neg hc]
        refine ⟨by dsimp only; omega, h2, fun x hx => ?_⟩
        simp only [Option.some.injEq] at hx
        subst hx
        dsimp only; omega
end
theorem listP_gd (s : ByteArray) : ∀ n p, p ≤ s.size → Gd s p (listP s n p)
  | 0, p, h => ⟨Nat.le_refl _, h, fun x hx => by simp [listP] at hx⟩
  | n + 1, p, h => by
    obtain ⟨h1, h2, h3⟩ := partsP_gd (listP_gd s n) (s.size + 1) [] 0 0 p h
    refine ⟨h1, h2, fun x hx => ?_⟩
    have := h3 x hx
    change p + x.2.1 ≤ (partsP (listP s n) s (s.size + 1) [] 0 0 p).1 ∧ p + x.2.2 ≤ (partsP (listP s n) s (s.size + 1) [] 0 0 p).1
    omega
end Go.Proofs.YtclpcnignheijaaGreatDoor
