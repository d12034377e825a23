import Derived.Test.YtclpcnignheijaaGreatDoorE6
namespace Go.Proofs.YtclpcnignheijaaGreatDoor
open Go.RowKit

/-! ### Plain laws: what reading does at a text whose rest is known. No program in sight. -/
def At (s : ByteArray) (p : Nat) (l : List UInt8) : Prop := s.data.toList.drop p = l ∧ p + l.length = s.size
def okU (c : UInt8) : Bool := allowedB (c.toNat : Int)
theorem At.peek {s : ByteArray} {p : Nat} {c : UInt8} {r : List UInt8} (h : At s p (c :: r)) (hc : okU c = true) : peekI s p = (c.toNat : Int) := by
  have hlt : p < s.size := by have := h.2; simp at this; omega
  have hb : byteI s p = (c.toNat : Int) := by
    rw [byteI_get s p hlt]
    have := drop_cons hlt
    rw [h.1] at this
    rw [(List.cons.inj this).1]
  unfold peekI
  rw [hb, if_pos ⟨hlt, hc⟩]
theorem At.step {s : ByteArray} {p : Nat} {c : UInt8} {r : List UInt8} (h : At s p (c :: r)) : At s (p + 1) r := by
  refine ⟨?_, by have := h.2; simp at this; omega⟩
  rw [← List.drop_drop, h.1]; rfl
theorem At.skip {s : ByteArray} : ∀ {l r : List UInt8} {p : Nat}, At s p (l ++ r) → At s (p + l.length) r
  | [], r, p, h => h
  | c :: l, r, p, h => by
    have := At.skip (l := l) (At.step h)
    rw [List.length_cons, show p + (l.length + 1) = p + 1 + l.length from by omega]
    exact this
theorem At.end_ {s : ByteArray} {p : Nat} (h : At s p []) : p = s.size := by have := h.2; simpa using this
theorem At.endPeek {s : ByteArray} {p : Nat} (h : At s p []) : peekI s p = 0 := by
  unfold peekI; rw [if_neg]; have := h.end_; omega
theorem exp_at {s : ByteArray} : ∀ {l r : List UInt8} {p : Nat}, At s p (l ++ r) → (∀ c ∈ l, okU c = true ∧ (c.toNat : Int) ≠ 0) → expP s l p = (p + l.length, true)
  | [], r, p, _, _ => rfl
  | c :: l, r, p, h, hc => by
    have h1 := hc c (List.mem_cons_self ..)
    rw [expP, if_pos ⟨h1.2, At.peek h h1.1⟩, exp_at (l := l) (At.step h) (fun d hd => hc d (List.mem_cons_of_mem _ hd)), List.length_cons]
    congr 1; omega

/-- An encoding of a byte, as text goes on up to one of 'ends'. -/
def EncB (ends : List UInt8) (c : UInt8) (e : List UInt8) : Prop := (e = [c] ∧ okU c = true ∧ inB ends (c.toNat : Int) = false ∧ c ≠ 38) ∨ (e = refW c ∧ (c = 38 ∨ c = 60 ∨ c = 62 ∨ c = 34))
def EncL (ends : List UInt8) : List UInt8 → List UInt8 → Prop
  | [], e => e = []
  | c :: l, e => ∃ e1 e2, e = e1 ++ e2 ∧ EncB ends c e1 ∧ EncL ends l e2
theorem okU_pos {c : UInt8} (h : okU c = true) : (c.toNat : Int) ≠ 0 := by
  intro e
  unfold okU at h
  rw [e] at h
  revert h; decide
theorem ref_at {s : ByteArray} {p : Nat} {r : List UInt8} (c : UInt8) (hc : c = 38 ∨ c = 60 ∨ c = 62 ∨ c = 34) (h : At s p (refW c ++ r)) :
    peekI s p = 38 ∧ refP s (p + 1) = (p + (refW c).length, some (c.toNat : Int)) ∧ At s (p + (refW c).length) r := by
  have hs := At.skip h
  rcases hc with rfl | rfl | rfl | rfl
  · have h1 : At s p (38 :: ([97, 109, 112, 59] ++ r)) := h
    have h2 := At.step h1
    refine ⟨At.peek h1 (by decide), ?_, hs⟩
    have e := exp_at (l := [97, 109, 112, 59]) h2 (by decide)
    have pk := At.peek (c := 97) (r := [109, 112, 59] ++ r) h2 (by decide)
    show refL s (p + 1) refsL = _
    rw [refsL, refL, if_pos (by rw [pk]; rfl), e]
    rfl
  · have h1 : At s p (38 :: ([108, 116, 59] ++ r)) := h
    have h2 := At.step h1
    refine ⟨At.peek h1 (by decide), ?_, hs⟩
    have e := exp_at (l := [108, 116, 59]) h2 (by decide)
    have pk := At.peek (c := 108) (r := [116, 59] ++ r) h2 (by decide)
    show refL s (p + 1) refsL = _
    rw [refsL, refL, if_neg (by rw [pk]; decide), refL, if_pos (by rw [pk]; rfl), e]
    rfl
  · have h1 : At s p (38 :: ([103, 116, 59] ++ r)) := h
    have h2 := At.step h1
    refine ⟨At.peek h1 (by decide), ?_, hs⟩
    have e := exp_at (l := [103, 116, 59]) h2 (by decide)
    have pk := At.peek (c := 103) (r := [116, 59] ++ r) h2 (by decide)
    show refL s (p + 1) refsL = _
    rw [refsL, refL, if_neg (by rw [pk]; decide), refL, if_neg (by rw [pk]; decide), refL, if_pos (by rw [pk]; rfl), e]
    rfl
  · have h1 : At s p (38 :: ([113, 117, 111, 116, 59] ++ r)) := h
    have h2 := At.step h1
    refine ⟨At.peek h1 (by decide), ?_, hs⟩
    have e := exp_at (l := [113, 117, 111, 116, 59]) h2 (by decide)
    have pk := At.peek (c := 113) (r := [117, 111, 116, 59] ++ r) h2 (by decide)
    show refL s (p + 1) refsL = _
    rw [refsL, refL, if_neg (by rw [pk]; decide), refL, if_neg (by rw [pk]; decide), refL, if_neg (by rw [pk]; decide), refL, if_pos (by rw [pk]; rfl), e]
    rfl
theorem cont_at {s : ByteArray} {ends : List UInt8} (h38 : inB ends 38 = false) : ∀ (l e r : List UInt8) (d : UInt8) (p f : Nat) (acc : List UInt8), EncL ends l e → At s p (e ++ d :: r) → okU d = true → inB ends (d.toNat : Int) = true → l.length < f → contP s ends f p acc = (p + e.length, some (acc ++ l))
  | [], e, r, d, p, f, acc, he, h, hd, hde, hf => by
    cases he
    obtain ⟨f, rfl⟩ : ∃ f', f = f' + 1 := ⟨f - 1, by simp at hf; omega⟩
    rw [contP, if_pos (.inr (by rw [At.peek h hd]; exact hde))]
    simp
  | c :: l, e, r, d, p, f, acc, ⟨e1, e2, he, hb, hl⟩, h, hd, hde, hf => by
    subst he
    obtain ⟨f, rfl⟩ : ∃ f', f = f' + 1 := ⟨f - 1, by simp at hf; omega⟩
    have hf' : l.length < f := by simp at hf; omega
    rw [List.append_assoc] at h
    have hcc : ((c.toNat : Int)).toNat.toUInt8 = c := UInt8.toNat_inj.1 (by rw [Int.toNat_natCast, Nat.toUInt8, UInt8.toNat_ofNat']; have := c.toNat_lt; omega)
    rcases hb with ⟨rfl, hok, hne, h3⟩ | ⟨rfl, h4⟩
    · have pk := At.peek (c := c) (r := e2 ++ d :: r) h hok
      have h38' : (c.toNat : Int) ≠ 38 := fun h => h3 (UInt8.toNat_inj.1 (by show c.toNat = 38; omega))
      rw [contP, pk, if_neg (fun h => by rcases h with h | h; exact okU_pos hok h; rw [hne] at h; cases h), if_neg h38', hcc]
      rw [cont_at h38 l e2 r d (p + 1) f (acc ++ [c]) hl (At.step h) hd hde hf']
      simp; omega
    · obtain ⟨pk, rf, nx⟩ := ref_at c h4 h
      rw [contP, pk, if_neg (by rw [h38]; decide), if_pos rfl, rf]
      dsimp only
      rw [hcc, cont_at h38 l e2 r d _ f (acc ++ [c]) hl nx hd hde hf']
      simp; omega
end Go.Proofs.YtclpcnignheijaaGreatDoor
