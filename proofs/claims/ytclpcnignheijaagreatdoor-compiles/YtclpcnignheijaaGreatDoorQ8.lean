/-
  PARTS OF THE PROOF OF THE LAW 'Compiles', joined into one text: W1, W8.
-/
import Derived.Test.YtclpcnignheijaaGreatDoorR6
import Derived.Test.YtclpcnignheijaaGreatDoorS5
/-
  A selector, written, plainly; and what holds of every selector that was read: its kinds, its combinators, its numbers, its lists; and that it is written with no more than four times the bytes that it was read from.
-/
namespace Go.Proofs.YtclpcnignheijaaGreatDoor
open Go.RowKit

def attrT (a : AttrQ) : List UInt8 := a.name.data.toList ++ (if a.op.size = 0 then [] else a.op.data.toList ++ 34 :: (a.val.data.toList ++ 34 :: (if a.any = true then [32, 105] else [])))
def askT (tl : SLst → List UInt8) (k : Nat) (x : ByteArray) (a : AttrQ) (t : NthQ) (l : SLst) : List UInt8 := if k ≤ 1 then x.data.toList else if k = 2 then attrT a else if k = 8 then nthT t else if 9 ≤ k then tl l else []
def simT (tl : SLst → List UInt8) : Sim → List UInt8
  | .mk k x a t l => openW.getD k [] ++ (askT tl k x a t l ++ closeW k)
def simsT (tl : SLst → List UInt8) (ms : List Sim) : List UInt8 := ms.flatMap (simT tl)
def byT (b : Int) : List UInt8 := if b = 0 then [] else [UInt8.ofNat b.toNat]
def stpT (tl : SLst → List UInt8) (st : Stp) : List UInt8 := byT st.1 ++ (st.2.1.data.toList ++ simsT tl st.2.2)
def cpxT (tl : SLst → List UInt8) (c : Cpx) : List UInt8 := c.flatMap (stpT tl)
/-- Parts with a comma ahead of each but the first. -/
def lstT (tl : SLst → List UInt8) : SLst → List UInt8
  | [] => []
  | c :: r => cpxT tl c ++ r.flatMap fun c => 44 :: cpxT tl c
def textL : Nat → SLst → List UInt8
  | 0, _ => []
  | n + 1, l => lstT (textL n) l

def wfS (W : SLst → Prop) : Sim → Prop
  | .mk k _ _ t l => k < 11 ∧ (k = 8 → (-100 < t.a ∧ t.a < 100) ∧ (-100 < t.b ∧ t.b < 100)) ∧ (9 ≤ k → l ≠ [] ∧ W l) ∧ (k < 9 → l = [])
def wfT (W : SLst → Prop) (st : Stp) : Prop := ∀ m ∈ st.2.2, wfS W m
def wfC (W : SLst → Prop) (c : Cpx) : Prop := ∀ i st, c[i]? = some st → wfT W st ∧ (i = 0 → st.1 = 0) ∧ (i ≠ 0 → 0 < st.1 ∧ st.1 < 128)
def wfL : Nat → SLst → Prop
  | 0, l => l = []
  | n + 1, l => ∀ c ∈ l, wfC (wfL n) c

theorem digsT_len (n : Nat) : (digsT n).length ≤ 2 := by unfold digsT; split <;> simp
theorem numT_len (n : Int) : (numT n).length ≤ 3 := by
  have := digsT_len n.natAbs
  unfold numT; split
  · simp; omega
  · omega
theorem nthT_len {z : NthQ} (h : z.word.size ≤ 4) : (nthT z).length ≤ 8 := by
  have h1 := numT_len z.a; have h2 := numT_len z.b
  unfold nthT
  split
  · split
    · have : (plusT z.b).length ≤ 4 := by
        unfold plusT; split
        · simp; omega
        · split
          · omega
          · simp
      simp; omega
    · omega
  · have : z.word.data.toList.length = z.word.size := by rw [Array.length_toList]; rfl
    omega
theorem numbersP_wf {s : ByteArray} {p : Nat} {z : NthQ} (h : (numbersP s p).2 = some z) : ((-100 < z.a ∧ z.a < 100) ∧ (-100 < z.b ∧ z.b < 100)) ∧ z.word.size ≤ 4 := by
  have hb := fun q => countP_bd s q
  have hs := fun q => signP_val s q
  have hmul : ∀ (q r : Nat), -100 < (signP s q).2.1 * (countP s r).2.1 ∧ (signP s q).2.1 * (countP s r).2.1 < 100 := fun q r => by
    have := hb r
    rcases hs q with e | e <;> rw [e] <;> omega
  unfold numbersP at h
  split at h
  · dsimp only at h
    split at h
    · simp only [Option.some.injEq] at h; subst h; exact ⟨by decide, by decide⟩
    · cases h
  · split at h
    · dsimp only at h
      split at h
      · simp only [Option.some.injEq] at h; subst h; exact ⟨by decide, by decide⟩
      · cases h
    · split at h
      · dsimp only at h
        obtain ⟨b, hbb, rfl⟩ := Option.map_eq_some_iff.1 h
        refine ⟨⟨?_, ?_⟩, Nat.zero_le _⟩
        · dsimp only
          split
          · exact hmul _ _
          · rcases hs p with e | e <;> rw [e] <;> omega
        · unfold behindP at hbb
          split at hbb
          · simp only [Option.some.injEq] at hbb; subst hbb; dsimp only; omega
          · split at hbb
            · cases hbb
            · simp only [Option.some.injEq] at hbb; subst hbb; exact hmul _ _
      · split at h
        · cases h
        · simp only [Option.some.injEq] at h; subst h
          exact ⟨⟨by dsimp only; omega, hmul _ _⟩, Nat.zero_le _⟩
theorem sub_len (s : ByteArray) (p q : Nat) : (subB s p q).data.toList.length ≤ q - p := by
  show ((s.data.toList.drop p).take (q - p)).toArray.toList.length ≤ q - p
  simp; omega
theorem newP_len {s : ByteArray} {p : Nat} {n : ByteArray} (hp : p ≤ s.size) (h : (newP s p noneTaken).2 = some n) : n.data.toList.length ≤ (newP s p noneTaken).1 - p ∧ p < (newP s p noneTaken).1 := by
  refine ⟨?_, newP_lt h⟩
  unfold newP at h ⊢
  split at h
  · cases h
  · split at h
    · cases h
    · split at h
      · cases h
      · rename_i h1 h2 h3
        rw [if_neg h1, if_neg h2, if_neg h3]
        simp only [Option.some.injEq] at h
        subst h
        have := nameAt_size hp
        rw [Array.length_toList]
        show (nameAt s p).size ≤ nameEnd s p - p
        omega
theorem wordP_len {s : ByteArray} {p : Nat} {x : ByteArray} (h : (wordP s p).2 = some x) : x.data.toList.length ≤ (wordP s p).1 - p := by
  unfold wordP at h ⊢
  split at h
  · cases h
  · rename_i h1
    rw [if_neg h1]
    simp only [Option.some.injEq] at h
    subst h
    exact sub_len _ _ _
theorem expP_len (s : ByteArray) : ∀ (l : List UInt8) (p : Nat), (expP s l p).2 = true → (expP s l p).1 = p + l.length
  | [], p, _ => rfl
  | c :: l, p, h => by
    rw [expP] at h ⊢
    split at h
    · rename_i hc
      rw [if_pos hc, expP_len s l (p + 1) h]; simp; omega
    · cases h
theorem opsW_len {i : Nat} {x : List UInt8} (h : opsW[i]? = some x) : x.length ≤ 2 := by
  have : ∀ y ∈ opsW, y.length ≤ 2 := by decide
  exact this x (List.mem_of_getElem? h)
theorem attrQP_len {s : ByteArray} {p : Nat} {y : AttrQ} (hp : p ≤ s.size) (h : (attrQP s p).2 = some y) : (attrT y).length ≤ (attrQP s p).1 - p + 4 ∧ p < (attrQP s p).1 := by
  unfold attrQP at h ⊢
  have h1 := spP_le hp
  have h2 := fun n => newP_len (s := s) (p := spP s p) (n := n) h1.2
  have h2' := newP_le s (spP s p) noneTaken h1.2
  generalize newP s (spP s p) noneTaken = r at h h2 h2'
  obtain ⟨q, o⟩ := r
  cases o with
  | none => cases h
  | some n =>
    dsimp only at h h2 h2' ⊢
    have h3 := h2 n rfl
    have h4 := spP_le h2'.2
    by_cases h93 : peekI s (spP s q) = 93
    · rw [if_pos h93] at h ⊢
      simp only [Option.some.injEq] at h
      subst h
      have e : attrT ⟨n, noB, noB, false⟩ = n.data.toList := by unfold attrT; simp [noB]; rfl
      rw [e]; dsimp only; omega
    · rw [if_neg h93] at h ⊢
      have h5 := oneP_le (s := s) opsW_no0 3 [] (spP s q) h4.2
      have h6 := fun i => oneP_len (s := s) (words := opsW) 3 [] (spP s q) i
      generalize oneP s opsW 3 [] (spP s q) = r at h h5 h6
      obtain ⟨q2, o2⟩ := r
      cases o2 with
      | none => cases h
      | some i =>
        dsimp only at h h5 h6 ⊢
        obtain ⟨ow, how, hol⟩ := h6 i rfl
        have h7 := spP_le h5.2
        have h8 := againstP_le h7.2
        have h9 : ∀ x, (againstP s (spP s q2)).2 = some x → x.data.toList.length ≤ (againstP s (spP s q2)).1 - spP s q2 := by
          intro x hx
          unfold againstP at hx ⊢
          split at hx
          · rename_i e1
            rw [if_pos e1]
            split at hx
            · rename_i e2
              rw [if_pos e2]
              simp only [Option.some.injEq] at hx
              subst hx
              have := sub_len s (spP s q2 + 1) (untilP s (spP s q2 + 1))
              dsimp only; omega
            · cases hx
          · rename_i e1
            rw [if_neg e1]
            exact wordP_len hx
        generalize againstP s (spP s q2) = r at h h8 h9
        obtain ⟨q3, o3⟩ := r
        cases o3 with
        | none => cases h
        | some x =>
          dsimp only at h h8 h9 ⊢
          simp only [Option.some.injEq] at h
          subst h
          have g1 := h9 x rfl
          have g2 := spP_le h8.2
          have g3 := anyP_le g2.2
          have g4 := spP_le g3.2
          have g5 : (bytesOf (opsW.getD i [])).data.toList.length = ow.length := by
            rw [List.getD_eq_getElem?_getD, how]; simp [bytesOf]
          have g6 := opsW_len how
          simp only [List.length_nil, Nat.add_zero] at hol
          generalize (anyP s (spP s q3)).2 = bb
          unfold attrT
          dsimp only
          split
          · simp only [List.append_nil]; omega
          · have : (if bb = true then ([32, 105] : List UInt8) else []).length ≤ 2 := by split <;> simp
            simp only [List.length_append, List.length_cons]
            generalize (if bb = true then ([32, 105] : List UInt8) else []) = tt at *
            omega
section
variable {lf : Nat → Nat × Option (SLst × Nat × Nat)} {s : ByteArray} {W : SLst → Prop} {tl : SLst → List UInt8}
def LWf (lf : Nat → Nat × Option (SLst × Nat × Nat)) (s : ByteArray) (W : SLst → Prop) (tl : SLst → List UInt8) : Prop :=
  ∀ p x, p ≤ s.size → (lf p).2 = some x → (W x.1 ∧ x.1 ≠ []) ∧ (tl x.1).length ≤ 4 * ((lf p).1 - p)
theorem askedP_wf (hl : LWf lf s W tl) {k p : Nat} {x : Sim × Nat × Nat} (hk : k < 11) (hp : p ≤ s.size) (h : (askedP lf s k p).2 = some x) :
    ∃ xx a t l, x.1 = .mk k xx a t l ∧ wfS W x.1 ∧ (askT tl k xx a t l).length ≤ 4 * ((askedP lf s k p).1 - p) + (if k = 8 then 8 else if k = 2 then 4 else 0) := by
  unfold askedP at h ⊢
  by_cases h1 : k ≤ 1
  · rw [if_pos h1] at h ⊢
    obtain ⟨y, hy, rfl⟩ := Option.map_eq_some_iff.1 h
    have := wordP_len hy
    refine ⟨_, _, _, _, rfl, ⟨hk, fun e => by omega, fun e => by omega, fun _ => rfl⟩, ?_⟩
    unfold askT
    rw [if_pos h1]; dsimp only; omega
  · rw [if_neg h1] at h ⊢
    by_cases h2 : k = 2
    · rw [if_pos h2] at h ⊢
      obtain ⟨y, hy, rfl⟩ := Option.map_eq_some_iff.1 h
      have := attrQP_len hp hy
      refine ⟨_, _, _, _, rfl, ⟨hk, fun e => by omega, fun e => by omega, fun _ => rfl⟩, ?_⟩
      unfold askT
      rw [if_neg h1, if_pos h2, if_neg (by omega), if_pos h2]; dsimp only; omega
    · rw [if_neg h2] at h ⊢
      by_cases h3 : k = 8
      · rw [if_pos h3] at h ⊢
        obtain ⟨y, hy, rfl⟩ := Option.map_eq_some_iff.1 h
        have hz : ((-100 < y.a ∧ y.a < 100) ∧ (-100 < y.b ∧ y.b < 100)) ∧ y.word.size ≤ 4 := by
          unfold nthP at hy
          have h5 := fun z => numbersP_wf (s := s) (p := spP s p) (z := z)
          generalize numbersP s (spP s p) = r at hy h5
          obtain ⟨q, o⟩ := r
          cases o with
          | none => cases hy
          | some z =>
            simp only [Option.some.injEq] at hy
            subst hy
            exact h5 z rfl
        refine ⟨_, _, _, _, rfl, ⟨hk, fun _ => hz.1, fun e => by omega, fun _ => rfl⟩, ?_⟩
        have := nthT_len hz.2
        unfold askT
        rw [if_neg h1, if_neg h2, if_pos h3, if_pos h3]; dsimp only; omega
      · rw [if_neg h3] at h ⊢
        by_cases h4 : 9 ≤ k
        · rw [if_pos h4] at h ⊢
          obtain ⟨y, hy, rfl⟩ := Option.map_eq_some_iff.1 h
          obtain ⟨g1, g2⟩ := hl p y hp hy
          refine ⟨_, _, _, _, rfl, ⟨hk, fun e => by omega, fun _ => ⟨g1.2, g1.1⟩, fun e => by omega⟩, ?_⟩
          unfold askT
          rw [if_neg h1, if_neg h2, if_neg h3, if_pos h4]; dsimp only; omega
        · rw [if_neg h4] at h ⊢
          simp only [Option.some.injEq] at h
          subst h
          refine ⟨_, _, _, _, rfl, ⟨hk, fun e => by omega, fun e => by omega, fun _ => rfl⟩, ?_⟩
          unfold askT
          rw [if_neg h1, if_neg h2, if_neg h3, if_neg h4]; simp
theorem open_len8 {k : Nat} {x : List UInt8} (h : openW[k]? = some x) : 1 ≤ x.length ∧ (k = 8 → x.length = 11) ∧ (closeW k).length ≤ 1 ∧ (k = 2 → (closeW k).length = 1) ∧ k < 11 := by
  have hk : k < 11 := (List.getElem?_eq_some_iff.1 h).1
  rcases k with _ | _ | _ | _ | _ | _ | _ | _ | _ | _ | _ | k
  all_goals first
    | omega
    | (simp [openW] at h; subst h; decide)
theorem simpleP_wf (hg : ∀ p, p ≤ s.size → Gd s p (lf p)) (hl : LWf lf s W tl) {p : Nat} {x : Sim × Nat × Nat} (hp : p ≤ s.size) (h : (simpleP lf s p).2 = some x) : wfS W x.1 ∧ (simT tl x.1).length ≤ 4 * ((simpleP lf s p).1 - p) := by
  unfold simpleP at h ⊢
  have h1 := oneP_le (s := s) openW_no0 13 [] p hp
  have h2 := fun i => oneP_len (s := s) (words := openW) 13 [] p i
  generalize oneP s openW 13 [] p = r at h h1 h2
  obtain ⟨q, o⟩ := r
  cases o with
  | none => cases h
  | some k =>
    dsimp only at h h1 h2 ⊢
    obtain ⟨ow, how, hol⟩ := h2 k rfl
    obtain ⟨o1, o2, o3, o4, o5⟩ := open_len8 how
    have h3 := askedP_gd hg (k := k) h1.2
    have h4 := fun y => askedP_wf (x := y) hl o5 h1.2
    generalize askedP lf s k q = r at h h3 h4
    obtain ⟨q2, o'⟩ := r
    cases o' with
    | none => cases h
    | some y =>
      dsimp only at h h3 h4 ⊢
      obtain ⟨xx, a, t, l, hy, hw, hlen⟩ := h4 y rfl
      have h5 := expP_len s (closeW k) q2
      split at h
      · rename_i hx
        have h5 := h5 hx
        simp only [Option.some.injEq] at h
        subst h
        refine ⟨hw, ?_⟩
        dsimp only
        rw [hy]
        have e : (openW.getD k []).length = ow.length := by rw [List.getD_eq_getElem?_getD, how]; rfl
        simp only [List.length_nil, Nat.add_zero] at hol
        show (openW.getD k [] ++ (askT tl k xx a t l ++ closeW k)).length ≤ _
        rw [List.length_append, List.length_append, e, h5]
        by_cases k8 : k = 8
        · have := o2 k8
          rw [if_pos k8] at hlen; omega
        · rw [if_neg k8] at hlen
          by_cases k2 : k = 2
          · have := o4 k2
            rw [if_pos k2] at hlen; omega
          · rw [if_neg k2] at hlen; omega
      · cases h
theorem simsT_snoc (l : List Sim) (m : Sim) : simsT tl (l ++ [m]) = simsT tl l ++ simT tl m := by unfold simsT; simp
theorem simplesP_wf (hg : ∀ p, p ≤ s.size → Gd s p (lf p)) (hl : LWf lf s W tl) : ∀ f l c d p, p ≤ s.size → (∀ m ∈ l, wfS W m) → ∀ x, (simplesP lf s f l c d p).2 = some x → (∀ m ∈ x.1, wfS W m) ∧ (simsT tl x.1).length ≤ (simsT tl l).length + 4 * ((simplesP lf s f l c d p).1 - p)
  | 0, l, c, d, p, hp, hw, x, h => by simp [simplesP] at h
  | f + 1, l, c, d, p, hp, hw, x, h => by
    rw [simplesP] at h ⊢
    split at h
    · rename_i hat
      rw [if_pos hat]
      have h1 := fun y => simpleP_wf (x := y) hg hl hp
      have h2 := simpleP_gd hg hp
      generalize simpleP lf s p = r at h h1 h2
      obtain ⟨q, o⟩ := r
      cases o with
      | none => cases h
      | some y =>
        dsimp only at h h1 h2 ⊢
        obtain ⟨g1, g2⟩ := h1 y rfl
        obtain ⟨⟨e1, e2, _⟩, _⟩ := h2
        dsimp only at e1 e2
        have e3 := (simplesP_gd hg f (l ++ [y.1]) (c + y.2.1) (max d y.2.2) q e2).1
        obtain ⟨g3, g4⟩ := simplesP_wf hg hl f (l ++ [y.1]) (c + y.2.1) (max d y.2.2) q e2 (by
          intro m hm
          rcases List.mem_append.1 hm with hm | hm
          · exact hw m hm
          · rw [List.mem_singleton.1 hm]; exact g1) x h
        refine ⟨g3, ?_⟩
        rw [simsT_snoc, List.length_append] at g4
        omega
    · rename_i hat
      rw [if_neg hat]
      simp only [Option.some.injEq] at h
      subst h
      exact ⟨hw, by dsimp only; omega⟩
theorem compoundP_wf (hg : ∀ p, p ≤ s.size → Gd s p (lf p)) (hl : LWf lf s W tl) {p : Nat} {x : (ByteArray × List Sim) × Nat × Nat} (hp : p ≤ s.size) (h : (compoundP lf s p).2 = some x) : (∀ m ∈ x.1.2, wfS W m) ∧ x.1.1.data.toList.length + (simsT tl x.1.2).length ≤ 4 * ((compoundP lf s p).1 - p) := by
  unfold compoundP at h ⊢
  have h1 := headP_le hp
  have h2 : ∀ n, (headP s p).2 = some n → n.data.toList.length ≤ (headP s p).1 - p := by
    intro n hn
    unfold headP at hn ⊢
    split at hn
    · rename_i e
      rw [if_pos e]
      simp only [Option.some.injEq] at hn
      subst hn
      simp [bytesOf]
    · rename_i e
      rw [if_neg e]
      split at hn
      · rename_i e2
        rw [if_pos e2]
        simp only [Option.some.injEq] at hn
        subst hn
        simp [noB]
      · rename_i e2
        rw [if_neg e2]
        exact (newP_len hp hn).1
  generalize headP s p = r at h h1 h2
  obtain ⟨q, o⟩ := r
  cases o with
  | none => cases h
  | some n =>
    dsimp only at h h1 h2 ⊢
    have h3 := h2 n rfl
    have h4 := simplesP_wf hg hl (s.size + 1) [] 0 0 q h1.2.1 (by simp)
    have h5 := (simplesP_gd hg (s.size + 1) [] 0 0 q h1.2.1).1
    generalize simplesP lf s (s.size + 1) [] 0 0 q = r at h h4 h5
    obtain ⟨q2, o2⟩ := r
    cases o2 with
    | none => cases h
    | some y =>
      dsimp only at h h4 h5 ⊢
      simp only [Option.some.injEq] at h
      subst h
      obtain ⟨g1, g2⟩ := h4 y rfl
      have e : (simsT tl []).length = 0 := rfl
      exact ⟨g1, by dsimp only; omega⟩
theorem combP_wf {q : Nat} {b : Int} (h : (combP s q).2 = some b) : 0 < b ∧ b < 128 := by
  unfold combP at h
  split at h
  · rename_i e
    simp only [Option.some.injEq] at h
    subst h
    unfold combB at e
    simp only [Bool.or_eq_true, beq_iff_eq] at e
    omega
  · split at h
    · cases h
    · split at h
      · simp only [Option.some.injEq] at h
        subst h; decide
      · cases h
theorem byT_len (b : Int) : (byT b).length ≤ 1 := by unfold byT; split <;> simp
theorem combP_some_lt {q : Nat} {b : Int} (hq : q ≤ s.size) (h : (combP s q).2 = some b) : q < (combP s q).1 := by
  unfold combP at h ⊢
  have h1 := spP_le hq
  split at h
  · rename_i e
    rw [if_pos e]
    have h2 : spP s q < s.size := peekI_lt (fun e0 => by rw [e0] at e; revert e; decide)
    have := spP_le (s := s) (p := spP s q + 1) h2
    dsimp only; omega
  · rename_i e
    rw [if_neg e]
    split at h
    · cases h
    · rename_i e2
      rw [if_neg e2]
      split at h
      · rename_i e3
        rw [if_pos e3]; exact e3
      · cases h
theorem cpxT_snoc (l : Cpx) (st : Stp) : cpxT tl (l ++ [st]) = cpxT tl l ++ stpT tl st := by unfold cpxT; simp
/-- A complex that is being read: all steps well; the next combinator. -/
theorem complexP_wf (hg : ∀ p, p ≤ s.size → Gd s p (lf p)) (hl : LWf lf s W tl) : ∀ f l c d b p, p ≤ s.size → wfC W l → ((l = [] → b = 0) ∧ (l ≠ [] → 0 < b ∧ b < 128)) → ∀ x, (complexP lf s f l c d b p).2 = some x → (wfC W x.1 ∧ x.1 ≠ []) ∧ (cpxT tl x.1).length ≤ (cpxT tl l).length + (byT b).length + 4 * ((complexP lf s f l c d b p).1 - p)
  | 0, l, c, d, b, p, hp, hw, hb, x, h => by simp [complexP] at h
  | f + 1, l, c, d, b, p, hp, hw, hb, x, h => by
    rw [complexP] at h ⊢
    have h1 := fun y => compoundP_wf (x := y) hg hl hp
    have h2 := compoundP_gd hg hp
    generalize compoundP lf s p = r at h h1 h2
    obtain ⟨q, o⟩ := r
    cases o with
    | none => cases h
    | some y =>
      dsimp only at h h1 h2 ⊢
      obtain ⟨g1, g2⟩ := h1 y rfl
      obtain ⟨⟨e1, e2, _⟩, _⟩ := h2
      dsimp only at e1 e2
      have hw' : wfC W (l ++ [(b, y.1.1, y.1.2)]) := by
        intro i st hi
        by_cases hil : i < l.length
        · rw [List.getElem?_append_left hil] at hi
          exact hw i st hi
        · rw [List.getElem?_append_right (by omega)] at hi
          have hz : i - l.length = 0 := by
            cases hh : i - l.length with
            | zero => rfl
            | succ n => rw [hh] at hi; simp at hi
          rw [hz] at hi
          simp only [List.getElem?_cons_zero, Option.some.injEq] at hi
          subst hi
          refine ⟨g1, fun e => hb.1 (List.eq_nil_of_length_eq_zero (by omega)), fun e => hb.2 (fun e0 => ?_)⟩
          rw [e0] at hz; simp at hz; omega
      have hT : (cpxT tl (l ++ [(b, y.1.1, y.1.2)])).length ≤ (cpxT tl l).length + (byT b).length + 4 * (q - p) := by
        rw [cpxT_snoc, List.length_append]
        unfold stpT
        rw [List.length_append, List.length_append]
        dsimp only; omega
      have h3 := combP_le (s := s) e2
      have h4 := fun b' => combP_wf (s := s) (q := q) (b := b')
      have h4' := fun b' => combP_some_lt (s := s) (q := q) (b := b') e2
      generalize combP s q = r at h h3 h4 h4'
      obtain ⟨q2, o2⟩ := r
      cases o2 with
      | none =>
        dsimp only at h h3 ⊢
        simp only [Option.some.injEq] at h
        subst h
        exact ⟨⟨hw', by simp⟩, by dsimp only; omega⟩
      | some b' =>
        dsimp only at h h3 h4 h4' ⊢
        have h5 := h4' b' rfl
        obtain ⟨g3, g4⟩ := complexP_wf hg hl f (l ++ [(b, y.1.1, y.1.2)]) (c + y.2.1) (max d y.2.2) b' q2 h3.2 hw' ⟨fun e => by simp at e, fun _ => h4 b' rfl⟩ x h
        have h6 := (complexP_gd hg f (l ++ [(b, y.1.1, y.1.2)]) (c + y.2.1) (max d y.2.2) b' q2 h3.2).1
        have := byT_len b'
        exact ⟨g3, by omega⟩
theorem lstT_snoc (l : SLst) (c : Cpx) : (lstT tl (l ++ [c])).length ≤ (lstT tl l).length + (if l = [] then 0 else 1) + (cpxT tl c).length := by
  cases l with
  | nil => simp [lstT]
  | cons c0 r => simp [lstT]; omega
theorem partsP_wf (hg : ∀ p, p ≤ s.size → Gd s p (lf p)) (hl : LWf lf s W tl) : ∀ f l c d p, p ≤ s.size → (∀ c ∈ l, wfC W c) → ∀ x, (partsP lf s f l c d p).2 = some x → ((∀ c ∈ x.1, wfC W c) ∧ x.1 ≠ []) ∧ (lstT tl x.1).length ≤ (lstT tl l).length + (if l = [] then 0 else 1) + 4 * ((partsP lf s f l c d p).1 - p)
  | 0, l, c, d, p, hp, hw, x, h => by simp [partsP] at h
  | f + 1, l, c, d, p, hp, hw, x, h => by
    rw [partsP] at h ⊢
    have h0 := spP_le hp
    have h1 := complexP_wf hg hl (s.size + 1) [] 0 0 0 (spP s p) h0.2 (fun i st hi => by simp at hi) ⟨fun _ => rfl, fun e => absurd rfl e⟩
    have h2 := complexP_gd hg (s.size + 1) [] 0 0 0 (spP s p) h0.2
    generalize complexP lf s (s.size + 1) [] 0 0 0 (spP s p) = r at h h1 h2
    obtain ⟨q, o⟩ := r
    cases o with
    | none => cases h
    | some y =>
      dsimp only at h h1 h2 ⊢
      obtain ⟨g1, g2⟩ := h1 y rfl
      obtain ⟨e1, e2, e3⟩ := h2
      have hlt := (e3 y rfl).2
      have e0 : (cpxT tl []).length = 0 := rfl
      have e0' : (byT 0).length = 0 := rfl
      have hw' : ∀ c ∈ l ++ [y.1], wfC W c := by
        intro c hc
        rcases List.mem_append.1 hc with hc | hc
        · exact hw c hc
        · rw [List.mem_singleton.1 hc]; exact g1.1
      have hT := lstT_snoc (tl := tl) l y.1
      by_cases hc : peekI s q = 44
      · rw [if_pos hc] at h ⊢
        have hq := peek_in hc (by decide)
        obtain ⟨g3, g4⟩ := partsP_wf hg hl f (l ++ [y.1]) (c + y.2.1) (max d y.2.2) (q + 1) hq hw' x h
        have h6 := (partsP_gd hg f (l ++ [y.1]) (c + y.2.1) (max d y.2.2) (q + 1) hq).1
        rw [if_neg (by simp)] at g4
        exact ⟨g3, by omega⟩
      · rw [if_neg hc] at h ⊢
        simp only [Option.some.injEq] at h
        subst h
        exact ⟨⟨hw', by simp⟩, by dsimp only; omega⟩
end
theorem listP_wf (s : ByteArray) : ∀ n, LWf (listP s n) s (wfL n) (textL n)
  | 0 => fun p x hp h => by simp [listP] at h
  | n + 1 => fun p x hp h => by
    obtain ⟨⟨h1, h2⟩, h3⟩ := partsP_wf (listP_gd s n) (listP_wf s n) (s.size + 1) [] 0 0 p hp (by simp) x h
    refine ⟨⟨h1, h2⟩, ?_⟩
    have e : (lstT (textL n) []).length = 0 := rfl
    rw [if_pos rfl, e] at h3
    show (lstT (textL n) x.1).length ≤ 4 * ((partsP (listP s n) s (s.size + 1) [] 0 0 p).1 - p)
    omega
end Go.Proofs.YtclpcnignheijaaGreatDoor
/-
  No selector that was read is written as nothing.
-/
namespace Go.Proofs.YtclpcnignheijaaGreatDoor
open Go.RowKit

section
variable {lf : Nat → Nat × Option (SLst × Nat × Nat)} {s : ByteArray}
theorem simplesP_more : ∀ f l c d p x, (simplesP lf s f l c d p).2 = some x → l.length ≤ x.1.length ∧ (atB (peekI s p) = true → l.length < x.1.length)
  | 0, l, c, d, p, x, h => by simp [simplesP] at h
  | f + 1, l, c, d, p, x, h => by
    rw [simplesP] at h
    by_cases ha : atB (peekI s p) = true
    · rw [if_pos ha] at h
      generalize simpleP lf s p = r at h
      obtain ⟨q, o⟩ := r
      cases o with
      | none => cases h
      | some y =>
        have := (simplesP_more f _ _ _ _ x h).1
        simp only [List.length_append, List.length_cons, List.length_nil] at this
        exact ⟨by omega, fun _ => by omega⟩
    · rw [if_neg ha] at h
      simp only [Option.some.injEq] at h
      subst h
      exact ⟨Nat.le_refl _, fun e => absurd e ha⟩
def okStp (st : Stp) : Prop := st.2.1.size ≠ 0 ∨ st.2.2 ≠ []
def okCpx (c : Cpx) : Prop := (∀ st ∈ c, okStp st) ∧ c ≠ []
theorem compoundP_ne {p : Nat} {x : (ByteArray × List Sim) × Nat × Nat} (hp : p ≤ s.size) (h : (compoundP lf s p).2 = some x) : x.1.1.size ≠ 0 ∨ x.1.2 ≠ [] := by
  unfold compoundP headP at h
  by_cases h42 : peekI s p = 42
  · rw [if_pos h42] at h
    dsimp only at h
    generalize simplesP lf s (s.size + 1) [] 0 0 (p + 1) = r at h
    obtain ⟨q, o⟩ := r
    cases o with
    | none => cases h
    | some y =>
      simp only [Option.some.injEq] at h
      subst h
      exact .inl (by show (bytesOf [42]).size ≠ 0; decide)
  · rw [if_neg h42] at h
    by_cases ha : atB (peekI s p) = true
    · rw [if_pos ha] at h
      dsimp only at h
      have h1 := fun y => simplesP_more (lf := lf) (s := s) (s.size + 1) [] 0 0 p y
      generalize simplesP lf s (s.size + 1) [] 0 0 p = r at h h1
      obtain ⟨q, o⟩ := r
      cases o with
      | none => cases h
      | some y =>
        simp only [Option.some.injEq] at h
        subst h
        have := (h1 y rfl).2 ha
        exact .inr (fun e => by dsimp only at e; rw [e] at this; simp at this)
    · rw [if_neg ha] at h
      have h1 := fun n => newP_lt (s := s) (p := p) (x := n)
      have h2 : ∀ n, (newP s p noneTaken).2 = some n → n.size ≠ 0 := fun n hn => by
        have hlt := newP_lt hn
        have hna := nameAt_size hp
        unfold newP at hn hlt
        split at hn
        · cases hn
        · split at hn
          · cases hn
          · split at hn
            · cases hn
            · rename_i a1 a2 a3
              rw [if_neg a1, if_neg a2, if_neg a3] at hlt
              simp only [Option.some.injEq] at hn
              subst hn
              dsimp only at hlt
              omega
      generalize newP s p noneTaken = r at h h2
      obtain ⟨q, o⟩ := r
      cases o with
      | none => cases h
      | some n =>
        dsimp only at h
        generalize simplesP lf s (s.size + 1) [] 0 0 q = r at h
        obtain ⟨q', o'⟩ := r
        cases o' with
        | none => cases h
        | some y =>
          simp only [Option.some.injEq] at h
          subst h
          exact .inl (h2 n rfl)
theorem complexP_ne (hg : ∀ p, p ≤ s.size → Gd s p (lf p)) : ∀ f l c d b p, p ≤ s.size → (∀ st ∈ l, okStp st) → ∀ x, (complexP lf s f l c d b p).2 = some x → okCpx x.1
  | 0, l, c, d, b, p, _, _, x, h => by simp [complexP] at h
  | f + 1, l, c, d, b, p, hp, hl, x, h => by
    rw [complexP] at h
    have h1 := fun y => compoundP_ne (lf := lf) (x := y) hp
    have h2 := compoundP_gd hg hp
    generalize compoundP lf s p = r at h h1 h2
    obtain ⟨q, o⟩ := r
    cases o with
    | none => cases h
    | some y =>
      have hn : ∀ st ∈ l ++ [(b, y.1.1, y.1.2)], okStp st := fun st hst => by
        rcases List.mem_append.1 hst with hst | hst
        · exact hl st hst
        · rw [List.mem_singleton] at hst; subst hst; exact h1 y rfl
      have h3 := combP_le (s := s) (p := q) h2.1.2.1
      dsimp only at h
      generalize combP s q = r at h h3
      obtain ⟨q2, o2⟩ := r
      cases o2 with
      | none =>
        simp only [Option.some.injEq] at h
        subst h
        exact ⟨hn, by simp⟩
      | some b' => exact complexP_ne hg f _ _ _ _ _ h3.2 hn x h
theorem partsP_ne (hg : ∀ p, p ≤ s.size → Gd s p (lf p)) : ∀ f l c d p, p ≤ s.size → (∀ cx ∈ l, okCpx cx) → ∀ x, (partsP lf s f l c d p).2 = some x → (∀ cx ∈ x.1, okCpx cx)
  | 0, l, c, d, p, _, _, x, h => by simp [partsP] at h
  | f + 1, l, c, d, p, hp, hl, x, h => by
    rw [partsP] at h
    have hsp := spP_le hp
    have h1 := complexP_ne (lf := lf) hg (s.size + 1) [] 0 0 0 (spP s p) hsp.2 (fun _ h => by cases h)
    have h2 := complexP_gd hg (s.size + 1) [] 0 0 0 (spP s p) hsp.2
    generalize complexP lf s (s.size + 1) [] 0 0 0 (spP s p) = r at h h1 h2
    obtain ⟨q, o⟩ := r
    cases o with
    | none => cases h
    | some y =>
      have hn : ∀ cx ∈ l ++ [y.1], okCpx cx := fun cx hcx => by
        rcases List.mem_append.1 hcx with hcx | hcx
        · exact hl cx hcx
        · rw [List.mem_singleton] at hcx; subst hcx; exact h1 y rfl
      dsimp only at h
      split at h
      · rename_i h44
        exact partsP_ne hg f _ _ _ _ (peek_in h44 (by decide)) hn x h
      · simp only [Option.some.injEq] at h
        subst h
        exact hn
end
theorem openW_ne {k : Nat} (hk : k < 11) : openW.getD k [] ≠ [] := by
  have h : ∀ j, j < 11 → openW.getD j [] ≠ [] := by decide
  exact h k hk
theorem stpT_ne {W : SLst → Prop} {tl : SLst → List UInt8} {st : Stp} (h : okStp st) (hw : wfT W st) : stpT tl st ≠ [] := by
  unfold stpT
  intro e
  simp only [List.append_eq_nil_iff] at e
  obtain ⟨_, e1, e2⟩ := e
  rcases h with h | h
  · apply h
    have := congrArg List.length e1
    rwa [Array.length_toList] at this
  · obtain ⟨m, r, hm⟩ := List.exists_cons_of_ne_nil h
    rw [hm] at e2
    obtain ⟨k, x, a, t, l⟩ := m
    have hk := (hw (.mk k x a t l) (by rw [hm]; simp)).1
    simp only [simsT, List.flatMap_cons, List.append_eq_nil_iff, simT] at e2
    exact openW_ne hk e2.1.1
/-- A selector that was read: how it is written. -/
theorem listP_text {s : ByteArray} {n p : Nat} {x : SLst × Nat × Nat} (hp : p ≤ s.size) (h : (listP s n p).2 = some x) : wfL n x.1 ∧ (textL n x.1).length ≤ 4 * s.size ∧ textL n x.1 ≠ [] := by
  have h1 := listP_wf s n p x hp h
  have h2 := listP_gd s n p hp
  refine ⟨h1.1.1, by have := h1.2; have := h2.2.1; omega, ?_⟩
  cases n with
  | zero => simp [listP] at h
  | succ n =>
    have h3 := partsP_ne (lf := listP s n) (listP_gd s n) (s.size + 1) [] 0 0 p hp (fun _ h => by cases h) x h
    obtain ⟨c, r, hc⟩ := List.exists_cons_of_ne_nil h1.1.2
    have hwc : wfC (wfL n) c := h1.1.1 c (by rw [hc]; simp)
    have hokc := h3 c (by rw [hc]; simp)
    show lstT (textL n) x.1 ≠ []
    rw [hc]
    show cpxT (textL n) c ++ _ ≠ []
    intro e
    have e1 := (List.append_eq_nil_iff.1 e).1
    obtain ⟨st, r', hst⟩ := List.exists_cons_of_ne_nil hokc.2
    rw [hst] at e1
    simp only [cpxT, List.flatMap_cons, List.append_eq_nil_iff] at e1
    exact stpT_ne (hokc.1 st (by rw [hst]; simp)) (hwc 0 st (by rw [hst]; rfl)).1 e1.1
end Go.Proofs.YtclpcnignheijaaGreatDoor
