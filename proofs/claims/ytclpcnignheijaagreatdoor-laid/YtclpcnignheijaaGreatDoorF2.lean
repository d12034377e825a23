import Derived.Test.YtclpcnignheijaaGreatDoorF1
namespace Go.Proofs.YtclpcnignheijaaGreatDoor
open Go.RowKit

def smU (c : UInt8) : Bool := decide (97 ≤ c.toNat) && decide (c.toNat ≤ 122)
theorem smU_facts {c : UInt8} (h : smU c = true) : okU c = true ∧ letterB (c.toNat : Int) = true ∧ nameB (c.toNat : Int) = true ∧ smallU c = c := by
  unfold smU at h
  simp only [Bool.and_eq_true, decide_eq_true_eq] at h
  have h1 : letterB (c.toNat : Int) = true := by unfold letterB; simp; omega
  refine ⟨by unfold okU allowedB; simp; omega, h1, by unfold nameB; rw [h1]; rfl, by unfold smallU; rw [if_neg (by omega)]⟩
theorem run_at {s : ByteArray} : ∀ (n r : List UInt8) (d : UInt8) (p k : Nat), At s p (n ++ d :: r) → (∀ c ∈ n, smU c = true) → okU d = true → nameB (d.toNat : Int) = false → n.length ≤ k → runP nameB s k p = p + n.length
  | [], r, d, p, k, h, _, hd, hn, _ => runP_no (by rw [At.peek h hd]; exact hn)
  | c :: n, r, d, p, k, h, hc, hd, hn, hk => by
    obtain ⟨k, rfl⟩ : ∃ k', k = k' + 1 := ⟨k - 1, by simp at hk; omega⟩
    have f := smU_facts (hc c (List.mem_cons_self ..))
    rw [runP_yes (by rw [At.peek h f.1]; exact f.2.2.1), run_at n r d (p + 1) k (At.step h) (fun x hx => hc x (List.mem_cons_of_mem _ hx)) hd hn (by simp at hk; omega), List.length_cons]
    omega
theorem new_at {s : ByteArray} {n r : List UInt8} {d : UInt8} {p : Nat} {taken : ByteArray → Bool} (h : At s p (n ++ d :: r)) (hc : ∀ c ∈ n, smU c = true) (h0 : n ≠ []) (h16 : n.length ≤ 16) (hd : okU d = true) (hn : nameB (d.toNat : Int) = false) (ht : taken ⟨n.toArray⟩ = false) :
    newP s p taken = (p + n.length, some ⟨n.toArray⟩) := by
  have he : nameEnd s p = p + n.length := run_at n r d p 16 h hc hd hn h16
  have hp : p ≤ s.size := by have := h.2; omega
  have hsm : smallL n = n := by
    unfold smallL
    conv => rhs; rw [← List.map_id n]
    exact List.map_congr_left fun c hx => (smU_facts (hc c hx)).2.2.2
  have hna : nameAt s p = ⟨n.toArray⟩ := by
    unfold nameAt
    rw [he, h.1, Nat.add_sub_cancel_left, List.take_left' rfl, hsm]
  have hl : letterB (peekI s p) = true := by
    cases n with
    | nil => exact absurd rfl h0
    | cons c n => have f := smU_facts (hc c (List.mem_cons_self ..)); rw [At.peek h f.1]; exact f.2.1
  rw [newP_free hl hna he ht, At.peek (At.skip h) hd, hn, if_neg Bool.false_ne_true]
theorem value_at {s : ByteArray} {p : Nat} {l e r : List UInt8} (h : At s p (34 :: (e ++ 34 :: r))) (he : EncL [60, 34] l e) (hl : l.length ≤ s.size) : valueP s p = (p + e.length + 2, some l) := by
  have x1 := exp_at (l := [34]) (r := e ++ 34 :: r) h (by decide)
  have h1 := At.step h
  have x2 : contentP s [60, 34] (p + 1) = (p + 1 + e.length, some l) := by
    have := cont_at (s := s) (ends := [60, 34]) (by decide) l e r 34 (p + 1) (s.size + 1) [] he h1 (by decide) (by decide) (by omega)
    unfold contentP
    simpa using this
  have h2 := At.skip h1
  have x3 := exp_at (l := [34]) (r := r) h2 (by decide)
  simp only [List.length_singleton] at x1 x3
  unfold valueP
  simp only [x1, x2, x3]
  simp; omega
theorem attr_at {s : ByteArray} {p : Nat} {n l e r : List UInt8} {L : List (ByteArray × ByteArray)} (h : At s p (n ++ 61 :: (34 :: (e ++ 34 :: r)))) (hc : ∀ c ∈ n, smU c = true) (h0 : n ≠ []) (h16 : n.length ≤ 16) (he : EncL [60, 34] l e) (hl : l.length ≤ s.size) (ht : hasN L ⟨n.toArray⟩ = false) :
    attrP s p L = (p + n.length + e.length + 3, some (⟨n.toArray⟩, ⟨l.toArray⟩)) := by
  have x1 := new_at (taken := hasN L) h hc h0 h16 (by decide) (by decide) ht
  have h1 := At.skip h
  have pk : peekI s (p + n.length) = 61 := At.peek h1 (by decide)
  have x2 := value_at (At.step h1) he hl
  unfold attrP
  rw [x1]
  dsimp only
  rw [if_pos pk, x2]
  dsimp only
  congr 1; omega
theorem space_at {s : ByteArray} {p : Nat} {d : UInt8} {r : List UInt8} (h : At s p (32 :: d :: r)) (hd : okU d = true) (hn : spaceB (d.toNat : Int) = false) : runTo spaceB s p = p + 1 := by
  rw [runTo_yes (by decide) (by rw [At.peek h (by decide)]; decide)]
  exact runTo_no (by rw [At.peek (At.step h) hd]; exact hn)
theorem nospace_at {s : ByteArray} {p : Nat} {d : UInt8} {r : List UInt8} (h : At s p (d :: r)) (hd : okU d = true) (hn : spaceB (d.toNat : Int) = false) : runTo spaceB s p = p := runTo_no (by rw [At.peek h hd]; exact hn)
/-- One attribute, then something that is no space. -/
theorem attrs_at {s : ByteArray} {p : Nat} {n l e r : List UInt8} {d : UInt8} (h : At s p (32 :: (n ++ 61 :: (34 :: (e ++ 34 :: d :: r))))) (hc : ∀ c ∈ n, smU c = true) (h0 : n ≠ []) (h16 : n.length ≤ 16) (he : EncL [60, 34] l e) (hl : l.length ≤ s.size) (hd : okU d = true) (hn : spaceB (d.toNat : Int) = false) :
    attributesP s p = (p + n.length + e.length + 4, some [(⟨n.toArray⟩, ⟨l.toArray⟩)]) ∧ At s (p + n.length + e.length + 4) (d :: r) := by
  have h1 := At.step h
  obtain ⟨c, n', rfl⟩ : ∃ c n', n = c :: n' := by
    cases n with
    | nil => exact absurd rfl h0
    | cons c n' => exact ⟨c, n', rfl⟩
  have f := smU_facts (hc c (List.mem_cons_self ..))
  have hcs : spaceB (c.toNat : Int) = false ∧ (c.toNat : Int) ≠ 47 ∧ (c.toNat : Int) ≠ 62 := by
    have := hc c (List.mem_cons_self ..)
    unfold smU at this
    simp only [Bool.and_eq_true, decide_eq_true_eq] at this
    refine ⟨?_, by omega, by omega⟩
    unfold spaceB
    simp; omega
  have sp := space_at h f.1 hcs.1
  have pk := At.peek h1 f.1
  have x1 := attr_at (L := []) h1 hc h0 h16 he hl rfl
  have h2 : At s (p + (c :: n').length + e.length + 4) (d :: r) := by
    have a1 := At.skip h1
    have a2 := At.step (At.step a1)
    have a3 := At.step (At.skip a2)
    have : p + (c :: n').length + e.length + 4 = p + 1 + (c :: n').length + 1 + 1 + e.length + 1 := by omega
    rw [this]; exact a3
  refine ⟨?_, h2⟩
  have sz : 2 ≤ s.size := by have := h.2; simp at this; omega
  have ns := nospace_at h2 hd hn
  obtain ⟨f1, hf1⟩ : ∃ f1, s.size + 1 = f1 + 1 + 1 := ⟨s.size - 1, by omega⟩
  unfold attributesP
  rw [hf1, attrsP, sp, if_pos ⟨by omega, by rw [pk]; exact hcs.2.1, by rw [pk]; exact hcs.2.2⟩, x1]
  dsimp only
  have e2 : p + 1 + (c :: n').length + e.length + 3 = p + (c :: n').length + e.length + 4 := by omega
  rw [e2, attrsP, ns, if_neg (by omega)]
  rfl
theorem noattrs_at {s : ByteArray} {p : Nat} {d : UInt8} {r : List UInt8} (h : At s p (d :: r)) (hd : okU d = true) (hn : spaceB (d.toNat : Int) = false) : attributesP s p = (p, some []) := by
  unfold attributesP
  rw [attrsP, nospace_at h hd hn, if_neg (by omega)]
end Go.Proofs.YtclpcnignheijaaGreatDoor
