/-
  How a selector lies in memory: rows of values in blocks, each telling of a part. The same for the program's selectors and for the document's: a 'Lay' says which types the rows have, and how a simple's cells read. 'P': which blocks it may lie in. 'n': how deep its lists may lie in one another.
-/
import Derived.Test.YtclpcnignheijaaGreatDoorP1
namespace Go.Proofs.YtclpcnignheijaaGreatDoor
open Go.RowKit

structure Lay where
  tC : TypeId
  tS : TypeId
  tM : TypeId
  size : Nat
  cells : Nat → ByteArray → AttrQ → NthQ → Value → List Value
  len : ∀ k x a t v, (cells k x a t v).length = size
  stp : Nat
  pre : List Value → Prop
  plen : ∀ l, pre l → l.length + 3 = stp

def Row {α : Type} (R : α → List Value → Prop) : List α → List Value → Prop
  | [], xs => xs = []
  | a :: l, xs => ∃ c r, xs = c ++ r ∧ R a c ∧ Row R l r
theorem Row.mono {α : Type} {R R' : α → List Value → Prop} (h : ∀ a c, R a c → R' a c) : ∀ {l : List α} {xs : List Value}, Row R l xs → Row R' l xs
  | [], _, hx => hx
  | _ :: _, _, ⟨c, r, e, h1, h2⟩ => ⟨c, r, e, h _ _ h1, Row.mono h h2⟩
theorem Row.snoc {α : Type} {R : α → List Value → Prop} {a : α} {c : List Value} (ha : R a c) : ∀ {l : List α} {xs : List Value}, Row R l xs → Row R (l ++ [a]) (xs ++ c)
  | [], xs, hx => by
    have hx' : xs = [] := hx
    subst hx'
    exact ⟨c, [], by simp, ha, rfl⟩
  | b :: l, xs, ⟨d, r, e, h1, h2⟩ => ⟨d, r ++ c, by rw [e, List.append_assoc], h1, Row.snoc ha h2⟩
theorem Row.get {α : Type} {R : α → List Value → Prop} {m : Nat} (hm : ∀ a c, R a c → c.length = m) : ∀ {l : List α} {xs : List Value} {k : Nat} {a : α}, Row R l xs → l[k]? = some a → ∃ c, R a c ∧ ∀ j, j < m → xs[k * m + j]? = c[j]?
  | [], _, _, _, _, hk => by simp at hk
  | b :: l, xs, 0, a, ⟨c, r, e, h1, _⟩, hk => by
    simp at hk
    subst hk
    refine ⟨c, h1, fun j hj => ?_⟩
    rw [e, Nat.zero_mul, Nat.zero_add, List.getElem?_append_left (by rw [hm _ _ h1]; exact hj)]
  | b :: l, xs, k + 1, a, ⟨c, r, e, h1, h2⟩, hk => by
    obtain ⟨d, hd, hj⟩ := Row.get hm h2 (by simpa using hk)
    refine ⟨d, hd, fun j hjm => ?_⟩
    have hc := hm _ _ h1
    rw [e, List.getElem?_append_right (by rw [hc, Nat.add_mul]; omega), hc, show (k + 1) * m + j - m = k * m + j from by rw [Nat.add_mul]; omega]
    exact hj j hjm

def Own (P : Nat → Prop) (w : World) (e : TypeId) (size : Nat) (v : Value) (n : Nat) (xs : List Value) : Prop := w.ownsRow 0 e size v n xs ∧ ∀ g, v.ownBlock = some g → P g
theorem Own.map {P P' : Nat → Prop} {w w' : World} {e : TypeId} {size : Nat} {v : Value} {n : Nat} {xs : List Value} (h : Own P w e size v n xs)
    (hf : ∀ g c, P g → w.heap[g]? = some (.cells c e (0, 0)) → P' g ∧ w'.heap[g]? = some (.cells c e (0, 0))) : Own P' w' e size v n xs := by
  obtain ⟨⟨h1, h2⟩, h3⟩ := h
  rcases h2 with ⟨hv, hn⟩ | ⟨g, cap, cur, hv, hg, hh, r⟩
  · refine ⟨⟨h1, .inl ⟨hv, hn⟩⟩, fun g hg => ?_⟩
    rw [hv] at hg; simp [Value.ownBlock] at hg
  · have hb : v.ownBlock = some g := by rw [hv]; rfl
    obtain ⟨a1, a2⟩ := hf g cur (h3 g hb) hh
    refine ⟨⟨h1, .inr ⟨g, cap, cur, hv, hg, a2, r⟩⟩, fun g' hg' => ?_⟩
    rw [hb] at hg'
    obtain rfl := Option.some.inj hg'
    exact a1

section
variable (L : Lay)
def repS (RL : Value → SLst → Prop) : Sim → List Value → Prop
  | .mk k x a t l, vs => ∃ v, vs = L.cells k x a t v ∧ RL v l
def repM (P : Nat → Prop) (w : World) (RL : Value → SLst → Prop) (v : Value) (ms : List Sim) : Prop := ∃ xs, Own P w L.tM L.size v ms.length xs ∧ Row (repS L RL) ms xs
def repT (P : Nat → Prop) (w : World) (RL : Value → SLst → Prop) (st : Stp) (vs : List Value) : Prop := ∃ v pr, vs = pr ++ [.int .u8 st.1, .string st.2.1, v] ∧ L.pre pr ∧ repM L P w RL v st.2.2
def repC (P : Nat → Prop) (w : World) (RL : Value → SLst → Prop) (v : Value) (c : Cpx) : Prop := ∃ xs, Own P w L.tS L.stp v c.length xs ∧ Row (repT L P w RL) c xs
def repL (P : Nat → Prop) (w : World) (RL : Value → SLst → Prop) (v : Value) (l : SLst) : Prop := ∃ xs, Own P w L.tC 1 v l.length xs ∧ Row (fun c vs => ∃ v', vs = [v'] ∧ repC L P w RL v' c) l xs
def RepL (P : Nat → Prop) (w : World) : Nat → Value → SLst → Prop
  | 0, v, l => v = .slice none 0 0 ∧ l = []
  | n + 1, v, l => repL L P w (RepL P w n) v l
end
/-- From one world, and one set of blocks, to another. -/
def Fr (L : Lay) (P P' : Nat → Prop) (w w' : World) : Prop := ∀ g c t, P g → w.heap[g]? = some (.cells c t (0, 0)) → (t = L.tC ∨ t = L.tS ∨ t = L.tM) → P' g ∧ w'.heap[g]? = some (.cells c t (0, 0))
section
variable {L : Lay} {P P' : Nat → Prop} {w w' : World}
theorem repS.map {RL RL' : Value → SLst → Prop} (hr : ∀ v l, RL v l → RL' v l) {m : Sim} {vs : List Value} (h : repS L RL m vs) : repS L RL' m vs := by
  obtain ⟨k, x, a, t, l⟩ := m
  obtain ⟨v, e, h⟩ := h
  exact ⟨v, e, hr v l h⟩
theorem repM.map (hf : Fr L P P' w w') {RL RL' : Value → SLst → Prop} (hr : ∀ v l, RL v l → RL' v l) {v : Value} {ms : List Sim} (h : repM L P w RL v ms) : repM L P' w' RL' v ms := by
  obtain ⟨xs, h1, h2⟩ := h
  exact ⟨xs, h1.map fun g c hp hg => hf g c _ hp hg (.inr (.inr rfl)), h2.mono fun _ _ h => h.map hr⟩
theorem repT.map (hf : Fr L P P' w w') {RL RL' : Value → SLst → Prop} (hr : ∀ v l, RL v l → RL' v l) {st : Stp} {vs : List Value} (h : repT L P w RL st vs) : repT L P' w' RL' st vs := by
  obtain ⟨v, pr, e, hp, h⟩ := h
  exact ⟨v, pr, e, hp, h.map hf hr⟩
theorem repC.map (hf : Fr L P P' w w') {RL RL' : Value → SLst → Prop} (hr : ∀ v l, RL v l → RL' v l) {v : Value} {c : Cpx} (h : repC L P w RL v c) : repC L P' w' RL' v c := by
  obtain ⟨xs, h1, h2⟩ := h
  exact ⟨xs, h1.map fun g c hp hg => hf g c _ hp hg (.inr (.inl rfl)), h2.mono fun _ _ h => h.map hf hr⟩
theorem repL.map (hf : Fr L P P' w w') {RL RL' : Value → SLst → Prop} (hr : ∀ v l, RL v l → RL' v l) {v : Value} {l : SLst} (h : repL L P w RL v l) : repL L P' w' RL' v l := by
  obtain ⟨xs, h1, h2⟩ := h
  exact ⟨xs, h1.map fun g c hp hg => hf g c _ hp hg (.inl rfl), h2.mono fun _ _ ⟨v', e, h⟩ => ⟨v', e, h.map hf hr⟩⟩
theorem RepL.map (hf : Fr L P P' w w') : ∀ {n : Nat} {v : Value} {l : SLst}, RepL L P w n v l → RepL L P' w' n v l
  | 0, _, _, h => h
  | _ + 1, _, _, h => repL.map hf (fun _ _ h => RepL.map hf h) h
theorem RepL.nil (L : Lay) (P : Nat → Prop) (w : World) : ∀ n, RepL L P w n (.slice none 0 0) []
  | 0 => ⟨rfl, rfl⟩
  | _ + 1 => ⟨[], ⟨World.ownsRow_nil _ _ _ _, fun g hg => by simp [Value.ownBlock] at hg⟩, rfl⟩
theorem repM.mp (hf : Fr L P P' w w') {n : Nat} {v : Value} {ms : List Sim} (h : repM L P w (RepL L P w n) v ms) : repM L P' w' (RepL L P' w' n) v ms := h.map hf fun _ _ h => h.map hf
theorem repT.mp (hf : Fr L P P' w w') {n : Nat} {st : Stp} {vs : List Value} (h : repT L P w (RepL L P w n) st vs) : repT L P' w' (RepL L P' w' n) st vs := h.map hf fun _ _ h => h.map hf
theorem repC.mp (hf : Fr L P P' w w') {n : Nat} {v : Value} {c : Cpx} (h : repC L P w (RepL L P w n) v c) : repC L P' w' (RepL L P' w' n) v c := h.map hf fun _ _ h => h.map hf
theorem repS.mp (hf : Fr L P P' w w') {n : Nat} {m : Sim} {vs : List Value} (h : repS L (RepL L P w n) m vs) : repS L (RepL L P' w' n) m vs := h.map fun _ _ h => h.map hf
theorem repS.len {RL : Value → SLst → Prop} {m : Sim} {vs : List Value} (h : repS L RL m vs) : vs.length = L.size := by
  obtain ⟨k, x, a, t, l⟩ := m
  obtain ⟨v, e, _⟩ := h
  rw [e]; exact L.len _ _ _ _ _
theorem repT.len {RL : Value → SLst → Prop} {st : Stp} {vs : List Value} (h : repT L P w RL st vs) : vs.length = L.stp := by
  obtain ⟨v, pr, e, hp, _⟩ := h
  rw [e, List.length_append]; exact L.plen pr hp
/-- Frames. -/
theorem Fr.ofKp {B : Nat} {T : List TypeId} (k : Kp B T w w') (h1 : L.tC ∉ T) (h2 : L.tS ∉ T) (h3 : L.tM ∉ T) (hp : ∀ g, P g → P' g) : Fr L P P' w w' := by
  intro g c t hg hb ht
  refine ⟨hp g hg, k.at hb ?_⟩
  rcases ht with rfl | rfl | rfl
  · exact h1
  · exact h2
  · exact h3
theorem Fr.same (hp : ∀ g, P g → P' g) : Fr L P P' w w := fun g _ _ hg hb _ => ⟨hp g hg, hb⟩
theorem Fr.alloc (o : Obj) (hp : ∀ g, P g → P' g) : Fr L P P' w (w.alloc o) := fun g _ _ hg hb _ => ⟨hp g hg, alloc_old hb o⟩
/-- Behind an append to the row v: what lies outside of v's own row stands, and lies outside of the new one. -/
theorem Fr.grown {row : Option Nat} {g : Nat} (hg : w.grownBy w' row) (hat : row = some g ∨ g = w.heap.size) (hp : ∀ k, P k → row ≠ some k) (hp' : ∀ k, P k → k ≠ g → P' k) : Fr L P P' w w' := by
  intro k c t hk hb _
  have hlt := lt_of_block hb
  refine ⟨hp' k hk ?_, by rw [hg.block k hlt (Ne.symm (hp k hk))]; exact hb⟩
  rintro rfl
  rcases hat with h | h
  · exact hp _ hk h
  · omega
end
end Go.Proofs.YtclpcnignheijaaGreatDoor
