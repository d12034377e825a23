/-
  The frame of this proof: 'Kp B T w w'': from w to w' memory has grown, and of the blocks that were there only such have turned whose cells are of a type in T and whose number is B at least. Plain facts on worlds; no program in sight.
-/
import Derived.WalkKit
import Derived.WalkSpells
import Derived.WalkLawsBesides
namespace Go.Proofs.YtclpcnignheijaaGreatDoor
open Go.RowKit

theorem hide {p : Prop} (h : p) : Hid p := h
theorem ret_bool {a b : Bool} (h : a = b) : Ending.returned (.bool a) = .returned (.bool b) := by rw [h]
theorem ret_int {k : IntKind} {a b : Int} (h : a = b) : Ending.returned (.int k a) = .returned (.int k b) := by rw [h]

structure Kp (B : Nat) (T : List TypeId) (w w' : World) : Prop where
  os : w'.os = w.os
  tape : w'.tape = w.tape
  output : w'.output = w.output
  size : w.heap.size ≤ w'.heap.size
  block : ∀ k, k < w.heap.size → (k < B ∨ ∀ c t fr, w.heap[k]? = some (.cells c t fr) → t ∉ T) → w'.heap[k]? = w.heap[k]?

theorem Kp.refl (B : Nat) (T : List TypeId) (w : World) : Kp B T w w := ⟨rfl, rfl, rfl, Nat.le_refl _, fun _ _ _ => rfl⟩

theorem Kp.trans {B : Nat} {T : List TypeId} {a b c : World} (h : Kp B T a b) (k : Kp B T b c) : Kp B T a c := by
  refine ⟨k.os.trans h.os, k.tape.trans h.tape, k.output.trans h.output, Nat.le_trans h.size k.size, fun i hi hc => ?_⟩
  have e := h.block i hi hc
  refine (k.block i (Nat.lt_of_lt_of_le hi h.size) ?_).trans e
  rcases hc with hc | hc
  · exact .inl hc
  · exact .inr fun c t fr he => hc c t fr (by rw [← e]; exact he)

theorem Kp.mono {B B' : Nat} {T T' : List TypeId} {a b : World} (h : Kp B T a b) (hB : B' ≤ B) (hT : ∀ t, t ∈ T → t ∈ T') : Kp B' T' a b :=
  ⟨h.os, h.tape, h.output, h.size, fun i hi hc => h.block i hi (by
    rcases hc with hc | hc
    · exact .inl (by omega)
    · exact .inr fun c t fr he ht => hc c t fr he (hT t ht))⟩

theorem Kp.drewN {B : Nat} {T : List TypeId} {a w : World} (h : Kp B T a w) (n : Nat) : Kp B T a (w.drewN n) := ⟨h.os, h.tape, h.output, h.size, h.block⟩
theorem Kp.drew {B : Nat} {T : List TypeId} {a w : World} (h : Kp B T a w) : Kp B T a w.drew := ⟨h.os, h.tape, h.output, h.size, h.block⟩
theorem Kp.fromDrewN {B : Nat} {T : List TypeId} {a w : World} {n : Nat} (h : Kp B T (a.drewN n) w) : Kp B T a w := ⟨h.os, h.tape, h.output, h.size, h.block⟩

theorem Kp.alloc {B : Nat} {T : List TypeId} {a w : World} (h : Kp B T a w) (o : Obj) : Kp B T a (w.alloc o) :=
  h.trans ⟨rfl, rfl, rfl, by simp, fun k hk _ => Below.heap_alloc _ _ _ (by omega)⟩

theorem Kp.setCell {B : Nat} {T : List TypeId} {a w : World} (h : Kp B T a w) {p : Addr} {c : Array Value} {t : TypeId} {fr : Nat × Nat} (hp : w.heap[p.block]? = some (.cells c t fr)) (ht : t ∈ T) (hB : B ≤ p.block) (u : Value) : Kp B T a (w.setCell p u) := by
  refine h.trans ⟨rfl, rfl, rfl, by simp [World.setCell], fun k hk hc => Below.heap_setCell _ _ _ _ ?_⟩
  rintro rfl
  rcases hc with hc | hc
  · omega
  · exact hc _ _ _ hp ht

theorem Kp.grown {B : Nat} {T : List TypeId} {a w w' : World} {row : Option Nat} (h : Kp B T a w) (hg : w.grownBy w' row) (hr : ∀ k, row = some k → B ≤ k ∧ ∃ c t fr, w.heap[k]? = some (.cells c t fr) ∧ t ∈ T) : Kp B T a w' := by
  refine h.trans ⟨hg.os, hg.tape, hg.output, hg.size, fun k hk hc => hg.block k hk fun e => ?_⟩
  obtain ⟨h1, c, t, fr, h2, h3⟩ := hr k e.symm
  rcases hc with hc | hc
  · omega
  · exact hc _ _ _ h2 h3

theorem Kp.at {B : Nat} {T : List TypeId} {w w' : World} (h : Kp B T w w') {k : Nat} {c : Array Value} {t : TypeId} {fr : Nat × Nat} (hk : w.heap[k]? = some (.cells c t fr)) (ht : t ∉ T) : w'.heap[k]? = some (.cells c t fr) := by
  rw [h.block k (lt_of_block hk) (.inr fun c' t' fr' he => ?_)]
  · exact hk
  · rw [hk] at he
    simp only [Option.some.injEq, Obj.cells.injEq] at he
    obtain ⟨_, rfl, _⟩ := he
    exact ht

theorem Kp.low {B : Nat} {T : List TypeId} {w w' : World} (h : Kp B T w w') {k : Nat} (hk : k < w.heap.size) (hB : k < B) : w'.heap[k]? = w.heap[k]? := h.block k hk (.inl hB)

theorem Kp.below {B : Nat} {T : List TypeId} {w w' : World} (h : Kp B T w w') (hB : B ≤ w.heap.size) : Below B w w' := ⟨h.os, h.tape, h.output, h.size, fun k hk => h.block k (by omega) (.inl hk)⟩

theorem Kp.owns {B : Nat} {T : List TypeId} {w w' : World} (h : Kp B T w w') {base : Nat} {e : TypeId} {size : Nat} {v : Value} {n : Nat} {xs : List Value} (ho : w.ownsRow base e size v n xs) (ht : e ∉ T) : w'.ownsRow base e size v n xs := by
  obtain ⟨h1, h2⟩ := ho
  refine ⟨h1, ?_⟩
  rcases h2 with h2 | ⟨g, cap, cur, hv, hg, hh, r⟩
  · exact .inl h2
  · exact .inr ⟨g, cap, cur, hv, hg, h.at hh ht, r⟩

/-- A block of two cells. -/
theorem cell2_0 {w : World} {b : Nat} {x y : Value} {t : TypeId} (h : w.heap[b]? = some (.cells #[x, y] t (0, 0))) : w.cell? ⟨b, 0, none⟩ = some x := by simp [World.cell?, h]
theorem cell2_1 {w : World} {b : Nat} {x y : Value} {t : TypeId} (h : w.heap[b]? = some (.cells #[x, y] t (0, 0))) : w.cell? ⟨b, 1, none⟩ = some y := by simp [World.cell?, h]
theorem free_of {w : World} {b o : Nat} {c : Array Value} {t : TypeId} (h : w.heap[b]? = some (.cells c t (0, 0))) : w.frozen? ⟨b, o, none⟩ = false := by simp [World.frozen?, h]
theorem two_set1 {w : World} {b : Nat} {x y u : Value} {t : TypeId} (h : w.heap[b]? = some (.cells #[x, y] t (0, 0))) : (w.setCell ⟨b, 1, none⟩ u).heap[b]? = some (.cells #[x, u] t (0, 0)) := by
  simp [World.setCell, Array.getElem?_modify, h]
theorem alloc_at (w : World) (o : Obj) : (w.alloc o).heap[w.heap.size]? = some o := by
  show (w.heap.push o)[w.heap.size]? = _
  simp
theorem alloc_old {w : World} {k : Nat} {x : Obj} (h : w.heap[k]? = some x) (o : Obj) : (w.alloc o).heap[k]? = some x := by
  rw [Below.heap_alloc _ _ _ (lt_of_block h)]; exact h
theorem block_ne {w : World} {j k : Nat} {c d : Array Value} {t u : TypeId} {f g : Nat × Nat} (h : w.heap[j]? = some (.cells c t f)) (h' : w.heap[k]? = some (.cells d u g)) (ht : t ≠ u) : j ≠ k := by
  rintro rfl
  rw [h] at h'
  simp only [Option.some.injEq, Obj.cells.injEq] at h'
  exact ht h'.2.1
theorem setCell_other {w : World} {a : Addr} {k : Nat} {x : Obj} (h : w.heap[k]? = some x) (hne : k ≠ a.block) (u : Value) : (w.setCell a u).heap[k]? = some x := by
  rw [Below.heap_setCell _ _ _ _ hne]; exact h

theorem alloc_at' {w : World} {n : Nat} (o : Obj) (hn : n = w.heap.size) : (w.alloc o).heap[n]? = some o := by rw [hn]; exact alloc_at w o
theorem set_blk {w : World} {b o : Nat} {c : Array Value} {t : TypeId} {fr : Nat × Nat} (h : w.heap[b]? = some (.cells c t fr)) (u : Value) : (w.setCell ⟨b, o, none⟩ u).heap[b]? = some (.cells (c.setIfInBounds o u) t fr) := by
  simp [World.setCell, Array.getElem?_modify, h]
theorem Kp.setNew {B : Nat} {T : List TypeId} {a w : World} (h : Kp B T a w) {p : Addr} (hp : a.heap.size ≤ p.block) (u : Value) : Kp B T a (w.setCell p u) :=
  ⟨h.os, h.tape, h.output, by simpa [World.setCell] using h.size, fun k hk hc => by rw [Below.heap_setCell _ _ _ _ (by omega)]; exact h.block k hk hc⟩
theorem Kp.setAny {w : World} {p : Addr} {c : Array Value} {t : TypeId} {fr : Nat × Nat} (hp : w.heap[p.block]? = some (.cells c t fr)) (u : Value) : Kp 0 [t] w (w.setCell p u) :=
  (Kp.refl 0 [t] w).setCell hp (by simp) (Nat.zero_le _) u
theorem cell_set {w : World} {a : Addr} {u v : Value} (h : w.cell? a = some u) : (w.setCell a v).cell? a = some v := by
  exact World.cell?_setCell_same _ _ _ h
theorem cell_set_ne {w : World} {a b : Addr} {v : Value} (h : a ≠ b) : (w.setCell a v).cell? b = w.cell? b := by
  exact World.cell?_setCell_other _ _ _ _ h
end Go.Proofs.YtclpcnignheijaaGreatDoor
