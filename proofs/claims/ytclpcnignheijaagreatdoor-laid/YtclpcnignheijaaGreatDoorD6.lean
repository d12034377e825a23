import Derived.Test.YtclpcnignheijaaGreatDoorD5
namespace Go.Proofs.YtclpcnignheijaaGreatDoor
open Go.RowKit

def b0 : BS := ⟨[], [], -1, 0⟩
def parseP (s : ByteArray) : Nat × BS × Nat := piecesP s (s.size + 1) 0 b0 false
theorem b0_ok : BOk b0 0 := ⟨by simp [b0], by intro i x h; simp [b0] at h, by simp [b0], by simp [b0], by simp [b0]⟩

/-- A document, as it lies: at block db, its elements in a row of their own. -/
def Dc (w : World) (B db : Nat) (b : BS) : Prop :=
  ∃ (ve : Value) (avs : List Value), w.heap[db]? = some (.cells #[ve, .string ⟨b.txt.toArray⟩] 87 (0, 0)) ∧ avs.length = b.els.length ∧
    w.ownsRow B 139 5 ve b.els.length (elCells b.els avs) ∧ ∀ (i : Nat) (x : El) (a : Value), b.els[i]? = some x → avs[i]? = some a → w.ownsRow B 169 2 a x.attrs.length (attrCells x.attrs)

set_option maxRecDepth 100000 in
set_option maxHeartbeats 1000000 in
theorem read_any (s : ByteArray) (w : World) (hs : s.size ≤ 2000) (hg : Gl w) :
    Calls Tryz.prog 53 #[.string s] w fun e w' => ∃ (tv v : Value), e = .returned (.tuple #[tv, v]) ∧ Below w.heap.size w w' ∧
      (((parseP s).2.2 = 0 ∧ v = .nilIface ∧ ∃ tb, tv = .pointer (some ⟨tb, 0, none⟩) ∧ Tr w' w.heap.size tb (parseP s).2.1) ∨
       ((parseP s).2.2 = 2 ∧ tv = .pointer none ∧ ∃ n, Chain w' 2 (parseP s).1 n v) ∨ ((parseP s).2.2 = 3 ∧ tv = .pointer none ∧ ∃ n, Chain w' 3 0 n v)) := by
  have h0 : 1 < w.heap.size := by obtain ⟨t, fr, h⟩ := hg; exact lt_of_block h
  have h1 : Rd (w.alloc (.cells #[.string s, .int .i64 0] 210)) w.heap.size s 0 := ⟨alloc_at _ _, Nat.zero_le _, hs⟩
  have h2 : Bd ((w.alloc (.cells #[.string s, .int .i64 0] 210)).alloc (.cells #[.slice none 0 0, .slice none 0 0, .int .i64 (-1), .int .i64 0] 212)) w.heap.size (w.heap.size + 1) b0 :=
    ⟨_, _, [], alloc_at' _ (by simp), rfl, World.ownsRow_nil _ _ _ _, World.ownsRow_nil _ _ _ _, by intro i x a hx; simp [b0] at hx⟩
  have HS := hide hs
  go_enter Tryz.func53, Tryz.ntmps53
  go_wp2_with fail
  refine (newReader_any s _).mono ?_
  rintro e w1 ⟨rfl, rfl⟩
  go_wp2_with fail
  refine (newBuilder_any _).mono ?_
  rintro e w2 ⟨rfl, rfl⟩
  go_wp2_with fail
  refine (pieces_any w.heap.size w.heap.size (w.heap.size + 1) s 0 b0 _ ((h1.alloc _).alloc _) (Nat.le_refl _) (by omega) (((hg.alloc _).alloc _).alloc _) h0 (h2.alloc _) b0_ok).mono ?_
  rintro e w3 ⟨v, rfl, E3⟩
  obtain ⟨er, eb, ek, ee⟩ := E3
  have K3 := ((((Kp.refl w.heap.size TP w).alloc _).alloc _).alloc _).trans ek
  have bx3 := ek.at (alloc_at' (n := w.heap.size + 1 + 1) _ (by simp)) (by decide)
  have c1 := cell2_1 bx3
  rcases ee with ⟨g, rfl⟩ | ⟨g, n, hc⟩ | ⟨g, n, hc⟩
  · have G := hide g
    clear g
    go_wp2_with fail
    refine (btree_any w.heap.size (w.heap.size + 1) _ _ eb).mono ?_
    rintro e w4 ⟨tb, rfl, htr, hle, hk4⟩
    go_wp2
    go_ret2
    exact ⟨_, _, rfl, (K3.trans (kp0 hk4)).below (Nat.le_refl _), .inl ⟨G.out, rfl, tb, rfl, htr⟩⟩
  · have G := hide g
    clear g
    obtain ⟨ty, kk, rfl⟩ := hc.shape
    go_wp2
    go_ret2
    exact ⟨_, _, rfl, K3.below (Nat.le_refl _), .inr (.inl ⟨G.out, rfl, n, hc⟩)⟩
  · have G := hide g
    clear g
    obtain ⟨ty, kk, rfl⟩ := hc.shape
    go_wp2
    go_ret2
    exact ⟨_, _, rfl, K3.below (Nat.le_refl _), .inr (.inr ⟨G.out, rfl, n, hc⟩)⟩
set_option maxRecDepth 100000 in
set_option maxHeartbeats 1000000 in
theorem read_long (s : ByteArray) (w : World) (hs : 2000 < s.size) (hm : s.size ≤ 140737488351232) :
    Calls Tryz.prog 53 #[.string s] w fun e w' => ∃ v, e = .returned (.tuple #[.pointer none, v]) ∧ Below w.heap.size w w' ∧ Chain w' 1 0 0 v := by
  go_enter Tryz.func53, Tryz.ntmps53
  go_wp2
  go_ret2
  exact ⟨_, rfl, (Below.refl _ _).alloc (Nat.le_refl _) _, _, rfl, alloc_at _ _⟩

/-- What a refused document tells: a refusal, in which the fault lies. -/
def Refused (w : World) (c pl : Int) (v : Value) : Prop := ∃ k u n, v = .iface 107 (.pointer (some ⟨k, 0, none⟩)) ∧ w.heap[k]? = some (.cells #[u] 110 (0, 0)) ∧ Chain w c pl n u
/-- The code and the place that the document gives for a text that is refused; 0: taken. -/
def codeP (s : ByteArray) : Nat := if 2000 < s.size then 1 else (parseP s).2.2
def placeP (s : ByteArray) : Nat := if 2000 < s.size then 0 else if (parseP s).2.2 = 2 then (parseP s).1 else 0
set_option maxRecDepth 100000 in
set_option maxHeartbeats 1000000 in
theorem parse_any (s : ByteArray) (w : World) (hm : s.size ≤ 140737488351232) (hg : Gl w) :
    Calls Tryz.prog 21 #[.string s] w fun e w' => Below w.heap.size w w' ∧
      ((codeP s = 0 ∧ ∃ db, e = .returned (.tuple #[.pointer (some ⟨db, 0, none⟩), .nilIface]) ∧ w.heap.size ≤ db ∧ Dc w' w.heap.size db (parseP s).2.1) ∨
       (codeP s ≠ 0 ∧ ∃ v, e = .returned (.tuple #[.pointer none, v]) ∧ Refused w' (codeP s : Int) (placeP s : Int) v)) := by
  by_cases hs : 2000 < s.size
  · have hcp : codeP s = 1 := by unfold codeP; rw [if_pos hs]
    have hpp : placeP s = 0 := by unfold placeP; rw [if_pos hs]
    have HC := hide hcp; have HP := hide hpp
    clear hcp hpp
    go_enter Tryz.func21, Tryz.ntmps21
    go_wp2_with fail
    refine (read_long s _ hs hm).mono ?_
    rintro e w1 ⟨v, rfl, hb1, hc⟩
    obtain ⟨ty, kk, rfl⟩ := hc.shape
    go_wp2_with fail
    refine (while_err w.heap.size [] _ _ _ _ _ _ hc).mono ?_
    rintro e w2 ⟨u, rfl, hc2, hk2⟩
    have hb2 := hb1.trans (hk2.below (by have := hb1.size; exact this))
    obtain ⟨ty2, kk2, rfl⟩ := hc2.shape
    go_wp2
    go_ret2
    refine ⟨hb2.alloc (by have := hb2.size; exact this) _, .inr ⟨by rw [HC.out]; decide, _, rfl, ?_⟩⟩
    rw [HC.out, HP.out]
    exact ⟨_, _, _, rfl, alloc_at _ _, hc2.alloc _⟩
  · have hcp : codeP s = (parseP s).2.2 := by unfold codeP; rw [if_neg hs]
    have hpp : placeP s = if (parseP s).2.2 = 2 then (parseP s).1 else 0 := by unfold placeP; rw [if_neg hs]
    have HC := hide hcp; have HP := hide hpp
    clear hcp hpp
    go_enter Tryz.func21, Tryz.ntmps21
    go_wp2_with fail
    refine (read_any s _ (by omega) hg).mono ?_
    rintro e w1 ⟨tv, v, rfl, hb1, hor⟩
    have hsz := hb1.size
    rcases hor with ⟨g, rfl, tb, rfl, ve, avs, a1, a2, a3, a5⟩ | ⟨g, rfl, n, hc⟩ | ⟨g, rfl, n, hc⟩
    · have G := hide g
      clear g
      have c0 := cell2_0 a1; have c1 := cell2_1 a1
      obtain ⟨aoe, cpe, hve⟩ := owns_shape a3
      subst hve
      have A2 := hide a2; have A3 := hide a3; have A5 := hide a5
      clear a1 a2 a3 a5
      go_wp2
      go_ret2
      refine ⟨hb1.alloc hsz _, .inl ⟨by rw [HC.out]; exact G.out, _, rfl, hsz, _, avs, alloc_at _ _, A2.out, A3.out.alloc _, fun i x a hx ha => (A5.out i x a hx ha).alloc _⟩⟩
    · have G := hide g
      clear g
      obtain ⟨ty, kk, rfl⟩ := hc.shape
      go_wp2_with fail
      refine (while_err w.heap.size [] _ _ _ _ _ _ hc).mono ?_
      rintro e w2 ⟨u, rfl, hc2, hk2⟩
      have hb2 := hb1.trans (hk2.below hsz)
      obtain ⟨ty2, kk2, rfl⟩ := hc2.shape
      go_wp2
      go_ret2
      refine ⟨hb2.alloc (by have := hb2.size; exact this) _, .inr ⟨by rw [HC.out, G.out]; decide, _, rfl, ?_⟩⟩
      rw [HC.out, HP.out, if_pos G.out, G.out]
      exact ⟨_, _, _, rfl, alloc_at _ _, hc2.alloc _⟩
    · have G := hide g
      clear g
      obtain ⟨ty, kk, rfl⟩ := hc.shape
      go_wp2_with fail
      refine (while_err w.heap.size [] _ _ _ _ _ _ hc).mono ?_
      rintro e w2 ⟨u, rfl, hc2, hk2⟩
      have hb2 := hb1.trans (hk2.below hsz)
      obtain ⟨ty2, kk2, rfl⟩ := hc2.shape
      go_wp2
      go_ret2
      refine ⟨hb2.alloc (by have := hb2.size; exact this) _, .inr ⟨by rw [HC.out, G.out]; decide, _, rfl, ?_⟩⟩
      rw [HC.out, HP.out, if_neg (by rw [G.out]; decide), G.out]
      exact ⟨_, _, _, rfl, alloc_at _ _, hc2.alloc _⟩
end Go.Proofs.YtclpcnignheijaaGreatDoor
