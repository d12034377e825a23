import Derived.Test.YtclpcnignheijaaGreatDoorB4
namespace Go.Proofs.YtclpcnignheijaaGreatDoor
open Go.RowKit

theorem owns_shape {w : World} {base : Nat} {e : TypeId} {size : Nat} {v : Value} {n : Nat} {xs : List Value} (h : w.ownsRow base e size v n xs) : ∃ ao c, v = .slice ao n c := by
  rcases h.2 with ⟨hv, h0⟩ | ⟨g, cap, cur, hv, _⟩
  · exact ⟨none, 0, by rw [hv, h0]⟩
  · exact ⟨_, _, hv⟩
theorem newP_size {s : ByteArray} {p : Nat} {t : ByteArray → Bool} {n : ByteArray} (hp : p ≤ s.size) (h : (newP s p t).2 = some n) : n.size ≤ 16 := by
  have hs := nameAt_size hp
  have hl := nameEnd_le hp
  unfold newP at h
  split at h
  · cases h
  · split at h
    · cases h
    · split at h
      · cases h
      · cases h; omega

theorem fin2 {w : World} {b : Nat} {x y : Value} {t : TypeId} (rs : w.heap[b]? = some (.cells #[x, y] t (0, 0))) (a c : Value) :
    ((w.setCell ⟨b, 0, none⟩ a).setCell ⟨b, 1, none⟩ c).heap[b]? = some (.cells #[a, c] t (0, 0)) ∧ Kp 0 [t] w ((w.setCell ⟨b, 0, none⟩ a).setCell ⟨b, 1, none⟩ c) := by
  have h1 := set_blk (o := 0) rs a
  exact ⟨set_blk (o := 1) h1 c, (Kp.setAny (p := ⟨b, 0, none⟩) rs a).trans (Kp.setAny (p := ⟨b, 1, none⟩) h1 c)⟩

def attrP (s : ByteArray) (p : Nat) (l : List (ByteArray × ByteArray)) : Nat × Option (ByteArray × ByteArray) :=
  match (newP s p (hasN l)).2 with
  | none => ((newP s p (hasN l)).1, none)
  | some n =>
    if peekI s (newP s p (hasN l)).1 = 61 then
      match (valueP s ((newP s p (hasN l)).1 + 1)).2 with
      | none => ((valueP s ((newP s p (hasN l)).1 + 1)).1, none)
      | some m => ((valueP s ((newP s p (hasN l)).1 + 1)).1, some (n, ⟨m.toArray⟩))
    else ((newP s p (hasN l)).1, some (n, ⟨#[]⟩))
theorem attrP_le (s : ByteArray) (p : Nat) (l : List (ByteArray × ByteArray)) (h : p ≤ s.size) : p ≤ (attrP s p l).1 ∧ (attrP s p l).1 ≤ s.size := by
  have h1 := newP_le s p (hasN l) h
  unfold attrP
  split
  · exact h1
  · split
    · rename_i hp
      have h2 : (newP s p (hasN l)).1 < s.size := peekI_lt (by omega)
      have h3 := valueP_le s ((newP s p (hasN l)).1 + 1) h2
      split <;> dsimp only <;> omega
    · exact h1

set_option maxRecDepth 100000 in
set_option maxHeartbeats 1000000 in
theorem attribute_any (B rb bb : Nat) (s : ByteArray) (p : Nat) (l : List (ByteArray × ByteArray)) (bv : Value) (w : World) (h : Rd w rb s p) (hB : B ≤ rb) (hg : Gl w) (hB0 : 1 < B)
    (ho : w.ownsRow B 169 2 bv l.length (attrCells l)) (hll : l.length ≤ 2000) :
    Calls Tryz.prog 246 #[.agg #[.pointer (some ⟨rb, 0, none⟩), .pointer (some ⟨bb, 0, none⟩)], bv] w fun e w' => ∃ (x : ByteArray × ByteArray) (v : Value), e = .returned (.tuple #[.agg #[.string x.1, .string x.2], v]) ∧
      Rd w' rb s (attrP s p l).1 ∧ Kp B [210] w w' ∧ ((some x = (attrP s p l).2 ∧ v = .nilIface) ∨ ((attrP s p l).2 = none ∧ ∃ n, Chain w' 2 (attrP s p l).1 n v)) := by
  obtain ⟨ao, cap, hbv⟩ := owns_shape ho
  subst hbv
  have h4 := h.le
  cases h1 : (newP s p (hasN l)).2 with
  | none =>
    have HE : Hid (attrP s p l = ((newP s p (hasN l)).1, none)) := by unfold attrP; rw [h1]; rfl
    have H1 := hide h1
    clear h1
    go_enter Tryz.func246, Tryz.ntmps246
    go_wp2_with fail
    refine (newName_has B rb s p (w.heap.size + 1) l (.slice ao l.length cap) _ (((h.alloc _).alloc _).alloc _) hB (alloc_old (alloc_at' _ (by simp)) _) (((ho.alloc _).alloc _).alloc _) hll).mono ?_
    rintro e w1 ⟨n1, v, rfl, hr1, hk1, hor⟩
    rcases hor with ⟨hx, _⟩ | ⟨_, hc⟩
    · exact absurd (hx.trans H1.out) (by simp)
    obtain ⟨ty, kk, hv⟩ := hc.shape
    rw [hv] at hc ⊢
    have rs1 := hk1.at (alloc_at' (n := w.heap.size + 1 + 1) _ (by simp)) (by decide)
    go_wp2_with fail
    refine (while_err B [] _ _ _ _ _ _ hc).mono ?_
    rintro e w3 ⟨u, rfl, hc3, hk3⟩
    have rs3 := hk3.at rs1 (by simp)
    have q0 := cell2_0 rs3; have q1 := cell2_1 rs3; have f0 := free_of (o := 0) rs3; have f1 := free_of (o := 1) rs3
    go_wp2
    obtain ⟨rsF, kpF⟩ := fin2 rs3 (.string ⟨#[]⟩) (.string ⟨#[]⟩)
    refine bodyPost_ret (v := .tuple #[.agg #[.string ⟨#[]⟩, .string ⟨#[]⟩], u]) (by simp [results, Tryz.results246, go_sem, q0, q1]) rfl ?_
    rw [HE.out]
    exact ⟨(⟨#[]⟩, ⟨#[]⟩), u, rfl, (hr1.kept hk3 (by simp)).kept kpF (by decide), (((((((Kp.refl _ _ _).alloc _).alloc _).alloc _).trans hk1).trans (hk3.mono (Nat.le_refl _) (by simp))).setNew (by show w.heap.size ≤ w.heap.size + 1 + 1; omega) _).setNew (by show w.heap.size ≤ w.heap.size + 1 + 1; omega) _, .inr ⟨rfl, _, hc3.kept kpF (by decide) (by decide)⟩⟩
  | some n =>
    have hn16 := newP_size h4 h1
    have hle := newP_le s p (hasN l) h4
    have H1 := hide h1
    by_cases h2 : peekI s (newP s p (hasN l)).1 = 61
    · have H2 := hide h2
      cases h3 : (valueP s ((newP s p (hasN l)).1 + 1)).2 with
      | none =>
        have HE : Hid (attrP s p l = ((valueP s ((newP s p (hasN l)).1 + 1)).1, none)) := by unfold attrP; rw [h1]; dsimp only; rw [if_pos h2, h3]; rfl
        have H3 := hide h3
        clear h1 h2 h3
        go_enter Tryz.func246, Tryz.ntmps246
        go_wp2_with fail
        refine (newName_has B rb s p (w.heap.size + 1) l (.slice ao l.length cap) _ (((h.alloc _).alloc _).alloc _) hB (alloc_old (alloc_at' _ (by simp)) _) (((ho.alloc _).alloc _).alloc _) hll).mono ?_
        rintro e w1 ⟨n1, v, rfl, hr1, hk1, hor⟩
        rcases hor with ⟨hx, rfl⟩ | ⟨hx, _⟩
        rotate_left
        · exact absurd (hx.symm.trans H1.out) (by simp)
        have hx2 := Option.some.inj (hx.trans H1.out)
        clear hx
        subst hx2
        have rs1 := hk1.at (alloc_at' (n := w.heap.size + 1 + 1) _ (by simp)) (by decide)
        have bx1 := hk1.at (alloc_old (alloc_old (alloc_at' (n := w.heap.size) _ rfl) _) _) (by decide)
        have gl1 := (((hg.alloc _).alloc _).alloc _).kept hk1 hB0
        have c0 := cell2_0 bx1
        go_wp2_with fail
        refine (take_yes B rb s _ 61 _ hr1 hB (by decide) H2.out).mono ?_
        rintro e w2 ⟨rfl, hr2, hk2⟩
        have rs2 := hk2.at rs1 (by decide)
        have bx2 := hk2.at bx1 (by decide)
        have d0 := cell2_0 bx2; have d1 := cell2_1 bx2
        go_wp2_with fail
        refine (value_any B rb bb s _ _ hr2 hB (gl1.kept hk2 hB0) hB0).mono ?_
        rintro e w3 ⟨m3, v, rfl, hr3, hk3, hor⟩
        rcases hor with ⟨hx, _⟩ | ⟨_, nn, hc⟩
        · exact absurd (hx.trans H3.out) (by simp)
        obtain ⟨ty, kk, hv⟩ := hc.shape
        rw [hv] at hc ⊢
        have rs3 := hk3.at rs2 (by decide)
        go_wp2_with fail
        refine (while_err B [] _ _ _ _ _ _ hc).mono ?_
        rintro e w4 ⟨u, rfl, hc4, hk4⟩
        have rs4 := hk4.at rs3 (by simp)
        have q0 := cell2_0 rs4; have q1 := cell2_1 rs4; have f0 := free_of (o := 0) rs4; have f1 := free_of (o := 1) rs4
        go_wp2
        obtain ⟨rsF, kpF⟩ := fin2 rs4 (.string ⟨#[]⟩) (.string ⟨#[]⟩)
        refine bodyPost_ret (v := .tuple #[.agg #[.string ⟨#[]⟩, .string ⟨#[]⟩], u]) (by simp [results, Tryz.results246, go_sem, q0, q1]) rfl ?_
        rw [HE.out]
        exact ⟨(⟨#[]⟩, ⟨#[]⟩), u, rfl, (hr3.kept hk4 (by simp)).kept kpF (by decide), (((((((((Kp.refl _ _ _).alloc _).alloc _).alloc _).trans hk1).trans hk2).trans hk3).trans (hk4.mono (Nat.le_refl _) (by simp))).setNew (by show w.heap.size ≤ w.heap.size + 1 + 1; omega) _).setNew (by show w.heap.size ≤ w.heap.size + 1 + 1; omega) _, .inr ⟨rfl, _, hc4.kept kpF (by decide) (by decide)⟩⟩
      | some m =>
        have HE : Hid (attrP s p l = ((valueP s ((newP s p (hasN l)).1 + 1)).1, some (n, ⟨m.toArray⟩))) := by unfold attrP; rw [h1]; dsimp only; rw [if_pos h2, h3]; rfl
        have H3 := hide h3
        clear h1 h2 h3
        go_enter Tryz.func246, Tryz.ntmps246
        go_wp2_with fail
        refine (newName_has B rb s p (w.heap.size + 1) l (.slice ao l.length cap) _ (((h.alloc _).alloc _).alloc _) hB (alloc_old (alloc_at' _ (by simp)) _) (((ho.alloc _).alloc _).alloc _) hll).mono ?_
        rintro e w1 ⟨n1, v, rfl, hr1, hk1, hor⟩
        rcases hor with ⟨hx, rfl⟩ | ⟨hx, _⟩
        rotate_left
        · exact absurd (hx.symm.trans H1.out) (by simp)
        have hx2 := Option.some.inj (hx.trans H1.out)
        clear hx
        subst hx2
        have rs1 := hk1.at (alloc_at' (n := w.heap.size + 1 + 1) _ (by simp)) (by decide)
        have bx1 := hk1.at (alloc_old (alloc_old (alloc_at' (n := w.heap.size) _ rfl) _) _) (by decide)
        have gl1 := (((hg.alloc _).alloc _).alloc _).kept hk1 hB0
        have c0 := cell2_0 bx1
        go_wp2_with fail
        refine (take_yes B rb s _ 61 _ hr1 hB (by decide) H2.out).mono ?_
        rintro e w2 ⟨rfl, hr2, hk2⟩
        have rs2 := hk2.at rs1 (by decide)
        have bx2 := hk2.at bx1 (by decide)
        have d0 := cell2_0 bx2; have d1 := cell2_1 bx2
        go_wp2_with fail
        refine (value_any B rb bb s _ _ hr2 hB (gl1.kept hk2 hB0) hB0).mono ?_
        rintro e w3 ⟨m3, v, rfl, hr3, hk3, hor⟩
        rcases hor with ⟨hx, rfl⟩ | ⟨hx, _⟩
        rotate_left
        · exact absurd (hx.symm.trans H3.out) (by simp)
        have hx2 : m3 = ⟨m.toArray⟩ := by rw [← Option.some.inj (hx.trans H3.out)]
        have HX := hide hx2
        clear hx hx2
        have rs3 := hk3.at rs2 (by decide)
        have q0 := cell2_0 rs3; have q1 := cell2_1 rs3; have f0 := free_of (o := 0) rs3; have f1 := free_of (o := 1) rs3
        go_wp2
        obtain ⟨rsF, kpF⟩ := fin2 rs3 (.string n1) (.string m3)
        refine bodyPost_ret (v := .tuple #[.agg #[.string n1, .string m3], .nilIface]) (by simp [results, Tryz.results246, go_sem, q0, q1]) rfl ?_
        rw [HE.out]
        exact ⟨(n1, m3), .nilIface, rfl, hr3.kept kpF (by decide), ((((((((Kp.refl _ _ _).alloc _).alloc _).alloc _).trans hk1).trans hk2).trans hk3).setNew (by show w.heap.size ≤ w.heap.size + 1 + 1; omega) _).setNew (by show w.heap.size ≤ w.heap.size + 1 + 1; omega) _, .inl ⟨by rw [HX.out], rfl⟩⟩
    · have HE : Hid (attrP s p l = ((newP s p (hasN l)).1, some (n, ⟨#[]⟩))) := by unfold attrP; rw [h1]; dsimp only; rw [if_neg h2]; rfl
      have H2 := hide h2
      clear h1 h2
      go_enter Tryz.func246, Tryz.ntmps246
      go_wp2_with fail
      refine (newName_has B rb s p (w.heap.size + 1) l (.slice ao l.length cap) _ (((h.alloc _).alloc _).alloc _) hB (alloc_old (alloc_at' _ (by simp)) _) (((ho.alloc _).alloc _).alloc _) hll).mono ?_
      rintro e w1 ⟨n1, v, rfl, hr1, hk1, hor⟩
      rcases hor with ⟨hx, rfl⟩ | ⟨hx, _⟩
      rotate_left
      · exact absurd (hx.symm.trans H1.out) (by simp)
      have hx2 := Option.some.inj (hx.trans H1.out)
      clear hx
      subst hx2
      have rs1 := hk1.at (alloc_at' (n := w.heap.size + 1 + 1) _ (by simp)) (by decide)
      have bx1 := hk1.at (alloc_old (alloc_old (alloc_at' (n := w.heap.size) _ rfl) _) _) (by decide)
      have c0 := cell2_0 bx1
      go_wp2_with fail
      refine (take_no B rb s _ 61 _ hr1 (.inr H2.out)).mono ?_
      rintro e w2 ⟨rfl, hr2, hk2⟩
      have rs2 := hk2.at rs1 (by decide)
      have q0 := cell2_0 rs2; have q1 := cell2_1 rs2; have f0 := free_of (o := 0) rs2; have f1 := free_of (o := 1) rs2
      go_wp2
      obtain ⟨rsF, kpF⟩ := fin2 rs2 (.string n1) (.string ⟨#[]⟩)
      refine bodyPost_ret (v := .tuple #[.agg #[.string n1, .string ⟨#[]⟩], .nilIface]) (by simp [results, Tryz.results246, go_sem, q0, q1]) rfl ?_
      rw [HE.out]
      exact ⟨(n1, ⟨#[]⟩), .nilIface, rfl, hr2.kept kpF (by decide), (((((((Kp.refl _ _ _).alloc _).alloc _).alloc _).trans hk1).trans hk2).setNew (by show w.heap.size ≤ w.heap.size + 1 + 1; omega) _).setNew (by show w.heap.size ≤ w.heap.size + 1 + 1; omega) _, .inl ⟨rfl, rfl⟩⟩
end Go.Proofs.YtclpcnignheijaaGreatDoor
