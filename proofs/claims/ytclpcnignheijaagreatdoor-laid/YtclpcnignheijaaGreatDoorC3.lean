import Derived.Test.YtclpcnignheijaaGreatDoorC2
namespace Go.Proofs.YtclpcnignheijaaGreatDoor
open Go.RowKit

set_option maxRecDepth 100000 in
set_option maxHeartbeats 2000000 in
theorem bend_any (B bb : Nat) (b : BS) (k : Nat) (x : El) (w : World) (h : Bd w B bb b) (hB : B ≤ bb) (ho : b.opn = (k : Int)) (hx : b.els[k]? = some x) (hs : b.els.length ≤ 5000) (hd : -5000 ≤ b.dep ∧ b.dep ≤ b.els.length) :
    Calls Tryz.prog 191 #[.pointer (some ⟨bb, 0, none⟩)] w fun e w' => e = .returned (.tuple #[]) ∧ Bd w' B bb b.fin ∧ Kp B TB w w' := by
  obtain ⟨ve, vt, avs, a1, a2, a3, a4, a5⟩ := h
  have hlt : k < b.els.length := (List.getElem?_eq_some_iff.1 hx).1
  have hfin : b.fin = { els := b.els.set k { x with hi := (b.txt.length : Int) }, txt := b.txt, opn := x.parent, dep := b.dep - 1 } := by
    unfold BS.fin; rw [ho, Int.toNat_natCast, hx]; dsimp only; rw [if_neg (by omega)]
  rw [ho] at a1
  obtain ⟨c0, c1, c2, c3⟩ := cell4 a1
  obtain ⟨g, cap, hv, hBg, hgs⟩ := row_form a3 (by omega)
  subst hv
  obtain ⟨aot, cpt, hvt⟩ := owns_shape a4
  subst hvt
  have hav : avs[k]? = some (avs[k]'(by omega)) := List.getElem?_eq_getElem (by omega)
  obtain ⟨e0, e1, e2, e3, e4⟩ := elCells_at b.els avs k x _ hx hav
  have d1 : w.cell? ⟨g, k * 5 + 1, none⟩ = some (.int .i64 x.parent) := by rw [a3.cellAt _ (by omega), e1]
  have d4 : w.cell? ⟨g, k * 5 + 4, none⟩ = some (.int .i64 x.hi) := by rw [a3.cellAt _ (by omega), e4]
  have f4 := a3.frozenAt (k * 5 + 4)
  have f2 := free_of (o := 2) a1
  have f3 := free_of (o := 3) a1
  have A3 := hide a3
  obtain ⟨_, h2⟩ := a3
  have hgb : ∃ cur, w.heap[g]? = some (.cells cur 139 (0, 0)) := by
    rcases h2 with ⟨h3, _⟩ | ⟨g', cap', cur, h3, _, h4, _⟩
    · cases h3
    · cases h3; exact ⟨cur, h4⟩
  obtain ⟨cur, hcur⟩ := hgb
  have hne : bb ≠ g := block_ne a1 hcur (by decide)
  have hne' : g ≠ bb := fun e => hne e.symm
  have HFIN := hide hfin; have A1 := hide a1; have A2 := hide a2; have A4 := hide a4; have A5 := hide a5; have HX := hide hx; have HC := hide hcur
  clear e0 e1 e2 e3 e4 hav a1 a2 a4 a5 hx hfin ho h2 hcur
  have ho' : (((k : Nat) : Int) == -1) = false := by simp
  go_enter Tryz.func191, Tryz.ntmps191
  go_wp2
  go_region_held3 (fun wx => wx.cell? ⟨bb, 0, none⟩ = some (.slice (some ⟨g, 0, none⟩) b.els.length cap) ∧ wx.cell? ⟨bb, 1, none⟩ = some (.slice aot b.txt.length cpt) ∧ wx.cell? ⟨bb, 2, none⟩ = some (.int .i64 k)) (simp [go_sem, *]) (fail)
  go_wp2
  go_region
  all_goals go_wp2
  all_goals go_end0
  all_goals
    have W1 : Kp B TB w (w.setCell ⟨g, k * 5 + 4, none⟩ (.int .i64 (b.txt.length : Int))) := (Kp.refl _ _ _).setCell (p := ⟨g, k * 5 + 4, none⟩) HC.out (by decide) hBg _
    have K1 : Kp 0 [139] w (w.setCell ⟨g, k * 5 + 4, none⟩ (.int .i64 (b.txt.length : Int))) := Kp.setAny (p := ⟨g, k * 5 + 4, none⟩) HC.out _
    have b1 := K1.at A1.out (by decide)
    have b2 := four_set2 (v := .int .i64 x.parent) b1
    have b3 := four_set3 (v := .int .i64 (b.dep - 1)) b2
    have W2 := (W1.setCell (p := ⟨bb, 2, none⟩) b1 (by decide) hB (.int .i64 x.parent)).setCell (p := ⟨bb, 3, none⟩) b2 (by decide) hB (.int .i64 (b.dep - 1))
    have K2 := ((Kp.refl 0 [212] _).setCell (p := ⟨bb, 2, none⟩) b1 (by simp) (Nat.zero_le _) (.int .i64 x.parent)).setCell (p := ⟨bb, 3, none⟩) b2 (by simp) (Nat.zero_le _) (.int .i64 (b.dep - 1))
    refine ⟨rfl, ?_, W2.drew.drew⟩
    rw [HFIN.out]
    refine ⟨_, _, avs, b3, ?_, ?_, ?_, ?_⟩
    · simp [A2.out]
    · have o1 := K2.owns (A3.out.stored (k * 5 + 4) (.int .i64 (b.txt.length : Int))).1 (by decide)
      rw [← elCells_set b.els avs k x (b.txt.length : Int) HX.out A2.out] at o1
      have o2 := (Kp.refl 0 [] _).drew.drew.owns o1 (by simp)
      simpa using o2
    · exact K2.owns (K1.owns A4.out (by decide)) (by decide)
    · intro i y a hy ha
      refine K2.owns (K1.owns ?_ (by decide)) (by decide)
      by_cases e : i = k
      · subst e
        rw [List.getElem?_set_self hlt] at hy
        cases hy
        exact A5.out i x a HX.out ha
      · rw [List.getElem?_set_ne (fun h => e h.symm)] at hy
        exact A5.out i y a hy ha

/-- A tree, as it lies: at block tb, its elements in the row of ve. -/
def Tr (w : World) (B tb : Nat) (b : BS) : Prop :=
  ∃ (ve : Value) (avs : List Value), w.heap[tb]? = some (.cells #[ve, .string ⟨b.txt.toArray⟩] 85 (0, 0)) ∧ avs.length = b.els.length ∧
    w.ownsRow B 139 5 ve b.els.length (elCells b.els avs) ∧ ∀ (i : Nat) (x : El) (a : Value), b.els[i]? = some x → avs[i]? = some a → w.ownsRow B 169 2 a x.attrs.length (attrCells x.attrs)
set_option maxRecDepth 100000 in
set_option maxHeartbeats 1000000 in
theorem btree_any (B bb : Nat) (b : BS) (w : World) (h : Bd w B bb b) :
    Calls Tryz.prog 86 #[.pointer (some ⟨bb, 0, none⟩)] w fun e w' => ∃ tb, e = .returned (.pointer (some ⟨tb, 0, none⟩)) ∧ Tr w' B tb b ∧ w.heap.size ≤ tb ∧ Kp B [] w w' := by
  obtain ⟨ve, vt, avs, a1, a2, a3, a4, a5⟩ := h
  obtain ⟨c0, c1, c2, c3⟩ := cell4 a1
  obtain ⟨aoe, cpe, hve⟩ := owns_shape a3
  subst hve
  have hcv : ∀ n, (convert 50 9 vt).run Tryz.prog (w.drewN n) = .ok (.string ⟨b.txt.toArray⟩) (w.drewN n) := fun n => conv_own a4
  have hcv2 : (convert 50 9 vt).run Tryz.prog w.drew = .ok (.string ⟨b.txt.toArray⟩) w.drew := hcv 1
  clear hcv
  have A1 := hide a1; have A2 := hide a2; have A3 := hide a3; have A4 := hide a4; have A5 := hide a5
  clear a1 a2 a3 a4 a5
  go_enter Tryz.func86, Tryz.ntmps86
  go_wp2
  go_region
  all_goals go_wp2
  all_goals go_ret
  all_goals exact ⟨_, rfl, ⟨_, avs, alloc_at _ _, A2.out, A3.out.alloc _, fun i x a hx ha => (A5.out i x a hx ha).alloc _⟩, Nat.le_refl _, ((Kp.refl _ _ _).alloc _).drew⟩
end Go.Proofs.YtclpcnignheijaaGreatDoor
