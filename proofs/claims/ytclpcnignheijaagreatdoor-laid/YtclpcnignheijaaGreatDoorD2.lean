import Derived.Test.YtclpcnignheijaaGreatDoorD1
namespace Go.Proofs.YtclpcnignheijaaGreatDoor
open Go.RowKit

def voidB (n : ByteArray) : Bool := n.toList == [98, 114] || n.toList == [104, 114] || n.toList == [105, 109, 103]
set_option maxHeartbeats 400000 in
theorem isVoid_any (n : ByteArray) (w : World) :
    Calls Tryz.prog 111 #[.string n] w fun e w' => e = .returned (.bool (voidB n)) ∧ w' = w := by
  go_enter Tryz.func111, Tryz.ntmps111
  go_wp2
  all_goals (go_ret; exact ⟨ret_bool (by simp [voidB, *]), rfl⟩)
theorem isVoid_is (n : ByteArray) (w : World) (v : Bool) (h : voidB n = v) :
    Calls Tryz.prog 111 #[.string n] w fun e w' => e = .returned (.bool v) ∧ w' = w := by
  subst h; exact isVoid_any n w

theorem take_is (B rb : Nat) (s : ByteArray) (p : Nat) (b : Int) (w : World) (v : Bool) (h : Rd w rb s p) (hB : B ≤ rb) (hz : b ≠ 0) (hb : (peekI s p == b) = v) :
    Calls Tryz.prog 129 #[.pointer (some ⟨rb, 0, none⟩), .int .u8 b] w fun e w' => e = .returned (.bool v) ∧ Rd w' rb s (if v = true then p + 1 else p) ∧ Kp B [210] w w' := by
  cases v
  · exact take_no B rb s p b w h (.inr (by simpa using hb))
  · exact take_yes B rb s p b w h hB hz (by simpa using hb)

def wholeB (s : ByteArray) (p : Nat) : Bool := peekI s p == 47
def afterP (s : ByteArray) (p : Nat) : Nat := if peekI s p = 47 then p + 1 else p
def largeB (b : BS) : Bool := decide (100 ≤ (b.els.length : Int)) || decide (12 ≤ b.dep)
def elementP (s : ByteArray) (p : Nat) (b : BS) (n : ByteArray) : Nat × BS × Nat :=
  match (attributesP s p).2 with
  | none => ((attributesP s p).1, b, 2)
  | some l =>
    if (expP s [62] (afterP s (attributesP s p).1)).2 = false then ((expP s [62] (afterP s (attributesP s p).1)).1, b, 2)
    else ((expP s [62] (afterP s (attributesP s p).1)).1, if (wholeB s (attributesP s p).1 || voidB n) = true then (b.begin n l).fin else b.begin n l, if largeB b = true then 3 else 0)
theorem begin_opn (b : BS) (n : ByteArray) (l : List (ByteArray × ByteArray)) : (b.begin n l).opn = (b.els.length : Int) ∧ (b.begin n l).els[b.els.length]? = some ⟨n, b.opn, l, (b.txt.length : Int), 0⟩ ∧ (b.begin n l).els.length = b.els.length + 1 ∧ (b.begin n l).dep = b.dep + 1 := by
  refine ⟨rfl, ?_, ?_, rfl⟩
  · simp [BS.begin]
  · simp [BS.begin]

set_option maxRecDepth 100000 in
set_option maxHeartbeats 4000000 in
theorem element_any (B rb bb : Nat) (s : ByteArray) (p : Nat) (b : BS) (n : ByteArray) (w : World) (h : Rd w rb s p) (hB : B ≤ rb) (hBb : B ≤ bb) (hg : Gl w) (hB0 : 1 < B) (hbd : Bd w B bb b) (hok : BOk b p) :
    Calls Tryz.prog 193 #[.agg #[.pointer (some ⟨rb, 0, none⟩), .pointer (some ⟨bb, 0, none⟩)], .string n] w fun e w' => ∃ v, e = .returned v ∧ Ends w w' B rb bb s (elementP s p b n) v := by
  have h5 := h.max; have h4 := h.le
  have hsz : B ≤ w.heap.size := by have := lt_of_block h.1; omega
  have hel := hok.elen; have hdp := hok.dep
  have l1 := attributesP_le s p h4
  cases h1 : (attributesP s p).2 with
  | none =>
    have HE : Hid (elementP s p b n = ((attributesP s p).1, b, 2)) := by unfold elementP; rw [h1]; rfl
    have H1 := hide h1
    clear h1
    go_enter Tryz.func193, Tryz.ntmps193
    go_wp2_with fail
    refine (attributes_any B rb bb s p _ (h.alloc _) hB (hg.alloc _) hB0).mono ?_
    rintro e w1 ⟨av, v, rfl, hr1, hk1, hor⟩
    rcases hor with ⟨l, ho, _⟩ | ⟨_, nn, hc⟩
    · exact absurd (ho.symm.trans H1.out) (by simp)
    obtain ⟨ty, kk, hv⟩ := hc.shape
    rw [hv] at hc ⊢
    go_wp2
    go_ret
    rw [HE.out]
    exact ⟨_, rfl, hr1, (hbd.alloc _).keptR hk1, ((Kp.refl _ _ _).alloc _).trans (kpR hk1), .inr (.inl ⟨rfl, nn, hc⟩)⟩
  | some l =>
    have H1 := hide h1
    obtain ⟨wb, hwb⟩ : ∃ wb, wholeB s (attributesP s p).1 = wb := ⟨_, rfl⟩
    have HWB := hide hwb
    have HAf : Hid (afterP s (attributesP s p).1 = if wb = true then (attributesP s p).1 + 1 else (attributesP s p).1) := by
      rw [← hwb]; unfold afterP wholeB; simp [Hid]
    have HE : Hid (elementP s p b n = if (expP s [62] (afterP s (attributesP s p).1)).2 = false then ((expP s [62] (afterP s (attributesP s p).1)).1, b, 2) else ((expP s [62] (afterP s (attributesP s p).1)).1, if (wb || voidB n) = true then (b.begin n l).fin else b.begin n l, if largeB b = true then 3 else 0)) := by unfold elementP; rw [h1, ← hwb]; rfl
    clear h1 hwb
    go_enter Tryz.func193, Tryz.ntmps193
    go_wp2_with fail
    refine (attributes_any B rb bb s p _ (h.alloc _) hB (hg.alloc _) hB0).mono ?_
    rintro e w1 ⟨av, v, rfl, hr1, hk1, hor⟩
    rcases hor with ⟨l', ho, hl', hown, rfl⟩ | ⟨ho, _⟩
    rotate_left
    · exact absurd (ho.symm.trans H1.out) (by simp)
    have hll := Option.some.inj (ho.symm.trans H1.out)
    subst hll
    have bx1 := hk1.at (alloc_at w _) (by decide)
    have bd1 := (hbd.alloc _).keptR hk1
    have K1 := ((Kp.refl B TP w).alloc _).trans (kpR hk1)
    have own1 := owns_base (B := B) hown (by simp; omega)
    clear ho hown
    have c0 := cell2_0 bx1
    go_wp2_with fail
    refine (take_is B rb s _ 47 _ wb hr1 hB (by decide) HWB.out).mono ?_
    rintro e w2 ⟨rfl, hr2, hk2⟩
    rw [← HAf.out] at hr2
    have bx2 := hk2.at bx1 (by decide)
    have bd2 := bd1.keptR hk2
    have K2 := K1.trans (kpR hk2)
    have own2 := hk2.owns own1 (by decide)
    have d0 := cell2_0 bx2
    go_wp2_with fail
    refine (expect_any B rb s ⟨#[62]⟩ _ _ hr2 hB (by decide)).mono ?_
    rintro e w3 ⟨v, rfl, hr3, hk3, hor⟩
    have bx3 := hk3.at bx2 (by decide)
    have bd3 := bd2.keptR hk3
    have K3 := K2.trans (kpR hk3)
    have own3 := hk3.owns own2 (by decide)
    have e1 := cell2_1 bx3
    rcases hor with ⟨g3, rfl⟩ | ⟨g3, hc⟩
    rotate_left
    · have G3 := hide g3
      clear g3
      obtain ⟨ty, kk, hv⟩ := hc.shape
      rw [hv] at hc ⊢
      go_wp2
      go_ret
      rw [HE.out, if_pos G3.out]
      exact ⟨_, rfl, hr3, bd3, K3, .inr (.inl ⟨rfl, 0, hc⟩)⟩
    have G3 : Hid (¬ (expP s [62] (afterP s (attributesP s p).1)).2 = false) := by rw [g3]; exact Bool.noConfusion
    clear g3
    obtain ⟨bo1, bo2, bo3, bo4⟩ := begin_opn b n l'
    have BO1 := hide bo1; have BO2 := hide bo2; have BO3 := hide bo3; have BO4 := hide bo4
    clear bo1 bo2 bo3 bo4
    obtain ⟨vn, hvn⟩ : ∃ vn, voidB n = vn := ⟨_, rfl⟩
    have HVN := hide hvn
    clear hvn
    rcases (show 100 ≤ (b.els.length : Int) ∨ ((b.els.length : Int) < 100 ∧ 12 ≤ b.dep) ∨ ((b.els.length : Int) < 100 ∧ b.dep < 12) from by omega) with hL | ⟨hL, hD⟩ | ⟨hL, hD⟩
    all_goals
      have HLg : Hid (largeB b = (decide (100 ≤ (b.els.length : Int)) || decide (12 ≤ b.dep))) := rfl
      cases wb
      · cases vn
        · go_wp2_with (first
            | (go_at_call 224; refine (blen_any B bb b _ bd3).mono ?_; rintro e w4 ⟨rfl, rfl⟩)
            | (go_at_call 225; refine (bdepth_any B bb b _ bd3).mono ?_; rintro e w4 ⟨rfl, rfl⟩)
            | (go_at_call 226; refine (bbegin_any B bb b n l' av _ bd3 hBb (by omega) (by omega) own3).mono ?_; rintro e w5 ⟨rfl, bd5, hk5⟩; have bx5 := hk5.at bx3 (by decide); have i1 := cell2_1 bx5; have rd5 := hr3.keptB hk5)
            | (go_at_call 111; refine (isVoid_is n _ _ HVN.out).mono ?_; rintro e w6 ⟨rfl, rfl⟩))
          go_ret
          rw [HE.out, if_neg G3.out, HVN.out, HLg.out]
          first
            | (rw [decide_eq_false (by omega), decide_eq_false (by omega)]; exact ⟨_, rfl, rd5, bd5, K3.trans (kpB hk5), .inl ⟨rfl, rfl⟩⟩)
            | (rw [decide_eq_true (p := 100 ≤ (b.els.length : Int)) (by omega)]; exact ⟨_, rfl, rd5.alloc _, bd5.alloc _, (K3.trans (kpB hk5)).alloc _, .inr (.inr ⟨rfl, 0, _, rfl, alloc_at _ _⟩)⟩)
            | (rw [decide_eq_false (p := 100 ≤ (b.els.length : Int)) (by omega), decide_eq_true (by omega)]; exact ⟨_, rfl, rd5.alloc _, bd5.alloc _, (K3.trans (kpB hk5)).alloc _, .inr (.inr ⟨rfl, 0, _, rfl, alloc_at _ _⟩)⟩)
        · go_wp2_with (first
            | (go_at_call 224; refine (blen_any B bb b _ bd3).mono ?_; rintro e w4 ⟨rfl, rfl⟩)
            | (go_at_call 225; refine (bdepth_any B bb b _ bd3).mono ?_; rintro e w4 ⟨rfl, rfl⟩)
            | (go_at_call 226; refine (bbegin_any B bb b n l' av _ bd3 hBb (by omega) (by omega) own3).mono ?_; rintro e w5 ⟨rfl, bd5, hk5⟩; have bx5 := hk5.at bx3 (by decide); have i1 := cell2_1 bx5; have rd5 := hr3.keptB hk5)
            | (go_at_call 111; refine (isVoid_is n _ _ HVN.out).mono ?_; rintro e w6 ⟨rfl, rfl⟩)
            | (go_at_call 191; refine (bend_any B bb _ b.els.length _ _ bd5 hBb BO1.out BO2.out (by rw [BO3.out]; omega) (by rw [BO3.out, BO4.out]; omega)).mono ?_; rintro e w7 ⟨rfl, bd7, hk7⟩; have rd7 := rd5.keptB hk7))
          go_ret
          rw [HE.out, if_neg G3.out, HVN.out, HLg.out]
          first
            | (rw [decide_eq_false (by omega), decide_eq_false (by omega)]; exact ⟨_, rfl, rd7, bd7, (K3.trans (kpB hk5)).trans (kpB hk7), .inl ⟨rfl, rfl⟩⟩)
            | (rw [decide_eq_true (p := 100 ≤ (b.els.length : Int)) (by omega)]; exact ⟨_, rfl, rd7.alloc _, bd7.alloc _, ((K3.trans (kpB hk5)).trans (kpB hk7)).alloc _, .inr (.inr ⟨rfl, 0, _, rfl, alloc_at _ _⟩)⟩)
            | (rw [decide_eq_false (p := 100 ≤ (b.els.length : Int)) (by omega), decide_eq_true (by omega)]; exact ⟨_, rfl, rd7.alloc _, bd7.alloc _, ((K3.trans (kpB hk5)).trans (kpB hk7)).alloc _, .inr (.inr ⟨rfl, 0, _, rfl, alloc_at _ _⟩)⟩)
      · go_wp2_with (first
          | (go_at_call 224; refine (blen_any B bb b _ bd3).mono ?_; rintro e w4 ⟨rfl, rfl⟩)
          | (go_at_call 225; refine (bdepth_any B bb b _ bd3).mono ?_; rintro e w4 ⟨rfl, rfl⟩)
          | (go_at_call 226; refine (bbegin_any B bb b n l' av _ bd3 hBb (by omega) (by omega) own3).mono ?_; rintro e w5 ⟨rfl, bd5, hk5⟩; have bx5 := hk5.at bx3 (by decide); have i1 := cell2_1 bx5; have rd5 := hr3.keptB hk5)
          | (go_at_call 191; refine (bend_any B bb _ b.els.length _ _ bd5 hBb BO1.out BO2.out (by rw [BO3.out]; omega) (by rw [BO3.out, BO4.out]; omega)).mono ?_; rintro e w7 ⟨rfl, bd7, hk7⟩; have rd7 := rd5.keptB hk7))
        go_ret
        rw [HE.out, if_neg G3.out, HLg.out]
        first
          | (rw [decide_eq_false (by omega), decide_eq_false (by omega)]; exact ⟨_, rfl, rd7, bd7, (K3.trans (kpB hk5)).trans (kpB hk7), .inl ⟨rfl, rfl⟩⟩)
          | (rw [decide_eq_true (p := 100 ≤ (b.els.length : Int)) (by omega)]; exact ⟨_, rfl, rd7.alloc _, bd7.alloc _, ((K3.trans (kpB hk5)).trans (kpB hk7)).alloc _, .inr (.inr ⟨rfl, 0, _, rfl, alloc_at _ _⟩)⟩)
          | (rw [decide_eq_false (p := 100 ≤ (b.els.length : Int)) (by omega), decide_eq_true (by omega)]; exact ⟨_, rfl, rd7.alloc _, bd7.alloc _, ((K3.trans (kpB hk5)).trans (kpB hk7)).alloc _, .inr (.inr ⟨rfl, 0, _, rfl, alloc_at _ _⟩)⟩)
end Go.Proofs.YtclpcnignheijaaGreatDoor
