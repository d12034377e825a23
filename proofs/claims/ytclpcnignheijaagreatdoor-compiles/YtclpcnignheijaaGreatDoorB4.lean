import Derived.Test.YtclpcnignheijaaGreatDoorB3
namespace Go.Proofs.YtclpcnignheijaaGreatDoor
open Go.RowKit

theorem contP_le (s : ByteArray) (ends : List UInt8) : ∀ f p acc, p ≤ s.size → p ≤ (contP s ends f p acc).1 ∧ (contP s ends f p acc).1 ≤ s.size
  | 0, p, acc, h => ⟨Nat.le_refl _, h⟩
  | f + 1, p, acc, h => by
    rw [contP]
    split
    · exact ⟨Nat.le_refl _, h⟩
    · rename_i hn
      have hlt : p < s.size := peekI_lt (fun e => hn (.inl e))
      split
      · have h1 := refL_le s (p + 1) hlt refsL
        have h2 : p + 1 ≤ (refP s (p + 1)).1 ∧ (refP s (p + 1)).1 ≤ s.size := h1
        split
        · have := contP_le s ends f (refP s (p + 1)).1 (acc ++ [(‹Int›).toNat.toUInt8]) h2.2
          omega
        · dsimp only; omega
      · have := contP_le s ends f (p + 1) (acc ++ [(peekI s p).toNat.toUInt8]) hlt
        omega
theorem contentP_le (s : ByteArray) (ends : List UInt8) (p : Nat) (h : p ≤ s.size) : p ≤ (contentP s ends p).1 ∧ (contentP s ends p).1 ≤ s.size := contP_le s ends _ p [] h

def valueP (s : ByteArray) (p : Nat) : Nat × Option (List UInt8) :=
  if (expP s [34] p).2 = false then ((expP s [34] p).1, none)
  else match (contentP s [60, 34] (expP s [34] p).1).2 with
    | none => ((contentP s [60, 34] (expP s [34] p).1).1, none)
    | some m => ((expP s [34] (contentP s [60, 34] (expP s [34] p).1).1).1, if (expP s [34] (contentP s [60, 34] (expP s [34] p).1).1).2 = true then some m else none)
theorem valueP_le (s : ByteArray) (p : Nat) (h : p ≤ s.size) : p ≤ (valueP s p).1 ∧ (valueP s p).1 ≤ s.size := by
  have h1 := expP_le s [34] p h
  have h2 := contentP_le s [60, 34] _ h1.2
  have h3 := expP_le s [34] _ h2.2
  unfold valueP
  split
  · exact h1
  · split <;> dsimp only <;> omega

set_option maxRecDepth 100000 in
set_option maxHeartbeats 1000000 in
theorem value_any (B rb bb : Nat) (s : ByteArray) (p : Nat) (w : World) (h : Rd w rb s p) (hB : B ≤ rb) (hg : Gl w) (hB0 : 1 < B) :
    Calls Tryz.prog 264 #[.agg #[.pointer (some ⟨rb, 0, none⟩), .pointer (some ⟨bb, 0, none⟩)]] w fun e w' => ∃ (m : ByteArray) (v : Value), e = .returned (.tuple #[.string m, v]) ∧
      Rd w' rb s (valueP s p).1 ∧ Kp B [210] w w' ∧ ((some m.data.toList = (valueP s p).2 ∧ v = .nilIface) ∨ ((valueP s p).2 = none ∧ ∃ n, Chain w' 2 (valueP s p).1 n v)) := by
  cases h1 : (expP s [34] p).2
  · have HE : Hid (valueP s p = ((expP s [34] p).1, none)) := by unfold valueP; rw [if_pos h1]; rfl
    have H1 := hide h1
    clear h1
    go_enter Tryz.func264, Tryz.ntmps264
    go_wp2_with (go_at_call 188; refine (expect_any B rb s ⟨#[34]⟩ p _ (h.alloc _) hB (by decide)).mono ?_; rintro e w1 ⟨v, rfl, hr1, hk1, hor⟩; rcases hor with ⟨ho, _⟩ | ⟨_, hc⟩; (exact absurd (ho.symm.trans H1.out) (by decide)); obtain ⟨ty, kk, hv⟩ := hc.shape; rw [hv] at hc ⊢)
    go_ret2
    rw [HE.out]
    exact ⟨_, _, rfl, hr1, ((Kp.refl _ _ _).alloc _).trans hk1, .inr ⟨rfl, 0, hc⟩⟩
  · have H1 := hide h1
    cases h2 : (contentP s [60, 34] (expP s [34] p).1).2 with
    | none =>
      have HE : Hid (valueP s p = ((contentP s [60, 34] (expP s [34] p).1).1, none)) := by unfold valueP; rw [if_neg (by rw [h1]; exact Bool.noConfusion), h2]; rfl
      have H2 := hide h2
      clear h1 h2
      go_enter Tryz.func264, Tryz.ntmps264
      go_wp2_with (first
        | (go_at_call 188; refine (expect_any B rb s ⟨#[34]⟩ p _ (h.alloc _) hB (by decide)).mono ?_; rintro e w1 ⟨v, rfl, hr1, hk1, hor⟩; rcases hor with ⟨_, rfl⟩ | ⟨ho, _⟩; rotate_left; (exact absurd (ho.symm.trans H1.out) (by decide)); have bx1 := hk1.at (alloc_at w _) (by decide); have c0 := cell2_0 bx1; have c1 := cell2_1 bx1)
        | (go_at_call 185; refine (content_any B rb bb s ⟨#[60, 34]⟩ (expP s [34] p).1 _ hr1 hB ((hg.alloc _).kept hk1 hB0) hB0).mono ?_; rintro e w2 ⟨m, v, rfl, hr2, hk2, hor⟩; rcases hor with ⟨ho, _⟩ | ⟨_, hc⟩; (exact absurd (ho.trans H2.out) (by simp)); obtain ⟨ty, kk, hv⟩ := hc.shape; rw [hv] at hc ⊢))
      go_ret2
      rw [HE.out]
      exact ⟨_, _, rfl, hr2, (((Kp.refl _ _ _).alloc _).trans hk1).trans hk2, .inr ⟨rfl, 1, hc⟩⟩
    | some m =>
      have HE : Hid (valueP s p = ((expP s [34] (contentP s [60, 34] (expP s [34] p).1).1).1, if (expP s [34] (contentP s [60, 34] (expP s [34] p).1).1).2 = true then some m else none)) := by unfold valueP; rw [if_neg (by rw [h1]; exact Bool.noConfusion), h2]; rfl
      have H2 := hide h2
      clear h1 h2
      go_enter Tryz.func264, Tryz.ntmps264
      go_wp2_with fail
      refine (expect_any B rb s ⟨#[34]⟩ p _ (h.alloc _) hB (by decide)).mono ?_
      rintro e w1 ⟨v, rfl, hr1, hk1, hor⟩
      rcases hor with ⟨_, rfl⟩ | ⟨ho, _⟩
      rotate_left
      · exact absurd (ho.symm.trans H1.out) (by decide)
      have bx1 := hk1.at (alloc_at w _) (by decide)
      have c0 := cell2_0 bx1
      have c1 := cell2_1 bx1
      go_wp2_with fail
      refine (content_any B rb bb s ⟨#[60, 34]⟩ (expP s [34] p).1 _ hr1 hB ((hg.alloc _).kept hk1 hB0) hB0).mono ?_
      rintro e w2 ⟨m2, v, rfl, hr2, hk2, hor⟩
      rcases hor with ⟨ho, rfl⟩ | ⟨ho, _⟩
      rotate_left
      · exact absurd (ho.symm.trans H2.out) (by simp)
      have bx2 := hk2.at bx1 (by decide)
      have d0 := cell2_0 bx2
      have HM := hide (Option.some.inj (ho.trans H2.out))
      clear ho
      go_wp2_with fail
      refine (expect_any B rb s ⟨#[34]⟩ (contentP s [60, 34] (expP s [34] p).1).1 _ hr2 hB (by decide)).mono ?_
      rintro e w3 ⟨v, rfl, hr3, hk3, hor⟩
      have KK := ((((Kp.refl _ _ _).alloc _).trans hk1).trans hk2).trans hk3
      rcases hor with ⟨ho, rfl⟩ | ⟨ho, hc⟩
      · have HO := hide ho
        clear ho
        go_wp2
        go_ret2
        rw [HE.out]
        refine ⟨_, _, rfl, hr3, KK, .inl ⟨?_, rfl⟩⟩
        rw [if_pos HO.out, ← HM.out]
      · have HO := hide ho
        obtain ⟨ty, kk, hv⟩ := hc.shape
        rw [hv] at hc ⊢
        clear ho
        go_wp2
        go_ret2
        rw [HE.out]
        exact ⟨_, _, rfl, hr3, KK, .inr ⟨by rw [if_neg]; rw [HO.out]; exact Bool.noConfusion, 0, hc⟩⟩
end Go.Proofs.YtclpcnignheijaaGreatDoor
