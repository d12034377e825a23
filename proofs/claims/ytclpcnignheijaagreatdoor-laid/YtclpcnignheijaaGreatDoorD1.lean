import Derived.Test.YtclpcnignheijaaGreatDoorC3
namespace Go.Proofs.YtclpcnignheijaaGreatDoor
open Go.RowKit

/-- The types of blocks that reading a document writes. -/
def TP : List TypeId := [210, 212, 139, 5]
theorem kpR {B : Nat} {w w' : World} (h : Kp B [210] w w') : Kp B TP w w' := h.mono (Nat.le_refl _) (by intro t ht; simp at ht; subst ht; decide)
theorem kpB {B : Nat} {w w' : World} (h : Kp B TB w w') : Kp B TP w w' := h.mono (Nat.le_refl _) (by intro t ht; unfold TB at ht; unfold TP; simp at ht ⊢; rcases ht with h | h | h <;> simp [h])
theorem kp0 {B : Nat} {w w' : World} (h : Kp B [] w w') : Kp B TP w w' := h.mono (Nat.le_refl _) (by simp)
theorem Bd.keptR {B B' bb : Nat} {w w' : World} {b : BS} (h : Bd w B bb b) (k : Kp B' [210] w w') : Bd w' B bb b := h.kept k (by decide) (by decide) (by decide) (by decide)
theorem Bd.kept0 {B B' bb : Nat} {w w' : World} {b : BS} (h : Bd w B bb b) (k : Kp B' [] w w') : Bd w' B bb b := h.kept k (by simp) (by simp) (by simp) (by simp)
theorem Rd.keptB {B rb : Nat} {s : ByteArray} {p : Nat} {w w' : World} (h : Rd w rb s p) (k : Kp B TB w w') : Rd w' rb s p := h.kept k (by decide)

/-- What is so of the tree that is being built, at place p. -/
structure BOk (b : BS) (p : Nat) : Prop where
  opn : -1 ≤ b.opn ∧ b.opn < b.els.length
  par : ∀ (i : Nat) (x : El), b.els[i]? = some x → -1 ≤ x.parent ∧ x.parent < i ∧ x.name.size ≤ 16
  dep : -(p : Int) ≤ b.dep ∧ b.dep ≤ b.els.length
  elen : b.els.length ≤ p
  tlen : b.txt.length ≤ p
theorem BOk.mono {b : BS} {p q : Nat} (h : BOk b p) (hq : p ≤ q) : BOk b q := ⟨h.1, h.2, by have := h.3; omega, by have := h.4; omega, by have := h.5; omega⟩
theorem BOk.at {b : BS} {p : Nat} (h : BOk b p) (ho : b.opn ≠ -1) : ∃ (k : Nat) (x : El), b.opn = (k : Int) ∧ b.els[k]? = some x := by
  have := h.opn
  refine ⟨b.opn.toNat, b.els[b.opn.toNat]'(by omega), by omega, List.getElem?_eq_getElem (by omega)⟩
theorem BOk.begin {b : BS} {p q : Nat} (h : BOk b p) (hq : p < q) (n : ByteArray) (l : List (ByteArray × ByteArray)) (hn : n.size ≤ 16) : BOk (b.begin n l) q := by
  have h1 := h.opn; have h3 := h.dep; have h4 := h.elen; have h5 := h.tlen
  refine ⟨by simp [BS.begin]; omega, fun i x hx => ?_, by simp [BS.begin]; omega, by simp [BS.begin]; omega, by simp [BS.begin]; omega⟩
  simp only [BS.begin] at hx
  rcases Nat.lt_trichotomy i b.els.length with hi | hi | hi
  · rw [List.getElem?_append_left hi] at hx; exact h.par i x hx
  · subst hi
    rw [List.getElem?_concat_length] at hx
    cases hx
    exact ⟨h1.1, h1.2, hn⟩
  · rw [List.getElem?_eq_none (by simp; omega)] at hx; cases hx
theorem BOk.fin {b : BS} {p q : Nat} (h : BOk b p) (hq : p < q) (ho : b.opn ≠ -1) : BOk b.fin q := by
  obtain ⟨k, x, hk, hx⟩ := h.at ho
  have hlt : k < b.els.length := (List.getElem?_eq_some_iff.1 hx).1
  have hp := h.par k x hx
  have h1 := h.opn; have h3 := h.dep; have h4 := h.elen; have h5 := h.tlen
  have hfin : b.fin = { els := b.els.set k { x with hi := (b.txt.length : Int) }, txt := b.txt, opn := x.parent, dep := b.dep - 1 } := by
    unfold BS.fin; rw [hk, Int.toNat_natCast, hx]; dsimp only; rw [if_neg (by omega)]
  rw [hfin]
  refine ⟨by simp; omega, fun i y hy => ?_, by simp; omega, by simp; omega, by simp; omega⟩
  by_cases e : i = k
  · subst e
    simp only [List.getElem?_set_self hlt] at hy
    cases hy
    exact hp
  · simp only [List.getElem?_set_ne (fun h => e h.symm)] at hy
    exact h.par i y hy
theorem BOk.text {b : BS} {p q : Nat} (h : BOk b p) (l : List UInt8) (hq : p + l.length ≤ q) : BOk (b.text l) q := by
  have h1 := h.opn; have h3 := h.dep; have h4 := h.elen; have h5 := h.tlen
  exact ⟨h1, h.par, by simp [BS.text]; omega, by simp [BS.text]; omega, by simp [BS.text]; omega⟩
theorem contP_len (s : ByteArray) (ends : List UInt8) : ∀ f p acc l, p ≤ s.size → (contP s ends f p acc).2 = some l → p + l.length ≤ (contP s ends f p acc).1 + acc.length
  | 0, p, acc, l, _, h => by simp [contP] at h
  | f + 1, p, acc, l, hp, h => by
    rw [contP] at h ⊢
    split at h
    · rename_i hc; rw [if_pos hc]; cases h; exact Nat.le_refl _
    · rename_i hc
      rw [if_neg hc]
      have hlt : p < s.size := peekI_lt (fun e => hc (.inl e))
      split at h
      · rename_i hm
        rw [if_pos hm]
        have h2 : p + 1 ≤ (refP s (p + 1)).1 ∧ (refP s (p + 1)).1 ≤ s.size := refL_le s (p + 1) hlt refsL
        split at h
        · rename_i m hm2
          have := contP_len s ends f (refP s (p + 1)).1 (acc ++ [m.toNat.toUInt8]) l h2.2 h
          simp only [List.length_append, List.length_singleton] at this
          omega
        · cases h
      · rename_i hm
        rw [if_neg hm]
        have := contP_len s ends f (p + 1) (acc ++ [(peekI s p).toNat.toUInt8]) l hlt h
        simp only [List.length_append, List.length_singleton] at this
        omega
theorem contentP_len (s : ByteArray) (ends : List UInt8) (p : Nat) (l : List UInt8) (hp : p ≤ s.size) (h : (contentP s ends p).2 = some l) : p + l.length ≤ (contentP s ends p).1 := by
  have := contP_len s ends (s.size + 1) p [] l hp h
  unfold contentP
  simpa using this

/-- How a method of the reader ends: 0: well; 2: the form is wrong; 3: too large. -/
def Ends (w w' : World) (B rb bb : Nat) (s : ByteArray) (r : Nat × BS × Nat) (v : Value) : Prop :=
  Rd w' rb s r.1 ∧ Bd w' B bb r.2.1 ∧ Kp B TP w w' ∧ ((r.2.2 = 0 ∧ v = .nilIface) ∨ (r.2.2 = 2 ∧ ∃ n, Chain w' 2 r.1 n v) ∨ (r.2.2 = 3 ∧ ∃ n, Chain w' 3 0 n v))

def textP (s : ByteArray) (p : Nat) (b : BS) : Nat × BS × Nat :=
  match (contentP s [60, 62] p).2 with
  | none => ((contentP s [60, 62] p).1, b, 2)
  | some t => if t = [] then ((contentP s [60, 62] p).1, b, 2) else ((contentP s [60, 62] p).1, b.text t, 0)
set_option maxRecDepth 100000 in
set_option maxHeartbeats 1000000 in
theorem text_any (B rb bb : Nat) (s : ByteArray) (p : Nat) (b : BS) (w : World) (h : Rd w rb s p) (hB : B ≤ rb) (hBb : B ≤ bb) (hg : Gl w) (hB0 : 1 < B) (hbd : Bd w B bb b) (hok : BOk b p) :
    Calls Tryz.prog 143 #[.agg #[.pointer (some ⟨rb, 0, none⟩), .pointer (some ⟨bb, 0, none⟩)]] w fun e w' => ∃ v, e = .returned v ∧ Ends w w' B rb bb s (textP s p b) v := by
  have h5 := h.max; have h4 := h.le
  cases h1 : (contentP s [60, 62] p).2 with
  | none =>
    have HE : Hid (textP s p b = ((contentP s [60, 62] p).1, b, 2)) := by unfold textP; rw [h1]; rfl
    have H1 := hide h1
    clear h1
    go_enter Tryz.func143, Tryz.ntmps143
    go_wp2_with fail
    refine (content_any B rb bb s ⟨#[60, 62]⟩ p _ (h.alloc _) hB (hg.alloc _) hB0).mono ?_
    rintro e w1 ⟨m, v, rfl, hr1, hk1, hor⟩
    rcases hor with ⟨ho, _⟩ | ⟨_, hc⟩
    · exact absurd (ho.trans H1.out) (by simp)
    obtain ⟨ty, kk, hv⟩ := hc.shape
    rw [hv] at hc ⊢
    go_wp2
    go_ret
    rw [HE.out]
    exact ⟨_, rfl, hr1, (hbd.alloc _).keptR hk1, ((Kp.refl _ _ _).alloc _).trans (kpR hk1), .inr (.inl ⟨rfl, 1, hc⟩)⟩
  | some t =>
    have hlen := contentP_len s [60, 62] p t h4 h1
    have hle := contentP_le s [60, 62] p h4
    by_cases h2 : t = []
    · have HE : Hid (textP s p b = ((contentP s [60, 62] p).1, b, 2)) := by unfold textP; rw [h1]; dsimp only; rw [if_pos h2]; rfl
      have H1 := hide h1; have H2 := hide h2
      clear h1 h2
      go_enter Tryz.func143, Tryz.ntmps143
      go_wp2_with fail
      refine (content_any B rb bb s ⟨#[60, 62]⟩ p _ (h.alloc _) hB (hg.alloc _) hB0).mono ?_
      rintro e w1 ⟨m, v, rfl, hr1, hk1, hor⟩
      rcases hor with ⟨ho, rfl⟩ | ⟨ho, _⟩
      rotate_left
      · exact absurd (ho.symm.trans H1.out) (by simp)
      have hm : m.data.toList = [] := (Option.some.inj (ho.trans H1.out)).trans H2.out
      clear ho
      have hm' : m.toList.isEmpty = true := by rw [Lib.toList_data]; simp [hm]
      have bx1 := hk1.at (alloc_at w _) (by decide)
      have c0 := cell2_0 bx1
      clear hm
      go_wp2_with fail
      refine (fail_any B rb s _ _ hr1).mono ?_
      rintro e w2 ⟨v, rfl, hc, hr2, hk2⟩
      go_wp2
      go_ret
      rw [HE.out]
      exact ⟨_, rfl, hr2, ((hbd.alloc _).keptR hk1).keptR hk2, (((Kp.refl _ _ _).alloc _).trans (kpR hk1)).trans (kpR hk2), .inr (.inl ⟨rfl, 0, hc⟩)⟩
    · have HE : Hid (textP s p b = ((contentP s [60, 62] p).1, b.text t, 0)) := by unfold textP; rw [h1]; dsimp only; rw [if_neg h2]; rfl
      have H1 := hide h1; have H2 := hide h2
      clear h1 h2
      have hts := hok.tlen
      go_enter Tryz.func143, Tryz.ntmps143
      go_wp2_with fail
      refine (content_any B rb bb s ⟨#[60, 62]⟩ p _ (h.alloc _) hB (hg.alloc _) hB0).mono ?_
      rintro e w1 ⟨m, v, rfl, hr1, hk1, hor⟩
      rcases hor with ⟨ho, rfl⟩ | ⟨ho, _⟩
      rotate_left
      · exact absurd (ho.symm.trans H1.out) (by simp)
      have hm : m.data.toList = t := Option.some.inj (ho.trans H1.out)
      clear ho
      have hm' : m.toList.isEmpty = false := by
        rw [Lib.toList_data, hm]
        cases t with
        | nil => exact absurd rfl H2.out
        | cons _ _ => rfl
      have hms : m.size ≤ 5000 := by
        have : m.data.toList.length = m.size := by simp
        rw [hm] at this
        omega
      have bx1 := hk1.at (alloc_at w _) (by decide)
      have c0 := cell2_0 bx1; have c1 := cell2_1 bx1
      have HM := hide hm
      clear hm
      go_wp2_with fail
      refine (btext_any B bb b m _ ((hbd.alloc _).keptR hk1) hBb (by omega) hms).mono ?_
      rintro e w2 ⟨rfl, hb2, hk2⟩
      rw [HM.out] at hb2
      go_wp2
      go_ret
      rw [HE.out]
      exact ⟨_, rfl, hr1.keptB hk2, hb2, (((Kp.refl _ _ _).alloc _).trans (kpR hk1)).trans (kpB hk2), .inl ⟨rfl, rfl⟩⟩

/-! ### end() -/
def endP (s : ByteArray) (p : Nat) (b : BS) : Nat × BS × Nat :=
  match b.els[b.opn.toNat]? with
  | none => (p, b, 2)
  | some x =>
    if b.opn = -1 then (p, b, 2)
    else if (expP s [47] p).2 = false then ((expP s [47] p).1, b, 2)
    else if (exnP s x.name.data.toList (expP s [47] p).1).2 = false then ((exnP s x.name.data.toList (expP s [47] p).1).1, b, 2)
    else if (expP s [62] (runTo spaceB s (exnP s x.name.data.toList (expP s [47] p).1).1)).2 = false then ((expP s [62] (runTo spaceB s (exnP s x.name.data.toList (expP s [47] p).1).1)).1, b, 2)
    else ((expP s [62] (runTo spaceB s (exnP s x.name.data.toList (expP s [47] p).1).1)).1, b.fin, 0)
theorem endP_no {s : ByteArray} {p : Nat} {b : BS} (h : b.opn = -1) : endP s p b = (p, b, 2) := by
  unfold endP; split
  · rfl
  · rw [if_pos h]
theorem endP_yes {s : ByteArray} {p : Nat} {b : BS} {k : Nat} {x : El} (h : b.opn = (k : Int)) (hx : b.els[k]? = some x) : endP s p b =
    if (expP s [47] p).2 = false then ((expP s [47] p).1, b, 2)
    else if (exnP s x.name.data.toList (expP s [47] p).1).2 = false then ((exnP s x.name.data.toList (expP s [47] p).1).1, b, 2)
    else if (expP s [62] (runTo spaceB s (exnP s x.name.data.toList (expP s [47] p).1).1)).2 = false then ((expP s [62] (runTo spaceB s (exnP s x.name.data.toList (expP s [47] p).1).1)).1, b, 2)
    else ((expP s [62] (runTo spaceB s (exnP s x.name.data.toList (expP s [47] p).1).1)).1, b.fin, 0) := by
  unfold endP; rw [h, Int.toNat_natCast, hx]; dsimp only; rw [if_neg (by omega)]
set_option maxRecDepth 100000 in
set_option maxHeartbeats 1000000 in
theorem end_any (B rb bb : Nat) (s : ByteArray) (p : Nat) (b : BS) (w : World) (h : Rd w rb s p) (hB : B ≤ rb) (hBb : B ≤ bb) (hbd : Bd w B bb b) (hok : BOk b p) :
    Calls Tryz.prog 146 #[.agg #[.pointer (some ⟨rb, 0, none⟩), .pointer (some ⟨bb, 0, none⟩)]] w fun e w' => ∃ v, e = .returned v ∧ Ends w w' B rb bb s (endP s p b) v := by
  have h5 := h.max; have h4 := h.le
  by_cases ho : b.opn = -1
  · have HE := hide (endP_no (s := s) (p := p) ho)
    have HO := hide ho
    clear ho
    go_enter Tryz.func146, Tryz.ntmps146
    go_wp2_with fail
    refine (bopen_no B bb b _ (hbd.alloc _) HO.out).mono ?_
    rintro e w1 ⟨rfl, rfl⟩
    go_wp2_with fail
    refine (fail_any B rb s p _ (h.alloc _)).mono ?_
    rintro e w2 ⟨v, rfl, hc, hr2, hk2⟩
    go_wp2
    go_ret
    rw [HE.out]
    exact ⟨_, rfl, hr2, (hbd.alloc _).keptR hk2, ((Kp.refl _ _ _).alloc _).trans (kpR hk2), .inr (.inl ⟨rfl, 0, hc⟩)⟩
  · obtain ⟨k, x, hk, hx⟩ := hok.at ho
    have HE := hide (endP_yes (s := s) (p := p) hk hx)
    have hel := hok.elen; have hdp := hok.dep
    have hnm := (hok.par k x hx).2.2
    have HK := hide hk; have HX := hide hx
    have l1 := expP_le s [47] p h4
    clear ho hk hx
    go_enter Tryz.func146, Tryz.ntmps146
    go_wp2_with fail
    refine (bopen_yes B bb b k x _ (hbd.alloc _) HK.out HX.out (by omega)).mono ?_
    rintro e w1 ⟨rfl, nq, rfl⟩
    go_wp2_with fail
    refine (expect_any B rb s ⟨#[47]⟩ p _ ((h.alloc _).drewN _) hB (by decide)).mono ?_
    rintro e w2 ⟨v, rfl, hr2, hk2, hor⟩
    have bx2 := hk2.at (alloc_at w _) (by decide)
    have bd2 := ((hbd.alloc _).drewN nq).keptR hk2
    have K2 := (((Kp.refl B TP w).alloc _).drewN nq).trans (kpR hk2)
    have c0 := cell2_0 bx2
    rcases hor with ⟨g2, rfl⟩ | ⟨g2, hc⟩
    rotate_left
    · have G2 := hide g2
      clear g2
      obtain ⟨ty, kk, hv⟩ := hc.shape
      rw [hv] at hc ⊢
      go_wp2
      go_ret
      rw [HE.out, if_pos G2.out]
      exact ⟨_, rfl, hr2, bd2, K2, .inr (.inl ⟨rfl, 0, hc⟩)⟩
    have G2 : Hid (¬ (expP s [47] p).2 = false) := by rw [g2]; exact Bool.noConfusion
    clear g2
    go_wp2_with fail
    refine (expectName_any B rb s x.name _ _ hr2 hB (by omega)).mono ?_
    rintro e w3 ⟨v, rfl, hr3, hk3, hor⟩
    have bx3 := hk3.at bx2 (by decide)
    have bd3 := bd2.keptR hk3
    have K3 := K2.trans (kpR hk3)
    have d0 := cell2_0 bx3; have d1 := cell2_1 bx3
    rcases hor with ⟨g3, rfl⟩ | ⟨g3, hc⟩
    rotate_left
    · have G3 := hide g3
      clear g3
      obtain ⟨ty, kk, hv⟩ := hc.shape
      rw [hv] at hc ⊢
      go_wp2
      go_ret
      rw [HE.out, if_neg G2.out, if_pos G3.out]
      exact ⟨_, rfl, hr3, bd3, K3, .inr (.inl ⟨rfl, 0, hc⟩)⟩
    have G3 : Hid (¬ (exnP s x.name.data.toList (expP s [47] p).1).2 = false) := by rw [g3]; exact Bool.noConfusion
    clear g3
    have l2 := exnP_le s x.name.data.toList (expP s [47] p).1 l1.2
    go_wp2_with fail
    refine (spaces_any B rb s _ _ hr3 hB).mono ?_
    rintro e w4 ⟨rfl, hr4, hk4⟩
    have bx4 := hk4.at bx3 (by decide)
    have bd4 := bd3.keptR hk4
    have K4 := K3.trans (kpR hk4)
    have e0 := cell2_0 bx4; have e1 := cell2_1 bx4
    go_wp2_with fail
    refine (expect_any B rb s ⟨#[62]⟩ _ _ hr4 hB (by decide)).mono ?_
    rintro e w5 ⟨v, rfl, hr5, hk5, hor⟩
    have bx5 := hk5.at bx4 (by decide)
    have bd5 := bd4.keptR hk5
    have K5 := K4.trans (kpR hk5)
    have i1 := cell2_1 bx5
    rcases hor with ⟨g5, rfl⟩ | ⟨g5, hc⟩
    rotate_left
    · have G5 := hide g5
      clear g5
      obtain ⟨ty, kk, hv⟩ := hc.shape
      rw [hv] at hc ⊢
      go_wp2
      go_ret
      rw [HE.out, if_neg G2.out, if_neg G3.out, if_pos G5.out]
      exact ⟨_, rfl, hr5, bd5, K5, .inr (.inl ⟨rfl, 0, hc⟩)⟩
    have G5 : Hid (¬ (expP s [62] (runTo spaceB s (exnP s x.name.data.toList (expP s [47] p).1).1)).2 = false) := by rw [g5]; exact Bool.noConfusion
    clear g5
    go_wp2_with fail
    refine (bend_any B bb b k x _ bd5 hBb HK.out HX.out (by omega) (by omega)).mono ?_
    rintro e w6 ⟨rfl, bd6, hk6⟩
    go_wp2
    go_ret
    rw [HE.out, if_neg G2.out, if_neg G3.out, if_neg G5.out]
    exact ⟨_, rfl, hr5.keptB hk6, bd6, K5.trans (kpB hk6), .inl ⟨rfl, rfl⟩⟩
end Go.Proofs.YtclpcnignheijaaGreatDoor
