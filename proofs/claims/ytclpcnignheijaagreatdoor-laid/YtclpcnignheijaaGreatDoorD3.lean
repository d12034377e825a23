import Derived.Test.YtclpcnignheijaaGreatDoorD2
namespace Go.Proofs.YtclpcnignheijaaGreatDoor
open Go.RowKit

set_option maxHeartbeats 400000 in
theorem name_any (B rb : Nat) (s : ByteArray) (p : Nat) (w : World) (h : Rd w rb s p) (hB : B ≤ rb) :
    Calls Tryz.prog 192 #[.pointer (some ⟨rb, 0, none⟩)] w fun e w' => ∃ n v, e = .returned (.tuple #[.string n, v]) ∧ Rd w' rb s (newP s p noneTaken).1 ∧ Kp B [210] w w' ∧
      ((some n = (newP s p noneTaken).2 ∧ v = .nilIface) ∨ ((newP s p noneTaken).2 = none ∧ Chain w' 2 (newP s p noneTaken).1 0 v)) := by
  go_enter Tryz.func192, Tryz.ntmps192
  go_wp2_with fail
  refine (newName_no B rb s p _ h hB).mono ?_
  rintro e w1 ⟨n, v, rfl, hr1, hk1, hor⟩
  have hs : ∃ v', v = v' := ⟨v, rfl⟩
  go_wp2
  go_ret2
  exact ⟨_, _, rfl, hr1, hk1, hor⟩

def beginP (s : ByteArray) (p : Nat) (b : BS) : Nat × BS × Nat :=
  match (newP s p noneTaken).2 with
  | none => ((newP s p noneTaken).1, b, 2)
  | some n => elementP s (newP s p noneTaken).1 b n
/-- The same end, told from further out. -/
theorem Ends.from {w w1 w' : World} {B rb bb : Nat} {s : ByteArray} {r : Nat × BS × Nat} {v : Value} (h : Ends w1 w' B rb bb s r v) (k : Kp B TP w w1) : Ends w w' B rb bb s r v := ⟨h.1, h.2.1, k.trans h.2.2.1, h.2.2.2⟩
/-- An end, wrapped: While. -/
theorem while_ends (t : ByteArray) (B rb bb : Nat) (s : ByteArray) (r : Nat × BS × Nat) (v : Value) (w w1 : World) (h : Ends w w1 B rb bb s r v) :
    Calls Tryz.prog 54 #[.string t, v] w1 fun e w' => ∃ u, e = .returned u ∧ Ends w w' B rb bb s r u := by
  obtain ⟨h1, h2, h3, h4⟩ := h
  rcases h4 with ⟨h4, rfl⟩ | ⟨h4, n, hc⟩ | ⟨h4, n, hc⟩
  · exact (while_nil t w1).mono fun e w' ⟨he, hw⟩ => ⟨_, he, by rw [hw]; exact ⟨h1, h2, h3, .inl ⟨h4, rfl⟩⟩⟩
  · exact (while_err B [] t _ _ n v w1 hc).mono fun e w' ⟨u, he, hc', hk⟩ => ⟨u, he, h1.kept hk (by simp), h2.kept0 hk, h3.trans (kp0 hk), .inr (.inl ⟨h4, _, hc'⟩)⟩
  · exact (while_err B [] t _ _ n v w1 hc).mono fun e w' ⟨u, he, hc', hk⟩ => ⟨u, he, h1.kept hk (by simp), h2.kept0 hk, h3.trans (kp0 hk), .inr (.inr ⟨h4, _, hc'⟩)⟩
theorem Ends.shape {w w' : World} {B rb bb : Nat} {s : ByteArray} {r : Nat × BS × Nat} {v : Value} (h : Ends w w' B rb bb s r v) : v = .nilIface ∨ ∃ ty k, v = .iface ty (.pointer (some ⟨k, 0, none⟩)) := by
  rcases h.2.2.2 with ⟨_, h⟩ | ⟨_, n, h⟩ | ⟨_, n, h⟩
  · exact .inl h
  · exact .inr h.shape
  · exact .inr h.shape

set_option maxRecDepth 100000 in
set_option maxHeartbeats 1000000 in
theorem begin_any (B rb bb : Nat) (s : ByteArray) (p : Nat) (b : BS) (w : World) (h : Rd w rb s p) (hB : B ≤ rb) (hBb : B ≤ bb) (hg : Gl w) (hB0 : 1 < B) (hbd : Bd w B bb b) (hok : BOk b p) :
    Calls Tryz.prog 147 #[.agg #[.pointer (some ⟨rb, 0, none⟩), .pointer (some ⟨bb, 0, none⟩)]] w fun e w' => ∃ v, e = .returned v ∧ Ends w w' B rb bb s (beginP s p b) v := by
  have h5 := h.max; have h4 := h.le
  have l1 := newP_le s p noneTaken h4
  cases h1 : (newP s p noneTaken).2 with
  | none =>
    have HE : Hid (beginP s p b = ((newP s p noneTaken).1, b, 2)) := by unfold beginP; rw [h1]; rfl
    have H1 := hide h1
    clear h1
    go_enter Tryz.func147, Tryz.ntmps147
    go_wp2_with fail
    refine (name_any B rb s p _ (h.alloc _) hB).mono ?_
    rintro e w1 ⟨n1, v, rfl, hr1, hk1, hor⟩
    rcases hor with ⟨ho, _⟩ | ⟨_, hc⟩
    · exact absurd (ho.trans H1.out) (by simp)
    obtain ⟨ty, kk, hv⟩ := hc.shape
    rw [hv] at hc ⊢
    have E1 : Ends w w1 B rb bb s ((newP s p noneTaken).1, b, 2) (.iface ty (.pointer (some ⟨kk, 0, none⟩))) := ⟨hr1, (hbd.alloc _).keptR hk1, ((Kp.refl _ _ _).alloc _).trans (kpR hk1), .inr (.inl ⟨rfl, 0, hc⟩)⟩
    go_wp2_with fail
    refine (while_ends _ B rb bb s _ _ w _ E1).mono ?_
    rintro e w2 ⟨u, rfl, E2⟩
    go_wp2
    go_ret
    rw [HE.out]
    exact ⟨_, rfl, E2⟩
  | some n =>
    have HE : Hid (beginP s p b = elementP s (newP s p noneTaken).1 b n) := by unfold beginP; rw [h1]; rfl
    have hn16 := newP_size h4 h1
    have H1 := hide h1
    clear h1
    go_enter Tryz.func147, Tryz.ntmps147
    go_wp2_with fail
    refine (name_any B rb s p _ (h.alloc _) hB).mono ?_
    rintro e w1 ⟨n1, v, rfl, hr1, hk1, hor⟩
    rcases hor with ⟨ho, rfl⟩ | ⟨ho, _⟩
    rotate_left
    · exact absurd (ho.symm.trans H1.out) (by simp)
    have hx2 := Option.some.inj (ho.trans H1.out)
    clear ho
    subst hx2
    have bx1 := hk1.at (alloc_at w _) (by decide)
    have c0 := cell2_0 bx1; have c1 := cell2_1 bx1
    go_wp2_with fail
    refine (element_any B rb bb s _ b n1 _ hr1 hB hBb ((hg.alloc _).kept hk1 hB0) hB0 ((hbd.alloc _).keptR hk1) (hok.mono l1.1)).mono ?_
    rintro e w2 ⟨v, rfl, E2⟩
    have E3 := E2.from (((Kp.refl B TP w).alloc _).trans (kpR hk1))
    rw [← HE.out] at E3
    rcases E3.shape with rfl | ⟨ty, kk, rfl⟩
    all_goals
      go_wp2_with fail
      refine (while_ends _ B rb bb s _ _ w _ E3).mono ?_
      rintro e w3 ⟨u, rfl, E4⟩
      go_wp2
      go_ret
      exact ⟨_, rfl, E4⟩

def pieceP (s : ByteArray) (p : Nat) (b : BS) : Nat × BS × Nat :=
  if peekI s p = 60 then
    if peekI s (p + 1) = 33 then ((commentP s (p + 1)).1, b, if (commentP s (p + 1)).2 = true then 0 else 2)
    else if peekI s (p + 1) = 47 then endP s (p + 1) b
    else beginP s (p + 1) b
  else textP s p b
set_option maxRecDepth 100000 in
set_option maxHeartbeats 2000000 in
theorem piece_any (B rb bb : Nat) (s : ByteArray) (p : Nat) (b : BS) (w : World) (h : Rd w rb s p) (hB : B ≤ rb) (hBb : B ≤ bb) (hg : Gl w) (hB0 : 1 < B) (hbd : Bd w B bb b) (hok : BOk b p) :
    Calls Tryz.prog 120 #[.agg #[.pointer (some ⟨rb, 0, none⟩), .pointer (some ⟨bb, 0, none⟩)]] w fun e w' => ∃ v, e = .returned v ∧ Ends w w' B rb bb s (pieceP s p b) v := by
  have h5 := h.max; have h4 := h.le
  by_cases h1 : peekI s p = 60
  · have H1 := hide h1
    by_cases h2 : peekI s (p + 1) = 33
    · have HE : Hid (pieceP s p b = ((commentP s (p + 1)).1, b, if (commentP s (p + 1)).2 = true then 0 else 2)) := by unfold pieceP; rw [if_pos h1, if_pos h2]; rfl
      have h2' : (peekI s (p + 1) == 33) = true := by simp [h2]
      clear h1 h2
      go_enter Tryz.func120, Tryz.ntmps120
      go_wp2_with fail
      refine (take_yes B rb s p 60 _ (h.alloc _) hB (by decide) H1.out).mono ?_
      rintro e w1 ⟨rfl, hr1, hk1⟩
      have bx1 := hk1.at (alloc_at w _) (by decide)
      have c0 := cell2_0 bx1; have c1 := cell2_1 bx1
      go_wp2_with fail
      refine (peek_any rb s (p + 1) _ hr1).mono ?_
      rintro e w2 ⟨rfl, nq, rfl⟩
      go_wp2_with fail
      refine (comment_any B rb bb s (p + 1) _ (hr1.drewN _) hB).mono ?_
      rintro e w3 ⟨v, rfl, hr3, hk3, hor⟩
      have E3 : Ends w w3 B rb bb s (pieceP s p b) v := by
        rw [HE.out]
        refine ⟨hr3, (((hbd.alloc _).keptR hk1).drewN _).keptR hk3, ((((Kp.refl _ _ _).alloc _).trans (kpR hk1)).drewN _).trans (kpR hk3), ?_⟩
        rcases hor with ⟨ho, rfl⟩ | ⟨ho, hc⟩
        · exact .inl ⟨by simp [ho], rfl⟩
        · exact .inr (.inl ⟨by simp [ho], hc⟩)
      clear hor
      rcases E3.shape with rfl | ⟨ty, kk, rfl⟩
      all_goals
        go_wp2_with fail
        refine (while_ends _ B rb bb s _ _ w _ E3).mono ?_
        rintro e w4 ⟨u, rfl, E4⟩
        go_wp2
        go_ret
        exact ⟨_, rfl, E4⟩
    · have h2' : (peekI s (p + 1) == 33) = false := by simp [h2]
      by_cases h3 : peekI s (p + 1) = 47
      · have HE : Hid (pieceP s p b = endP s (p + 1) b) := by unfold pieceP; rw [if_pos h1, if_neg h2, if_pos h3]; rfl
        have h3' : (peekI s (p + 1) == 47) = true := by simp [h3]
        clear h1 h2 h3
        go_enter Tryz.func120, Tryz.ntmps120
        go_wp2_with fail
        refine (take_yes B rb s p 60 _ (h.alloc _) hB (by decide) H1.out).mono ?_
        rintro e w1 ⟨rfl, hr1, hk1⟩
        have bx1 := hk1.at (alloc_at w _) (by decide)
        have c0 := cell2_0 bx1; have c1 := cell2_1 bx1
        go_wp2_with fail
        refine (peek_any rb s (p + 1) _ hr1).mono ?_
        rintro e w2 ⟨rfl, nq, rfl⟩
        go_wp2_with fail
        refine (end_any B rb bb s (p + 1) b _ (hr1.drewN _) hB hBb (((hbd.alloc _).keptR hk1).drewN _) (hok.mono (by omega))).mono ?_
        rintro e w3 ⟨v, rfl, E2⟩
        have E3 := E2.from ((((Kp.refl B TP w).alloc _).trans (kpR hk1)).drewN _)
        rw [← HE.out] at E3
        rcases E3.shape with rfl | ⟨ty, kk, rfl⟩
        all_goals
          go_wp2_with fail
          refine (while_ends _ B rb bb s _ _ w _ E3).mono ?_
          rintro e w4 ⟨u, rfl, E4⟩
          go_wp2
          go_ret
          exact ⟨_, rfl, E4⟩
      · have HE : Hid (pieceP s p b = beginP s (p + 1) b) := by unfold pieceP; rw [if_pos h1, if_neg h2, if_neg h3]; rfl
        have h3' : (peekI s (p + 1) == 47) = false := by simp [h3]
        clear h1 h2 h3
        go_enter Tryz.func120, Tryz.ntmps120
        go_wp2_with fail
        refine (take_yes B rb s p 60 _ (h.alloc _) hB (by decide) H1.out).mono ?_
        rintro e w1 ⟨rfl, hr1, hk1⟩
        have bx1 := hk1.at (alloc_at w _) (by decide)
        have c0 := cell2_0 bx1; have c1 := cell2_1 bx1
        go_wp2_with fail
        refine (peek_any rb s (p + 1) _ hr1).mono ?_
        rintro e w2 ⟨rfl, nq, rfl⟩
        go_wp2_with fail
        refine (begin_any B rb bb s (p + 1) b _ (hr1.drewN _) hB hBb (((hg.alloc _).kept hk1 hB0).drewN _) hB0 (((hbd.alloc _).keptR hk1).drewN _) (hok.mono (by omega))).mono ?_
        rintro e w3 ⟨v, rfl, E2⟩
        have E3 := E2.from ((((Kp.refl B TP w).alloc _).trans (kpR hk1)).drewN _)
        rw [← HE.out] at E3
        rcases E3.shape with rfl | ⟨ty, kk, rfl⟩
        all_goals
          go_wp2
          go_ret
          exact ⟨_, rfl, E3⟩
  · have HE : Hid (pieceP s p b = textP s p b) := by unfold pieceP; rw [if_neg h1]; rfl
    have H1 := hide h1
    clear h1
    go_enter Tryz.func120, Tryz.ntmps120
    go_wp2_with fail
    refine (take_no B rb s p 60 _ (h.alloc _) (.inr H1.out)).mono ?_
    rintro e w1 ⟨rfl, hr1, hk1⟩
    have bx1 := hk1.at (alloc_at w _) (by decide)
    have c0 := cell2_0 bx1; have c1 := cell2_1 bx1
    go_wp2_with fail
    refine (text_any B rb bb s p b _ hr1 hB hBb ((hg.alloc _).kept hk1 hB0) hB0 ((hbd.alloc _).keptR hk1) hok).mono ?_
    rintro e w3 ⟨v, rfl, E2⟩
    have E3 := E2.from (((Kp.refl B TP w).alloc _).trans (kpR hk1))
    rw [← HE.out] at E3
    rcases E3.shape with rfl | ⟨ty, kk, rfl⟩
    all_goals
      go_wp2_with fail
      refine (while_ends _ B rb bb s _ _ w _ E3).mono ?_
      rintro e w4 ⟨u, rfl, E4⟩
      go_wp2
      go_ret
      exact ⟨_, rfl, E4⟩
end Go.Proofs.YtclpcnignheijaaGreatDoor
