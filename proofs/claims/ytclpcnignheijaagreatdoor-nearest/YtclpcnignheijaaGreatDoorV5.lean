import Derived.Test.YtclpcnignheijaaGreatDoorQ10
import Derived.Test.YtclpcnignheijaaGreatDoorQ4
namespace Go.Proofs.YtclpcnignheijaaGreatDoor
open Go.RowKit

/-- What the document answers to a text: the code, the place, the selector. -/
def compP (s : ByteArray) : Nat × Nat × Option SLst :=
  if 200 < s.size then (1, 0, none)
  else match listP s (s.size + 1) 0 with
    | (q, none) => (2, q, none)
    | (q, some (l, cn, d)) => if q ≠ s.size then (2, q, none) else if 24 < cn ∨ 4 < 1 + d then (3, 0, none) else (0, 0, some l)
theorem comp_long {s : ByteArray} (h : 200 < s.size) : compP s = (1, 0, none) := by unfold compP; rw [if_pos h]
theorem comp_bad {s : ByteArray} {q : Nat} (h : ¬ 200 < s.size) (h1 : listP s (s.size + 1) 0 = (q, none)) : compP s = (2, q, none) := by unfold compP; rw [if_neg h, h1]
theorem comp_more {s : ByteArray} {q : Nat} {x : SLst × Nat × Nat} (h : ¬ 200 < s.size) (h1 : listP s (s.size + 1) 0 = (q, some x)) (hq : q ≠ s.size) : compP s = (2, q, none) := by
  unfold compP; rw [if_neg h, h1]; dsimp only; rw [if_pos hq]
theorem comp_limit {s : ByteArray} {q : Nat} {l : SLst} {cn d : Nat} (h : ¬ 200 < s.size) (h1 : listP s (s.size + 1) 0 = (q, some (l, cn, d))) (hq : q = s.size) (hl : 24 < cn ∨ 4 < 1 + d) : compP s = (3, 0, none) := by
  unfold compP; rw [if_neg h, h1]; dsimp only; rw [if_neg (fun e => e hq), if_pos hl]
theorem comp_good {s : ByteArray} {q : Nat} {l : SLst} {cn d : Nat} (h : ¬ 200 < s.size) (h1 : listP s (s.size + 1) 0 = (q, some (l, cn, d))) (hq : q = s.size) (hl : ¬ (24 < cn ∨ 4 < 1 + d)) : compP s = (0, 0, some l) := by
  unfold compP; rw [if_neg h, h1]; dsimp only; rw [if_neg (fun e => e hq), if_neg hl]

set_option maxHeartbeats 1000000 in
theorem limits_any (B xb rb : Nat) (s : ByteArray) (p a b c : Nat) (w : World) (h : Sx w xb rb s p a b c) (ha : a ≤ 3000) (hc : c ≤ 3000) :
    Calls Tryz.prog 96 #[.pointer (some ⟨xb, 0, none⟩)] w fun e w' => ∃ v, e = .returned v ∧ Kp B [] w w' ∧ ((¬ (24 < a ∨ 4 < c) ∧ v = .nilIface) ∨ ((24 < a ∨ 4 < c) ∧ ∃ n, Chain w' 3 0 n v)) := by
  have d1 := h.c1; have d3 := h.c3
  by_cases h1 : 24 < a
  · have e1 : (24 : Int) < (a : Int) := by omega
    go_enter Tryz.func96, Tryz.ntmps96
    go_wp2_with fail
    refine (while_err B [] _ _ _ _ _ _ (show Chain _ 3 0 0 _ from ⟨_, rfl, alloc_at _ _⟩)).mono ?_
    rintro e w2 ⟨u, rfl, hc2, hk2⟩
    go_wp2
    go_ret
    exact ⟨_, rfl, ((Kp.refl B [] w).alloc _).trans hk2, .inr ⟨.inl h1, _, hc2⟩⟩
  · have e1 : ¬ (24 : Int) < (a : Int) := by omega
    by_cases h2 : 4 < c
    · have e2 : (4 : Int) < (c : Int) := by omega
      go_enter Tryz.func96, Tryz.ntmps96
      go_wp2_with fail
      refine (while_err B [] _ _ _ _ _ _ (show Chain _ 3 0 0 _ from ⟨_, rfl, alloc_at _ _⟩)).mono ?_
      rintro e w2 ⟨u, rfl, hc2, hk2⟩
      go_wp2
      go_ret
      exact ⟨_, rfl, ((Kp.refl B [] w).alloc _).trans hk2, .inr ⟨.inr h2, _, hc2⟩⟩
    · have e2 : ¬ (4 : Int) < (c : Int) := by omega
      have HH : Hid (¬ (24 < a ∨ 4 < c)) := hide (by omega)
      clear h1 h2
      generalize (24 < a ∨ 4 < c) = LL at *
      go_enter Tryz.func96, Tryz.ntmps96
      go_wp2
      go_ret
      exact ⟨_, rfl, Kp.refl _ _ _, .inl ⟨HH.out, rfl⟩⟩

set_option maxRecDepth 100000 in
set_option maxHeartbeats 2000000 in
theorem sread_any (s : ByteArray) (w : World) :
    Calls Tryz.prog 63 #[.string s] w fun e w' => ∃ (lv v : Value), e = .returned (.tuple #[lv, v]) ∧ Below w.heap.size w w' ∧
      ((∃ l, compP s = (0, 0, some l) ∧ v = .nilIface ∧ RepL progL (fun g => w.heap.size ≤ g) w' (s.size + 1) lv l) ∨ ((compP s).2.2 = none ∧ (compP s).1 ≠ 0 ∧ lv = .slice none 0 0 ∧ ∃ n, Chain w' (compP s).1 (compP s).2.1 n v)) := by
  by_cases hs : 200 < s.size
  · have e1 : (200 : Int) < (s.size : Int) := by omega
    have HE := hide (comp_long hs)
    go_enter Tryz.func63, Tryz.ntmps63
    go_wp2
    go_ret2
    rw [HE.out]
    exact ⟨_, _, rfl, (Below.refl _ _).alloc (Nat.le_refl _) _, .inr ⟨rfl, by decide, rfl, 0, _, rfl, alloc_at _ _⟩⟩
  · have e1 : ¬ (200 : Int) < (s.size : Int) := by omega
    have h1 : Rd (w.alloc (.cells #[.string s, .int .i64 0] 210)) w.heap.size s 0 := ⟨alloc_at _ _, Nat.zero_le _, by omega⟩
    have h2 : Sx ((w.alloc (.cells #[.string s, .int .i64 0] 210)).alloc (.cells #[.pointer (some ⟨w.heap.size, 0, none⟩), .int .i64 0, .int .i64 0, .int .i64 0, .int .i64 0] 179)) (w.heap.size + 1) w.heap.size s 0 0 0 0 := ⟨h1.alloc _, 0, alloc_at' _ (by simp)⟩
    have hk2 := ((Kp.refl w.heap.size TS w).alloc (.cells #[.string s, .int .i64 0] 210)).alloc (.cells #[.pointer (some ⟨w.heap.size, 0, none⟩), .int .i64 0, .int .i64 0, .int .i64 0, .int .i64 0] 179)
    have hgd := listP_gd s (s.size + 1) 0 (Nat.zero_le _)
    go_enter Tryz.func63, Tryz.ntmps63
    go_wp2_with fail
    refine (newReader_any s _).mono ?_
    rintro e w1 ⟨rfl, rfl⟩
    go_wp2_with fail
    have hsz2 : ((w.alloc (.cells #[.string s, .int .i64 0] 210)).alloc (.cells #[.pointer (some ⟨w.heap.size, 0, none⟩), .int .i64 0, .int .i64 0, .int .i64 0, .int .i64 0] 179)).heap.size = w.heap.size + 2 := by simp
    refine (list_ok w.heap.size (w.heap.size + 1) w.heap.size s (Nat.le_refl _) (by omega) (s.size + 1) 0 0 0 0 _ h2 (Nat.le_refl _) (Nat.le_refl _) (Nat.le_refl _) (by omega)).mono ?_
    rintro e w3 ⟨lv, v, rfl, hk3, hor⟩
    have hkA := hk2.trans hk3
    rw [hsz2] at hor
    rcases hor with ⟨l, cn, d, ho, rfl, h3, hr3⟩ | ⟨ho, rfl, _, n, hc⟩
    rotate_left
    · have HE : Hid (compP s = (2, (listP s (s.size + 1) 0).1, none)) := hide (comp_bad hs (by rw [← ho]))
      obtain ⟨ty, kk, hv⟩ := hc.shape
      rw [hv] at hc ⊢
      clear ho
      go_wp2
      go_ret2
      rw [HE.out]
      exact ⟨_, _, rfl, hkA.below (Nat.le_refl _), .inr ⟨rfl, by simp, rfl, n, hc⟩⟩
    · obtain ⟨g1, g2, g3⟩ := hgd
      have g3 := g3 _ ho
      dsimp only at g3
      generalize hq : (listP s (s.size + 1) 0).1 = q at *
      have HL : Hid (listP s (s.size + 1) 0 = (q, some (l, cn, d))) := by rw [← hq, ← ho]; rfl
      clear hq ho
      have c3 := h3.c0
      obtain ⟨va, vm, vc, rfl⟩ := hr3.shape
      rw [show max 0 (0 + 1 + d) = 1 + d from by omega, show 0 + cn = cn from by omega] at h3
      by_cases hqs : q = s.size
      · go_wp2_with fail
        refine (done_yes w.heap.size s q _ h3.1 hqs).mono ?_
        rintro e w4 ⟨rfl, n4, rfl⟩
        go_wp2_with fail
        refine (limits_any w.heap.size (w.heap.size + 1) w.heap.size s q cn 0 (1 + d) _ (h3.drewN n4) (by omega) (by omega)).mono ?_
        rintro e w5 ⟨v5, rfl, hk5, hor5⟩
        have hkB := (hkA.drewN n4).trans (hk5.mono (Nat.le_refl _) (by simp))
        rcases hor5 with ⟨hl, rfl⟩ | ⟨hl, n5, hc5⟩
        · have HE := hide (comp_good hs HL.out hqs hl)
          have hr5 : RepL progL (fun g => w.heap.size ≤ g) w5 (s.size + 1) (.slice va vm vc) l := hr3.map (Fr.ofKp hk5.fromDrewN (by simp) (by simp) (by simp) fun g hg => by omega)
          go_wp2
          go_ret2
          exact ⟨_, _, rfl, hkB.below (Nat.le_refl _), .inl ⟨l, HE.out, rfl, hr5⟩⟩
        · have HE := hide (comp_limit hs HL.out hqs hl)
          obtain ⟨ty, kk, hv⟩ := hc5.shape
          rw [hv] at hc5 ⊢
          clear hl
          go_wp2
          go_ret2
          rw [HE.out]
          exact ⟨_, _, rfl, hkB.below (Nat.le_refl _), .inr ⟨rfl, by decide, rfl, n5, hc5⟩⟩
      · have HE := hide (comp_more hs HL.out hqs)
        have hq' : q < s.size := by omega
        go_wp2_with fail
        refine (done_no w.heap.size s q _ h3.1 hq').mono ?_
        rintro e w4 ⟨rfl, n4, rfl⟩
        have c4 := (h3.drewN n4).c0
        go_wp2_with fail
        refine (fail_any w.heap.size w.heap.size s q _ (h3.drewN n4).1).mono ?_
        rintro e w5 ⟨v5, rfl, hc5, hr5, hk5⟩
        go_wp2
        go_ret2
        rw [HE.out]
        exact ⟨_, _, rfl, ((hkA.drewN n4).trans hk5.ts).below (Nat.le_refl _), .inr ⟨rfl, by simp, rfl, 0, hc5⟩⟩

set_option maxRecDepth 100000 in
set_option maxHeartbeats 2000000 in
theorem compile_any (s : ByteArray) (w : World) :
    Calls Tryz.prog 29 #[.string s] w fun e w' => Below w.heap.size w w' ∧
      ((∃ l sb lv, compP s = (0, 0, some l) ∧ e = .returned (.tuple #[.pointer (some ⟨sb, 0, none⟩), .nilIface]) ∧ w.heap.size ≤ sb ∧ w'.heap[sb]? = some (.cells #[lv] 96 (0, 0)) ∧ RepL progL (fun g => w.heap.size ≤ g) w' (s.size + 1) lv l) ∨
       ((compP s).2.2 = none ∧ (compP s).1 ≠ 0 ∧ ∃ v, e = .returned (.tuple #[.pointer none, v]) ∧ Refused w' (compP s).1 (compP s).2.1 v)) := by
  go_enter Tryz.func29, Tryz.ntmps29
  go_wp2_with fail
  refine (sread_any s _).mono ?_
  rintro e w1 ⟨lv, v, rfl, hb1, hor⟩
  have hsz := hb1.size
  rcases hor with ⟨l, hcp, rfl, hr⟩ | ⟨hcn, hc0, rfl, n, hc⟩
  · obtain ⟨va, vm, vc, rfl⟩ := hr.shape
    have HC := hide hcp
    clear hcp
    go_wp2
    go_ret2
    exact ⟨hb1.alloc hsz _, .inl ⟨l, w1.heap.size, _, HC.out, rfl, hsz, alloc_at _ _, hr.map (Fr.alloc _ fun _ hg => hg)⟩⟩
  · obtain ⟨ty, kk, rfl⟩ := hc.shape
    have HC := hide hcn; have H0 := hide hc0
    clear hcn hc0
    go_wp2_with fail
    refine (while_err w.heap.size [] _ _ _ _ _ _ hc).mono ?_
    rintro e w2 ⟨u, rfl, hc2, hk2⟩
    have hb2 := hb1.trans (hk2.below hsz)
    obtain ⟨ty2, kk2, rfl⟩ := hc2.shape
    go_wp2
    go_ret2
    exact ⟨hb2.alloc (by have := hb2.size; exact this) _, .inr ⟨HC.out, H0.out, _, rfl, _, _, _, rfl, alloc_at _ _, hc2.alloc _⟩⟩
end Go.Proofs.YtclpcnignheijaaGreatDoor
