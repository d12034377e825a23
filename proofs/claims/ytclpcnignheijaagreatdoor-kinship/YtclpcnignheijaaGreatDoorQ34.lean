/-
  Parts of the proof: JX, JY.
-/
import Derived.Test.YtclpcnignheijaaGreatDoorQ30
import Derived.Test.YtclpcnignheijaaGreatDoorQ32
set_option maxHeartbeats 16000000
set_option maxRecDepth 100000
namespace Go.Proofs.YtclpcnignheijaaGreatDoor.Num
open Go.RowKit Go.Proofs.YtclpcnignheijaaGreatDoor Go.Conc
section
variable {b : BS} {t : Nat → Bool}
def fromUp (nx : Nat → Int) (t : Nat → Bool) (k : Int) : Bool := if k < 0 then false else (t k.toNat || anyUp nx t (k.toNat + 1) k.toNat)
theorem anyUp_fuel {nx : Nat → Int} (hp : ∀ m, nx m = -1 ∨ (0 ≤ nx m ∧ nx m < (m : Int))) : ∀ (f f' m : Nat), m < f → m < f' → anyUp nx t f m = anyUp nx t f' m
 | 0, _, _, h, _ => by omega
 | _ + 1, 0, _, _, h => by omega
 | f + 1, f' + 1, m, h, h' => by
  rw [anyUp, anyUp]
  by_cases hn : nx m < 0
  ·rw [if_pos hn, if_pos hn]
  ·rw [if_neg hn, if_neg hn]
   have := hp m
   rw [anyUp_fuel hp f f' (nx m).toNat (by omega) (by omega)]
theorem anyUp_from {nx : Nat → Int} (hp : ∀ m, nx m = -1 ∨ (0 ≤ nx m ∧ nx m < (m : Int))) (m : Nat) : anyUp nx t (m + 1) m = fromUp nx t (nx m) := by
 unfold fromUp
 rw [anyUp]
 by_cases hn : nx m < 0
 ·rw [if_pos hn, if_pos hn]
 ·rw [if_neg hn, if_neg hn]
  have := hp m
  rw [anyUp_fuel hp m ((nx m).toNat + 1) (nx m).toNat (by omega) (by omega)]
theorem fromUp_no {nx : Nat → Int} {k : Int} (h : k < 0) : fromUp nx t k = false := by unfold fromUp; rw [if_pos h]
theorem fromUp_yes {nx : Nat → Int} (hp : ∀ m, nx m = -1 ∨ (0 ≤ nx m ∧ nx m < (m : Int))) (k : Nat) : fromUp nx t (k : Int) = (t k || fromUp nx t (nx k)) := by
 rw [← anyUp_from hp]
 unfold fromUp
 rw [if_neg (by omega), Int.toNat_natCast]
def lastP (b : BS) (p : Int) : Nat → Int
 | 0 => -1
 | m + 1 => if parI b m = p then (m : Int) else lastP b p m
def someP (b : BS) (p : Int) (t : Nat → Bool) : Nat → Bool
 | 0 => false
 | m + 1 => someP b p t m || (decide (parI b m = p) && t m)
theorem lastP_lt (p : Int) : ∀ m, lastP b p m = -1 ∨ (0 ≤ lastP b p m ∧ lastP b p m < (m : Int) ∧ parI b (lastP b p m).toNat = p)
 | 0 => .inl rfl
 | m + 1 => by
  rw [lastP]
  split
  ·rename_i h
   exact .inr ⟨by omega, by omega, by simpa using h⟩
  ·rcases lastP_lt p m with h | h
   ·exact .inl h
   ·exact .inr ⟨h.1, by omega, h.2.2⟩
theorem before_last (hb : BOk b) (p : Int) : ∀ m, beforeG b p m = lastP b p m
 | 0 => rfl
 | m + 1 => by
  rw [beforeG, lastP]
  by_cases h : p < (m : Int)
  ·rw [if_pos h, before_last hb p m]
  ·rw [if_neg h]
   have hno : ∀ k, k ≤ m + 1 → lastP b p k = -1 := by
    intro k hk
    induction k with
    | zero => rfl
    | succ k ih =>
     rw [lastP, if_neg, ih (by omega)]
     have := par_lt hb k
     omega
   exact (hno (m + 1) (Nat.le_refl _)).symm
theorem some_last (p : Int) : ∀ m, someP b p t m = if lastP b p m < 0 then false else (t (lastP b p m).toNat || someP b p t (lastP b p m).toNat)
 | 0 => rfl
 | m + 1 => by
  rw [someP, lastP]
  by_cases h : parI b m = p
  ·rw [if_pos h, if_neg (by omega), Int.toNat_natCast, decide_eq_true h, Bool.true_and, Bool.or_comm]
  ·rw [if_neg h, decide_eq_false h, Bool.false_and, Bool.or_false]
   exact some_last p m
theorem ahead_some (hb : BOk b) : ∀ (f m : Nat), m < f → anyUp (beforeP b) t f m = someP b (parI b m) t m
 | 0, _, h => by omega
 | f + 1, m, h => by
  have hl : beforeP b m = lastP b (parI b m) m := before_last hb _ m
  rw [anyUp, hl, some_last]
  rcases lastP_lt (b := b) (parI b m) m with e | ⟨e1, e2, e3⟩
  ·rw [e]; rfl
  ·rw [if_neg (by omega), if_neg (by omega), ahead_some hb f _ (by omega), e3]
theorem in_meantI {N : Nat} {mP : Nat → Bool} {k : Int} (h1 : -1 ≤ k) (h2 : k < (N : Int)) : (meantL N mP).any (· == k) = oneUp mP k := by
 unfold oneUp
 by_cases hk : k < 0
 ·rw [if_pos hk, List.any_eq_false]
  intro x hx
  obtain ⟨i, hi⟩ := List.getElem?_of_mem hx
  have := meant_in hi
  simp
  omega
 ·rw [if_neg hk]
  obtain ⟨m, rfl⟩ : ∃ m : Nat, k = (m : Int) := ⟨k.toNat, by omega⟩
  rw [Int.toNat_natCast]
  exact in_meant (by omega)
end
noncomputable def body9 : Code := Tryz.f9.body.getD .skip
noncomputable def part9 (k : Nat) : Code := fstC (sndN k body9)
noncomputable def ops9 (k : Nat) : Array Oper := opsC (part9 k)
theorem ok9_3 : codeOk Tryz.prog alM glP false (part9 3) = true := by kernel_rfl
theorem ok9_4 : codeOk Tryz.prog alM glP false (part9 4) = true := by kernel_rfl
theorem ok9_7 : codeOk Tryz.prog alM glP false (part9 7) = true := by kernel_rfl
theorem ok9_14 : codeOk Tryz.prog alM glP false (part9 14) = true := by kernel_rfl
theorem ok9_15 : codeOk Tryz.prog alM glP false (sndN 15 body9) = true := by kernel_rfl
theorem okB9 : codeOk Tryz.prog alM glP true body9 = true := by kernel_rfl
theorem shape9 : ∃ o0 : Oper, body9 = .seq (.region 0 #[o0] false) (.seq (.region 1 (ops9 1) false) (.seq (.region 2 (ops9 2) false) (.seq (part9 3) (.seq (part9 4) (.seq (.region 7 (ops9 5) false) (.seq (.region 8 (ops9 6) false) (.seq (part9 7) (.seq (.region 11 (ops9 8) false) (.seq (.region 12 (ops9 9) false) (.seq (.region 13 (ops9 10) false) (.seq (.region 14 (ops9 11) false) (.seq (.region 15 (ops9 12) false) (.seq (.region 16 (ops9 13) false) (.seq (part9 14) (sndN 15 body9))))))))))))))) ∧ o0.op = .assign (.const (.bool false)) ∧ o0.guard = none ∧ o0.dst = some 6 := ⟨_, rfl, rfl, rfl, rfl⟩
section
variable {f : Nat → Value} {w0 w : World} {db : Nat} {b : BS}
theorem k3 (dv ev : Value) (h7 : f 7 = .bool true) (h8 : f 8 = dv) (h9 : f 9 = ev) (hd : (∃ db, dv = .pointer (some ⟨db, 0, none⟩) ∧ ev = .nilIface) ∨ ∃ k, dv = .pointer none ∧ ev = .iface 107 (.pointer (some ⟨k, 0, none⟩))) :
  (part9 3).wp Tryz.prog (afterN fun a' w' => w' = w ∧ Slots 207 [(1, f 1), (2, f 2), (8, dv)] a') { tmps := ((List.range 207).map f).toArray, defers := [] } w := by
 rcases hd with ⟨db, rfl, rfl⟩ | ⟨k, rfl, rfl⟩
 all_goals
  simp only [part9, body9, Tryz.f9, Option.getD_some, sndN, fstC]
  simp only [List.range, List.range.loop, List.map, h7, h8, h9]
  go_wp2
  exact ⟨rfl, rfl, rfl, by simp; exact ⟨rfl, rfl, rfl⟩⟩
theorem k4 (h8 : f 8 = .pointer (some ⟨db, 0, none⟩)) :
  (part9 4).wp Tryz.prog (afterN fun a' w' => w' = w ∧ Slots 207 [(1, f 1), (2, f 2), (8, .pointer (some ⟨db, 0, none⟩))] a') { tmps := ((List.range 207).map f).toArray, defers := [] } w := by
 simp only [part9, body9, Tryz.f9, Option.getD_some, sndN, fstC]
 simp only [List.range, List.range.loop, List.map, h8]
 go_wp2
 exact ⟨rfl, rfl, rfl, by simp; exact ⟨rfl, rfl, rfl⟩⟩
theorem k4_no (h8 : f 8 = .pointer none) :
  (part9 4).wp Tryz.prog (afterR fun a' w' => w' = w ∧ a'.defers = [] ∧ a'.eval (.tmp 6) = .bool true) { tmps := ((List.range 207).map f).toArray, defers := [] } w := by
 simp only [part9, body9, Tryz.f9, Option.getD_some, sndN, fstC]
 simp only [List.range, List.range.loop, List.map, h8]
 go_wp2
 exact ⟨rfl, rfl, rfl⟩
theorem k7 (h11 : f 11 = .bool true) (h13 : f 13 = .bool true) :
  (part9 7).wp Tryz.prog (afterN fun a' w' => w' = w ∧ Slots 207 [(1, f 1), (2, f 2), (8, f 8), (10, f 10), (12, f 12)] a') { tmps := ((List.range 207).map f).toArray, defers := [] } w := by
 simp only [part9, body9, Tryz.f9, Option.getD_some, sndN, fstC]
 simp only [List.range, List.range.loop, List.map, h11, h13]
 go_wp2
 exact ⟨rfl, rfl, rfl, by simp; exact ⟨rfl, rfl, rfl, rfl, rfl⟩⟩
theorem k7_no (x y : Bool) (h11 : f 11 = .bool x) (h13 : f 13 = .bool y) (h : x = false ∨ y = false) :
  (part9 7).wp Tryz.prog (afterR fun a' w' => w' = w ∧ a'.defers = [] ∧ a'.eval (.tmp 6) = .bool true) { tmps := ((List.range 207).map f).toArray, defers := [] } w := by
 have h' : (x = false ∧ y = false) ∨ (x = false ∧ y = true) ∨ (x = true ∧ y = false) := by revert h; cases x <;> cases y <;> simp
 clear h
 rcases h' with ⟨rfl, rfl⟩ | ⟨rfl, rfl⟩ | ⟨rfl, rfl⟩
 all_goals
  simp only [part9, body9, Tryz.f9, Option.getD_some, sndN, fstC]
  simp only [List.range, List.range.loop, List.map, h11, h13]
  go_wp2
  exact ⟨rfl, rfl, rfl⟩
theorem k15 : (sndN 15 body9).wp Tryz.prog (afterR fun a' w' => w' = w ∧ a'.defers = [] ∧ a'.eval (.tmp 6) = .bool true) { tmps := ((List.range 207).map f).toArray, defers := [] } w := by
 simp only [body9, Tryz.f9, Option.getD_some, sndN]
 simp only [List.range, List.range.loop, List.map]
 go_wp2
 exact ⟨rfl, rfl, rfl⟩
theorem dparent_is (hb : BOk b) (m : Nat) (hm : m < b.els.length) (w : World) (ht : TrC w db b) (r : Int) (hr : parI b m = r) : Calls Tryz.prog 31 #[.pointer (some ⟨db, 0, none⟩), .int .i64 (m : Int)] w fun e w' => e = .returned (.int .i64 r) ∧ w' = w := hr ▸ dparent_q hb m hm w ht
theorem k14 {za zb z1 z2 z3 z4 : Value} {p1 p2 p3 p4 : Bool} {LA LB : List Int} {ga gb : Nat → Bool} (h8 : f 8 = .pointer (some ⟨db, 0, none⟩)) (h10 : f 10 = za) (h12 : f 12 = zb) (h16 : f 16 = z1) (h17 : f 17 = .bool p1) (h18 : f 18 = z2) (h19 : f 19 = .bool p2) (h20 : f 20 = z3) (h21 : f 21 = .bool p3) (h22 : f 22 = z4) (h23 : f 23 = .bool p4)
  (ht : TrC w db b) (hb : BOk b) (ia : IntsC w za LA) (la : LA.length ≤ 5000) (ga' : ∀ k : Int, -1 ≤ k → k < (b.els.length : Int) → LA.any (· == k) = oneUp ga k) (ib : IntsC w zb LB) (lb : LB.length ≤ 5000) (gb' : ∀ n, n < b.els.length → LB.any (· == (n : Int)) = gb n)
  (i1 : Came w b.els.length z1 p1 fun n => gb n && anyUp (parI b) ga (n + 1) n) (i2 : Came w b.els.length z2 p2 fun n => gb n && oneUp ga (parI b n)) (i3 : Came w b.els.length z3 p3 fun n => gb n && oneUp ga (beforeP b n)) (i4 : Came w b.els.length z4 p4 fun n => gb n && anyUp (beforeP b) ga (n + 1) n) :
  (part9 14).wp Tryz.prog (afterN fun a' w' => w' = w ∧ Slots 207 [] a') { tmps := ((List.range 207).map f).toArray, defers := [] } w := by
 have hN := hb.n
 simp only [part9, body9, Tryz.f9, Option.getD_some, sndN, fstC]
 simp only [List.range, List.range.loop, List.map, h8, h10, h12, h16, h17, h18, h19, h20, h21, h22, h23]
 go_wp2_with fail
 go_loopg [24] b.els.length (fun g s24 wr => ∃ n : Nat, n ≤ b.els.length ∧ g = b.els.length - n ∧ s24 = .int .i64 (n : Int) ∧ wr = w)
 case atStart => exact ⟨0, Nat.zero_le _, rfl, rfl, rfl⟩
 case round =>
  obtain ⟨n, hn, rfl, rfl, rfl⟩ := hrel
  by_cases hlt : n < b.els.length
  ·have hlt' : (n : Int) < (b.els.length : Int) := by omega
   obtain ⟨xb, hxb⟩ : ∃ xb, gb n = xb := ⟨_, rfl⟩
   obtain ⟨u, hu⟩ : ∃ u, parI b n = u := ⟨_, rfl⟩
   obtain ⟨xd, hxd⟩ : ∃ xd, anyUp (parI b) ga (n + 1) n = xd := ⟨_, rfl⟩
   obtain ⟨xl, hxl⟩ : ∃ xl, beforeP b n = xl := ⟨_, rfl⟩
   obtain ⟨xs, hxs⟩ : ∃ xs, anyUp (beforeP b) ga (n + 1) n = xs := ⟨_, rfl⟩
   have u1 : -1 ≤ u := by rcases par_lt hb n with h | h <;> omega
   have u2 : u < (n : Int) := by rcases par_lt hb n with h | h <;> omega
   have l1 : -1 ≤ xl := by rcases before_lt b n with h | h <;> omega
   have l2 : xl < (n : Int) := by rcases before_lt b n with h | h <;> omega
   have HB : Hid (LB.any (· == (n : Int)) = xb) := hide ((gb' n hlt).trans hxb)
   have HU : Hid (parI b n = u) := hide hu
   have HD : Hid (fromUp (parI b) ga u = xd) := hide (by rw [← hxd, ← hu]; exact (anyUp_from (par_lt hb) n).symm)
   have HL : Hid (lastP b u n = xl) := hide (by rw [← hxl, ← hu]; exact (before_last hb _ n).symm)
   have HS : Hid (someP b u ga n = xs) := hide (by rw [← hxs, ← hu]; exact (ahead_some hb _ n (Nat.lt_succ_self n)).symm)
   have H1 : Hid (p1 = true → ∃ L, IntsC wr z1 L ∧ L.length ≤ 5000 ∧ L.any (· == (n : Int)) = (xb && xd)) := hide fun e => by obtain ⟨L, q1, q2, q3⟩ := i1 e; exact ⟨L, q1, q2, (q3 n hlt).trans (by simp only [hxb, hxd])⟩
   have H2 : Hid (p2 = true → ∃ L, IntsC wr z2 L ∧ L.length ≤ 5000 ∧ L.any (· == (n : Int)) = (xb && oneUp ga u)) := hide fun e => by obtain ⟨L, q1, q2, q3⟩ := i2 e; exact ⟨L, q1, q2, (q3 n hlt).trans (by simp only [hxb, hu])⟩
   have H3 : Hid (p3 = true → ∃ L, IntsC wr z3 L ∧ L.length ≤ 5000 ∧ L.any (· == (n : Int)) = (xb && oneUp ga xl)) := hide fun e => by obtain ⟨L, q1, q2, q3⟩ := i3 e; exact ⟨L, q1, q2, (q3 n hlt).trans (by simp only [hxb, hxl])⟩
   have H4 : Hid (p4 = true → ∃ L, IntsC wr z4 L ∧ L.length ≤ 5000 ∧ L.any (· == (n : Int)) = (xb && xs)) := hide fun e => by obtain ⟨L, q1, q2, q3⟩ := i4 e; exact ⟨L, q1, q2, (q3 n hlt).trans (by simp only [hxb, hxs])⟩
   have HA := hide ga'
   have HP := hide (par_lt hb)
   clear hxb hxd hxl hxs hu gb' ga' i1 i2 i3 i4
   go_wp2_with fail
   refine (dlen_q _ ht).mono ?_
   rintro e w1 ⟨rfl, rfl⟩
   go_wp2_with fail
   refine (dparent_is hb n hlt _ ht u HU.out).mono ?_
   rintro e w1 ⟨rfl, rfl⟩
   go_wp2_with fail
   refine (in_is _ _ LB ib lb n xb HB.out).mono ?_
   rintro e w1 ⟨rfl, rfl⟩
   go_upto_block 2 with fail
   go_cut [27, 28, 29] from 109 to 206 (fun s27 s28 s29 wx => s27 = .bool xd ∧ (∃ k : Int, s28 = .int .i64 k ∧ k < 0) ∧ wx = w1)
   case first =>
    go_wp2_with fail
    go_loopg [27, 28, 29] (n + 1) (fun g s27 s28 s29 wr => ∃ (k : Int) (st : Nat) (D : Bool), s27 = .bool D ∧ s28 = .int .i64 k ∧ s29 = .int .i64 (st : Int) ∧ g = n + 1 - st ∧ -1 ≤ k ∧ (k < 0 ∨ k + (st : Int) + 1 ≤ (n : Int)) ∧ Hid ((D || fromUp (parI b) ga k) = xd) ∧ wr = w1)
    case atStart => exact ⟨u, 0, false, rfl, rfl, rfl, rfl, u1, by omega, hide (by rw [Bool.false_or]; exact HD.out), rfl⟩
    case round =>
     obtain ⟨k, st, D, rfl, rfl, rfl, rfl, k1, k2, hD, rfl⟩ := hrel
     by_cases hk : k < 0
     ·have c1 : decide (k ≥ 0) = false := decide_eq_false (by omega)
      have hk2 : ¬ k ≥ 0 := by omega
      go_wp2
      go_meet
      exact ⟨by rw [← hD.out, fromUp_no hk, Bool.or_false], ⟨k, rfl, hk⟩, rfl⟩
     ·obtain ⟨m, rfl⟩ : ∃ m : Nat, k = (m : Int) := ⟨k.toNat, by omega⟩
      have c1 : decide ((m : Int) ≥ 0) = true := decide_eq_true (by omega)
      have c2 : decide ((st : Int) ≤ (n : Int)) = true := decide_eq_true (by omega)
      have c3 : (m : Int) ≥ 0 := by omega
      have c4 : (st : Int) ≤ (n : Int) := by omega
      have hmN : m < b.els.length := by omega
      obtain ⟨q, hq⟩ : ∃ q, parI b m = q := ⟨_, rfl⟩
      have q1 : -1 ≤ q := by rcases HP.out m with h | h <;> omega
      have q2 : q < (m : Int) := by rcases HP.out m with h | h <;> omega
      have HQ := hide hq
      have hD2 : Hid ((D || (ga m || fromUp (parI b) ga q)) = xd) := hide (by rw [← hq, ← fromUp_yes HP.out m]; exact hD.out)
      clear hq hk hD
      cases D
      ·go_wp2_with fail
       refine (in_is _ _ LA ia la m (ga m) ((HA.out m (by omega) (by omega)).trans (by unfold oneUp; rw [if_neg (by omega), Int.toNat_natCast]))).mono ?_
       rintro e w2 ⟨rfl, rfl⟩
       go_wp2_with fail
       refine (dparent_is hb m hmN _ ht q HQ.out).mono ?_
       rintro e w2 ⟨rfl, rfl⟩
       go_wp2
       go_roundg (n + 1 - (st + 1))
       case measure => omega
       case rel => exact ⟨q, st + 1, ga m, rfl, rfl, by simp, rfl, q1, by omega, hide (by have := hD2.out; rwa [Bool.false_or] at this), rfl⟩
      ·go_wp2_with fail
       refine (dparent_is hb m hmN _ ht q HQ.out).mono ?_
       rintro e w2 ⟨rfl, rfl⟩
       go_wp2
       go_roundg (n + 1 - (st + 1))
       case measure => omega
       case rel => exact ⟨q, st + 1, true, rfl, rfl, by simp, rfl, q1, by omega, hide (by have := hD2.out; rwa [Bool.true_or] at this ⊢), rfl⟩
   case rest =>
    obtain ⟨rfl, ⟨k, rfl, hk⟩, rfl⟩ := hcut
    have c1 : decide (k ≥ 0) = false := decide_eq_false (by omega)
    have hk2 : ¬ k ≥ 0 := by omega
    go_upto_block 4 with fail
    go_cut [28, 30, 31] from 109 to 206 (fun s28 s30 s31 wx => s30 = .int .i64 xl ∧ s31 = .bool xs ∧ wx = wc)
    case first =>
     go_wp2_with fail
     go_loopg [28, 30, 31] n (fun g s28 s30 s31 wr => ∃ m : Nat, m ≤ n ∧ g = n - m ∧ s28 = .int .i64 (m : Int) ∧ s30 = .int .i64 (lastP b u m) ∧ s31 = .bool (someP b u ga m) ∧ wr = wc)
     case atStart => exact ⟨0, Nat.zero_le _, rfl, rfl, rfl, rfl, rfl⟩
     case round =>
      obtain ⟨m, hm, rfl, rfl, rfl, rfl, rfl⟩ := hrel
      by_cases hmn : m < n
      ·have hmn' : (m : Int) < (n : Int) := by omega
       have hmN : m < b.els.length := by omega
       obtain ⟨q, hq⟩ : ∃ q, parI b m = q := ⟨_, rfl⟩
       obtain ⟨ls, hls⟩ : ∃ ls, lastP b u m = ls := ⟨_, rfl⟩
       obtain ⟨D, hDD⟩ : ∃ D, someP b u ga m = D := ⟨_, rfl⟩
       have hL' : Hid (lastP b u (m + 1) = if q = u then (m : Int) else ls) := hide (by rw [lastP, hq, hls])
       have hS' : Hid (someP b u ga (m + 1) = (D || (decide (q = u) && ga m))) := hide (by rw [someP, hq, hDD])
       have HQ := hide hq
       rw [hls, hDD]
       clear hq hls hDD
       by_cases hqu : q = u
       ·have c2 : decide (q = u) = true := decide_eq_true hqu
        have c3 : (q == u) = true := by simpa using hqu
        cases D
        ·go_wp2_with fail
         refine (dparent_is hb m hmN _ ht q HQ.out).mono ?_
         rintro e w2 ⟨rfl, rfl⟩
         go_wp2_with fail
         refine (in_is _ _ LA ia la m (ga m) ((HA.out m (by omega) (by omega)).trans (by unfold oneUp; rw [if_neg (by omega), Int.toNat_natCast]))).mono ?_
         rintro e w2 ⟨rfl, rfl⟩
         go_wp2
         go_roundg (n - (m + 1))
         case measure => omega
         case rel => exact ⟨m + 1, by omega, rfl, by simp, by rw [hL'.out, if_pos hqu], by rw [hS'.out, c2]; simp, rfl⟩
        ·go_wp2_with fail
         refine (dparent_is hb m hmN _ ht q HQ.out).mono ?_
         rintro e w2 ⟨rfl, rfl⟩
         go_wp2
         go_roundg (n - (m + 1))
         case measure => omega
         case rel => exact ⟨m + 1, by omega, rfl, by simp, by rw [hL'.out, if_pos hqu], by rw [hS'.out]; simp, rfl⟩
       ·have c2 : decide (q = u) = false := decide_eq_false hqu
        have c3 : (q == u) = false := by simpa using hqu
        go_wp2_with fail
        refine (dparent_is hb m hmN _ ht q HQ.out).mono ?_
        rintro e w2 ⟨rfl, rfl⟩
        go_wp2
        go_roundg (n - (m + 1))
        case measure => omega
        case rel => exact ⟨m + 1, by omega, rfl, by simp, by rw [hL'.out, if_neg hqu], by rw [hS'.out, c2]; simp, rfl⟩
      ·have hmn' : ¬ (m : Int) < (n : Int) := by omega
       obtain rfl : m = n := by omega
       go_wp2
       go_meet
       exact ⟨by rw [HL.out], by rw [HS.out], rfl⟩
    case rest =>
     obtain ⟨rfl, rfl, rfl⟩ := hcut
     have HAu : Hid (LA.any (· == u) = oneUp ga u) := hide (HA.out u u1 (by omega))
     have HAl : Hid (LA.any (· == xl) = oneUp ga xl) := hide (HA.out xl l1 (by omega))
     go_upto_region 39 with fail
     go_cut [169] from 109 to 206 (fun sx wx => sx = .bool false ∧ wx = wc)
     case first =>
      cases p1
      ·go_wp2
       go_meet
       exact ⟨rfl, rfl⟩
      ·obtain ⟨L, q1, q2, q3⟩ := H1.out rfl
       cases xb <;> cases xd
       all_goals
        go_wp2_with fail
        refine (in_is _ _ L q1 q2 n _ q3).mono ?_
        rintro e w1 ⟨rfl, rfl⟩
        go_wp2
        go_meet
        exact ⟨rfl, rfl⟩
     case rest =>
      obtain ⟨rfl, rfl⟩ := hcut
      go_upto_region 41 with fail
      go_cut [182] from 109 to 206 (fun sx wx => sx = .bool false ∧ wx = wc)
      case first =>
       cases p2
       ·go_wp2
        go_meet
        exact ⟨rfl, rfl⟩
       ·obtain ⟨L, q1, q2, q3⟩ := H2.out rfl
        obtain ⟨y, hy⟩ : ∃ y, oneUp ga u = y := ⟨_, rfl⟩
        rw [hy] at q3
        have HY : Hid (LA.any (· == u) = y) := hide (HAu.out.trans hy)
        clear hy
        cases xb
        ·go_wp2_with fail
         refine (in_is _ _ L q1 q2 n _ q3).mono ?_
         rintro e w1 ⟨rfl, rfl⟩
         go_wp2
         go_meet
         exact ⟨rfl, rfl⟩
        ·cases y
         all_goals
          go_wp2_with fail
          refine (in_is _ _ L q1 q2 n _ q3).mono ?_
          rintro e w1 ⟨rfl, rfl⟩
          go_wp2_with fail
          refine (in_is _ _ LA ia la u _ HY.out).mono ?_
          rintro e w1 ⟨rfl, rfl⟩
          go_wp2
          go_meet
          exact ⟨rfl, rfl⟩
      case rest =>
       obtain ⟨rfl, rfl⟩ := hcut
       go_upto_region 43 with fail
       go_cut [195] from 109 to 206 (fun sx wx => sx = .bool false ∧ wx = wc)
       case first =>
        cases p3
        ·go_wp2
         go_meet
         exact ⟨rfl, rfl⟩
        ·obtain ⟨L, q1, q2, q3⟩ := H3.out rfl
         obtain ⟨y, hy⟩ : ∃ y, oneUp ga xl = y := ⟨_, rfl⟩
         rw [hy] at q3
         have HY : Hid (LA.any (· == xl) = y) := hide (HAl.out.trans hy)
         clear hy
         cases xb
         ·go_wp2_with fail
          refine (in_is _ _ L q1 q2 n _ q3).mono ?_
          rintro e w1 ⟨rfl, rfl⟩
          go_wp2
          go_meet
          exact ⟨rfl, rfl⟩
         ·cases y
          all_goals
           go_wp2_with fail
           refine (in_is _ _ L q1 q2 n _ q3).mono ?_
           rintro e w1 ⟨rfl, rfl⟩
           go_wp2_with fail
           refine (in_is _ _ LA ia la xl _ HY.out).mono ?_
           rintro e w1 ⟨rfl, rfl⟩
           go_wp2
           go_meet
           exact ⟨rfl, rfl⟩
       case rest =>
        obtain ⟨rfl, rfl⟩ := hcut
        go_upto_region 45 with fail
        go_cut [206] from 109 to 206 (fun sx wx => sx = .bool false ∧ wx = wc)
        case first =>
         cases p4
         ·go_wp2
          go_meet
          exact ⟨rfl, rfl⟩
         ·obtain ⟨L, q1, q2, q3⟩ := H4.out rfl
          cases xb <;> cases xs
          all_goals
           go_wp2_with fail
           refine (in_is _ _ L q1 q2 n _ q3).mono ?_
           rintro e w1 ⟨rfl, rfl⟩
           go_wp2
           go_meet
           exact ⟨rfl, rfl⟩
        case rest =>
         obtain ⟨rfl, rfl⟩ := hcut
         go_wp2
         go_roundg (b.els.length - (n + 1))
         case measure => omega
         case rel => exact ⟨n + 1, by omega, rfl, by simp, rfl⟩
  ·have hlt' : ¬ (n : Int) < (b.els.length : Int) := by omega
   go_wp2_with fail
   refine (dlen_q _ ht).mono ?_
   rintro e w1 ⟨rfl, rfl⟩
   go_wp2
   exact ⟨rfl, rfl, rfl, by simp⟩
end
end Go.Proofs.YtclpcnignheijaaGreatDoor.Num
