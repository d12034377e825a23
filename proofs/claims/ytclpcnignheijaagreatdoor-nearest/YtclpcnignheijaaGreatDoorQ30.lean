/-
  PARTS OF THE PROOF OF THE LAW 'Nearest', joined into one text: JE, JF, JG.
-/
import Derived.Test.YtclpcnignheijaaGreatDoorQ29
/-
  Nearest, BEHIND All (stage 3).
-/
namespace Go.Proofs.YtclpcnignheijaaGreatDoor.Num
open Go.RowKit Go.Proofs.YtclpcnignheijaaGreatDoor Go.Conc

theorem in_is (w : World) (x : Value) (L : List Int) (h : IntsC w x L) (hl : L.length ≤ 5000) (n : Int) (r : Bool) (hr : L.any (· == n) = r) : Calls Tryz.prog 34 #[x, .int .i64 n] w fun e w' => e = .returned (.bool r) ∧ w' = w := hr ▸ in_q w x L h hl n
section
variable {db sb : Nat} {b : BS} {A : List Cpx} {lv : Value} {d : Nat} {l : SLst} {w : World}
theorem dis_is (L : Look w db b A lv d l) (hs : w.cell? ⟨sb, 0, none⟩ = some lv) (n : Int) (hn : -9223372036854775808 ≤ n ∧ n ≤ 9223372036854775807) (r : Bool) (hr : isM b.els.length (mean b l) n = r) : Calls Tryz.prog 39 #[.pointer (some ⟨db, 0, none⟩), .int .i64 n, .pointer (some ⟨sb, 0, none⟩)] w fun e w' => e = .returned (.bool r) ∧ Old w w' := hr ▸ dis_q L hs n hn
theorem dclosest_is (L : Look w db b A lv d l) (hs : w.cell? ⟨sb, 0, none⟩ = some lv) (n : Int) (hn : -9223372036854775808 ≤ n ∧ n ≤ 9223372036854775807) (r : Int) (hr : closM b.els.length (parI b) (mean b l) (n.toNat + 1) n = r) : Calls Tryz.prog 40 #[.pointer (some ⟨db, 0, none⟩), .int .i64 n, .pointer (some ⟨sb, 0, none⟩)] w fun e w' => e = .returned (.int .i64 r) ∧ Old w w' := hr ▸ dclosest_q L hs n hn
theorem dfirst_is (L : Look w db b A lv d l) (hs : w.cell? ⟨sb, 0, none⟩ = some lv) (r : Int) (hr : firstM (mean b l) b.els.length 0 = r) : Calls Tryz.prog 38 #[.pointer (some ⟨db, 0, none⟩), .pointer (some ⟨sb, 0, none⟩)] w fun e w' => e = .returned (.int .i64 r) ∧ Old w w' := hr ▸ dfirst_q L hs
end
/-- What stays, from one part to the next. -/
def Stay (w0 : World) (db sb : Nat) (x : Value) (a' : Act) (w' : World) : Prop := Old w0 w' ∧ a'.tmps.size = 147 ∧ a'.defers = [] ∧ a'.eval (.tmp 6) = .pointer (some ⟨db, 0, none⟩) ∧ a'.eval (.tmp 8) = .pointer (some ⟨sb, 0, none⟩) ∧ a'.eval (.tmp 10) = x
def afterN (Qn : Act → World → Prop) : Exit → Act → World → Prop
  | .normal => Qn
  | .ret => fun _ _ => False
  | _ => fun _ _ => False
section
variable {f : Nat → Value} {w0 w : World} {db sb : Nat} {b : BS} {A : List Cpx} {lv : Value} {d : Nat} {l : SLst} {x : Value} {M : List Int}
set_option maxRecDepth 100000 in
set_option maxHeartbeats 1000000 in
theorem w10 (k0 : Old w0 w) (h6 : f 6 = .pointer (some ⟨db, 0, none⟩)) (h8 : f 8 = .pointer (some ⟨sb, 0, none⟩)) (h10 : f 10 = x) (h11 : f 11 = .int .i64 (-1)) (hx : IntsC w x M) (hl : M.length ≤ 5000) :
    (part11 10).wp Tryz.prog (afterN fun a' w' => Stay w0 db sb x a' w' ∧ a'.eval (.tmp 11) = .int .i64 (M.headD (-1))) { tmps := ((List.range 147).map f).toArray, defers := [] } w := by
  obtain ⟨ao, cap, rfl, hc⟩ := id hx
  simp only [part11, body11, Tryz.f11, Option.getD_some]
  simp only [List.range, List.range.loop, List.map, h6, h8, h10, h11]
  cases M with
  | nil =>
    go_wp2
    exact ⟨⟨k0, rfl, rfl, rfl, rfl, rfl⟩, rfl⟩
  | cons m0 M =>
    obtain ⟨g, rfl, q0⟩ := hc 0 m0 rfl
    have hlen : ((0 : Int) < ((m0 :: M).length : Int)) := by simp
    go_wp2
    exact ⟨⟨k0, rfl, rfl, rfl, rfl, rfl⟩, rfl⟩
set_option maxRecDepth 100000 in
set_option maxHeartbeats 1000000 in
theorem w12 (k0 : Old w0 w) (h6 : f 6 = .pointer (some ⟨db, 0, none⟩)) (h8 : f 8 = .pointer (some ⟨sb, 0, none⟩)) (h10 : f 10 = x) (y : Int) (h11 : f 11 = .int .i64 y) (L : Look w db b A lv d l) (hs : w.cell? ⟨sb, 0, none⟩ = some lv) (hy : firstM (mean b l) b.els.length 0 = y) :
    (part11 12).wp Tryz.prog (afterN fun a' w' => Stay w0 db sb x a' w') { tmps := ((List.range 147).map f).toArray, defers := [] } w := by
  have HY := hide hy
  clear hy
  simp only [part11, body11, Tryz.f11, Option.getD_some]
  simp only [List.range, List.range.loop, List.map, h6, h8, h10, h11]
  go_wp2_with fail
  refine (dfirst_is L hs y HY.out).mono ?_
  rintro e w1 ⟨rfl, ho⟩
  have k1 := k0.trans ho
  go_wp2
  exact ⟨k1, rfl, rfl, rfl, rfl, rfl⟩
end
end Go.Proofs.YtclpcnignheijaaGreatDoor.Num
/-
  Nearest, its loops (stage 3).
-/
namespace Go.Proofs.YtclpcnignheijaaGreatDoor.Num
open Go.RowKit Go.Proofs.YtclpcnignheijaaGreatDoor Go.Conc

section
variable {f : Nat → Value} {w0 w : World} {db sb : Nat} {b : BS} {A : List Cpx} {lv : Value} {d : Nat} {l : SLst} {x : Value} {M : List Int}
set_option maxRecDepth 100000 in
set_option maxHeartbeats 4000000 in
theorem w14 (k0 : Old w0 w) (h6 : f 6 = .pointer (some ⟨db, 0, none⟩)) (h8 : f 8 = .pointer (some ⟨sb, 0, none⟩)) (h10 : f 10 = x) (L : Look w db b A lv d l) (hx : IntsC w x M) (hl : M.length ≤ 5000) (h1 : ∀ (i : Nat) y, M[i]? = some y → 0 ≤ y ∧ y < (b.els.length : Int)) (h2 : ∀ (i : Nat) y z, M[i]? = some y → M[i + 1]? = some z → y < z) :
    (part11 14).wp Tryz.prog (afterN fun a' w' => Stay w0 db sb x a' w') { tmps := ((List.range 147).map f).toArray, defers := [] } w := by
  have hn := L.env.ok.n
  obtain ⟨ao, cap, rfl, hc⟩ := id hx
  simp only [part11, body11, Tryz.f11, Option.getD_some]
  simp only [List.range, List.range.loop, List.map, h6, h8, h10]
  go_wp2
  go_loopw [12] (fun iv wr => ∃ i : Nat, iv = .int .i64 (i : Int) ∧ i ≤ M.length ∧ wr.heap = w.heap) (fun iv _ => ((M.length : Int) - intOf iv).toNat)
  case atStart => exact ⟨0, rfl, Nat.zero_le _, rfl⟩
  case round =>
    obtain ⟨i, rfl, hi, hh⟩ := hrel
    by_cases hlt : i < M.length
    · have hlt' : (i : Int) < (M.length : Int) := by omega
      obtain ⟨v, hv⟩ : ∃ v, M[i]? = some v := ⟨M[i], List.getElem?_eq_getElem hlt⟩
      obtain ⟨g, rfl, q0⟩ := hc i v hv
      have q0 : wr.cell? ⟨g, i, none⟩ = some (.int .i64 v) := by rw [World.cell?_of_block (w := w) (by rw [hh])]; exact q0
      obtain ⟨v0, v1⟩ := h1 i v hv
      have ht : ∀ n, TrC (wr.drewN n) db b := fun n => (Old.heap (w := w) (w' := wr.drewN n) hh).tr L.env.tree
      have b1 : decide (v < 0) = false := decide_eq_false (by omega)
      have b2 : decide (v ≥ (b.els.length : Int)) = false := decide_eq_false (by omega)
      by_cases hz : i = 0
      · subst hz
        go_wp2
        go_quiet ((go_at_call 13; exact Calls.quiet_of_same (dlen_q _ (ht _))))
        go_wp2
        go_roundw
        case rel => exact ⟨1, rfl, by omega, hh⟩
        case measure => simp [intOf]; omega
      · obtain ⟨j, rfl⟩ : ∃ j, i = j + 1 := ⟨i - 1, by omega⟩
        obtain ⟨v', hv'⟩ : ∃ v, M[j]? = some v := ⟨M[j], List.getElem?_eq_getElem (by omega)⟩
        obtain ⟨g', eg, q1⟩ := hc j v' hv'
        obtain rfl : g = g' := by simpa using eg
        have q1 : wr.cell? ⟨g, j, none⟩ = some (.int .i64 v') := by rw [World.cell?_of_block (w := w) (by rw [hh])]; exact q1
        have b3 : decide (v ≤ v') = false := decide_eq_false (by have := h2 j v' v hv' hv; omega)
        have b4 : decide (((j + 1 : Nat) : Int) > 0) = true := decide_eq_true (by omega)
        clear hv hv' eg
        go_wp2
        go_quiet ((go_at_call 13; exact Calls.quiet_of_same (dlen_q _ (ht _))))
        go_wp2
        go_roundw
        case rel => exact ⟨j + 1 + 1, by simp, by omega, hh⟩
        case measure => simp [intOf]; omega
    · have hlt' : ¬ (i : Int) < (M.length : Int) := by omega
      have ko : Old w0 wr := k0.trans (Old.heap hh)
      go_wp2
      exact ⟨ko, rfl, rfl, rfl, rfl, rfl⟩
set_option maxRecDepth 100000 in
set_option maxHeartbeats 8000000 in
theorem w19 (k0 : Old w0 w) (h6 : f 6 = .pointer (some ⟨db, 0, none⟩)) (h8 : f 8 = .pointer (some ⟨sb, 0, none⟩)) (h10 : f 10 = x) (L : Look w db b A lv d l) (hs : w.cell? ⟨sb, 0, none⟩ = some lv) (hx : IntsC w x M) (hl : M.length ≤ 5000) (h1 : ∀ n : Nat, n < b.els.length → M.any (· == (n : Int)) = mean b l n) :
    (part11 19).wp Tryz.prog (afterN fun a' w' => Stay w0 db sb x a' w') { tmps := ((List.range 147).map f).toArray, defers := [] } w := by
  have hn := L.env.ok.n
  have hpar := par_lt L.env.ok
  obtain ⟨ao, cap, rfl, -⟩ := id hx
  simp only [part11, body11, Tryz.f11, Option.getD_some]
  simp only [List.range, List.range.loop, List.map, h6, h8, h10]
  go_wp2
  go_loopw [13] (fun iv wr => ∃ n : Nat, iv = .int .i64 (n : Int) ∧ n ≤ b.els.length ∧ Old w wr) (fun iv _ => ((b.els.length : Int) - intOf iv).toNat)
  case atStart => exact ⟨0, rfl, Nat.zero_le _, .refl _⟩
  case round =>
    obtain ⟨n, rfl, hi, hh⟩ := hrel
    by_cases hlt : n < b.els.length
    · have hlt' : (n : Int) < (b.els.length : Int) := by omega
      have hp := hpar n
      obtain ⟨z, HZ⟩ : ∃ z, Hid (closM b.els.length (parI b) (mean b l) ((parI b n).toNat + 1) (parI b n) = z) := ⟨_, rfl⟩
      have HC := hide (closM_at (N := b.els.length) (mP := mean b l) hpar hlt)
      have HI : Hid (isM b.els.length (mean b l) (n : Int) = mean b l n) := hide (by unfold isM; rw [decide_eq_true (by omega), Int.toNat_natCast, Bool.true_and])
      have HA := hide (h1 n hlt)
      have bp : decide (parI b n ≥ (n : Int)) = false := decide_eq_false (by omega)
      cases hr : mean b l n
      · have HR := hide hr
        clear hr
        have H1 : Hid (M.any (· == (n : Int)) = false) := hide (by rw [HA.out, HR.out])
        have H2 : Hid (isM b.els.length (mean b l) (n : Int) = false) := hide (by rw [HI.out, HR.out])
        have H3 : Hid (closM b.els.length (parI b) (mean b l) ((n : Int).toNat + 1) (n : Int) = z) := hide (by rw [Int.toNat_natCast, HC.out, HR.out, if_neg (by simp)]; exact HZ.out)
        go_wp2_with fail
        refine (dlen_q _ (hh.tr L.env.tree)).mono ?_
        rintro e w1 ⟨rfl, rfl⟩
        go_wp2_with fail
        refine (in_is _ _ M (hx.old hh) hl _ false H1.out).mono ?_
        rintro e w2 ⟨rfl, rfl⟩
        go_wp2_with fail
        refine (dis_is (L.old hh) (hh.cells _ _ hs) _ (by omega) false H2.out).mono ?_
        rintro e w3 ⟨rfl, o3⟩
        have hh3 := hh.trans o3
        go_wp2_with fail
        refine (dparent_q L.env.ok n hlt _ (hh3.tr L.env.tree)).mono ?_
        rintro e w4 ⟨rfl, rfl⟩
        go_wp2_with fail
        refine (dparent_q L.env.ok n hlt _ (hh3.tr L.env.tree)).mono ?_
        rintro e w5 ⟨rfl, rfl⟩
        go_wp2_with fail
        refine (dclosest_is (L.old hh3) (hh3.cells _ _ hs) _ (by omega) z HZ.out).mono ?_
        rintro e w6 ⟨rfl, o6⟩
        have hh6 := hh3.trans o6
        go_wp2_with fail
        refine (dclosest_is (L.old hh6) (hh6.cells _ _ hs) _ (by omega) z H3.out).mono ?_
        rintro e w7 ⟨rfl, o7⟩
        have hh7 := hh6.trans o7
        go_wp2
        go_roundw
        case rel => exact ⟨n + 1, by simp, by omega, hh7⟩
        case measure => simp [intOf]; omega
      · have HR := hide hr
        clear hr
        have H1 : Hid (M.any (· == (n : Int)) = true) := hide (by rw [HA.out, HR.out])
        have H2 : Hid (isM b.els.length (mean b l) (n : Int) = true) := hide (by rw [HI.out, HR.out])
        have H3 : Hid (closM b.els.length (parI b) (mean b l) ((n : Int).toNat + 1) (n : Int) = (n : Int)) := hide (by rw [Int.toNat_natCast, HC.out, HR.out, if_pos rfl])
        go_wp2_with fail
        refine (dlen_q _ (hh.tr L.env.tree)).mono ?_
        rintro e w1 ⟨rfl, rfl⟩
        go_wp2_with fail
        refine (in_is _ _ M (hx.old hh) hl _ true H1.out).mono ?_
        rintro e w2 ⟨rfl, rfl⟩
        go_wp2_with fail
        refine (dis_is (L.old hh) (hh.cells _ _ hs) _ (by omega) true H2.out).mono ?_
        rintro e w3 ⟨rfl, o3⟩
        have hh3 := hh.trans o3
        go_wp2_with fail
        refine (dparent_q L.env.ok n hlt _ (hh3.tr L.env.tree)).mono ?_
        rintro e w4 ⟨rfl, rfl⟩
        go_wp2_with fail
        refine (dparent_q L.env.ok n hlt _ (hh3.tr L.env.tree)).mono ?_
        rintro e w5 ⟨rfl, rfl⟩
        go_wp2_with fail
        refine (dclosest_is (L.old hh3) (hh3.cells _ _ hs) _ (by omega) z HZ.out).mono ?_
        rintro e w6 ⟨rfl, o6⟩
        have hh6 := hh3.trans o6
        go_wp2_with fail
        refine (dclosest_is (L.old hh6) (hh6.cells _ _ hs) _ (by omega) (n : Int) H3.out).mono ?_
        rintro e w7 ⟨rfl, o7⟩
        have hh7 := hh6.trans o7
        go_wp2
        go_roundw
        case rel => exact ⟨n + 1, by simp, by omega, hh7⟩
        case measure => simp [intOf]; omega
    · have hlt' : ¬ (n : Int) < (b.els.length : Int) := by omega
      have ko : Old w0 wr := k0.trans hh
      go_wp2_with fail
      refine (dlen_q _ (hh.tr L.env.tree)).mono ?_
      rintro e w1 ⟨rfl, rfl⟩
      go_wp2
      exact ⟨ko, rfl, rfl, rfl, rfl, rfl⟩
def afterR (Qr : Act → World → Prop) : Exit → Act → World → Prop
  | .normal => fun _ _ => False
  | .ret => Qr
  | _ => fun _ _ => False
set_option maxRecDepth 100000 in
set_option maxHeartbeats 2000000 in
theorem w30 (k0 : Old w0 w) (h6 : f 6 = .pointer (some ⟨db, 0, none⟩)) (h8 : f 8 = .pointer (some ⟨sb, 0, none⟩)) (L : Look w db b A lv d l) (hs : w.cell? ⟨sb, 0, none⟩ = some lv) :
    (part11 30).wp Tryz.prog (afterR fun a' w' => Old w0 w' ∧ a'.defers = [] ∧ a'.eval (.tmp 4) = .bool true) { tmps := ((List.range 147).map f).toArray, defers := [] } w := by
  have hn := L.env.ok.n
  have H1 : Hid (closM b.els.length (parI b) (mean b l) ((-1 : Int).toNat + 1) (-1) = -1) := hide (closM_out (by omega))
  have H2 : Hid (isM b.els.length (mean b l) (b.els.length : Int) = false) := hide (by unfold isM; rw [decide_eq_false (by omega), Bool.false_and])
  simp only [part11, body11, Tryz.f11, Option.getD_some]
  simp only [List.range, List.range.loop, List.map, h6, h8]
  go_wp2_with fail
  refine (dclosest_is L hs _ (by omega) (-1) H1.out).mono ?_
  rintro e w1 ⟨rfl, o1⟩
  go_wp2_with fail
  refine (dlen_q _ (o1.tr L.env.tree)).mono ?_
  rintro e w2 ⟨rfl, rfl⟩
  go_wp2_with fail
  refine (dis_is (L.old o1) (o1.cells _ _ hs) _ (by omega) false H2.out).mono ?_
  rintro e w3 ⟨rfl, o3⟩
  have k1 := (k0.trans o1).trans o3
  go_wp2
  exact ⟨k1, rfl, rfl⟩
end
end Go.Proofs.YtclpcnignheijaaGreatDoor.Num
/-
  Nearest, BESIDE LEAVERS, IN A VIEW (stage 3).
-/
namespace Go.Proofs.YtclpcnignheijaaGreatDoor.Num
open Go.RowKit Go.Proofs.YtclpcnignheijaaGreatDoor Go.Conc

/-- It returned true, and what lay in the view is as it was. -/
def trueAt (t : Nat) (v0 : World) : Exit → Act → World → Prop
  | .ret => fun a v' => Old v0 v' ∧ a.defers = [] ∧ a.eval (.tmp t) = .bool true
  | _ => fun _ _ => False
section
variable {F : Fr0 Tryz.prog} {Ends : Machine → Trace → Prop} {v : World}
theorem Stay.re {w0 : World} {db sb : Nat} {x : Value} {a : Act} {w : World} (h : Stay w0 db sb x a w) (T : Nat → Question → Nat) (d : Nat) : Stay w0 db sb x a (w.re T d) := ⟨h.1.trans (Old.heap rfl), h.2⟩
/-- A part, walked by itself, that goes on. -/
theorem partN {c : Code} (hE : EndsCl Tryz.prog Ends) (hok : codeOk Tryz.prog alM glP false c = true) {Q : Exit → Act → World → Prop} {Qn : Act → World → Prop} (hQ : ∀ a w T d, Qn a w → Qn a (w.re T d)) {A : Act} (hs : A.tmps.size = 147) (hd : A.defers = []) {v1 : World}
    (hC : ∀ T, c.wp Tryz.prog (afterN Qn) { tmps := ((List.range 147).map fun i => A.eval (.tmp i)).toArray, defers := [] } (v1.re T 0)) (hn : ∀ a v, Qn a v → Q .normal a v) : wpV Tryz.prog alM glP F Ends c Q A v1 := by
  refine wpV_conc hs hd (wpV_frag setupM hE hok (Qn := Qn) (Qr := fun _ _ => False) hQ (fun _ _ _ _ h => h) (fun T => ?_) hn fun _ _ h => h.elim)
  have e : (fun | .normal => Qn | .ret => fun _ _ => False | _ => fun _ _ => False : Exit → Act → World → Prop) = afterN Qn := by
    funext e a w
    cases e <;> rfl
  exact e ▸ hC T
theorem partR {c : Code} (hE : EndsCl Tryz.prog Ends) (hok : codeOk Tryz.prog alM glP false c = true) {Q : Exit → Act → World → Prop} {Qr : Act → World → Prop} (hQ : ∀ a w T d, Qr a w → Qr a (w.re T d)) {A : Act} (hs : A.tmps.size = 147) (hd : A.defers = []) {v1 : World}
    (hC : ∀ T, c.wp Tryz.prog (afterR Qr) { tmps := ((List.range 147).map fun i => A.eval (.tmp i)).toArray, defers := [] } (v1.re T 0)) (hn : ∀ a v, Qr a v → Q .ret a v) : wpV Tryz.prog alM glP F Ends c Q A v1 := by
  refine wpV_conc hs hd (wpV_frag setupM hE hok (Qn := fun _ _ => False) (Qr := Qr) (fun _ _ _ _ h => h) hQ (fun T => ?_) (fun _ _ h => h.elim) hn)
  have e : (fun | .normal => fun _ _ => False | .ret => Qr | _ => fun _ _ => False : Exit → Act → World → Prop) = afterR Qr := by
    funext e a w
    cases e <;> rfl
  exact e ▸ hC T
set_option maxRecDepth 100000 in
set_option maxHeartbeats 1000000 in
theorem nearest_v (hE : EndsCl Tryz.prog Ends) (V : VG v) (doc sel : ByteArray) (hdoc : doc.size ≤ 140737488351232) {A0 : Act} (s0 : A0.tmps.size = 147) (d0 : A0.defers = []) (a0 : A0.eval (.tmp 0) = .string doc) (a1 : A0.eval (.tmp 1) = .string sel) :
    wpV Tryz.prog alM glP F Ends body11 (trueAt 4 v) A0 v := by
  have S := setupM
  obtain ⟨o0, o9, hb, ⟨g1, g2, g3⟩, g4, g5, g6⟩ := shape11
  rw [hb]
  refine wpV_seq S hE (wpV_region S hE ?_)
  refine opsV_mv S hE (some 4) (.const (.bool false)) rfl (.inr g1) g2 g3 ?_
  refine opsV_nil S hE ?_
  -- awake
  refine wpV_seq S hE (wpV_region S hE ?_)
  refine opsV_awake hE V rfl rfl rfl ?_
  intro v1 k1
  refine opsV_mv S hE (some 5) (.tmp 16) rfl (.inr rfl) rfl rfl ?_
  refine opsV_nil S hE ?_
  generalize hA : Act.put _ (some 5) _ = A1
  have s1 : A1.tmps.size = 147 := by rw [← hA]; simp [put_size, s0]
  have d1 : A1.defers = [] := by rw [← hA]; simp [put_defers, d0]
  have x0 : A1.eval (.tmp 0) = .string doc := by rw [← hA, show Oper.dst _ = some 16 from rfl]; simp [eval_put, put_size, s0, a0]
  have x1 : A1.eval (.tmp 1) = .string sel := by rw [← hA, show Oper.dst _ = some 16 from rfl]; simp [eval_put, put_size, s0, a1]
  have x5 : A1.eval (.tmp 5) = .bool true := by rw [← hA, show Oper.dst _ = some 16 from rfl]; simp [eval_put, put_size, s0]
  clear hA
  have V1 := V.old k1
  -- Parse
  refine wpV_seq S hE (wpV_region S hE ?_)
  refine opsV_mv S hE (some 18) (.tmp 0) rfl (.inl rfl) rfl rfl ?_
  refine opsV_parse hE V1 doc hdoc _ rfl rfl rfl 19 rfl (by simp [eval_put, s1, x0]) ?_
  intro y v2 k2 hy0
  obtain ⟨dv, ev, rfl, hy⟩ : ∃ dv ev, y = .tuple #[dv, ev] ∧ ((∃ db, dv = .pointer (some ⟨db, 0, none⟩) ∧ ev = .nilIface ∧ DocV v2 db doc) ∨ ∃ k, dv = .pointer none ∧ ev = .iface 107 (.pointer (some ⟨k, 0, none⟩))) := by
    rcases hy0 with ⟨-, db, rfl, D⟩ | ⟨-, k, rfl⟩
    · exact ⟨_, _, rfl, .inl ⟨db, rfl, rfl, D⟩⟩
    · exact ⟨_, _, rfl, .inr ⟨k, rfl, rfl⟩⟩
  refine opsV_mv S hE (some 17) (.tmp 19) rfl (.inl rfl) rfl rfl ?_
  refine opsV_ext S hE 20 (.tmp 17) 0 #[dv, ev] dv rfl rfl rfl rfl (by simp [eval_put, put_size, s1]) rfl ?_
  refine opsV_ext S hE 21 (.tmp 17) 1 #[dv, ev] ev rfl rfl rfl rfl (by simp [eval_put, put_size, s1]) rfl ?_
  refine opsV_mv S hE (some 6) (.tmp 20) rfl (.inr rfl) rfl rfl ?_
  refine opsV_mv S hE (some 7) (.tmp 21) rfl (.inr rfl) rfl rfl ?_
  refine opsV_nil S hE ?_
  generalize hA : Act.put _ (some 7) _ = A2
  have s2 : A2.tmps.size = 147 := by rw [← hA]; simp [put_size, s1]
  have d2 : A2.defers = [] := by rw [← hA]; simp [put_defers, d1]
  have y1 : A2.eval (.tmp 1) = .string sel := by rw [← hA]; simp [eval_put, put_size, s1, x1]
  have y5 : A2.eval (.tmp 5) = .bool true := by rw [← hA]; simp [eval_put, put_size, s1, x5]
  have y6 : A2.eval (.tmp 6) = dv := by rw [← hA]; simp [eval_put, put_size, s1]
  have y7 : A2.eval (.tmp 7) = ev := by rw [← hA]; simp [eval_put, put_size, s1]
  clear hA x0 x1 x5
  -- Compile
  refine wpV_seq S hE (wpV_region S hE ?_)
  refine opsV_mv S hE (some 23) (.tmp 1) rfl (.inl rfl) rfl rfl ?_
  refine opsV_compile hE sel _ rfl rfl rfl 24 rfl (by simp [eval_put, s2, y1]) ?_
  intro y v3 k3 hz0
  obtain ⟨sv, fv, rfl, hz⟩ : ∃ sv fv, y = .tuple #[sv, fv] ∧ ((∃ sb l, sv = .pointer (some ⟨sb, 0, none⟩) ∧ fv = .nilIface ∧ SelV v3 sb sel l) ∨ ∃ k, sv = .pointer none ∧ fv = .iface 107 (.pointer (some ⟨k, 0, none⟩))) := by
    rcases hz0 with ⟨l, sb, rfl, D⟩ | ⟨-, k, rfl⟩
    · exact ⟨_, _, rfl, .inl ⟨sb, l, rfl, rfl, D⟩⟩
    · exact ⟨_, _, rfl, .inr ⟨k, rfl, rfl⟩⟩
  refine opsV_mv S hE (some 22) (.tmp 24) rfl (.inl rfl) rfl rfl ?_
  refine opsV_ext S hE 25 (.tmp 22) 0 #[sv, fv] sv rfl rfl rfl rfl (by simp [eval_put, put_size, s2]) rfl ?_
  refine opsV_ext S hE 26 (.tmp 22) 1 #[sv, fv] fv rfl rfl rfl rfl (by simp [eval_put, put_size, s2]) rfl ?_
  refine opsV_mv S hE (some 8) (.tmp 25) rfl (.inr rfl) rfl rfl ?_
  refine opsV_mv S hE (some 9) (.tmp 26) rfl (.inr rfl) rfl rfl ?_
  refine opsV_nil S hE ?_
  generalize hA : Act.put _ (some 9) _ = A3
  have s3 : A3.tmps.size = 147 := by rw [← hA]; simp [put_size, s2]
  have d3 : A3.defers = [] := by rw [← hA]; simp [put_defers, d2]
  have z5 : A3.eval (.tmp 5) = .bool true := by rw [← hA]; simp [eval_put, put_size, s2, y5]
  have z6 : A3.eval (.tmp 6) = dv := by rw [← hA]; simp [eval_put, put_size, s2, y6]
  have z7 : A3.eval (.tmp 7) = ev := by rw [← hA]; simp [eval_put, put_size, s2, y7]
  have z8 : A3.eval (.tmp 8) = sv := by rw [← hA]; simp [eval_put, put_size, s2]
  have z9 : A3.eval (.tmp 9) = fv := by rw [← hA]; simp [eval_put, put_size, s2]
  clear hA y1 y5 y6 y7
  have k13 : Old v v3 := (k1.trans k2).trans k3
  -- the first test
  refine wpV_seq S hE (partN hE ok11_4 (Qn := fun a' w' => w'.heap = v3.heap ∧ a'.tmps.size = 147 ∧ a'.defers = [] ∧ a'.eval (.tmp 6) = dv ∧ a'.eval (.tmp 8) = sv) (fun _ _ _ _ h => h) s3 d3 (fun T => ?_) ?_)
  · have := walk4 (fun i => A3.eval (.tmp i)) (v3.re T 0) dv ev sv fv z5 z6 z7 z8 z9 (hy.imp (fun h => by obtain ⟨db, e1, e2, -⟩ := h; exact ⟨db, e1, e2⟩) id) (hz.imp (fun h => by obtain ⟨sb, l, e1, e2, -⟩ := h; exact ⟨sb, e1, e2⟩) id)
    refine Code.wp_mono ?_ this
    intro e a w h
    cases e <;> exact h
  rintro A4 v4 ⟨k4, s4, d4, t6, t8⟩
  have k14 : Old v v4 := k13.trans (Old.heap k4)
  have no : ∀ dv sv : Value, A4.eval (.tmp 6) = dv → A4.eval (.tmp 8) = sv → ((dv = .pointer none ∧ (sv = .pointer none ∨ ∃ sb, sv = .pointer (some ⟨sb, 0, none⟩))) ∨ (sv = .pointer none ∧ ∃ db, dv = .pointer (some ⟨db, 0, none⟩))) → ∀ Q : Exit → Act → World → Prop, (∀ a w, Old v w ∧ a.defers = [] ∧ a.eval (.tmp 4) = .bool true → Q .ret a w) → wpV Tryz.prog alM glP F Ends (part11 6) Q A4 v4 := by
    intro dv sv e6 e8 h Q hQ
    refine partR hE ok11_6 (Qr := fun a w => Old v w ∧ a.defers = [] ∧ a.eval (.tmp 4) = .bool true) (fun _ _ _ _ h => ⟨h.1.trans (Old.heap rfl), h.2⟩) s4 d4 (fun T => ?_) hQ
    refine Code.wp_mono ?_ (walk6_no (fun i => A4.eval (.tmp i)) (v4.re T 0) dv sv e6 e8 h)
    intro e a w h
    cases e with
    | ret => exact ⟨k14.trans (Old.heap h.1), h.2⟩
    | _ => exact h
  rcases hy with ⟨db, rfl, rfl, D⟩ | ⟨kk, rfl, rfl⟩
  rotate_left
  · refine wpV_seq S hE (no _ sv t6 t8 (.inl ⟨rfl, ?_⟩) _ fun a w h => h)
    rcases hz with ⟨sb, l, rfl, -⟩ | ⟨kk, rfl, -⟩
    · exact .inr ⟨sb, rfl⟩
    · exact .inl rfl
  rcases hz with ⟨sb, l, rfl, rfl, Sl⟩ | ⟨kk, rfl, rfl⟩
  rotate_left
  · exact wpV_seq S hE (no _ _ t6 t8 (.inr ⟨rfl, db, rfl⟩) _ fun a w h => h)
  -- both are there
  refine wpV_seq S hE (partN hE ok11_6 (Qn := fun a' w' => w'.heap = v4.heap ∧ a'.tmps.size = 147 ∧ a'.defers = [] ∧ a'.eval (.tmp 6) = .pointer (some ⟨db, 0, none⟩) ∧ a'.eval (.tmp 8) = .pointer (some ⟨sb, 0, none⟩)) (fun _ _ _ _ h => h) s4 d4 (fun T => ?_) ?_)
  · refine Code.wp_mono ?_ (walk6 (fun i => A4.eval (.tmp i)) (v4.re T 0) db sb t6 t8)
    intro e a w h
    cases e <;> exact h
  rintro A5 v5 ⟨k5, s5, d5, u6, u8⟩
  have k35 : Old v3 v5 := (Old.heap k4).trans (Old.heap k5)
  have k15 : Old v v5 := k13.trans k35
  obtain ⟨lv, AA, hlv, spec, look⟩ := view_all (V.old k15) (D.old (k3.trans k35)) (Sl.old k35)
  have hn := look.env.ok.n
  -- All
  refine wpV_seq S hE (wpV_region S hE ?_)
  refine opsV_mv S hE (some 49) (.tmp 6) rfl (.inl rfl) rfl rfl ?_
  refine opsV_mv S hE (some 50) (.tmp 8) rfl (.inl rfl) rfl rfl ?_
  refine opsV_docAll hE rfl spec (by omega) hlv rfl rfl 51 rfl rfl rfl rfl (by simp [eval_put, put_size, s5, u6]) (by simp [eval_put, put_size, s5, u8]) ?_
  intro z v6 hz
  refine opsV_mv S hE (some 10) (.tmp 51) rfl (.inr rfl) rfl rfl ?_
  refine opsV_nil S hE ?_
  have k56 : Old v5 v6 := ⟨hz.size, fun k hk => hz.old k hk⟩
  have hxs := IntsC.of hz.row
  -- first := -1
  refine wpV_seq S hE (wpV_region S hE ?_)
  refine opsV_mv S hE (some 11) (.const (.int .i64 (-1))) rfl (.inr g4) g5 g6 ?_
  refine opsV_nil S hE ?_
  generalize hA : Act.put _ (some 11) _ = A6
  have s6 : A6.tmps.size = 147 := by rw [← hA]; simp [put_size, s5]
  have d6 : A6.defers = [] := by rw [← hA]; simp [put_defers, d5]
  have p6 : A6.eval (.tmp 6) = .pointer (some ⟨db, 0, none⟩) := by rw [← hA]; simp [eval_put, put_size, s5, u6]
  have p8 : A6.eval (.tmp 8) = .pointer (some ⟨sb, 0, none⟩) := by rw [← hA]; simp [eval_put, put_size, s5, u8]
  have p10 : A6.eval (.tmp 10) = z := by rw [← hA]; simp [eval_put, put_size, s5]
  have p11 : A6.eval (.tmp 11) = .int .i64 (-1) := by rw [← hA]; simp [eval_put, put_size, s5, eval_const]
  clear hA
  have look6 := look.old k56
  have hlv6 := k56.cells _ _ hlv
  have hml := meantL_len (parseP doc).2.1.els.length (mean (parseP doc).2.1 l)
  refine wpV_seq S hE (partN hE ok11_10 (Qn := fun a' w' => Stay v6 db sb z a' w' ∧ a'.eval (.tmp 11) = .int .i64 ((meantL (parseP doc).2.1.els.length (mean (parseP doc).2.1 l)).headD (-1))) (fun _ _ T d h => ⟨h.1.re T d, h.2⟩) s6 d6 (fun T => w10 (Old.heap rfl) p6 p8 p10 p11 (hxs.old (Old.heap rfl)) (by omega)) ?_)
  rintro A7 v7 ⟨⟨k7, s7, d7, r6, r8, r10⟩, r11⟩
  refine wpV_seq S hE (partN hE ok11_12 (Qn := fun a' w' => Stay v6 db sb z a' w') (fun _ _ T d h => h.re T d) s7 d7 (fun T => ?_) ?_)
  · have kT : Old v6 (v7.re T 0) := k7.trans (Old.heap rfl)
    exact w12 kT r6 r8 r10 _ r11 (look6.old kT) (kT.cells _ _ hlv6) first_meant
  rintro A8 v8 ⟨k8, s8, d8, r6, r8, r10⟩
  refine wpV_seq S hE (partN hE ok11_14 (Qn := fun a' w' => Stay v6 db sb z a' w') (fun _ _ T d h => h.re T d) s8 d8 (fun T => ?_) ?_)
  · have kT : Old v6 (v8.re T 0) := k8.trans (Old.heap rfl)
    exact w14 kT r6 r8 r10 (look6.old kT) (hxs.old kT) (by omega) (fun i y h => meant_in h) fun i y z h1 h2 => meant_lt h1 h2
  rintro A9 v9 ⟨k9, s9, d9, r6, r8, r10⟩
  refine wpV_seq S hE (partN hE ok11_19 (Qn := fun a' w' => Stay v6 db sb z a' w') (fun _ _ T d h => h.re T d) s9 d9 (fun T => ?_) ?_)
  · have kT : Old v6 (v9.re T 0) := k9.trans (Old.heap rfl)
    exact w19 kT r6 r8 r10 (look6.old kT) (kT.cells _ _ hlv6) (hxs.old kT) (by omega) fun n h => in_meant h
  rintro A10 v10 ⟨k10, s10, d10, r6, r8, r10⟩
  refine partR hE ok11_30 (Qr := fun a w => Old v w ∧ a.defers = [] ∧ a.eval (.tmp 4) = .bool true) (fun _ _ _ _ h => ⟨h.1.trans (Old.heap rfl), h.2⟩) s10 d10 (fun T => ?_) fun a w h => h
  have kT : Old v6 (v10.re T 0) := k10.trans (Old.heap rfl)
  exact w30 ((k15.trans k56).trans kT) r6 r8 (look6.old kT) (kT.cells _ _ hlv6)
end
end Go.Proofs.YtclpcnignheijaaGreatDoor.Num
