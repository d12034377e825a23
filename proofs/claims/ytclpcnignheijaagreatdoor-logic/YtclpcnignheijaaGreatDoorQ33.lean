/-
  Parts of the proof: JU, JV, JW.
-/
import Derived.Test.YtclpcnignheijaaGreatDoorQ30
import Derived.Test.YtclpcnignheijaaGreatDoorQ32
import Derived.Test.YtclpcnignheijaaGreatDoorQ31
set_option maxHeartbeats 8000000
set_option maxRecDepth 100000
namespace Go.Proofs.YtclpcnignheijaaGreatDoor.Num
open Go.RowKit Go.Proofs.YtclpcnignheijaaGreatDoor Go.Conc
noncomputable def body8 : Code := Tryz.f8.body.getD .skip
noncomputable def part8 (k : Nat) : Code := fstC (sndN k body8)
noncomputable def ops8 (k : Nat) : Array Oper := opsC (part8 k)
theorem ok8_3 : codeOk Tryz.prog alM glP false (part8 3) = true := by kernel_rfl
theorem ok8_4 : codeOk Tryz.prog alM glP false (part8 4) = true := by kernel_rfl
theorem ok8_7 : codeOk Tryz.prog alM glP false (part8 7) = true := by kernel_rfl
theorem ok8_13 : codeOk Tryz.prog alM glP false (part8 13) = true := by kernel_rfl
theorem ok8_14 : codeOk Tryz.prog alM glP false (sndN 14 body8) = true := by kernel_rfl
theorem okB8 : codeOk Tryz.prog alM glP true body8 = true := by kernel_rfl
theorem shape8 : ∃ o0 : Oper, body8 = .seq (.region 0 #[o0] false) (.seq (.region 1 (ops8 1) false) (.seq (.region 2 (ops8 2) false) (.seq (part8 3) (.seq (part8 4) (.seq (.region 7 (ops8 5) false) (.seq (.region 8 (ops8 6) false) (.seq (part8 7) (.seq (.region 11 (ops8 8) false) (.seq (.region 12 (ops8 9) false) (.seq (.region 13 (ops8 10) false) (.seq (.region 14 (ops8 11) false) (.seq (.region 15 (ops8 12) false) (.seq (part8 13) (sndN 14 body8)))))))))))))) ∧ o0.op = .assign (.const (.bool false)) ∧ o0.guard = none ∧ o0.dst = some 6 := ⟨_, rfl, rfl, rfl, rfl⟩
section
variable {f : Nat → Value} {w0 w : World} {db : Nat} {b : BS}
theorem l3 (dv ev : Value) (h7 : f 7 = .bool true) (h8 : f 8 = dv) (h9 : f 9 = ev) (hd : (∃ db, dv = .pointer (some ⟨db, 0, none⟩) ∧ ev = .nilIface) ∨ ∃ k, dv = .pointer none ∧ ev = .iface 107 (.pointer (some ⟨k, 0, none⟩))) :
  (part8 3).wp Tryz.prog (afterN fun a' w' => w' = w ∧ Slots 172 [(1, f 1), (2, f 2), (8, dv)] a') { tmps := ((List.range 172).map f).toArray, defers := [] } w := by
 rcases hd with ⟨db, rfl, rfl⟩ | ⟨k, rfl, rfl⟩
 all_goals
  simp only [part8, body8, Tryz.f8, Option.getD_some, sndN, fstC]
  simp only [List.range, List.range.loop, List.map, h7, h8, h9]
  go_wp2
  exact ⟨rfl, rfl, rfl, by simp; exact ⟨rfl, rfl, rfl⟩⟩
theorem l4 (h8 : f 8 = .pointer (some ⟨db, 0, none⟩)) :
  (part8 4).wp Tryz.prog (afterN fun a' w' => w' = w ∧ Slots 172 [(1, f 1), (2, f 2), (8, .pointer (some ⟨db, 0, none⟩))] a') { tmps := ((List.range 172).map f).toArray, defers := [] } w := by
 simp only [part8, body8, Tryz.f8, Option.getD_some, sndN, fstC]
 simp only [List.range, List.range.loop, List.map, h8]
 go_wp2
 exact ⟨rfl, rfl, rfl, by simp; exact ⟨rfl, rfl, rfl⟩⟩
theorem l4_no (h8 : f 8 = .pointer none) :
  (part8 4).wp Tryz.prog (afterR fun a' w' => w' = w ∧ a'.defers = [] ∧ a'.eval (.tmp 6) = .bool true) { tmps := ((List.range 172).map f).toArray, defers := [] } w := by
 simp only [part8, body8, Tryz.f8, Option.getD_some, sndN, fstC]
 simp only [List.range, List.range.loop, List.map, h8]
 go_wp2
 exact ⟨rfl, rfl, rfl⟩
theorem l7 (h11 : f 11 = .bool true) (h13 : f 13 = .bool true) :
  (part8 7).wp Tryz.prog (afterN fun a' w' => w' = w ∧ Slots 172 [(1, f 1), (2, f 2), (8, f 8), (10, f 10), (12, f 12)] a') { tmps := ((List.range 172).map f).toArray, defers := [] } w := by
 simp only [part8, body8, Tryz.f8, Option.getD_some, sndN, fstC]
 simp only [List.range, List.range.loop, List.map, h11, h13]
 go_wp2
 exact ⟨rfl, rfl, rfl, by simp; exact ⟨rfl, rfl, rfl, rfl, rfl⟩⟩
theorem l7_no (x y : Bool) (h11 : f 11 = .bool x) (h13 : f 13 = .bool y) (h : x = false ∨ y = false) :
  (part8 7).wp Tryz.prog (afterR fun a' w' => w' = w ∧ a'.defers = [] ∧ a'.eval (.tmp 6) = .bool true) { tmps := ((List.range 172).map f).toArray, defers := [] } w := by
 have h' : (x = false ∧ y = false) ∨ (x = false ∧ y = true) ∨ (x = true ∧ y = false) := by revert h; cases x <;> cases y <;> simp
 clear h
 rcases h' with ⟨rfl, rfl⟩ | ⟨rfl, rfl⟩ | ⟨rfl, rfl⟩
 all_goals
  simp only [part8, body8, Tryz.f8, Option.getD_some, sndN, fstC]
  simp only [List.range, List.range.loop, List.map, h11, h13]
  go_wp2
  exact ⟨rfl, rfl, rfl⟩
theorem l14 : (sndN 14 body8).wp Tryz.prog (afterR fun a' w' => w' = w ∧ a'.defers = [] ∧ a'.eval (.tmp 6) = .bool true) { tmps := ((List.range 172).map f).toArray, defers := [] } w := by
 simp only [body8, Tryz.f8, Option.getD_some, sndN]
 simp only [List.range, List.range.loop, List.map]
 go_wp2
 exact ⟨rfl, rfl, rfl⟩
theorem l13 {za zb z1 z2 z3 z4 z5 : Value} {p1 p2 p3 p4 p5 : Bool} {LA LB : List Int} {ga gb : Nat → Bool} (h8 : f 8 = .pointer (some ⟨db, 0, none⟩)) (h10 : f 10 = za) (h12 : f 12 = zb) (h14 : f 14 = z1) (h15 : f 15 = .bool p1) (h16 : f 16 = z2) (h17 : f 17 = .bool p2) (h18 : f 18 = z3) (h19 : f 19 = .bool p3) (h20 : f 20 = z4) (h21 : f 21 = .bool p4) (h22 : f 22 = z5) (h23 : f 23 = .bool p5)
  (ht : TrC w db b) (hb : b.els.length ≤ 5000) (ia : IntsC w za LA) (la : LA.length ≤ 5000) (ga' : ∀ n, n < b.els.length → LA.any (· == (n : Int)) = ga n) (ib : IntsC w zb LB) (lb : LB.length ≤ 5000) (gb' : ∀ n, n < b.els.length → LB.any (· == (n : Int)) = gb n)
  (i1 : Came w b.els.length z1 p1 fun n => ga n || gb n) (i2 : Came w b.els.length z2 p2 fun n => !ga n) (i3 : Came w b.els.length z3 p3 ga) (i4 : Came w b.els.length z4 p4 fun n => ga n && gb n) (i5 : Came w b.els.length z5 p5 fun n => !ga n && !gb n) :
  (part8 13).wp Tryz.prog (afterN fun a' w' => w' = w ∧ Slots 172 [] a') { tmps := ((List.range 172).map f).toArray, defers := [] } w := by
 simp only [part8, body8, Tryz.f8, Option.getD_some, sndN, fstC]
 simp only [List.range, List.range.loop, List.map, h8, h10, h12, h14, h15, h16, h17, h18, h19, h20, h21, h22, h23]
 go_wp2_with fail
 go_loopg [24] b.els.length (fun g s24 wr => ∃ n : Nat, n ≤ b.els.length ∧ g = b.els.length - n ∧ s24 = .int .i64 (n : Int) ∧ wr = w)
 case atStart => exact ⟨0, Nat.zero_le _, rfl, rfl, rfl⟩
 case round =>
  obtain ⟨n, hn, rfl, rfl, rfl⟩ := hrel
  by_cases hlt : n < b.els.length
  ·have hlt' : (n : Int) < (b.els.length : Int) := by omega
   obtain ⟨xa, hxa⟩ : ∃ xa, ga n = xa := ⟨_, rfl⟩
   obtain ⟨xb, hxb⟩ : ∃ xb, gb n = xb := ⟨_, rfl⟩
   have HA : Hid (LA.any (· == (n : Int)) = xa) := hide ((ga' n hlt).trans hxa)
   have HB : Hid (LB.any (· == (n : Int)) = xb) := hide ((gb' n hlt).trans hxb)
   have H1 : Hid (p1 = true → ∃ L, IntsC wr z1 L ∧ L.length ≤ 5000 ∧ L.any (· == (n : Int)) = (xa || xb)) := hide fun e => by obtain ⟨L, q1, q2, q3⟩ := i1 e; exact ⟨L, q1, q2, (q3 n hlt).trans (by simp only [hxa, hxb])⟩
   have H2 : Hid (p2 = true → ∃ L, IntsC wr z2 L ∧ L.length ≤ 5000 ∧ L.any (· == (n : Int)) = !xa) := hide fun e => by obtain ⟨L, q1, q2, q3⟩ := i2 e; exact ⟨L, q1, q2, (q3 n hlt).trans (by simp only [hxa])⟩
   have H3 : Hid (p3 = true → ∃ L, IntsC wr z3 L ∧ L.length ≤ 5000 ∧ L.any (· == (n : Int)) = xa) := hide fun e => by obtain ⟨L, q1, q2, q3⟩ := i3 e; exact ⟨L, q1, q2, (q3 n hlt).trans (by simp only [hxa])⟩
   have H4 : Hid (p4 = true → ∃ L, IntsC wr z4 L ∧ L.length ≤ 5000 ∧ L.any (· == (n : Int)) = (xa && xb)) := hide fun e => by obtain ⟨L, q1, q2, q3⟩ := i4 e; exact ⟨L, q1, q2, (q3 n hlt).trans (by simp only [hxa, hxb])⟩
   have H5 : Hid (p5 = true → ∃ L, IntsC wr z5 L ∧ L.length ≤ 5000 ∧ L.any (· == (n : Int)) = (!xa && !xb)) := hide fun e => by obtain ⟨L, q1, q2, q3⟩ := i5 e; exact ⟨L, q1, q2, (q3 n hlt).trans (by simp only [hxa, hxb])⟩
   clear hxa hxb ga' gb' i1 i2 i3 i4 i5
   go_wp2_with fail
   refine (dlen_q _ ht).mono ?_
   rintro e w1 ⟨rfl, rfl⟩
   go_wp2_with fail
   refine (in_is _ _ LA ia la n xa HA.out).mono ?_
   rintro e w1 ⟨rfl, rfl⟩
   go_wp2_with fail
   refine (in_is _ _ LB ib lb n xb HB.out).mono ?_
   rintro e w1 ⟨rfl, rfl⟩
   go_upto_region 21 with fail
   go_cut [131] from 109 to 171 (fun sx wx => sx = .bool false ∧ wx = w1)
   case first =>
    cases p1
    ·go_wp2
     go_meet
     exact ⟨rfl, rfl⟩
    ·obtain ⟨L, q1, q2, q3⟩ := H1.out rfl
     cases xa <;> cases xb
     all_goals
      go_wp2_with fail
      refine (in_is _ _ L q1 q2 n _ q3).mono ?_
      rintro e w1 ⟨rfl, rfl⟩
      go_wp2
      go_meet
      exact ⟨rfl, rfl⟩
   case rest =>
    obtain ⟨rfl, rfl⟩ := hcut
    go_upto_region 23 with fail
    go_cut [139] from 109 to 171 (fun sx wx => sx = .bool false ∧ wx = wc)
    case first =>
     cases p2
     ·go_wp2
      go_meet
      exact ⟨rfl, rfl⟩
     ·obtain ⟨L, q1, q2, q3⟩ := H2.out rfl
      cases xa
      all_goals
       go_wp2_with fail
       refine (in_is _ _ L q1 q2 n _ q3).mono ?_
       rintro e w1 ⟨rfl, rfl⟩
       go_wp2
       go_meet
       exact ⟨rfl, rfl⟩
    case rest =>
     obtain ⟨rfl, rfl⟩ := hcut
     go_upto_region 25 with fail
     go_cut [147] from 109 to 171 (fun sx wx => sx = .bool false ∧ wx = wc)
     case first =>
      cases p3
      ·go_wp2
       go_meet
       exact ⟨rfl, rfl⟩
      ·obtain ⟨L, q1, q2, q3⟩ := H3.out rfl
       cases xa
       all_goals
        go_wp2_with fail
        refine (in_is _ _ L q1 q2 n _ q3).mono ?_
        rintro e w1 ⟨rfl, rfl⟩
        go_wp2
        go_meet
        exact ⟨rfl, rfl⟩
     case rest =>
      obtain ⟨rfl, rfl⟩ := hcut
      go_upto_region 27 with fail
      go_cut [158] from 109 to 171 (fun sx wx => sx = .bool false ∧ wx = wc)
      case first =>
       cases p4
       ·go_wp2
        go_meet
        exact ⟨rfl, rfl⟩
       ·obtain ⟨L, q1, q2, q3⟩ := H4.out rfl
        cases xa <;> cases xb
        all_goals
         go_wp2_with fail
         refine (in_is _ _ L q1 q2 n _ q3).mono ?_
         rintro e w1 ⟨rfl, rfl⟩
         go_wp2
         go_meet
         exact ⟨rfl, rfl⟩
      case rest =>
       obtain ⟨rfl, rfl⟩ := hcut
       go_upto_region 29 with fail
       go_cut [171] from 109 to 171 (fun sx wx => sx = .bool false ∧ wx = wc)
       case first =>
        cases p5
        ·go_wp2
         go_meet
         exact ⟨rfl, rfl⟩
        ·obtain ⟨L, q1, q2, q3⟩ := H5.out rfl
         cases xa <;> cases xb
         all_goals
          go_wp2_with fail
          refine (in_is _ _ L q1 q2 n _ q3).mono ?_
          rintro e w1 ⟨rfl, rfl⟩
          go_wp2
          go_meet
          exact ⟨rfl, rfl⟩
       case rest =>
        obtain ⟨rfl, rfl⟩ := hcut
        go_wp2
        go_roundg (b.els.length - (n + 1))
        case measure => omega
        case rel => exact ⟨n + 1, by omega, rfl, by simp, rfl⟩
  ·have hlt' : ¬ (n : Int) < (b.els.length : Int) := by omega
   go_wp2_with fail
   refine (dlen_q _ ht).mono ?_
   rintro e w1 ⟨rfl, rfl⟩
   go_wp2
   exact ⟨rfl, rfl, rfl, by simp⟩
end
theorem logic_v {F : Fr0 Tryz.prog} {Ends : Machine → Trace → Prop} {v : World} (hE : EndsCl Tryz.prog Ends) (V : VG v) (doc one two : ByteArray) (hdoc : doc.size ≤ 140737488351232) {A0 : Act} (s0 : A0.tmps.size = 172) (d0 : A0.defers = []) (a0 : A0.eval (.tmp 0) = .string doc) (a1 : A0.eval (.tmp 1) = .string one) (a2 : A0.eval (.tmp 2) = .string two) :
  wpV Tryz.prog alM glP F Ends body8 (trueAt 6 v) A0 v := by
 have S := setupM
 obtain ⟨o0, hb, g1, g2, g3⟩ := shape8
 rw [hb]
 refine wpV_seq S hE (wpV_region S hE ?_)
 refine opsV_mv S hE (some 6) (.const (.bool false)) rfl (.inr g1) g2 g3 ?_
 refine opsV_nil S hE ?_
 refine wpV_seq S hE (wpV_region S hE ?_)
 refine opsV_awake hE V rfl rfl rfl ?_
 intro v1 k1
 refine opsV_mv S hE (some 7) (.tmp 27) rfl (.inr rfl) rfl rfl ?_
 refine opsV_nil S hE ?_
 generalize hA : Act.put _ (some 7) _ = A1
 have s1 : A1.tmps.size = 172 := by rw [← hA]; simp [put_size, s0]
 have d1 : A1.defers = [] := by rw [← hA]; simp [put_defers, d0]
 have x0 : A1.eval (.tmp 0) = .string doc := by rw [← hA, show Oper.dst _ = some 27 from rfl]; simp [eval_put, put_size, s0, a0]
 have x1 : A1.eval (.tmp 1) = .string one := by rw [← hA, show Oper.dst _ = some 27 from rfl]; simp [eval_put, put_size, s0, a1]
 have x2 : A1.eval (.tmp 2) = .string two := by rw [← hA, show Oper.dst _ = some 27 from rfl]; simp [eval_put, put_size, s0, a2]
 have x7 : A1.eval (.tmp 7) = .bool true := by rw [← hA, show Oper.dst _ = some 27 from rfl]; simp [eval_put, put_size, s0]
 clear hA
 refine wpV_seq S hE (wpV_region S hE ?_)
 refine opsV_mv S hE (some 29) (.tmp 0) rfl (.inl rfl) rfl rfl ?_
 refine opsV_parse hE (V.old k1) doc hdoc _ rfl rfl rfl 30 rfl (by simp [eval_put, s1, x0]) ?_
 intro y v2 k2 hy0
 obtain ⟨dv, ev, rfl, hy⟩ : ∃ dv ev, y = .tuple #[dv, ev] ∧ ((∃ db, dv = .pointer (some ⟨db, 0, none⟩) ∧ ev = .nilIface ∧ DocV v2 db doc) ∨ ∃ k, dv = .pointer none ∧ ev = .iface 107 (.pointer (some ⟨k, 0, none⟩))) := by
  rcases hy0 with ⟨-, db, rfl, D⟩ | ⟨-, k, rfl⟩
  ·exact ⟨_, _, rfl, .inl ⟨db, rfl, rfl, D⟩⟩
  ·exact ⟨_, _, rfl, .inr ⟨k, rfl, rfl⟩⟩
 refine opsV_mv S hE (some 28) (.tmp 30) rfl (.inl rfl) rfl rfl ?_
 refine opsV_ext S hE 31 (.tmp 28) 0 #[dv, ev] dv rfl rfl rfl rfl (by simp [eval_put, put_size, s1]) rfl ?_
 refine opsV_ext S hE 32 (.tmp 28) 1 #[dv, ev] ev rfl rfl rfl rfl (by simp [eval_put, put_size, s1]) rfl ?_
 refine opsV_mv S hE (some 8) (.tmp 31) rfl (.inr rfl) rfl rfl ?_
 refine opsV_mv S hE (some 9) (.tmp 32) rfl (.inr rfl) rfl rfl ?_
 refine opsV_nil S hE ?_
 generalize hA : Act.put _ (some 9) _ = A2
 have s2 : A2.tmps.size = 172 := by rw [← hA]; simp [put_size, s1]
 have d2 : A2.defers = [] := by rw [← hA]; simp [put_defers, d1]
 have y1 : A2.eval (.tmp 1) = .string one := by rw [← hA]; simp [eval_put, put_size, s1, x1]
 have y2 : A2.eval (.tmp 2) = .string two := by rw [← hA]; simp [eval_put, put_size, s1, x2]
 have y7 : A2.eval (.tmp 7) = .bool true := by rw [← hA]; simp [eval_put, put_size, s1, x7]
 have y8 : A2.eval (.tmp 8) = dv := by rw [← hA]; simp [eval_put, put_size, s1]
 have y9 : A2.eval (.tmp 9) = ev := by rw [← hA]; simp [eval_put, put_size, s1]
 clear hA x0 x1 x2 x7
 have k02 : Old v v2 := k1.trans k2
 refine wpV_seq S hE (partN' hE ok8_3 (Qn := fun a' w' => Old v2 w' ∧ Slots 172 [(1, .string one), (2, .string two), (8, dv)] a') (fun _ _ _ _ h => ⟨h.1.trans (Old.heap rfl), h.2⟩) s2 d2 (fun T => ?_) ?_)
 ·refine afterN_mono ?_ (l3 (f := fun i => A2.eval (.tmp i)) (w := v2.re T 0) dv ev y7 y8 y9 (hy.imp (fun h => by obtain ⟨db, e1, e2, -⟩ := h; exact ⟨db, e1, e2⟩) id))
  rintro a w ⟨rfl, h⟩
  rw [y1, y2] at h
  exact ⟨Old.heap rfl, h⟩
 rintro A3 v3 ⟨k3, s3, d3, h3⟩
 have z1 : A3.eval (.tmp 1) = .string one := h3 (1, .string one) (by simp)
 have z2 : A3.eval (.tmp 2) = .string two := h3 (2, .string two) (by simp)
 have z8 : A3.eval (.tmp 8) = dv := h3 (8, dv) (by simp)
 clear h3
 have k03 := k02.trans k3
 rcases hy with ⟨db, rfl, rfl, Dv⟩ | ⟨kk, rfl, rfl⟩
 rotate_left
 ·refine wpV_seq S hE (partR' hE ok8_4 (Qr := fun a w => Old v w ∧ a.defers = [] ∧ a.eval (.tmp 6) = .bool true) (fun _ _ _ _ h => ⟨h.1.trans (Old.heap rfl), h.2⟩) s3 d3 (fun T => ?_) fun a w h => h)
  refine afterR_mono ?_ (l4_no (f := fun i => A3.eval (.tmp i)) (w := v3.re T 0) z8)
  rintro a w ⟨rfl, h⟩
  exact ⟨k03.trans (Old.heap rfl), h⟩
 refine wpV_seq S hE (partN' hE ok8_4 (Qn := fun a' w' => Old v3 w' ∧ Slots 172 [(1, .string one), (2, .string two), (8, .pointer (some ⟨db, 0, none⟩))] a') (fun _ _ _ _ h => ⟨h.1.trans (Old.heap rfl), h.2⟩) s3 d3 (fun T => ?_) ?_)
 ·refine afterN_mono ?_ (l4 (f := fun i => A3.eval (.tmp i)) (w := v3.re T 0) z8)
  rintro a w ⟨rfl, h⟩
  rw [z1, z2] at h
  exact ⟨Old.heap rfl, h⟩
 rintro A4 v4 ⟨k4, s4, d4, h4⟩
 have c1_4 : A4.eval (.tmp 1) = .string one := h4 (1, .string one) (by simp)
 have c2_4 : A4.eval (.tmp 2) = .string two := h4 (2, .string two) (by simp)
 have c8_4 : A4.eval (.tmp 8) = .pointer (some ⟨db, 0, none⟩) := h4 (8, .pointer (some ⟨db, 0, none⟩)) (by simp)
 clear h4 z1 z2 z8 y1 y2 y7 y8 y9
 have k04 : Old v v4 := k03.trans k4
 have D4 : DocV v4 db doc := Dv.old (k3.trans k4)
 refine wpV_seq S hE (wpV_region S hE ?_)
 refine opsV_mv S hE (some 45) (.tmp 8) rfl (.inl rfl) rfl rfl ?_
 refine opsV_mv S hE (some 46) (.tmp 1) rfl (.inl rfl) rfl rfl ?_
 refine opsV_means hE (V.old k04) D4 one rfl rfl 47 rfl rfl rfl rfl (by simp [eval_put, put_size, s4, c8_4]) (by simp [eval_put, put_size, s4, c1_4]) ?_
 intro za fa v5 k5 ma
 refine opsV_mv S hE (some 44) (.tmp 47) rfl (.inl rfl) rfl rfl ?_
 refine opsV_ext S hE 48 (.tmp 44) 0 #[za, .bool fa] za rfl rfl rfl rfl (by simp [eval_put, put_size, s4]) rfl ?_
 refine opsV_ext S hE 49 (.tmp 44) 1 #[za, .bool fa] (.bool fa) rfl rfl rfl rfl (by simp [eval_put, put_size, s4]) rfl ?_
 refine opsV_mv S hE (some 10) (.tmp 48) rfl (.inr rfl) rfl rfl ?_
 refine opsV_mv S hE (some 11) (.tmp 49) rfl (.inr rfl) rfl rfl ?_
 refine opsV_nil S hE ?_
 generalize hA : Act.put _ (some 11) _ = A5
 have s5 : A5.tmps.size = 172 := by rw [← hA]; simp [put_size, s4]
 have d5 : A5.defers = [] := by rw [← hA]; simp [put_defers, d4]
 have c1_5 : A5.eval (.tmp 1) = .string one := by rw [← hA]; simp [eval_put, put_size, s4, c1_4]
 have c2_5 : A5.eval (.tmp 2) = .string two := by rw [← hA]; simp [eval_put, put_size, s4, c2_4]
 have c8_5 : A5.eval (.tmp 8) = .pointer (some ⟨db, 0, none⟩) := by rw [← hA]; simp [eval_put, put_size, s4, c8_4]
 have c10_5 : A5.eval (.tmp 10) = za := by rw [← hA]; simp [eval_put, put_size, s4]
 have c11_5 : A5.eval (.tmp 11) = .bool fa := by rw [← hA]; simp [eval_put, put_size, s4]
 clear hA c1_4 c2_4 c8_4
 have k05 : Old v v5 := k04.trans k5
 have D5 : DocV v5 db doc := D4.old k5
 refine wpV_seq S hE (wpV_region S hE ?_)
 refine opsV_mv S hE (some 51) (.tmp 8) rfl (.inl rfl) rfl rfl ?_
 refine opsV_mv S hE (some 52) (.tmp 2) rfl (.inl rfl) rfl rfl ?_
 refine opsV_means hE (V.old k05) D5 two rfl rfl 53 rfl rfl rfl rfl (by simp [eval_put, put_size, s5, c8_5]) (by simp [eval_put, put_size, s5, c2_5]) ?_
 intro zb fb v6 k6 mb
 refine opsV_mv S hE (some 50) (.tmp 53) rfl (.inl rfl) rfl rfl ?_
 refine opsV_ext S hE 54 (.tmp 50) 0 #[zb, .bool fb] zb rfl rfl rfl rfl (by simp [eval_put, put_size, s5]) rfl ?_
 refine opsV_ext S hE 55 (.tmp 50) 1 #[zb, .bool fb] (.bool fb) rfl rfl rfl rfl (by simp [eval_put, put_size, s5]) rfl ?_
 refine opsV_mv S hE (some 12) (.tmp 54) rfl (.inr rfl) rfl rfl ?_
 refine opsV_mv S hE (some 13) (.tmp 55) rfl (.inr rfl) rfl rfl ?_
 refine opsV_nil S hE ?_
 generalize hA : Act.put _ (some 13) _ = A6
 have s6 : A6.tmps.size = 172 := by rw [← hA]; simp [put_size, s5]
 have d6 : A6.defers = [] := by rw [← hA]; simp [put_defers, d5]
 have c1_6 : A6.eval (.tmp 1) = .string one := by rw [← hA]; simp [eval_put, put_size, s5, c1_5]
 have c2_6 : A6.eval (.tmp 2) = .string two := by rw [← hA]; simp [eval_put, put_size, s5, c2_5]
 have c8_6 : A6.eval (.tmp 8) = .pointer (some ⟨db, 0, none⟩) := by rw [← hA]; simp [eval_put, put_size, s5, c8_5]
 have c10_6 : A6.eval (.tmp 10) = za := by rw [← hA]; simp [eval_put, put_size, s5, c10_5]
 have c11_6 : A6.eval (.tmp 11) = .bool fa := by rw [← hA]; simp [eval_put, put_size, s5, c11_5]
 have c12_6 : A6.eval (.tmp 12) = zb := by rw [← hA]; simp [eval_put, put_size, s5]
 have c13_6 : A6.eval (.tmp 13) = .bool fb := by rw [← hA]; simp [eval_put, put_size, s5]
 clear hA c1_5 c2_5 c8_5 c10_5 c11_5
 have k06 : Old v v6 := k05.trans k6
 have D6 : DocV v6 db doc := D5.old k6
 by_cases hff : fa = false ∨ fb = false
 ·refine wpV_seq S hE (partR' hE ok8_7 (Qr := fun a w => Old v w ∧ a.defers = [] ∧ a.eval (.tmp 6) = .bool true) (fun _ _ _ _ h => ⟨h.1.trans (Old.heap rfl), h.2⟩) s6 d6 (fun T => ?_) fun a w h => h)
  refine afterR_mono ?_ (l7_no (f := fun i => A6.eval (.tmp i)) (w := v6.re T 0) fa fb c11_6 c13_6 hff)
  rintro a w ⟨rfl, h⟩
  exact ⟨k06.trans (Old.heap rfl), h⟩
 obtain ⟨rfl, rfl⟩ : fa = true ∧ fb = true := by revert hff; cases fa <;> cases fb <;> simp
 clear hff
 obtain ⟨-, la, ea, ia⟩ | ⟨h, -⟩ := ma
 rotate_left
 ·cases h
 obtain ⟨-, lb, eb, ib⟩ | ⟨h, -⟩ := mb
 rotate_left
 ·cases h
 have hone : one.data.size ≤ 200 := (comp_wf ea).2
 have htwo : two.data.size ≤ 200 := (comp_wf eb).2
 refine wpV_seq S hE (partN' hE ok8_7 (Qn := fun a' w' => Old v6 w' ∧ Slots 172 [(1, .string one), (2, .string two), (8, .pointer (some ⟨db, 0, none⟩)), (10, za), (12, zb)] a') (fun _ _ _ _ h => ⟨h.1.trans (Old.heap rfl), h.2⟩) s6 d6 (fun T => ?_) ?_)
 ·refine afterN_mono ?_ (l7 (f := fun i => A6.eval (.tmp i)) (w := v6.re T 0) c11_6 c13_6)
  rintro a w ⟨rfl, h⟩
  rw [c1_6, c2_6, c8_6, c10_6, c12_6] at h
  exact ⟨Old.heap rfl, h⟩
 rintro A7 v7 ⟨k7, s7, d7, h7⟩
 have c1_7 : A7.eval (.tmp 1) = .string one := h7 (1, .string one) (by simp)
 have c2_7 : A7.eval (.tmp 2) = .string two := h7 (2, .string two) (by simp)
 have c8_7 : A7.eval (.tmp 8) = .pointer (some ⟨db, 0, none⟩) := h7 (8, .pointer (some ⟨db, 0, none⟩)) (by simp)
 have c10_7 : A7.eval (.tmp 10) = za := h7 (10, za) (by simp)
 have c12_7 : A7.eval (.tmp 12) = zb := h7 (12, zb) (by simp)
 clear h7 c1_6 c2_6 c8_6 c10_6 c11_6 c12_6 c13_6
 have k07 : Old v v7 := k06.trans k7
 have D7 : DocV v7 db doc := D6.old k7
 refine wpV_seq S hE (wpV_region S hE ?_)
 refine opsV_mv S hE (some 63) (.tmp 8) rfl (.inl rfl) rfl rfl ?_
 refine opsV_mv S hE (some 64) (.tmp 1) rfl (.inl rfl) rfl rfl ?_
 refine opsV_cat S hE 65 (.tmp 64) (.const (.string ⟨#[44]⟩)) one ⟨#[44]⟩ rfl rfl rfl rfl (by simp [eval_put, put_size, s7, c1_7]) rfl (Nat.le_trans (Nat.add_le_add hone (Nat.le_refl (ByteArray.size ⟨#[44]⟩))) (by decide)) ?_
 refine opsV_mv S hE (some 66) (.tmp 2) rfl (.inl rfl) rfl rfl ?_
 refine opsV_cat S hE 67 (.tmp 65) (.tmp 66) (one ++ ⟨#[44]⟩) two rfl rfl rfl rfl (by simp [eval_put, put_size, s7]) (by simp [eval_put, put_size, s7, c2_7]) (Nat.le_trans (Nat.add_le_add (cat_sz hone (Nat.le_refl (ByteArray.size ⟨#[44]⟩))) htwo) (by decide)) ?_
 refine opsV_means hE (V.old k07) D7 (one ++ ⟨#[44]⟩ ++ two) rfl rfl 68 rfl rfl rfl rfl (by simp [eval_put, put_size, s7, c8_7]) (by simp [eval_put, put_size, s7]) ?_
 intro z1 p1 v8 k8 m1
 refine opsV_mv S hE (some 62) (.tmp 68) rfl (.inl rfl) rfl rfl ?_
 refine opsV_ext S hE 69 (.tmp 62) 0 #[z1, .bool p1] z1 rfl rfl rfl rfl (by simp [eval_put, put_size, s7]) rfl ?_
 refine opsV_ext S hE 70 (.tmp 62) 1 #[z1, .bool p1] (.bool p1) rfl rfl rfl rfl (by simp [eval_put, put_size, s7]) rfl ?_
 refine opsV_mv S hE (some 14) (.tmp 69) rfl (.inr rfl) rfl rfl ?_
 refine opsV_mv S hE (some 15) (.tmp 70) rfl (.inr rfl) rfl rfl ?_
 refine opsV_nil S hE ?_
 generalize hA : Act.put _ (some 15) _ = A8
 have s8 : A8.tmps.size = 172 := by rw [← hA]; simp [put_size, s7]
 have d8 : A8.defers = [] := by rw [← hA]; simp [put_defers, d7]
 have c1_8 : A8.eval (.tmp 1) = .string one := by rw [← hA]; simp [eval_put, put_size, s7, c1_7]
 have c2_8 : A8.eval (.tmp 2) = .string two := by rw [← hA]; simp [eval_put, put_size, s7, c2_7]
 have c8_8 : A8.eval (.tmp 8) = .pointer (some ⟨db, 0, none⟩) := by rw [← hA]; simp [eval_put, put_size, s7, c8_7]
 have c10_8 : A8.eval (.tmp 10) = za := by rw [← hA]; simp [eval_put, put_size, s7, c10_7]
 have c12_8 : A8.eval (.tmp 12) = zb := by rw [← hA]; simp [eval_put, put_size, s7, c12_7]
 have c14_8 : A8.eval (.tmp 14) = z1 := by rw [← hA]; simp [eval_put, put_size, s7]
 have c15_8 : A8.eval (.tmp 15) = .bool p1 := by rw [← hA]; simp [eval_put, put_size, s7]
 clear hA c1_7 c2_7 c8_7 c10_7 c12_7
 have k08 : Old v v8 := k07.trans k8
 have D8 : DocV v8 db doc := D7.old k8
 refine wpV_seq S hE (wpV_region S hE ?_)
 refine opsV_mv S hE (some 72) (.tmp 8) rfl (.inl rfl) rfl rfl ?_
 refine opsV_mv S hE (some 73) (.tmp 1) rfl (.inl rfl) rfl rfl ?_
 refine opsV_cat S hE 74 (.const (.string ⟨#[58, 110, 111, 116, 40]⟩)) (.tmp 73) ⟨#[58, 110, 111, 116, 40]⟩ one rfl rfl rfl rfl rfl (by simp [eval_put, put_size, s8, c1_8]) (Nat.le_trans (Nat.add_le_add (Nat.le_refl (ByteArray.size ⟨#[58, 110, 111, 116, 40]⟩)) hone) (by decide)) ?_
 refine opsV_cat S hE 75 (.tmp 74) (.const (.string ⟨#[41]⟩)) (⟨#[58, 110, 111, 116, 40]⟩ ++ one) ⟨#[41]⟩ rfl rfl rfl rfl (by simp [eval_put, put_size, s8]) rfl (Nat.le_trans (Nat.add_le_add (cat_sz (Nat.le_refl (ByteArray.size ⟨#[58, 110, 111, 116, 40]⟩)) hone) (Nat.le_refl (ByteArray.size ⟨#[41]⟩))) (by decide)) ?_
 refine opsV_means hE (V.old k08) D8 (⟨#[58, 110, 111, 116, 40]⟩ ++ one ++ ⟨#[41]⟩) rfl rfl 76 rfl rfl rfl rfl (by simp [eval_put, put_size, s8, c8_8]) (by simp [eval_put, put_size, s8]) ?_
 intro z2 p2 v9 k9 m2
 refine opsV_mv S hE (some 71) (.tmp 76) rfl (.inl rfl) rfl rfl ?_
 refine opsV_ext S hE 77 (.tmp 71) 0 #[z2, .bool p2] z2 rfl rfl rfl rfl (by simp [eval_put, put_size, s8]) rfl ?_
 refine opsV_ext S hE 78 (.tmp 71) 1 #[z2, .bool p2] (.bool p2) rfl rfl rfl rfl (by simp [eval_put, put_size, s8]) rfl ?_
 refine opsV_mv S hE (some 16) (.tmp 77) rfl (.inr rfl) rfl rfl ?_
 refine opsV_mv S hE (some 17) (.tmp 78) rfl (.inr rfl) rfl rfl ?_
 refine opsV_nil S hE ?_
 generalize hA : Act.put _ (some 17) _ = A9
 have s9 : A9.tmps.size = 172 := by rw [← hA]; simp [put_size, s8]
 have d9 : A9.defers = [] := by rw [← hA]; simp [put_defers, d8]
 have c1_9 : A9.eval (.tmp 1) = .string one := by rw [← hA]; simp [eval_put, put_size, s8, c1_8]
 have c2_9 : A9.eval (.tmp 2) = .string two := by rw [← hA]; simp [eval_put, put_size, s8, c2_8]
 have c8_9 : A9.eval (.tmp 8) = .pointer (some ⟨db, 0, none⟩) := by rw [← hA]; simp [eval_put, put_size, s8, c8_8]
 have c10_9 : A9.eval (.tmp 10) = za := by rw [← hA]; simp [eval_put, put_size, s8, c10_8]
 have c12_9 : A9.eval (.tmp 12) = zb := by rw [← hA]; simp [eval_put, put_size, s8, c12_8]
 have c14_9 : A9.eval (.tmp 14) = z1 := by rw [← hA]; simp [eval_put, put_size, s8, c14_8]
 have c15_9 : A9.eval (.tmp 15) = .bool p1 := by rw [← hA]; simp [eval_put, put_size, s8, c15_8]
 have c16_9 : A9.eval (.tmp 16) = z2 := by rw [← hA]; simp [eval_put, put_size, s8]
 have c17_9 : A9.eval (.tmp 17) = .bool p2 := by rw [← hA]; simp [eval_put, put_size, s8]
 clear hA c1_8 c2_8 c8_8 c10_8 c12_8 c14_8 c15_8
 have k09 : Old v v9 := k08.trans k9
 have D9 : DocV v9 db doc := D8.old k9
 refine wpV_seq S hE (wpV_region S hE ?_)
 refine opsV_mv S hE (some 80) (.tmp 8) rfl (.inl rfl) rfl rfl ?_
 refine opsV_mv S hE (some 81) (.tmp 1) rfl (.inl rfl) rfl rfl ?_
 refine opsV_cat S hE 82 (.const (.string ⟨#[58, 105, 115, 40]⟩)) (.tmp 81) ⟨#[58, 105, 115, 40]⟩ one rfl rfl rfl rfl rfl (by simp [eval_put, put_size, s9, c1_9]) (Nat.le_trans (Nat.add_le_add (Nat.le_refl (ByteArray.size ⟨#[58, 105, 115, 40]⟩)) hone) (by decide)) ?_
 refine opsV_cat S hE 83 (.tmp 82) (.const (.string ⟨#[41]⟩)) (⟨#[58, 105, 115, 40]⟩ ++ one) ⟨#[41]⟩ rfl rfl rfl rfl (by simp [eval_put, put_size, s9]) rfl (Nat.le_trans (Nat.add_le_add (cat_sz (Nat.le_refl (ByteArray.size ⟨#[58, 105, 115, 40]⟩)) hone) (Nat.le_refl (ByteArray.size ⟨#[41]⟩))) (by decide)) ?_
 refine opsV_means hE (V.old k09) D9 (⟨#[58, 105, 115, 40]⟩ ++ one ++ ⟨#[41]⟩) rfl rfl 84 rfl rfl rfl rfl (by simp [eval_put, put_size, s9, c8_9]) (by simp [eval_put, put_size, s9]) ?_
 intro z3 p3 v10 k10 m3
 refine opsV_mv S hE (some 79) (.tmp 84) rfl (.inl rfl) rfl rfl ?_
 refine opsV_ext S hE 85 (.tmp 79) 0 #[z3, .bool p3] z3 rfl rfl rfl rfl (by simp [eval_put, put_size, s9]) rfl ?_
 refine opsV_ext S hE 86 (.tmp 79) 1 #[z3, .bool p3] (.bool p3) rfl rfl rfl rfl (by simp [eval_put, put_size, s9]) rfl ?_
 refine opsV_mv S hE (some 18) (.tmp 85) rfl (.inr rfl) rfl rfl ?_
 refine opsV_mv S hE (some 19) (.tmp 86) rfl (.inr rfl) rfl rfl ?_
 refine opsV_nil S hE ?_
 generalize hA : Act.put _ (some 19) _ = A10
 have s10 : A10.tmps.size = 172 := by rw [← hA]; simp [put_size, s9]
 have d10 : A10.defers = [] := by rw [← hA]; simp [put_defers, d9]
 have c1_10 : A10.eval (.tmp 1) = .string one := by rw [← hA]; simp [eval_put, put_size, s9, c1_9]
 have c2_10 : A10.eval (.tmp 2) = .string two := by rw [← hA]; simp [eval_put, put_size, s9, c2_9]
 have c8_10 : A10.eval (.tmp 8) = .pointer (some ⟨db, 0, none⟩) := by rw [← hA]; simp [eval_put, put_size, s9, c8_9]
 have c10_10 : A10.eval (.tmp 10) = za := by rw [← hA]; simp [eval_put, put_size, s9, c10_9]
 have c12_10 : A10.eval (.tmp 12) = zb := by rw [← hA]; simp [eval_put, put_size, s9, c12_9]
 have c14_10 : A10.eval (.tmp 14) = z1 := by rw [← hA]; simp [eval_put, put_size, s9, c14_9]
 have c15_10 : A10.eval (.tmp 15) = .bool p1 := by rw [← hA]; simp [eval_put, put_size, s9, c15_9]
 have c16_10 : A10.eval (.tmp 16) = z2 := by rw [← hA]; simp [eval_put, put_size, s9, c16_9]
 have c17_10 : A10.eval (.tmp 17) = .bool p2 := by rw [← hA]; simp [eval_put, put_size, s9, c17_9]
 have c18_10 : A10.eval (.tmp 18) = z3 := by rw [← hA]; simp [eval_put, put_size, s9]
 have c19_10 : A10.eval (.tmp 19) = .bool p3 := by rw [← hA]; simp [eval_put, put_size, s9]
 clear hA c1_9 c2_9 c8_9 c10_9 c12_9 c14_9 c15_9 c16_9 c17_9
 have k010 : Old v v10 := k09.trans k10
 have D10 : DocV v10 db doc := D9.old k10
 refine wpV_seq S hE (wpV_region S hE ?_)
 refine opsV_mv S hE (some 88) (.tmp 8) rfl (.inl rfl) rfl rfl ?_
 refine opsV_mv S hE (some 89) (.tmp 1) rfl (.inl rfl) rfl rfl ?_
 refine opsV_cat S hE 90 (.const (.string ⟨#[58, 105, 115, 40]⟩)) (.tmp 89) ⟨#[58, 105, 115, 40]⟩ one rfl rfl rfl rfl rfl (by simp [eval_put, put_size, s10, c1_10]) (Nat.le_trans (Nat.add_le_add (Nat.le_refl (ByteArray.size ⟨#[58, 105, 115, 40]⟩)) hone) (by decide)) ?_
 refine opsV_cat S hE 91 (.tmp 90) (.const (.string ⟨#[41, 58, 105, 115, 40]⟩)) (⟨#[58, 105, 115, 40]⟩ ++ one) ⟨#[41, 58, 105, 115, 40]⟩ rfl rfl rfl rfl (by simp [eval_put, put_size, s10]) rfl (Nat.le_trans (Nat.add_le_add (cat_sz (Nat.le_refl (ByteArray.size ⟨#[58, 105, 115, 40]⟩)) hone) (Nat.le_refl (ByteArray.size ⟨#[41, 58, 105, 115, 40]⟩))) (by decide)) ?_
 refine opsV_mv S hE (some 92) (.tmp 2) rfl (.inl rfl) rfl rfl ?_
 refine opsV_cat S hE 93 (.tmp 91) (.tmp 92) (⟨#[58, 105, 115, 40]⟩ ++ one ++ ⟨#[41, 58, 105, 115, 40]⟩) two rfl rfl rfl rfl (by simp [eval_put, put_size, s10]) (by simp [eval_put, put_size, s10, c2_10]) (Nat.le_trans (Nat.add_le_add (cat_sz (cat_sz (Nat.le_refl (ByteArray.size ⟨#[58, 105, 115, 40]⟩)) hone) (Nat.le_refl (ByteArray.size ⟨#[41, 58, 105, 115, 40]⟩))) htwo) (by decide)) ?_
 refine opsV_cat S hE 94 (.tmp 93) (.const (.string ⟨#[41]⟩)) (⟨#[58, 105, 115, 40]⟩ ++ one ++ ⟨#[41, 58, 105, 115, 40]⟩ ++ two) ⟨#[41]⟩ rfl rfl rfl rfl (by simp [eval_put, put_size, s10]) rfl (Nat.le_trans (Nat.add_le_add (cat_sz (cat_sz (cat_sz (Nat.le_refl (ByteArray.size ⟨#[58, 105, 115, 40]⟩)) hone) (Nat.le_refl (ByteArray.size ⟨#[41, 58, 105, 115, 40]⟩))) htwo) (Nat.le_refl (ByteArray.size ⟨#[41]⟩))) (by decide)) ?_
 refine opsV_means hE (V.old k010) D10 (⟨#[58, 105, 115, 40]⟩ ++ one ++ ⟨#[41, 58, 105, 115, 40]⟩ ++ two ++ ⟨#[41]⟩) rfl rfl 95 rfl rfl rfl rfl (by simp [eval_put, put_size, s10, c8_10]) (by simp [eval_put, put_size, s10]) ?_
 intro z4 p4 v11 k11 m4
 refine opsV_mv S hE (some 87) (.tmp 95) rfl (.inl rfl) rfl rfl ?_
 refine opsV_ext S hE 96 (.tmp 87) 0 #[z4, .bool p4] z4 rfl rfl rfl rfl (by simp [eval_put, put_size, s10]) rfl ?_
 refine opsV_ext S hE 97 (.tmp 87) 1 #[z4, .bool p4] (.bool p4) rfl rfl rfl rfl (by simp [eval_put, put_size, s10]) rfl ?_
 refine opsV_mv S hE (some 20) (.tmp 96) rfl (.inr rfl) rfl rfl ?_
 refine opsV_mv S hE (some 21) (.tmp 97) rfl (.inr rfl) rfl rfl ?_
 refine opsV_nil S hE ?_
 generalize hA : Act.put _ (some 21) _ = A11
 have s11 : A11.tmps.size = 172 := by rw [← hA]; simp [put_size, s10]
 have d11 : A11.defers = [] := by rw [← hA]; simp [put_defers, d10]
 have c1_11 : A11.eval (.tmp 1) = .string one := by rw [← hA]; simp [eval_put, put_size, s10, c1_10]
 have c2_11 : A11.eval (.tmp 2) = .string two := by rw [← hA]; simp [eval_put, put_size, s10, c2_10]
 have c8_11 : A11.eval (.tmp 8) = .pointer (some ⟨db, 0, none⟩) := by rw [← hA]; simp [eval_put, put_size, s10, c8_10]
 have c10_11 : A11.eval (.tmp 10) = za := by rw [← hA]; simp [eval_put, put_size, s10, c10_10]
 have c12_11 : A11.eval (.tmp 12) = zb := by rw [← hA]; simp [eval_put, put_size, s10, c12_10]
 have c14_11 : A11.eval (.tmp 14) = z1 := by rw [← hA]; simp [eval_put, put_size, s10, c14_10]
 have c15_11 : A11.eval (.tmp 15) = .bool p1 := by rw [← hA]; simp [eval_put, put_size, s10, c15_10]
 have c16_11 : A11.eval (.tmp 16) = z2 := by rw [← hA]; simp [eval_put, put_size, s10, c16_10]
 have c17_11 : A11.eval (.tmp 17) = .bool p2 := by rw [← hA]; simp [eval_put, put_size, s10, c17_10]
 have c18_11 : A11.eval (.tmp 18) = z3 := by rw [← hA]; simp [eval_put, put_size, s10, c18_10]
 have c19_11 : A11.eval (.tmp 19) = .bool p3 := by rw [← hA]; simp [eval_put, put_size, s10, c19_10]
 have c20_11 : A11.eval (.tmp 20) = z4 := by rw [← hA]; simp [eval_put, put_size, s10]
 have c21_11 : A11.eval (.tmp 21) = .bool p4 := by rw [← hA]; simp [eval_put, put_size, s10]
 clear hA c1_10 c2_10 c8_10 c10_10 c12_10 c14_10 c15_10 c16_10 c17_10 c18_10 c19_10
 have k011 : Old v v11 := k010.trans k11
 have D11 : DocV v11 db doc := D10.old k11
 refine wpV_seq S hE (wpV_region S hE ?_)
 refine opsV_mv S hE (some 99) (.tmp 8) rfl (.inl rfl) rfl rfl ?_
 refine opsV_mv S hE (some 100) (.tmp 1) rfl (.inl rfl) rfl rfl ?_
 refine opsV_cat S hE 101 (.const (.string ⟨#[58, 110, 111, 116, 40]⟩)) (.tmp 100) ⟨#[58, 110, 111, 116, 40]⟩ one rfl rfl rfl rfl rfl (by simp [eval_put, put_size, s11, c1_11]) (Nat.le_trans (Nat.add_le_add (Nat.le_refl (ByteArray.size ⟨#[58, 110, 111, 116, 40]⟩)) hone) (by decide)) ?_
 refine opsV_cat S hE 102 (.tmp 101) (.const (.string ⟨#[44]⟩)) (⟨#[58, 110, 111, 116, 40]⟩ ++ one) ⟨#[44]⟩ rfl rfl rfl rfl (by simp [eval_put, put_size, s11]) rfl (Nat.le_trans (Nat.add_le_add (cat_sz (Nat.le_refl (ByteArray.size ⟨#[58, 110, 111, 116, 40]⟩)) hone) (Nat.le_refl (ByteArray.size ⟨#[44]⟩))) (by decide)) ?_
 refine opsV_mv S hE (some 103) (.tmp 2) rfl (.inl rfl) rfl rfl ?_
 refine opsV_cat S hE 104 (.tmp 102) (.tmp 103) (⟨#[58, 110, 111, 116, 40]⟩ ++ one ++ ⟨#[44]⟩) two rfl rfl rfl rfl (by simp [eval_put, put_size, s11]) (by simp [eval_put, put_size, s11, c2_11]) (Nat.le_trans (Nat.add_le_add (cat_sz (cat_sz (Nat.le_refl (ByteArray.size ⟨#[58, 110, 111, 116, 40]⟩)) hone) (Nat.le_refl (ByteArray.size ⟨#[44]⟩))) htwo) (by decide)) ?_
 refine opsV_cat S hE 105 (.tmp 104) (.const (.string ⟨#[41]⟩)) (⟨#[58, 110, 111, 116, 40]⟩ ++ one ++ ⟨#[44]⟩ ++ two) ⟨#[41]⟩ rfl rfl rfl rfl (by simp [eval_put, put_size, s11]) rfl (Nat.le_trans (Nat.add_le_add (cat_sz (cat_sz (cat_sz (Nat.le_refl (ByteArray.size ⟨#[58, 110, 111, 116, 40]⟩)) hone) (Nat.le_refl (ByteArray.size ⟨#[44]⟩))) htwo) (Nat.le_refl (ByteArray.size ⟨#[41]⟩))) (by decide)) ?_
 refine opsV_means hE (V.old k011) D11 (⟨#[58, 110, 111, 116, 40]⟩ ++ one ++ ⟨#[44]⟩ ++ two ++ ⟨#[41]⟩) rfl rfl 106 rfl rfl rfl rfl (by simp [eval_put, put_size, s11, c8_11]) (by simp [eval_put, put_size, s11]) ?_
 intro z5 p5 v12 k12 m5
 refine opsV_mv S hE (some 98) (.tmp 106) rfl (.inl rfl) rfl rfl ?_
 refine opsV_ext S hE 107 (.tmp 98) 0 #[z5, .bool p5] z5 rfl rfl rfl rfl (by simp [eval_put, put_size, s11]) rfl ?_
 refine opsV_ext S hE 108 (.tmp 98) 1 #[z5, .bool p5] (.bool p5) rfl rfl rfl rfl (by simp [eval_put, put_size, s11]) rfl ?_
 refine opsV_mv S hE (some 22) (.tmp 107) rfl (.inr rfl) rfl rfl ?_
 refine opsV_mv S hE (some 23) (.tmp 108) rfl (.inr rfl) rfl rfl ?_
 refine opsV_nil S hE ?_
 generalize hA : Act.put _ (some 23) _ = A12
 have s12 : A12.tmps.size = 172 := by rw [← hA]; simp [put_size, s11]
 have d12 : A12.defers = [] := by rw [← hA]; simp [put_defers, d11]
 have c1_12 : A12.eval (.tmp 1) = .string one := by rw [← hA]; simp [eval_put, put_size, s11, c1_11]
 have c2_12 : A12.eval (.tmp 2) = .string two := by rw [← hA]; simp [eval_put, put_size, s11, c2_11]
 have c8_12 : A12.eval (.tmp 8) = .pointer (some ⟨db, 0, none⟩) := by rw [← hA]; simp [eval_put, put_size, s11, c8_11]
 have c10_12 : A12.eval (.tmp 10) = za := by rw [← hA]; simp [eval_put, put_size, s11, c10_11]
 have c12_12 : A12.eval (.tmp 12) = zb := by rw [← hA]; simp [eval_put, put_size, s11, c12_11]
 have c14_12 : A12.eval (.tmp 14) = z1 := by rw [← hA]; simp [eval_put, put_size, s11, c14_11]
 have c15_12 : A12.eval (.tmp 15) = .bool p1 := by rw [← hA]; simp [eval_put, put_size, s11, c15_11]
 have c16_12 : A12.eval (.tmp 16) = z2 := by rw [← hA]; simp [eval_put, put_size, s11, c16_11]
 have c17_12 : A12.eval (.tmp 17) = .bool p2 := by rw [← hA]; simp [eval_put, put_size, s11, c17_11]
 have c18_12 : A12.eval (.tmp 18) = z3 := by rw [← hA]; simp [eval_put, put_size, s11, c18_11]
 have c19_12 : A12.eval (.tmp 19) = .bool p3 := by rw [← hA]; simp [eval_put, put_size, s11, c19_11]
 have c20_12 : A12.eval (.tmp 20) = z4 := by rw [← hA]; simp [eval_put, put_size, s11, c20_11]
 have c21_12 : A12.eval (.tmp 21) = .bool p4 := by rw [← hA]; simp [eval_put, put_size, s11, c21_11]
 have c22_12 : A12.eval (.tmp 22) = z5 := by rw [← hA]; simp [eval_put, put_size, s11]
 have c23_12 : A12.eval (.tmp 23) = .bool p5 := by rw [← hA]; simp [eval_put, put_size, s11]
 clear hA c1_11 c2_11 c8_11 c10_11 c12_11 c14_11 c15_11 c16_11 c17_11 c18_11 c19_11 c20_11 c21_11
 have k012 : Old v v12 := k011.trans k12
 have D12 : DocV v12 db doc := D11.old k12
 obtain ⟨B, hdc⟩ := D12.doc
 have ht : TrC v12 db (parseP doc).2.1 := (Dc.toC (CellsTo.refl v12) hdc)
 have hn := (tree_ok D12.size D12.ok).n
 have came : ∀ (s : ByteArray) (z : Value) (p : Bool) (g : Nat → Bool) (T : Nat → Question → Nat), MeansP doc s z p v12 → (∀ l m, compP s = (0, 0, some l) → mean (parseP doc).2.1 l m = g m) → Came (v12.re T 0) (parseP doc).2.1.els.length z p g := by
  intro s z p g T hm hg hp
  rcases hm with ⟨-, l, e, i⟩ | ⟨rfl, -⟩
  ·refine ⟨_, i.old (Old.heap rfl), ?_, fun m hm => (in_meant hm).trans (hg l m e)⟩
   have := meantL_len (parseP doc).2.1.els.length (mean (parseP doc).2.1 l)
   omega
  ·cases hp
 refine wpV_seq S hE (partN' hE ok8_13 (Qn := fun a' w' => Old v w' ∧ Slots 172 [] a') (fun _ _ _ _ h => ⟨h.1.trans (Old.heap rfl), h.2⟩) s12 d12 (fun T => ?_) ?_)
 ·have hla := meantL_len (parseP doc).2.1.els.length (mean (parseP doc).2.1 la)
  have hlb := meantL_len (parseP doc).2.1.els.length (mean (parseP doc).2.1 lb)
  refine afterN_mono ?_ (l13 (f := fun i => A12.eval (.tmp i)) (w := v12.re T 0) (b := (parseP doc).2.1) (ga := mean (parseP doc).2.1 la) (gb := mean (parseP doc).2.1 lb) c8_12 c10_12 c12_12 c14_12 c15_12 c16_12 c17_12 c18_12 c19_12 c20_12 c21_12 c22_12 c23_12 ((Old.heap rfl : Old v12 (v12.re T 0)).tr ht) (by omega) (ia.old (((((((k6.trans k7).trans k8).trans k9).trans k10).trans k11).trans k12).trans (Old.heap rfl))) (by omega) (fun m hm => in_meant hm) (ib.old ((((((k7.trans k8).trans k9).trans k10).trans k11).trans k12).trans (Old.heap rfl))) (by omega) (fun m hm => in_meant hm)
   (came _ z1 p1 _ T (m1.old (((k9.trans k10).trans k11).trans k12)) fun l m h => mean_or ea eb (by simp) h) (came _ z2 p2 _ T (m2.old ((k10.trans k11).trans k12)) fun l m h => mean_not ea (by simp [notW]) h) (came _ z3 p3 _ T (m3.old (k11.trans k12)) fun l m h => mean_is ea (by simp [isW]) h) (came _ z4 p4 _ T (m4.old k12) fun l m h => mean_and ea eb (by simp [isW]) h) (came _ z5 p5 _ T m5 fun l m h => mean_neither ea eb (by simp [notW]) h))
  rintro a w ⟨rfl, h⟩
  exact ⟨k012.trans (Old.heap rfl), h⟩
 rintro A13 v13 ⟨k13, s13, d13, -⟩
 refine partR' hE ok8_14 (Qr := fun a w => Old v w ∧ a.defers = [] ∧ a.eval (.tmp 6) = .bool true) (fun _ _ _ _ h => ⟨h.1.trans (Old.heap rfl), h.2⟩) s13 d13 (fun T => ?_) fun a w h => h
 refine afterR_mono ?_ (l14 (f := fun i => A13.eval (.tmp i)) (w := v13.re T 0))
 rintro a w ⟨rfl, h⟩
 exact ⟨k13.trans (Old.heap rfl), h⟩
theorem logic_run {W : World} (S : Start W) (doc one two : ByteArray) (hd : doc.size ≤ 140737488351232) :
  ∃ M last o w' t', runNT Tryz.prog (M + 1) (solo (G (Frame.enter Tryz.prog 8 #[.string doc, .string one, .string two] .normal) []) W) #[] = (.ended o w', t') ∧ runN Tryz.prog M (solo (G (Frame.enter Tryz.prog 8 #[.string doc, .string one, .string two] .normal) []) W) = .next last ∧ step Tryz.prog last = .ended o w' ∧
   Go.Conc.Good Tryz.prog (fun x w' => x = .bool true ∧ KeptAll W w') last o w' t' :=
 good_of S (c := body8) Tryz.func8 rfl (by kernel_rfl) okB8 (t := 6) rfl (by intro x hx; simp at hx; rcases hx with rfl | rfl | rfl <;> rfl) fun Ends hE => logic_v hE (start_vg S) doc one two hd (by simp) rfl (args3 _ _ _ _).1 (args3 _ _ _ _).2.1 (args3 _ _ _ _).2.2
end Go.Proofs.YtclpcnignheijaaGreatDoor.Num
