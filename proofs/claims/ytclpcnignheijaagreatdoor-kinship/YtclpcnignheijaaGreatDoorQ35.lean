/-
  Parts of the proof: JZ, KW.
-/
import Derived.Test.YtclpcnignheijaaGreatDoorQ34
import Derived.Test.YtclpcnignheijaaGreatDoorQ31
set_option maxHeartbeats 4000000
set_option maxRecDepth 100000
namespace Go.Proofs.YtclpcnignheijaaGreatDoor.Num
open Go.RowKit Go.Proofs.YtclpcnignheijaaGreatDoor Go.Conc
theorem kinship_v {F : Fr0 Tryz.prog} {Ends : Machine → Trace → Prop} {v : World} (hE : EndsCl Tryz.prog Ends) (V : VG v) (doc one two : ByteArray) (hdoc : doc.size ≤ 140737488351232) {A0 : Act} (s0 : A0.tmps.size = 207) (d0 : A0.defers = []) (a0 : A0.eval (.tmp 0) = .string doc) (a1 : A0.eval (.tmp 1) = .string one) (a2 : A0.eval (.tmp 2) = .string two) :
  wpV Tryz.prog alM glP F Ends body9 (trueAt 6 v) A0 v := by
 have S := setupM
 obtain ⟨o0, hb, g1, g2, g3⟩ := shape9
 rw [hb]
 refine wpV_seq S hE (wpV_region S hE ?_)
 refine opsV_mv S hE (some 6) (.const (.bool false)) rfl (.inr g1) g2 g3 ?_
 refine opsV_nil S hE ?_
 refine wpV_seq S hE (wpV_region S hE ?_)
 refine opsV_awake hE V rfl rfl rfl ?_
 intro v1 k1
 refine opsV_mv S hE (some 7) (.tmp 32) rfl (.inr rfl) rfl rfl ?_
 refine opsV_nil S hE ?_
 generalize hA : Act.put _ (some 7) _ = A1
 have s1 : A1.tmps.size = 207 := by rw [← hA]; simp [put_size, s0]
 have d1 : A1.defers = [] := by rw [← hA]; simp [put_defers, d0]
 have x0 : A1.eval (.tmp 0) = .string doc := by rw [← hA, show Oper.dst _ = some 32 from rfl]; simp [eval_put, put_size, s0, a0]
 have x1 : A1.eval (.tmp 1) = .string one := by rw [← hA, show Oper.dst _ = some 32 from rfl]; simp [eval_put, put_size, s0, a1]
 have x2 : A1.eval (.tmp 2) = .string two := by rw [← hA, show Oper.dst _ = some 32 from rfl]; simp [eval_put, put_size, s0, a2]
 have x7 : A1.eval (.tmp 7) = .bool true := by rw [← hA, show Oper.dst _ = some 32 from rfl]; simp [eval_put, put_size, s0]
 clear hA
 refine wpV_seq S hE (wpV_region S hE ?_)
 refine opsV_mv S hE (some 34) (.tmp 0) rfl (.inl rfl) rfl rfl ?_
 refine opsV_parse hE (V.old k1) doc hdoc _ rfl rfl rfl 35 rfl (by simp [eval_put, s1, x0]) ?_
 intro y v2 k2 hy0
 obtain ⟨dv, ev, rfl, hy⟩ : ∃ dv ev, y = .tuple #[dv, ev] ∧ ((∃ db, dv = .pointer (some ⟨db, 0, none⟩) ∧ ev = .nilIface ∧ DocV v2 db doc) ∨ ∃ k, dv = .pointer none ∧ ev = .iface 107 (.pointer (some ⟨k, 0, none⟩))) := by
  rcases hy0 with ⟨-, db, rfl, D⟩ | ⟨-, k, rfl⟩
  ·exact ⟨_, _, rfl, .inl ⟨db, rfl, rfl, D⟩⟩
  ·exact ⟨_, _, rfl, .inr ⟨k, rfl, rfl⟩⟩
 refine opsV_mv S hE (some 33) (.tmp 35) rfl (.inl rfl) rfl rfl ?_
 refine opsV_ext S hE 36 (.tmp 33) 0 #[dv, ev] dv rfl rfl rfl rfl (by simp [eval_put, put_size, s1]) rfl ?_
 refine opsV_ext S hE 37 (.tmp 33) 1 #[dv, ev] ev rfl rfl rfl rfl (by simp [eval_put, put_size, s1]) rfl ?_
 refine opsV_mv S hE (some 8) (.tmp 36) rfl (.inr rfl) rfl rfl ?_
 refine opsV_mv S hE (some 9) (.tmp 37) rfl (.inr rfl) rfl rfl ?_
 refine opsV_nil S hE ?_
 generalize hA : Act.put _ (some 9) _ = A2
 have s2 : A2.tmps.size = 207 := by rw [← hA]; simp [put_size, s1]
 have d2 : A2.defers = [] := by rw [← hA]; simp [put_defers, d1]
 have y1 : A2.eval (.tmp 1) = .string one := by rw [← hA]; simp [eval_put, put_size, s1, x1]
 have y2 : A2.eval (.tmp 2) = .string two := by rw [← hA]; simp [eval_put, put_size, s1, x2]
 have y7 : A2.eval (.tmp 7) = .bool true := by rw [← hA]; simp [eval_put, put_size, s1, x7]
 have y8 : A2.eval (.tmp 8) = dv := by rw [← hA]; simp [eval_put, put_size, s1]
 have y9 : A2.eval (.tmp 9) = ev := by rw [← hA]; simp [eval_put, put_size, s1]
 clear hA x0 x1 x2 x7
 have k02 : Old v v2 := k1.trans k2
 refine wpV_seq S hE (partN' hE ok9_3 (Qn := fun a' w' => Old v2 w' ∧ Slots 207 [(1, .string one), (2, .string two), (8, dv)] a') (fun _ _ _ _ h => ⟨h.1.trans (Old.heap rfl), h.2⟩) s2 d2 (fun T => ?_) ?_)
 ·refine afterN_mono ?_ (k3 (f := fun i => A2.eval (.tmp i)) (w := v2.re T 0) dv ev y7 y8 y9 (hy.imp (fun h => by obtain ⟨db, e1, e2, -⟩ := h; exact ⟨db, e1, e2⟩) id))
  rintro a w ⟨rfl, h⟩
  rw [y1, y2] at h
  exact ⟨Old.heap rfl, h⟩
 rintro A3 v3 ⟨k3, s3, d3, h3⟩
 have z1 : A3.eval (.tmp 1) = .string one := h3 (1, .string one) (by simp)
 have z2 : A3.eval (.tmp 2) = .string two := h3 (2, .string two) (by simp)
 have z8 : A3.eval (.tmp 8) = dv := h3 (8, dv) (by simp)
 clear h3
 have k03 := k02.trans k3
 rcases hy with ⟨db, rfl, rfl, Dv⟩ | ⟨kk, rfl, rfl⟩
 rotate_left
 ·refine wpV_seq S hE (partR' hE ok9_4 (Qr := fun a w => Old v w ∧ a.defers = [] ∧ a.eval (.tmp 6) = .bool true) (fun _ _ _ _ h => ⟨h.1.trans (Old.heap rfl), h.2⟩) s3 d3 (fun T => ?_) fun a w h => h)
  refine afterR_mono ?_ (k4_no (f := fun i => A3.eval (.tmp i)) (w := v3.re T 0) z8)
  rintro a w ⟨rfl, h⟩
  exact ⟨k03.trans (Old.heap rfl), h⟩
 refine wpV_seq S hE (partN' hE ok9_4 (Qn := fun a' w' => Old v3 w' ∧ Slots 207 [(1, .string one), (2, .string two), (8, .pointer (some ⟨db, 0, none⟩))] a') (fun _ _ _ _ h => ⟨h.1.trans (Old.heap rfl), h.2⟩) s3 d3 (fun T => ?_) ?_)
 ·refine afterN_mono ?_ (k4 (f := fun i => A3.eval (.tmp i)) (w := v3.re T 0) z8)
  rintro a w ⟨rfl, h⟩
  rw [z1, z2] at h
  exact ⟨Old.heap rfl, h⟩
 rintro A4 v4 ⟨k4, s4, d4, h4⟩
 have c1_4 : A4.eval (.tmp 1) = .string one := h4 (1, .string one) (by simp)
 have c2_4 : A4.eval (.tmp 2) = .string two := h4 (2, .string two) (by simp)
 have c8_4 : A4.eval (.tmp 8) = .pointer (some ⟨db, 0, none⟩) := h4 (8, .pointer (some ⟨db, 0, none⟩)) (by simp)
 clear h4 z1 z2 z8 y1 y2 y7 y8 y9
 have k04 : Old v v4 := k03.trans k4
 have D4 : DocV v4 db doc := Dv.old (k3.trans k4)
 refine wpV_seq S hE (wpV_region S hE ?_)
 refine opsV_mv S hE (some 50) (.tmp 8) rfl (.inl rfl) rfl rfl ?_
 refine opsV_mv S hE (some 51) (.tmp 1) rfl (.inl rfl) rfl rfl ?_
 refine opsV_means hE (V.old k04) D4 one rfl rfl 52 rfl rfl rfl rfl (by simp [eval_put, put_size, s4, c8_4]) (by simp [eval_put, put_size, s4, c1_4]) ?_
 intro za fa v5 k5 ma
 refine opsV_mv S hE (some 49) (.tmp 52) rfl (.inl rfl) rfl rfl ?_
 refine opsV_ext S hE 53 (.tmp 49) 0 #[za, .bool fa] za rfl rfl rfl rfl (by simp [eval_put, put_size, s4]) rfl ?_
 refine opsV_ext S hE 54 (.tmp 49) 1 #[za, .bool fa] (.bool fa) rfl rfl rfl rfl (by simp [eval_put, put_size, s4]) rfl ?_
 refine opsV_mv S hE (some 10) (.tmp 53) rfl (.inr rfl) rfl rfl ?_
 refine opsV_mv S hE (some 11) (.tmp 54) rfl (.inr rfl) rfl rfl ?_
 refine opsV_nil S hE ?_
 generalize hA : Act.put _ (some 11) _ = A5
 have s5 : A5.tmps.size = 207 := by rw [← hA]; simp [put_size, s4]
 have d5 : A5.defers = [] := by rw [← hA]; simp [put_defers, d4]
 have c1_5 : A5.eval (.tmp 1) = .string one := by rw [← hA]; simp [eval_put, put_size, s4, c1_4]
 have c2_5 : A5.eval (.tmp 2) = .string two := by rw [← hA]; simp [eval_put, put_size, s4, c2_4]
 have c8_5 : A5.eval (.tmp 8) = .pointer (some ⟨db, 0, none⟩) := by rw [← hA]; simp [eval_put, put_size, s4, c8_4]
 have c10_5 : A5.eval (.tmp 10) = za := by rw [← hA]; simp [eval_put, put_size, s4]
 have c11_5 : A5.eval (.tmp 11) = .bool fa := by rw [← hA]; simp [eval_put, put_size, s4]
 clear hA c1_4 c2_4 c8_4
 have k05 : Old v v5 := k04.trans k5
 have D5 : DocV v5 db doc := D4.old k5
 refine wpV_seq S hE (wpV_region S hE ?_)
 refine opsV_mv S hE (some 56) (.tmp 8) rfl (.inl rfl) rfl rfl ?_
 refine opsV_mv S hE (some 57) (.tmp 2) rfl (.inl rfl) rfl rfl ?_
 refine opsV_means hE (V.old k05) D5 two rfl rfl 58 rfl rfl rfl rfl (by simp [eval_put, put_size, s5, c8_5]) (by simp [eval_put, put_size, s5, c2_5]) ?_
 intro zb fb v6 k6 mb
 refine opsV_mv S hE (some 55) (.tmp 58) rfl (.inl rfl) rfl rfl ?_
 refine opsV_ext S hE 59 (.tmp 55) 0 #[zb, .bool fb] zb rfl rfl rfl rfl (by simp [eval_put, put_size, s5]) rfl ?_
 refine opsV_ext S hE 60 (.tmp 55) 1 #[zb, .bool fb] (.bool fb) rfl rfl rfl rfl (by simp [eval_put, put_size, s5]) rfl ?_
 refine opsV_mv S hE (some 12) (.tmp 59) rfl (.inr rfl) rfl rfl ?_
 refine opsV_mv S hE (some 13) (.tmp 60) rfl (.inr rfl) rfl rfl ?_
 refine opsV_nil S hE ?_
 generalize hA : Act.put _ (some 13) _ = A6
 have s6 : A6.tmps.size = 207 := by rw [← hA]; simp [put_size, s5]
 have d6 : A6.defers = [] := by rw [← hA]; simp [put_defers, d5]
 have c1_6 : A6.eval (.tmp 1) = .string one := by rw [← hA]; simp [eval_put, put_size, s5, c1_5]
 have c2_6 : A6.eval (.tmp 2) = .string two := by rw [← hA]; simp [eval_put, put_size, s5, c2_5]
 have c8_6 : A6.eval (.tmp 8) = .pointer (some ⟨db, 0, none⟩) := by rw [← hA]; simp [eval_put, put_size, s5, c8_5]
 have c10_6 : A6.eval (.tmp 10) = za := by rw [← hA]; simp [eval_put, put_size, s5, c10_5]
 have c11_6 : A6.eval (.tmp 11) = .bool fa := by rw [← hA]; simp [eval_put, put_size, s5, c11_5]
 have c12_6 : A6.eval (.tmp 12) = zb := by rw [← hA]; simp [eval_put, put_size, s5]
 have c13_6 : A6.eval (.tmp 13) = .bool fb := by rw [← hA]; simp [eval_put, put_size, s5]
 clear hA c1_5 c2_5 c8_5 c10_5 c11_5
 have k06 : Old v v6 := k05.trans k6
 have D6 : DocV v6 db doc := D5.old k6
 by_cases hff : fa = false ∨ fb = false
 ·refine wpV_seq S hE (partR' hE ok9_7 (Qr := fun a w => Old v w ∧ a.defers = [] ∧ a.eval (.tmp 6) = .bool true) (fun _ _ _ _ h => ⟨h.1.trans (Old.heap rfl), h.2⟩) s6 d6 (fun T => ?_) fun a w h => h)
  refine afterR_mono ?_ (k7_no (f := fun i => A6.eval (.tmp i)) (w := v6.re T 0) fa fb c11_6 c13_6 hff)
  rintro a w ⟨rfl, h⟩
  exact ⟨k06.trans (Old.heap rfl), h⟩
 obtain ⟨rfl, rfl⟩ : fa = true ∧ fb = true := by revert hff; cases fa <;> cases fb <;> simp
 clear hff
 obtain ⟨-, la, ea, ia⟩ | ⟨h, -⟩ := ma
 rotate_left
 ·cases h
 obtain ⟨-, lb, eb, ib⟩ | ⟨h, -⟩ := mb
 rotate_left
 ·cases h
 have hone : one.data.size ≤ 200 := (comp_wf ea).2
 have htwo : two.data.size ≤ 200 := (comp_wf eb).2
 refine wpV_seq S hE (partN' hE ok9_7 (Qn := fun a' w' => Old v6 w' ∧ Slots 207 [(1, .string one), (2, .string two), (8, .pointer (some ⟨db, 0, none⟩)), (10, za), (12, zb)] a') (fun _ _ _ _ h => ⟨h.1.trans (Old.heap rfl), h.2⟩) s6 d6 (fun T => ?_) ?_)
 ·refine afterN_mono ?_ (k7 (f := fun i => A6.eval (.tmp i)) (w := v6.re T 0) c11_6 c13_6)
  rintro a w ⟨rfl, h⟩
  rw [c1_6, c2_6, c8_6, c10_6, c12_6] at h
  exact ⟨Old.heap rfl, h⟩
 rintro A7 v7 ⟨k7, s7, d7, h7⟩
 have c1_7 : A7.eval (.tmp 1) = .string one := h7 (1, .string one) (by simp)
 have c2_7 : A7.eval (.tmp 2) = .string two := h7 (2, .string two) (by simp)
 have c8_7 : A7.eval (.tmp 8) = .pointer (some ⟨db, 0, none⟩) := h7 (8, .pointer (some ⟨db, 0, none⟩)) (by simp)
 have c10_7 : A7.eval (.tmp 10) = za := h7 (10, za) (by simp)
 have c12_7 : A7.eval (.tmp 12) = zb := h7 (12, zb) (by simp)
 clear h7 c1_6 c2_6 c8_6 c10_6 c11_6 c12_6 c13_6
 have k07 : Old v v7 := k06.trans k7
 have D7 : DocV v7 db doc := D6.old k7
 refine wpV_seq S hE (wpV_region S hE ?_)
 refine opsV_mv S hE (some 67) (.tmp 1) rfl (.inl rfl) rfl rfl ?_
 refine opsV_cat S hE 68 (.const (.string ⟨#[58, 105, 115, 40]⟩)) (.tmp 67) ⟨#[58, 105, 115, 40]⟩ one rfl rfl rfl rfl rfl (by simp [eval_put, s7, c1_7]) (Nat.le_trans (Nat.add_le_add (Nat.le_refl (ByteArray.size ⟨#[58, 105, 115, 40]⟩)) hone) (by decide)) ?_
 refine opsV_cat S hE 69 (.tmp 68) (.const (.string ⟨#[41]⟩)) (⟨#[58, 105, 115, 40]⟩ ++ one) ⟨#[41]⟩ rfl rfl rfl rfl (by simp [eval_put, put_size, s7]) rfl (Nat.le_trans (Nat.add_le_add (cat_sz (Nat.le_refl (ByteArray.size ⟨#[58, 105, 115, 40]⟩)) hone) (Nat.le_refl (ByteArray.size ⟨#[41]⟩))) (by decide)) ?_
 refine opsV_mv S hE (some 14) (.tmp 69) rfl (.inr rfl) rfl rfl ?_
 refine opsV_nil S hE ?_
 generalize hA : Act.put _ (some 14) _ = A8
 have s8 : A8.tmps.size = 207 := by rw [← hA]; simp [put_size, s7]
 have d8 : A8.defers = [] := by rw [← hA]; simp [put_defers, d7]
 have c1_8 : A8.eval (.tmp 1) = .string one := by rw [← hA]; simp [eval_put, put_size, s7, c1_7]
 have c2_8 : A8.eval (.tmp 2) = .string two := by rw [← hA]; simp [eval_put, put_size, s7, c2_7]
 have c8_8 : A8.eval (.tmp 8) = .pointer (some ⟨db, 0, none⟩) := by rw [← hA]; simp [eval_put, put_size, s7, c8_7]
 have c10_8 : A8.eval (.tmp 10) = za := by rw [← hA]; simp [eval_put, put_size, s7, c10_7]
 have c12_8 : A8.eval (.tmp 12) = zb := by rw [← hA]; simp [eval_put, put_size, s7, c12_7]
 have c14_8 : A8.eval (.tmp 14) = .string (⟨#[58, 105, 115, 40]⟩ ++ one ++ ⟨#[41]⟩) := by rw [← hA]; simp [eval_put, put_size, s7]
 clear hA c1_7 c2_7 c8_7 c10_7 c12_7
 have k08 : Old v v7 := k07
 have D8 : DocV v7 db doc := D7
 obtain ⟨v8, rfl⟩ : ∃ v8, v8 = v7 := ⟨_, rfl⟩
 refine wpV_seq S hE (wpV_region S hE ?_)
 refine opsV_mv S hE (some 70) (.tmp 2) rfl (.inl rfl) rfl rfl ?_
 refine opsV_cat S hE 71 (.const (.string ⟨#[58, 105, 115, 40]⟩)) (.tmp 70) ⟨#[58, 105, 115, 40]⟩ two rfl rfl rfl rfl rfl (by simp [eval_put, s8, c2_8]) (Nat.le_trans (Nat.add_le_add (Nat.le_refl (ByteArray.size ⟨#[58, 105, 115, 40]⟩)) htwo) (by decide)) ?_
 refine opsV_cat S hE 72 (.tmp 71) (.const (.string ⟨#[41]⟩)) (⟨#[58, 105, 115, 40]⟩ ++ two) ⟨#[41]⟩ rfl rfl rfl rfl (by simp [eval_put, put_size, s8]) rfl (Nat.le_trans (Nat.add_le_add (cat_sz (Nat.le_refl (ByteArray.size ⟨#[58, 105, 115, 40]⟩)) htwo) (Nat.le_refl (ByteArray.size ⟨#[41]⟩))) (by decide)) ?_
 refine opsV_mv S hE (some 15) (.tmp 72) rfl (.inr rfl) rfl rfl ?_
 refine opsV_nil S hE ?_
 generalize hA : Act.put _ (some 15) _ = A9
 have s9 : A9.tmps.size = 207 := by rw [← hA]; simp [put_size, s8]
 have d9 : A9.defers = [] := by rw [← hA]; simp [put_defers, d8]
 have c2_9 : A9.eval (.tmp 2) = .string two := by rw [← hA]; simp [eval_put, put_size, s8, c2_8]
 have c8_9 : A9.eval (.tmp 8) = .pointer (some ⟨db, 0, none⟩) := by rw [← hA]; simp [eval_put, put_size, s8, c8_8]
 have c10_9 : A9.eval (.tmp 10) = za := by rw [← hA]; simp [eval_put, put_size, s8, c10_8]
 have c12_9 : A9.eval (.tmp 12) = zb := by rw [← hA]; simp [eval_put, put_size, s8, c12_8]
 have c14_9 : A9.eval (.tmp 14) = .string (⟨#[58, 105, 115, 40]⟩ ++ one ++ ⟨#[41]⟩) := by rw [← hA]; simp [eval_put, put_size, s8, c14_8]
 have c15_9 : A9.eval (.tmp 15) = .string (⟨#[58, 105, 115, 40]⟩ ++ two ++ ⟨#[41]⟩) := by rw [← hA]; simp [eval_put, put_size, s8]
 clear hA c2_8 c8_8 c10_8 c12_8 c14_8
 have k09 : Old v v8 := k08
 have D9 : DocV v8 db doc := D8
 obtain ⟨v9, rfl⟩ : ∃ v9, v9 = v8 := ⟨_, rfl⟩
 obtain ⟨xl, hxl⟩ : ∃ xl, xl = (⟨#[58, 105, 115, 40]⟩ ++ one ++ ⟨#[41]⟩) := ⟨_, rfl⟩
 obtain ⟨xm, hxm⟩ : ∃ xm, xm = (⟨#[58, 105, 115, 40]⟩ ++ two ++ ⟨#[41]⟩) := ⟨_, rfl⟩
 have hone' : xl.size ≤ 210 := by rw [hxl]; exact Nat.le_trans (cat_sz (cat_sz (Nat.le_refl (ByteArray.size ⟨#[58, 105, 115, 40]⟩)) hone) (Nat.le_refl (ByteArray.size ⟨#[41]⟩))) (by decide)
 have htwo' : xm.size ≤ 210 := by rw [hxm]; exact Nat.le_trans (cat_sz (cat_sz (Nat.le_refl (ByteArray.size ⟨#[58, 105, 115, 40]⟩)) htwo) (Nat.le_refl (ByteArray.size ⟨#[41]⟩))) (by decide)
 rw [← hxl] at c14_9
 rw [← hxm] at c15_9
 refine wpV_seq S hE (wpV_region S hE ?_)
 refine opsV_mv S hE (some 74) (.tmp 8) rfl (.inl rfl) rfl rfl ?_
 refine opsV_mv S hE (some 75) (.tmp 14) rfl (.inl rfl) rfl rfl ?_
 refine opsV_cat S hE 76 (.tmp 75) (.const (.string ⟨#[32]⟩)) xl ⟨#[32]⟩ rfl rfl rfl rfl (by simp [eval_put, put_size, s9, c14_9]) rfl (Nat.le_trans (Nat.add_le_add hone' (Nat.le_refl (ByteArray.size ⟨#[32]⟩))) (by decide)) ?_
 refine opsV_mv S hE (some 77) (.tmp 15) rfl (.inl rfl) rfl rfl ?_
 refine opsV_cat S hE 78 (.tmp 76) (.tmp 77) (xl ++ ⟨#[32]⟩) xm rfl rfl rfl rfl (by simp [eval_put, put_size, s9]) (by simp [eval_put, put_size, s9, c15_9]) (Nat.le_trans (Nat.add_le_add (cat_sz hone' (Nat.le_refl (ByteArray.size ⟨#[32]⟩))) htwo') (by decide)) ?_
 refine opsV_means hE (V.old k09) D9 (xl ++ ⟨#[32]⟩ ++ xm) rfl rfl 79 rfl rfl rfl rfl (by simp [eval_put, put_size, s9, c8_9]) (by simp [eval_put, put_size, s9]) ?_
 intro z1 p1 v10 k10 m1
 refine opsV_mv S hE (some 73) (.tmp 79) rfl (.inl rfl) rfl rfl ?_
 refine opsV_ext S hE 80 (.tmp 73) 0 #[z1, .bool p1] z1 rfl rfl rfl rfl (by simp [eval_put, put_size, s9]) rfl ?_
 refine opsV_ext S hE 81 (.tmp 73) 1 #[z1, .bool p1] (.bool p1) rfl rfl rfl rfl (by simp [eval_put, put_size, s9]) rfl ?_
 refine opsV_mv S hE (some 16) (.tmp 80) rfl (.inr rfl) rfl rfl ?_
 refine opsV_mv S hE (some 17) (.tmp 81) rfl (.inr rfl) rfl rfl ?_
 refine opsV_nil S hE ?_
 generalize hA : Act.put _ (some 17) _ = A10
 have s10 : A10.tmps.size = 207 := by rw [← hA]; simp [put_size, s9]
 have d10 : A10.defers = [] := by rw [← hA]; simp [put_defers, d9]
 have c8_10 : A10.eval (.tmp 8) = .pointer (some ⟨db, 0, none⟩) := by rw [← hA]; simp [eval_put, put_size, s9, c8_9]
 have c10_10 : A10.eval (.tmp 10) = za := by rw [← hA]; simp [eval_put, put_size, s9, c10_9]
 have c12_10 : A10.eval (.tmp 12) = zb := by rw [← hA]; simp [eval_put, put_size, s9, c12_9]
 have c14_10 : A10.eval (.tmp 14) = .string xl := by rw [← hA]; simp [eval_put, put_size, s9, c14_9]
 have c15_10 : A10.eval (.tmp 15) = .string xm := by rw [← hA]; simp [eval_put, put_size, s9, c15_9]
 have c16_10 : A10.eval (.tmp 16) = z1 := by rw [← hA]; simp [eval_put, put_size, s9]
 have c17_10 : A10.eval (.tmp 17) = .bool p1 := by rw [← hA]; simp [eval_put, put_size, s9]
 clear hA c8_9 c10_9 c12_9 c14_9 c15_9
 have k010 : Old v v10 := k09.trans k10
 have D10 : DocV v10 db doc := D9.old k10
 refine wpV_seq S hE (wpV_region S hE ?_)
 refine opsV_mv S hE (some 83) (.tmp 8) rfl (.inl rfl) rfl rfl ?_
 refine opsV_mv S hE (some 84) (.tmp 14) rfl (.inl rfl) rfl rfl ?_
 refine opsV_cat S hE 85 (.tmp 84) (.const (.string ⟨#[62]⟩)) xl ⟨#[62]⟩ rfl rfl rfl rfl (by simp [eval_put, put_size, s10, c14_10]) rfl (Nat.le_trans (Nat.add_le_add hone' (Nat.le_refl (ByteArray.size ⟨#[62]⟩))) (by decide)) ?_
 refine opsV_mv S hE (some 86) (.tmp 15) rfl (.inl rfl) rfl rfl ?_
 refine opsV_cat S hE 87 (.tmp 85) (.tmp 86) (xl ++ ⟨#[62]⟩) xm rfl rfl rfl rfl (by simp [eval_put, put_size, s10]) (by simp [eval_put, put_size, s10, c15_10]) (Nat.le_trans (Nat.add_le_add (cat_sz hone' (Nat.le_refl (ByteArray.size ⟨#[62]⟩))) htwo') (by decide)) ?_
 refine opsV_means hE (V.old k010) D10 (xl ++ ⟨#[62]⟩ ++ xm) rfl rfl 88 rfl rfl rfl rfl (by simp [eval_put, put_size, s10, c8_10]) (by simp [eval_put, put_size, s10]) ?_
 intro z2 p2 v11 k11 m2
 refine opsV_mv S hE (some 82) (.tmp 88) rfl (.inl rfl) rfl rfl ?_
 refine opsV_ext S hE 89 (.tmp 82) 0 #[z2, .bool p2] z2 rfl rfl rfl rfl (by simp [eval_put, put_size, s10]) rfl ?_
 refine opsV_ext S hE 90 (.tmp 82) 1 #[z2, .bool p2] (.bool p2) rfl rfl rfl rfl (by simp [eval_put, put_size, s10]) rfl ?_
 refine opsV_mv S hE (some 18) (.tmp 89) rfl (.inr rfl) rfl rfl ?_
 refine opsV_mv S hE (some 19) (.tmp 90) rfl (.inr rfl) rfl rfl ?_
 refine opsV_nil S hE ?_
 generalize hA : Act.put _ (some 19) _ = A11
 have s11 : A11.tmps.size = 207 := by rw [← hA]; simp [put_size, s10]
 have d11 : A11.defers = [] := by rw [← hA]; simp [put_defers, d10]
 have c8_11 : A11.eval (.tmp 8) = .pointer (some ⟨db, 0, none⟩) := by rw [← hA]; simp [eval_put, put_size, s10, c8_10]
 have c10_11 : A11.eval (.tmp 10) = za := by rw [← hA]; simp [eval_put, put_size, s10, c10_10]
 have c12_11 : A11.eval (.tmp 12) = zb := by rw [← hA]; simp [eval_put, put_size, s10, c12_10]
 have c14_11 : A11.eval (.tmp 14) = .string xl := by rw [← hA]; simp [eval_put, put_size, s10, c14_10]
 have c15_11 : A11.eval (.tmp 15) = .string xm := by rw [← hA]; simp [eval_put, put_size, s10, c15_10]
 have c16_11 : A11.eval (.tmp 16) = z1 := by rw [← hA]; simp [eval_put, put_size, s10, c16_10]
 have c17_11 : A11.eval (.tmp 17) = .bool p1 := by rw [← hA]; simp [eval_put, put_size, s10, c17_10]
 have c18_11 : A11.eval (.tmp 18) = z2 := by rw [← hA]; simp [eval_put, put_size, s10]
 have c19_11 : A11.eval (.tmp 19) = .bool p2 := by rw [← hA]; simp [eval_put, put_size, s10]
 clear hA c8_10 c10_10 c12_10 c14_10 c15_10 c16_10 c17_10
 have k011 : Old v v11 := k010.trans k11
 have D11 : DocV v11 db doc := D10.old k11
 refine wpV_seq S hE (wpV_region S hE ?_)
 refine opsV_mv S hE (some 92) (.tmp 8) rfl (.inl rfl) rfl rfl ?_
 refine opsV_mv S hE (some 93) (.tmp 14) rfl (.inl rfl) rfl rfl ?_
 refine opsV_cat S hE 94 (.tmp 93) (.const (.string ⟨#[43]⟩)) xl ⟨#[43]⟩ rfl rfl rfl rfl (by simp [eval_put, put_size, s11, c14_11]) rfl (Nat.le_trans (Nat.add_le_add hone' (Nat.le_refl (ByteArray.size ⟨#[43]⟩))) (by decide)) ?_
 refine opsV_mv S hE (some 95) (.tmp 15) rfl (.inl rfl) rfl rfl ?_
 refine opsV_cat S hE 96 (.tmp 94) (.tmp 95) (xl ++ ⟨#[43]⟩) xm rfl rfl rfl rfl (by simp [eval_put, put_size, s11]) (by simp [eval_put, put_size, s11, c15_11]) (Nat.le_trans (Nat.add_le_add (cat_sz hone' (Nat.le_refl (ByteArray.size ⟨#[43]⟩))) htwo') (by decide)) ?_
 refine opsV_means hE (V.old k011) D11 (xl ++ ⟨#[43]⟩ ++ xm) rfl rfl 97 rfl rfl rfl rfl (by simp [eval_put, put_size, s11, c8_11]) (by simp [eval_put, put_size, s11]) ?_
 intro z3 p3 v12 k12 m3
 refine opsV_mv S hE (some 91) (.tmp 97) rfl (.inl rfl) rfl rfl ?_
 refine opsV_ext S hE 98 (.tmp 91) 0 #[z3, .bool p3] z3 rfl rfl rfl rfl (by simp [eval_put, put_size, s11]) rfl ?_
 refine opsV_ext S hE 99 (.tmp 91) 1 #[z3, .bool p3] (.bool p3) rfl rfl rfl rfl (by simp [eval_put, put_size, s11]) rfl ?_
 refine opsV_mv S hE (some 20) (.tmp 98) rfl (.inr rfl) rfl rfl ?_
 refine opsV_mv S hE (some 21) (.tmp 99) rfl (.inr rfl) rfl rfl ?_
 refine opsV_nil S hE ?_
 generalize hA : Act.put _ (some 21) _ = A12
 have s12 : A12.tmps.size = 207 := by rw [← hA]; simp [put_size, s11]
 have d12 : A12.defers = [] := by rw [← hA]; simp [put_defers, d11]
 have c8_12 : A12.eval (.tmp 8) = .pointer (some ⟨db, 0, none⟩) := by rw [← hA]; simp [eval_put, put_size, s11, c8_11]
 have c10_12 : A12.eval (.tmp 10) = za := by rw [← hA]; simp [eval_put, put_size, s11, c10_11]
 have c12_12 : A12.eval (.tmp 12) = zb := by rw [← hA]; simp [eval_put, put_size, s11, c12_11]
 have c14_12 : A12.eval (.tmp 14) = .string xl := by rw [← hA]; simp [eval_put, put_size, s11, c14_11]
 have c15_12 : A12.eval (.tmp 15) = .string xm := by rw [← hA]; simp [eval_put, put_size, s11, c15_11]
 have c16_12 : A12.eval (.tmp 16) = z1 := by rw [← hA]; simp [eval_put, put_size, s11, c16_11]
 have c17_12 : A12.eval (.tmp 17) = .bool p1 := by rw [← hA]; simp [eval_put, put_size, s11, c17_11]
 have c18_12 : A12.eval (.tmp 18) = z2 := by rw [← hA]; simp [eval_put, put_size, s11, c18_11]
 have c19_12 : A12.eval (.tmp 19) = .bool p2 := by rw [← hA]; simp [eval_put, put_size, s11, c19_11]
 have c20_12 : A12.eval (.tmp 20) = z3 := by rw [← hA]; simp [eval_put, put_size, s11]
 have c21_12 : A12.eval (.tmp 21) = .bool p3 := by rw [← hA]; simp [eval_put, put_size, s11]
 clear hA c8_11 c10_11 c12_11 c14_11 c15_11 c16_11 c17_11 c18_11 c19_11
 have k012 : Old v v12 := k011.trans k12
 have D12 : DocV v12 db doc := D11.old k12
 refine wpV_seq S hE (wpV_region S hE ?_)
 refine opsV_mv S hE (some 101) (.tmp 8) rfl (.inl rfl) rfl rfl ?_
 refine opsV_mv S hE (some 102) (.tmp 14) rfl (.inl rfl) rfl rfl ?_
 refine opsV_cat S hE 103 (.tmp 102) (.const (.string ⟨#[126]⟩)) xl ⟨#[126]⟩ rfl rfl rfl rfl (by simp [eval_put, put_size, s12, c14_12]) rfl (Nat.le_trans (Nat.add_le_add hone' (Nat.le_refl (ByteArray.size ⟨#[126]⟩))) (by decide)) ?_
 refine opsV_mv S hE (some 104) (.tmp 15) rfl (.inl rfl) rfl rfl ?_
 refine opsV_cat S hE 105 (.tmp 103) (.tmp 104) (xl ++ ⟨#[126]⟩) xm rfl rfl rfl rfl (by simp [eval_put, put_size, s12]) (by simp [eval_put, put_size, s12, c15_12]) (Nat.le_trans (Nat.add_le_add (cat_sz hone' (Nat.le_refl (ByteArray.size ⟨#[126]⟩))) htwo') (by decide)) ?_
 refine opsV_means hE (V.old k012) D12 (xl ++ ⟨#[126]⟩ ++ xm) rfl rfl 106 rfl rfl rfl rfl (by simp [eval_put, put_size, s12, c8_12]) (by simp [eval_put, put_size, s12]) ?_
 intro z4 p4 v13 k13 m4
 refine opsV_mv S hE (some 100) (.tmp 106) rfl (.inl rfl) rfl rfl ?_
 refine opsV_ext S hE 107 (.tmp 100) 0 #[z4, .bool p4] z4 rfl rfl rfl rfl (by simp [eval_put, put_size, s12]) rfl ?_
 refine opsV_ext S hE 108 (.tmp 100) 1 #[z4, .bool p4] (.bool p4) rfl rfl rfl rfl (by simp [eval_put, put_size, s12]) rfl ?_
 refine opsV_mv S hE (some 22) (.tmp 107) rfl (.inr rfl) rfl rfl ?_
 refine opsV_mv S hE (some 23) (.tmp 108) rfl (.inr rfl) rfl rfl ?_
 refine opsV_nil S hE ?_
 generalize hA : Act.put _ (some 23) _ = A13
 have s13 : A13.tmps.size = 207 := by rw [← hA]; simp [put_size, s12]
 have d13 : A13.defers = [] := by rw [← hA]; simp [put_defers, d12]
 have c8_13 : A13.eval (.tmp 8) = .pointer (some ⟨db, 0, none⟩) := by rw [← hA]; simp [eval_put, put_size, s12, c8_12]
 have c10_13 : A13.eval (.tmp 10) = za := by rw [← hA]; simp [eval_put, put_size, s12, c10_12]
 have c12_13 : A13.eval (.tmp 12) = zb := by rw [← hA]; simp [eval_put, put_size, s12, c12_12]
 have c14_13 : A13.eval (.tmp 14) = .string xl := by rw [← hA]; simp [eval_put, put_size, s12, c14_12]
 have c15_13 : A13.eval (.tmp 15) = .string xm := by rw [← hA]; simp [eval_put, put_size, s12, c15_12]
 have c16_13 : A13.eval (.tmp 16) = z1 := by rw [← hA]; simp [eval_put, put_size, s12, c16_12]
 have c17_13 : A13.eval (.tmp 17) = .bool p1 := by rw [← hA]; simp [eval_put, put_size, s12, c17_12]
 have c18_13 : A13.eval (.tmp 18) = z2 := by rw [← hA]; simp [eval_put, put_size, s12, c18_12]
 have c19_13 : A13.eval (.tmp 19) = .bool p2 := by rw [← hA]; simp [eval_put, put_size, s12, c19_12]
 have c20_13 : A13.eval (.tmp 20) = z3 := by rw [← hA]; simp [eval_put, put_size, s12, c20_12]
 have c21_13 : A13.eval (.tmp 21) = .bool p3 := by rw [← hA]; simp [eval_put, put_size, s12, c21_12]
 have c22_13 : A13.eval (.tmp 22) = z4 := by rw [← hA]; simp [eval_put, put_size, s12]
 have c23_13 : A13.eval (.tmp 23) = .bool p4 := by rw [← hA]; simp [eval_put, put_size, s12]
 clear hA c8_12 c10_12 c12_12 c14_12 c15_12 c16_12 c17_12 c18_12 c19_12 c20_12 c21_12
 have k013 : Old v v13 := k012.trans k13
 have D13 : DocV v13 db doc := D12.old k13
 obtain ⟨B, hdc⟩ := D13.doc
 have ht : TrC v13 db (parseP doc).2.1 := (Dc.toC (CellsTo.refl v13) hdc)
 have hok := tree_ok D13.size D13.ok
 have hn := hok.n
 have came : ∀ (s : ByteArray) (z : Value) (p : Bool) (g : Nat → Bool) (T : Nat → Question → Nat), MeansP doc s z p v13 → (∀ l m, compP s = (0, 0, some l) → mean (parseP doc).2.1 l m = g m) → Came (v13.re T 0) (parseP doc).2.1.els.length z p g := by
  intro s z p g T hm hg hp
  rcases hm with ⟨-, l, e, i⟩ | ⟨rfl, -⟩
  ·refine ⟨_, i.old (Old.heap rfl), ?_, fun m hm => (in_meant hm).trans (hg l m e)⟩
   have := meantL_len (parseP doc).2.1.els.length (mean (parseP doc).2.1 l)
   omega
  ·cases hp
 refine wpV_seq S hE (partN' hE ok9_14 (Qn := fun a' w' => Old v w' ∧ Slots 207 [] a') (fun _ _ _ _ h => ⟨h.1.trans (Old.heap rfl), h.2⟩) s13 d13 (fun T => ?_) ?_)
 ·have hla := meantL_len (parseP doc).2.1.els.length (mean (parseP doc).2.1 la)
  have hlb := meantL_len (parseP doc).2.1.els.length (mean (parseP doc).2.1 lb)
  have text : ∀ cb : UInt8, (xl ++ ⟨#[cb]⟩ ++ xm).data.toList = isW ++ (one.data.toList ++ 41 :: cb :: (isW ++ (two.data.toList ++ [41]))) := by
   intro cb
   rw [hxl, hxm]
   simp [isW]
  refine afterN_mono ?_ (k14 (f := fun i => A13.eval (.tmp i)) (w := v13.re T 0) (b := (parseP doc).2.1) (ga := mean (parseP doc).2.1 la) (gb := mean (parseP doc).2.1 lb) c8_13 c10_13 c12_13 c16_13 c17_13 c18_13 c19_13 c20_13 c21_13 c22_13 c23_13 ((Old.heap rfl : Old v13 (v13.re T 0)).tr ht) hok (ia.old ((((((k6.trans k7).trans k10).trans k11).trans k12).trans k13).trans (Old.heap rfl))) (by omega) (fun k k1 k2 => in_meantI k1 k2) (ib.old (((((k7.trans k10).trans k11).trans k12).trans k13).trans (Old.heap rfl))) (by omega) (fun m hm => in_meant hm)
   (came _ z1 p1 _ T (m1.old ((k11.trans k12).trans k13)) fun l m h => mean_comb 32 (.inl rfl) ea eb (text 32) h) (came _ z2 p2 _ T (m2.old (k12.trans k13)) fun l m h => mean_comb 62 (.inr (.inl rfl)) ea eb (text 62) h) (came _ z3 p3 _ T (m3.old k13) fun l m h => mean_comb 43 (.inr (.inr (.inl rfl))) ea eb (text 43) h) (came _ z4 p4 _ T m4 fun l m h => mean_comb 126 (.inr (.inr (.inr rfl))) ea eb (text 126) h))
  rintro a w ⟨rfl, h⟩
  exact ⟨k013.trans (Old.heap rfl), h⟩
 rintro A14 v14 ⟨k14', s14, d14, -⟩
 refine partR' hE ok9_15 (Qr := fun a w => Old v w ∧ a.defers = [] ∧ a.eval (.tmp 6) = .bool true) (fun _ _ _ _ h => ⟨h.1.trans (Old.heap rfl), h.2⟩) s14 d14 (fun T => ?_) fun a w h => h
 refine afterR_mono ?_ (k15 (f := fun i => A14.eval (.tmp i)) (w := v14.re T 0))
 rintro a w ⟨rfl, h⟩
 exact ⟨k14'.trans (Old.heap rfl), h⟩
theorem kinship_run {W : World} (S : Start W) (doc one two : ByteArray) (hd : doc.size ≤ 140737488351232) :
  ∃ M last o w' t', runNT Tryz.prog (M + 1) (solo (G (Frame.enter Tryz.prog 9 #[.string doc, .string one, .string two] .normal) []) W) #[] = (.ended o w', t') ∧ runN Tryz.prog M (solo (G (Frame.enter Tryz.prog 9 #[.string doc, .string one, .string two] .normal) []) W) = .next last ∧ step Tryz.prog last = .ended o w' ∧
   Go.Conc.Good Tryz.prog (fun x w' => x = .bool true ∧ KeptAll W w') last o w' t' :=
 good_of S (c := body9) Tryz.func9 rfl (by kernel_rfl) okB9 (t := 6) rfl (by intro x hx; simp at hx; rcases hx with rfl | rfl | rfl <;> rfl) fun Ends hE => kinship_v hE (start_vg S) doc one two hd (by simp) rfl (args3 _ _ _ _).1 (args3 _ _ _ _).2.1 (args3 _ _ _ _).2.2
end Go.Proofs.YtclpcnignheijaaGreatDoor.Num
