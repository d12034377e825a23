import Derived.Test.YtclpcnignheijaaGreatDoorS5
namespace Go.Proofs.YtclpcnignheijaaGreatDoor
open Go.RowKit

theorem Sx.kept {w w' : World} {xb rb : Nat} {s : ByteArray} {p a b c B : Nat} {T : List TypeId} (h : Sx w xb rb s p a b c) (k : Kp B T w w') (h1 : 210 ∉ T) (h2 : 179 ∉ T) : Sx w' xb rb s p a b c := ⟨h.1.kept k h1, h.2.imp fun _ hh => k.at hh h2⟩
theorem fin4 {w : World} {R : Nat} {t : TypeId} {x0 x1 x2 x3 : Value} (h : w.heap[R]? = some (.cells #[x0, x1, x2, x3] t (0, 0))) (v0 v1 v2 v3 : Value) :
    ((((w.setCell ⟨R, 0, none⟩ v0).setCell ⟨R, 1, none⟩ v1).setCell ⟨R, 2, none⟩ v2).setCell ⟨R, 3, none⟩ v3).heap[R]? = some (.cells #[v0, v1, v2, v3] t (0, 0)) ∧
    Kp 0 [t] w ((((w.setCell ⟨R, 0, none⟩ v0).setCell ⟨R, 1, none⟩ v1).setCell ⟨R, 2, none⟩ v2).setCell ⟨R, 3, none⟩ v3) := by
  have h1 := set_blk (o := 0) h v0
  have h2 := set_blk (o := 1) h1 v1
  have h3 := set_blk (o := 2) h2 v2
  have h4 := set_blk (o := 3) h3 v3
  refine ⟨by simpa using h4, ?_⟩
  exact ((((Kp.refl 0 [t] w).setCell h (by simp) (Nat.zero_le _) v0).setCell h1 (by simp) (Nat.zero_le _) v1).setCell h2 (by simp) (Nat.zero_le _) v2).setCell h3 (by simp) (Nat.zero_le _) v3
theorem cells4 {w : World} {b : Nat} {x y z u : Value} {t : TypeId} (h : w.heap[b]? = some (.cells #[x, y, z, u] t (0, 0))) :
    (w.cell? ⟨b, 0, none⟩ = some x ∧ w.cell? ⟨b, 1, none⟩ = some y ∧ w.cell? ⟨b, 2, none⟩ = some z ∧ w.cell? ⟨b, 3, none⟩ = some u) ∧ w.frozen? ⟨b, 0, none⟩ = false ∧ w.frozen? ⟨b, 1, none⟩ = false ∧ w.frozen? ⟨b, 2, none⟩ = false ∧ w.frozen? ⟨b, 3, none⟩ = false := by simp [World.cell?, World.frozen?, h]
theorem Kp.set4 {B : Nat} {T : List TypeId} {a w : World} {R : Nat} (h : Kp B T a w) (hR : a.heap.size ≤ R) (v0 v1 v2 v3 : Value) :
    Kp B T a ((((w.setCell ⟨R, 0, none⟩ v0).setCell ⟨R, 1, none⟩ v1).setCell ⟨R, 2, none⟩ v2).setCell ⟨R, 3, none⟩ v3) :=
  (((h.setNew (p := ⟨R, 0, none⟩) hR v0).setNew (p := ⟨R, 1, none⟩) hR v1).setNew (p := ⟨R, 2, none⟩) hR v2).setNew (p := ⟨R, 3, none⟩) hR v3
theorem chain_shape0 {w : World} {c pl : Int} {n : Nat} {v : Value} (h : Chain w c pl n v) : ∃ t u, v = .iface t u := by
  cases n with
  | zero => obtain ⟨k, hv, _⟩ := h; exact ⟨_, _, hv⟩
  | succ n => obtain ⟨k, t, u, hv, _⟩ := h; exact ⟨_, _, hv⟩
def nthV (x : NthQ) : Value := .agg #[.string x.word, .bool x.hasN, .int .i64 x.a, .int .i64 x.b]
set_option maxHeartbeats 1600000 in
theorem numbers_any (B xb rb : Nat) (s : ByteArray) (p a b c : Nat) (w : World) (h : Sx w xb rb s p a b c) (hB : B ≤ rb) :
    Calls Tryz.prog 271 #[.pointer (some ⟨xb, 0, none⟩)] w fun e w' => ∃ (y : NthQ) (v : Value), e = .returned (.tuple #[nthV y, v]) ∧ Sx w' xb rb s (numbersP s p).1 a b c ∧ Kp B [210] w w' ∧
      (((numbersP s p).2 = some y ∧ v = .nilIface) ∨ ((numbersP s p).2 = none ∧ Chain w' 2 (numbersP s p).1 0 v)) := by
  have h0 := h.alloc (.cells #[.string ⟨#[]⟩, .bool false, .int .i64 0, .int .i64 0] 261)
  have rs0 := alloc_at w (.cells #[.string ⟨#[]⟩, .bool false, .int .i64 0, .int .i64 0] 261)
  have hk0 := (Kp.refl B [210] w).alloc (.cells #[.string ⟨#[]⟩, .bool false, .int .i64 0, .int .i64 0] 261)
  have c0 := h0.c0
  go_enter Tryz.func271, Tryz.ntmps271
  go_wp2_with fail
  refine (peek_any rb s p _ h0.1).mono ?_
  rintro e w1 ⟨rfl, n1, rfl⟩
  have h1 := h0.drewN n1
  have c1 := h1.c0
  have hk1 := hk0.drewN n1
  by_cases h111 : peekI s p = 111
  · have HE : Hid (numbersP s p = ((expP s oddW p).1, if (expP s oddW p).2 = true then some ⟨bytesOf oddW, true, 2, 1⟩ else none)) := by unfold numbersP; rw [if_pos h111]; rfl
    rw [h111]
    clear h111
    go_wp2_with fail
    refine (expect_any B rb s (bytesOf oddW) p _ h1.1 hB (by decide)).mono ?_
    rintro e w2 ⟨v, rfl, hr2, hk2, hor⟩
    have rs2 := hk2.at (k := w.heap.size) rs0 (by decide)
    obtain ⟨⟨q0, q1, q2, q3⟩, f0, f1, f2, f3⟩ := cells4 rs2
    go_wp2
    obtain ⟨rsF, kpF⟩ := fin4 rs2 (.string ⟨#[111, 100, 100]⟩) (.bool true) (.int .i64 2) (.int .i64 1)
    refine bodyPost_ret (v := .tuple #[.agg #[.string ⟨#[111, 100, 100]⟩, .bool true, .int .i64 2, .int .i64 1], v]) (by simp [results, Tryz.results271, go_sem, q0, q1, q2, q3]) rfl ?_
    rw [HE.out]
    refine ⟨⟨bytesOf oddW, true, 2, 1⟩, _, rfl, (h1.step hr2 hk2).kept kpF (by decide) (by decide), (hk1.trans hk2).set4 (Nat.le_refl _) _ _ _ _, ?_⟩
    rcases hor with ⟨ho, rfl⟩ | ⟨ho, hc⟩
    · exact .inl ⟨if_pos ho, rfl⟩
    · exact .inr ⟨by dsimp only; rw [show (expP s oddW p).2 = false from ho]; rfl, hc.kept kpF (by decide) (by decide)⟩
  · by_cases h101 : peekI s p = 101
    · have HE : Hid (numbersP s p = ((expP s evenW p).1, if (expP s evenW p).2 = true then some ⟨bytesOf evenW, true, 2, 0⟩ else none)) := by unfold numbersP; rw [if_neg h111, if_pos h101]; rfl
      rw [h101]
      clear h111 h101
      go_wp2_with fail
      refine (expect_any B rb s (bytesOf evenW) p _ h1.1 hB (by decide)).mono ?_
      rintro e w2 ⟨v, rfl, hr2, hk2, hor⟩
      have rs2 := hk2.at (k := w.heap.size) rs0 (by decide)
      obtain ⟨⟨q0, q1, q2, q3⟩, f0, f1, f2, f3⟩ := cells4 rs2
      go_wp2
      obtain ⟨rsF, kpF⟩ := fin4 rs2 (.string ⟨#[101, 118, 101, 110]⟩) (.bool true) (.int .i64 2) (.int .i64 0)
      refine bodyPost_ret (v := .tuple #[.agg #[.string ⟨#[101, 118, 101, 110]⟩, .bool true, .int .i64 2, .int .i64 0], v]) (by simp [results, Tryz.results271, go_sem, q0, q1, q2, q3]) rfl ?_
      rw [HE.out]
      refine ⟨⟨bytesOf evenW, true, 2, 0⟩, _, rfl, (h1.step hr2 hk2).kept kpF (by decide) (by decide), (hk1.trans hk2).set4 (Nat.le_refl _) _ _ _ _, ?_⟩
      rcases hor with ⟨ho, rfl⟩ | ⟨ho, hc⟩
      · exact .inl ⟨if_pos ho, rfl⟩
      · exact .inr ⟨by dsimp only; rw [show (expP s evenW p).2 = false from ho]; rfl, hc.kept kpF (by decide) (by decide)⟩
    · have hn1 : (peekI s p == 111) = false := by simp [h111]
      have hn2 : (peekI s p == 101) = false := by simp [h101]
      have H111 := hide h111; have H101 := hide h101
      clear h111 h101
      go_wp2_with fail
      refine (sign_any B xb rb s p a b c _ h1 hB).mono ?_
      rintro e w2 ⟨rfl, h2, hk2⟩
      have c2 := h2.c0
      have rs2 := hk2.at (k := w.heap.size) rs0 (by decide)
      have hsv := signP_val s p
      generalize hsg : signP s p = r at *
      obtain ⟨q2, sg, sd⟩ := r
      dsimp only at *
      go_wp2_with fail
      refine (count_any B xb rb s q2 a b c _ h2 hB).mono ?_
      rintro e w3 ⟨rfl, h3, hk3⟩
      have c3 := h3.c0
      have rs3 := hk3.at (k := w.heap.size) rs2 (by decide)
      have hbd := countP_bd s q2
      generalize hcn : countP s q2 = r at *
      obtain ⟨q3, cn, cd⟩ := r
      dsimp only at *
      by_cases hn : peekI s q3 = 110
      · have HX : Hid (numbersP s p = ((behindP s (q3 + 1)).1, (behindP s (q3 + 1)).2.map fun b => ⟨noB, true, sg * (if cd = true then cn else 1), b⟩)) := by
          unfold numbersP; rw [if_neg H111.out, if_neg H101.out, hsg]; dsimp only; rw [hcn]; dsimp only; rw [if_pos hn]; rfl
        have HN := hide hn
        clear hsg hcn hn
        go_wp2_with fail
        refine (take_yes B rb s q3 _ _ h3.1 hB (by decide) HN.out).mono ?_
        rintro e w4 ⟨rfl, hr4, hk4⟩
        have h4 := h3.step hr4 hk4
        have c4 := h4.c0
        have rs4 := hk4.at (k := w.heap.size) rs3 (by decide)
        cases cd
        all_goals
          go_wp2_with fail
          refine (behindN_any B xb rb s (q3 + 1) a b c _ h4 hB).mono ?_
          rintro e w5 ⟨i5, v, rfl, h5, hk5, hor⟩
          have rs5 := hk5.at (k := w.heap.size) rs4 (by decide)
          have hm : -99 ≤ sg * cn ∧ sg * cn ≤ 99 := by rcases hsv with e | e <;> rw [e] <;> omega
          have hm1 : -99 ≤ sg * 1 ∧ sg * 1 ≤ 99 := by rcases hsv with e | e <;> rw [e] <;> omega
          have hkk := (((hk1.trans hk2).trans hk3).trans hk4).trans hk5
          have HS := hide hsv
          clear hsv
          obtain ⟨⟨q0, q1, q2', q3'⟩, f0, f1, f2, f3⟩ := cells4 rs5
          go_wp2
        · obtain ⟨rsF, kpF⟩ := fin4 rs5 (.string ⟨#[]⟩) (.bool true) (.int .i64 (sg)) (.int .i64 i5)
          refine bodyPost_ret (v := .tuple #[.agg #[.string ⟨#[]⟩, .bool true, .int .i64 (sg), .int .i64 i5], v]) (by simp [results, Tryz.results271, go_sem, q0, q1, q2', q3']) rfl ?_
          rw [HX.out]
          refine ⟨⟨noB, true, sg, i5⟩, _, rfl, h5.kept kpF (by decide) (by decide), hkk.set4 (Nat.le_refl _) _ _ _ _, ?_⟩
          rcases hor with ⟨ho, rfl⟩ | ⟨ho, hc⟩
          · exact .inl ⟨by rw [ho]; simp, rfl⟩
          · exact .inr ⟨by rw [ho]; rfl, hc.kept kpF (by decide) (by decide)⟩
        · obtain ⟨rsF, kpF⟩ := fin4 rs5 (.string ⟨#[]⟩) (.bool true) (.int .i64 (sg * cn)) (.int .i64 i5)
          refine bodyPost_ret (v := .tuple #[.agg #[.string ⟨#[]⟩, .bool true, .int .i64 (sg * cn), .int .i64 i5], v]) (by simp [results, Tryz.results271, go_sem, q0, q1, q2', q3']) rfl ?_
          rw [HX.out]
          refine ⟨⟨noB, true, sg * cn, i5⟩, _, rfl, h5.kept kpF (by decide) (by decide), hkk.set4 (Nat.le_refl _) _ _ _ _, ?_⟩
          rcases hor with ⟨ho, rfl⟩ | ⟨ho, hc⟩
          · exact .inl ⟨by rw [ho]; simp, rfl⟩
          · exact .inr ⟨by rw [ho]; rfl, hc.kept kpF (by decide) (by decide)⟩
      · have HN := hide hn
        cases cd
        · have HX : Hid (numbersP s p = (q3, none)) := by
            unfold numbersP; rw [if_neg H111.out, if_neg H101.out, hsg]; dsimp only; rw [hcn]; dsimp only; rw [if_neg hn, if_pos rfl]; rfl
          clear hsg hcn hn
          go_wp2_with fail
          refine (take_no B rb s q3 _ _ h3.1 (.inr HN.out)).mono ?_
          rintro e w4 ⟨rfl, hr4, hk4⟩
          have h4 := h3.step hr4 hk4
          have c4 := h4.c0
          have rs4 := hk4.at (k := w.heap.size) rs3 (by decide)
          go_wp2_with fail
          refine (fail_any B rb s q3 _ h4.1).mono ?_
          rintro e w5 ⟨v, rfl, hc, hr5, hk5⟩
          have rs5 := hk5.at (k := w.heap.size) rs4 (by decide)
          have hkk := (((hk1.trans hk2).trans hk3).trans hk4).trans hk5
          obtain ⟨⟨q0, q1, q2', q3'⟩, f0, f1, f2, f3⟩ := cells4 rs5
          go_wp2
          obtain ⟨rsF, kpF⟩ := fin4 rs5 (.string ⟨#[]⟩) (.bool false) (.int .i64 0) (.int .i64 0)
          refine bodyPost_ret (v := .tuple #[.agg #[.string ⟨#[]⟩, .bool false, .int .i64 0, .int .i64 0], v]) (by simp [results, Tryz.results271, go_sem, q0, q1, q2', q3']) rfl ?_
          rw [HX.out]
          exact ⟨noNth, _, rfl, (h4.step hr5 hk5).kept kpF (by decide) (by decide), hkk.set4 (Nat.le_refl _) _ _ _ _, .inr ⟨rfl, hc.kept kpF (by decide) (by decide)⟩⟩
        · have HX : Hid (numbersP s p = (q3, some ⟨noB, false, 0, sg * cn⟩)) := by
            unfold numbersP; rw [if_neg H111.out, if_neg H101.out, hsg]; dsimp only; rw [hcn]; dsimp only; rw [if_neg hn, if_neg (by simp)]; rfl
          clear hsg hcn hn
          go_wp2_with fail
          refine (take_no B rb s q3 _ _ h3.1 (.inr HN.out)).mono ?_
          rintro e w4 ⟨rfl, hr4, hk4⟩
          have h4 := h3.step hr4 hk4
          have c4 := h4.c0
          have rs4 := hk4.at (k := w.heap.size) rs3 (by decide)
          have hkk := ((hk1.trans hk2).trans hk3).trans hk4
          have hm : -99 ≤ sg * cn ∧ sg * cn ≤ 99 := by rcases hsv with e | e <;> rw [e] <;> omega
          obtain ⟨⟨q0, q1, q2', q3'⟩, f0, f1, f2, f3⟩ := cells4 rs4
          clear hsv
          go_wp2
          obtain ⟨rsF, kpF⟩ := fin4 rs4 (.string ⟨#[]⟩) (.bool false) (.int .i64 0) (.int .i64 (sg * cn))
          refine bodyPost_ret (v := .tuple #[.agg #[.string ⟨#[]⟩, .bool false, .int .i64 0, .int .i64 (sg * cn)], .nilIface]) (by simp [results, Tryz.results271, go_sem, q0, q1, q2', q3']) rfl ?_
          rw [HX.out]
          exact ⟨⟨noB, false, 0, sg * cn⟩, _, rfl, h4.kept kpF (by decide) (by decide), hkk.set4 (Nat.le_refl _) _ _ _ _, .inl ⟨rfl, rfl⟩⟩
end Go.Proofs.YtclpcnignheijaaGreatDoor
