import Derived.Test.YtclpcnignheijaaGreatDoorS8
namespace Go.Proofs.YtclpcnignheijaaGreatDoor
open Go.RowKit

def attrV (x : AttrQ) : Value := .agg #[.string x.name, .string x.op, .string x.val, .bool x.any]
set_option maxHeartbeats 1600000 in
theorem sattribute_any (B xb rb : Nat) (s : ByteArray) (p a b c : Nat) (w : World) (h : Sx w xb rb s p a b c) (hB : B ≤ rb) :
    Calls Tryz.prog 255 #[.pointer (some ⟨xb, 0, none⟩)] w fun e w' => ∃ (y : AttrQ) (v : Value) (q : Nat), e = .returned (.tuple #[attrV y, v]) ∧ Sx w' xb rb s q a b c ∧ Kp B [210] w w' ∧
      (((attrQP s p).2 = some y ∧ q = (attrQP s p).1 ∧ v = .nilIface) ∨ ((attrQP s p).2 = none ∧ ∃ n, Chain w' 2 (attrQP s p).1 n v)) := by
  have h0 := h.alloc (.cells #[.string ⟨#[]⟩, .string ⟨#[]⟩, .string ⟨#[]⟩, .bool false] 259)
  have rs0 := alloc_at w (.cells #[.string ⟨#[]⟩, .string ⟨#[]⟩, .string ⟨#[]⟩, .bool false] 259)
  have hk0 := (Kp.refl B [210] w).alloc (.cells #[.string ⟨#[]⟩, .string ⟨#[]⟩, .string ⟨#[]⟩, .bool false] 259)
  have c0 := h0.c0
  go_enter Tryz.func255, Tryz.ntmps255
  go_wp2_with fail
  refine (spaces_any B rb s p _ h0.1 hB).mono ?_
  rintro e w1 ⟨rfl, hr1, hk1⟩
  have h1 := h0.step hr1 hk1
  have c1 := h1.c0
  have rs1 := hk1.at (k := w.heap.size) rs0 (by decide)
  have hkA := hk0.trans hk1
  clear c0 h0 rs0 hk0
  go_wp2_with fail
  refine (sname_any B rb s (spP s p) _ h1.1 hB).mono ?_
  rintro e w2 ⟨n, v, rfl, hr2, hk2, hor⟩
  have h2 := h1.step hr2 hk2
  have rs2 := hk2.at (k := w.heap.size) rs1 (by decide)
  have hkB := hkA.trans hk2
  clear c1 h1 rs1 hkA
  rcases hor with ⟨ho, rfl⟩ | ⟨ho, hc⟩
  rotate_left
  · have HE : Hid (attrQP s p = ((newP s (spP s p) noneTaken).1, none)) := by
      unfold attrQP
      generalize newP s (spP s p) noneTaken = r at ho
      obtain ⟨q, o⟩ := r
      dsimp only at ho
      subst ho; rfl
    obtain ⟨ty, kk, hv⟩ := hc.shape
    rw [hv] at hc ⊢
    go_wp2_with fail
    refine (while_err B [] _ _ _ _ _ _ hc).mono ?_
    rintro e w3 ⟨u, rfl, hc3, hk3⟩
    have rs3 := hk3.at rs2 (by simp)
    obtain ⟨⟨q0, q1, q2, q3⟩, f0, f1, f2, f3⟩ := cells4 rs3
    go_wp2
    obtain ⟨rsF, kpF⟩ := fin4 rs3 (.string ⟨#[]⟩) (.string ⟨#[]⟩) (.string ⟨#[]⟩) (.bool false)
    refine bodyPost_ret (v := .tuple #[.agg #[.string ⟨#[]⟩, .string ⟨#[]⟩, .string ⟨#[]⟩, .bool false], u]) (by simp [results, Tryz.results255, go_sem, q0, q1, q2, q3]) rfl ?_
    rw [HE.out]
    exact ⟨noAttr, u, _, rfl, (h2.kept hk3 (by simp) (by simp)).kept kpF (by decide) (by decide), (hkB.trans (hk3.mono (Nat.le_refl _) (by simp))).set4 (Nat.le_refl _) _ _ _ _, .inr ⟨rfl, _, hc3.kept kpF (by decide) (by decide)⟩⟩
  · generalize hq : (newP s (spP s p) noneTaken).1 = q at *
    have HN : Hid (newP s (spP s p) noneTaken = (q, some n)) := by rw [← hq, ho]; rfl
    clear hq ho
    have c2 := h2.c0
    go_wp2_with fail
    refine (spaces_any B rb s q _ h2.1 hB).mono ?_
    rintro e w3 ⟨rfl, hr3, hk3⟩
    have h3 := h2.step hr3 hk3
    have rs3 := hk3.at (k := w.heap.size) rs2 (by decide)
    have hkC := hkB.trans hk3
    clear c2 h2 rs2 hkB
    have h4 := h3.alloc (.cells #[.string n, .string ⟨#[]⟩, .string ⟨#[]⟩, .bool false] 259)
    have ns4 := alloc_at w3 (.cells #[.string n, .string ⟨#[]⟩, .string ⟨#[]⟩, .bool false] 259)
    have rs4 := alloc_old rs3 (.cells #[.string n, .string ⟨#[]⟩, .string ⟨#[]⟩, .bool false] 259)
    have hkD := hkC.alloc (.cells #[.string n, .string ⟨#[]⟩, .string ⟨#[]⟩, .bool false] 259)
    have c4 := h4.c0
    have hNR : w.heap.size < w3.heap.size := lt_of_block rs3
    generalize hN3 : w3.heap.size = N3 at *
    clear h3 rs3 hkC
    go_wp2_with fail
    refine (peek_any rb s (spP s q) _ h4.1).mono ?_
    rintro e w5 ⟨rfl, n5, rfl⟩
    have h5 := h4.drewN n5
    have c5 := h5.c0
    have hkE := hkD.drewN n5
    by_cases h93 : peekI s (spP s q) = 93
    · have HE : Hid (attrQP s p = (spP s q, some ⟨n, noB, noB, false⟩)) := by unfold attrQP; rw [HN.out]; dsimp only; rw [if_pos h93]; rfl
      rw [h93]
      clear h93
      obtain ⟨⟨q0, q1, q2, q3⟩, f0, f1, f2, f3⟩ := cells4 (w := (w3.alloc (.cells #[.string n, .string ⟨#[]⟩, .string ⟨#[]⟩, .bool false] 259)).drewN n5) rs4
      obtain ⟨⟨m0, m1, m2, m3⟩, _⟩ := cells4 (w := (w3.alloc (.cells #[.string n, .string ⟨#[]⟩, .string ⟨#[]⟩, .bool false] 259)).drewN n5) ns4
      go_wp2
      obtain ⟨rsF, kpF⟩ := fin4 (w := (w3.alloc (.cells #[.string n, .string ⟨#[]⟩, .string ⟨#[]⟩, .bool false] 259)).drewN n5) rs4 (.string n) (.string ⟨#[]⟩) (.string ⟨#[]⟩) (.bool false)
      refine bodyPost_ret (v := .tuple #[.agg #[.string n, .string ⟨#[]⟩, .string ⟨#[]⟩, .bool false], .nilIface]) (by simp [results, Tryz.results255, go_sem, q0, q1, q2, q3]) rfl ?_
      rw [HE.out]
      exact ⟨⟨n, noB, noB, false⟩, _, _, rfl, h5.kept kpF (by decide) (by decide), hkE.set4 (Nat.le_refl _) _ _ _ _, .inl ⟨rfl, rfl, rfl⟩⟩
    · have h93' : (peekI s (spP s q) == 93) = false := by simp [h93]
      have H93 := hide h93
      clear h93
      go_wp2_with fail
      refine (operator_any B xb rb s (spP s q) a b c _ h5 hB).mono ?_
      rintro e w6 ⟨o, v, rfl, h6, hk6, hor⟩
      have rs6 := hk6.at (k := w.heap.size) rs4 (by decide)
      have ns6 := hk6.at (k := N3) ns4 (by decide)
      have hkF := hkE.trans hk6
      clear h5 c5 rs4 ns4 hkE hkD c4 h4
      rcases hor with ⟨i, ho, hob, rfl⟩ | ⟨ho, hc⟩
      rotate_left
      · have HE : Hid (attrQP s p = ((oneP s opsW 3 [] (spP s q)).1, none)) := by
          unfold attrQP; rw [HN.out]; dsimp only; rw [if_neg H93.out]
          generalize oneP s opsW 3 [] (spP s q) = r at ho
          obtain ⟨q', o'⟩ := r
          dsimp only at ho
          subst ho; rfl
        obtain ⟨ty, kk, hv⟩ := hc.shape
        rw [hv] at hc ⊢
        obtain ⟨⟨m0, m1, m2, m3⟩, e0, e1, e2, e3⟩ := cells4 ns6
        have kpo := Kp.setAny (p := ⟨N3, 1, none⟩) ns6 (.string o)
        have rs7 := setCell_other (a := ⟨N3, 1, none⟩) rs6 (Nat.ne_of_lt hNR) (.string o)
        have hkG := hkF.setNew (p := ⟨N3, 1, none⟩) (Nat.le_of_lt hNR) (.string o)
        go_wp2_with fail
        refine (while_err B [] _ _ _ _ _ _ (hc.kept kpo (by decide) (by decide))).mono ?_
        rintro e w8 ⟨u, rfl, hc8, hk8⟩
        have rs8 := hk8.at rs7 (by simp)
        obtain ⟨⟨q0, q1, q2, q3⟩, f0, f1, f2, f3⟩ := cells4 rs8
        go_wp2
        obtain ⟨rsF, kpF⟩ := fin4 rs8 (.string ⟨#[]⟩) (.string ⟨#[]⟩) (.string ⟨#[]⟩) (.bool false)
        refine bodyPost_ret (v := .tuple #[.agg #[.string ⟨#[]⟩, .string ⟨#[]⟩, .string ⟨#[]⟩, .bool false], u]) (by simp [results, Tryz.results255, go_sem, q0, q1, q2, q3]) rfl ?_
        rw [HE.out]
        exact ⟨noAttr, u, _, rfl, ((h6.kept kpo (by decide) (by decide)).kept hk8 (by simp) (by simp)).kept kpF (by decide) (by decide), (hkG.trans (hk8.mono (Nat.le_refl _) (by simp))).set4 (Nat.le_refl _) _ _ _ _, .inr ⟨rfl, _, hc8.kept kpF (by decide) (by decide)⟩⟩
      · generalize hq2 : (oneP s opsW 3 [] (spP s q)).1 = qq at *
        have HO : Hid (oneP s opsW 3 [] (spP s q) = (qq, some i)) := by rw [← hq2, ← ho]; rfl
        have HOB := hide hob
        clear hq2 ho hob
        obtain ⟨⟨m0, m1, m2, m3⟩, e0, e1, e2, e3⟩ := cells4 ns6
        have kpo := Kp.setAny (p := ⟨N3, 1, none⟩) ns6 (.string o)
        have rs7 := setCell_other (a := ⟨N3, 1, none⟩) rs6 (Nat.ne_of_lt hNR) (.string o)
        have ns7 : (w6.setCell ⟨N3, 1, none⟩ (.string o)).heap[N3]? = some (.cells #[.string n, .string o, .string ⟨#[]⟩, .bool false] 259 (0, 0)) := set_blk (o := 1) ns6 (.string o)
        have hkG := hkF.setNew (p := ⟨N3, 1, none⟩) (Nat.le_of_lt hNR) (.string o)
        have h7 := h6.kept kpo (by decide) (by decide)
        have c7 := h7.c0
        have c6 := h6.c0
        have hxN := block_ne h6.2.choose_spec ns6 (by decide)
        have hNx := Ne.symm hxN
        clear h6 rs6 ns6 hkF
        go_wp2_with fail
        refine (spaces_any B rb s qq _ h7.1 hB).mono ?_
        rintro e w8 ⟨rfl, hr8, hk8⟩
        have h8 := h7.step hr8 hk8
        have c8 := h8.c0
        have rs8 := hk8.at (k := w.heap.size) rs7 (by decide)
        have ns8 := hk8.at (k := N3) ns7 (by decide)
        have hkH := hkG.trans hk8
        clear c6 h7 c7 rs7 ns7 hkG m0 m1 m2 m3 e0 e1 e2 e3 kpo
        go_wp2_with fail
        refine (against_any B xb rb s (spP s qq) a b c _ h8 hB).mono ?_
        rintro e w9 ⟨x, v, rfl, h9, hk9, hor⟩
        have rs9 := hk9.at (k := w.heap.size) rs8 (by decide)
        have ns9 := hk9.at (k := N3) ns8 (by decide)
        have hkI := hkH.trans hk9
        clear h8 c8 rs8 ns8 hkH
        obtain ⟨⟨m0, m1, m2, m3⟩, e0, e1, e2, e3⟩ := cells4 ns9
        have kpo := Kp.setAny (p := ⟨N3, 2, none⟩) ns9 (.string x)
        have rs10 := setCell_other (a := ⟨N3, 2, none⟩) rs9 (Nat.ne_of_lt hNR) (.string x)
        have ns10 : (w9.setCell ⟨N3, 2, none⟩ (.string x)).heap[N3]? = some (.cells #[.string n, .string o, .string x, .bool false] 259 (0, 0)) := set_blk (o := 2) ns9 (.string x)
        have hkJ := hkI.setNew (p := ⟨N3, 2, none⟩) (Nat.le_of_lt hNR) (.string x)
        have h10 := h9.kept kpo (by decide) (by decide)
        rcases hor with ⟨ho, rfl⟩ | ⟨ho, hc⟩
        rotate_left
        · have HE : Hid (attrQP s p = ((againstP s (spP s qq)).1, none)) := by
            unfold attrQP; rw [HN.out]; dsimp only; rw [if_neg H93.out, HO.out]; dsimp only
            generalize againstP s (spP s qq) = r at ho
            obtain ⟨q', o'⟩ := r
            dsimp only at ho
            subst ho; rfl
          obtain ⟨ty, kk, hv⟩ := hc.shape
          rw [hv] at hc ⊢
          go_wp2_with fail
          refine (while_err B [] _ _ _ _ _ _ (hc.kept kpo (by decide) (by decide))).mono ?_
          rintro e w11 ⟨u, rfl, hc11, hk11⟩
          have rs11 := hk11.at rs10 (by simp)
          clear m0 m1 m2 m3 e0 e1 e2 e3
          obtain ⟨⟨q0, q1, q2, q3⟩, f0, f1, f2, f3⟩ := cells4 rs11
          go_wp2
          obtain ⟨rsF, kpF⟩ := fin4 rs11 (.string ⟨#[]⟩) (.string ⟨#[]⟩) (.string ⟨#[]⟩) (.bool false)
          refine bodyPost_ret (v := .tuple #[.agg #[.string ⟨#[]⟩, .string ⟨#[]⟩, .string ⟨#[]⟩, .bool false], u]) (by simp [results, Tryz.results255, go_sem, q0, q1, q2, q3]) rfl ?_
          rw [HE.out]
          exact ⟨noAttr, u, _, rfl, (h10.kept hk11 (by simp) (by simp)).kept kpF (by decide) (by decide), (hkJ.trans (hk11.mono (Nat.le_refl _) (by simp))).set4 (Nat.le_refl _) _ _ _ _, .inr ⟨rfl, _, hc11.kept kpF (by decide) (by decide)⟩⟩
        · generalize hq3 : (againstP s (spP s qq)).1 = q3 at *
          have HA : Hid (againstP s (spP s qq) = (q3, some x)) := by rw [← hq3, ← ho]; rfl
          clear hq3 ho
          have c10 := h10.c0
          have c9 := h9.c0
          go_wp2_with fail
          refine (spaces_any B rb s q3 _ h10.1 hB).mono ?_
          rintro e w11 ⟨rfl, hr11, hk11⟩
          have h11 := h10.step hr11 hk11
          have c11 := h11.c0
          have rs11 := hk11.at (k := w.heap.size) rs10 (by decide)
          have ns11 := hk11.at (k := N3) ns10 (by decide)
          have hkK := hkJ.trans hk11
          clear c9 m0 m1 m2 m3 e0 e1 e2 e3 h10 c10 rs10 ns10 hkJ h9 rs9 ns9 hkI kpo
          by_cases h105 : peekI s (spP s q3) = 105
          · have HE : Hid (attrQP s p = (spP s (spP s q3 + 1), some ⟨n, o, x, true⟩)) := by
              unfold attrQP; rw [HN.out]; dsimp only; rw [if_neg H93.out, HO.out]; dsimp only; rw [HA.out]; dsimp only; unfold anyP; rw [if_pos h105, HOB.out]; rfl
            have H105 := hide h105
            clear h105
            go_wp2_with fail
            refine (take_yes B rb s (spP s q3) _ _ h11.1 hB (by decide) H105.out).mono ?_
            rintro e w12 ⟨rfl, hr12, hk12⟩
            have h12 := h11.step hr12 hk12
            have rs12 := hk12.at (k := w.heap.size) rs11 (by decide)
            have ns12 := hk12.at (k := N3) ns11 (by decide)
            have hkL := hkK.trans hk12
            obtain ⟨⟨m0, m1, m2, m3⟩, e0, e1, e2, e3⟩ := cells4 ns12
            have kpo := Kp.setAny (p := ⟨N3, 3, none⟩) ns12 (.bool true)
            have rs13 := setCell_other (a := ⟨N3, 3, none⟩) rs12 (Nat.ne_of_lt hNR) (.bool true)
            have ns13 : (w12.setCell ⟨N3, 3, none⟩ (.bool true)).heap[N3]? = some (.cells #[.string n, .string o, .string x, .bool true] 259 (0, 0)) := set_blk (o := 3) ns12 (.bool true)
            have hkM := hkL.setNew (p := ⟨N3, 3, none⟩) (Nat.le_of_lt hNR) (.bool true)
            have h13 := h12.kept kpo (by decide) (by decide)
            have c13 := h13.c0
            have c12 := h12.c0
            go_wp2_with fail
            refine (spaces_any B rb s _ _ h13.1 hB).mono ?_
            rintro e w14 ⟨rfl, hr14, hk14⟩
            have h14 := h13.step hr14 hk14
            have rs14 := hk14.at (k := w.heap.size) rs13 (by decide)
            have ns14 := hk14.at (k := N3) ns13 (by decide)
            have hkN := hkM.trans hk14
            clear m0 m1 m2 m3 e0 e1 e2 e3 c12 c13 c11
            obtain ⟨⟨m0, m1, m2, m3⟩, e0, e1, e2, e3⟩ := cells4 ns14
            obtain ⟨⟨q0, q1, q2, q3'⟩, f0, f1, f2, f3⟩ := cells4 rs14
            go_wp2
            obtain ⟨rsF, kpF⟩ := fin4 rs14 (.string n) (.string o) (.string x) (.bool true)
            refine bodyPost_ret (v := .tuple #[.agg #[.string n, .string o, .string x, .bool true], .nilIface]) (by simp [results, Tryz.results255, go_sem, q0, q1, q2, q3']) rfl ?_
            rw [HE.out]
            exact ⟨⟨n, o, x, true⟩, _, _, rfl, h14.kept kpF (by decide) (by decide), hkN.set4 (Nat.le_refl _) _ _ _ _, .inl ⟨rfl, rfl, rfl⟩⟩
          · have HE : Hid (attrQP s p = (spP s (spP s q3), some ⟨n, o, x, false⟩)) := by
              unfold attrQP; rw [HN.out]; dsimp only; rw [if_neg H93.out, HO.out]; dsimp only; rw [HA.out]; dsimp only; unfold anyP; rw [if_neg h105, HOB.out]; rfl
            have H105 := hide h105
            clear h105
            go_wp2_with fail
            refine (take_no B rb s (spP s q3) _ _ h11.1 (.inr H105.out)).mono ?_
            rintro e w12 ⟨rfl, hr12, hk12⟩
            have h12 := h11.step hr12 hk12
            have rs12 := hk12.at (k := w.heap.size) rs11 (by decide)
            have ns12 := hk12.at (k := N3) ns11 (by decide)
            have hkL := hkK.trans hk12
            obtain ⟨⟨m0, m1, m2, m3⟩, e0, e1, e2, e3⟩ := cells4 ns12
            have kpo := Kp.setAny (p := ⟨N3, 3, none⟩) ns12 (.bool false)
            have rs13 := setCell_other (a := ⟨N3, 3, none⟩) rs12 (Nat.ne_of_lt hNR) (.bool false)
            have ns13 : (w12.setCell ⟨N3, 3, none⟩ (.bool false)).heap[N3]? = some (.cells #[.string n, .string o, .string x, .bool false] 259 (0, 0)) := set_blk (o := 3) ns12 (.bool false)
            have hkM := hkL.setNew (p := ⟨N3, 3, none⟩) (Nat.le_of_lt hNR) (.bool false)
            have h13 := h12.kept kpo (by decide) (by decide)
            have c13 := h13.c0
            have c12 := h12.c0
            go_wp2_with fail
            refine (spaces_any B rb s _ _ h13.1 hB).mono ?_
            rintro e w14 ⟨rfl, hr14, hk14⟩
            have h14 := h13.step hr14 hk14
            have rs14 := hk14.at (k := w.heap.size) rs13 (by decide)
            have ns14 := hk14.at (k := N3) ns13 (by decide)
            have hkN := hkM.trans hk14
            clear m0 m1 m2 m3 e0 e1 e2 e3 c12 c13 c11
            obtain ⟨⟨m0, m1, m2, m3⟩, e0, e1, e2, e3⟩ := cells4 ns14
            obtain ⟨⟨q0, q1, q2, q3'⟩, f0, f1, f2, f3⟩ := cells4 rs14
            go_wp2
            obtain ⟨rsF, kpF⟩ := fin4 rs14 (.string n) (.string o) (.string x) (.bool false)
            refine bodyPost_ret (v := .tuple #[.agg #[.string n, .string o, .string x, .bool false], .nilIface]) (by simp [results, Tryz.results255, go_sem, q0, q1, q2, q3']) rfl ?_
            rw [HE.out]
            exact ⟨⟨n, o, x, false⟩, _, _, rfl, h14.kept kpF (by decide) (by decide), hkN.set4 (Nat.le_refl _) _ _ _ _, .inl ⟨rfl, rfl, rfl⟩⟩
end Go.Proofs.YtclpcnignheijaaGreatDoor
