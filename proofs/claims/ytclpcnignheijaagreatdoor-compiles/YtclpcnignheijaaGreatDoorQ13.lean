/-
  PARTS OF THE PROOF OF THE LAW 'Compiles', joined into one text: Y4, Y5.
-/
import Derived.Test.YtclpcnignheijaaGreatDoorX2
import Derived.Test.YtclpcnignheijaaGreatDoorQ8
import Derived.Test.YtclpcnignheijaaGreatDoorQ12
/-
  The law Compiles: both sides answer alike to every text, and write alike.
-/
namespace Go.Proofs.YtclpcnignheijaaGreatDoor
open Go.RowKit

theorem Et.below {w w' : World} {B : Nat} (h : Et w) (k : Below B w w') (hB : 0 < B) : Et w' := by
  have hl := h.lt
  unfold Et World.cell? at *
  rw [k.block _ hB]; exact h
/-- What compiled promises of a text. -/
def CompiledPost (s : ByteArray) (w : World) (e : Ending) (w' : World) : Prop := Below w.heap.size w w' ∧
  ((∃ l sb plv lv, compP s = (0, 0, some l) ∧ e = .returned (.tuple #[.agg #[.pointer (some ⟨sb, 0, none⟩), lv], .bool true]) ∧ (∃ la lm lc, lv = .slice la lm lc) ∧ w'.heap[sb]? = some (.cells #[plv] 96 (0, 0)) ∧ RepL progL (fun _ => True) w' (s.size + 1) plv l ∧ RepL docL (fun _ => True) w' (s.size + 1) lv l) ∨
   ((compP s).2.2 = none ∧ ∃ lv, e = .returned (.tuple #[.agg #[.pointer none, lv], .bool true]) ∧ (∃ la lm lc, lv = .slice la lm lc)))
set_option maxRecDepth 100000 in
set_option maxHeartbeats 4000000 in
theorem compiled_any (s : ByteArray) (w : World) (he : Et w) :
    Calls Tryz.prog 17 #[.string s] w (CompiledPost s w) := by
  have rs0 := alloc_at w (.cells #[.pointer none, .slice none 0 0] 44)
  have hb0 : Below w.heap.size w (w.alloc (.cells #[.pointer none, .slice none 0 0] 44)) := (Below.refl _ _).alloc (Nat.le_refl _) _
  have he0 := he.below hb0 he.lt
  have hsz0 : w.heap.size < (w.alloc (.cells #[.pointer none, .slice none 0 0] 44)).heap.size := by simp
  unfold CompiledPost
  go_enter Tryz.func17, Tryz.ntmps17
  go_wp2_with fail
  generalize w.alloc (.cells #[.pointer none, .slice none 0 0] 44) = w0 at *
  refine (compile_any s _).mono ?_
  rintro e w1 ⟨hb1, hor⟩
  have rs1 := below_at hb1 rs0 hsz0
  have he1 := he0.below hb1 he0.lt
  have hbA := hb0.trans (hb1.mono (by omega))
  have hsz1 := hb1.size
  rcases hor with ⟨l, sb, lv, hcp, rfl, hsb, hs1, hr1⟩ | ⟨hcn, hc0, v, rfl, hrf⟩
  · have HC := hide hcp
    clear hcp
    have hsl := lt_of_block hs1
    go_wp2_with fail
    refine (rcompile_any s _).mono ?_
    rintro e w2 ⟨hb2, lv2, rfl, ⟨la, lm, lc, rfl⟩, hr2⟩
    have hr2 := hr2 l (by rw [HC.out])
    have hs2 := below_at hb2 hs1 hsl
    have hp2 : RepL progL (fun _ => True) w2 (s.size + 1) lv l := hr1.map fun g c t _ hb _ => ⟨trivial, below_at hb2 hb (lt_of_block hb)⟩
    have hd2 : RepL docL (fun _ => True) w2 (s.size + 1) (.slice la lm lc) l := hr2.map (Fr.same fun _ _ => trivial)
    have rs2 := below_at hb2 rs1 (by omega)
    have hbB := hbA.trans (hb2.mono (by omega))
    have e1 : (((compP s).1 : Nat) : Int) = 0 := by rw [HC.out]; rfl
    have e2 : (((compP s).2.1 : Nat) : Int) = 0 := by rw [HC.out]; rfl
    rw [e1, e2]
    clear e1 e2 hr1 hr2
    go_wp2_with fail
    refine (told_ok _).mono ?_
    rintro e w3 ⟨rfl, rfl⟩
    have c0 := cell2_0 rs2; have c1 := cell2_1 rs2; have f0 := free_of (o := 0) rs2; have f1 := free_of (o := 1) rs2
    go_wp2
    have hne : sb ≠ w.heap.size := by omega
    obtain ⟨rsF, kpF⟩ := fin2 rs2 (.pointer (some ⟨sb, 0, none⟩)) (.slice la lm lc)
    refine bodyPost_ret (v := .tuple #[.agg #[.pointer (some ⟨sb, 0, none⟩), .slice la lm lc], .bool true]) (by simp [results, Tryz.results17, go_sem, c0, c1]) rfl ?_
    refine ⟨(hbB.setCell (p := ⟨w.heap.size, 0, none⟩) (Nat.le_refl _) _).setCell (p := ⟨w.heap.size, 1, none⟩) (Nat.le_refl _) _, .inl ⟨l, sb, lv, _, HC.out, rfl, ⟨_, _, _, rfl⟩, kpF.at hs2 (by decide), hp2.map (Fr.ofKp kpF (by decide) (by decide) (by decide) fun _ h => h), hd2.map (Fr.ofKp kpF (by decide) (by decide) (by decide) fun _ h => h)⟩⟩
  · have HC := hide hcn; have H0 := hide hc0
    clear hcn hc0
    obtain ⟨kr, ur, nn, hv, _⟩ := id hrf
    subst hv
    go_wp2_with fail
    refine (rcompile_any s _).mono ?_
    rintro e w2 ⟨hb2, lv2, rfl, ⟨la, lm, lc, rfl⟩, _⟩
    have rs2 := below_at hb2 rs1 (by omega)
    have he2 := he1.below hb2 he1.lt
    have hbB := hbA.trans (hb2.mono (by omega))
    have hrf2 := hrf.kept (Kp.ofBelow (B := 0) (T := []) hb2) (by simp) (by simp) (by simp)
    have hsz2 := hb2.size
    have hc1 : (((compP s).1 : Nat) : Int) ≠ 0 := by have := H0.out; omega
    generalize (((compP s).1 : Nat) : Int) = cc at *
    generalize (((compP s).2.1 : Nat) : Int) = pp at *
    clear hrf he1
    go_wp2_with fail
    refine (told_bad cc pp _ _ hrf2 hc1 he2).mono ?_
    rintro e w3 ⟨rfl, hb3⟩
    have rs3 := below_at hb3 rs2 (by omega)
    have hbC := hbB.trans (hb3.mono (by omega))
    have bc : (cc != 0) = true := by simpa using hc1
    have c0 := cell2_0 rs3; have c1 := cell2_1 rs3; have f0 := free_of (o := 0) rs3; have f1 := free_of (o := 1) rs3
    clear hc1
    go_wp2
    refine bodyPost_ret (v := .tuple #[.agg #[.pointer none, .slice la lm lc], .bool true]) (by simp [results, Tryz.results17, go_sem, c0, c1]) rfl ?_
    exact ⟨(hbC.setCell (p := ⟨w.heap.size, 0, none⟩) (Nat.le_refl _) _).setCell (p := ⟨w.heap.size, 1, none⟩) (Nat.le_refl _) _, .inr ⟨HC.out, _, rfl, ⟨_, _, _, rfl⟩⟩⟩
theorem comp_text {s : ByteArray} {l : SLst} (h : compP s = (0, 0, some l)) : wfL (s.size + 1) l ∧ (textL (s.size + 1) l).length ≤ 1000000 ∧ textL (s.size + 1) l ≠ [] := by
  by_cases hs : 200 < s.size
  · rw [comp_long hs] at h; cases h
  · unfold compP at h
    rw [if_neg hs] at h
    have h1 := fun x => listP_text (s := s) (n := s.size + 1) (p := 0) (x := x) (Nat.zero_le _)
    generalize listP s (s.size + 1) 0 = r at h h1
    obtain ⟨q, o⟩ := r
    cases o with
    | none => cases h
    | some x =>
      obtain ⟨l', cn, d⟩ := x
      dsimp only at h
      split at h
      · cases h
      · split at h
        · cases h
        · cases h
          obtain ⟨a, b, c⟩ := h1 _ rfl
          dsimp only at a b c
          exact ⟨a, by omega, c⟩
def meanS : ByteArray := ⟨#[117, 108, 32, 62, 32, 46, 121, 44, 32, 108, 105, 32, 43, 32, 76, 73, 32, 32, 98, 114]⟩
theorem mean_is : ((compP meanS).1, (compP meanS).2.1, (compP meanS).2.2.map (textL (meanS.size + 1))) = (0, 0, some [117, 108, 62, 46, 121, 44, 108, 105, 43, 108, 105, 32, 98, 114]) := by kernel_rfl
theorem mean_some : ∃ l, compP meanS = (0, 0, some l) ∧ textL (meanS.size + 1) l = [117, 108, 62, 46, 121, 44, 108, 105, 43, 108, 105, 32, 98, 114] := by
  have h := mean_is
  generalize compP meanS = r at h
  obtain ⟨a, b, o⟩ := r
  simp only [Prod.mk.injEq] at h
  obtain ⟨rfl, rfl, h⟩ := h
  cases o with
  | none => cases h
  | some l => exact ⟨l, rfl, Option.some.inj h⟩
end Go.Proofs.YtclpcnignheijaaGreatDoor
namespace Go.Proofs.YtclpcnignheijaaGreatDoor
open Go.RowKit

set_option maxRecDepth 100000 in
set_option maxHeartbeats 4000000 in
theorem compiles_any (s : ByteArray) (w : World) (he : Et w) (ht : Tb w) :
    Calls Tryz.prog 4 #[.string s] w fun e w' => e = .returned (.bool true) ∧ Below w.heap.size w w' := by
  obtain ⟨l0, hm, hmt⟩ := mean_some
  have HM := hide hm; have HMT := hide hmt
  clear hm hmt
  go_enter Tryz.func4, Tryz.ntmps4
  go_wp2_with fail
  refine (show Calls _ _ #[.string meanS] _ _ from compiled_any meanS _ he).mono ?_
  rintro e w1 ⟨hb1, hor⟩
  have he1 := he.below hb1 he.lt
  have ht1 := ht.below hb1 ht.lt
  have hsz1 := hb1.size
  rcases hor with ⟨l, sb, plv, lv, hcp, rfl, ⟨la, lm, lc, rfl⟩, hs1, hp1, hd1⟩ | ⟨hn, _⟩
  rotate_left
  · rw [HM.out] at hn; cases hn
  obtain rfl : l = l0 := by rw [HM.out] at hcp; cases hcp; rfl
  obtain ⟨hw1, hl1, hne1⟩ := comp_text HM.out
  clear hcp
  have rsA := alloc_at w1 (.cells #[.pointer (some ⟨sb, 0, none⟩), .slice la lm lc] 44)
  have hbA := hb1.alloc hsz1 (.cells #[.pointer (some ⟨sb, 0, none⟩), .slice la lm lc] 44)
  have heA := he.below hbA he.lt
  have htA := ht.below hbA ht.lt
  have hsA := alloc_old hs1 (.cells #[.pointer (some ⟨sb, 0, none⟩), .slice la lm lc] 44)
  have hpA : RepL progL (fun _ => True) (w1.alloc (.cells #[.pointer (some ⟨sb, 0, none⟩), .slice la lm lc] 44)) (meanS.size + 1) plv l := hp1.map (Fr.alloc _ fun _ h => h)
  have c0 := cell2_0 rsA; have c1 := cell2_1 rsA
  have hsiz : w.heap.size ≤ (w1.alloc (.cells #[.pointer (some ⟨sb, 0, none⟩), .slice la lm lc] 44)).heap.size := hbA.size
  go_wp2_with fail
  clear c0 c1
  generalize w1.alloc (.cells #[.pointer (some ⟨sb, 0, none⟩), .slice la lm lc] 44) = wA at *
  refine (selWrite_any (meanS.size + 1) sb plv l _ hsA htA hpA hw1 hl1 hne1).mono ?_
  rintro e w2 ⟨rfl, hb2⟩
  rw [HMT.out]
  have hbB := hbA.trans (hb2.mono hsiz)
  have heB := he.below hbB he.lt
  have htB := ht.below hbB ht.lt
  have hszB := hbB.size
  clear hpA hsA rsA hp1 hd1 hs1 hw1 hl1 hne1 heA htA he1 ht1 hb2 hbA hb1 hsz1 hsiz HM HMT
  have hbl : (bytesOf [117, 108, 62, 46, 121, 44, 108, 105, 43, 108, 105, 32, 98, 114]) = ⟨#[117, 108, 62, 46, 121, 44, 108, 105, 43, 108, 105, 32, 98, 114]⟩ := rfl
  rw [hbl]
  clear hbl
  go_wp2_with fail
  refine (compiled_any s _ heB).mono ?_
  rintro e w3 ⟨hb3, hor⟩
  have hbC := hbB.trans (hb3.mono hszB)
  have hszC := hbC.size
  rcases hor with ⟨l', sb', plv', lv', hcp, rfl, ⟨la', lm', lc', rfl⟩, hs3, hp3, hd3⟩ | ⟨hn, lv', rfl, ⟨la', lm', lc', rfl⟩⟩
  rotate_left
  · have rsD := alloc_at w3 (.cells #[.pointer none, .slice la' lm' lc'] 44)
    have c0 := cell2_0 rsD; have c1 := cell2_1 rsD
    have hbD := hbC.alloc hszC (.cells #[.pointer none, .slice la' lm' lc'] 44)
    clear hn
    go_wp2
    go_ret
    exact ⟨rfl, hbD⟩
  · obtain ⟨hw3, hl3, hne3⟩ := comp_text hcp
    clear hcp
    have rsD := alloc_at w3 (.cells #[.pointer (some ⟨sb', 0, none⟩), .slice la' lm' lc'] 44)
    have hbD := hbC.alloc hszC (.cells #[.pointer (some ⟨sb', 0, none⟩), .slice la' lm' lc'] 44)
    have htD := ht.below hbD ht.lt
    have hsD := alloc_old hs3 (.cells #[.pointer (some ⟨sb', 0, none⟩), .slice la' lm' lc'] 44)
    have hpD : RepL progL (fun _ => True) (w3.alloc (.cells #[.pointer (some ⟨sb', 0, none⟩), .slice la' lm' lc'] 44)) (s.size + 1) plv' l' := hp3.map (Fr.alloc _ fun _ h => h)
    have hdD : RepL docL (fun _ => True) (w3.alloc (.cells #[.pointer (some ⟨sb', 0, none⟩), .slice la' lm' lc'] 44)) (s.size + 1) (.slice la' lm' lc') l' := hd3.map (Fr.alloc _ fun _ h => h)
    have hszD := hbD.size
    have c0 := cell2_0 rsD; have c1 := cell2_1 rsD
    have hR := lt_of_block rsD
    go_wp2_with fail
    clear c0 c1 hp3 hd3 hs3
    generalize hwD : w3.alloc (.cells #[.pointer (some ⟨sb', 0, none⟩), .slice la' lm' lc'] 44) = wD at *
    clear hwD
    refine (selWrite_any (s.size + 1) sb' plv' l' _ hsD htD hpD hw3 hl3 hne3).mono ?_
    rintro e w4 ⟨rfl, hb4⟩
    have hbE := hbD.trans (hb4.mono hszD)
    have rsE := below_at hb4 rsD hR
    have hdE : RepL docL (fun _ => True) w4 (s.size + 1) (.slice la' lm' lc') l' := hdD.map (Fr.below hb4)
    have c0 := cell2_0 rsE; have c1 := cell2_1 rsE
    have hszE := hbE.size
    clear hpD hsD hdD rsD htD
    go_wp2_with fail
    refine (rwrite_ok (s.size + 1) _ l' _ hdE hw3 hl3).mono ?_
    rintro e w5 ⟨rfl, hb5⟩
    have hbF := hbE.trans (hb5.mono hszE)
    go_wp2
    go_ret
    exact ⟨by simp, hbF⟩
end Go.Proofs.YtclpcnignheijaaGreatDoor
