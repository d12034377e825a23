/-
  THE LAW 'Laid', PROVED: for every text the law answers true, and the text reads behind the call as it read before; the table 'references' begins as the program's text lays it (the card ties it).
  The walk of the whole call stands in G2 ('laid_any'); here are: what the condition on the table gives the walk ('gl_of_laid'), a start that meets it ('door_met'), the row ('laid_holds') and the card ('laid_card').
-/
import Derived.Test.YtclpcnignheijaaGreatDoorG2
import Derived.Test.YtclpcnignheijaaGreatDoorTie
import Derived.Test.YtclpcnignheijaaGreatDoorCards
import Derived.ProofKit
import Derived.LaidMore
import Derived.OpenShut
import Derived.Stop.Joined
import Derived.Conc.Holds
import Derived.Leaving
namespace Go.Proofs.YtclpcnignheijaaGreatDoor
open Go.ChangeShapes Go.WideShapes Go.ChangeAt Go.RowKit
open Go.ChangeMaps (open_string shut_string)

theorem own : ownKnob Tryz.prog.godebug = none := by kernel_rfl
theorem gRefs : Tryz.prog.globalNamed "copse/markup.references" = some 1 := by kernel_rfl
theorem tRefs : (Tryz.prog.globals[1]?).map (·.type) = some 287 := by kernel_rfl
theorem cellsRefs : Tryz.prog.cellsOf 287 = 8 := by kernel_rfl
theorem cellsRef : Tryz.prog.cellsOf 286 = 2 := by kernel_rfl
theorem cellsStr : Tryz.prog.cellsOf 9 = 1 := by kernel_rfl
theorem cellsU8 : Tryz.prog.cellsOf 5 = 1 := by kernel_rfl

/-- One row of the table: its two cells, from what they read as. -/
theorem row_of {H : Type} {enc : TypeId × Value → H} {w : World} {base : Nat} {sp : Nat → Bool} {held : Bool} {fuel : Nat} {c0 c1 : Value} {y : DataW H × List MemPlace} {bs : List UInt8} {n : Int}
    (h : DataW.trod enc Tryz.prog w base sp held fuel 286 [c0, c1] = some y) (hy : y.1 = .agg [.lit (.string bs), .lit (.int .u8 n)]) :
    c0 = .string ⟨bs.toArray⟩ ∧ c1 = .int .u8 n := by
  obtain ⟨y0, y1, m, rfl, _, h0, h1⟩ := trod_struct2 Tryz.underlying286 h
  simp only [DataW.agg.injEq, List.cons.injEq, and_true] at hy
  simp only [cellsStr, cellsU8, List.drop_zero, List.take_succ_cons, List.take_zero, List.drop_succ_cons] at h0 h1
  obtain ⟨s, e1, e2, _⟩ := DataW.trod_string Tryz.underlying9 h0
  obtain ⟨k, e3, e4, _⟩ := DataW.trod_int Tryz.underlying5 h1
  rw [e2, e4] at hy
  simp only [DataW.lit.injEq, Lit.string.injEq, Lit.int.injEq, true_and] at hy
  simp only [List.cons.injEq, and_true] at e1 e3
  obtain ⟨h1, h2⟩ := hy
  refine ⟨?_, by rw [e3, h2]⟩
  rw [e1, ← h1]

set_option maxRecDepth 100000 in
/-- The condition on the table gives the walk its block. -/
theorem gl_of_laid {W : World} (h : laidMetH Tryz.prog [("copse/markup.references", Rows.laid_copse_markup_references)] W) : Gl W := by
  rw [MakeChecks.laidMetH_plain _ _ _ (by kernel_rfl)] at h
  obtain ⟨ps, ⟨g, t, cs, fuel, p, q, hg, ht, hv, hd, _, _⟩, _⟩ := h
  obtain rfl := Option.some.inj (gRefs.symm.trans hg)
  obtain rfl := Option.some.inj (tRefs.symm.trans ht)
  have hcs : cs = refArr := by
    obtain ⟨l⟩ := cs
    obtain ⟨xs, m, rfl, hx, hlen, hn, hel⟩ := DataW.trod_array Tryz.underlying287 hd
    rw [cellsRefs] at hlen
    rw [cellsRef] at hel
    match l, hlen with
    | [a0, a1, b0, b1, c0, c1, d0, d1], _ =>
      match xs, hn with
      | [x0, x1, x2, x3], _ =>
        simp only [Rows.laid_copse_markup_references, Prod.mk.injEq, DataW.agg.injEq, List.map_cons, List.map_nil, List.cons.injEq, and_true] at hx
        obtain ⟨⟨h0, h1, h2, h3⟩, _⟩ := hx
        obtain ⟨rfl, rfl⟩ := row_of (show DataW.trod _ Tryz.prog W 0 _ _ m 286 [a0, a1] = some x0 from hel 0 (by decide)) h0.symm
        obtain ⟨rfl, rfl⟩ := row_of (show DataW.trod _ Tryz.prog W 0 _ _ m 286 [b0, b1] = some x1 from hel 1 (by decide)) h1.symm
        obtain ⟨rfl, rfl⟩ := row_of (show DataW.trod _ Tryz.prog W 0 _ _ m 286 [c0, c1] = some x2 from hel 2 (by decide)) h2.symm
        obtain ⟨rfl, rfl⟩ := row_of (show DataW.trod _ Tryz.prog W 0 _ _ m 286 [d0, d1] = some x3 from hel 3 (by decide)) h3.symm
        rfl
  subst hcs
  unfold World.var? at hv
  rw [hg] at hv
  simp only [Option.bind_some] at hv
  split at hv
  · rename_i cs' ty fr hblk
    obtain rfl := Option.some.inj hv
    exact ⟨ty, fr, hblk⟩
  · cases hv

/-- The door's own heap meets the condition. -/
theorem door_met (os : Os) (args : Array Value) : laidMetH Tryz.prog [("copse/markup.references", Rows.laid_copse_markup_references)] ((World.doorLaid Tryz.prog 257 os).forCall (fun _ _ => 0) ⟨#[], args, []⟩).memory :=
  laidMetH_of_parts3 (fuel := 8) (laidMet_of_run' 8 (by kernel_rfl) (by kernel_rfl)) (by kernel_rfl) (by kernel_rfl)

set_option maxRecDepth 100000 in
theorem lifted (os : Os) (started : os.Started) (H : Type) (enc : TypeId × Value → H) :
    ReturnsInHanded {} Tryz.checked os 5 .any (fun w args => (Rows.laidSpec.pre enc Tryz.prog Tryz.f5 [] false w args ∧ laidMetH Tryz.prog [("copse/markup.references", Rows.laid_copse_markup_references)] w) ∧ sizedMet enc Tryz.prog Tryz.f5 (OpenSpec.ofChange Rows.laidSpec) false w args)
      (Rows.laidSpec.post enc Tryz.prog Tryz.f5 false true false false) := by
  refine returnsInHanded_of_change_and (C := Tryz.checked) (X := fun w _ => laidMetH Tryz.prog [("copse/markup.references", Rows.laid_copse_markup_references)] w) (fun _ _ _ hh h => h.of_heap hh) own started (by kernel_rfl) Tryz.func5
    (ChangeSpec.witness_shaped (enc := enc) (C := Tryz.checked) (os := os) (X := fun w _ => laidMetH Tryz.prog [("copse/markup.references", Rows.laid_copse_markup_references)] w) false (World.doorLaid Tryz.prog 257 os) #[.string ⟨#[]⟩] 8 rfl (World.shaped_of_RefB (by kernel_rfl) (by kernel_rfl)) (by kernel_rfl) (by kernel_rfl) (by kernel_rfl) (door_met os _)) ?_
  intro W base args ds gs before hval0 hW _ _ hL _
  have hval : ∀ (j : Nat) t v, Tryz.f5.params[j]? = some t → args[j]? = some v → Value.okWide Tryz.prog W .any base t v := hval0
  have hW' := hW
  obtain ⟨p, q, hA0, hV, rfl, hfz, hnd⟩ := hW
  have hA : DataW.TrodAll enc Tryz.prog W 0 (fun _ => true) true Tryz.f5.params.toList args.toList ds p := hA0
  rw [Tryz.params5] at hA hval
  obtain ⟨v0, d0, rfl, rfl, h0⟩ := trodAll_one hA
  obtain ⟨rfl, rfl⟩ := trodVars_none hV
  obtain ⟨s, rfl, rfl, rfl, hsz⟩ := open_string Tryz.underlying9 (hval 0 9 v0 rfl rfl) h0
  clear hA0 hval0
  have e1 : Rows.laidSpec.fn H ([.lit (.string s.data.toList)] ++ []) = { results := [.lit (.bool true)], args := [.lit (.string s.data.toList)] } := by simp [Rows.laidSpec]
  refine (laid_any s W (gl_of_laid hL)).mono fun e W' ⟨he, hb⟩ => ?_
  subst he
  refine ⟨_, rfl, _, _, _, [], [], [], hW', ?_, ?_, ?_, hb.frame _, fun h => by cases h⟩
  · rw [e1]; exact trodAll_mk1 (shut_bool Tryz.underlying4 true)
  · rw [e1]; exact trodAll_mk1 (shut_string Tryz.underlying9 hsz)
  · rw [e1]; rfl

/-- A call that starts no goroutine: at its return nobody is there, so all that is there only leaves. -/
theorem leaving_of_handed {a : Assume} {C : Checked} {os : Os} {f : FuncId} {r : Reach} {Pre : World → Array Value → Prop} {Post : World → Array Value → Value → World → Prop} (h : ReturnsInHanded a C os f r Pre Post) : ReturnsInLeavingWide a C os f r Pre Post :=
  fun enter => ReturnsInOpen.mono (fun _ _ _ x => ⟨x.2.1, onlyLeaving_of_quiet x.1, x.2.2⟩) (fun _ x => x) (h enter)

theorem laid_holds : Rows.LaidSaid :=
  OpenClaim.holds_of_wide_leaving 5 Tryz.f5 rfl rfl rfl rfl rfl rfl rfl ⟨rfl, rfl, rfl, rfl, rfl⟩ rfl rfl rfl rfl rfl (by kernel_rfl) Tryz.func5 (by kernel_rfl)
    (of_decide_eq_true (by kernel_rfl)) (by unfold Func.isWrapper; first | (rw [if_pos (by decide +kernel)]; kernel_rfl) | (rw [if_neg (by decide +kernel)]; exact ⟨rfl, rfl⟩))
    (fun os started H enc _ => leaving_of_handed (lifted os started H enc))

/-- The library's builder of a tied card ('Claim7.holds_tied_plain_at') for a card that says 'goes': what a card asks of its row, it asks whatever it says there. -/
theorem tied_goes (Lk : Looks) {p : Pinned} {s : OpenSpec} {c : OpenClaim} (kinds : List LaidKind) (tests : Bool) (har : Bool × String) (lk : Bool)
    (hc : c.holds p s) (hw : c.wfByText s = true) (htie : c.laidByTextAt Lk p kinds tests)
    (hst : c.start = .entering) (hnb : c.noBlocks = false ∧ c.again = false) (hm : p.checked.prog.mainIs = some (har.1, har.2.toList)) (hn : (!har.1 && har.2.isEmpty && !lk) = false)
    (hl : ∀ f fn, p.checked.prog.funcNamed c.func = some f → p.checked.prog.funcs[f]? = some fn → lk = p.checked.prog.looks [] ∧ ∀ (j : Nat) t, fn.params[j]? = some t → p.checked.prog.wantsStandIn t = false)
    (hg : true = c.goesBy p.checked.prog) :
    Claim7.holds p (.plain s) { stood := { row := c, standIns := [], harness := har, looks := lk }, kinds := [], alts := [], goes := true, laidByText := true, laidKinds := kinds, laidTests := tests, laidLooks := Lk } := by
  have h6 : ∀ r : OpenClaim, Claim7.isSixth { stood := { row := r, standIns := [], harness := har, looks := lk }, kinds := [] } = false := fun r => by simpa [Claim7.isSixth] using hn
  exact ⟨Claim7.tied_new_at Lk kinds tests (Claim7.new_of_sixth hc har lk hst hnb hm (h6 c) hl) hw, fun D hD => (by cases hD), htie, (fun h => by cases h), hg⟩

theorem laid_card : Rows.LaidCardSaid :=
  tied_goes .later [.data] true (true, "c3481bd773bf7ab2bcc6d7f47be1508ad9b445e53d2f9f1fcee2be0d2f503958") true
    laid_holds (by kernel_rfl) laid_row_tie rfl ⟨rfl, rfl⟩ (by kernel_rfl) rfl
    (fun f fn hf hfn => by
      obtain rfl : f = 5 := Option.some.inj ((show Tryz.prog.funcNamed "copse/copsekeep.Laid" = some 5 by kernel_rfl).symm.trans hf) |>.symm
      obtain rfl : fn = Tryz.f5 := (Option.some.inj (Tryz.func5.symm.trans hfn)).symm
      exact ⟨by kernel_rfl, fun j t ht => by
        rw [Tryz.params5] at ht
        have h3 : t = 9 := by
          rcases j with _ | j
          · simpa using ht.symm
          · simp at ht
        subst h3
        exact (show Tryz.prog.wantsStandIn 9 = false by kernel_rfl)⟩)
    (by kernel_rfl)
end Go.Proofs.YtclpcnignheijaaGreatDoor
