/-
  Parts of the proof: HL4.
-/
import Derived.Test.YtclpcnignheijaaGreatDoorRows
import Derived.JoinedOf
import Derived.KernelRfl
namespace Go.Proofs.YtclpcnignheijaaGreatDoor
open Go
set_option maxRecDepth 100000
theorem and2 {a b : Bool} (h : a = true) (k : b = true) : (a && b) = true := by rw [h, k]; rfl
theorem lf0 : (Rows.logicRow.wf (OpenSpec.ofChange Rows.logicSpec)) = true := by kernel_rfl
theorem lf1 : (laidOutB Tryz.prog) = true := by kernel_rfl
theorem lf2 : (mapsRowed Tryz.prog) = true := by kernel_rfl
theorem lf3 : (Tryz.f8.params.all (Tryz.prog.readableRec ·)) = true := by kernel_rfl
theorem lf4 : (namedTie Tryz.prog Rows.logicRow.named Rows.logicSpec.vars) = true := by kernel_rfl
theorem lf5 : ((Rows.logicRow.stops == [])) = true := by kernel_rfl
theorem lf6 : ((Tryz.prog.stops == [])) = true := by kernel_rfl
theorem lf7 : ((Rows.logicRow.knobs == [])) = true := by kernel_rfl
theorem lf8 : ((Tryz.prog.stopKnobs == [])) = true := by kernel_rfl
theorem lf9 : ((Rows.logicRow.inPlace == Tryz.prog.inPlace 8)) = true := by kernel_rfl
theorem lf10 : ((Rows.logicRow.unfollowed == Tryz.prog.unfollowed 8)) = true := by kernel_rfl
theorem lf11 : ((Rows.logicRow.recurses == Tryz.prog.recurses 8)) = true := by kernel_rfl
theorem lf12 : ((Rows.logicRow.named == Tryz.prog.varsNamed 8)) = true := by kernel_rfl
theorem lf13 : ((Rows.logicRow.maps == (Tryz.f8.params.toList ++ Rows.logicSpec.plain.varTypes Tryz.prog).any (Tryz.prog.mapsRec ·))) = true := by kernel_rfl
theorem lf14 : ((Rows.logicRow.ifaces == (Tryz.f8.params.toList ++ Rows.logicSpec.plain.varTypes Tryz.prog).any (Tryz.prog.ifacesRec ·))) = true := by kernel_rfl
theorem lf15 : ((Rows.logicRow.mapsOut == Tryz.prog.mapsAmong Tryz.f8.resultTypes.toList)) = true := by kernel_rfl
theorem lf16 : ((Rows.logicRow.loops == (Tryz.f8.params.toList ++ Rows.logicSpec.plain.varTypes Tryz.prog).any (Tryz.prog.loopsFrom ·))) = true := by kernel_rfl
theorem lf17 : ((Rows.logicRow.wideKeys == (Tryz.f8.params.toList ++ Rows.logicSpec.plain.varTypes Tryz.prog ++ Tryz.f8.resultTypes.toList).any (Tryz.prog.wideKeysFrom ·))) = true := by kernel_rfl
theorem lf18 : (Rows.logicSpec.vars.all (Tryz.prog.varReadable ·)) = true := by kernel_rfl
theorem lf19 : (Tryz.f8.resultTypes.all (fun t => Tryz.prog.readableRec t && decide (t < Tryz.prog.types.size))) = true := by kernel_rfl
theorem lf20 : ((Rows.logicRow.ifacesOut == Tryz.f8.resultTypes.toList.any (Tryz.prog.ifacesRec ·))) = true := by kernel_rfl
theorem lf21 : ((Rows.logicRow.loopsOut == Tryz.f8.resultTypes.toList.any (Tryz.prog.loopsFrom ·))) = true := by kernel_rfl
theorem lf22 : ((Rows.logicRow.plainKeys == Tryz.prog.plainKeys)) = true := by kernel_rfl
theorem lf23 : (Rows.logicRow.shortTexts.isNone) = true := by kernel_rfl
theorem lf24 : (Tryz.prog.stopsHeard) = true := by kernel_rfl
theorem lf25 : (Tryz.prog.mayEnter) = true := by kernel_rfl
theorem lf26 : ((Rows.logicRow.lifted == Tryz.prog.liftsFinal)) = true := by kernel_rfl
theorem lf27 : ((Tryz.prog.make == some Rows.logicRow.make)) = true := by kernel_rfl
theorem lf28 : ((Rows.logicRow.kinds == (if Rows.logicRow.domain.isEmpty then [] else Tryz.f8.params.toList.map fun t => match Tryz.prog.underlying t with | some (.int k) => some k | _ => none))) = true := by kernel_rfl
theorem lf29 : ((Rows.logicRow.pinned == Rows.logicRow.pinnedBy)) = true := by kernel_rfl
theorem lf30 : ((Rows.logicRow.veiled == (Tryz.f8.params.toList ++ Rows.logicSpec.plain.varTypes Tryz.prog ++ Tryz.f8.resultTypes.toList).any (Tryz.prog.veiledRec ·))) = true := by kernel_rfl
theorem lf31 : (Rows.logicRow.veiledFits Tryz.prog Tryz.f8.params.toList (Tryz.f8.params.toList ++ Rows.logicSpec.plain.varTypes Tryz.prog ++ Tryz.f8.resultTypes.toList)) = true := by kernel_rfl
theorem logic_joined : joinedFacts Tryz.prog 8 Tryz.f8 Rows.logicSpec Rows.logicRow = true := by
 unfold joinedFacts
 exact (and2 (and2 (and2 (and2 (and2 (and2 (and2 (and2 (and2 (and2 (and2 (and2 (and2 (and2 (and2 (and2 (and2 (and2 (and2 (and2 (and2 (and2 (and2 (and2 (and2 (and2 (and2 (and2 (and2 (and2 (and2 lf0 lf1) lf2) lf3) lf4) lf5) lf6) lf7) lf8) lf9) lf10) lf11) lf12) lf13) lf14) lf15) lf16) lf17) lf18) lf19) lf20) lf21) lf22) lf23) lf24) lf25) lf26) lf27) lf28) lf29) lf30) lf31)
end Go.Proofs.YtclpcnignheijaaGreatDoor
