/-
  THE CLOSED FACTS OF THE ROW 'Nearest', one theorem each: one call of 'kernel_rfl' over all of them passes the memory lid of the builder.
-/
import Derived.Test.YtclpcnignheijaaGreatDoorRows
import Derived.JoinedOf
import Derived.KernelRfl
namespace Go.Proofs.YtclpcnignheijaaGreatDoor
open Go
set_option maxRecDepth 100000
theorem and2 {a b : Bool} (h : a = true) (k : b = true) : (a && b) = true := by rw [h, k]; rfl
theorem nf0 : (Rows.nearestRow.wf (OpenSpec.ofChange Rows.nearestSpec)) = true := by kernel_rfl
theorem nf1 : (laidOutB Tryz.prog) = true := by kernel_rfl
theorem nf2 : (mapsRowed Tryz.prog) = true := by kernel_rfl
theorem nf3 : (Tryz.f11.params.all (Tryz.prog.readableRec ·)) = true := by kernel_rfl
theorem nf4 : (namedTie Tryz.prog Rows.nearestRow.named Rows.nearestSpec.vars) = true := by kernel_rfl
theorem nf5 : ((Rows.nearestRow.stops == [])) = true := by kernel_rfl
theorem nf6 : ((Tryz.prog.stops == [])) = true := by kernel_rfl
theorem nf7 : ((Rows.nearestRow.knobs == [])) = true := by kernel_rfl
theorem nf8 : ((Tryz.prog.stopKnobs == [])) = true := by kernel_rfl
theorem nf9 : ((Rows.nearestRow.inPlace == Tryz.prog.inPlace 11)) = true := by kernel_rfl
theorem nf10 : ((Rows.nearestRow.unfollowed == Tryz.prog.unfollowed 11)) = true := by kernel_rfl
theorem nf11 : ((Rows.nearestRow.recurses == Tryz.prog.recurses 11)) = true := by kernel_rfl
theorem nf12 : ((Rows.nearestRow.named == Tryz.prog.varsNamed 11)) = true := by kernel_rfl
theorem nf13 : ((Rows.nearestRow.maps == (Tryz.f11.params.toList ++ Rows.nearestSpec.plain.varTypes Tryz.prog).any (Tryz.prog.mapsRec ·))) = true := by kernel_rfl
theorem nf14 : ((Rows.nearestRow.ifaces == (Tryz.f11.params.toList ++ Rows.nearestSpec.plain.varTypes Tryz.prog).any (Tryz.prog.ifacesRec ·))) = true := by kernel_rfl
theorem nf15 : ((Rows.nearestRow.mapsOut == Tryz.prog.mapsAmong Tryz.f11.resultTypes.toList)) = true := by kernel_rfl
theorem nf16 : ((Rows.nearestRow.loops == (Tryz.f11.params.toList ++ Rows.nearestSpec.plain.varTypes Tryz.prog).any (Tryz.prog.loopsFrom ·))) = true := by kernel_rfl
theorem nf17 : ((Rows.nearestRow.wideKeys == (Tryz.f11.params.toList ++ Rows.nearestSpec.plain.varTypes Tryz.prog ++ Tryz.f11.resultTypes.toList).any (Tryz.prog.wideKeysFrom ·))) = true := by kernel_rfl
theorem nf18 : (Rows.nearestSpec.vars.all (Tryz.prog.varReadable ·)) = true := by kernel_rfl
theorem nf19 : (Tryz.f11.resultTypes.all (fun t => Tryz.prog.readableRec t && decide (t < Tryz.prog.types.size))) = true := by kernel_rfl
theorem nf20 : ((Rows.nearestRow.ifacesOut == Tryz.f11.resultTypes.toList.any (Tryz.prog.ifacesRec ·))) = true := by kernel_rfl
theorem nf21 : ((Rows.nearestRow.loopsOut == Tryz.f11.resultTypes.toList.any (Tryz.prog.loopsFrom ·))) = true := by kernel_rfl
theorem nf22 : ((Rows.nearestRow.plainKeys == Tryz.prog.plainKeys)) = true := by kernel_rfl
theorem nf23 : (Rows.nearestRow.shortTexts.isNone) = true := by kernel_rfl
theorem nf24 : (Tryz.prog.stopsHeard) = true := by kernel_rfl
theorem nf25 : (Tryz.prog.mayEnter) = true := by kernel_rfl
theorem nf26 : ((Rows.nearestRow.lifted == Tryz.prog.liftsFinal)) = true := by kernel_rfl
theorem nf27 : ((Tryz.prog.make == some Rows.nearestRow.make)) = true := by kernel_rfl
theorem nf28 : ((Rows.nearestRow.kinds == (if Rows.nearestRow.domain.isEmpty then [] else Tryz.f11.params.toList.map fun t => match Tryz.prog.underlying t with | some (.int k) => some k | _ => none))) = true := by kernel_rfl
theorem nf29 : ((Rows.nearestRow.pinned == Rows.nearestRow.pinnedBy)) = true := by kernel_rfl
theorem nf30 : ((Rows.nearestRow.veiled == (Tryz.f11.params.toList ++ Rows.nearestSpec.plain.varTypes Tryz.prog ++ Tryz.f11.resultTypes.toList).any (Tryz.prog.veiledRec ·))) = true := by kernel_rfl
theorem nf31 : (Rows.nearestRow.veiledFits Tryz.prog Tryz.f11.params.toList (Tryz.f11.params.toList ++ Rows.nearestSpec.plain.varTypes Tryz.prog ++ Tryz.f11.resultTypes.toList)) = true := by kernel_rfl
theorem nearest_joined : joinedFacts Tryz.prog 11 Tryz.f11 Rows.nearestSpec Rows.nearestRow = true := by
  unfold joinedFacts
  exact (and2 (and2 (and2 (and2 (and2 (and2 (and2 (and2 (and2 (and2 (and2 (and2 (and2 (and2 (and2 (and2 (and2 (and2 (and2 (and2 (and2 (and2 (and2 (and2 (and2 (and2 (and2 (and2 (and2 (and2 (and2 nf0 nf1) nf2) nf3) nf4) nf5) nf6) nf7) nf8) nf9) nf10) nf11) nf12) nf13) nf14) nf15) nf16) nf17) nf18) nf19) nf20) nf21) nf22) nf23) nf24) nf25) nf26) nf27) nf28) nf29) nf30) nf31)
end Go.Proofs.YtclpcnignheijaaGreatDoor
