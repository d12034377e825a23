/-
  Parts of the proof: HC4.
-/
import Derived.Test.YtclpcnignheijaaGreatDoorRows
import Derived.JoinedOf
import Derived.KernelRfl
namespace Go.Proofs.YtclpcnignheijaaGreatDoor
open Go
set_option maxRecDepth 100000
theorem and2 {a b:Bool} (h:a=true) (k:b=true):(a && b)=true:=by rw [h,k]; rfl
theorem cf0:(Rows.countedRow.wf (OpenSpec.ofChange Rows.countedSpec))=true:=by kernel_rfl
theorem cf1:(laidOutB Tryz.prog)=true:=by kernel_rfl
theorem cf2:(mapsRowed Tryz.prog)=true:=by kernel_rfl
theorem cf3:(Tryz.f10.params.all (Tryz.prog.readableRec ·))=true:=by kernel_rfl
theorem cf4:(namedTie Tryz.prog Rows.countedRow.named Rows.countedSpec.vars)=true:=by kernel_rfl
theorem cf5:((Rows.countedRow.stops == []))=true:=by kernel_rfl
theorem cf6:((Tryz.prog.stops == []))=true:=by kernel_rfl
theorem cf7:((Rows.countedRow.knobs == []))=true:=by kernel_rfl
theorem cf8:((Tryz.prog.stopKnobs == []))=true:=by kernel_rfl
theorem cf9:((Rows.countedRow.inPlace == Tryz.prog.inPlace 10))=true:=by kernel_rfl
theorem cf10:((Rows.countedRow.unfollowed == Tryz.prog.unfollowed 10))=true:=by kernel_rfl
theorem cf11:((Rows.countedRow.recurses == Tryz.prog.recurses 10))=true:=by kernel_rfl
theorem cf12:((Rows.countedRow.named == Tryz.prog.varsNamed 10))=true:=by kernel_rfl
theorem cf13:((Rows.countedRow.maps == (Tryz.f10.params.toList++Rows.countedSpec.plain.varTypes Tryz.prog).any (Tryz.prog.mapsRec ·)))=true:=by kernel_rfl
theorem cf14:((Rows.countedRow.ifaces == (Tryz.f10.params.toList++Rows.countedSpec.plain.varTypes Tryz.prog).any (Tryz.prog.ifacesRec ·)))=true:=by kernel_rfl
theorem cf15:((Rows.countedRow.mapsOut == Tryz.prog.mapsAmong Tryz.f10.resultTypes.toList))=true:=by kernel_rfl
theorem cf16:((Rows.countedRow.loops == (Tryz.f10.params.toList++Rows.countedSpec.plain.varTypes Tryz.prog).any (Tryz.prog.loopsFrom ·)))=true:=by kernel_rfl
theorem cf17:((Rows.countedRow.wideKeys == (Tryz.f10.params.toList++Rows.countedSpec.plain.varTypes Tryz.prog++Tryz.f10.resultTypes.toList).any (Tryz.prog.wideKeysFrom ·)))=true:=by kernel_rfl
theorem cf18:(Rows.countedSpec.vars.all (Tryz.prog.varReadable ·))=true:=by kernel_rfl
theorem cf19:(Tryz.f10.resultTypes.all (fun t=>Tryz.prog.readableRec t && decide (t < Tryz.prog.types.size)))=true:=by kernel_rfl
theorem cf20:((Rows.countedRow.ifacesOut == Tryz.f10.resultTypes.toList.any (Tryz.prog.ifacesRec ·)))=true:=by kernel_rfl
theorem cf21:((Rows.countedRow.loopsOut == Tryz.f10.resultTypes.toList.any (Tryz.prog.loopsFrom ·)))=true:=by kernel_rfl
theorem cf22:((Rows.countedRow.plainKeys == Tryz.prog.plainKeys))=true:=by kernel_rfl
theorem cf23:(Rows.countedRow.shortTexts.isNone)=true:=by kernel_rfl
theorem cf24:(Tryz.prog.stopsHeard)=true:=by kernel_rfl
theorem cf25:(Tryz.prog.mayEnter)=true:=by kernel_rfl
theorem cf26:((Rows.countedRow.lifted == Tryz.prog.liftsFinal))=true:=by kernel_rfl
theorem cf27:((Tryz.prog.make == some Rows.countedRow.make))=true:=by kernel_rfl
theorem cf28:((Rows.countedRow.kinds == (if Rows.countedRow.domain.isEmpty then [] else Tryz.f10.params.toList.map fun t=>match Tryz.prog.underlying t with | some (.int k)=>some k | _=>none)))=true:=by kernel_rfl
theorem cf29:((Rows.countedRow.pinned == Rows.countedRow.pinnedBy))=true:=by kernel_rfl
theorem cf30:((Rows.countedRow.veiled == (Tryz.f10.params.toList++Rows.countedSpec.plain.varTypes Tryz.prog++Tryz.f10.resultTypes.toList).any (Tryz.prog.veiledRec ·)))=true:=by kernel_rfl
theorem cf31:(Rows.countedRow.veiledFits Tryz.prog Tryz.f10.params.toList (Tryz.f10.params.toList++Rows.countedSpec.plain.varTypes Tryz.prog++Tryz.f10.resultTypes.toList))=true:=by kernel_rfl
theorem counted_joined:joinedFacts Tryz.prog 10 Tryz.f10 Rows.countedSpec Rows.countedRow=true:=by
 unfold joinedFacts
 exact (and2 (and2 (and2 (and2 (and2 (and2 (and2 (and2 (and2 (and2 (and2 (and2 (and2 (and2 (and2 (and2 (and2 (and2 (and2 (and2 (and2 (and2 (and2 (and2 (and2 (and2 (and2 (and2 (and2 (and2 (and2 cf0 cf1) cf2) cf3) cf4) cf5) cf6) cf7) cf8) cf9) cf10) cf11) cf12) cf13) cf14) cf15) cf16) cf17) cf18) cf19) cf20) cf21) cf22) cf23) cf24) cf25) cf26) cf27) cf28) cf29) cf30) cf31)
end Go.Proofs.YtclpcnignheijaaGreatDoor
