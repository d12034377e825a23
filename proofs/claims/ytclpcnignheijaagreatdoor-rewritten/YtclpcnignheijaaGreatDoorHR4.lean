/-
  Parts of the proof: HR4.
-/
import Derived.Test.YtclpcnignheijaaGreatDoorRows
import Derived.JoinedOf
import Derived.KernelRfl
namespace Go.Proofs.YtclpcnignheijaaGreatDoor
open Go
set_option maxRecDepth 100000
theorem and2 {a b:Bool} (h:a=true) (k:b=true):(a && b)=true:=by rw [h,k]; rfl
theorem rf0:(Rows.rewrittenRow.wf (OpenSpec.ofChange Rows.rewrittenSpec))=true:=by kernel_rfl
theorem rf1:(laidOutB Tryz.prog)=true:=by kernel_rfl
theorem rf2:(mapsRowed Tryz.prog)=true:=by kernel_rfl
theorem rf3:(Tryz.f7.params.all (Tryz.prog.readableRec ·))=true:=by kernel_rfl
theorem rf4:(namedTie Tryz.prog Rows.rewrittenRow.named Rows.rewrittenSpec.vars)=true:=by kernel_rfl
theorem rf5:((Rows.rewrittenRow.stops == []))=true:=by kernel_rfl
theorem rf6:((Tryz.prog.stops == []))=true:=by kernel_rfl
theorem rf7:((Rows.rewrittenRow.knobs == []))=true:=by kernel_rfl
theorem rf8:((Tryz.prog.stopKnobs == []))=true:=by kernel_rfl
theorem rf9:((Rows.rewrittenRow.inPlace == Tryz.prog.inPlace 7))=true:=by kernel_rfl
theorem rf10:((Rows.rewrittenRow.unfollowed == Tryz.prog.unfollowed 7))=true:=by kernel_rfl
theorem rf11:((Rows.rewrittenRow.recurses == Tryz.prog.recurses 7))=true:=by kernel_rfl
theorem rf12:((Rows.rewrittenRow.named == Tryz.prog.varsNamed 7))=true:=by kernel_rfl
theorem rf13:((Rows.rewrittenRow.maps == (Tryz.f7.params.toList++Rows.rewrittenSpec.plain.varTypes Tryz.prog).any (Tryz.prog.mapsRec ·)))=true:=by kernel_rfl
theorem rf14:((Rows.rewrittenRow.ifaces == (Tryz.f7.params.toList++Rows.rewrittenSpec.plain.varTypes Tryz.prog).any (Tryz.prog.ifacesRec ·)))=true:=by kernel_rfl
theorem rf15:((Rows.rewrittenRow.mapsOut == Tryz.prog.mapsAmong Tryz.f7.resultTypes.toList))=true:=by kernel_rfl
theorem rf16:((Rows.rewrittenRow.loops == (Tryz.f7.params.toList++Rows.rewrittenSpec.plain.varTypes Tryz.prog).any (Tryz.prog.loopsFrom ·)))=true:=by kernel_rfl
theorem rf17:((Rows.rewrittenRow.wideKeys == (Tryz.f7.params.toList++Rows.rewrittenSpec.plain.varTypes Tryz.prog++Tryz.f7.resultTypes.toList).any (Tryz.prog.wideKeysFrom ·)))=true:=by kernel_rfl
theorem rf18:(Rows.rewrittenSpec.vars.all (Tryz.prog.varReadable ·))=true:=by kernel_rfl
theorem rf19:(Tryz.f7.resultTypes.all (fun t=>Tryz.prog.readableRec t && decide (t < Tryz.prog.types.size)))=true:=by kernel_rfl
theorem rf20:((Rows.rewrittenRow.ifacesOut == Tryz.f7.resultTypes.toList.any (Tryz.prog.ifacesRec ·)))=true:=by kernel_rfl
theorem rf21:((Rows.rewrittenRow.loopsOut == Tryz.f7.resultTypes.toList.any (Tryz.prog.loopsFrom ·)))=true:=by kernel_rfl
theorem rf22:((Rows.rewrittenRow.plainKeys == Tryz.prog.plainKeys))=true:=by kernel_rfl
theorem rf23:(Rows.rewrittenRow.shortTexts.isNone)=true:=by kernel_rfl
theorem rf24:(Tryz.prog.stopsHeard)=true:=by kernel_rfl
theorem rf25:(Tryz.prog.mayEnter)=true:=by kernel_rfl
theorem rf26:((Rows.rewrittenRow.lifted == Tryz.prog.liftsFinal))=true:=by kernel_rfl
theorem rf27:((Tryz.prog.make == some Rows.rewrittenRow.make))=true:=by kernel_rfl
theorem rf28:((Rows.rewrittenRow.kinds == (if Rows.rewrittenRow.domain.isEmpty then [] else Tryz.f7.params.toList.map fun t=>match Tryz.prog.underlying t with | some (.int k)=>some k | _=>none)))=true:=by kernel_rfl
theorem rf29:((Rows.rewrittenRow.pinned == Rows.rewrittenRow.pinnedBy))=true:=by kernel_rfl
theorem rf30:((Rows.rewrittenRow.veiled == (Tryz.f7.params.toList++Rows.rewrittenSpec.plain.varTypes Tryz.prog++Tryz.f7.resultTypes.toList).any (Tryz.prog.veiledRec ·)))=true:=by kernel_rfl
theorem rf31:(Rows.rewrittenRow.veiledFits Tryz.prog Tryz.f7.params.toList (Tryz.f7.params.toList++Rows.rewrittenSpec.plain.varTypes Tryz.prog++Tryz.f7.resultTypes.toList))=true:=by kernel_rfl
theorem rewritten_joined:joinedFacts Tryz.prog 7 Tryz.f7 Rows.rewrittenSpec Rows.rewrittenRow=true:=by
 unfold joinedFacts
 exact (and2 (and2 (and2 (and2 (and2 (and2 (and2 (and2 (and2 (and2 (and2 (and2 (and2 (and2 (and2 (and2 (and2 (and2 (and2 (and2 (and2 (and2 (and2 (and2 (and2 (and2 (and2 (and2 (and2 (and2 (and2 rf0 rf1) rf2) rf3) rf4) rf5) rf6) rf7) rf8) rf9) rf10) rf11) rf12) rf13) rf14) rf15) rf16) rf17) rf18) rf19) rf20) rf21) rf22) rf23) rf24) rf25) rf26) rf27) rf28) rf29) rf30) rf31)
end Go.Proofs.YtclpcnignheijaaGreatDoor
