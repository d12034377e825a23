/-
  Parts of the proof: HR4.
-/
import Derived.Test.YtclpcnignheijaaGreatDoorRows
import Derived.JoinedOf
import Derived.KernelRfl
namespace Go.Proofs.YtclpcnignheijaaGreatDoor
open Go
set_option maxRecDepth 100000
theorem qE4{a b:Bool}(h:a=true)(k:b=true):(a&&b)=true:=by rw[h,k];rfl
theorem rf0:(Rows.rewrittenRow.wf (OpenSpec.ofChange Rows.rewrittenSpec))=true:=by kernel_rfl
theorem rf1:(laidOutB Tryz.prog)=true:=by kernel_rfl
theorem rf2:(mapsRowed Tryz.prog)=true:=by kernel_rfl
theorem rf3:(Tryz.f7.params.all (Tryz.prog.readableRec ·))=true:=by kernel_rfl
theorem rf4:(namedTie Tryz.prog Rows.rewrittenRow.named Rows.rewrittenSpec.vars)=true:=by kernel_rfl
theorem rf5:((Rows.rewrittenRow.stops==[]))=true:=by kernel_rfl
theorem rf6:((Tryz.prog.stops==[]))=true:=by kernel_rfl
theorem rf7:((Rows.rewrittenRow.knobs==[]))=true:=by kernel_rfl
theorem rf8:((Tryz.prog.stopKnobs==[]))=true:=by kernel_rfl
theorem rf9:((Rows.rewrittenRow.inPlace==Tryz.prog.inPlace 7))=true:=by kernel_rfl
theorem qXO:((Rows.rewrittenRow.unfollowed==Tryz.prog.unfollowed 7))=true:=by kernel_rfl
theorem qXu:((Rows.rewrittenRow.recurses==Tryz.prog.recurses 7))=true:=by kernel_rfl
theorem qXZ:((Rows.rewrittenRow.named==Tryz.prog.varsNamed 7))=true:=by kernel_rfl
theorem qXY:((Rows.rewrittenRow.maps==(Tryz.f7.params.toList++Rows.rewrittenSpec.plain.varTypes Tryz.prog).any (Tryz.prog.mapsRec ·)))=true:=by kernel_rfl
theorem qXD:((Rows.rewrittenRow.ifaces==(Tryz.f7.params.toList++Rows.rewrittenSpec.plain.varTypes Tryz.prog).any (Tryz.prog.ifacesRec ·)))=true:=by kernel_rfl
theorem qXU:((Rows.rewrittenRow.mapsOut==Tryz.prog.mapsAmong Tryz.f7.resultTypes.toList))=true:=by kernel_rfl
theorem qXk:((Rows.rewrittenRow.loops==(Tryz.f7.params.toList++Rows.rewrittenSpec.plain.varTypes Tryz.prog).any (Tryz.prog.loopsFrom ·)))=true:=by kernel_rfl
theorem qXG:((Rows.rewrittenRow.wideKeys==(Tryz.f7.params.toList++Rows.rewrittenSpec.plain.varTypes Tryz.prog++Tryz.f7.resultTypes.toList).any (Tryz.prog.wideKeysFrom ·)))=true:=by kernel_rfl
theorem qXf:(Rows.rewrittenSpec.vars.all (Tryz.prog.varReadable ·))=true:=by kernel_rfl
theorem qXv:(Tryz.f7.resultTypes.all (fun t=>Tryz.prog.readableRec t&&decide (t<Tryz.prog.types.size)))=true:=by kernel_rfl
theorem qXo:((Rows.rewrittenRow.ifacesOut==Tryz.f7.resultTypes.toList.any (Tryz.prog.ifacesRec ·)))=true:=by kernel_rfl
theorem qXK:((Rows.rewrittenRow.loopsOut==Tryz.f7.resultTypes.toList.any (Tryz.prog.loopsFrom ·)))=true:=by kernel_rfl
theorem qXR:((Rows.rewrittenRow.plainKeys==Tryz.prog.plainKeys))=true:=by kernel_rfl
theorem qXP:(Rows.rewrittenRow.shortTexts.isNone)=true:=by kernel_rfl
theorem qXL:(Tryz.prog.stopsHeard)=true:=by kernel_rfl
theorem qXF:(Tryz.prog.mayEnter)=true:=by kernel_rfl
theorem qXt:((Rows.rewrittenRow.lifted==Tryz.prog.liftsFinal))=true:=by kernel_rfl
theorem qXd:((Tryz.prog.make==some Rows.rewrittenRow.make))=true:=by kernel_rfl
theorem qXN:((Rows.rewrittenRow.kinds==(if Rows.rewrittenRow.domain.isEmpty then[]else Tryz.f7.params.toList.map fun t=>match Tryz.prog.underlying t with|some (.int k)=>some k|_=>none)))=true:=by kernel_rfl
theorem qXQ:((Rows.rewrittenRow.pinned==Rows.rewrittenRow.pinnedBy))=true:=by kernel_rfl
theorem qXn:((Rows.rewrittenRow.veiled==(Tryz.f7.params.toList++Rows.rewrittenSpec.plain.varTypes Tryz.prog++Tryz.f7.resultTypes.toList).any (Tryz.prog.veiledRec ·)))=true:=by kernel_rfl
theorem qXi:(Rows.rewrittenRow.veiledFits Tryz.prog Tryz.f7.params.toList (Tryz.f7.params.toList++Rows.rewrittenSpec.plain.varTypes Tryz.prog++Tryz.f7.resultTypes.toList))=true:=by kernel_rfl
theorem qG7:joinedFacts Tryz.prog 7 Tryz.f7 Rows.rewrittenSpec Rows.rewrittenRow=true:=by
 unfold joinedFacts;exact(qE4 (qE4 (qE4 (qE4 (qE4 (qE4 (qE4 (qE4 (qE4 (qE4 (qE4 (qE4 (qE4 (qE4 (qE4 (qE4 (qE4 (qE4 (qE4 (qE4 (qE4 (qE4 (qE4 (qE4 (qE4 (qE4 (qE4 (qE4 (qE4 (qE4 (qE4 rf0 rf1) rf2) rf3) rf4) rf5) rf6) rf7) rf8) rf9) qXO) qXu) qXZ) qXY) qXD) qXU) qXk) qXG) qXf) qXv) qXo) qXK) qXR) qXP) qXL) qXF) qXt) qXd) qXN) qXQ) qXn) qXi)
