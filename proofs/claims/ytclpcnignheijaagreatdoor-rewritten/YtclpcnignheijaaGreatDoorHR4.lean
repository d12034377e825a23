/-
  Parts of the proof: HR4.
-/
import Derived.Test.YtclpcnignheijaaGreatDoorRows
import Derived.JoinedOf
namespace Go.Proofs.YtclpcnignheijaaGreatDoor
open Go Go.Proofs.Tryz
set_option maxRecDepth 100000
theorem qFM{a b:Bool}(h:a=true)(k:b=true):(a&&b)=true:=by rw[h,k];rfl
theorem rf0:(Rows.rewrittenRow.wf (OpenSpec.ofChange Rows.rewrittenSpec))=true:=by kernel_rfl
theorem rf1:(laidOutB prog)=true:=by kernel_rfl
theorem rf2:(mapsRowed prog)=true:=by kernel_rfl
theorem rf3:(Tryz.f7.params.all (prog.readableRec ·))=true:=by kernel_rfl
theorem rf4:(namedTie prog Rows.rewrittenRow.named Rows.rewrittenSpec.vars)=true:=by kernel_rfl
theorem rf5:((Rows.rewrittenRow.stops==[]))=true:=by kernel_rfl
theorem rf6:((prog.stops==[]))=true:=by kernel_rfl
theorem rf7:((Rows.rewrittenRow.knobs==[]))=true:=by kernel_rfl
theorem rf8:((prog.stopKnobs==[]))=true:=by kernel_rfl
theorem rf9:((Rows.rewrittenRow.inPlace==prog.inPlace 7))=true:=by kernel_rfl
theorem qXT:((Rows.rewrittenRow.unfollowed==prog.unfollowed 7))=true:=by kernel_rfl
theorem qXG:((Rows.rewrittenRow.recurses==prog.recurses 7))=true:=by kernel_rfl
theorem qXk:((Rows.rewrittenRow.named==prog.varsNamed 7))=true:=by kernel_rfl
theorem qXa:((Rows.rewrittenRow.maps==(Tryz.f7.params.toList++Rows.rewrittenSpec.plain.varTypes prog).any (prog.mapsRec ·)))=true:=by kernel_rfl
theorem qXo:((Rows.rewrittenRow.ifaces==(Tryz.f7.params.toList++Rows.rewrittenSpec.plain.varTypes prog).any (prog.ifacesRec ·)))=true:=by kernel_rfl
theorem qXN:((Rows.rewrittenRow.mapsOut==prog.mapsAmong Tryz.f7.resultTypes.toList))=true:=by kernel_rfl
theorem qXL:((Rows.rewrittenRow.loops==(Tryz.f7.params.toList++Rows.rewrittenSpec.plain.varTypes prog).any (prog.loopsFrom ·)))=true:=by kernel_rfl
theorem qXb:((Rows.rewrittenRow.wideKeys==(Tryz.f7.params.toList++Rows.rewrittenSpec.plain.varTypes prog++Tryz.f7.resultTypes.toList).any (prog.wideKeysFrom ·)))=true:=by kernel_rfl
theorem qXU:(Rows.rewrittenSpec.vars.all (prog.varReadable ·))=true:=by kernel_rfl
theorem qXY:(Tryz.f7.resultTypes.all (fun t=>prog.readableRec t&&decide (t<prog.types.size)))=true:=by kernel_rfl
theorem qXM:((Rows.rewrittenRow.ifacesOut==Tryz.f7.resultTypes.toList.any (prog.ifacesRec ·)))=true:=by kernel_rfl
theorem qXc:((Rows.rewrittenRow.loopsOut==Tryz.f7.resultTypes.toList.any (prog.loopsFrom ·)))=true:=by kernel_rfl
theorem qXd:((Rows.rewrittenRow.plainKeys==prog.plainKeys))=true:=by kernel_rfl
theorem qXi:(Rows.rewrittenRow.shortTexts.isNone)=true:=by kernel_rfl
theorem qXH:(prog.stopsHeard)=true:=by kernel_rfl
theorem qXm:(prog.mayEnter)=true:=by kernel_rfl
theorem qXr:((Rows.rewrittenRow.lifted==prog.liftsFinal))=true:=by kernel_rfl
theorem qXW:((prog.make==some Rows.rewrittenRow.make))=true:=by kernel_rfl
theorem qXl:((Rows.rewrittenRow.kinds==(if Rows.rewrittenRow.domain.isEmpty then[]else Tryz.f7.params.toList.map fun t=>match prog.underlying t with|some (.int k)=>some k|_=>none)))=true:=by kernel_rfl
theorem qXx:((Rows.rewrittenRow.pinned==Rows.rewrittenRow.pinnedBy))=true:=by kernel_rfl
theorem qXZ:((Rows.rewrittenRow.veiled==(Tryz.f7.params.toList++Rows.rewrittenSpec.plain.varTypes prog++Tryz.f7.resultTypes.toList).any (prog.veiledRec ·)))=true:=by kernel_rfl
theorem qXh:(Rows.rewrittenRow.veiledFits prog Tryz.f7.params.toList (Tryz.f7.params.toList++Rows.rewrittenSpec.plain.varTypes prog++Tryz.f7.resultTypes.toList))=true:=by kernel_rfl
theorem qG6:joinedFacts prog 7 Tryz.f7 Rows.rewrittenSpec Rows.rewrittenRow=true:=by
 unfold joinedFacts;exact(qFM (qFM (qFM (qFM (qFM (qFM (qFM (qFM (qFM (qFM (qFM (qFM (qFM (qFM (qFM (qFM (qFM (qFM (qFM (qFM (qFM (qFM (qFM (qFM (qFM (qFM (qFM (qFM (qFM (qFM (qFM rf0 rf1) rf2) rf3) rf4) rf5) rf6) rf7) rf8) rf9) qXT) qXG) qXk) qXa) qXo) qXN) qXL) qXb) qXU) qXY) qXM) qXc) qXd) qXi) qXH) qXm) qXr) qXW) qXl) qXx) qXZ) qXh)
