/-
  Parts of the proof: HR4.
-/
import Derived.Test.YtclpcnignheijaaGreatDoorRows
import Derived.JoinedOf
namespace Go.Proofs.YtclpcnignheijaaGreatDoor
open Go Go.Proofs.Tryz
set_option maxRecDepth 100000
theorem qE5{a b:Bool}(h:a=true)(k:b=true):(a&&b)=true:=by rw[h,k];rfl
theorem rf0:(Rows.rewrittenRow.wf (OpenSpec.ofChange Rows.rewrittenSpec))=true:=by kernel_rfl
theorem rf1:(laidOutB prog)=true:=by kernel_rfl
theorem rf2:(mapsRowed prog)=true:=by kernel_rfl
theorem rf3:(Tryz.f7.params.all (prog.readableRec ·))=true:=by kernel_rfl
theorem rf4:(namedTie prog Rows.rewrittenRow.named Rows.rewrittenSpec.vars)=true:=by kernel_rfl
theorem rf5:((Rows.rewrittenRow.stops==[]))=true:=by kernel_rfl
theorem rf6:((prog.stops==[]))=true:=by kernel_rfl
theorem rf7:((Rows.rewrittenRow.knobs==[]))=true:=by kernel_rfl
theorem rf8:((prog.stopKnobs==[]))=true:=by kernel_rfl
theorem rf9:((Rows.rewrittenRow.inPlace==prog.inPlace 7))=true:=by kernel_rfl
theorem qXW:((Rows.rewrittenRow.unfollowed==prog.unfollowed 7))=true:=by kernel_rfl
theorem qXX:((Rows.rewrittenRow.recurses==prog.recurses 7))=true:=by kernel_rfl
theorem qXY:((Rows.rewrittenRow.named==prog.varsNamed 7))=true:=by kernel_rfl
theorem qXZ:((Rows.rewrittenRow.maps==(Tryz.f7.params.toList++Rows.rewrittenSpec.plain.varTypes prog).any (prog.mapsRec ·)))=true:=by kernel_rfl
theorem qXa:((Rows.rewrittenRow.ifaces==(Tryz.f7.params.toList++Rows.rewrittenSpec.plain.varTypes prog).any (prog.ifacesRec ·)))=true:=by kernel_rfl
theorem qXb:((Rows.rewrittenRow.mapsOut==prog.mapsAmong Tryz.f7.resultTypes.toList))=true:=by kernel_rfl
theorem qXc:((Rows.rewrittenRow.loops==(Tryz.f7.params.toList++Rows.rewrittenSpec.plain.varTypes prog).any (prog.loopsFrom ·)))=true:=by kernel_rfl
theorem qXd:((Rows.rewrittenRow.wideKeys==(Tryz.f7.params.toList++Rows.rewrittenSpec.plain.varTypes prog++Tryz.f7.resultTypes.toList).any (prog.wideKeysFrom ·)))=true:=by kernel_rfl
theorem qXe:(Rows.rewrittenSpec.vars.all (prog.varReadable ·))=true:=by kernel_rfl
theorem qXf:(Tryz.f7.resultTypes.all (fun t=>prog.readableRec t&&decide (t<prog.types.size)))=true:=by kernel_rfl
theorem qXg:((Rows.rewrittenRow.ifacesOut==Tryz.f7.resultTypes.toList.any (prog.ifacesRec ·)))=true:=by kernel_rfl
theorem qXh:((Rows.rewrittenRow.loopsOut==Tryz.f7.resultTypes.toList.any (prog.loopsFrom ·)))=true:=by kernel_rfl
theorem qXi:((Rows.rewrittenRow.plainKeys==prog.plainKeys))=true:=by kernel_rfl
theorem qXj:(Rows.rewrittenRow.shortTexts.isNone)=true:=by kernel_rfl
theorem qXk:(prog.stopsHeard)=true:=by kernel_rfl
theorem qXl:(prog.mayEnter)=true:=by kernel_rfl
theorem qXm:((Rows.rewrittenRow.lifted==prog.liftsFinal))=true:=by kernel_rfl
theorem qXn:((prog.make==some Rows.rewrittenRow.make))=true:=by kernel_rfl
theorem qXo:((Rows.rewrittenRow.kinds==(if Rows.rewrittenRow.domain.isEmpty then[]else Tryz.f7.params.toList.map fun t=>match prog.underlying t with|some (.int k)=>some k|_=>none)))=true:=by kernel_rfl
theorem qXp:((Rows.rewrittenRow.pinned==Rows.rewrittenRow.pinnedBy))=true:=by kernel_rfl
theorem qXq:((Rows.rewrittenRow.veiled==(Tryz.f7.params.toList++Rows.rewrittenSpec.plain.varTypes prog++Tryz.f7.resultTypes.toList).any (prog.veiledRec ·)))=true:=by kernel_rfl
theorem qXr:(Rows.rewrittenRow.veiledFits prog Tryz.f7.params.toList (Tryz.f7.params.toList++Rows.rewrittenSpec.plain.varTypes prog++Tryz.f7.resultTypes.toList))=true:=by kernel_rfl
theorem qG6:joinedFacts prog 7 Tryz.f7 Rows.rewrittenSpec Rows.rewrittenRow=true:=by
 unfold joinedFacts;exact(qE5 (qE5 (qE5 (qE5 (qE5 (qE5 (qE5 (qE5 (qE5 (qE5 (qE5 (qE5 (qE5 (qE5 (qE5 (qE5 (qE5 (qE5 (qE5 (qE5 (qE5 (qE5 (qE5 (qE5 (qE5 (qE5 (qE5 (qE5 (qE5 (qE5 (qE5 rf0 rf1) rf2) rf3) rf4) rf5) rf6) rf7) rf8) rf9) qXW) qXX) qXY) qXZ) qXa) qXb) qXc) qXd) qXe) qXf) qXg) qXh) qXi) qXj) qXk) qXl) qXm) qXn) qXo) qXp) qXq) qXr)
