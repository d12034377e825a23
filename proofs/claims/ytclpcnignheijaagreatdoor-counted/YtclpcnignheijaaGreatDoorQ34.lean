/-
  Parts of the proof: JX.
-/
import Derived.Test.YtclpcnignheijaaGreatDoorQ30
import Derived.Test.YtclpcnignheijaaGreatDoorQ32
namespace Go.Proofs.YtclpcnignheijaaGreatDoor.Num
open Go.RowKit Go.Proofs.YtclpcnignheijaaGreatDoor Go.Conc
section
variable {b:BS} {t:Nat→Bool}
end
end Go.Proofs.YtclpcnignheijaaGreatDoor.Num
