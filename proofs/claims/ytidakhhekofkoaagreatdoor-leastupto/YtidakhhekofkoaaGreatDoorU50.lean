/- The row of Traces and its card: a script is opened, its lists and their sizes. -/
import Derived.Test.YtidakhhekofkoaaGreatDoorU46
import Derived.Test.YtidakhhekofkoaaGreatDoorU38
set_option linter.unusedSimpArgs false
set_option maxRecDepth 100000
namespace Go.Proofs.YtidakhhekofkoaaGreatDoor
open Go.ChangeShapes Go.WideShapes Go.ChangeAt Go.RowKit Go.Deep
section
variable {H : Type} {enc : TypeId × Value → H}
end
end Go.Proofs.YtidakhhekofkoaaGreatDoor
