/- The program's aliveStates, rightFlags, Right. -/
import Derived.Test.YtidakhhekofkoaaGreatDoorX21
import Derived.Test.YtidakhhekofkoaaGreatDoorX16
set_option linter.unusedSimpArgs false
set_option linter.unusedVariables false
namespace Go.Proofs.YtidakhhekofkoaaGreatDoor
open Go.RowKit Go.Deep
end Go.Proofs.YtidakhhekofkoaaGreatDoor
