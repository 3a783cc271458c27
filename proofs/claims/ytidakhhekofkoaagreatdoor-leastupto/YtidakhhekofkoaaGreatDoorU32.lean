/- A list that is lent: made, and looked at. -/
import Derived.Test.YtidakhhekofkoaaGreatDoorU28
import Derived.Test.YtidakhhekofkoaaGreatDoorU29
import Derived.Lib.BufferMore
set_option linter.unusedSimpArgs false
set_option linter.unusedVariables false
namespace Go.Proofs.YtidakhhekofkoaaGreatDoor
open Go.RowKit Go.Deep
end Go.Proofs.YtidakhhekofkoaaGreatDoor
