/- The law's world through a script of traces; its step Holds. -/
import Derived.Test.YtidakhhekofkoaaGreatDoorU41
import Derived.Test.YtidakhhekofkoaaGreatDoorU35
set_option linter.unusedSimpArgs false
set_option linter.unusedVariables false
namespace Go.Proofs.YtidakhhekofkoaaGreatDoor
open Go.RowKit Go.Deep
end Go.Proofs.YtidakhhekofkoaaGreatDoor
