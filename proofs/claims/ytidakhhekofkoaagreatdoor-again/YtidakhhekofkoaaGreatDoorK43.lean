/- The law's world through a script of traces; its step Holds. -/
import Derived.Test.YtidakhhekofkoaaGreatDoorK42
import Derived.Test.YtidakhhekofkoaaGreatDoorK39
set_option linter.unusedSimpArgs false
set_option linter.unusedVariables false
namespace Go.Proofs.YtidakhhekofkoaaGreatDoor
open Go.RowKit Go.Deep
end Go.Proofs.YtidakhhekofkoaaGreatDoor
