/- The program's sum, Bytes. -/
import Derived.Test.YtidakhhekofkoaaGreatDoorU26
import Derived.Lib.BufSteps
import Derived.Laws.IdiomStrings
set_option linter.unusedSimpArgs false
set_option linter.unusedVariables false
namespace Go.Proofs.YtidakhhekofkoaaGreatDoor
open Go.RowKit Go.Deep
end Go.Proofs.YtidakhhekofkoaaGreatDoor
