/- The reference's faults: named, names; its size. -/
import Derived.Test.YtidakhhekofkoaaGreatDoorU16
import Derived.Deep.QuietTactic
import Derived.BigQuiet
set_option linter.unusedSimpArgs false
namespace Go.Proofs.YtidakhhekofkoaaGreatDoor
open Go.RowKit Go.Deep
end Go.Proofs.YtidakhhekofkoaaGreatDoor
