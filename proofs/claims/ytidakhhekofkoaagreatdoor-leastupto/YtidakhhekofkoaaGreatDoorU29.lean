/- The reference's Keeps. -/
import Derived.Test.YtidakhhekofkoaaGreatDoorU25
import Derived.OwnWalk
import Derived.Test.YtidakhhekofkoaaGreatDoorU16
import Derived.Deep.DeepCutAuto
import Derived.BigQuiet
set_option linter.unusedSimpArgs false
namespace Go.Proofs.YtidakhhekofkoaaGreatDoor
open Go.RowKit Go.Deep
end Go.Proofs.YtidakhhekofkoaaGreatDoor
