/- The reference's Keeps. -/
import Derived.Test.YtidakhhekofkoaaGreatDoorK26
import Derived.OwnWalk
import Derived.Test.YtidakhhekofkoaaGreatDoorK14
import Derived.Deep.DeepCutAuto
import Derived.BigQuiet
set_option linter.unusedSimpArgs false
namespace Go.Proofs.YtidakhhekofkoaaGreatDoor
open Go.RowKit Go.Deep
end Go.Proofs.YtidakhhekofkoaaGreatDoor
