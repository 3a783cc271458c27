/- The reference's faults: named, names; its size. -/
import Derived.Test.YtekfjoapinolgaaGreatDoorJ13
import Derived.Deep.QuietTactic
import Derived.BigQuiet
set_option linter.unusedSimpArgs false
namespace Go.Proofs.YtekfjoapinolgaaGreatDoor
open Go.RowKit Go.Deep
end Go.Proofs.YtekfjoapinolgaaGreatDoor
