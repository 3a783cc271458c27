/- The law's world through a script of traces; its step Holds. -/
import Derived.Test.YtekfjoapinolgaaGreatDoorJ39
import Derived.Test.YtekfjoapinolgaaGreatDoorJ37
set_option linter.unusedSimpArgs false
set_option linter.unusedVariables false
namespace Go.Proofs.YtekfjoapinolgaaGreatDoor
open Go.RowKit Go.Deep
end Go.Proofs.YtekfjoapinolgaaGreatDoor
