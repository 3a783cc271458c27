/- A list that is lent: made, and looked at. -/
import Derived.Test.YtekfjoapinolgaaGreatDoorJ30
import Derived.Test.YtekfjoapinolgaaGreatDoorJ29
import Derived.Lib.BufferMore
set_option linter.unusedSimpArgs false
set_option linter.unusedVariables false
namespace Go.Proofs.YtekfjoapinolgaaGreatDoor
open Go.RowKit Go.Deep
end Go.Proofs.YtekfjoapinolgaaGreatDoor
