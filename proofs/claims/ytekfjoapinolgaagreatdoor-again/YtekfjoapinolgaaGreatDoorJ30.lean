/- Lists that are marked: the law's own book-keeping. -/
import Derived.Test.YtekfjoapinolgaaGreatDoorJ16
import Derived.OwnWalk
import Derived.ArgAppend
import Derived.Laws.CopyOwn
set_option linter.unusedSimpArgs false
set_option linter.unusedVariables false
namespace Go.Proofs.YtekfjoapinolgaaGreatDoor
open Go.RowKit Go.Deep
end Go.Proofs.YtekfjoapinolgaaGreatDoor
