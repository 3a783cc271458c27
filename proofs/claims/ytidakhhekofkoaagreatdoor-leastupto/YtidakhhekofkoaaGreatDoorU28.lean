/- Lists that are marked: the law's own book-keeping. -/
import Derived.Test.YtidakhhekofkoaaGreatDoorU20
import Derived.OwnWalk
import Derived.ArgAppend
import Derived.Laws.CopyOwn
set_option linter.unusedSimpArgs false
set_option linter.unusedVariables false
namespace Go.Proofs.YtidakhhekofkoaaGreatDoor
open Go.RowKit Go.Deep
end Go.Proofs.YtidakhhekofkoaaGreatDoor
