/- Contracts of the reference's small functions: letter, word, within. -/
import Derived.Test.YtidakhhekofkoaaGreatDoorProg
import Derived.Test.YtidakhhekofkoaaGreatDoorU02
import Derived.Test.YtidakhhekofkoaaGreatDoorU05
import Derived.WalkKit
import Derived.WalkSpells
import Derived.WalkLawsBesides
namespace Go.Proofs.YtidakhhekofkoaaGreatDoor
open Go.RowKit
end Go.Proofs.YtidakhhekofkoaaGreatDoor
