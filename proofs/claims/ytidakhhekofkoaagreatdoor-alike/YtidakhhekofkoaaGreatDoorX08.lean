/- Contracts of the reference's small functions: letter, word, within. -/
import Derived.Test.YtidakhhekofkoaaGreatDoorProg
import Derived.Test.YtidakhhekofkoaaGreatDoorX02
import Derived.Test.YtidakhhekofkoaaGreatDoorX04
import Derived.WalkKit
import Derived.WalkSpells
import Derived.WalkLawsBesides
namespace Go.Proofs.YtidakhhekofkoaaGreatDoor
open Go.RowKit
end Go.Proofs.YtidakhhekofkoaaGreatDoor
