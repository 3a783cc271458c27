/- Contracts of the reference's small functions: letter, word, within. -/
import Derived.Test.YtidakhhekofkoaaGreatDoorProg
import Derived.Test.YtidakhhekofkoaaGreatDoorZ02
import Derived.Test.YtidakhhekofkoaaGreatDoorZ04
import Derived.WalkKit
import Derived.WalkSpells
import Derived.WalkLawsBesides
namespace Go.Proofs.YtidakhhekofkoaaGreatDoor
open Go.RowKit
end Go.Proofs.YtidakhhekofkoaaGreatDoor
