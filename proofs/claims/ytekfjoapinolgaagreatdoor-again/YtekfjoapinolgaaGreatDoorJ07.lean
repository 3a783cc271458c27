/- Contracts of the reference's small functions: letter, word, within. -/
import Derived.Test.YtekfjoapinolgaaGreatDoorProg
import Derived.Test.YtekfjoapinolgaaGreatDoorJ01
import Derived.Test.YtekfjoapinolgaaGreatDoorJ04
import Derived.WalkKit
import Derived.WalkSpells
import Derived.WalkLawsBesides
namespace Go.Proofs.YtekfjoapinolgaaGreatDoor
open Go.RowKit
end Go.Proofs.YtekfjoapinolgaaGreatDoor
