/- A contract of the shelf at this program, in plain words: Itoa. -/
import Derived.Shelf.LaysM
import Derived.Shelf.Strconv.Itoa3
import Derived.Test.YtidakhhekofkoaaGreatDoorProg
namespace Go.Proofs
open Go.Shelf
end Go.Proofs
