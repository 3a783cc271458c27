/- The law's markTexts. -/
import Derived.Test.YtidakhhekofkoaaGreatDoorU32
import Derived.Test.YtidakhhekofkoaaGreatDoorU04
import Derived.Deep.RegionHeld
import Derived.Deep.AppendLies
import Derived.Lib.AppendIntMem
set_option linter.unusedSimpArgs false
set_option linter.unusedVariables false
namespace Go.Proofs.YtidakhhekofkoaaGreatDoor
open Go.RowKit Go.Deep
section
variable {w W W' : World} {lb : Nat} {dk : Value} {M : Nat} {to_ : Option Addr} {tn tc : Nat} {ix rx wt et wb eb : Value} {C : List Value} {B0 base : Nat} {l : Value} {n : Nat} {ys : List Value}
end
end Go.Proofs.YtidakhhekofkoaaGreatDoor
