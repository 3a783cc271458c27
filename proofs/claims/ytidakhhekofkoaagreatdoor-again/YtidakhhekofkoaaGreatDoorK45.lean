/- The law's step Holds of a list that is nil; its looks and settle. -/
import Derived.Test.YtidakhhekofkoaaGreatDoorK43
import Derived.Laws.AppendOwnNone
import Derived.Test.YtidakhhekofkoaaGreatDoorK17
set_option linter.unusedSimpArgs false
set_option linter.unusedVariables false
namespace Go.Proofs.YtidakhhekofkoaaGreatDoor
open Go.RowKit Go.Deep
def ScL0 (w : World) (l1 : Option Addr) (l2 l3 : Nat) : Prop := (l1 = none ∧ l2 = 0 ∧ l3 = 0) ∨ ∃ ad tr, l1 = some ad ∧ l2 = tr.length ∧ TxS w (some ad) tr ∧ tr.length ≤ 8796093021952
end Go.Proofs.YtidakhhekofkoaaGreatDoor
