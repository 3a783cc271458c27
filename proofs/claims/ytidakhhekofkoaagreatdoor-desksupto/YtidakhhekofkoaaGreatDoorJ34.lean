/- Maps that number what was met. -/
import Derived.Test.YtidakhhekofkoaaGreatDoorJ25
import Derived.Maps.OwnSet
import Derived.StringKeys
import Derived.DataShut
set_option linter.unusedSimpArgs false
set_option linter.unusedVariables false
set_option linter.unusedSectionVars false
namespace Go.Proofs.YtidakhhekofkoaaGreatDoor
open Go.RowKit Go.Deep Go.Maps
section
variable {σ : Type} [DecidableEq σ]
theorem numb_some {l:List σ} {s:σ} {i:Nat} (h:fnd s l 0=some i):numb l s=(l,i):=by unfold numb;rw [h]
theorem numb_none {l:List σ} {s:σ} (h:fnd s l 0=none):numb l s=(l++[s],l.length):=by unfold numb;rw [h]
theorem rowN_append (st:σ→Nat→σ) (s:σ) (a:Nat): ∀(ns:List Nat) (l:List σ),rowN st s (ns++[a]) l=((numb (rowN st s ns l).1 (st s a)).1,(rowN st s ns l).2++[(numb (rowN st s ns l).1 (st s a)).2])
 |[],l=>rfl
 |b::ns,l=>by
  rw [List.cons_append,rowN,rowN_append st s a ns,rowN]
  rfl
end
end Go.Proofs.YtidakhhekofkoaaGreatDoor
