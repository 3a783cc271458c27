/- The program's aliveStates, rightFlags, Right. -/
import Derived.Test.YtidakhhekofkoaaGreatDoorU21
import Derived.Test.YtidakhhekofkoaaGreatDoorU17
set_option linter.unusedSimpArgs false
set_option linter.unusedVariables false
namespace Go.Proofs.YtidakhhekofkoaaGreatDoor
open Go.RowKit Go.Deep
theorem Tryz.infoBool : (Tryz.prog.info? 4).map (fun i => (i.zero, i.size, i.bytes)) = some (some (.bool false), 1, 1) := by kernel_rfl
def boolC (L : List Bool) : Array Value := (L.map Value.bool).toArray
theorem boolC_at (L : List Bool) (k : Nat) (x : Bool) (h : L[k]? = some x) : (boolC L)[k]? = some (.bool x) := by
 unfold boolC
 rw [List.getElem?_toArray, List.getElem?_map, h]
 rfl
theorem boolC_set (L : List Bool) (k : Nat) (x : Bool) : (boolC L).setIfInBounds k (.bool x) = boolC (L.set k x) := by
 unfold boolC
 rw [List.setIfInBounds_toArray, List.map_set]
structure AL (w wr : World) (g : Nat) (T : Array Value) (L : List Bool) : Prop where
 blk : wr.heap[g]? = some (.cells (boolC L) 4 (0, 0))
 box : wr.heap[w.heap.size]? = some (.cells T 36 (0, 0))
 bel : Below w.heap.size w wr
end Go.Proofs.YtidakhhekofkoaaGreatDoor
