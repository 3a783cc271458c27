/- The row of Prints, lifted, and its card. -/
import Derived.Test.YtidakhhekofkoaaGreatDoorZ09
import Derived.Test.YtidakhhekofkoaaGreatDoorZ38
set_option linter.unusedSimpArgs false
set_option maxRecDepth 100000
namespace Go.Proofs.YtidakhhekofkoaaGreatDoor
open Go.ChangeShapes Go.WideShapes Go.ChangeAt Go.RowKit Go.Deep
theorem spellCells : Tryz.prog.cellsOf 309 = 2 := by kernel_rfl
def cellsD : DataW Unit → List Value
 | .lit l => [l.value]
 | .agg xs => xs.flatMap fun x => match x with
  | .lit l => [l.value]
  | .agg ys => ys.flatMap fun y => match y with
   | .lit l => [l.value]
   | _ => []
  | _ => []
 | _ => []
def layH (P : Program) (h : Array Obj) (x : String × DataW Unit) : Array Obj :=
 match P.globalNamed x.1 with
 | some g => h.modify g fun
  | .cells _ t frozen => .cells (cellsD x.2).toArray t frozen
  | o => o
 | none => h
end Go.Proofs.YtidakhhekofkoaaGreatDoor
