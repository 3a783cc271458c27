/- A list that is lent: made, and looked at. -/
import Derived.Test.YtidakhhekofkoaaGreatDoorJ20
import Derived.Test.YtidakhhekofkoaaGreatDoorJ18
import Derived.OwnWalk
import Derived.Test.YtidakhhekofkoaaGreatDoorJ11
import Derived.Deep.DeepCutAuto
import Derived.BigQuiet
import Derived.Lib.BufferMore
set_option linter.unusedSimpArgs false
set_option linter.unusedVariables false
namespace Go.Proofs.YtidakhhekofkoaaGreatDoor
open Go.RowKit Go.Deep
theorem infoStr:(Tryz.prog.info? 9).map (fun i=>(i.zero,i.size,i.bytes))=some (some (.string ⟨#[]⟩),1,16):=by kernel_rfl
end Go.Proofs.YtidakhhekofkoaaGreatDoor
