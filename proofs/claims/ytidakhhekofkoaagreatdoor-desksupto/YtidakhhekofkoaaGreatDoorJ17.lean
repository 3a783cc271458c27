/- The program's checkKnown and checkAct. -/
import Derived.Test.YtidakhhekofkoaaGreatDoorJ09
import Derived.Test.YtidakhhekofkoaaGreatDoorJ15
import Derived.Test.YtidakhhekofkoaaGreatDoorJ10
import Derived.Deep.RegionHeld
import Derived.Deep.AppendLies
import Derived.Deep.DeepCutAuto
import Derived.BigQuiet
set_option linter.unusedSimpArgs false
namespace Go.Proofs.YtidakhhekofkoaaGreatDoor
open Go.RowKit Go.Deep
theorem Tryz.infoStr:(Tryz.prog.info? 9).map (fun i=>(i.zero,i.size,i.bytes))=some (some (.string ⟨#[]⟩),1,16):=by kernel_rfl
end Go.Proofs.YtidakhhekofkoaaGreatDoor
