/- The program's keeping, behind. -/
import Derived.Test.YtidakhhekofkoaaGreatDoorJ23
import Derived.Test.YtidakhhekofkoaaGreatDoorJ12
set_option linter.unusedSimpArgs false
set_option linter.unusedVariables false
namespace Go.Proofs.YtidakhhekofkoaaGreatDoor
open Go.RowKit Go.Deep
theorem Tryz.infoU8p:(Tryz.prog.info? 5).map (fun i=>(i.zero,i.size,i.bytes))=some (some (.int .u8 0),1,1):=by kernel_rfl
theorem mkBytes (w:World) (n:Nat) (hn:n≤10000000000):(Instr.makeSlice 51 (.int .i64 (n:Int)) (.int .i64 (n:Int))).run Tryz.prog w= .ok (.slice (some ⟨w.heap.size,0,none⟩) n n) (w.alloc (.cells (Array.replicate n (.int .u8 0)) 5)):=by
 obtain ⟨i0,hi0,hz0,hz1,hz2⟩:=info_parts Tryz.infoU8p
 exact make_run (P:=Tryz.prog) w 51 5 i0 (.int .u8 0) Tryz.underlying51 hi0 hz0 hz1 rfl (by omega) n hn
end Go.Proofs.YtidakhhekofkoaaGreatDoor
