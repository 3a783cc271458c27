/- make of a list of single cells, as an equation. -/
import Derived.Test.YtidakhhekofkoaaGreatDoorJ11
import Derived.Laws.MakeOwn
namespace Go.Proofs.YtidakhhekofkoaaGreatDoor
open Go.RowKit Go.Deep
theorem madeCells_one (z:Value) (n:Nat):madeCells #[z] n=Array.replicate n z:=by
 refine Array.ext (by simp [madeCells]) fun i h1 h2=> ?_
 simp [madeCells,Nat.mod_one]
theorem make_run {P:Program} (w:World) (t e:TypeId) (i:TypeInfo) (z:Value) (ht:P.underlying t=some (.slice e)) (hi:P.info? e=some i) (hz:i.zero=some z) (hs:i.size=1) (hzc:z.cells= #[z]) (hby:i.bytes≤24) (n:Nat) (hn:n≤10000000000):
  (Instr.makeSlice t (.int .i64 (n:Int)) (.int .i64 (n:Int))).run P w= .ok (.slice (some ⟨w.heap.size,0,none⟩) n n) (w.alloc (.cells (Array.replicate n z) e)):=by
 have hb:(i.bytes:Int) * (n:Int)≤281474976710656:=by
  have h:i.bytes * n≤24 * 10000000000:=Nat.mul_le_mul hby hn
  have h2:((i.bytes * n:Nat):Int)≤281474976710656:=by omega
  rwa [Int.natCast_mul] at h2
 have:=run_make (P:=P) w t e i z ht hi hz .i64 .i64 n n (by omega) (Int.le_refl _) hb (by omega)
 rw [hzc,hs,Int.toNat_natCast,Nat.mul_one,madeCells_one] at this
 exact this
end Go.Proofs.YtidakhhekofkoaaGreatDoor
