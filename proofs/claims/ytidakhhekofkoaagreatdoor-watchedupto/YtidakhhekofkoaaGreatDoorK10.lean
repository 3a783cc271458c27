/- The reference's reader of formulas: what it reads is what the plain reader pf reads. -/
import Derived.Test.YtidakhhekofkoaaGreatDoorK09
import Derived.Deep.LoopGhost
namespace Go.Proofs.YtidakhhekofkoaaGreatDoor
open Go.RowKit Go.Deep
theorem head_yes {l : List Tk} (h : Ends l) {k : Nat} (hk : 2 ≤ k) (e : headK l = k) : ∃ t u r, l = t :: u :: r ∧ t.k = k := by
 match l, h with
 | [t], h => exact absurd (show t.k ≤ 1 from h) (by have : t.k = k := e; omega)
 | t :: u :: r, _ => exact ⟨t, u, r, rfl, e⟩
theorem head_no {l : List Tk} (h : Ends l) {k : Nat} (e : headK l ≠ k) : ∃ t r, l = t :: r ∧ t.k ≠ k := by
 match l, h with
 | t :: r, _ => exact ⟨t, r, rfl, e⟩
theorem blk_alloc' (w : World) (o : Obj) (n : Nat) (h : n = w.heap.size) : (w.alloc o).heap[n]? = some o := by rw [h]; exact blk_alloc w o
theorem Ends.more {t : Tk} {r : List Tk} (h : Ends (t :: r)) (hk : 2 ≤ t.k) : ∃ u r', r = u :: r' := by
 cases r with
 | nil => exact absurd (show t.k ≤ 1 from h) (by omega)
 | cons u r => exact ⟨u, r, rfl⟩
end Go.Proofs.YtidakhhekofkoaaGreatDoor
