/- The row of Least, lifted, and its card, in the second form: for every text and every list of numbers (of bulk 1048576 at most) Least answers true. -/
import Derived.Test.YtidakhhekofkoaaGreatDoorK43
import Derived.Test.YtidakhhekofkoaaGreatDoorK17
import Derived.OwnWalk
import Derived.ArgAppend
import Derived.Laws.CopyOwn
import Derived.Test.YtidakhhekofkoaaGreatDoorK22
import Derived.Test.YtidakhhekofkoaaGreatDoorK14
import Derived.Deep.DeepCutAuto
import Derived.BigQuiet
import Derived.Lib.BufferMore
import Derived.Shelf.LaysM
import Derived.Shelf.Strconv.Itoa3
import Derived.Test.YtidakhhekofkoaaGreatDoorProg
import Derived.Deep.RegionHeld
import Derived.Deep.AppendLies
import Derived.Lib.AppendIntMem
import Derived.Lib.ItoaLen
import Derived.Test.YtidakhhekofkoaaGreatDoorK29
import Derived.Laws.AppendOwnNone
import Derived.Test.YtidakhhekofkoaaGreatDoorK32
set_option linter.unusedSimpArgs false
set_option maxRecDepth 100000
namespace Go.Proofs.YtidakhhekofkoaaGreatDoor
open Go.ChangeShapes Go.WideShapes Go.ChangeAt Go.RowKit Go.Deep
theorem cellsI1 : Tryz.prog.cellsOf 3 = 1 := by kernel_rfl
theorem bulk_one {H : Type} (d : DataW H) : 1 ≤ Rows.uptoBulk d := by
 cases d with
 | lit l => cases l <;> simp [Rows.uptoBulk]
 | nil => simp [Rows.uptoBulk]
 | ptr d => simp [Rows.uptoBulk]
 | slice elems spare => simp [Rows.uptoBulk]
 | agg parts => simp [Rows.uptoBulk]
 | iface t d => simp [Rows.uptoBulk]
 | map entries => simp [Rows.uptoBulk]
 | held h => simp [Rows.uptoBulk]
theorem bulk_len {H : Type} (l : List (DataW H)) : l.length ≤ Rows.uptoBulkAll l := by
 induction l with
 | nil => simp [Rows.uptoBulkAll]
 | cons x r ih => have := bulk_one x; simp only [Rows.uptoBulkAll, List.length_cons]; omega
theorem ints_open {H : Type} {enc : TypeId × Value → H} {w : World} {fuel : Nat} {v : Value} {x : DataW H × List MemPlace} (h : DataW.trod enc Tryz.prog w 0 (fun _ => true) true fuel 33 [v] = some x) :
  ∃ (o : Option Addr) (k : Nat) (l : List Int), v = .slice o l.length k ∧ InS w o l ∧ (∀ y ∈ l, -9223372036854775808 ≤ y ∧ y ≤ 9223372036854775807) ∧ l.length ≤ Rows.uptoBulk x.1 := by
 rcases open_ints Tryz.underlying33 Tryz.underlying3 cellsI1 h with ⟨hc, hx⟩ | ⟨a, len, cap, zs, hc, _, hl, hm, hz, hx, hel, hwf⟩
 ·cases hc
  exact ⟨none, 0, [], rfl, fun j x h => by simp at h, fun y hy => (List.not_mem_nil hy).elim, Nat.zero_le _⟩
 ·cases hc
  simp only [if_true] at hz
  have hlz : len ≤ zs.length := by omega
  refine ⟨some a, cap, zs.take len, by rw [List.length_take, Nat.min_eq_left hlz], fun j y hj => ?_, fun y hy => ?_, ?_⟩
  ·have hjl : j < len := by
    have := (List.getElem?_eq_some_iff.1 hj).1
    rw [List.length_take] at this
    omega
   have hcell := hel j (by omega)
   obtain ⟨b, off, spot⟩ := a
   have hspot : spot = none := by simpa [Addr.add] using World.cell?_spot (hel 0 (by omega))
   subst hspot
   rw [Addr.add_lit] at hcell
   refine ⟨b, off, rfl, block_lt_of_cell hcell, ?_⟩
   rw [hcell]
   rw [List.getElem?_take_of_lt hjl] at hj
   rw [List.getD_eq_getElem?_getD, hj]
   rfl
  ·have h2 := hwf y (List.mem_of_mem_take hy)
   rw [Lit.wf_int_iff] at h2
   have h3 : IntKind.i64.min = -9223372036854775808 := by decide
   have h4 : IntKind.i64.max = 9223372036854775807 := by decide
   rw [h3, h4] at h2
   exact h2
  ·rw [hx]
   have h1 := bulk_len (lits (H := H) .i64 (zs.take len))
   have h2 : (lits (H := H) .i64 (zs.take len)).length = (zs.take len).length := by unfold lits; rw [List.length_map]
   simp only [Rows.uptoBulk]
   omega
end Go.Proofs.YtidakhhekofkoaaGreatDoor
