/- Least answers true, of any text and any numbers (not more than two million). -/
import Derived.Test.YtidakhhekofkoaaGreatDoorK41
import Derived.Test.YtidakhhekofkoaaGreatDoorK40
import Derived.Test.YtidakhhekofkoaaGreatDoorK39
import Derived.Lib.QuietBelow
set_option linter.unusedSimpArgs false
set_option linter.unusedVariables false
namespace Go.Proofs.YtidakhhekofkoaaGreatDoor
open Rt
open Go.RowKit Go.Deep
theorem comp_all {s : ByteArray} {al : List Tk} {rs : List Rl} {t : Tb} (hr : readM s = .ok (al, rs)) (hc : CompP al rs (some t)) :
  RightT t ∧ metAll t.nx.length 0 1 t.nx ∧ (∀ i j, i < t.nx.length → j < t.nx.length → i ≠ j → ∃ v : List Nat, (∀ a ∈ v, a < t.acts.length) ∧ accT t (runT t i v) ≠ accT t (runT t j v)) ∧
   ∀ v : List Nat, (∀ a ∈ v, a < t.acts.length) → holdsM s (v.map (nmT t)) = (accT t (runT t 0 v), 0) := by
 refine ⟨comp_right hr hc, cmp_met hc, ?_, fun v hv => ?_⟩
 ·obtain ⟨e, l, tw, m, hT⟩ := CmpR.some hc
  exact fun i j hi hj hij => hT.differ hi hj hij
 ·obtain ⟨e, l, tw, m, hT⟩ := CmpR.some hc
  rw [hT.keeps hv, ← keepP_holds hr v (fun a ha => by have := hv a ha; rw [e, List.length_map] at this; exact this)]
  congr 1
  refine List.map_congr_left fun a ha => ?_
  unfold nmT nmA
  rw [e, List.getElem?_map]
def CmpB (s : ByteArray) (w w' : World) (e : Ending) : Prop :=
 (∃ x : Nat × Nat, readM s = .error x ∧ x.2 ≠ 0 ∧ e = .returned (.tuple #[.agg #[.slice none 0 0, .slice none 0 0, .slice none 0 0], .int .i64 x.2]) ∧ Below w.heap.size w w') ∨
 (∃ al rs, readM s = .ok (al, rs) ∧ e = .returned (.tuple #[.agg #[.slice none 0 0, .slice none 0 0, .slice none 0 0], .int .i64 5]) ∧ Below w.heap.size w w') ∨
 ∃ al rs t, readM s = .ok (al, rs) ∧ CompP al rs (some t) ∧ DecT t w w' e
theorem CmpP.three {s : ByteArray} {w w' : World} {e : Ending} (h : CmpP s w w' e) : CmpB s w w' e := by
 unfold CmpP at h
 cases hr : readM s with
 | error x =>
  rw [hr] at h
  exact Or.inl ⟨x, hr, readM_err hr, h.2, h.1⟩
 | ok m =>
  obtain ⟨al, rs⟩ := m
  rw [hr] at h
  obtain ⟨o, ho, hd⟩ := h
  cases o with
  | none => exact Or.inr (Or.inl ⟨al, rs, hr, hd.2, hd.1⟩)
  | some t => exact Or.inr (Or.inr ⟨al, rs, t, hr, ho, DecT.of rfl (comp_right hr ho) hd⟩)
end Go.Proofs.YtidakhhekofkoaaGreatDoor
namespace Go.Proofs.YtidakhhekofkoaaGreatDoor
open Go.RowKit Go.Deep
def CmpD (s : ByteArray) (w w' : World) (e : Ending) : Prop :=
 (∃ x : Nat, x ≠ 0 ∧ e = .returned (.tuple #[.agg #[.slice none 0 0, .slice none 0 0, .slice none 0 0], .int .i64 x]) ∧ Below w.heap.size w w') ∨
 ∃ al rs t, readM s = .ok (al, rs) ∧ CompP al rs (some t) ∧ DecT t w w' e
theorem CmpB.two {s : ByteArray} {w w' : World} {e : Ending} (h : CmpB s w w' e) : CmpD s w w' e := by
 rcases h with ⟨x, hx, hx0, rfl, hb2⟩ | ⟨al, rs, hx, rfl, hb2⟩ | h
 ·exact Or.inl ⟨x.2, hx0, rfl, hb2⟩
 ·exact Or.inl ⟨5, by decide, rfl, hb2⟩
 ·exact Or.inr h
end Go.Proofs.YtidakhhekofkoaaGreatDoor
