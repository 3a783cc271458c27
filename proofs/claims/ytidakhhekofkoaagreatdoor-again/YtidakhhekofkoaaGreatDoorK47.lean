/- The row of Traces and its card: a script is opened, its lists and their sizes. -/
import Derived.Test.YtidakhhekofkoaaGreatDoorK45
import Derived.Test.YtidakhhekofkoaaGreatDoorK40
set_option linter.unusedSimpArgs false
set_option maxRecDepth 100000
namespace Go.Proofs.YtidakhhekofkoaaGreatDoor
open Go.ChangeShapes Go.WideShapes Go.ChangeAt Go.RowKit Go.Deep
theorem bytesStr : Tryz.prog.bytesOf 9 = 16 := by kernel_rfl
def strOf : Value → ByteArray
  | .string s => s
  | _ => ⟨#[]⟩
section
variable {H : Type} {enc : TypeId × Value → H}
theorem weights_slice {P : Program} {t e : TypeId} {el sp : List (DataW H)} (ht : P.underlying t = some (.slice e)) : (DataW.slice el sp).weights P t = (el.length + sp.length) * P.bytesOf e :: (DataW.weightsAll P e el ++ DataW.weightsAll P e sp) := by
  rw [DataW.weights]; simp only [ht]
theorem list_open {w : World} {fuel : Nat} {cs : List Value} {x : DataW H × List MemPlace} (h : DataW.trod enc Tryz.prog w 0 (fun _ => true) true fuel 25 cs = some x) (hw : ∀ y ∈ x.1.weights Tryz.prog 25, y ≤ reachBytes) :
    ∃ l1 l2 l3, cs = [.slice l1 l2 l3] ∧ ScL0 w l1 l2 l3 := by
  rcases open_slice1 Tryz.underlying25 cellsStr h with ⟨hc, hx⟩ | ⟨a, len, cap, m, n, V, D, Pl, hc, _, hl, hm, hmm, hx, hel⟩
  · exact ⟨none, 0, 0, hc, Or.inl ⟨rfl, rfl, rfl⟩⟩
  · simp only [if_true] at hmm
    subst hmm
    have hV : ∀ i, i < m → ∃ s, V i = .string s := fun i hi => by
      obtain ⟨s, e, _⟩ := DataW.trod_string Tryz.underlying9 (hel i hi).2
      exact ⟨s, by simpa using e⟩
    refine ⟨some a, len, m, hc, Or.inr ⟨a, (List.range len).map fun i => strOf (V i), rfl, by simp, fun j s hj => ?_, ?_⟩⟩
    · rw [List.getElem?_map] at hj
      have hjl : j < len := by
        rcases Nat.lt_or_ge j len with h | h
        · exact h
        · rw [List.getElem?_eq_none (by simpa using h)] at hj; cases hj
      rw [List.getElem?_range hjl] at hj
      cases hj
      obtain ⟨s, hs⟩ := hV j (by omega)
      have hcell := (hel j (by omega)).1
      obtain ⟨b, off, spot⟩ := a
      have hspot : spot = none := by simpa [Addr.add] using World.cell?_spot (hel 0 (by omega)).1
      subst hspot
      rw [Addr.add_lit] at hcell
      refine ⟨b, off, rfl, block_lt_of_cell hcell, ?_⟩
      show w.cell? _ = some (.string (strOf (V j)))
      rw [hcell, hs]; rfl
    · rw [hx, weights_slice Tryz.underlying25] at hw
      have h1 := hw _ (List.mem_cons_self ..)
      rw [bytesStr] at h1
      simp at h1 ⊢
      unfold reachBytes at h1
      omega
end
end Go.Proofs.YtidakhhekofkoaaGreatDoor
