/- The reference's Parse. -/
import Derived.Test.YtekfjoapinolgaaGreatDoorJ12
import Derived.Deep.RegionHeld
import Derived.Test.YtekfjoapinolgaaGreatDoorJ05
set_option linter.unusedSimpArgs false
namespace Go.Proofs.YtekfjoapinolgaaGreatDoor
open Go.RowKit Go.Deep
theorem bcell3 {W w1 : World} (hb : Below W.heap.size W w1) : ∀ b o, b < W.heap.size → w1.cell? ⟨b, o, none⟩ = W.cell? ⟨b, o, none⟩ := fun b o h => hb.cell (p := ⟨b, o, none⟩) h
theorem below_grown {w a b : World} {pb : Nat} (h : Below w.heap.size w a) (hg : a.grownBy b (some pb)) (hp : w.heap.size ≤ pb) : Below w.heap.size w b := h.grown hg h.size (fun k hk => by cases hk; exact hp)
end Go.Proofs.YtekfjoapinolgaaGreatDoor
