/- The reference's Parse. -/
import Derived.Test.YtidakhhekofkoaaGreatDoorK13
import Derived.Deep.RegionHeld
set_option linter.unusedSimpArgs false
namespace Go.Proofs.YtidakhhekofkoaaGreatDoor
open Go.RowKit Go.Deep
theorem bcell3 {W w1 : World} (hb : Below W.heap.size W w1) : ∀ b o, b < W.heap.size → w1.cell? ⟨b, o, none⟩ = W.cell? ⟨b, o, none⟩ := fun b o h => hb.cell (p := ⟨b, o, none⟩) h
theorem below_grown {w a b : World} {pb : Nat} (h : Below w.heap.size w a) (hg : a.grownBy b (some pb)) (hp : w.heap.size ≤ pb) : Below w.heap.size w b := h.grown hg h.size (fun k hk => by cases hk; exact hp)
def TxS (w : World) (o : Option Addr) (tr : List ByteArray) : Prop := ∀ j x, tr[j]? = some x → ∃ b off, o = some ⟨b, off, none⟩ ∧ b < w.heap.size ∧ w.cell? ⟨b, off + j, none⟩ = some (.string x)
theorem TxS.later {w w' : World} {o : Option Addr} {tr : List ByteArray} (h : TxS w o tr) (hb : Below w.heap.size w w') : TxS w' o tr := fun j x hx => by
 obtain ⟨b, off, h1, h2, h3⟩ := h j x hx
 exact ⟨b, off, h1, Nat.lt_of_lt_of_le h2 hb.size, (bcell3 hb _ _ h2).trans h3⟩
end Go.Proofs.YtidakhhekofkoaaGreatDoor
