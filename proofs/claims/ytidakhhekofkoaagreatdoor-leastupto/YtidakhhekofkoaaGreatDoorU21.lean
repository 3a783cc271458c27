/- The program's IsName, allStates, leadsTo, rightActs. -/
import Derived.Test.YtidakhhekofkoaaGreatDoorU02
import Derived.Test.YtidakhhekofkoaaGreatDoorU13
import Derived.Test.YtidakhhekofkoaaGreatDoorU16
import Derived.Deep.RegionHeld
import Derived.Deep.DeepCutAuto
import Derived.BigQuiet
import Derived.Test.YtidakhhekofkoaaGreatDoorU07
set_option linter.unusedSimpArgs false
set_option linter.unusedVariables false
namespace Go.Proofs.YtidakhhekofkoaaGreatDoor
open Go.RowKit Go.Deep
def InS (w : World) (o : Option Addr) (l : List Int) : Prop := ∀ (j : Nat) (x : Int), l[j]? = some x → ∃ b off, o = some ⟨b, off, none⟩ ∧ b < w.heap.size ∧ w.cell? ⟨b, off + j, none⟩ = some (.int .i64 x)
def RwS (w : World) (o : Option Addr) (l : List (List Int)) : Prop := ∀ (j : Nat) (r : List Int), l[j]? = some r → ∃ b off ro rc, o = some ⟨b, off, none⟩ ∧ b < w.heap.size ∧ w.cell? ⟨b, off + j, none⟩ = some (.slice ro r.length rc) ∧ InS w ro r
theorem InS.later {w w' : World} {o : Option Addr} {l : List Int} (h : InS w o l) (hb : Below w.heap.size w w') : InS w' o l := fun j x hx => by
 obtain ⟨b, off, h1, h2, h3⟩ := h j x hx
 exact ⟨b, off, h1, Nat.lt_of_lt_of_le h2 hb.size, (bcell3 hb _ _ h2).trans h3⟩
theorem RwS.later {w w' : World} {o : Option Addr} {l : List (List Int)} (h : RwS w o l) (hb : Below w.heap.size w w') : RwS w' o l := fun j x hx => by
 obtain ⟨b, off, ro, rc, h1, h2, h3, h4⟩ := h j x hx
 exact ⟨b, off, ro, rc, h1, Nat.lt_of_lt_of_le h2 hb.size, (bcell3 hb _ _ h2).trans h3, h4.later hb⟩
structure TbI (w : World) (ao fo no : Option Addr) (ac : Nat) (z : Tz) : Prop where
 acts : TxS w ao z.acts
 fl : InS w fo z.fl
 nx : RwS w no z.nx
 ac : z.acts.length ≤ ac
 al : z.acts.length ≤ 10000000000000
 fll : z.fl.length ≤ 10000000000000
 nxl : z.nx.length ≤ 10000000000000
 rl : ∀ r ∈ z.nx, r.length ≤ 10000000000000
end Go.Proofs.YtidakhhekofkoaaGreatDoor
