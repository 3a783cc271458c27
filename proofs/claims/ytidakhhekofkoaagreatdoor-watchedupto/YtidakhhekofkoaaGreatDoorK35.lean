/- Maps that number what was met. -/
import Derived.Test.YtidakhhekofkoaaGreatDoorK31
import Derived.Maps.OwnSet
import Derived.StringKeys
import Derived.DataShut
set_option linter.unusedSimpArgs false
set_option linter.unusedVariables false
set_option linter.unusedSectionVars false
namespace Go.Proofs.YtidakhhekofkoaaGreatDoor
open Go.RowKit Go.Deep Go.Maps
section
variable {σ : Type} [DecidableEq σ]
theorem fnd_snoc (s x : σ) : ∀ (l : List σ) (i : Nat), fnd x (l ++ [s]) i = match fnd x l i with
  | some j => some j
  | none => if s = x then some (i + l.length) else none
 | [], i => by simp [fnd]
 | y :: l, i => by
  rw [List.cons_append, fnd, fnd]
  by_cases h : y = x
  ·rw [if_pos h, if_pos h]
  ·rw [if_neg h, if_neg h, fnd_snoc s x l (i + 1)]
   cases fnd x l (i + 1) with
   | some j => rfl
   | none => simp only [List.length_cons]; rw [show i + 1 + l.length = i + (l.length + 1) by omega]
def NumM (kl : σ → Lit) (D : DataW Unit) (l : List σ) : Prop :=
 IsMap D ∧ ∀ s, (∀ i, fnd s l 0 = some i → Maps.has D (kl s) = true ∧ D.atKey (kl s) (.lit (.int .i64 0)) = .lit (.int .i64 i)) ∧ (fnd s l 0 = none → Maps.has D (kl s) = false)
theorem NumM.nil (kl : σ → Lit) : NumM kl (.map []) [] := ⟨⟨[], rfl⟩, fun s => And.intro (fun i h => absurd h (by rw [fnd]; exact nofun)) (fun _ => rfl)⟩
theorem NumM.put {kl : σ → Lit} (hk : ∀ s, WideAt.IsKeyLit (kl s)) (hi : ∀ s t, kl s = kl t → s = t) {D : DataW Unit} {l : List σ} (h : NumM kl D l) {s : σ} (hs : fnd s l 0 = none) : NumM kl (D.put (kl s) (.lit (.int .i64 (l.length : Nat)))) (l ++ [s]) := by
 refine ⟨h.1.put _ _, fun x => ?_⟩
 rw [fnd_snoc]
 by_cases e : s = x
 ·subst e
  rw [hs]
  simp only [if_true]
  refine ⟨fun i hi => ?_, fun hn => by cases hn⟩
  have : 0 + l.length = i := Option.some.inj hi
  rw [has_put_same h.1 (hk s), atKey_put_same h.1 (hk s), ← this, Nat.zero_add]
  exact ⟨rfl, rfl⟩
 ·have hne : kl x ≠ kl s := fun e' => e (hi x s e').symm
  rw [has_put_other hne, atKey_put_other hne]
  obtain ⟨h1, h2⟩ := h.2 x
  refine ⟨fun i hi => ?_, fun hn => ?_⟩
  ·cases hf : fnd x l 0 with
   | some j =>
    rw [hf] at hi
    have : j = i := Option.some.inj hi
    subst this
    exact h1 j hf
   | none =>
    rw [hf] at hi
    simp only [if_neg e] at hi
    cases hi
  ·cases hf : fnd x l 0 with
   | some j => rw [hf] at hn; cases hn
   | none => exact h2 hf
theorem numb_some {l : List σ} {s : σ} {i : Nat} (h : fnd s l 0 = some i) : numb l s = (l, i) := by unfold numb; rw [h]
theorem numb_none {l : List σ} {s : σ} (h : fnd s l 0 = none) : numb l s = (l ++ [s], l.length) := by unfold numb; rw [h]
theorem rowN_append (st : σ → Nat → σ) (s : σ) (a : Nat) : ∀ (ns : List Nat) (l : List σ), rowN st s (ns ++ [a]) l = ((numb (rowN st s ns l).1 (st s a)).1, (rowN st s ns l).2 ++ [(numb (rowN st s ns l).1 (st s a)).2])
 | [], l => rfl
 | b :: ns, l => by
  rw [List.cons_append, rowN, rowN_append st s a ns, rowN]
  rfl
end
def klP (p : Nat) : Lit := .int .u32 (p : Int)
theorem klP_inj (s t : Nat) (h : klP s = klP t) : s = t := by unfold klP at h; injection h with _ h; omega
def klS (b : List Bool) : Lit := .string (setS b).data.toList
theorem klS_inj (s t : List Bool) (h : klS s = klS t) : s = t := by
 unfold klS at h
 injection h with h
 rw [setS_list, setS_list] at h
 exact (List.map_inj_right (fun _ _ e => bit8_inj e)).1 h
theorem lawP : Keyed Tryz.prog 147 := int_keyed Tryz.underlying147
theorem lawS : Keyed Tryz.prog 151 := string_keyed Tryz.underlying151
theorem zeroI (w : World) : (zeroValue 3).run Tryz.prog w = .ok (.int .i64 0) w := by kernel_rfl
theorem keyP {p : Nat} (h : p < 4294967296) : keyOf Tryz.prog 147 (.int .u32 (p : Int)) = some (klP p) := keyOf_int_mk Tryz.underlying147 (by
 rw [Lit.wf_int_iff]
 have h1 : IntKind.u32.min = 0 := by decide
 have h2 : IntKind.u32.max = 4294967295 := by decide
 rw [h1, h2]
 omega)
theorem keyS {b : List Bool} (h : b.length ≤ 1000000) : keyOf Tryz.prog 151 (.string (setS b)) = some (klS b) := WideMaps.keyOf_string_mk Tryz.underlying151 (by
 rw [setS_size]
 unfold maxLen
 omega)
end Go.Proofs.YtidakhhekofkoaaGreatDoor
