/- The reference's rule. -/
import Derived.Test.YtidakhhekofkoaaGreatDoorK10
import Derived.Test.YtidakhhekofkoaaGreatDoorK05
import Derived.Deep.RegionWith
import Derived.OrdersHeld
set_option linter.unusedSimpArgs false
namespace Go.Proofs.YtidakhhekofkoaaGreatDoor
open Go.RowKit Go.Deep
def TyAt (w : World) (b ty : Nat) : Prop := ∃ c m, w.heap[b]? = some (.cells c ty m)
theorem owns_keep {w w' : World} {base e size n : Nat} {v : Value} {xs : List Value} {row : Option Nat} (h : w.ownsRow base e size v n xs) (hg : w.grownBy w' row) (hne : v.ownBlock = none ∨ v.ownBlock ≠ row) : w'.ownsRow base e size v n xs := by
 obtain ⟨h1, h2⟩ := h
 refine ⟨h1, ?_⟩
 rcases h2 with h2 | ⟨g, cap, cur, hv, hgb, hh, r⟩
 ·exact Or.inl h2
 ·refine Or.inr ⟨g, cap, cur, hv, hgb, ?_, r⟩
  rw [hg.block g (lt_of_blk hh) ?_]; exact hh
  subst hv
  rcases hne with hne | hne
  ·cases hne
  ·exact hne
theorem owns_mono {w : World} {base base' e size n : Nat} {v : Value} {xs : List Value} (h : w.ownsRow base e size v n xs) (hb : base' ≤ base) : w.ownsRow base' e size v n xs := by
 obtain ⟨h1, h2⟩ := h
 refine ⟨h1, ?_⟩
 rcases h2 with h2 | ⟨g, cap, cur, hv, hgb, hh, r⟩
 ·exact Or.inl h2
 ·exact Or.inr ⟨g, cap, cur, hv, Nat.le_trans hb hgb, hh, r⟩
def plusA (acc : List Tk) (x : Except Nat (List Tk × List Tk)) : Except Nat (List Tk × List Tk) := match x with | .error q => .error q | .ok (ts, l) => .ok (acc ++ ts, l)
def plusR (al : List Tk) (acc : List Rl) (x : Except Nat (List Rl)) : Except Nat (List Tk × List Rl) := match x with | .error q => .error q | .ok rs => .ok (al, acc ++ rs)
def actsX (l : List Tk) : Except Nat (List Tk × List Tk) := if headK l = 4 then actsRead l.length l.tail else .error (headP l)
theorem modelRead_eq (l : List Tk) : modelRead l = (match actsX l with | .error q => .error q | .ok (al, l1) => if headK l1 = 21 then plusR al [] (rulesRead l1.length l1.tail) else .error (headP l1)) := by
 unfold modelRead actsX
 split
 ·cases actsRead l.length l.tail with
  | error q => rfl
  | ok x =>
   obtain ⟨al, l1⟩ := x
   simp only
   split
   ·cases rulesRead l1.length l1.tail <;> rfl
   ·rfl
 ·rfl
theorem own_ty {w : World} {base e size n b ty : Nat} {v : Value} {xs : List Value} {c : Array Value} {m : Nat × Nat} (h : w.ownsRow base e size v n xs) (hb : v.ownBlock = some b) (hc : w.heap[b]? = some (.cells c ty m)) (hne : ty ≠ e) : False := by
 obtain ⟨_, h2 | ⟨g, cap, cur, hv, _, hh, _⟩⟩ := h
 ·rw [h2.1] at hb; cases hb
 ·rw [hv] at hb; cases hb
  rw [hc] at hh
  injection hh with hh
  injection hh with _ hh _
  exact hne hh
theorem actsRead_len : ∀ n l ts l', actsRead n l = .ok (ts, l') → l'.length ≤ l.length
 | 0, _, _, _, h => by simp [actsRead] at h
 | n + 1, l, ts, l', h => by
  rw [actsRead] at h
  split at h
  ·split at h
   ·split at h
    ·cases h
    ·rename_i ts1 l1 e
     have := actsRead_len n _ _ _ e
     cases h; simp at this; omega
   ·cases h; simp
  ·cases h
theorem ruleRead_len (l : List Tk) (r : Rl) (l' : List Tk) (h : ruleRead l = .ok (r, l')) : l'.length ≤ l.length := by
 rw [ruleRead] at h
 split at h
 ·split at h
  ·split at h
   ·split at h
    ·split at h
     ·cases h; simp; omega
     ·cases h
    ·cases h
   ·split at h
    ·cases h; simp; omega
    ·cases h
  ·cases h
 ·split at h
  ·cases h
  ·rename_i f l1 e
   have := pf_len _ _ _ _ _ _ e
   cases h; exact this
theorem own_ne {w : World} {base e size n pb : Nat} {v : Value} {xs : List Value} (h : w.ownsRow base e size v n xs) (hb : pb < base) : v.ownBlock ≠ some pb := by
 intro e; have := own_lt h pb e; omega
end Go.Proofs.YtidakhhekofkoaaGreatDoor
