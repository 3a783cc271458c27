/- The reference's arguments: the faults of a call of a template. -/
import Derived.Test.YtidakhhekofkoaaGreatDoorK16
import Derived.Test.YtidakhhekofkoaaGreatDoorK05
import Derived.Deep.DeepCutAuto
import Derived.Test.YtidakhhekofkoaaGreatDoorK09
import Derived.Test.YtidakhhekofkoaaGreatDoorK11
import Derived.Test.YtidakhhekofkoaaGreatDoorK13
set_option linter.unusedSimpArgs false
namespace Go.Proofs.YtidakhhekofkoaaGreatDoor
open Go.RowKit Go.Deep
theorem bdn (w : World) : ∀ n, Below w.heap.size w (w.drewN n)
 | 0 => Below.refl _ _
 | n + 1 => (bdn w n).drew
end Go.Proofs.YtidakhhekofkoaaGreatDoor
namespace Go.Proofs.YtidakhhekofkoaaGreatDoor
open Go.Deep
def Fg (Q : Tk → Prop) : Fm → Prop
 | .nil => False
 | .node _ _ a l r => (a.1 = 0 ∧ (∃ t, Q t ∧ t.k = 2 ∧ t.s = a.2.1 ∧ t.p = a.2.2) ∧ l = .nil ∧ r = .nil) ∨
   ((1 ≤ a.1 ∧ a.1 ≤ 3) ∧ l = .nil ∧ r = .nil) ∨ ((4 ≤ a.1 ∧ a.1 ≤ 8) ∧ Fg Q l ∧ r = .nil) ∨ ((9 ≤ a.1 ∧ a.1 ≤ 12) ∧ Fg Q l ∧ Fg Q r)
theorem Fg.leaf {Q : Tk → Prop} {t : Tk} (h : Q t) (hk : t.k = 2) : Fg Q (leaf 0 t.s t.p) := Or.inl ⟨rfl, ⟨t, h, hk, rfl, rfl⟩, rfl, rfl⟩
theorem Fg.word {Q : Tk → Prop} {k : Nat} {s : ByteArray} {p : Nat} (h : 1 ≤ k ∧ k ≤ 3) : Fg Q (Go.Proofs.YtidakhhekofkoaaGreatDoor.leaf k s p) := Or.inr (Or.inl ⟨h, rfl, rfl⟩)
theorem Fg.one {Q : Tk → Prop} {k : Nat} {f : Fm} (h : 4 ≤ k ∧ k ≤ 8) (hf : Fg Q f) : Fg Q (one k f) := Or.inr (Or.inr (Or.inl ⟨h, hf, rfl⟩))
theorem Fg.two {Q : Tk → Prop} {k : Nat} {f g : Fm} (h : 9 ≤ k ∧ k ≤ 12) (hf : Fg Q f) (hg : Fg Q g) : Fg Q (two k f g) := Or.inr (Or.inr (Or.inr ⟨h, hf, hg⟩))
theorem sizeF_leaf (k : Nat) (s : ByteArray) (p : Nat) : sizeF (leaf k s p) = 1 := rfl
theorem sizeF_one (k : Nat) (f : Fm) : sizeF (one k f) = 1 + sizeF f := rfl
theorem sizeF_two (k : Nat) (f g : Fm) : sizeF (two k f g) = 1 + sizeF f + sizeF g := rfl
theorem opOf_range (k : Nat) (h : opOf k ≠ 0) : 4 ≤ opOf k ∧ opOf k ≤ 8 := by
 revert h; unfold opOf; repeat' split
 all_goals (intro h; first | omega | exact absurd rfl h)
theorem headK_ne {l : List Tk} {k : Nat} (h : headK l = k) (hk : k ≠ 0) : ∃ t r, l = t :: r ∧ t.k = k := by
 cases l with
 | nil => exact absurd h.symm hk
 | cons t r => exact ⟨t, r, rfl, h⟩
theorem headK_len {l : List Tk} (h : headK l ≠ 0) : l.tail.length + 1 = l.length := by
 cases l with
 | nil => exact absurd rfl h
 | cons t r => simp
theorem all_tail {Q : Tk → Prop} {l : List Tk} (h : ∀ t ∈ l, Q t) : ∀ t ∈ l.tail, Q t := fun t ht => h t (List.mem_of_mem_tail ht)
theorem pf_good (Q : Tk → Prop) : ∀ n lev f l f' l', pf n lev f l = .ok (f', l') → lev ≤ 6 → (5 ≤ lev → Fg Q f) → (∀ t ∈ l, Q t) →
  Fg Q f' ∧ (∀ t ∈ l', Q t) ∧ sizeF f' + l'.length ≤ (if 5 ≤ lev then sizeF f else 0) + l.length
 | 0, _, _, _, _, _, h, _, _, _ => by simp [pf] at h
 | n + 1, 0, f, l, f', l', h, _, _, hq => by
  rw [pf] at h
  split at h
  ·cases h
  ·rename_i a l1 e
   have h1 := pf_good Q n 1 .nil l a l1 e (by omega) (by omega) hq
   split at h
   ·rename_i hk
    split at h
    ·cases h
    ·rename_i b l2 e2
     have h2 := pf_good Q n 0 .nil l1.tail b l2 e2 (by omega) (by omega) (all_tail h1.2.1)
     have hl := headK_len (l := l1) (by omega)
     cases h
     refine ⟨Fg.two (by omega) h1.1 h2.1, h2.2.1, ?_⟩
     have s1 := h1.2.2; have s2 := h2.2.2
     simp at s1 s2 ⊢
     rw [sizeF_two]; omega
   ·cases h; have s1 := h1.2.2; simp at s1; exact ⟨h1.1, h1.2.1, by simp; omega⟩
 | n + 1, 1, f, l, f', l', h, _, _, hq => by
  rw [pf] at h
  split at h
  ·cases h
  ·rename_i a l1 e
   have h1 := pf_good Q n 2 .nil l a l1 e (by omega) (by omega) hq
   have h2 := pf_good Q n 5 a l1 f' l' h (by omega) (fun _ => h1.1) h1.2.1
   have s1 := h1.2.2; have s2 := h2.2.2
   simp at s1 s2
   exact ⟨h2.1, h2.2.1, by simp; omega⟩
 | n + 1, 2, f, l, f', l', h, _, _, hq => by
  rw [pf] at h
  split at h
  ·cases h
  ·rename_i a l1 e
   have h1 := pf_good Q n 3 .nil l a l1 e (by omega) (by omega) hq
   have h2 := pf_good Q n 6 a l1 f' l' h (by omega) (fun _ => h1.1) h1.2.1
   have s1 := h1.2.2; have s2 := h2.2.2
   simp at s1 s2
   exact ⟨h2.1, h2.2.1, by simp; omega⟩
 | n + 1, 3, f, l, f', l', h, _, _, hq => by
  rw [pf] at h
  split at h
  ·cases h
  ·rename_i a l1 e
   have h1 := pf_good Q n 4 .nil l a l1 e (by omega) (by omega) hq
   split at h
   ·rename_i hk
    split at h
    ·cases h
    ·rename_i b l2 e2
     have h2 := pf_good Q n 4 .nil l1.tail b l2 e2 (by omega) (by omega) (all_tail h1.2.1)
     have hl := headK_len (l := l1) (by omega)
     cases h
     refine ⟨Fg.two (by omega) h1.1 h2.1, h2.2.1, ?_⟩
     have s1 := h1.2.2; have s2 := h2.2.2
     simp at s1 s2 ⊢
     rw [sizeF_two]; omega
   ·cases h; have s1 := h1.2.2; simp at s1; exact ⟨h1.1, h1.2.1, by simp; omega⟩
 | n + 1, 4, f, l, f', l', h, _, _, hq => by
  rw [pf] at h
  split at h
  ·rename_i ho
   split at h
   ·cases h
   ·rename_i a l1 e
    have h1 := pf_good Q n 4 .nil l.tail a l1 e (by omega) (by omega) (all_tail hq)
    have hl := headK_len (l := l) (by intro e0; rw [e0] at ho; exact ho rfl)
    have s1 := h1.2.2
    simp at s1
    cases h
    refine ⟨Fg.one (opOf_range _ ho) h1.1, h1.2.1, ?_⟩
    rw [sizeF_one]; simp; omega
  ·split at h
   ·rename_i hk
    split at h
    ·cases h
    ·rename_i a l1 e
     have h1 := pf_good Q n 0 .nil l.tail a l1 e (by omega) (by omega) (all_tail hq)
     have s1 := h1.2.2
     simp at s1
     split at h
     ·cases h; exact ⟨h1.1, all_tail h1.2.1, by simp; omega⟩
     ·cases h
   ·split at h
    ·rename_i hk
     cases h
     have hl := headK_len (l := l) (by omega)
     refine ⟨Fg.word (by omega), all_tail hq, ?_⟩
     rw [sizeF_leaf]; simp; omega
    ·split at h
     ·rename_i hk
      cases h
      obtain ⟨t, r, rfl, ht⟩ := headK_ne hk (by omega)
      exact ⟨Fg.leaf (hq t List.mem_cons_self) ht, all_tail hq, by rw [sizeF_leaf]; simp; omega⟩
     ·cases h
 | n + 1, 5, f, l, f', l', h, _, hf, hq => by
  rw [pf] at h
  split at h
  ·rename_i hk
   split at h
   ·cases h
   ·rename_i b l1 e
    have h1 := pf_good Q n 2 .nil l.tail b l1 e (by omega) (by omega) (all_tail hq)
    have h2 := pf_good Q n 5 _ l1 f' l' h (by omega) (fun _ => Fg.two (by omega) (hf (by omega)) h1.1) h1.2.1
    have hl := headK_len (l := l) (by omega)
    have s1 := h1.2.2; have s2 := h2.2.2
    rw [sizeF_two] at s2
    simp at s1 s2
    exact ⟨h2.1, h2.2.1, by simp; omega⟩
  ·cases h; exact ⟨hf (by omega), hq, by simp⟩
 | n + 1, 6, f, l, f', l', h, _, hf, hq => by
  rw [pf] at h
  split at h
  ·rename_i hk
   split at h
   ·cases h
   ·rename_i b l1 e
    have h1 := pf_good Q n 3 .nil l.tail b l1 e (by omega) (by omega) (all_tail hq)
    have h2 := pf_good Q n 6 _ l1 f' l' h (by omega) (fun _ => Fg.two (by omega) (hf (by omega)) h1.1) h1.2.1
    have hl := headK_len (l := l) (by omega)
    have s1 := h1.2.2; have s2 := h2.2.2
    rw [sizeF_two] at s2
    simp at s1 s2
    exact ⟨h2.1, h2.2.1, by simp; omega⟩
  ·cases h; exact ⟨hf (by omega), hq, by simp⟩
 | n + 1, k + 7, f, l, f', l', h, hk, _, _ => by omega
def RlGood (Q : Tk → Prop) (m : Nat) (r : Rl) : Prop :=
 (r.call = true ∧ Q r.word ∧ r.word.k = 2 ∧ r.f = .nil ∧ ∃ x, Q x ∧ x.k = 2 ∧ (r.args = [x] ∨ ∃ y, Q y ∧ (y.k = 2 ∨ y.k = 3) ∧ r.args = [x, y])) ∨
 (r.call = false ∧ Fg Q r.f ∧ sizeF r.f ≤ m ∧ r.args = [])
theorem headT_ok {Q : Tk → Prop} {l : List Tk} {k : Nat} (h : headK l = k) (hk : k ≠ 0) (hq : ∀ t ∈ l, Q t) : Q (headT l) ∧ (headT l).k = k := by
 obtain ⟨t, r, rfl, ht⟩ := headK_ne h hk
 exact ⟨hq t List.mem_cons_self, ht⟩
theorem ruleRead_good (Q : Tk → Prop) (l : List Tk) (r : Rl) (l' : List Tk) (h : ruleRead l = .ok (r, l')) (hq : ∀ t ∈ l, Q t) : RlGood Q l.length r ∧ (∀ t ∈ l', Q t) := by
 unfold ruleRead at h
 split at h
 ·rename_i h0
  have w0 := headT_ok h0.1 (by omega) hq
  split at h
  ·rename_i h1
   have w1 := headT_ok h1 (by omega) (all_tail (all_tail hq))
   split at h
   ·split at h
    ·rename_i h3
     have w3 : Q (headT l.tail.tail.tail.tail) ∧ ((headT l.tail.tail.tail.tail).k = 2 ∨ (headT l.tail.tail.tail.tail).k = 3) := by
      rcases h3 with h3 | h3
      ·have := headT_ok h3 (by omega) (all_tail (all_tail (all_tail (all_tail hq)))); exact ⟨this.1, Or.inl this.2⟩
      ·have := headT_ok h3 (by omega) (all_tail (all_tail (all_tail (all_tail hq)))); exact ⟨this.1, Or.inr this.2⟩
     split at h
     ·cases h
      exact ⟨Or.inl ⟨rfl, w0.1, w0.2, rfl, _, w1.1, w1.2, Or.inr ⟨_, w3.1, w3.2, rfl⟩⟩, all_tail (all_tail (all_tail (all_tail (all_tail (all_tail hq)))))⟩
     ·cases h
    ·cases h
   ·split at h
    ·cases h
     exact ⟨Or.inl ⟨rfl, w0.1, w0.2, rfl, _, w1.1, w1.2, Or.inl rfl⟩, all_tail (all_tail (all_tail (all_tail hq)))⟩
    ·cases h
  ·cases h
 ·split at h
  ·cases h
  ·rename_i f l1 e
   cases h
   have := pf_good Q _ 0 .nil l f l' e (by omega) (by omega) hq
   have s1 := this.2.2
   simp at s1
   exact ⟨Or.inr ⟨rfl, this.1, by show sizeF f ≤ _; omega, rfl⟩, this.2.1⟩
theorem actsRead_good (Q : Tk → Prop) : ∀ n l ts l', actsRead n l = .ok (ts, l') → (∀ t ∈ l, Q t) → (∀ t ∈ ts, Q t ∧ t.k = 2) ∧ ts ≠ [] ∧ ts.length ≤ n ∧ (∀ t ∈ l', Q t)
 | 0, l, ts, l', h, _ => by simp [actsRead] at h
 | n + 1, l, ts, l', h, hq => by
  rw [actsRead] at h
  split at h
  ·rename_i h0
   have w0 := headT_ok h0 (by omega) hq
   split at h
   ·split at h
    ·cases h
    ·rename_i ts1 l1 e
     have := actsRead_good Q n l.tail.tail ts1 l1 e (all_tail (all_tail hq))
     cases h
     refine ⟨fun t ht => ?_, by simp, by simp; omega, this.2.2.2⟩
     rcases List.mem_cons.1 ht with rfl | ht
     ·exact w0
     ·exact this.1 t ht
   ·cases h
    exact ⟨fun t ht => by rw [List.mem_singleton] at ht; subst ht; exact w0, by simp, by simp, all_tail hq⟩
  ·cases h
theorem RlGood.mono {Q : Tk → Prop} {m m' : Nat} {r : Rl} (h : RlGood Q m r) (hm : m ≤ m') : RlGood Q m' r := by
 rcases h with h | ⟨h1, h2, h3, h4⟩
 ·exact Or.inl h
 ·exact Or.inr ⟨h1, h2, by omega, h4⟩
theorem rulesRead_good (Q : Tk → Prop) (m : Nat) : ∀ n l rs, rulesRead n l = .ok rs → l.length ≤ m → (∀ t ∈ l, Q t) → (∀ r ∈ rs, RlGood Q m r) ∧ rs.length ≤ n
 | 0, l, rs, h, _, _ => by simp [rulesRead] at h
 | n + 1, l, rs, h, hm, hq => by
  rw [rulesRead] at h
  split at h
  ·cases h; exact ⟨fun r hr => (List.not_mem_nil hr).elim, by simp⟩
  ·split at h
   ·split at h
    ·cases h
    ·rename_i r l1 e
     have hr := ruleRead_good Q l.tail r l1 e (all_tail hq)
     have hl := ruleRead_len l.tail r l1 e
     split at h
     ·split at h
      ·cases h
      ·rename_i rs1 e1
       have h1 := rulesRead_good Q m n l1.tail rs1 e1 (by simp at hl ⊢; omega) (all_tail hr.2)
       cases h
       refine ⟨fun x hx => ?_, by simp; omega⟩
       rcases List.mem_cons.1 hx with rfl | hx
       ·exact (show RlGood Q _ r from hr.1).mono (by simp; omega)
       ·exact h1.1 x hx
     ·cases h
   ·cases h
theorem modelRead_good (Q : Tk → Prop) (l : List Tk) (al : List Tk) (rs : List Rl) (h : modelRead l = .ok (al, rs)) (hq : ∀ t ∈ l, Q t) :
  (∀ t ∈ al, Q t ∧ t.k = 2) ∧ al ≠ [] ∧ al.length ≤ l.length ∧ (∀ r ∈ rs, RlGood Q l.length r) ∧ rs.length ≤ l.length := by
 unfold modelRead at h
 split at h
 ·split at h
  ·cases h
  ·rename_i ts l1 e
   have ha := actsRead_good Q _ _ _ _ e (all_tail hq)
   have hl := actsRead_len _ _ _ _ e
   split at h
   ·split at h
    ·cases h
    ·rename_i rs1 e1
     have hr := rulesRead_good Q l.length _ _ _ e1 (by simp at hl ⊢; omega) (all_tail ha.2.2.2)
     cases h
     exact ⟨ha.1, ha.2.1, ha.2.2.1, hr.1, by simp at hl; omega⟩
   ·cases h
 ·cases h
theorem lexR_small (s : ByteArray) : ∀ n i, i ≤ s.size → ∀ t ∈ lexR s n i, t.s.size ≤ s.size ∧ t.p ≤ s.size
 | 0, _, _, t, h => by simp [lexR] at h
 | n + 1, i, hi, t, h => by
  have h1 := upTo_le isBl s i hi
  have h2 := lexAt_s s _ h1
  have h3 := lexAt_p s _ h1
  by_cases hk : (lexAt s (upTo isBl s i)).k ≤ 1
  ·rw [lexR_stop s n i hk] at h; simp at h; subst h; omega
  ·rw [lexR_go s n i hk] at h
   have ha := lex_adv s i hi hk
   rcases List.mem_cons.1 h with rfl | h
   ·omega
   ·exact lexR_small s n _ ha.2 t h
def dups (pre : List Tk) (a : Tk) : List (Nat × Nat) :=
 match pre with
 | [] => []
 | t :: r => (if t.s.toList = a.s.toList then [(a.p, 3)] else []) ++ dups r a
def fLong (a : Tk) : List (Nat × Nat) := if 8 < a.s.size then [(a.p, 1)] else []
def fAct (pre : List Tk) (i : Nat) (a : Tk) : List (Nat × Nat) := fLong a ++ (dups pre a ++ (if 6 ≤ i then [(a.p, 4)] else []))
def fActs (al : List Tk) : Nat → List Tk → List (Nat × Nat)
 | _, [] => []
 | i, a :: r => fAct (al.take i) i a ++ fActs al (i + 1) r
def fRule (al : List Tk) (i : Nat) (r : Rl) : List (Nat × Nat) := (if 4 ≤ i then [(r.pl, 4)] else []) ++ (fFm al r.f ++ (if r.call = true then fCall al r else []))
def fRules (al : List Tk) : Nat → List Rl → List (Nat × Nat)
 | _, [] => []
 | i, r :: l => fRule al i r ++ fRules al (i + 1) l
def faults (al : List Tk) (rs : List Rl) : List (Nat × Nat) := fActs al 0 al ++ fRules al 0 rs
def nodesL : List Rl → Nat
 | [] => 0
 | r :: l => sizeF (ruleF r) + nodesL l
def rdOf (n : Nat) : Except Nat (List Tk × List Rl) → Except (Nat × Nat) (List Tk × List Rl)
 | .error q => .error (q, 2)
 | .ok (al, rs) => if (meets (0, 0) (faults al rs)).2 ≠ 0 then .error (meets (0, 0) (faults al rs)) else if 16 < nodesL rs then .error (n, 4) else .ok (al, rs)
def readM (s : ByteArray) : Except (Nat × Nat) (List Tk × List Rl) := if 400 < s.size then .error (0, 1) else rdOf s.size (modelRead (lexR s (s.size + 1) 0))
theorem dropTl {α : Type} {l : List α} {k : Nat} {x : α} {r : List α} (h : l.drop k = x :: r) : l.drop (k + 1) = r := by
 have := congrArg List.tail h
 simpa using this
theorem take_snoc {α : Type} {l : List α} {k : Nat} {x : α} {r : List α} (h : l.drop k = x :: r) : l.take (k + 1) = l.take k ++ [x] := by
 rw [List.take_add_one]
 have : l[k]? = some x := by
  have := congrArg (fun l => l[0]?) h
  simpa using this
 rw [this]; rfl
def Errs (l : List (Nat × Nat)) : Prop := ∀ f ∈ l, f.2 ≠ 0
theorem Errs.append {l m : List (Nat × Nat)} (h : Errs l) (k : Errs m) : Errs (l ++ m) := fun f hf => (List.mem_append.1 hf).elim (h f) (k f)
theorem Errs.nil : Errs [] := fun _ h => (List.not_mem_nil h).elim
theorem Errs.ite {p : Prop} [Decidable p] {l m : List (Nat × Nat)} (h : Errs l) (k : Errs m) : Errs (if p then l else m) := by split <;> assumption
theorem Errs.one {a b : Nat} (h : b ≠ 0) : Errs [(a, b)] := fun f hf => by rw [List.mem_singleton] at hf; subst hf; exact h
theorem meet_ne (x : Nat × Nat) (p e : Nat) (he : e ≠ 0) : (meet x p e).2 ≠ 0 := by
 unfold meet; split
 ·exact he
 ·rename_i h; intro h'; exact h (Or.inl h')
theorem meets_ne : ∀ (l : List (Nat × Nat)) (x : Nat × Nat), Errs l → x.2 ≠ 0 → (meets x l).2 ≠ 0
 | [], _, _, h => h
 | f :: l, x, he, _ => meets_ne l _ (fun g hg => he g (List.mem_cons_of_mem _ hg)) (meet_ne x _ _ (he f List.mem_cons_self))
theorem meets_zero {l : List (Nat × Nat)} (he : Errs l) (h : (meets (0, 0) l).2 = 0) : l = [] := by
 cases l with
 | nil => rfl
 | cons f l => exact absurd h (meets_ne l _ (fun g hg => he g (List.mem_cons_of_mem _ hg)) (meet_ne _ _ _ (he f List.mem_cons_self)))
theorem fName_errs (al : List Tk) (s : ByteArray) (p : Nat) : Errs (fName al s p) := (Errs.ite (Errs.one (by decide)) Errs.nil).append (Errs.ite Errs.nil (Errs.one (by decide)))
theorem fFm_errs (al : List Tk) : ∀ f, Errs (fFm al f)
 | .nil => Errs.nil
 | .node _ _ _ l r => (Errs.ite (fName_errs al _ _) Errs.nil).append ((fFm_errs al l).append (fFm_errs al r))
theorem fArgs_errs (al : List Tk) : ∀ (k : List UInt8) (l : List Tk), Errs (fArgs al k l)
 | _, [] => by rw [fArgs]; exact Errs.nil
 | k, t :: r => by rw [fArgs]; exact ((Errs.ite (fName_errs al _ _) Errs.nil).append (Errs.ite (Errs.one (by decide)) Errs.nil)).append (fArgs_errs al _ r)
theorem fCall_errs (al : List Tk) (r : Rl) : Errs (fCall al r) := (Errs.ite (Errs.one (by decide)) Errs.nil).append ((Errs.ite Errs.nil (Errs.one (by decide))).append ((fArgs_errs al _ _).append (Errs.ite (Errs.one (by decide)) Errs.nil)))
theorem dups_errs (a : Tk) : ∀ l, Errs (dups l a)
 | [] => Errs.nil
 | _ :: r => (Errs.ite (Errs.one (by decide)) Errs.nil).append (dups_errs a r)
theorem fActs_errs (al : List Tk) : ∀ i l, Errs (fActs al i l)
 | _, [] => Errs.nil
 | i, a :: r => ((Errs.ite (Errs.one (by decide)) Errs.nil).append ((dups_errs a _).append (Errs.ite (Errs.one (by decide)) Errs.nil))).append (fActs_errs al (i + 1) r)
theorem fRules_errs (al : List Tk) : ∀ i l, Errs (fRules al i l)
 | _, [] => Errs.nil
 | i, r :: l => ((Errs.ite (Errs.one (by decide)) Errs.nil).append ((fFm_errs al _).append (Errs.ite (fCall_errs al r) Errs.nil))).append (fRules_errs al (i + 1) l)
theorem faults_errs (al : List Tk) (rs : List Rl) : Errs (faults al rs) := (fActs_errs al _ _).append (fRules_errs al _ _)
theorem fRules_nil {al : List Tk} : ∀ {i : Nat} {rs : List Rl}, fRules al i rs = [] → ∀ r ∈ rs, fFm al r.f = [] ∧ (r.call = true → fCall al r = [])
 | _, [], _, r, hr => (List.not_mem_nil hr).elim
 | i, x :: l, h, r, hr => by
  rw [fRules, fRule] at h
  obtain ⟨h1, h2⟩ := List.append_eq_nil_iff.1 h
  obtain ⟨h3, h4⟩ := List.append_eq_nil_iff.1 h1
  obtain ⟨h5, h6⟩ := List.append_eq_nil_iff.1 h4
  rcases List.mem_cons.1 hr with rfl | hr
  ·exact ⟨h5, fun hc => by rw [if_pos hc] at h6; exact h6⟩
  ·exact fRules_nil h2 r hr
theorem dig_ok {t : Tk} (h : TkOk t) (hk : t.k = 3) : ∃ c : UInt8, t.s = ⟨#[c]⟩ ∧ 48 ≤ c.toNat ∧ c.toNat ≤ 57 := by
  obtain ⟨c, hc, h1⟩ := h.2.2.1 hk
  refine ⟨c, ?_, h1⟩
  cases hs : t.s with
  | mk d => rw [hs] at hc; have : d = #[c] := by rw [← Array.toList_inj]; exact hc
            rw [this]
theorem takes_len {n : Nat} (h : n ≤ 11) : (tplTakes n = [110] ∧ n ≤ 1) ∨ (tplTakes n = [110, 100] ∧ 2 ≤ n ∧ n ≤ 3) ∨ (tplTakes n = [110, 110] ∧ 4 ≤ n) := by
 unfold tplTakes
 split
 ·exact Or.inl ⟨rfl, by assumption⟩
 ·split
  ·exact Or.inr (Or.inl ⟨rfl, by omega, by assumption⟩)
  ·exact Or.inr (Or.inr ⟨rfl, by omega⟩)
theorem call_ok {al : List Tk} {Q : Tk → Prop} {m : Nat} {r : Rl} (hQ : ∀ t, Q t → TkOk t) (hg : RlGood Q m r) (hc : r.call = true) (h : fCall al r = []) : CallOk r := by
 rcases hg with ⟨_, _, _, _, x, hx, hxk, hargs⟩ | ⟨h1, _⟩
 ·unfold fCall at h
  obtain ⟨_, h2⟩ := List.append_eq_nil_iff.1 h
  obtain ⟨h3, h4⟩ := List.append_eq_nil_iff.1 h2
  obtain ⟨h5, h6⟩ := List.append_eq_nil_iff.1 h4
  have hn : tplNo r.word.s.toList ≤ 11 := by
   rcases Nat.lt_or_ge 11 (tplNo r.word.s.toList) with hh | hh
   ·rw [if_neg (by omega)] at h3; cases h3
   ·exact hh
  have hlen : ¬ r.args.length < (tplTakes (tplNo r.word.s.toList)).length := by
   intro hh; rw [if_pos hh] at h6; cases h6
  have hbad : ∀ {ks : List UInt8} {t : Tk} {l : List Tk}, fArgs al ks (t :: l) = [] → badArg ks t = false ∧ fArgs al ks.tail l = [] := by
   intro ks t l he
   rw [fArgs, fArg] at he
   obtain ⟨e1, e2⟩ := List.append_eq_nil_iff.1 he
   obtain ⟨_, e3⟩ := List.append_eq_nil_iff.1 e1
   refine ⟨?_, e2⟩
   cases hb : badArg ks t with
   | false => rfl
   | true => rw [if_pos hb] at e3; cases e3
  rcases takes_len hn with ⟨ht, hk⟩ | ⟨ht, hk⟩ | ⟨ht, hk⟩
  ·rcases hargs with ha | ⟨y, hy, hyk, ha⟩
   ·exact Or.inl ⟨hk, x, ha⟩
   ·rw [ha, ht] at h5
    have := hbad (hbad h5).2
    exact absurd this.1 (by simp [badArg])
  ·rcases hargs with ha | ⟨y, hy, hyk, ha⟩
   ·rw [ha, ht] at hlen; exact absurd (by simp) hlen
   ·rw [ha, ht] at h5
    have hb := (hbad (hbad h5).2).1
    rcases hyk with hyk | hyk
    ·simp [badArg, hyk] at hb
    ·obtain ⟨c, hc1, hc2, hc3⟩ := dig_ok (hQ y hy) hyk
     simp [badArg, hyk, hc1] at hb
     exact Or.inr (Or.inl ⟨hk.1, hk.2, x, y, ha, c, hc1, by omega, hc3⟩)
  ·rcases hargs with ha | ⟨y, hy, hyk, ha⟩
   ·rw [ha, ht] at hlen; exact absurd (by simp) hlen
   ·exact Or.inr (Or.inr ⟨hk, hn, x, y, ha⟩)
 ·rw [h1] at hc; cases hc
theorem timesF_size (a : ByteArray) : ∀ n, sizeF (timesF a n) ≤ 2 + 4 * n
 | 0 => by show 1 + (1 + 0 + 0) + 0 ≤ 2; omega
 | 1 => by show 1 + (1 + 0 + 0) + 0 ≤ 6; omega
 | n + 2 => by
  have := timesF_size a (n + 1)
  show 1 + (1 + (1 + 0 + 0) + (1 + sizeF (timesF a (n + 1)) + 0)) + 0 ≤ _
  omega
theorem tplF_size (k : Nat) (a b : ByteArray) (n : Nat) : sizeF (tplF k a b n) ≤ 12 + 4 * n := by
 have := timesF_size a n
 unfold tplF
 split
 ·show 1 + 0 + 0 ≤ _; omega
 split
 ·show 1 + (1 + (1 + 0 + 0) + (1 + (1 + (1 + 0 + 0) + 0) + 0)) + 0 ≤ _; omega
 split
 ·omega
 split
 ·show 1 + sizeF (timesF a n) + 0 ≤ _; omega
 repeat' split
 all_goals (simp only [sizeF_two, sizeF_one, acF, sizeF_leaf]; omega)
theorem ruleF_size {Q : Tk → Prop} {m : Nat} {r : Rl} (hg : RlGood Q m r) (hok : r.call = true → CallOk r) : sizeF (ruleF r) ≤ 48 + m := by
 unfold ruleF
 rcases hg with ⟨hc, _⟩ | ⟨h1, _, h3, _⟩
 ·rw [if_pos hc]
  have h1 := tplF_size (tplNo r.word.s.toList) (argS r.args 0) (argS r.args 1) (digitN (argS r.args 1))
  rcases hok hc with ⟨hk, x, ha⟩ | ⟨hk, hk2, x, y, ha, c, hc1, hc2, hc3⟩ | ⟨hk, hk2, x, y, ha⟩
  ·have : digitN (argS r.args 1) = 0 := by rw [ha]; rfl
   omega
  ·have : digitN (argS r.args 1) ≤ 9 := by rw [ha]; show digitN y.s ≤ 9; rw [hc1]; show c.toNat - 48 ≤ 9; omega
   omega
  ·have h2 : sizeF (tplF (tplNo r.word.s.toList) (argS r.args 0) (argS r.args 1) (digitN (argS r.args 1))) ≤ 12 := by
    unfold tplF
    rw [if_neg (by omega), if_neg (by omega), if_neg (by omega), if_neg (by omega)]
    repeat' split
    all_goals (simp only [sizeF_two, sizeF_one, acF, sizeF_leaf]; omega)
   omega
 ·rw [if_neg (by simp [h1])]; omega
end Go.Proofs.YtidakhhekofkoaaGreatDoor
namespace Go.Proofs.YtidakhhekofkoaaGreatDoor
open Go.RowKit Go.Deep
theorem owns_val {w : World} {base e size n : Nat} {v : Value} {xs : List Value} (h : w.ownsRow base e size v n xs) : ∃ o k, v = .slice o n k := by
 obtain ⟨_, ⟨h1, h2⟩ | ⟨g, cap, cur, hv, _⟩⟩ := h
 ·subst h2; exact ⟨_, _, h1⟩
 ·exact ⟨_, _, hv⟩
theorem owns1_at {w : World} {base e n k i : Nat} {o : Option Addr} {xs : List Value} (h : w.ownsRow base e 1 (.slice o n k) n xs) (hi : i < n) : ∃ g, o = some ⟨g, 0, none⟩ ∧ g < w.heap.size ∧ w.cell? ⟨g, i, none⟩ = xs[i]? := by
 obtain ⟨_, ⟨h1, h2⟩ | ⟨g, cap, cur, hv, _, hrow, hle, _, hcs, htake⟩⟩ := h
 ·omega
 ·cases hv
  refine ⟨g, rfl, lt_of_blk hrow, ?_⟩
  rw [cell_of_blk hrow, ← Array.getElem?_toList, ← htake, List.getElem?_take, if_pos (by omega)]
theorem nodesL_append : ∀ a b : List Rl, nodesL (a ++ b) = nodesL a + nodesL b
 | [], b => by simp [nodesL]
 | r :: l, b => by rw [List.cons_append, nodesL, nodesL, nodesL_append l b]; omega
theorem nodesL_le (m : Nat) : ∀ l : List Rl, (∀ r ∈ l, sizeF (ruleF r) ≤ m) → nodesL l ≤ l.length * m
 | [], _ => by simp [nodesL]
 | r :: l, h => by
  have h1 := h r List.mem_cons_self
  have h2 := nodesL_le m l (fun x hx => h x (List.mem_cons_of_mem _ hx))
  rw [nodesL, List.length_cons, Nat.succ_mul]; omega
def TkS (t : Tk) : Prop := TkOk t ∧ t.s.size ≤ 400
def exI (u v : Nat → Bool) : Nat → Nat → Bool
 | 0, _ => false
 | c + 1, i => v i || (u i && exI u v c (i + 1))
def alI (u : Nat → Bool) : Nat → Nat → Bool
 | 0, _ => true
 | c + 1, i => u i && alI u c (i + 1)
def opV (k : Nat) (y : Bool) (u v : Nat → Bool) (i n : Nat) : Bool :=
 if k = 0 then y else if k = 1 then true else if k = 2 then false else if k = 3 then decide (n < i) else if k = 4 then !u i
 else if k = 5 then decide (i + 1 ≤ n) && u (i + 1) else if k = 6 then decide (n < i + 1) || u (i + 1)
 else if k = 7 then exI (fun _ => true) u (n + 1 - i) i else if k = 8 then alI u (n + 1 - i) i else if k = 9 then exI u v (n + 1 - i) i
 else if k = 10 then u i && v i else if k = 11 then u i || v i else !u i || v i
end Go.Proofs.YtidakhhekofkoaaGreatDoor
namespace Go.Proofs.YtidakhhekofkoaaGreatDoor
open Go.Deep
def semF (n : Nat) (y : ByteArray → Nat → Bool) : Fm → Nat → Bool
 | .nil, _ => true
 | .node _ _ a l r, i => opV a.1 (y a.2.1 i) (semF n y l) (semF n y r) i n
theorem exI_step (u v : Nat → Bool) (i n : Nat) : exI u v (n + 1 - i) i = (decide (i ≤ n) && (v i || (u i && exI u v (n + 1 - (i + 1)) (i + 1)))) := by
 by_cases h : i ≤ n
 ·rw [show n + 1 - i = (n + 1 - (i + 1)) + 1 by omega, exI, decide_eq_true h, Bool.true_and]
 ·rw [show n + 1 - i = 0 by omega, exI, decide_eq_false h, Bool.false_and]
theorem alI_step (u : Nat → Bool) (i n : Nat) : alI u (n + 1 - i) i = (!decide (i ≤ n) || (u i && alI u (n + 1 - (i + 1)) (i + 1))) := by
 by_cases h : i ≤ n
 ·rw [show n + 1 - i = (n + 1 - (i + 1)) + 1 by omega, alI, decide_eq_true h]; rfl
 ·rw [show n + 1 - i = 0 by omega, alI, decide_eq_false h]; rfl
theorem opV_step (k : Nat) (y : Nat → Bool) (u v : Nat → Bool) (i n : Nat) (hk : k ≤ 12) :
  opV k (decide (i ≤ n) && y i) u v i n = stepP k (decide (i ≤ n)) (decide (i + 1 ≤ n)) (y i) (u i) (v i) (u (i + 1)) (opV k (decide (i + 1 ≤ n) && y (i + 1)) u v (i + 1) n) := by
 have h : k = 0 ∨ k = 1 ∨ k = 2 ∨ k = 3 ∨ k = 4 ∨ k = 5 ∨ k = 6 ∨ k = 7 ∨ k = 8 ∨ k = 9 ∨ k = 10 ∨ k = 11 ∨ k = 12 := by omega
 rcases h with rfl | rfl | rfl | rfl | rfl | rfl | rfl | rfl | rfl | rfl | rfl | rfl | rfl
 ·rfl
 ·rfl
 ·rfl
 ·show decide (n < i) = !decide (i ≤ n)
  by_cases h : i ≤ n
  ·rw [decide_eq_true h, decide_eq_false (show ¬ n < i by omega)]; rfl
  ·rw [decide_eq_false h, decide_eq_true (show n < i by omega)]; rfl
 ·rfl
 ·rfl
 ·show (decide (n < i + 1) || u (i + 1)) = (!decide (i + 1 ≤ n) || u (i + 1))
  by_cases h : i + 1 ≤ n
  ·rw [decide_eq_true h, decide_eq_false (show ¬ n < i + 1 by omega)]; rfl
  ·rw [decide_eq_false h, decide_eq_true (show n < i + 1 by omega)]; rfl
 ·show exI (fun _ => true) u (n + 1 - i) i = _
  rw [exI_step, Bool.true_and]; rfl
 ·show alI u (n + 1 - i) i = _
  rw [alI_step]; rfl
 ·show exI u v (n + 1 - i) i = _
  rw [exI_step]; rfl
 ·rfl
 ·rfl
 ·rfl
def numI (s : ByteArray) : Nat → List Tk → Int
 | _, [] => -1
 | i, t :: r => if t.s.toList = s.toList then (i : Int) else numI s (i + 1) r
theorem numI_spec (s : ByteArray) : ∀ (i : Nat) (l : List Tk), (hasN l s = true ∧ ∃ (j : Nat) (t : Tk), l[j]? = some t ∧ t.s.toList = s.toList ∧ numI s i l = ((i + j : Nat) : Int)) ∨ (hasN l s = false ∧ numI s i l = -1)
 | i, [] => Or.inr ⟨rfl, rfl⟩
 | i, t :: r => by
  by_cases h : t.s.toList = s.toList
  ·refine Or.inl ⟨by rw [hasN, if_pos h], 0, t, rfl, h, ?_⟩
   rw [numI, if_pos h]; rfl
  ·rw [hasN, if_neg h, numI, if_neg h]
   rcases numI_spec s (i + 1) r with ⟨h1, j, u, h2, h3, h4⟩ | h1
   ·exact Or.inl ⟨h1, j + 1, u, by rw [List.getElem?_cons_succ]; exact h2, h3, by rw [h4]; congr 1; omega⟩
   ·exact Or.inr h1
def Dist (al : List Tk) : Prop := ∀ (i j : Nat) (t u : Tk), al[i]? = some t → al[j]? = some u → t.s.toList = u.s.toList → i = j
theorem dups_nil {a : Tk} : ∀ {l : List Tk}, dups l a = [] → ∀ t ∈ l, t.s.toList ≠ a.s.toList
 | [], _, t, ht => (List.not_mem_nil ht).elim
 | x :: r, h, t, ht => by
  rw [dups] at h
  obtain ⟨h1, h2⟩ := List.append_eq_nil_iff.1 h
  rcases List.mem_cons.1 ht with rfl | ht
  ·intro e; rw [if_pos e] at h1; cases h1
  ·exact dups_nil h2 t ht
theorem fActs_nil {al : List Tk} : ∀ {i : Nat} {l : List Tk}, fActs al i l = [] → ∀ (j : Nat) (a : Tk), l[j]? = some a → dups (al.take (i + j)) a = [] ∧ a.s.size ≤ 8 ∧ i + j < 6
 | i, [], _, j, a, h => by simp at h
 | i, x :: r, h, j, a, hj => by
  rw [fActs, fAct] at h
  obtain ⟨h1, h2⟩ := List.append_eq_nil_iff.1 h
  obtain ⟨h3, h4⟩ := List.append_eq_nil_iff.1 h1
  obtain ⟨h5, h6⟩ := List.append_eq_nil_iff.1 h4
  cases j with
  | zero =>
   rw [List.getElem?_cons_zero] at hj
   cases hj
   refine ⟨h5, ?_, ?_⟩
   ·unfold fLong at h3
    rcases Nat.lt_or_ge 8 x.s.size with hh | hh
    ·rw [if_pos hh] at h3; cases h3
    ·exact hh
   ·rcases Nat.lt_or_ge i 6 with hh | hh
    ·exact hh
    ·rw [if_pos hh] at h6; cases h6
  | succ j =>
   rw [List.getElem?_cons_succ] at hj
   have := fActs_nil h2 j a hj
   rw [show i + (j + 1) = i + 1 + j by omega]
   exact this
theorem dist_of {al : List Tk} (h : fActs al 0 al = []) : Dist al := by
 have key : ∀ (i j : Nat) (t u : Tk), i < j → al[i]? = some t → al[j]? = some u → t.s.toList ≠ u.s.toList := by
  intro i j t u hij hi hj
  obtain ⟨h1, _⟩ := fActs_nil h j u hj
  rw [Nat.zero_add] at h1
  refine dups_nil h1 t ?_
  have : (al.take j)[i]? = some t := by rw [List.getElem?_take, if_pos hij]; exact hi
  exact List.mem_of_getElem? this
 intro i j t u hi hj he
 rcases Nat.lt_trichotomy i j with hlt | heq | hgt
 ·exact absurd he (key i j t u hlt hi hj)
 ·exact heq
 ·exact absurd he.symm (key j i u t hgt hj hi)
def subs : Fm → List Fm
 | .nil => []
 | .node u v a l r => subs l ++ subs r ++ [.node u v a l r]
theorem subs_len : ∀ f : Fm, (subs f).length = sizeF f
 | .nil => rfl
 | .node _ _ a l r => by
  rw [subs, List.length_append, List.length_append, subs_len l, subs_len r]
  show sizeF l + sizeF r + 1 = 1 + sizeF l + sizeF r
  omega
structure Sp where
 k : Nat
 s : ByteArray
 a : Nat
 b : Nat
def isN : Fm → Bool
 | .nil => true
 | .node _ _ _ _ _ => false
theorem isN_ne {f : Fm} (h : f ≠ .nil) : isN f = false := by
 cases f with
 | nil => exact absurd rfl h
 | node _ _ _ _ _ => rfl
def appS : Fm → List Sp → List Sp
 | .nil, S => S
 | .node _ _ a l r, S => appS r (appS l S) ++ [⟨a.1, a.2.1, if isN l then 0 else (appS l S).length - 1, if isN r then 0 else (appS r (appS l S)).length - 1⟩]
theorem appS_len : ∀ (f : Fm) (S : List Sp), (appS f S).length = S.length + sizeF f
 | .nil, S => rfl
 | .node _ _ a l r, S => by
  rw [appS, List.length_append, appS_len r, appS_len l]
  show S.length + sizeF l + sizeF r + 1 = S.length + (1 + sizeF l + sizeF r)
  omega
def StAt (G : List Fm) (k : Nat) (d : Sp) (f : Fm) : Prop := match f with
 | .nil => False
 | .node _ _ a l r => d.k = a.1 ∧ d.s = a.2.1 ∧ (l = .nil ∨ (d.a < k ∧ G[d.a]? = some l)) ∧ (r = .nil ∨ (d.b < k ∧ G[d.b]? = some r))
def StOk (S : List Sp) (G : List Fm) : Prop := S.length = G.length ∧ ∀ k d f, S[k]? = some d → G[k]? = some f → StAt G k d f
theorem StAt.more {G H : List Fm} {k : Nat} {d : Sp} {f : Fm} (hk : k ≤ G.length) (h : StAt G k d f) : StAt (G ++ H) k d f := by
 cases f with
 | nil => exact h
 | node u v a l r =>
  obtain ⟨h1, h2, h3, h4⟩ := h
  refine ⟨h1, h2, ?_, ?_⟩
  ·rcases h3 with h | ⟨h, h'⟩
   ·exact Or.inl h
   ·exact Or.inr ⟨h, by rw [List.getElem?_append_left (by omega)]; exact h'⟩
  ·rcases h4 with h | ⟨h, h'⟩
   ·exact Or.inl h
   ·exact Or.inr ⟨h, by rw [List.getElem?_append_left (by omega)]; exact h'⟩
theorem subs_last {f : Fm} (h : f ≠ .nil) (G : List Fm) : (G ++ subs f)[G.length + sizeF f - 1]? = some f := by
 cases f with
 | nil => exact absurd rfl h
 | node u v a l r =>
  rw [subs, ← List.append_assoc]
  have : G.length + sizeF (.node u v a l r) - 1 = (G ++ (subs l ++ subs r)).length := by
   rw [List.length_append, List.length_append, subs_len, subs_len]
   show G.length + (1 + sizeF l + sizeF r) - 1 = _
   omega
  rw [this, List.getElem?_append_right (Nat.le_refl _), Nat.sub_self]
  rfl
theorem sizeF_pos' {f : Fm} (h : f ≠ .nil) : 0 < sizeF f := by
 cases f with
 | nil => exact absurd rfl h
 | node u v a l r => show 0 < 1 + sizeF l + sizeF r; omega
theorem appS_ok : ∀ (f : Fm) (S : List Sp) (G : List Fm), StOk S G → StOk (appS f S) (G ++ subs f)
 | .nil, S, G, h => by rw [subs, List.append_nil]; exact h
 | .node u v a l r, S, G, h => by
  have h1 := appS_ok l S G h
  have h2 := appS_ok r (appS l S) (G ++ subs l) h1
  rw [appS, subs, ← List.append_assoc, ← List.append_assoc]
  refine ⟨by rw [List.length_append, List.length_append, h2.1]; rfl, fun k d f hd hf => ?_⟩
  have hl2 := h2.1
  have hg2 : (G ++ subs l ++ subs r).length = G.length + sizeF l + sizeF r := by rw [List.length_append, List.length_append, subs_len, subs_len]
  rcases Nat.lt_trichotomy k (G ++ subs l ++ subs r).length with hk | hk | hk
  ·rw [List.getElem?_append_left (by omega)] at hd
   rw [List.getElem?_append_left hk] at hf
   exact (h2.2 k d f hd hf).more (by omega)
  ·rw [List.getElem?_append_right (by omega), show k - (appS r (appS l S)).length = 0 by omega] at hd
   rw [List.getElem?_append_right (by omega), show k - (G ++ subs l ++ subs r).length = 0 by omega] at hf
   cases hd; cases hf
   have hsl : S.length = G.length := h.1
   refine ⟨rfl, rfl, ?_, ?_⟩
   ·by_cases e : l = .nil
    ·exact Or.inl e
    ·have := sizeF_pos' e
     show l = .nil ∨ ((if isN l then 0 else (appS l S).length - 1) < k ∧ _[if isN l then 0 else (appS l S).length - 1]? = some l)
     rw [if_neg (by rw [isN_ne e]; decide)]
     have hal := appS_len l S
     refine Or.inr ⟨by omega, ?_⟩
     have := subs_last e G
     rw [List.append_assoc, List.append_assoc, ← List.append_assoc G, List.getElem?_append_left (by rw [List.length_append, subs_len]; omega)]
     rw [hal, hsl]; exact this
   ·by_cases e : r = .nil
    ·exact Or.inl e
    ·have := sizeF_pos' e
     show r = .nil ∨ ((if isN r then 0 else (appS r (appS l S)).length - 1) < k ∧ _[if isN r then 0 else (appS r (appS l S)).length - 1]? = some r)
     rw [if_neg (by rw [isN_ne e]; decide)]
     have hal := appS_len l S
     have har := appS_len r (appS l S)
     refine Or.inr ⟨by omega, ?_⟩
     have := subs_last e (G ++ subs l)
     rw [List.getElem?_append_left (by omega)]
     rw [har, hal, hsl]; rw [List.length_append, subs_len] at this; exact this
  ·rw [List.getElem?_eq_none (by rw [List.length_append, List.length_singleton]; omega)] at hf; cases hf
def stepsM : List Rl → List Sp → List Sp
 | [], S => S
 | r :: rs, S => stepsM rs (appS (ruleF r) S)
def subsM (rs : List Rl) : List Fm := (rs.map (fun r => subs (ruleF r))).flatten
theorem subsM_cons (r : Rl) (rs : List Rl) : subsM (r :: rs) = subs (ruleF r) ++ subsM rs := by simp [subsM]
theorem stepsM_snoc (r : Rl) : ∀ (rs : List Rl) (S : List Sp), stepsM (rs ++ [r]) S = appS (ruleF r) (stepsM rs S)
 | [], S => rfl
 | x :: rs, S => by rw [List.cons_append, stepsM, stepsM_snoc r rs]; rfl
theorem stepsM_ok : ∀ (rs : List Rl) (S : List Sp) (G : List Fm), StOk S G → StOk (stepsM rs S) (G ++ subsM rs)
 | [], S, G, h => by simpa [subsM, stepsM] using h
 | r :: rs, S, G, h => by
  rw [stepsM, subsM_cons, ← List.append_assoc]
  exact stepsM_ok rs _ _ (appS_ok _ _ _ h)
theorem stepsM_len : ∀ (rs : List Rl) (S : List Sp), (stepsM rs S).length = S.length + nodesL rs
 | [], S => rfl
 | r :: rs, S => by rw [stepsM, stepsM_len rs, appS_len, nodesL]; omega
theorem StOk.nil : StOk [] [] := ⟨rfl, fun k d f h => by simp at h⟩
def preN (b : Nat → Bool) : Nat → Nat
 | 0 => 0
 | k + 1 => preN b k + (if b k then 2 ^ k else 0)
theorem preN_lt (b : Nat → Bool) : ∀ k, preN b k < 2 ^ k
 | 0 => by show 0 < 1; omega
 | k + 1 => by
  have := preN_lt b k
  rw [preN, Nat.pow_succ]
  split <;> omega
theorem preN_bit (b : Nat → Bool) : ∀ (k j : Nat), j < k → (preN b k).testBit j = b j
 | 0, j, h => by omega
 | k + 1, j, h => by
  have hlt := preN_lt b k
  rw [preN]
  by_cases e : j = k
  ·subst e
   cases hb : b j with
   | false => simp only [Bool.false_eq_true, if_false, Nat.add_zero]; exact Nat.testBit_lt_two_pow hlt
   | true => simp only [if_true]; rw [Nat.add_comm, Nat.testBit_two_pow_add_eq, Nat.testBit_lt_two_pow hlt]; rfl
  ·have hj : j < k := by omega
   have ih := preN_bit b k j hj
   cases hb : b k with
   | false => simp only [Bool.false_eq_true, if_false, Nat.add_zero]; exact ih
   | true => simp only [if_true]; rw [Nat.add_comm, Nat.testBit_two_pow_add_gt hj]; exact ih
theorem preN_or (b : Nat → Bool) (k : Nat) : preN b k ||| 2 ^ k = preN b k + 2 ^ k := by
 have hlt := preN_lt b k
 have := Nat.two_pow_add_eq_or_of_lt hlt 1
 rw [Nat.mul_one] at this
 rw [Nat.or_comm, ← this, Nat.add_comm]
theorem preN_congr {b c : Nat → Bool} : ∀ {k : Nat}, (∀ j, j < k → b j = c j) → preN b k = preN c k
 | 0, _ => rfl
 | k + 1, h => by rw [preN, preN, preN_congr (fun j hj => h j (by omega)), h k (by omega)]
def symB (k : Nat) : ByteArray :=
 if k = 4 then ⟨#[33]⟩ else if k = 5 then ⟨#[88]⟩ else if k = 6 then ⟨#[78]⟩ else if k = 7 then ⟨#[70]⟩ else if k = 8 then ⟨#[71]⟩ else if k = 9 then ⟨#[85]⟩ else if k = 10 then ⟨#[38]⟩ else if k = 11 then ⟨#[124]⟩ else ⟨#[45, 62]⟩
def txtF : Fm → ByteArray
 | .nil => ⟨#[]⟩
 | .node _ _ a l r =>
  if a.1 = 0 then a.2.1 else if a.1 = 1 then ⟨#[116, 114, 117, 101]⟩ else if a.1 = 2 then ⟨#[102, 97, 108, 115, 101]⟩ else if a.1 = 3 then ⟨#[101, 110, 100]⟩
  else if a.1 ≤ 8 then symB a.1 ++ ⟨#[32]⟩ ++ txtF l
  else ⟨#[40]⟩ ++ txtF l ++ ⟨#[32]⟩ ++ symB a.1 ++ ⟨#[32]⟩ ++ txtF r ++ ⟨#[41]⟩
def txtActs : ByteArray → Nat → List Tk → ByteArray
 | out, _, [] => out
 | out, i, t :: r => txtActs ((if 0 < i then out ++ ⟨#[44, 32]⟩ else out) ++ t.s) (i + 1) r
def txtRule (out : ByteArray) (r : Rl) : ByteArray :=
  if r.call = true then
    (if 1 < r.args.length then out ++ ⟨#[114, 117, 108, 101, 32]⟩ ++ r.word.s ++ ⟨#[40]⟩ ++ argS r.args 0 ++ ⟨#[44, 32]⟩ ++ argS r.args 1
     else out ++ ⟨#[114, 117, 108, 101, 32]⟩ ++ r.word.s ++ ⟨#[40]⟩ ++ argS r.args 0) ++ ⟨#[41, 59, 10]⟩
  else out ++ ⟨#[114, 117, 108, 101, 32]⟩ ++ txtF r.f ++ ⟨#[59, 10]⟩
def txtRules : ByteArray → List Rl → ByteArray
 | out, [] => out
 | out, r :: l => txtRules (txtRule out r) l
def txtM (al : List Tk) (rs : List Rl) : ByteArray := txtRules (txtActs ⟨#[97, 99, 116, 115, 32]⟩ 0 al ++ ⟨#[59, 10]⟩) rs
end Go.Proofs.YtidakhhekofkoaaGreatDoor
namespace Go.Proofs.YtidakhhekofkoaaGreatDoor
open Go.RowKit Go.Deep
def printM (s : ByteArray) : ByteArray × Nat × Nat :=
 match readM s with
 | .error x => (⟨#[]⟩, x.1, x.2)
 | .ok (al, rs) => (txtM al rs, 0, 0)
theorem readM_err {s : ByteArray} {x : Nat × Nat} (h : readM s = .error x) : x.2 ≠ 0 := by
 unfold readM at h
 split at h
 ·cases h; exact (by decide : (1 : Nat) ≠ 0)
 ·cases hm : modelRead (lexR s (s.size + 1) 0) with
  | error q => rw [hm] at h; cases h; exact (by decide : (2 : Nat) ≠ 0)
  | ok m =>
   obtain ⟨al, rs⟩ := m
   rw [hm, rdOf] at h
   split at h
   ·rename_i h0; cases h; exact h0
   ·split at h
    ·cases h; exact (by decide : (4 : Nat) ≠ 0)
    ·cases h
structure MGood (al : List Tk) (rs : List Rl) : Prop where
 acts : ∀ t ∈ al, TkS t ∧ t.k = 2
 ne : al ≠ []
 alen : al.length ≤ 401
 rules : ∀ r ∈ rs, RlGood TkS 401 r
 rlen : rs.length ≤ 401
 nof : faults al rs = []
 nodes : nodesL rs ≤ 16
theorem readM_good {s : ByteArray} {al : List Tk} {rs : List Rl} (h : readM s = .ok (al, rs)) : MGood al rs := by
 unfold readM at h
 split at h
 ·cases h
 ·rename_i hs
  cases hm : modelRead (lexR s (s.size + 1) 0) with
  | error q => rw [hm] at h; cases h
  | ok m =>
   obtain ⟨al', rs'⟩ := m
   rw [hm, rdOf] at h
   split at h
   ·cases h
   ·rename_i h0
    split at h
    ·cases h
    ·rename_i h16
     cases h
     have hll : (lexR s (s.size + 1) 0).length ≤ 401 := by have := lexR_len s (s.size + 1) 0 (Nat.zero_le _); omega
     have hg := modelRead_good TkS _ _ _ hm (fun t ht => ⟨lexR_ok s _ _ t ht, by have := lexR_small s _ 0 (Nat.zero_le _) t ht; omega⟩)
     exact ⟨hg.1, hg.2.1, by have := hg.2.2.1; omega, fun r hr => (hg.2.2.2.1 r hr).mono hll, by have := hg.2.2.2.2; omega, meets_zero (faults_errs _ _) (by simpa using h0), by omega⟩
theorem symB_size (k : Nat) : (symB k).size ≤ 2 := by
 unfold symB; repeat' split
 all_goals decide
theorem txtF_size {Q : Tk → Prop} {m : Nat} (hQ : ∀ t, Q t → t.s.size ≤ m) : ∀ {f : Fm}, Fg Q f → (txtF f).size ≤ (m + 7) * sizeF f
 | .nil, h => False.elim h
 | .node _ _ a l r, h => by
  rw [txtF]
  have hs := symB_size a.1
  rcases h with ⟨hk, ⟨t, ht, _, h1, _⟩, rfl, rfl⟩ | ⟨hk, rfl, rfl⟩ | ⟨hk, hfl, rfl⟩ | ⟨hk, hfl, hfr⟩
  ·rw [if_pos hk, ← h1]; have := hQ t ht; show t.s.size ≤ (m + 7) * 1; omega
  ·rw [if_neg (by omega)]
   repeat' split
   all_goals first | (show 4 ≤ (m + 7) * 1; omega) | (show 5 ≤ (m + 7) * 1; omega) | (show 3 ≤ (m + 7) * 1; omega) | omega
  ·rw [if_neg (by omega), if_neg (by omega), if_neg (by omega), if_neg (by omega), if_pos (by omega)]
   have := txtF_size hQ hfl
   simp only [ByteArray.size_append]
   show _ + 1 + _ ≤ (m + 7) * (1 + sizeF l + 0)
   have e : (m + 7) * (1 + sizeF l + 0) = (m + 7) + (m + 7) * sizeF l := by show (m + 7) * (1 + sizeF l) = _; rw [Nat.mul_add, Nat.mul_one]
   rw [e]; omega
  ·rw [if_neg (by omega), if_neg (by omega), if_neg (by omega), if_neg (by omega), if_neg (by omega)]
   have h1 := txtF_size hQ hfl
   have h2 := txtF_size hQ hfr
   simp only [ByteArray.size_append]
   show 1 + _ + 1 + _ + 1 + _ + 1 ≤ (m + 7) * (1 + sizeF l + sizeF r)
   rw [Nat.mul_add, Nat.mul_add, Nat.mul_one]; omega
end Go.Proofs.YtidakhhekofkoaaGreatDoor
namespace Go.Proofs.YtidakhhekofkoaaGreatDoor
open Go.Deep
def lexP (s : ByteArray) : Nat → Nat → List Tk
 | 0, _ => []
 | n + 1, i => let t := lexAt s (upTo isBl s i); if t.k = 0 then [t] else t :: lexP s n (t.p + t.s.size)
theorem lexP_stop (s : ByteArray) (n i : Nat) (h : (lexAt s (upTo isBl s i)).k = 0) : lexP s (n + 1) i = [lexAt s (upTo isBl s i)] := by
 rw [lexP]; exact if_pos h
theorem lexP_go (s : ByteArray) (n i : Nat) (h : (lexAt s (upTo isBl s i)).k ≠ 0) : lexP s (n + 1) i = lexAt s (upTo isBl s i) :: lexP s n ((lexAt s (upTo isBl s i)).p + (lexAt s (upTo isBl s i)).s.size) := by
 rw [lexP]; exact if_neg h
theorem lexP_adv (s : ByteArray) (i : Nat) (h : i ≤ s.size) (hk : (lexAt s (upTo isBl s i)).k ≠ 0) :
  i + 1 ≤ (lexAt s (upTo isBl s i)).p + (lexAt s (upTo isBl s i)).s.size ∧ (lexAt s (upTo isBl s i)).p + (lexAt s (upTo isBl s i)).s.size ≤ s.size := by
 have h0 := upTo_ge isBl s i
 have h1 := upTo_le isBl s i h
 have h2 := lexAt_p s _ h1
 have h3 := lexAt_s s _ h1
 have h4 := lexAt_pos s _ h1 hk
 omega
def cut : List Tk → List Tk
 | [] => []
 | t :: r => if t.k ≤ 1 then [t] else t :: cut r
theorem cut_lexP (s : ByteArray) : ∀ n i, cut (lexP s n i) = lexR s n i
 | 0, _ => rfl
 | n + 1, i => by
  by_cases h : (lexAt s (upTo isBl s i)).k ≤ 1
  ·rw [lexR_stop s n i h]
   by_cases h0 : (lexAt s (upTo isBl s i)).k = 0
   ·rw [lexP_stop s n i h0, cut, if_pos h]
   ·rw [lexP_go s n i h0, cut, if_pos h]
  ·rw [lexR_go s n i h, lexP_go s n i (by omega), cut, if_neg h, cut_lexP s n]
def FE : List Tk → Prop
 | [] => False
 | [t] => t.k = 0
 | t :: r => t.k ≠ 0 ∧ FE r
theorem FE.ne {l : List Tk} (h : FE l) : l ≠ [] := by rintro rfl; exact h
theorem FE.tail {t : Tk} {r : List Tk} (h : FE (t :: r)) (hk : t.k ≠ 0) : FE r := by
 cases r with
 | nil => exact absurd (show t.k = 0 from h) hk
 | cons u r => exact h.2
theorem lexP_fe (s : ByteArray) : ∀ n i, i ≤ s.size → s.size < n + i → FE (lexP s n i)
 | 0, i, h, h' => by omega
 | n + 1, i, h, h' => by
  by_cases hk : (lexAt s (upTo isBl s i)).k = 0
  ·rw [lexP_stop s n i hk]; exact hk
  ·rw [lexP_go s n i hk]
   have ha := lexP_adv s i h hk
   have := lexP_fe s n _ ha.2 (by omega)
   cases hr : lexP s n ((lexAt s (upTo isBl s i)).p + (lexAt s (upTo isBl s i)).s.size) with
   | nil => rw [hr] at this; exact absurd this id
   | cons u r => rw [hr] at this; exact ⟨hk, this⟩
theorem lexP_len (s : ByteArray) : ∀ n i, i ≤ s.size → (lexP s n i).length + i ≤ s.size + 1
 | 0, i, h => by simp [lexP]; omega
 | n + 1, i, h => by
  by_cases hk : (lexAt s (upTo isBl s i)).k = 0
  ·rw [lexP_stop s n i hk]; simp; omega
  ·rw [lexP_go s n i hk]
   have ha := lexP_adv s i h hk
   have := lexP_len s n _ ha.2
   simp; omega
def TkIn (m : Nat) (t : Tk) : Prop := TkOk t ∧ t.s.size ≤ m ∧ t.p ≤ m
theorem lexAt_in (s : ByteArray) (j : Nat) (h : j ≤ s.size) : TkIn s.size (lexAt s j) :=
 ⟨lexAt_ok s j, by have := lexAt_s s j h; omega, by rw [lexAt_p s j h]; exact h⟩
theorem lexP_in (s : ByteArray) : ∀ n i, i ≤ s.size → ∀ t ∈ lexP s n i, TkIn s.size t
 | 0, _, _, t, h => by simp [lexP] at h
 | n + 1, i, hi, t, h => by
  by_cases hk : (lexAt s (upTo isBl s i)).k = 0
  ·rw [lexP_stop s n i hk] at h; simp at h; subst h; exact lexAt_in s _ (upTo_le isBl s i hi)
  ·rw [lexP_go s n i hk] at h
   rcases List.mem_cons.1 h with rfl | h
   ·exact lexAt_in s _ (upTo_le isBl s i hi)
   ·exact lexP_in s n _ (lexP_adv s i hi hk).2 t h
theorem cut_ends : ∀ {l : List Tk}, FE l → Ends (cut l)
 | [], h => absurd h id
 | [t], h => by rw [cut, if_pos (by have : t.k = 0 := h; omega)]; show t.k ≤ 1; have : t.k = 0 := h; omega
 | t :: u :: r, h => by
  by_cases hk : t.k ≤ 1
  ·rw [cut, if_pos hk]; exact hk
  ·rw [cut, if_neg hk]
   have := cut_ends (l := u :: r) h.2
   cases hc : cut (u :: r) with
   | nil => rw [hc] at this; exact absurd this id
   | cons a b => rw [hc] at this; exact ⟨by omega, this⟩
theorem FE.drop : ∀ {l : List Tk} (i : Nat), FE l → i < l.length → FE (l.drop i)
 | [], _, h, _ => absurd h id
 | [t], 0, h, _ => h
 | [t], i + 1, h, hi => by simp at hi
 | t :: u :: r, 0, h, _ => h
 | t :: u :: r, i + 1, h, hi => by
  rw [List.drop_succ_cons]
  exact FE.drop (l := u :: r) i h.2 (by simpa using hi)
def PL (L : List Tk) (i : Nat) : List Tk := cut (L.drop i)
theorem PL_head {L : List Tk} {i : Nat} {t : Tk} {r : List Tk} (h : PL L i = t :: r) : ∃ r', L.drop i = t :: r' := by
 unfold PL at h
 cases hd : L.drop i with
 | nil => rw [hd] at h; cases h
 | cons u r' =>
  rw [hd, cut] at h
  split at h
  ·cases h; exact ⟨r', rfl⟩
  ·cases h; exact ⟨r', rfl⟩
theorem PL_next {L : List Tk} {i : Nat} {t : Tk} {r : List Tk} (h : PL L i = t :: r) (hk : 2 ≤ t.k) : PL L (i + 1) = r := by
 unfold PL at h ⊢
 cases hd : L.drop i with
 | nil => rw [hd] at h; cases h
 | cons u r' =>
  rw [hd, cut] at h
  split at h
  ·cases h; omega
  ·cases h
   have : L.drop (i + 1) = r' := by
    have := congrArg List.tail hd
    simpa using this
   rw [this]
theorem PL_lt {L : List Tk} {i : Nat} {t : Tk} {r : List Tk} (h : PL L i = t :: r) : i < L.length := by
 obtain ⟨r', h'⟩ := PL_head h
 rcases Nat.lt_or_ge i L.length with hi | hi
 ·exact hi
 ·rw [List.drop_eq_nil_of_le hi] at h'; cases h'
theorem PL_ends {L : List Tk} {i : Nat} (h : FE L) (hi : i < L.length) : Ends (PL L i) := cut_ends (h.drop i hi)
theorem PL_some {L : List Tk} {i : Nat} (h : FE L) (hi : i < L.length) : ∃ t r, PL L i = t :: r := by
 cases hp : PL L i with
 | nil => have := (PL_ends h hi); rw [hp] at this; exact absurd this id
 | cons t r => exact ⟨t, r, rfl⟩
theorem FE.nextLt {L : List Tk} {i : Nat} {t : Tk} {r : List Tk} (h : FE L) (ht : PL L i = t :: r) (hk : t.k ≠ 0) : i + 1 < L.length := by
 obtain ⟨r', hr⟩ := PL_head ht
 have h1 := h.drop i (PL_lt ht)
 rw [hr] at h1
 have h2 := (h1.tail hk).ne
 have h3 := congrArg List.length hr
 have h4 : 0 < r'.length := List.length_pos_iff.2 h2
 simp at h3; omega
theorem FE.last {L : List Tk} (h : FE L) : ∃ e, L.drop (L.length - 1) = [e] ∧ e.k = 0 := by
 have h1 : 0 < L.length := List.length_pos_iff.2 h.ne
 have h2 := h.drop (L.length - 1) (by omega)
 cases hd : L.drop (L.length - 1) with
 | nil => rw [hd] at h2; exact absurd h2 id
 | cons e r =>
  have h3 := congrArg List.length hd
  simp at h3
  have : r = [] := List.length_eq_zero_iff.1 (by omega)
  subst this
  rw [hd] at h2
  exact ⟨e, rfl, h2⟩
theorem PL_last {L : List Tk} (h : FE L) : ∃ e, PL L (L.length - 1) = [e] ∧ e.k = 0 := by
 obtain ⟨e, h1, h2⟩ := h.last
 refine ⟨e, ?_, h2⟩
 unfold PL; rw [h1, cut, if_pos (by omega)]
end Go.Proofs.YtidakhhekofkoaaGreatDoor
namespace Go.Proofs.YtidakhhekofkoaaGreatDoor
open Go.RowKit Go.Deep
def tkCellsP (L : List Tk) : List Value := L.flatMap fun t => [.int .i64 t.k, .string t.s, .int .i64 t.p]
theorem tkCellsP_snoc (L : List Tk) (t : Tk) : tkCellsP (L ++ [t]) = tkCellsP L ++ [.int .i64 t.k, .string t.s, .int .i64 t.p] := by
 simp [tkCellsP]
theorem Tryz.infoTokP : (Tryz.prog.info? 201).map (fun i => (i.zero, i.size, i.bytes)) = some (some (.agg #[.int .i64 0, .string ⟨#[]⟩, .int .i64 0]), 3, 32) := by kernel_rfl
theorem signK_ne (n : Nat) : signK n ≠ 0 := by unfold signK; repeat' split
                                               all_goals omega
theorem wordK_ne (l : List UInt8) : wordK l ≠ 0 := by unfold wordK; repeat' split
                                                      all_goals omega
theorem lexAt_ne (s : ByteArray) (j : Nat) (h : j < s.size) : (lexAt s j).k ≠ 0 := by
 unfold lexAt
 rw [dif_pos h]
 repeat' split
 all_goals first | exact wordK_ne _ | exact signK_ne _ | (show (3 : Nat) ≠ 0; decide) | (show (14 : Nat) ≠ 0; decide)
set_option maxHeartbeats 2000000 in
set_option maxRecDepth 100000 in
theorem scan_any (s : ByteArray) (w : World) (hs : s.size ≤ 400) (hG : GV w) :
  Calls Tryz.prog 113 #[.string s] w fun e w' => ∃ v, e = .returned v ∧ w'.ownsRow w.heap.size 201 3 v (lexP s (s.size + 1) 0).length (tkCellsP (lexP s (s.size + 1) 0)) ∧ Below w.heap.size w w' := by
 have hs0 : s.size ≤ maxLen := by unfold maxLen; omega
 obtain ⟨i0, hi, hz0, hz1, hz2⟩ := info_parts Tryz.infoTokP
 have HG := hide hG
 clear hG
 go_enter Tryz.func113, Tryz.ntmps113
 go_wp2_with fail
 refine (blanksEnd_any s 0 _ hs0 (Nat.zero_le _)).mono ?_
 rintro e w0 ⟨rfl, hw0⟩
 have hw1 := hw0.symm
 clear hw0
 subst hw1
 go_wp2_with fail
 go_loopw [3, 4] (fun v x wr => ∃ (i n : Nat) (acc : List Tk), i ≤ s.size ∧ s.size < n + i ∧ acc.length ≤ i ∧ x = .int .i64 (upTo isBl s i : Nat) ∧ Hid (lexP s (s.size + 1) 0 = acc ++ lexP s n i) ∧
   wr.ownsRow w.heap.size 201 3 v acc.length (tkCellsP acc) ∧ Below w.heap.size w wr) (fun _ x _ => s.size - (intOf x).toNat)
 case atStart => exact ⟨0, s.size + 1, [], Nat.zero_le _, by omega, Nat.le_refl _, rfl, rfl, World.ownsRow_nil _ _ _ _, Below.refl _ _⟩
 case round =>
  obtain ⟨i, n, acc, hii, hn, hacc, rfl, H, hown, hbel⟩ := hrel
  have hle := upTo_le isBl s i hii
  have hge := upTo_ge isBl s i
  have HADV := hide (lexP_adv s i hii)
  have HSTOP := hide (lexP_stop s (n - 1) i)
  have HGO := hide (lexP_go s (n - 1) i)
  have HNE := hide (lexAt_ne s (upTo isBl s i))
  have HEND := hide (lex_end s (upTo isBl s i))
  have HP := hide (lexAt_p s _ hle)
  have HPOS := hide (lexAt_pos s _ hle)
  have hn1 : n - 1 + 1 = n := by omega
  rw [hn1] at HSTOP HGO
  clear hn1
  have HTA := hide (fun W h hG => tokenAt_any s (upTo isBl s i) W hs0 h hG)
  generalize lexAt s (upTo isBl s i) = t at *
  generalize upTo isBl s i = a at *
  by_cases ha : a < s.size
  ·have hk0 := unhide HNE ha
   have hadv := unhide HADV hk0
   have hp : t.p = a := unhide HP
   have hpos := unhide HPOS hk0
   have HR : Hid (lexP s (s.size + 1) 0 = (acc ++ [t]) ++ lexP s (n - 1) (t.p + t.s.size)) := by show _ = _; rw [H.out, HGO.out hk0]; simp
   have HPP := hide hp
   have hpl : t.p ≤ a := by omega
   have hpg : a ≤ t.p := by omega
   clear HSTOP HGO HNE HEND HADV HP H HPOS hp
   go_wp2_with fail
   refine (unhide HTA _ ha ((unhide HG).later hbel)).mono ?_
   rintro e w1 ⟨rfl, hb1⟩
   clear HTA
   simp only [tkP]
   go_wp2_with (at_builtin; go_must (refine wpList_append_own _ rfl _ _ 125 rfl w.heap.size 201 i0 (.agg #[.int .i64 0, .string ⟨#[]⟩, .int .i64 0]) 3 32 Tryz.underlying125 hi hz0 hz1 hz2 rfl (by decide) _ acc.length (tkCellsP acc) rfl ?c0 ⟨w1.heap.size + 1, 0, none⟩ 1 1 [.int .i64 t.k, .string t.s, .int .i64 t.p] rfl rfl ?c1 ?c2 ?c3 ?c4 ?c5 ?_))
   case c0 => exact ((owns_later hown hb1).alloc _).alloc _
   case c1 =>
    intro j u hj
    match j, hj with
    | 0, hj => simp at hj; subst hj; simp [Addr.add]
    | 1, hj => simp at hj; subst hj; simp [Addr.add]
    | 2, hj => simp at hj; subst hj; simp [Addr.add]
    | j + 3, hj => simp at hj
   case c2 => intro u hu; simp at hu; rcases hu with rfl | rfl | rfl <;> rfl
   case c3 => unfold maxLen; omega
   case c4 => omega
   case c5 => have := hbel.size; have := hb1.size; simp; omega
   intro v' w2 hown2 hgrow _
   have hol := own_lt hown
   have hsz := hb1.size
   have hc0 : w2.cell? ⟨w1.heap.size, 0, none⟩ = some (.int .i64 t.k) := (box_kept hgrow (by simp; omega) (fun k hk => by have := hol k hk; omega) 0).trans (by simp)
   have hc1 : w2.cell? ⟨w1.heap.size, 1, none⟩ = some (.string t.s) := (box_kept hgrow (by simp; omega) (fun k hk => by have := hol k hk; omega) 1).trans (by simp)
   have hc2 : w2.cell? ⟨w1.heap.size, 2, none⟩ = some (.int .i64 t.p) := (box_kept hgrow (by simp; omega) (fun k hk => by have := hol k hk; omega) 2).trans (by simp)
   have HB2 : Hid (Below w.heap.size w w2) := ((((hbel.trans (hb1.mono hbel.size)).alloc (by have := hbel.size; omega) _).alloc (by have := hbel.size; simp; omega) _).grown hgrow (by have := hbel.size; simp; omega) (fun k hk => (hol k hk).1))
   have HO2 : Hid (w2.ownsRow w.heap.size 201 3 v' (acc ++ [t]).length (tkCellsP (acc ++ [t]))) := by
    rw [tkCellsP_snoc, List.length_append]; exact hown2
   clear hown2 hgrow hown hol hb1 hbel hsz
   have htl : t.s.size ≤ s.size := by omega
   have hts : (a : Int) + (t.s.size : Int) ≤ 400 := by omega
   go_wp2_with fail
   refine (blanksEnd_any s (a + t.s.size) _ hs0 (by omega)).mono ?_
   rintro e w3 ⟨rfl, hw3⟩
   have hw4 := hw3.symm
   clear hw3
   subst hw4
   have hg2 := upTo_ge isBl s (a + t.s.size)
   have HG2 := hide hg2
   clear hg2
   go_wp2_with fail
   go_roundw
   case rel => exact ⟨t.p + t.s.size, n - 1, acc ++ [t], hadv.2, by omega, by simp; omega, by rw [unhide HPP], HR.out, HO2.out, HB2.out⟩
   case measure => simp [intOf]; have := unhide HG2; omega
  ·have ha' : a = s.size := by omega
   have ht := unhide HEND (by omega)
   subst ht
   have HR : Hid (lexP s (s.size + 1) 0 = acc ++ [⟨0, ByteArray.empty, s.size⟩]) := by show _ = _; rw [H.out, HSTOP.out rfl]
   clear HSTOP HGO HNE HEND HADV HP H HTA HPOS
   have hsa : acc.length ≤ 400 := by omega
   subst ha'
   go_wp2_with (at_builtin; go_must (refine wpList_append_own _ rfl _ _ 125 rfl w.heap.size 201 i0 (.agg #[.int .i64 0, .string ⟨#[]⟩, .int .i64 0]) 3 32 Tryz.underlying125 hi hz0 hz1 hz2 rfl (by decide) _ acc.length (tkCellsP acc) rfl ?c0 ⟨wr.heap.size, 0, none⟩ 1 1 [.int .i64 0, .string ⟨#[]⟩, .int .i64 (s.size : Int)] rfl rfl ?c1 ?c2 ?c3 ?c4 ?c5 ?_))
   case c0 => exact hown.alloc _
   case c1 =>
    intro j u hj
    match j, hj with
    | 0, hj => simp at hj; subst hj; simp [Addr.add]
    | 1, hj => simp at hj; subst hj; simp [Addr.add]
    | 2, hj => simp at hj; subst hj; simp [Addr.add]
    | j + 3, hj => simp at hj
   case c2 => intro u hu; simp at hu; rcases hu with rfl | rfl | rfl <;> rfl
   case c3 => unfold maxLen; omega
   case c4 => omega
   case c5 => have := hbel.size; simp; omega
   intro v' w2 hown2 hgrow _
   have hol := own_lt hown
   have HB2 : Hid (Below w.heap.size w w2) := (hbel.alloc hbel.size _).grown hgrow (by have := hbel.size; simp; omega) (fun k hk => (hol k hk).1)
   have HO2 : Hid (w2.ownsRow w.heap.size 201 3 v' (acc ++ [(⟨0, ByteArray.empty, s.size⟩ : Tk)]).length (tkCellsP (acc ++ [⟨0, ByteArray.empty, s.size⟩]))) := by
    rw [tkCellsP_snoc, List.length_append]; exact hown2
   clear hown2 hgrow hown hol hbel
   go_wp2_with fail
   go_ret
   exact ⟨_, rfl, by rw [HR.out]; exact HO2.out, HB2.out⟩
theorem grownBy_drew {w w' : World} {row : Option Nat} (h : w.grownBy w' row) : w.grownBy w'.drew row := ⟨h.os, h.tape, h.output, h.size, h.block⟩
structure PP (w : World) (pb g cap B : Nat) (L : List Tk) (i : Nat) (bad : Bool) (q : Nat) (NM : List Tk) : Prop where
 blk : ∃ no nn nc, w.heap[pb]? = some (.cells #[.slice (some ⟨g, i * 3, none⟩) (L.length - i) (cap - i), .bool bad, .int .i64 q, .slice no nn nc] 194 (0, 0)) ∧ w.ownsRow B 201 3 (.slice no nn nc) NM.length (tkCellsP NM)
 row : ∃ cur, w.heap[g]? = some (.cells cur 201 (0, 0)) ∧ cur.toList.take (L.length * 3) = tkCellsP L
 le : L.length ≤ cap
 capLe : cap ≤ maxLen
 len : L.length ≤ 401
 lt : i < L.length
 fe : FE L
 ok : ∀ t ∈ L, TkIn 400 t
 gB : g < B
 pB : pb < B
 hB : B ≤ w.heap.size
 nm : bad = false → NM.length ≤ i
theorem tkCellsP_at (L : List Tk) (i : Nat) (t : Tk) (r : List Tk) (h : L.drop i = t :: r) :
  (tkCellsP L)[i * 3]? = some (.int .i64 t.k) ∧ (tkCellsP L)[i * 3 + 1]? = some (.string t.s) ∧ (tkCellsP L)[i * 3 + 2]? = some (.int .i64 t.p) := by
 induction L generalizing i with
 | nil => simp at h
 | cons u L ih =>
  cases i with
  | zero => simp at h; obtain ⟨rfl, rfl⟩ := h; simp [tkCellsP]
  | succ i =>
   have := ih i (by simpa using h)
   have e : tkCellsP (u :: L) = [.int .i64 u.k, .string u.s, .int .i64 u.p] ++ tkCellsP L := by simp [tkCellsP]
   rw [e]
   refine ⟨?_, ?_, ?_⟩
   ·rw [List.getElem?_append_right (by simp; omega)]; simpa [Nat.add_mul] using this.1
   ·rw [List.getElem?_append_right (by simp; omega)]
    have e2 : (i + 1) * 3 + 1 - 3 = i * 3 + 1 := by omega
    simpa [e2] using this.2.1
   ·rw [List.getElem?_append_right (by simp; omega)]
    have e2 : (i + 1) * 3 + 2 - 3 = i * 3 + 2 := by omega
    simpa [e2] using this.2.2
theorem row_tok {w : World} {g : Nat} {L : List Tk} (h : ∃ cur, w.heap[g]? = some (.cells cur 201 (0, 0)) ∧ cur.toList.take (L.length * 3) = tkCellsP L) {j : Nat} {t : Tk} {r : List Tk} (ht : L.drop j = t :: r) :
  w.cell? ⟨g, j * 3, none⟩ = some (.int .i64 t.k) ∧ w.cell? ⟨g, j * 3 + 1, none⟩ = some (.string t.s) ∧ w.cell? ⟨g, j * 3 + 2, none⟩ = some (.int .i64 t.p) := by
 obtain ⟨cur, h1, h2⟩ := h
 have h3 := tkCellsP_at L j t r ht
 have hj : j < L.length := by
  rcases Nat.lt_or_ge j L.length with h | h
  ·exact h
  ·rw [List.drop_eq_nil_of_le h] at ht; cases ht
 rw [← h2, List.getElem?_take, List.getElem?_take, List.getElem?_take, if_pos (by omega), if_pos (by omega), if_pos (by omega)] at h3
 refine ⟨?_, ?_, ?_⟩ <;> rw [cell_of_blk h1, ← Array.getElem?_toList]
 ·exact h3.1
 ·exact h3.2.1
 ·exact h3.2.2
theorem PP.tok {w : World} {pb g cap B : Nat} {L : List Tk} {i : Nat} {bad : Bool} {q : Nat} {NM : List Tk} (h : PP w pb g cap B L i bad q NM) {t : Tk} {r : List Tk} (ht : PL L i = t :: r) :
  w.cell? ⟨g, i * 3, none⟩ = some (.int .i64 t.k) ∧ w.cell? ⟨g, i * 3 + 1, none⟩ = some (.string t.s) ∧ w.cell? ⟨g, i * 3 + 2, none⟩ = some (.int .i64 t.p) := by
 obtain ⟨r', hr⟩ := PL_head ht
 exact row_tok h.row hr
theorem PP.gLt {w : World} {pb g cap B : Nat} {L : List Tk} {i : Nat} {bad : Bool} {q : Nat} {NM : List Tk} (h : PP w pb g cap B L i bad q NM) : g < w.heap.size := by
 obtain ⟨cur, h1, _⟩ := h.row; exact lt_of_blk h1
theorem PP.pLt {w : World} {pb g cap B : Nat} {L : List Tk} {i : Nat} {bad : Bool} {q : Nat} {NM : List Tk} (h : PP w pb g cap B L i bad q NM) : pb < w.heap.size := by
 obtain ⟨_, _, _, h1, _⟩ := h.blk; exact lt_of_blk h1
theorem PP.ne {w : World} {pb g cap B : Nat} {L : List Tk} {i : Nat} {bad : Bool} {q : Nat} {NM : List Tk} (h : PP w pb g cap B L i bad q NM) : g ≠ pb := by
 rintro rfl
 obtain ⟨cur, h1, _⟩ := h.row
 obtain ⟨_, _, _, h2, _⟩ := h.blk
 rw [h1] at h2
 simp at h2
theorem PP.later {w w' : World} {pb g cap B : Nat} {L : List Tk} {i : Nat} {bad : Bool} {q : Nat} {NM : List Tk} (h : PP w pb g cap B L i bad q NM) (hb : Below w.heap.size w w') : PP w' pb g cap B L i bad q NM := by
 obtain ⟨no, nn, nc, h1, h2⟩ := h.blk
 obtain ⟨cur, h3, h4⟩ := h.row
 exact ⟨⟨no, nn, nc, (hb.block _ (lt_of_blk h1)).trans h1, owns_later h2 hb⟩, ⟨cur, (hb.block _ (lt_of_blk h3)).trans h3, h4⟩, h.le, h.capLe, h.len, h.lt, h.fe, h.ok, h.gB, h.pB, by have := hb.size; have := h.hB; omega, h.nm⟩
theorem PP.alloc {w : World} {pb g cap B : Nat} {L : List Tk} {i : Nat} {bad : Bool} {q : Nat} {NM : List Tk} (h : PP w pb g cap B L i bad q NM) (o : Obj) : PP (w.alloc o) pb g cap B L i bad q NM :=
 h.later ((Below.refl _ _).alloc (Nat.le_refl _) _)
def pbl (g cap n i : Nat) (bad : Bool) (q : Nat) (no : Option Addr) (nn nc : Nat) : Obj :=
 .cells #[.slice (some ⟨g, i * 3, none⟩) (n - i) (cap - i), .bool bad, .int .i64 q, .slice no nn nc] 194 (0, 0)
structure Mv (w w' : World) (pb g cap n i : Nat) (bad : Bool) (q j : Nat) (bad' : Bool) (q' : Nat) : Prop where
 gr : w.grownBy w' (some pb)
 onto : ∀ no nn nc, w.heap[pb]? = some (pbl g cap n i bad q no nn nc) → w'.heap[pb]? = some (pbl g cap n j bad' q' no nn nc)
theorem Mv.trans {w w1 w2 : World} {pb g cap n i q j q1 k q2 : Nat} {b b1 b2 : Bool} (h : Mv w w1 pb g cap n i b q j b1 q1) (h' : Mv w1 w2 pb g cap n j b1 q1 k b2 q2) : Mv w w2 pb g cap n i b q k b2 q2 :=
 ⟨h.gr.trans h'.gr, fun no nn nc e => h'.onto no nn nc (h.onto no nn nc e)⟩
theorem Mv.refl (w : World) (pb g cap n i : Nat) (b : Bool) (q : Nat) : Mv w w pb g cap n i b q i b q := ⟨World.grownBy.refl _ _, fun _ _ _ e => e⟩
theorem Mv.alloc {w w1 : World} {pb g cap n i q j q1 : Nat} {b b1 : Bool} (h : Mv w w1 pb g cap n i b q j b1 q1) (o : Obj) : Mv w (w1.alloc o) pb g cap n i b q j b1 q1 :=
 ⟨grown_alloc h.gr o, fun no nn nc e => by have := h.onto no nn nc e; exact (Below.heap_alloc _ _ _ (lt_of_blk this)).trans this⟩
theorem Mv.setNew {w w1 : World} {pb g cap n i q j q1 : Nat} {b b1 : Bool} (h : Mv w w1 pb g cap n i b q j b1 q1) {c : Nat} (hc : w.heap.size ≤ c) (hp : pb < w.heap.size) (o : Nat) (v : Value) : Mv w (w1.setCell ⟨c, o, none⟩ v) pb g cap n i b q j b1 q1 :=
 ⟨grown_setNew h.gr hc o v, fun no nn nc e => (Below.heap_setCell _ _ _ _ (by show pb ≠ c; omega)).trans (h.onto no nn nc e)⟩
theorem Mv.setNew3 {w w1 : World} {pb g cap n i q j q1 : Nat} {b b1 : Bool} (h : Mv w w1 pb g cap n i b q j b1 q1) {c : Nat} (hc : w.heap.size ≤ c) (hp : pb < w.heap.size) (v0 v1 v2 : Value) : Mv w (((w1.setCell ⟨c, 0, none⟩ v0).setCell ⟨c, 1, none⟩ v1).setCell ⟨c, 2, none⟩ v2) pb g cap n i b q j b1 q1 :=
 ((h.setNew hc hp 0 v0).setNew hc hp 1 v1).setNew hc hp 2 v2
theorem PP.move {w w' : World} {pb g cap B : Nat} {L : List Tk} {i : Nat} {bad : Bool} {q : Nat} {NM : List Tk} (h : PP w pb g cap B L i bad q NM) {j q' : Nat} {bad' : Bool} (hm : Mv w w' pb g cap L.length i bad q j bad' q')
  (hj : j < L.length) (hn : bad' = false → NM.length ≤ j) : PP w' pb g cap B L j bad' q' NM := by
 obtain ⟨no, nn, nc, h1, h2⟩ := h.blk
 obtain ⟨cur, h3, h4⟩ := h.row
 have hne : (Value.slice no nn nc).ownBlock ≠ some pb := by
  intro e
  have := own_lt h2 pb e
  have := h.pB
  omega
 exact ⟨⟨no, nn, nc, hm.onto _ _ _ h1, owns_keep h2 hm.gr (Or.inr hne)⟩, ⟨cur, (hm.gr.block _ (lt_of_blk h3) (by have := h.ne; intro e; cases e; exact this rfl)).trans h3, h4⟩, h.le, h.capLe, h.len, hj, h.fe, h.ok, h.gB, h.pB, by have := hm.gr.size; have := h.hB; omega, hn⟩
def fq (bad : Bool) (q p : Nat) : Nat := if bad = true then q else p
set_option maxHeartbeats 400000 in
theorem pnext_any (w : World) (pb g cap B : Nat) (L : List Tk) (i : Nat) (bad : Bool) (q : Nat) (NM : List Tk) (t : Tk) (r : List Tk) (h : PP w pb g cap B L i bad q NM) (ht : PL L i = t :: r) :
  Calls Tryz.prog 155 #[.pointer (some ⟨pb, 0, none⟩)] w fun e w' => e = .returned (.int .i64 t.k) ∧ w' = w := by
 obtain ⟨no, nn, nc, h1, _⟩ := h.blk
 obtain ⟨t0, t1, t2⟩ := h.tok ht
 have hlt := h.lt
 have hp := h.pLt
 have hg := h.gLt
 have bc := fun o => cell_of_blk h1 o
 clear h h1 ht
 go_enter Tryz.func155, Tryz.ntmps155
 go_wp2_with fail
 go_ret
 exact ⟨rfl, rfl⟩
set_option maxHeartbeats 1000000 in
theorem pfail_any (w : World) (pb g cap B : Nat) (L : List Tk) (i : Nat) (bad : Bool) (q : Nat) (NM : List Tk) (t : Tk) (r : List Tk) (h : PP w pb g cap B L i bad q NM) (ht : PL L i = t :: r) :
  Calls Tryz.prog 191 #[.pointer (some ⟨pb, 0, none⟩)] w fun e w' => e = .returned (.tuple #[]) ∧ Mv w w' pb g cap L.length i bad q (L.length - 1) true (fq bad q t.p) := by
 obtain ⟨no, nn, nc, h1, _⟩ := h.blk
 obtain ⟨t0, t1, t2⟩ := h.tok ht
 have hlt := h.lt
 have hlen := h.len
 have hcap := h.le
 have hmax := h.capLe
 unfold maxLen at hmax
 have hp := h.pLt
 have hg := h.gLt
 have bc := fun o => cell_of_blk h1 o
 have bf := fun o => frozen_of_blk h1 o
 have HP := hide h
 have HT := hide ht
 have H1 := hide h1
 clear h h1 ht
 go_enter Tryz.func191, Tryz.ntmps191
 have e1 : i * 3 + (L.length - i - 1) * 3 = (L.length - 1) * 3 := by omega
 have e2 : L.length - i - (L.length - i - 1) = L.length - (L.length - 1) := by omega
 have e3 : cap - i - (L.length - i - 1) = cap - (L.length - 1) := by omega
 have E1 := hide e1
 have E2 := hide e2
 have E3 := hide e3
 clear e1 e2 e3
 cases bad
 ·go_wp2_with fail
  go_region
  rw [unhide E1, unhide E2, unhide E3]
  go_end0
  have hg := grownBy_drew ((grown_set w pb 1 (.bool true)).trans ((grown_set _ pb 2 (.int .i64 t.p)).trans (grown_set _ pb 0 (.slice (some ⟨g, (L.length - 1) * 3, none⟩) (L.length - (L.length - 1)) (cap - (L.length - 1))))))
  exact ⟨rfl, hg, fun no nn nc h => blk_set (blk_set (blk_set h 1 _) 2 _) 0 _⟩
 ·go_wp2_with fail
  go_region
  rw [unhide E1, unhide E2, unhide E3]
  go_end0
  have hg := grownBy_drew (grown_set w pb 0 (.slice (some ⟨g, (L.length - 1) * 3, none⟩) (L.length - (L.length - 1)) (cap - (L.length - 1))))
  exact ⟨rfl, hg, fun no nn nc h => blk_set h 0 _⟩
set_option maxHeartbeats 1000000 in
theorem ptake_no (k : Nat) (w : World) (pb g cap B : Nat) (L : List Tk) (i : Nat) (bad : Bool) (q : Nat) (NM : List Tk) (t : Tk) (r : List Tk) (h : PP w pb g cap B L i bad q NM) (ht : PL L i = t :: r) (hk : t.k ≠ k) :
  Calls Tryz.prog 153 #[.pointer (some ⟨pb, 0, none⟩), .int .i64 (k : Int)] w fun e w' => e = .returned (tkP t) ∧ Mv w w' pb g cap L.length i bad q (L.length - 1) true (fq bad q t.p) := by
 obtain ⟨no, nn, nc, h1, _⟩ := h.blk
 obtain ⟨t0, t1, t2⟩ := h.tok ht
 have hlt := h.lt
 have hp := h.pLt
 have hg := h.gLt
 have bc := fun o => cell_of_blk h1 o
 have hkb : ((t.k : Int) != (k : Int)) = true := by simp; omega
 have HP := hide h
 have HT := hide ht
 clear h h1 ht hk
 go_enter Tryz.func153, Tryz.ntmps153
 go_wp2_with fail
 refine (pfail_any _ pb g cap B L i bad q NM t r (((unhide HP).alloc _).alloc _) (unhide HT)).mono ?_
 rintro e w1 ⟨rfl, hm1⟩
 have hg1 := hm1.gr
 have hrb : w1.heap[w.heap.size]? = some (.cells #[.int .i64 0, .string ⟨#[]⟩, .int .i64 0] 201 (0, 0)) := (hg1.block _ (by simp; omega) (by simp; omega)).trans ((Below.heap_alloc _ _ _ (by simp)).trans (blk_alloc _ _))
 have hbx : w1.heap[w.heap.size + 1]? = some (.cells #[.int .i64 t.k, .string t.s, .int .i64 t.p] 201 (0, 0)) := (hg1.block _ (by simp) (by simp; omega)).trans (blk_alloc' _ _ _ (by simp))
 have HM := hide ((((Mv.refl w pb g cap L.length i bad q).alloc _).alloc _).trans hm1)
 have rc := fun o => cell_of_blk hrb o
 have rf := fun o => frozen_of_blk hrb o
 have xc := fun o => cell_of_blk hbx o
 have hz : w.heap.size + 1 < w1.heap.size := lt_of_blk hbx
 have HRB := hide hrb
 clear hg1 hm1 hrb hbx bc t0 t1 t2
 go_wp2_with fail
 clear rc
 have hfin : (((w1.setCell ⟨w.heap.size, 0, none⟩ (.int .i64 t.k)).setCell ⟨w.heap.size, 1, none⟩ (.string t.s)).setCell ⟨w.heap.size, 2, none⟩ (.int .i64 t.p)).heap[w.heap.size]? = some (.cells #[.int .i64 t.k, .string t.s, .int .i64 t.p] 201 (0, 0)) := blk_set (blk_set (blk_set (unhide HRB) 0 _) 1 _) 2 _
 have rc := fun o => cell_of_blk hfin o
 refine bodyPost_ret (v := tkP t) (by simp [results, Tryz.results153, go_sem, rc, tkP]) rfl ⟨rfl, (unhide HM).setNew3 (Nat.le_refl _) hp _ _ _⟩
set_option maxHeartbeats 1000000 in
theorem ptake_yes (k : Nat) (w : World) (pb g cap B : Nat) (L : List Tk) (i : Nat) (bad : Bool) (q : Nat) (NM : List Tk) (t : Tk) (r : List Tk) (h : PP w pb g cap B L i bad q NM) (ht : PL L i = t :: r) (hk : t.k = k) (hk2 : 2 ≤ k) :
  Calls Tryz.prog 153 #[.pointer (some ⟨pb, 0, none⟩), .int .i64 (k : Int)] w fun e w' => e = .returned (tkP t) ∧ Mv w w' pb g cap L.length i bad q (i + 1) bad q := by
 obtain ⟨no, nn, nc, h1, _⟩ := h.blk
 obtain ⟨t0, t1, t2⟩ := h.tok ht
 have hlt := h.lt
 have hlen := h.len
 have hnx := h.fe.nextLt ht (by omega)
 have hle := h.le
 have hmax := h.capLe
 unfold maxLen at hmax
 have hp := h.pLt
 have hg := h.gLt
 have bc := fun o => cell_of_blk h1 o
 have bf := fun o => frozen_of_blk h1 o
 have hkb : ((t.k : Int) != (k : Int)) = false := by simp; omega
 have hkz : ((k : Int) != 0) = true := by simp; omega
 have hc1 : ¬ cap - i = 1 := by omega
 have e1 : i * 3 + 3 = (i + 1) * 3 := by omega
 have e2 : L.length - i - 1 = L.length - (i + 1) := by omega
 have e3 : cap - i - 1 = cap - (i + 1) := by omega
 have E1 := hide e1
 have E2 := hide e2
 have E3 := hide e3
 clear h h1 ht hk e1 e2 e3 hk2
 go_enter Tryz.func153, Tryz.ntmps153
 go_wp2_with fail
 rw [unhide E1, unhide E2, unhide E3]
 refine bodyPost_ret (v := tkP t) (by simp [results, Tryz.results153, go_sem, tkP]) rfl ⟨rfl, ?_⟩
 have hm : Mv w (w.setCell ⟨pb, 0, none⟩ (.slice (some ⟨g, (i + 1) * 3, none⟩) (L.length - (i + 1)) (cap - (i + 1)))) pb g cap L.length i bad q (i + 1) bad q := ⟨grown_set _ _ _ _, fun no nn nc h => blk_set h 0 _⟩
 exact (hm.alloc _).alloc _
set_option maxHeartbeats 1000000 in
theorem ptake_end (w : World) (pb g cap B : Nat) (L : List Tk) (i : Nat) (bad : Bool) (q : Nat) (NM : List Tk) (t : Tk) (r : List Tk) (h : PP w pb g cap B L i bad q NM) (ht : PL L i = t :: r) (hk : t.k = 0) :
  Calls Tryz.prog 153 #[.pointer (some ⟨pb, 0, none⟩), .int .i64 0] w fun e w' => e = .returned (tkP t) ∧ Mv w w' pb g cap L.length i bad q i bad q := by
 obtain ⟨no, nn, nc, h1, _⟩ := h.blk
 obtain ⟨t0, t1, t2⟩ := h.tok ht
 have hlt := h.lt
 have hp := h.pLt
 have hg := h.gLt
 have bc := fun o => cell_of_blk h1 o
 have hkb : ((t.k : Int) != 0) = false := by simp; omega
 clear h h1 ht hk
 go_enter Tryz.func153, Tryz.ntmps153
 go_wp2_with fail
 refine bodyPost_ret (v := tkP t) (by simp [results, Tryz.results153, go_sem, tkP]) rfl ⟨rfl, ?_⟩
 exact ((Mv.refl _ _ _ _ _ _ _ _).alloc _).alloc _
set_option maxHeartbeats 1000000 in
theorem pskip_no (k : Nat) (w : World) (pb g cap B : Nat) (L : List Tk) (i : Nat) (bad : Bool) (q : Nat) (NM : List Tk) (t : Tk) (r : List Tk) (h : PP w pb g cap B L i bad q NM) (ht : PL L i = t :: r) (hk : t.k ≠ k) :
  Calls Tryz.prog 154 #[.pointer (some ⟨pb, 0, none⟩), .int .i64 (k : Int)] w fun e w' => e = .returned (.bool false) ∧ w' = w := by
 have hkb : ((t.k : Int) != (k : Int)) = true := by simp; omega
 have HP := hide h
 have HT := hide ht
 clear h ht hk
 go_enter Tryz.func154, Tryz.ntmps154
 go_wp2_with fail
 refine (pnext_any _ pb g cap B L i bad q NM t r (unhide HP) (unhide HT)).mono ?_
 rintro e w1 ⟨rfl, rfl⟩
 go_wp2_with fail
 go_ret
 exact ⟨rfl, rfl⟩
set_option maxHeartbeats 1000000 in
theorem pskip_yes (k : Nat) (w : World) (pb g cap B : Nat) (L : List Tk) (i : Nat) (bad : Bool) (q : Nat) (NM : List Tk) (t : Tk) (r : List Tk) (h : PP w pb g cap B L i bad q NM) (ht : PL L i = t :: r) (hk : t.k = k) (hk2 : 2 ≤ k) :
  Calls Tryz.prog 154 #[.pointer (some ⟨pb, 0, none⟩), .int .i64 (k : Int)] w fun e w' => e = .returned (.bool true) ∧ Mv w w' pb g cap L.length i bad q (i + 1) bad q := by
 have hkb : ((t.k : Int) != (k : Int)) = false := by simp; omega
 have HP := hide h
 have HT := hide ht
 have HK := hide hk
 clear h ht hk
 go_enter Tryz.func154, Tryz.ntmps154
 go_wp2_with fail
 refine (pnext_any _ pb g cap B L i bad q NM t r (unhide HP) (unhide HT)).mono ?_
 rintro e w1 ⟨rfl, rfl⟩
 go_wp2_with fail
 refine (ptake_yes k _ pb g cap B L i bad q NM t r (unhide HP) (unhide HT) (unhide HK) hk2).mono ?_
 rintro e w2 ⟨rfl, hm⟩
 have HM := hide hm
 clear hm
 go_wp2_with fail
 go_ret
 exact ⟨rfl, unhide HM⟩
end Go.Proofs.YtidakhhekofkoaaGreatDoor
namespace Go.Proofs.YtidakhhekofkoaaGreatDoor
open Go.Deep
def lvs : Fm → List Tk
 | .nil => []
 | .node _ _ a l r => (if a.1 = 0 then [⟨2, a.2.1, a.2.2⟩] else []) ++ (lvs l ++ lvs r)
theorem lvs_one {k : Nat} (hk : k ≠ 0) (f : Fm) : lvs (one k f) = lvs f := by
 show (if k = 0 then _ else []) ++ (lvs f ++ []) = lvs f
 rw [if_neg hk, List.append_nil]; rfl
theorem lvs_two {k : Nat} (hk : k ≠ 0) (f g : Fm) : lvs (two k f g) = lvs f ++ lvs g := by
 show (if k = 0 then _ else []) ++ (lvs f ++ lvs g) = _
 rw [if_neg hk]; rfl
theorem lvs_leaf {k : Nat} (hk : k ≠ 0) (s : ByteArray) (p : Nat) : lvs (leaf k s p) = [] := by
 show (if k = 0 then _ else []) ++ ([] ++ []) = []
 rw [if_neg hk]; rfl
theorem lvs_name (s : ByteArray) (p : Nat) : lvs (leaf 0 s p) = [⟨2, s, p⟩] := rfl
theorem fFm_lvs (al : List Tk) : ∀ f, fFm al f = (lvs f).flatMap (fun t => fName al t.s t.p)
 | .nil => rfl
 | .node _ _ a l r => by
  rw [fFm, lvs, List.flatMap_append, List.flatMap_append, ← fFm_lvs al l, ← fFm_lvs al r]
  congr 1
  split
  ·simp
  ·rfl
theorem sub_tail {α : Type} (l : List α) : l.tail.Sublist l := List.tail_sublist l
theorem sub_join {α : Type} {m m2 l l1 l2 : List α} (h : (m ++ l1).Sublist l) (h2 : (m2 ++ l2).Sublist l1) : ((m ++ m2) ++ l2).Sublist l := by
 rw [List.append_assoc]; exact (List.Sublist.append (List.Sublist.refl m) h2).trans h
theorem sub_weak {α : Type} {m l l1 l2 : List α} (h : (m ++ l1).Sublist l) (h2 : l2.Sublist l1) : (m ++ l2).Sublist l := (List.Sublist.append (List.Sublist.refl m) h2).trans h
theorem pf_lvs : ∀ n lev f l f' l', pf n lev f l = .ok (f', l') → lev ≤ 6 → ∃ ms, lvs f' = (if 5 ≤ lev then lvs f else []) ++ ms ∧ (ms ++ l').Sublist l
 | 0, _, _, _, _, _, h, _ => by simp [pf] at h
 | n + 1, 0, f, l, f', l', h, _ => by
  rw [pf] at h
  split at h
  ·cases h
  ·rename_i a l1 e
   obtain ⟨m1, e1, s1⟩ := pf_lvs n 1 .nil l a l1 e (by omega)
   split at h
   ·split at h
    ·cases h
    ·rename_i b l2 e2
     obtain ⟨m2, g2, s2⟩ := pf_lvs n 0 .nil l1.tail b l2 e2 (by omega)
     cases h
     exact ⟨m1 ++ m2, by rw [lvs_two (by decide), e1, g2]; rfl, sub_join s1 (s2.trans (sub_tail _))⟩
   ·cases h; exact ⟨m1, e1, s1⟩
 | n + 1, 1, f, l, f', l', h, _ => by
  rw [pf] at h
  split at h
  ·cases h
  ·rename_i a l1 e
   obtain ⟨m1, e1, s1⟩ := pf_lvs n 2 .nil l a l1 e (by omega)
   obtain ⟨m2, e2, s2⟩ := pf_lvs n 5 a l1 f' l' h (by omega)
   exact ⟨m1 ++ m2, by rw [e2, if_pos (by decide), e1]; rfl, sub_join s1 s2⟩
 | n + 1, 2, f, l, f', l', h, _ => by
  rw [pf] at h
  split at h
  ·cases h
  ·rename_i a l1 e
   obtain ⟨m1, e1, s1⟩ := pf_lvs n 3 .nil l a l1 e (by omega)
   obtain ⟨m2, e2, s2⟩ := pf_lvs n 6 a l1 f' l' h (by omega)
   exact ⟨m1 ++ m2, by rw [e2, if_pos (by decide), e1]; rfl, sub_join s1 s2⟩
 | n + 1, 3, f, l, f', l', h, _ => by
  rw [pf] at h
  split at h
  ·cases h
  ·rename_i a l1 e
   obtain ⟨m1, e1, s1⟩ := pf_lvs n 4 .nil l a l1 e (by omega)
   split at h
   ·split at h
    ·cases h
    ·rename_i b l2 e2
     obtain ⟨m2, g2, s2⟩ := pf_lvs n 4 .nil l1.tail b l2 e2 (by omega)
     cases h
     exact ⟨m1 ++ m2, by rw [lvs_two (by decide), e1, g2]; rfl, sub_join s1 (s2.trans (sub_tail _))⟩
   ·cases h; exact ⟨m1, e1, s1⟩
 | n + 1, 4, f, l, f', l', h, _ => by
  rw [pf] at h
  split at h
  ·rename_i hop
   split at h
   ·cases h
   ·rename_i a l1 e
    obtain ⟨m1, e1, s1⟩ := pf_lvs n 4 .nil l.tail a l1 e (by omega)
    cases h
    exact ⟨m1, by rw [lvs_one hop, e1]; rfl, s1.trans (sub_tail _)⟩
  ·split at h
   ·split at h
    ·cases h
    ·rename_i a l1 e
     obtain ⟨m1, e1, s1⟩ := pf_lvs n 0 .nil l.tail a l1 e (by omega)
     split at h
     ·cases h; exact ⟨m1, e1, sub_weak (s1.trans (sub_tail _)) (sub_tail _)⟩
     ·cases h
   ·split at h
    ·rename_i hw
     cases h; exact ⟨[], by rw [lvs_leaf (by omega)]; rfl, sub_tail _⟩
    ·split at h
     ·rename_i hk
      cases h
      obtain ⟨t, r, hl, ht⟩ := headK_ne hk (by decide)
      subst hl
      refine ⟨[t], ?_, List.Sublist.refl _⟩
      rw [lvs_name]
      cases t with
      | mk k s p => cases ht; rfl
     ·cases h
 | n + 1, 5, f, l, f', l', h, _ => by
  rw [pf] at h
  split at h
  ·split at h
   ·cases h
   ·rename_i b l1 e
    obtain ⟨m1, e1, s1⟩ := pf_lvs n 2 .nil l.tail b l1 e (by omega)
    obtain ⟨m2, e2, s2⟩ := pf_lvs n 5 _ l1 f' l' h (by omega)
    exact ⟨m1 ++ m2, by rw [e2, if_pos (by decide), lvs_two (by decide), e1, if_neg (by decide)]; simp, (sub_join s1 s2).trans (sub_tail _)⟩
  ·cases h; exact ⟨[], by simp, List.Sublist.refl _⟩
 | n + 1, 6, f, l, f', l', h, _ => by
  rw [pf] at h
  split at h
  ·split at h
   ·cases h
   ·rename_i b l1 e
    obtain ⟨m1, e1, s1⟩ := pf_lvs n 3 .nil l.tail b l1 e (by omega)
    obtain ⟨m2, e2, s2⟩ := pf_lvs n 6 _ l1 f' l' h (by omega)
    exact ⟨m1 ++ m2, by rw [e2, if_pos (by decide), lvs_two (by decide), e1, if_neg (by decide)]; simp, (sub_join s1 s2).trans (sub_tail _)⟩
  ·cases h; exact ⟨[], by simp, List.Sublist.refl _⟩
 | n + 1, k + 7, f, l, f', l', h, hl => by omega
def rlPl (r : Rl) : List Nat := if r.call = true then r.word.p :: (r.args.map Tk.p ++ [r.fin]) else (lvs r.f).map Tk.p
theorem subP {a b : List Tk} (h : a.Sublist b) : (a.map Tk.p).Sublist (b.map Tk.p) := h.map _
theorem head_split' {l : List Tk} {k : Nat} (h : headK l = k) (hk : k ≠ 0) : l.map Tk.p = headP l :: l.tail.map Tk.p := by
 obtain ⟨t, r, rfl, _⟩ := headK_ne h hk; rfl
theorem headT_p (l : List Tk) : (headT l).p = headP l := by cases l <;> rfl
theorem ruleRead_sub {l : List Tk} {r : Rl} {l' : List Tk} (h : ruleRead l = .ok (r, l')) : (rlPl r ++ l'.map Tk.p).Sublist (l.map Tk.p) := by
 unfold ruleRead at h
 split at h
 ·rename_i h1
  obtain ⟨h1, h2⟩ := h1
  split at h
  ·rename_i h3
   split at h
   ·rename_i h4
    split at h
    ·rename_i h5
     split at h
     ·rename_i h6
      cases h
      unfold rlPl
      rw [if_pos rfl, head_split' h1 (by decide), head_split' h2 (by decide), head_split' h3 (by decide), head_split' h4 (by decide)]
      have h7 : l.tail.tail.tail.tail.map Tk.p = headP l.tail.tail.tail.tail :: l.tail.tail.tail.tail.tail.map Tk.p := by
       rcases h5 with h5 | h5 <;> exact head_split' h5 (by decide)
      rw [head_split' h6 (by decide)] at h7
      simp only [List.map_cons, List.map_nil, headT_p, List.cons_append, List.nil_append]
      refine List.Sublist.cons_cons _ (List.Sublist.cons _ (List.Sublist.cons_cons _ (List.Sublist.cons _ ?_)))
      rw [h7]
      exact List.Sublist.refl _
     ·cases h
    ·cases h
   ·split at h
    ·rename_i h4
     cases h
     unfold rlPl
     rw [if_pos rfl, head_split' h1 (by decide), head_split' h2 (by decide), head_split' h3 (by decide), head_split' h4 (by decide)]
     simp only [List.map_cons, List.map_nil, headT_p, List.cons_append, List.nil_append]
     exact List.Sublist.cons_cons _ (List.Sublist.cons _ (List.Sublist.refl _))
    ·cases h
  ·cases h
 ·split at h
  ·cases h
  ·rename_i f l1 e
   cases h
   obtain ⟨ms, e1, s1⟩ := pf_lvs _ _ _ _ _ _ e (by omega)
   have : lvs f = ms := by rw [e1]; rfl
   unfold rlPl
   rw [if_neg (by intro h; cases h), this, ← List.map_append]
   exact subP s1
theorem actsRead_sub : ∀ n l ts l', actsRead n l = .ok (ts, l') → (ts.map Tk.p ++ l'.map Tk.p).Sublist (l.map Tk.p)
 | 0, _, _, _, h => by simp [actsRead] at h
 | n + 1, l, ts, l', h => by
  rw [actsRead] at h
  split at h
  ·rename_i h1
   split at h
   ·rename_i h2
    split at h
    ·cases h
    ·rename_i ts1 l1 e
     cases h
     have := actsRead_sub n _ _ _ e
     rw [head_split' h1 (by decide), List.map_cons, headT_p, List.cons_append]
     exact List.Sublist.cons_cons _ (this.trans (subP (sub_tail _)))
   ·cases h
    rw [head_split' h1 (by decide), List.map_cons, headT_p]
    exact List.Sublist.refl _
  ·cases h
theorem rulesRead_sub : ∀ n l rs, rulesRead n l = .ok rs → (rs.flatMap (fun r => r.pl :: rlPl r)).Sublist (l.map Tk.p)
 | 0, _, _, h => by simp [rulesRead] at h
 | n + 1, l, rs, h => by
  rw [rulesRead] at h
  split at h
  ·cases h; exact List.nil_sublist _
  ·split at h
   ·rename_i h1
    split at h
    ·cases h
    ·rename_i r l1 e
     split at h
     ·split at h
      ·cases h
      ·rename_i rs1 e2
       cases h
       have h3 := ruleRead_sub e
       have h4 := rulesRead_sub n _ _ e2
       rw [head_split' h1 (by decide), List.flatMap_cons, List.cons_append]
       refine List.Sublist.cons_cons _ ((List.Sublist.append (List.Sublist.refl _) (h4.trans (subP (sub_tail _)))).trans ?_)
       exact h3
     ·cases h
   ·cases h
theorem modelRead_sub {l al : List Tk} {rs : List Rl} (h : modelRead l = .ok (al, rs)) : (al.map Tk.p ++ rs.flatMap (fun r => r.pl :: rlPl r)).Sublist (l.map Tk.p) := by
 unfold modelRead at h
 split at h
 ·split at h
  ·cases h
  ·rename_i al1 l1 e
   split at h
   ·split at h
    ·cases h
    ·rename_i rs1 e2
     cases h
     have h1 := actsRead_sub _ _ _ _ e
     have h2 := rulesRead_sub _ _ _ e2
     exact (List.Sublist.append (List.Sublist.refl _) (h2.trans (subP (sub_tail _)))).trans (h1.trans (subP (sub_tail _)))
   ·cases h
 ·cases h
theorem lexR_up (s : ByteArray) : ∀ n i, i ≤ s.size → (∀ t ∈ lexR s n i, i ≤ t.p) ∧ ((lexR s n i).map Tk.p).Pairwise (· < ·)
 | 0, i, _ => ⟨fun _ h => by simp [lexR] at h, List.Pairwise.nil⟩
 | n + 1, i, hi => by
  have h1 := upTo_le isBl s i hi
  have h2 := lexAt_p s _ h1
  have h0 := upTo_ge isBl s i
  by_cases hk : (lexAt s (upTo isBl s i)).k ≤ 1
  ·rw [lexR_stop s n i hk]
   exact ⟨fun t ht => by rw [List.mem_singleton] at ht; subst ht; omega, List.pairwise_singleton _ _⟩
  ·rw [lexR_go s n i hk]
   have ha := lex_adv s i hi hk
   have h4 := lexAt_pos s _ h1 (by omega)
   obtain ⟨i1, i2⟩ := lexR_up s n _ ha.2
   refine ⟨fun t ht => ?_, ?_⟩
   ·rcases List.mem_cons.1 ht with rfl | ht
    ·omega
    ·have := i1 t ht; omega
   ·rw [List.map_cons]
    refine List.Pairwise.cons (fun p hp => ?_) i2
    obtain ⟨t, ht, rfl⟩ := List.mem_map.1 hp
    have := i1 t ht; omega
def Blk (p lo hi : Nat) (l : List (Nat × Nat)) : Prop := (∀ f ∈ l, f.1 = p ∧ lo ≤ f.2 ∧ f.2 ≤ hi) ∧ l.Pairwise (fun f g => f.2 ≤ g.2)
theorem Blk.nil (p lo hi : Nat) : Blk p lo hi [] := ⟨fun _ h => (List.not_mem_nil h).elim, List.Pairwise.nil⟩
theorem Blk.one {p lo hi e : Nat} (h : lo ≤ e) (h' : e ≤ hi) : Blk p lo hi [(p, e)] := ⟨fun f hf => by rw [List.mem_singleton] at hf; subst hf; exact ⟨rfl, h, h'⟩, List.pairwise_singleton _ _⟩
theorem Blk.ite {p lo hi : Nat} {c : Prop} [Decidable c] {l m : List (Nat × Nat)} (h : Blk p lo hi l) (k : Blk p lo hi m) : Blk p lo hi (if c then l else m) := by split <;> assumption
theorem Blk.append {p lo mid mid' hi : Nat} {l m : List (Nat × Nat)} (h : Blk p lo mid l) (k : Blk p mid' hi m) (hm : mid ≤ mid') (hlo : lo ≤ mid') (hhi : mid ≤ hi) : Blk p lo hi (l ++ m) := by
 refine ⟨fun f hf => ?_, List.pairwise_append.2 ⟨h.2, k.2, fun a ha b hb => ?_⟩⟩
 ·rcases List.mem_append.1 hf with hf | hf
  ·have := h.1 f hf; exact ⟨this.1, this.2.1, by omega⟩
  ·have := k.1 f hf; exact ⟨this.1, by omega, this.2.2⟩
 ·have h1 := h.1 a ha; have h2 := k.1 b hb; omega
def Cov : List Nat → List (Nat × Nat) → Prop
 | [], l => l = []
 | p :: ps, l => ∃ a b, l = a ++ b ∧ (∃ lo hi, Blk p lo hi a) ∧ Cov ps b
theorem Cov.append : ∀ {ps qs : List Nat} {l m : List (Nat × Nat)}, Cov ps l → Cov qs m → Cov (ps ++ qs) (l ++ m)
 | [], _, l, m, h, k => by cases h; exact k
 | p :: ps, qs, l, m, ⟨a, b, e, h1, h2⟩, k => ⟨a, b ++ m, by rw [e, List.append_assoc], h1, Cov.append h2 k⟩
theorem Cov.one {p lo hi : Nat} {l : List (Nat × Nat)} (h : Blk p lo hi l) : Cov [p] l := ⟨l, [], by simp, ⟨lo, hi, h⟩, rfl⟩
theorem Cov.cons {p lo hi : Nat} {ps : List Nat} {l m : List (Nat × Nat)} (h : Blk p lo hi l) (k : Cov ps m) : Cov (p :: ps) (l ++ m) := ⟨l, m, rfl, ⟨lo, hi, h⟩, k⟩
def Srt (l : List (Nat × Nat)) : Prop := l.Pairwise (fun f g => f.1 < g.1 ∨ (f.1 = g.1 ∧ f.2 ≤ g.2))
theorem Cov.mem : ∀ {ps : List Nat} {l : List (Nat × Nat)}, Cov ps l → ∀ f ∈ l, f.1 ∈ ps
 | [], _, h, f, hf => by cases h; exact (List.not_mem_nil hf).elim
 | p :: ps, l, ⟨a, b, e, ⟨lo, hi, h1⟩, h2⟩, f, hf => by
  rw [e] at hf
  rcases List.mem_append.1 hf with hf | hf
  ·rw [(h1.1 f hf).1]; exact List.mem_cons_self
  ·exact List.mem_cons_of_mem _ (Cov.mem h2 f hf)
theorem Cov.srt : ∀ {ps : List Nat} {l : List (Nat × Nat)}, Cov ps l → ps.Pairwise (· < ·) → Srt l
 | [], _, h, _ => by cases h; exact List.Pairwise.nil
 | p :: ps, l, ⟨a, b, e, ⟨lo, hi, h1⟩, h2⟩, hp => by
  rw [e]
  obtain ⟨hp1, hp2⟩ := List.pairwise_cons.1 hp
  refine List.pairwise_append.2 ⟨?_, Cov.srt h2 hp2, fun x hx y hy => Or.inl ?_⟩
  ·exact h1.2.imp_of_mem (fun hx hy hxy => Or.inr ⟨by rw [(h1.1 _ hx).1, (h1.1 _ hy).1], hxy⟩)
  ·rw [(h1.1 x hx).1]; exact hp1 _ (Cov.mem h2 y hy)
theorem fName_blk (al : List Tk) (s : ByteArray) (p : Nat) : Blk p 1 3 (fName al s p) :=
 Blk.append (mid := 1) (mid' := 3) (Blk.ite (Blk.one (by omega) (by omega)) (Blk.nil _ _ _)) (Blk.ite (Blk.nil _ _ _) (Blk.one (by omega) (by omega))) (by omega) (by omega) (by omega)
theorem dups_blk (a : Tk) : ∀ l, Blk a.p 3 3 (dups l a)
 | [] => Blk.nil _ _ _
 | _ :: r => Blk.append (mid := 3) (mid' := 3) (Blk.ite (Blk.one (by omega) (by omega)) (Blk.nil _ _ _)) (dups_blk a r) (by omega) (by omega) (by omega)
theorem fAct_blk (pre : List Tk) (i : Nat) (a : Tk) : Blk a.p 1 4 (fAct pre i a) :=
 Blk.append (mid := 1) (mid' := 3) (Blk.ite (Blk.one (by omega) (by omega)) (Blk.nil _ _ _)) (Blk.append (mid := 3) (mid' := 4) (dups_blk a pre) (Blk.ite (Blk.one (by omega) (by omega)) (Blk.nil _ _ _)) (by omega) (by omega) (by omega)) (by omega) (by omega) (by omega)
theorem fActs_cov (al : List Tk) : ∀ i l, Cov (l.map Tk.p) (fActs al i l)
 | _, [] => rfl
 | i, a :: r => Cov.cons (fAct_blk _ i a) (fActs_cov al (i + 1) r)
theorem fArg_blk (al : List Tk) (ks : List UInt8) (t : Tk) : Blk t.p 1 4 (fArg al ks t) :=
 Blk.append (mid := 3) (mid' := 4) (Blk.ite (fName_blk al _ _) (Blk.nil _ _ _)) (Blk.ite (Blk.one (by omega) (by omega)) (Blk.nil _ _ _)) (by omega) (by omega) (by omega)
theorem fArgs_cov (al : List Tk) : ∀ (ks : List UInt8) (l : List Tk), Cov (l.map Tk.p) (fArgs al ks l)
 | _, [] => by rw [fArgs]; exact rfl
 | ks, t :: r => by rw [fArgs]; exact Cov.cons (fArg_blk al ks t) (fArgs_cov al _ r)
theorem names_cov (al : List Tk) : ∀ l : List Tk, Cov (l.map Tk.p) (l.flatMap (fun t => fName al t.s t.p))
 | [] => rfl
 | _ :: r => Cov.cons (fName_blk al _ _) (names_cov al r)
theorem fCall_cov (al : List Tk) (r : Rl) : Cov (r.word.p :: (r.args.map Tk.p ++ [r.fin])) (fCall al r) := by
 unfold fCall
 rw [← List.append_assoc]
 refine Cov.cons (lo := 1) (hi := 3) (Blk.append (mid := 1) (mid' := 3) (Blk.ite (Blk.one (by omega) (by omega)) (Blk.nil _ _ _)) (Blk.ite (Blk.nil _ _ _) (Blk.one (by omega) (by omega))) (by omega) (by omega) (by omega)) ?_
 exact Cov.append (fArgs_cov al _ _) (Cov.one (lo := 4) (hi := 4) (Blk.ite (Blk.one (by omega) (by omega)) (Blk.nil _ _ _)))
def RlF (r : Rl) : Prop := r.call = true → r.f = .nil
theorem fRule_cov (al : List Tk) (i : Nat) (r : Rl) (h : RlF r) : Cov (r.pl :: rlPl r) (fRule al i r) := by
 unfold fRule
 refine Cov.cons (lo := 4) (hi := 4) (Blk.ite (Blk.one (by omega) (by omega)) (Blk.nil _ _ _)) ?_
 unfold rlPl
 by_cases hc : r.call = true
 ·rw [if_pos hc, if_pos hc, h hc]; exact fCall_cov al r
 ·rw [if_neg hc, if_neg hc, List.append_nil, fFm_lvs]; exact names_cov al _
theorem fRules_cov (al : List Tk) : ∀ i (rs : List Rl), (∀ r ∈ rs, RlF r) → Cov (rs.flatMap (fun r => r.pl :: rlPl r)) (fRules al i rs)
 | _, [], _ => rfl
 | i, r :: l, h => by
  rw [List.flatMap_cons, fRules]
  exact Cov.append (fRule_cov al i r (h r List.mem_cons_self)) (fRules_cov al (i + 1) l (fun x hx => h x (List.mem_cons_of_mem _ hx)))
theorem faults_srt {l al : List Tk} {rs : List Rl} (h : modelRead l = .ok (al, rs)) (hu : (l.map Tk.p).Pairwise (· < ·)) (hf : ∀ r ∈ rs, RlF r) : Srt (faults al rs) :=
 Cov.srt (Cov.append (fActs_cov al 0 al) (fRules_cov al 0 rs hf)) (List.Pairwise.sublist (modelRead_sub h) hu)
def tell (x : Nat × Nat) (p e : Nat) : Nat × Nat := if x.2 = 0 ∨ p < x.1 then (p, e) else x
def tells (x : Nat × Nat) (l : List (Nat × Nat)) : Nat × Nat := l.foldl (fun x f => tell x f.1 f.2) x
theorem tells_append (x : Nat × Nat) (l m : List (Nat × Nat)) : tells x (l ++ m) = tells (tells x l) m := List.foldl_append
theorem tells_keep {x : Nat × Nat} (hx : x.2 ≠ 0) : ∀ {l : List (Nat × Nat)}, (∀ f ∈ l, x.1 ≤ f.1) → tells x l = x
 | [], _ => rfl
 | f :: l, h => by
  have h1 := h f List.mem_cons_self
  show tells (tell x f.1 f.2) l = x
  have : tell x f.1 f.2 = x := if_neg (by omega)
  rw [this]
  exact tells_keep hx (fun g hg => h g (List.mem_cons_of_mem _ hg))
theorem meets_keep {x : Nat × Nat} (hx : x.2 ≠ 0) : ∀ {l : List (Nat × Nat)}, (∀ f ∈ l, x.1 < f.1 ∨ (x.1 = f.1 ∧ x.2 ≤ f.2)) → meets x l = x
 | [], _ => rfl
 | f :: l, h => by
  have h1 := h f List.mem_cons_self
  show meets (meet x f.1 f.2) l = x
  have : meet x f.1 f.2 = x := if_neg (by omega)
  rw [this]
  exact meets_keep hx (fun g hg => h g (List.mem_cons_of_mem _ hg))
theorem tells_srt {l : List (Nat × Nat)} (h : Srt l) (he : Errs l) : tells (0, 0) l = (l.head?).getD (0, 0) := by
 cases l with
 | nil => rfl
 | cons f l =>
  show tells (tell (0, 0) f.1 f.2) l = f
  have : tell (0, 0) f.1 f.2 = f := if_pos (Or.inl rfl)
  rw [this]
  exact tells_keep (he f List.mem_cons_self) (fun g hg => by have := (List.pairwise_cons.1 h).1 g hg; omega)
theorem meets_srt {l : List (Nat × Nat)} (h : Srt l) (he : Errs l) : meets (0, 0) l = (l.head?).getD (0, 0) := by
 cases l with
 | nil => rfl
 | cons f l =>
  show meets (meet (0, 0) f.1 f.2) l = f
  have : meet (0, 0) f.1 f.2 = f := if_pos (Or.inl rfl)
  rw [this]
  exact meets_keep (he f List.mem_cons_self) (List.pairwise_cons.1 h).1
def pAct (pre : List Tk) (i : Nat) (a : Tk) : List (Nat × Nat) := fLong a ++ ((if hasN pre a.s = true then [(a.p, 3)] else []) ++ (if 6 ≤ i then [(a.p, 4)] else []))
def pActs (al : List Tk) : Nat → List Tk → List (Nat × Nat)
 | _, [] => []
 | i, a :: r => pAct (al.take i) i a ++ pActs al (i + 1) r
def pCall (al : List Tk) (r : Rl) : List (Nat × Nat) :=
 fLong r.word ++ (if tplNo r.word.s.toList ≤ 11 then fArgs al (tplTakes (tplNo r.word.s.toList)) r.args ++ (if r.args.length < (tplTakes (tplNo r.word.s.toList)).length then [(r.fin, 4)] else []) else [(r.word.p, 3)])
def pRule (al : List Tk) (i : Nat) (r : Rl) : List (Nat × Nat) := (if 4 ≤ i then [(r.pl, 4)] else []) ++ (if r.call = true then pCall al r else (lvs r.f).flatMap (fun t => fName al t.s t.p))
def pRules (al : List Tk) : Nat → List Rl → List (Nat × Nat)
 | _, [] => []
 | i, r :: l => pRule al i r ++ pRules al (i + 1) l
def pFaults (al : List Tk) (rs : List Rl) : List (Nat × Nat) := pActs al 0 al ++ pRules al 0 rs
def Hd (a b : List (Nat × Nat)) : Prop := a.Sublist b ∧ a.head? = b.head?
theorem Hd.refl (a : List (Nat × Nat)) : Hd a a := ⟨List.Sublist.refl _, rfl⟩
theorem Hd.append {a b c d : List (Nat × Nat)} (h : Hd a b) (k : Hd c d) : Hd (a ++ c) (b ++ d) := ⟨h.1.append k.1, by rw [List.head?_append, List.head?_append, h.2, k.2]⟩
theorem dups_hd (a : Tk) : ∀ l, Hd (if hasN l a.s = true then [(a.p, 3)] else []) (dups l a)
 | [] => Hd.refl _
 | t :: r => by
  rw [hasN, dups]
  by_cases h : t.s.toList = a.s.toList
  ·rw [if_pos h, if_pos h, if_pos rfl]
   exact ⟨List.Sublist.cons_cons _ (List.nil_sublist _), rfl⟩
  ·rw [if_neg h, if_neg h]; exact dups_hd a r
theorem pActs_hd (al : List Tk) : ∀ i l, Hd (pActs al i l) (fActs al i l)
 | _, [] => Hd.refl _
 | i, a :: r => Hd.append (Hd.append (Hd.refl _) (Hd.append (dups_hd a _) (Hd.refl _))) (pActs_hd al (i + 1) r)
theorem pCall_hd (al : List Tk) (r : Rl) : Hd (pCall al r) (fCall al r) := by
 unfold pCall fCall
 refine Hd.append (Hd.refl _) ?_
 by_cases h : tplNo r.word.s.toList ≤ 11
 ·rw [if_pos h, if_pos h]; exact Hd.refl _
 ·rw [if_neg h, if_neg h]; exact ⟨List.Sublist.cons_cons _ (List.nil_sublist _), rfl⟩
theorem pRule_hd (al : List Tk) (i : Nat) (r : Rl) (h : RlF r) : Hd (pRule al i r) (fRule al i r) := by
 unfold pRule fRule
 refine Hd.append (Hd.refl _) ?_
 by_cases hc : r.call = true
 ·rw [if_pos hc, if_pos hc, h hc]; exact pCall_hd al r
 ·rw [if_neg hc, if_neg hc, List.append_nil, fFm_lvs]; exact Hd.refl _
theorem pRules_hd (al : List Tk) : ∀ i (rs : List Rl), (∀ r ∈ rs, RlF r) → Hd (pRules al i rs) (fRules al i rs)
 | _, [], _ => Hd.refl _
 | i, r :: l, h => Hd.append (pRule_hd al i r (h r List.mem_cons_self)) (pRules_hd al (i + 1) l (fun x hx => h x (List.mem_cons_of_mem _ hx)))
theorem tells_eq {l al : List Tk} {rs : List Rl} (h : modelRead l = .ok (al, rs)) (hu : (l.map Tk.p).Pairwise (· < ·)) (hf : ∀ r ∈ rs, RlF r) : tells (0, 0) (pFaults al rs) = meets (0, 0) (faults al rs) := by
 have h1 : Hd (pFaults al rs) (faults al rs) := Hd.append (pActs_hd al 0 al) (pRules_hd al 0 rs hf)
 have h2 := faults_srt h hu hf
 have h3 := faults_errs al rs
 rw [tells_srt (List.Pairwise.sublist h1.1 h2) (fun f hf => h3 f (h1.1.subset hf)), meets_srt h2 h3, h1.2]
end Go.Proofs.YtidakhhekofkoaaGreatDoor
namespace Go.Proofs.YtidakhhekofkoaaGreatDoor
open Go.RowKit Go.Deep
def PrintOk : Prop := ∀ (s : ByteArray) (w : World), GVF w → Calls Tryz.prog 15 #[.string s] w fun e w' => e = .returned (.tuple #[.string (printM s).1, .int .i64 (printM s).2.1, .int .i64 (printM s).2.2]) ∧ Below w.heap.size w w'
end Go.Proofs.YtidakhhekofkoaaGreatDoor
