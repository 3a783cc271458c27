/- Plain mathematics: what is read is well formed, its tokens are the text's: no program in it. -/
import Derived.Test.YtoclbcffbhldmaaGreatDoorF7
namespace Go.Proofs.YtoclbcffbhldmaaGreatDoor
open Go.Deep

/-- A well formed formula, whose activities are tokens that meet Q. -/
def Fg (Q : Tk → Prop) : Fm → Prop
  | .nil => False
  | .node _ _ a l r => (a.1 = 0 ∧ (∃ t, Q t ∧ t.k = 2 ∧ t.s = a.2.1 ∧ t.p = a.2.2) ∧ l = .nil ∧ r = .nil) ∨
      ((1 ≤ a.1 ∧ a.1 ≤ 3) ∧ l = .nil ∧ r = .nil) ∨ ((4 ≤ a.1 ∧ a.1 ≤ 8) ∧ Fg Q l ∧ r = .nil) ∨ ((9 ≤ a.1 ∧ a.1 ≤ 12) ∧ Fg Q l ∧ Fg Q r)
theorem Fg.leaf {Q : Tk → Prop} {t : Tk} (h : Q t) (hk : t.k = 2) : Fg Q (leaf 0 t.s t.p) := Or.inl ⟨rfl, ⟨t, h, hk, rfl, rfl⟩, rfl, rfl⟩
theorem Fg.word {Q : Tk → Prop} {k : Nat} {s : ByteArray} {p : Nat} (h : 1 ≤ k ∧ k ≤ 3) : Fg Q (Go.Proofs.YtoclbcffbhldmaaGreatDoor.leaf k s p) := Or.inr (Or.inl ⟨h, rfl, rfl⟩)
theorem Fg.one {Q : Tk → Prop} {k : Nat} {f : Fm} (h : 4 ≤ k ∧ k ≤ 8) (hf : Fg Q f) : Fg Q (one k f) := Or.inr (Or.inr (Or.inl ⟨h, hf, rfl⟩))
theorem Fg.two {Q : Tk → Prop} {k : Nat} {f g : Fm} (h : 9 ≤ k ∧ k ≤ 12) (hf : Fg Q f) (hg : Fg Q g) : Fg Q (two k f g) := Or.inr (Or.inr (Or.inr ⟨h, hf, hg⟩))
theorem sizeF_leaf (k : Nat) (s : ByteArray) (p : Nat) : sizeF (leaf k s p) = 1 := rfl
theorem sizeF_one (k : Nat) (f : Fm) : sizeF (one k f) = 1 + sizeF f := rfl
theorem sizeF_two (k : Nat) (f g : Fm) : sizeF (two k f g) = 1 + sizeF f + sizeF g := rfl

theorem opOf_range (k : Nat) (h : opOf k ≠ 0) : 4 ≤ opOf k ∧ opOf k ≤ 8 := by
  revert h; unfold opOf; repeat' split
  all_goals (intro h; first | omega | exact absurd rfl h)
theorem headK_ne {l : List Tk} {k : Nat} (h : headK l = k) (hk : k ≠ 0) : ∃ t r, l = t :: r ∧ t.k = k := by
  cases l with
  | nil => exact absurd h.symm hk
  | cons t r => exact ⟨t, r, rfl, h⟩
theorem headK_len {l : List Tk} (h : headK l ≠ 0) : l.tail.length + 1 = l.length := by
  cases l with
  | nil => exact absurd rfl h
  | cons t r => simp
theorem all_tail {Q : Tk → Prop} {l : List Tk} (h : ∀ t ∈ l, Q t) : ∀ t ∈ l.tail, Q t := fun t ht => h t (List.mem_of_mem_tail ht)

theorem pf_good (Q : Tk → Prop) : ∀ n lev f l f' l', pf n lev f l = .ok (f', l') → lev ≤ 6 → (5 ≤ lev → Fg Q f) → (∀ t ∈ l, Q t) →
    Fg Q f' ∧ (∀ t ∈ l', Q t) ∧ sizeF f' + l'.length ≤ (if 5 ≤ lev then sizeF f else 0) + l.length
  | 0, _, _, _, _, _, h, _, _, _ => by simp [pf] at h
  | n + 1, 0, f, l, f', l', h, _, _, hq => by
    rw [pf] at h
    split at h
    · cases h
    · rename_i a l1 e
      have h1 := pf_good Q n 1 .nil l a l1 e (by omega) (by omega) hq
      split at h
      · rename_i hk
        split at h
        · cases h
        · rename_i b l2 e2
          have h2 := pf_good Q n 0 .nil l1.tail b l2 e2 (by omega) (by omega) (all_tail h1.2.1)
          have hl := headK_len (l := l1) (by omega)
          cases h
          refine ⟨Fg.two (by omega) h1.1 h2.1, h2.2.1, ?_⟩
          have s1 := h1.2.2; have s2 := h2.2.2
          simp at s1 s2 ⊢
          rw [sizeF_two]; omega
      · cases h; have s1 := h1.2.2; simp at s1; exact ⟨h1.1, h1.2.1, by simp; omega⟩
  | n + 1, 1, f, l, f', l', h, _, _, hq => by
    rw [pf] at h
    split at h
    · cases h
    · rename_i a l1 e
      have h1 := pf_good Q n 2 .nil l a l1 e (by omega) (by omega) hq
      have h2 := pf_good Q n 5 a l1 f' l' h (by omega) (fun _ => h1.1) h1.2.1
      have s1 := h1.2.2; have s2 := h2.2.2
      simp at s1 s2
      exact ⟨h2.1, h2.2.1, by simp; omega⟩
  | n + 1, 2, f, l, f', l', h, _, _, hq => by
    rw [pf] at h
    split at h
    · cases h
    · rename_i a l1 e
      have h1 := pf_good Q n 3 .nil l a l1 e (by omega) (by omega) hq
      have h2 := pf_good Q n 6 a l1 f' l' h (by omega) (fun _ => h1.1) h1.2.1
      have s1 := h1.2.2; have s2 := h2.2.2
      simp at s1 s2
      exact ⟨h2.1, h2.2.1, by simp; omega⟩
  | n + 1, 3, f, l, f', l', h, _, _, hq => by
    rw [pf] at h
    split at h
    · cases h
    · rename_i a l1 e
      have h1 := pf_good Q n 4 .nil l a l1 e (by omega) (by omega) hq
      split at h
      · rename_i hk
        split at h
        · cases h
        · rename_i b l2 e2
          have h2 := pf_good Q n 4 .nil l1.tail b l2 e2 (by omega) (by omega) (all_tail h1.2.1)
          have hl := headK_len (l := l1) (by omega)
          cases h
          refine ⟨Fg.two (by omega) h1.1 h2.1, h2.2.1, ?_⟩
          have s1 := h1.2.2; have s2 := h2.2.2
          simp at s1 s2 ⊢
          rw [sizeF_two]; omega
      · cases h; have s1 := h1.2.2; simp at s1; exact ⟨h1.1, h1.2.1, by simp; omega⟩
  | n + 1, 4, f, l, f', l', h, _, _, hq => by
    rw [pf] at h
    split at h
    · rename_i ho
      split at h
      · cases h
      · rename_i a l1 e
        have h1 := pf_good Q n 4 .nil l.tail a l1 e (by omega) (by omega) (all_tail hq)
        have hl := headK_len (l := l) (by intro e0; rw [e0] at ho; exact ho rfl)
        have s1 := h1.2.2
        simp at s1
        cases h
        refine ⟨Fg.one (opOf_range _ ho) h1.1, h1.2.1, ?_⟩
        rw [sizeF_one]; simp; omega
    · split at h
      · rename_i hk
        split at h
        · cases h
        · rename_i a l1 e
          have h1 := pf_good Q n 0 .nil l.tail a l1 e (by omega) (by omega) (all_tail hq)
          have s1 := h1.2.2
          simp at s1
          split at h
          · cases h; exact ⟨h1.1, all_tail h1.2.1, by simp; omega⟩
          · cases h
      · split at h
        · rename_i hk
          cases h
          have hl := headK_len (l := l) (by omega)
          refine ⟨Fg.word (by omega), all_tail hq, ?_⟩
          rw [sizeF_leaf]; simp; omega
        · split at h
          · rename_i hk
            cases h
            obtain ⟨t, r, rfl, ht⟩ := headK_ne hk (by omega)
            exact ⟨Fg.leaf (hq t List.mem_cons_self) ht, all_tail hq, by rw [sizeF_leaf]; simp; omega⟩
          · cases h
  | n + 1, 5, f, l, f', l', h, _, hf, hq => by
    rw [pf] at h
    split at h
    · rename_i hk
      split at h
      · cases h
      · rename_i b l1 e
        have h1 := pf_good Q n 2 .nil l.tail b l1 e (by omega) (by omega) (all_tail hq)
        have h2 := pf_good Q n 5 _ l1 f' l' h (by omega) (fun _ => Fg.two (by omega) (hf (by omega)) h1.1) h1.2.1
        have hl := headK_len (l := l) (by omega)
        have s1 := h1.2.2; have s2 := h2.2.2
        rw [sizeF_two] at s2
        simp at s1 s2
        exact ⟨h2.1, h2.2.1, by simp; omega⟩
    · cases h; exact ⟨hf (by omega), hq, by simp⟩
  | n + 1, 6, f, l, f', l', h, _, hf, hq => by
    rw [pf] at h
    split at h
    · rename_i hk
      split at h
      · cases h
      · rename_i b l1 e
        have h1 := pf_good Q n 3 .nil l.tail b l1 e (by omega) (by omega) (all_tail hq)
        have h2 := pf_good Q n 6 _ l1 f' l' h (by omega) (fun _ => Fg.two (by omega) (hf (by omega)) h1.1) h1.2.1
        have hl := headK_len (l := l) (by omega)
        have s1 := h1.2.2; have s2 := h2.2.2
        rw [sizeF_two] at s2
        simp at s1 s2
        exact ⟨h2.1, h2.2.1, by simp; omega⟩
    · cases h; exact ⟨hf (by omega), hq, by simp⟩
  | n + 1, k + 7, f, l, f', l', h, hk, _, _ => by omega

/-- A rule whose tokens meet Q; its formula has no more than m nodes. -/
def RlGood (Q : Tk → Prop) (m : Nat) (r : Rl) : Prop :=
  (r.call = true ∧ Q r.word ∧ r.word.k = 2 ∧ r.f = .nil ∧ ∃ x, Q x ∧ x.k = 2 ∧ (r.args = [x] ∨ ∃ y, Q y ∧ (y.k = 2 ∨ y.k = 3) ∧ r.args = [x, y])) ∨
  (r.call = false ∧ Fg Q r.f ∧ sizeF r.f ≤ m ∧ r.args = [])
theorem headT_ok {Q : Tk → Prop} {l : List Tk} {k : Nat} (h : headK l = k) (hk : k ≠ 0) (hq : ∀ t ∈ l, Q t) : Q (headT l) ∧ (headT l).k = k := by
  obtain ⟨t, r, rfl, ht⟩ := headK_ne h hk
  exact ⟨hq t List.mem_cons_self, ht⟩
theorem ruleRead_good (Q : Tk → Prop) (l : List Tk) (r : Rl) (l' : List Tk) (h : ruleRead l = .ok (r, l')) (hq : ∀ t ∈ l, Q t) : RlGood Q l.length r ∧ (∀ t ∈ l', Q t) := by
  unfold ruleRead at h
  split at h
  · rename_i h0
    have w0 := headT_ok h0.1 (by omega) hq
    split at h
    · rename_i h1
      have w1 := headT_ok h1 (by omega) (all_tail (all_tail hq))
      split at h
      · split at h
        · rename_i h3
          have w3 : Q (headT l.tail.tail.tail.tail) ∧ ((headT l.tail.tail.tail.tail).k = 2 ∨ (headT l.tail.tail.tail.tail).k = 3) := by
            rcases h3 with h3 | h3
            · have := headT_ok h3 (by omega) (all_tail (all_tail (all_tail (all_tail hq)))); exact ⟨this.1, Or.inl this.2⟩
            · have := headT_ok h3 (by omega) (all_tail (all_tail (all_tail (all_tail hq)))); exact ⟨this.1, Or.inr this.2⟩
          split at h
          · cases h
            exact ⟨Or.inl ⟨rfl, w0.1, w0.2, rfl, _, w1.1, w1.2, Or.inr ⟨_, w3.1, w3.2, rfl⟩⟩, all_tail (all_tail (all_tail (all_tail (all_tail (all_tail hq)))))⟩
          · cases h
        · cases h
      · split at h
        · cases h
          exact ⟨Or.inl ⟨rfl, w0.1, w0.2, rfl, _, w1.1, w1.2, Or.inl rfl⟩, all_tail (all_tail (all_tail (all_tail hq)))⟩
        · cases h
    · cases h
  · split at h
    · cases h
    · rename_i f l1 e
      cases h
      have := pf_good Q _ 0 .nil l f l' e (by omega) (by omega) hq
      have s1 := this.2.2
      simp at s1
      exact ⟨Or.inr ⟨rfl, this.1, by show sizeF f ≤ _; omega, rfl⟩, this.2.1⟩
theorem actsRead_good (Q : Tk → Prop) : ∀ n l ts l', actsRead n l = .ok (ts, l') → (∀ t ∈ l, Q t) → (∀ t ∈ ts, Q t ∧ t.k = 2) ∧ ts ≠ [] ∧ ts.length ≤ n ∧ (∀ t ∈ l', Q t)
  | 0, l, ts, l', h, _ => by simp [actsRead] at h
  | n + 1, l, ts, l', h, hq => by
    rw [actsRead] at h
    split at h
    · rename_i h0
      have w0 := headT_ok h0 (by omega) hq
      split at h
      · split at h
        · cases h
        · rename_i ts1 l1 e
          have := actsRead_good Q n l.tail.tail ts1 l1 e (all_tail (all_tail hq))
          cases h
          refine ⟨fun t ht => ?_, by simp, by simp; omega, this.2.2.2⟩
          rcases List.mem_cons.1 ht with rfl | ht
          · exact w0
          · exact this.1 t ht
      · cases h
        exact ⟨fun t ht => by rw [List.mem_singleton] at ht; subst ht; exact w0, by simp, by simp, all_tail hq⟩
    · cases h
theorem RlGood.mono {Q : Tk → Prop} {m m' : Nat} {r : Rl} (h : RlGood Q m r) (hm : m ≤ m') : RlGood Q m' r := by
  rcases h with h | ⟨h1, h2, h3, h4⟩
  · exact Or.inl h
  · exact Or.inr ⟨h1, h2, by omega, h4⟩
theorem rulesRead_good (Q : Tk → Prop) (m : Nat) : ∀ n l rs, rulesRead n l = .ok rs → l.length ≤ m → (∀ t ∈ l, Q t) → (∀ r ∈ rs, RlGood Q m r) ∧ rs.length ≤ n
  | 0, l, rs, h, _, _ => by simp [rulesRead] at h
  | n + 1, l, rs, h, hm, hq => by
    rw [rulesRead] at h
    split at h
    · cases h; exact ⟨fun r hr => (List.not_mem_nil hr).elim, by simp⟩
    · split at h
      · split at h
        · cases h
        · rename_i r l1 e
          have hr := ruleRead_good Q l.tail r l1 e (all_tail hq)
          have hl := ruleRead_len l.tail r l1 e
          split at h
          · split at h
            · cases h
            · rename_i rs1 e1
              have h1 := rulesRead_good Q m n l1.tail rs1 e1 (by simp at hl ⊢; omega) (all_tail hr.2)
              cases h
              refine ⟨fun x hx => ?_, by simp; omega⟩
              rcases List.mem_cons.1 hx with rfl | hx
              · exact (show RlGood Q _ r from hr.1).mono (by simp; omega)
              · exact h1.1 x hx
          · cases h
      · cases h
theorem modelRead_good (Q : Tk → Prop) (l : List Tk) (al : List Tk) (rs : List Rl) (h : modelRead l = .ok (al, rs)) (hq : ∀ t ∈ l, Q t) :
    (∀ t ∈ al, Q t ∧ t.k = 2) ∧ al ≠ [] ∧ al.length ≤ l.length ∧ (∀ r ∈ rs, RlGood Q l.length r) ∧ rs.length ≤ l.length := by
  unfold modelRead at h
  split at h
  · split at h
    · cases h
    · rename_i ts l1 e
      have ha := actsRead_good Q _ _ _ _ e (all_tail hq)
      have hl := actsRead_len _ _ _ _ e
      split at h
      · split at h
        · cases h
        · rename_i rs1 e1
          have hr := rulesRead_good Q l.length _ _ _ e1 (by simp at hl ⊢; omega) (all_tail ha.2.2.2)
          cases h
          exact ⟨ha.1, ha.2.1, ha.2.2.1, hr.1, by simp at hl; omega⟩
      · cases h
  · cases h
theorem lexR_small (s : ByteArray) : ∀ n i, i ≤ s.size → ∀ t ∈ lexR s n i, t.s.size ≤ s.size ∧ t.p ≤ s.size
  | 0, _, _, t, h => by simp [lexR] at h
  | n + 1, i, hi, t, h => by
    have h1 := upTo_le isBl s i hi
    have h2 := lexAt_s s _ h1
    have h3 := lexAt_p s _ h1
    by_cases hk : (lexAt s (upTo isBl s i)).k ≤ 1
    · rw [lexR_stop s n i hk] at h; simp at h; subst h; omega
    · rw [lexR_go s n i hk] at h
      have ha := lex_adv s i hi hk
      rcases List.mem_cons.1 h with rfl | h
      · omega
      · exact lexR_small s n _ ha.2 t h
end Go.Proofs.YtoclbcffbhldmaaGreatDoor
