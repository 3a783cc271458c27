/- Plain mathematics of reading a whole model: its faults, its nodes: no program in it. -/
import Derived.Test.YtoclbcffbhldmaaGreatDoorGd
namespace Go.Proofs.YtoclbcffbhldmaaGreatDoor
open Go.Deep

/-- The faults of an activity that repeats some before. -/
def dups (pre : List Tk) (a : Tk) : List (Nat × Nat) :=
  match pre with
  | [] => []
  | t :: r => (if t.s.toList = a.s.toList then [(a.p, 3)] else []) ++ dups r a
def fLong (a : Tk) : List (Nat × Nat) := if 8 < a.s.size then [(a.p, 1)] else []
def fAct (pre : List Tk) (i : Nat) (a : Tk) : List (Nat × Nat) := fLong a ++ (dups pre a ++ (if 6 ≤ i then [(a.p, 4)] else []))
def fActs (al : List Tk) : Nat → List Tk → List (Nat × Nat)
  | _, [] => []
  | i, a :: r => fAct (al.take i) i a ++ fActs al (i + 1) r
def fRule (al : List Tk) (i : Nat) (r : Rl) : List (Nat × Nat) := (if 4 ≤ i then [(r.pl, 4)] else []) ++ (fFm al r.f ++ (if r.call = true then fCall al r else []))
def fRules (al : List Tk) : Nat → List Rl → List (Nat × Nat)
  | _, [] => []
  | i, r :: l => fRule al i r ++ fRules al (i + 1) l
def faults (al : List Tk) (rs : List Rl) : List (Nat × Nat) := fActs al 0 al ++ fRules al 0 rs
def nodesL : List Rl → Nat
  | [] => 0
  | r :: l => sizeF (ruleF r) + nodesL l

/-- What a model that was read comes to: the model, or the place and the error of its fault (n: the text's length). -/
def rdOf (n : Nat) : Except Nat (List Tk × List Rl) → Except (Nat × Nat) (List Tk × List Rl)
  | .error q => .error (q, 2)
  | .ok (al, rs) => if (meets (0, 0) (faults al rs)).2 ≠ 0 then .error (meets (0, 0) (faults al rs)) else if 16 < nodesL rs then .error (n, 4) else .ok (al, rs)
/-- A model, or the place and the error of its fault. -/
def readM (s : ByteArray) : Except (Nat × Nat) (List Tk × List Rl) := if 400 < s.size then .error (0, 1) else rdOf s.size (modelRead (lexR s (s.size + 1) 0))

theorem dups_append (a : Tk) : ∀ p q : List Tk, dups (p ++ q) a = dups p a ++ dups q a
  | [], q => rfl
  | t :: r, q => by rw [List.cons_append, dups, dups, dups_append a r q, List.append_assoc]
theorem dropTl {α : Type} {l : List α} {k : Nat} {x : α} {r : List α} (h : l.drop k = x :: r) : l.drop (k + 1) = r := by
  have := congrArg List.tail h
  simpa using this
theorem take_snoc {α : Type} {l : List α} {k : Nat} {x : α} {r : List α} (h : l.drop k = x :: r) : l.take (k + 1) = l.take k ++ [x] := by
  rw [List.take_add_one]
  have : l[k]? = some x := by
    have := congrArg (fun l => l[0]?) h
    simpa using this
  rw [this]; rfl

/-- Every error of these is some. -/
def Errs (l : List (Nat × Nat)) : Prop := ∀ f ∈ l, f.2 ≠ 0
theorem Errs.append {l m : List (Nat × Nat)} (h : Errs l) (k : Errs m) : Errs (l ++ m) := fun f hf => (List.mem_append.1 hf).elim (h f) (k f)
theorem Errs.nil : Errs [] := fun _ h => (List.not_mem_nil h).elim
theorem Errs.ite {p : Prop} [Decidable p] {l m : List (Nat × Nat)} (h : Errs l) (k : Errs m) : Errs (if p then l else m) := by split <;> assumption
theorem Errs.one {a b : Nat} (h : b ≠ 0) : Errs [(a, b)] := fun f hf => by rw [List.mem_singleton] at hf; subst hf; exact h
theorem meet_ne (x : Nat × Nat) (p e : Nat) (he : e ≠ 0) : (meet x p e).2 ≠ 0 := by
  unfold meet; split
  · exact he
  · rename_i h; intro h'; exact h (Or.inl h')
theorem meets_ne : ∀ (l : List (Nat × Nat)) (x : Nat × Nat), Errs l → x.2 ≠ 0 → (meets x l).2 ≠ 0
  | [], _, _, h => h
  | f :: l, x, he, _ => meets_ne l _ (fun g hg => he g (List.mem_cons_of_mem _ hg)) (meet_ne x _ _ (he f List.mem_cons_self))
theorem meets_zero {l : List (Nat × Nat)} (he : Errs l) (h : (meets (0, 0) l).2 = 0) : l = [] := by
  cases l with
  | nil => rfl
  | cons f l => exact absurd h (meets_ne l _ (fun g hg => he g (List.mem_cons_of_mem _ hg)) (meet_ne _ _ _ (he f List.mem_cons_self)))

theorem fName_errs (al : List Tk) (s : ByteArray) (p : Nat) : Errs (fName al s p) := (Errs.ite (Errs.one (by decide)) Errs.nil).append (Errs.ite Errs.nil (Errs.one (by decide)))
theorem fFm_errs (al : List Tk) : ∀ f, Errs (fFm al f)
  | .nil => Errs.nil
  | .node _ _ _ l r => (Errs.ite (fName_errs al _ _) Errs.nil).append ((fFm_errs al l).append (fFm_errs al r))
theorem fArgs_errs (al : List Tk) : ∀ (k : List UInt8) (l : List Tk), Errs (fArgs al k l)
  | _, [] => by rw [fArgs]; exact Errs.nil
  | k, t :: r => by rw [fArgs]; exact ((Errs.ite (fName_errs al _ _) Errs.nil).append (Errs.ite (Errs.one (by decide)) Errs.nil)).append (fArgs_errs al _ r)
theorem fCall_errs (al : List Tk) (r : Rl) : Errs (fCall al r) := (Errs.ite (Errs.one (by decide)) Errs.nil).append ((Errs.ite Errs.nil (Errs.one (by decide))).append ((fArgs_errs al _ _).append (Errs.ite (Errs.one (by decide)) Errs.nil)))
theorem dups_errs (a : Tk) : ∀ l, Errs (dups l a)
  | [] => Errs.nil
  | _ :: r => (Errs.ite (Errs.one (by decide)) Errs.nil).append (dups_errs a r)
theorem fActs_errs (al : List Tk) : ∀ i l, Errs (fActs al i l)
  | _, [] => Errs.nil
  | i, a :: r => ((Errs.ite (Errs.one (by decide)) Errs.nil).append ((dups_errs a _).append (Errs.ite (Errs.one (by decide)) Errs.nil))).append (fActs_errs al (i + 1) r)
theorem fRules_errs (al : List Tk) : ∀ i l, Errs (fRules al i l)
  | _, [] => Errs.nil
  | i, r :: l => ((Errs.ite (Errs.one (by decide)) Errs.nil).append ((fFm_errs al _).append (Errs.ite (fCall_errs al r) Errs.nil))).append (fRules_errs al (i + 1) l)
theorem faults_errs (al : List Tk) (rs : List Rl) : Errs (faults al rs) := (fActs_errs al _ _).append (fRules_errs al _ _)

theorem fRules_nil {al : List Tk} : ∀ {i : Nat} {rs : List Rl}, fRules al i rs = [] → ∀ r ∈ rs, fFm al r.f = [] ∧ (r.call = true → fCall al r = [])
  | _, [], _, r, hr => (List.not_mem_nil hr).elim
  | i, x :: l, h, r, hr => by
    rw [fRules, fRule] at h
    obtain ⟨h1, h2⟩ := List.append_eq_nil_iff.1 h
    obtain ⟨h3, h4⟩ := List.append_eq_nil_iff.1 h1
    obtain ⟨h5, h6⟩ := List.append_eq_nil_iff.1 h4
    rcases List.mem_cons.1 hr with rfl | hr
    · exact ⟨h5, fun hc => by rw [if_pos hc] at h6; exact h6⟩
    · exact fRules_nil h2 r hr

theorem dig_ok {t : Tk} (h : TkOk t) (hk : t.k = 3) : ∃ c : UInt8, t.s = ⟨#[c]⟩ ∧ 48 ≤ c.toNat ∧ c.toNat ≤ 57 := by
  obtain ⟨c, hc, h1⟩ := h.2.2.1 hk
  refine ⟨c, ?_, h1⟩
  cases hs : t.s with
  | mk d => rw [hs] at hc; have : d = #[c] := by rw [← Array.toList_inj]; exact hc
            rw [this]

theorem takes_len {n : Nat} (h : n ≤ 11) : (tplTakes n = [110] ∧ n ≤ 1) ∨ (tplTakes n = [110, 100] ∧ 2 ≤ n ∧ n ≤ 3) ∨ (tplTakes n = [110, 110] ∧ 4 ≤ n) := by
  unfold tplTakes
  split
  · exact Or.inl ⟨rfl, by assumption⟩
  · split
    · exact Or.inr (Or.inl ⟨rfl, by omega, by assumption⟩)
    · exact Or.inr (Or.inr ⟨rfl, by omega⟩)
theorem call_ok {al : List Tk} {Q : Tk → Prop} {m : Nat} {r : Rl} (hQ : ∀ t, Q t → TkOk t) (hg : RlGood Q m r) (hc : r.call = true) (h : fCall al r = []) : CallOk r := by
  rcases hg with ⟨_, _, _, _, x, hx, hxk, hargs⟩ | ⟨h1, _⟩
  · unfold fCall at h
    obtain ⟨_, h2⟩ := List.append_eq_nil_iff.1 h
    obtain ⟨h3, h4⟩ := List.append_eq_nil_iff.1 h2
    obtain ⟨h5, h6⟩ := List.append_eq_nil_iff.1 h4
    have hn : tplNo r.word.s.toList ≤ 11 := by
      rcases Nat.lt_or_ge 11 (tplNo r.word.s.toList) with hh | hh
      · rw [if_neg (by omega)] at h3; cases h3
      · exact hh
    have hlen : ¬ r.args.length < (tplTakes (tplNo r.word.s.toList)).length := by
      intro hh; rw [if_pos hh] at h6; cases h6
    have hbad : ∀ {ks : List UInt8} {t : Tk} {l : List Tk}, fArgs al ks (t :: l) = [] → badArg ks t = false ∧ fArgs al ks.tail l = [] := by
      intro ks t l he
      rw [fArgs, fArg] at he
      obtain ⟨e1, e2⟩ := List.append_eq_nil_iff.1 he
      obtain ⟨_, e3⟩ := List.append_eq_nil_iff.1 e1
      refine ⟨?_, e2⟩
      cases hb : badArg ks t with
      | false => rfl
      | true => rw [if_pos hb] at e3; cases e3
    rcases takes_len hn with ⟨ht, hk⟩ | ⟨ht, hk⟩ | ⟨ht, hk⟩
    · rcases hargs with ha | ⟨y, hy, hyk, ha⟩
      · exact Or.inl ⟨hk, x, ha⟩
      · rw [ha, ht] at h5
        have := hbad (hbad h5).2
        exact absurd this.1 (by simp [badArg])
    · rcases hargs with ha | ⟨y, hy, hyk, ha⟩
      · rw [ha, ht] at hlen; exact absurd (by simp) hlen
      · rw [ha, ht] at h5
        have hb := (hbad (hbad h5).2).1
        rcases hyk with hyk | hyk
        · simp [badArg, hyk] at hb
        · obtain ⟨c, hc1, hc2, hc3⟩ := dig_ok (hQ y hy) hyk
          simp [badArg, hyk, hc1] at hb
          exact Or.inr (Or.inl ⟨hk.1, hk.2, x, y, ha, c, hc1, by omega, hc3⟩)
    · rcases hargs with ha | ⟨y, hy, hyk, ha⟩
      · rw [ha, ht] at hlen; exact absurd (by simp) hlen
      · exact Or.inr (Or.inr ⟨hk, hn, x, y, ha⟩)
  · rw [h1] at hc; cases hc

theorem timesF_size (a : ByteArray) : ∀ n, sizeF (timesF a n) ≤ 2 + 4 * n
  | 0 => by show 1 + (1 + 0 + 0) + 0 ≤ 2; omega
  | 1 => by show 1 + (1 + 0 + 0) + 0 ≤ 6; omega
  | n + 2 => by
    have := timesF_size a (n + 1)
    show 1 + (1 + (1 + 0 + 0) + (1 + sizeF (timesF a (n + 1)) + 0)) + 0 ≤ _
    omega
theorem tplF_size (k : Nat) (a b : ByteArray) (n : Nat) : sizeF (tplF k a b n) ≤ 12 + 4 * n := by
  have := timesF_size a n
  unfold tplF
  split
  · show 1 + 0 + 0 ≤ _; omega
  split
  · show 1 + (1 + (1 + 0 + 0) + (1 + (1 + (1 + 0 + 0) + 0) + 0)) + 0 ≤ _; omega
  split
  · omega
  split
  · show 1 + sizeF (timesF a n) + 0 ≤ _; omega
  repeat' split
  all_goals (simp only [sizeF_two, sizeF_one, acF, sizeF_leaf]; omega)
theorem ruleF_size {Q : Tk → Prop} {m : Nat} {r : Rl} (hg : RlGood Q m r) (hok : r.call = true → CallOk r) : sizeF (ruleF r) ≤ 48 + m := by
  unfold ruleF
  rcases hg with ⟨hc, _⟩ | ⟨h1, _, h3, _⟩
  · rw [if_pos hc]
    have h1 := tplF_size (tplNo r.word.s.toList) (argS r.args 0) (argS r.args 1) (digitN (argS r.args 1))
    rcases hok hc with ⟨hk, x, ha⟩ | ⟨hk, hk2, x, y, ha, c, hc1, hc2, hc3⟩ | ⟨hk, hk2, x, y, ha⟩
    · have : digitN (argS r.args 1) = 0 := by rw [ha]; rfl
      omega
    · have : digitN (argS r.args 1) ≤ 9 := by rw [ha]; show digitN y.s ≤ 9; rw [hc1]; show c.toNat - 48 ≤ 9; omega
      omega
    · have h2 : sizeF (tplF (tplNo r.word.s.toList) (argS r.args 0) (argS r.args 1) (digitN (argS r.args 1))) ≤ 12 := by
        unfold tplF
        rw [if_neg (by omega), if_neg (by omega), if_neg (by omega), if_neg (by omega)]
        repeat' split
        all_goals (simp only [sizeF_two, sizeF_one, acF, sizeF_leaf]; omega)
      omega
  · rw [if_neg (by simp [h1])]; omega
end Go.Proofs.YtoclbcffbhldmaaGreatDoor
