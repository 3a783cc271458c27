/- Plain mathematics: the faults of a model come in the order of its text, so that the first one counts; the faults as the program tells them have the same first one. No program in it. -/
import Derived.Test.YtidakhhekofkoaaGreatDoorZ19
import Derived.Test.YtidakhhekofkoaaGreatDoorZ10
set_option linter.unusedSimpArgs false
namespace Go.Proofs.YtidakhhekofkoaaGreatDoor
open Go.Deep
def lvs : Fm → List Tk
 | .nil => []
 | .node _ _ a l r => (if a.1 = 0 then [⟨2, a.2.1, a.2.2⟩] else []) ++ (lvs l ++ lvs r)
theorem lvs_one {k : Nat} (hk : k ≠ 0) (f : Fm) : lvs (one k f) = lvs f := by
 show (if k = 0 then _ else []) ++ (lvs f ++ []) = lvs f
 rw [if_neg hk, List.append_nil]; rfl
theorem lvs_two {k : Nat} (hk : k ≠ 0) (f g : Fm) : lvs (two k f g) = lvs f ++ lvs g := by
 show (if k = 0 then _ else []) ++ (lvs f ++ lvs g) = _
 rw [if_neg hk]; rfl
theorem lvs_leaf {k : Nat} (hk : k ≠ 0) (s : ByteArray) (p : Nat) : lvs (leaf k s p) = [] := by
 show (if k = 0 then _ else []) ++ ([] ++ []) = []
 rw [if_neg hk]; rfl
theorem lvs_name (s : ByteArray) (p : Nat) : lvs (leaf 0 s p) = [⟨2, s, p⟩] := rfl
theorem fFm_lvs (al : List Tk) : ∀ f, fFm al f = (lvs f).flatMap (fun t => fName al t.s t.p)
 | .nil => rfl
 | .node _ _ a l r => by
  rw [fFm, lvs, List.flatMap_append, List.flatMap_append, ← fFm_lvs al l, ← fFm_lvs al r]
  congr 1
  split
  ·simp
  ·rfl
theorem sub_tail {α : Type} (l : List α) : l.tail.Sublist l := List.tail_sublist l
theorem sub_join {α : Type} {m m2 l l1 l2 : List α} (h : (m ++ l1).Sublist l) (h2 : (m2 ++ l2).Sublist l1) : ((m ++ m2) ++ l2).Sublist l := by
 rw [List.append_assoc]; exact (List.Sublist.append (List.Sublist.refl m) h2).trans h
theorem sub_weak {α : Type} {m l l1 l2 : List α} (h : (m ++ l1).Sublist l) (h2 : l2.Sublist l1) : (m ++ l2).Sublist l := (List.Sublist.append (List.Sublist.refl m) h2).trans h
theorem pf_lvs : ∀ n lev f l f' l', pf n lev f l = .ok (f', l') → lev ≤ 6 → ∃ ms, lvs f' = (if 5 ≤ lev then lvs f else []) ++ ms ∧ (ms ++ l').Sublist l
 | 0, _, _, _, _, _, h, _ => by simp [pf] at h
 | n + 1, 0, f, l, f', l', h, _ => by
  rw [pf] at h
  split at h
  ·cases h
  ·rename_i a l1 e
   obtain ⟨m1, e1, s1⟩ := pf_lvs n 1 .nil l a l1 e (by omega)
   split at h
   ·split at h
    ·cases h
    ·rename_i b l2 e2
     obtain ⟨m2, g2, s2⟩ := pf_lvs n 0 .nil l1.tail b l2 e2 (by omega)
     cases h
     exact ⟨m1 ++ m2, by rw [lvs_two (by decide), e1, g2]; rfl, sub_join s1 (s2.trans (sub_tail _))⟩
   ·cases h; exact ⟨m1, e1, s1⟩
 | n + 1, 1, f, l, f', l', h, _ => by
  rw [pf] at h
  split at h
  ·cases h
  ·rename_i a l1 e
   obtain ⟨m1, e1, s1⟩ := pf_lvs n 2 .nil l a l1 e (by omega)
   obtain ⟨m2, e2, s2⟩ := pf_lvs n 5 a l1 f' l' h (by omega)
   exact ⟨m1 ++ m2, by rw [e2, if_pos (by decide), e1]; rfl, sub_join s1 s2⟩
 | n + 1, 2, f, l, f', l', h, _ => by
  rw [pf] at h
  split at h
  ·cases h
  ·rename_i a l1 e
   obtain ⟨m1, e1, s1⟩ := pf_lvs n 3 .nil l a l1 e (by omega)
   obtain ⟨m2, e2, s2⟩ := pf_lvs n 6 a l1 f' l' h (by omega)
   exact ⟨m1 ++ m2, by rw [e2, if_pos (by decide), e1]; rfl, sub_join s1 s2⟩
 | n + 1, 3, f, l, f', l', h, _ => by
  rw [pf] at h
  split at h
  ·cases h
  ·rename_i a l1 e
   obtain ⟨m1, e1, s1⟩ := pf_lvs n 4 .nil l a l1 e (by omega)
   split at h
   ·split at h
    ·cases h
    ·rename_i b l2 e2
     obtain ⟨m2, g2, s2⟩ := pf_lvs n 4 .nil l1.tail b l2 e2 (by omega)
     cases h
     exact ⟨m1 ++ m2, by rw [lvs_two (by decide), e1, g2]; rfl, sub_join s1 (s2.trans (sub_tail _))⟩
   ·cases h; exact ⟨m1, e1, s1⟩
 | n + 1, 4, f, l, f', l', h, _ => by
  rw [pf] at h
  split at h
  ·rename_i hop
   split at h
   ·cases h
   ·rename_i a l1 e
    obtain ⟨m1, e1, s1⟩ := pf_lvs n 4 .nil l.tail a l1 e (by omega)
    cases h
    exact ⟨m1, by rw [lvs_one hop, e1]; rfl, s1.trans (sub_tail _)⟩
  ·split at h
   ·split at h
    ·cases h
    ·rename_i a l1 e
     obtain ⟨m1, e1, s1⟩ := pf_lvs n 0 .nil l.tail a l1 e (by omega)
     split at h
     ·cases h; exact ⟨m1, e1, sub_weak (s1.trans (sub_tail _)) (sub_tail _)⟩
     ·cases h
   ·split at h
    ·rename_i hw
     cases h; exact ⟨[], by rw [lvs_leaf (by omega)]; rfl, sub_tail _⟩
    ·split at h
     ·rename_i hk
      cases h
      obtain ⟨t, r, hl, ht⟩ := headK_ne hk (by decide)
      subst hl
      refine ⟨[t], ?_, List.Sublist.refl _⟩
      rw [lvs_name]
      cases t with
      | mk k s p => cases ht; rfl
     ·cases h
 | n + 1, 5, f, l, f', l', h, _ => by
  rw [pf] at h
  split at h
  ·split at h
   ·cases h
   ·rename_i b l1 e
    obtain ⟨m1, e1, s1⟩ := pf_lvs n 2 .nil l.tail b l1 e (by omega)
    obtain ⟨m2, e2, s2⟩ := pf_lvs n 5 _ l1 f' l' h (by omega)
    exact ⟨m1 ++ m2, by rw [e2, if_pos (by decide), lvs_two (by decide), e1, if_neg (by decide)]; simp, (sub_join s1 s2).trans (sub_tail _)⟩
  ·cases h; exact ⟨[], by simp, List.Sublist.refl _⟩
 | n + 1, 6, f, l, f', l', h, _ => by
  rw [pf] at h
  split at h
  ·split at h
   ·cases h
   ·rename_i b l1 e
    obtain ⟨m1, e1, s1⟩ := pf_lvs n 3 .nil l.tail b l1 e (by omega)
    obtain ⟨m2, e2, s2⟩ := pf_lvs n 6 _ l1 f' l' h (by omega)
    exact ⟨m1 ++ m2, by rw [e2, if_pos (by decide), lvs_two (by decide), e1, if_neg (by decide)]; simp, (sub_join s1 s2).trans (sub_tail _)⟩
  ·cases h; exact ⟨[], by simp, List.Sublist.refl _⟩
 | n + 1, k + 7, f, l, f', l', h, hl => by omega
def rlPl (r : Rl) : List Nat := if r.call = true then r.word.p :: (r.args.map Tk.p ++ [r.fin]) else (lvs r.f).map Tk.p
theorem subP {a b : List Tk} (h : a.Sublist b) : (a.map Tk.p).Sublist (b.map Tk.p) := h.map _
theorem head_split' {l : List Tk} {k : Nat} (h : headK l = k) (hk : k ≠ 0) : l.map Tk.p = headP l :: l.tail.map Tk.p := by
 obtain ⟨t, r, rfl, _⟩ := headK_ne h hk; rfl
theorem headT_p (l : List Tk) : (headT l).p = headP l := by cases l <;> rfl
theorem ruleRead_sub {l : List Tk} {r : Rl} {l' : List Tk} (h : ruleRead l = .ok (r, l')) : (rlPl r ++ l'.map Tk.p).Sublist (l.map Tk.p) := by
 unfold ruleRead at h
 split at h
 ·rename_i h1
  obtain ⟨h1, h2⟩ := h1
  split at h
  ·rename_i h3
   split at h
   ·rename_i h4
    split at h
    ·rename_i h5
     split at h
     ·rename_i h6
      cases h
      unfold rlPl
      rw [if_pos rfl, head_split' h1 (by decide), head_split' h2 (by decide), head_split' h3 (by decide), head_split' h4 (by decide)]
      have h7 : l.tail.tail.tail.tail.map Tk.p = headP l.tail.tail.tail.tail :: l.tail.tail.tail.tail.tail.map Tk.p := by
       rcases h5 with h5 | h5 <;> exact head_split' h5 (by decide)
      rw [head_split' h6 (by decide)] at h7
      simp only [List.map_cons, List.map_nil, headT_p, List.cons_append, List.nil_append]
      refine List.Sublist.cons_cons _ (List.Sublist.cons _ (List.Sublist.cons_cons _ (List.Sublist.cons _ ?_)))
      rw [h7]
      exact List.Sublist.refl _
     ·cases h
    ·cases h
   ·split at h
    ·rename_i h4
     cases h
     unfold rlPl
     rw [if_pos rfl, head_split' h1 (by decide), head_split' h2 (by decide), head_split' h3 (by decide), head_split' h4 (by decide)]
     simp only [List.map_cons, List.map_nil, headT_p, List.cons_append, List.nil_append]
     exact List.Sublist.cons_cons _ (List.Sublist.cons _ (List.Sublist.refl _))
    ·cases h
  ·cases h
 ·split at h
  ·cases h
  ·rename_i f l1 e
   cases h
   obtain ⟨ms, e1, s1⟩ := pf_lvs _ _ _ _ _ _ e (by omega)
   have : lvs f = ms := by rw [e1]; rfl
   unfold rlPl
   rw [if_neg (by intro h; cases h), this, ← List.map_append]
   exact subP s1
theorem actsRead_sub : ∀ n l ts l', actsRead n l = .ok (ts, l') → (ts.map Tk.p ++ l'.map Tk.p).Sublist (l.map Tk.p)
 | 0, _, _, _, h => by simp [actsRead] at h
 | n + 1, l, ts, l', h => by
  rw [actsRead] at h
  split at h
  ·rename_i h1
   split at h
   ·rename_i h2
    split at h
    ·cases h
    ·rename_i ts1 l1 e
     cases h
     have := actsRead_sub n _ _ _ e
     rw [head_split' h1 (by decide), List.map_cons, headT_p, List.cons_append]
     exact List.Sublist.cons_cons _ (this.trans (subP (sub_tail _)))
   ·cases h
    rw [head_split' h1 (by decide), List.map_cons, headT_p]
    exact List.Sublist.refl _
  ·cases h
theorem rulesRead_sub : ∀ n l rs, rulesRead n l = .ok rs → (rs.flatMap (fun r => r.pl :: rlPl r)).Sublist (l.map Tk.p)
 | 0, _, _, h => by simp [rulesRead] at h
 | n + 1, l, rs, h => by
  rw [rulesRead] at h
  split at h
  ·cases h; exact List.nil_sublist _
  ·split at h
   ·rename_i h1
    split at h
    ·cases h
    ·rename_i r l1 e
     split at h
     ·split at h
      ·cases h
      ·rename_i rs1 e2
       cases h
       have h3 := ruleRead_sub e
       have h4 := rulesRead_sub n _ _ e2
       rw [head_split' h1 (by decide), List.flatMap_cons, List.cons_append]
       refine List.Sublist.cons_cons _ ((List.Sublist.append (List.Sublist.refl _) (h4.trans (subP (sub_tail _)))).trans ?_)
       exact h3
     ·cases h
   ·cases h
theorem modelRead_sub {l al : List Tk} {rs : List Rl} (h : modelRead l = .ok (al, rs)) : (al.map Tk.p ++ rs.flatMap (fun r => r.pl :: rlPl r)).Sublist (l.map Tk.p) := by
 unfold modelRead at h
 split at h
 ·split at h
  ·cases h
  ·rename_i al1 l1 e
   split at h
   ·split at h
    ·cases h
    ·rename_i rs1 e2
     cases h
     have h1 := actsRead_sub _ _ _ _ e
     have h2 := rulesRead_sub _ _ _ e2
     exact (List.Sublist.append (List.Sublist.refl _) (h2.trans (subP (sub_tail _)))).trans (h1.trans (subP (sub_tail _)))
   ·cases h
 ·cases h
theorem lexR_up (s : ByteArray) : ∀ n i, i ≤ s.size → (∀ t ∈ lexR s n i, i ≤ t.p) ∧ ((lexR s n i).map Tk.p).Pairwise (· < ·)
 | 0, i, _ => ⟨fun _ h => by simp [lexR] at h, List.Pairwise.nil⟩
 | n + 1, i, hi => by
  have h1 := upTo_le isBl s i hi
  have h2 := lexAt_p s _ h1
  have h0 := upTo_ge isBl s i
  by_cases hk : (lexAt s (upTo isBl s i)).k ≤ 1
  ·rw [lexR_stop s n i hk]
   exact ⟨fun t ht => by rw [List.mem_singleton] at ht; subst ht; omega, List.pairwise_singleton _ _⟩
  ·rw [lexR_go s n i hk]
   have ha := lex_adv s i hi hk
   have h4 := lexAt_pos s _ h1 (by omega)
   obtain ⟨i1, i2⟩ := lexR_up s n _ ha.2
   refine ⟨fun t ht => ?_, ?_⟩
   ·rcases List.mem_cons.1 ht with rfl | ht
    ·omega
    ·have := i1 t ht; omega
   ·rw [List.map_cons]
    refine List.Pairwise.cons (fun p hp => ?_) i2
    obtain ⟨t, ht, rfl⟩ := List.mem_map.1 hp
    have := i1 t ht; omega
def Blk (p lo hi : Nat) (l : List (Nat × Nat)) : Prop := (∀ f ∈ l, f.1 = p ∧ lo ≤ f.2 ∧ f.2 ≤ hi) ∧ l.Pairwise (fun f g => f.2 ≤ g.2)
theorem Blk.nil (p lo hi : Nat) : Blk p lo hi [] := ⟨fun _ h => (List.not_mem_nil h).elim, List.Pairwise.nil⟩
theorem Blk.one {p lo hi e : Nat} (h : lo ≤ e) (h' : e ≤ hi) : Blk p lo hi [(p, e)] := ⟨fun f hf => by rw [List.mem_singleton] at hf; subst hf; exact ⟨rfl, h, h'⟩, List.pairwise_singleton _ _⟩
theorem Blk.ite {p lo hi : Nat} {c : Prop} [Decidable c] {l m : List (Nat × Nat)} (h : Blk p lo hi l) (k : Blk p lo hi m) : Blk p lo hi (if c then l else m) := by split <;> assumption
theorem Blk.append {p lo mid mid' hi : Nat} {l m : List (Nat × Nat)} (h : Blk p lo mid l) (k : Blk p mid' hi m) (hm : mid ≤ mid') (hlo : lo ≤ mid') (hhi : mid ≤ hi) : Blk p lo hi (l ++ m) := by
 refine ⟨fun f hf => ?_, List.pairwise_append.2 ⟨h.2, k.2, fun a ha b hb => ?_⟩⟩
 ·rcases List.mem_append.1 hf with hf | hf
  ·have := h.1 f hf; exact ⟨this.1, this.2.1, by omega⟩
  ·have := k.1 f hf; exact ⟨this.1, by omega, this.2.2⟩
 ·have h1 := h.1 a ha; have h2 := k.1 b hb; omega
def Cov : List Nat → List (Nat × Nat) → Prop
 | [], l => l = []
 | p :: ps, l => ∃ a b, l = a ++ b ∧ (∃ lo hi, Blk p lo hi a) ∧ Cov ps b
theorem Cov.append : ∀ {ps qs : List Nat} {l m : List (Nat × Nat)}, Cov ps l → Cov qs m → Cov (ps ++ qs) (l ++ m)
 | [], _, l, m, h, k => by cases h; exact k
 | p :: ps, qs, l, m, ⟨a, b, e, h1, h2⟩, k => ⟨a, b ++ m, by rw [e, List.append_assoc], h1, Cov.append h2 k⟩
theorem Cov.one {p lo hi : Nat} {l : List (Nat × Nat)} (h : Blk p lo hi l) : Cov [p] l := ⟨l, [], by simp, ⟨lo, hi, h⟩, rfl⟩
theorem Cov.cons {p lo hi : Nat} {ps : List Nat} {l m : List (Nat × Nat)} (h : Blk p lo hi l) (k : Cov ps m) : Cov (p :: ps) (l ++ m) := ⟨l, m, rfl, ⟨lo, hi, h⟩, k⟩
def Srt (l : List (Nat × Nat)) : Prop := l.Pairwise (fun f g => f.1 < g.1 ∨ (f.1 = g.1 ∧ f.2 ≤ g.2))
theorem Cov.mem : ∀ {ps : List Nat} {l : List (Nat × Nat)}, Cov ps l → ∀ f ∈ l, f.1 ∈ ps
 | [], _, h, f, hf => by cases h; exact (List.not_mem_nil hf).elim
 | p :: ps, l, ⟨a, b, e, ⟨lo, hi, h1⟩, h2⟩, f, hf => by
  rw [e] at hf
  rcases List.mem_append.1 hf with hf | hf
  ·rw [(h1.1 f hf).1]; exact List.mem_cons_self
  ·exact List.mem_cons_of_mem _ (Cov.mem h2 f hf)
theorem Cov.srt : ∀ {ps : List Nat} {l : List (Nat × Nat)}, Cov ps l → ps.Pairwise (· < ·) → Srt l
 | [], _, h, _ => by cases h; exact List.Pairwise.nil
 | p :: ps, l, ⟨a, b, e, ⟨lo, hi, h1⟩, h2⟩, hp => by
  rw [e]
  obtain ⟨hp1, hp2⟩ := List.pairwise_cons.1 hp
  refine List.pairwise_append.2 ⟨?_, Cov.srt h2 hp2, fun x hx y hy => Or.inl ?_⟩
  ·exact h1.2.imp_of_mem (fun hx hy hxy => Or.inr ⟨by rw [(h1.1 _ hx).1, (h1.1 _ hy).1], hxy⟩)
  ·rw [(h1.1 x hx).1]; exact hp1 _ (Cov.mem h2 y hy)
theorem fName_blk (al : List Tk) (s : ByteArray) (p : Nat) : Blk p 1 3 (fName al s p) :=
 Blk.append (mid := 1) (mid' := 3) (Blk.ite (Blk.one (by omega) (by omega)) (Blk.nil _ _ _)) (Blk.ite (Blk.nil _ _ _) (Blk.one (by omega) (by omega))) (by omega) (by omega) (by omega)
theorem dups_blk (a : Tk) : ∀ l, Blk a.p 3 3 (dups l a)
 | [] => Blk.nil _ _ _
 | _ :: r => Blk.append (mid := 3) (mid' := 3) (Blk.ite (Blk.one (by omega) (by omega)) (Blk.nil _ _ _)) (dups_blk a r) (by omega) (by omega) (by omega)
theorem fAct_blk (pre : List Tk) (i : Nat) (a : Tk) : Blk a.p 1 4 (fAct pre i a) :=
 Blk.append (mid := 1) (mid' := 3) (Blk.ite (Blk.one (by omega) (by omega)) (Blk.nil _ _ _)) (Blk.append (mid := 3) (mid' := 4) (dups_blk a pre) (Blk.ite (Blk.one (by omega) (by omega)) (Blk.nil _ _ _)) (by omega) (by omega) (by omega)) (by omega) (by omega) (by omega)
theorem fActs_cov (al : List Tk) : ∀ i l, Cov (l.map Tk.p) (fActs al i l)
 | _, [] => rfl
 | i, a :: r => Cov.cons (fAct_blk _ i a) (fActs_cov al (i + 1) r)
theorem fArg_blk (al : List Tk) (ks : List UInt8) (t : Tk) : Blk t.p 1 4 (fArg al ks t) :=
 Blk.append (mid := 3) (mid' := 4) (Blk.ite (fName_blk al _ _) (Blk.nil _ _ _)) (Blk.ite (Blk.one (by omega) (by omega)) (Blk.nil _ _ _)) (by omega) (by omega) (by omega)
theorem fArgs_cov (al : List Tk) : ∀ (ks : List UInt8) (l : List Tk), Cov (l.map Tk.p) (fArgs al ks l)
 | _, [] => by rw [fArgs]; exact rfl
 | ks, t :: r => by rw [fArgs]; exact Cov.cons (fArg_blk al ks t) (fArgs_cov al _ r)
theorem names_cov (al : List Tk) : ∀ l : List Tk, Cov (l.map Tk.p) (l.flatMap (fun t => fName al t.s t.p))
 | [] => rfl
 | _ :: r => Cov.cons (fName_blk al _ _) (names_cov al r)
theorem fCall_cov (al : List Tk) (r : Rl) : Cov (r.word.p :: (r.args.map Tk.p ++ [r.fin])) (fCall al r) := by
 unfold fCall
 rw [← List.append_assoc]
 refine Cov.cons (lo := 1) (hi := 3) (Blk.append (mid := 1) (mid' := 3) (Blk.ite (Blk.one (by omega) (by omega)) (Blk.nil _ _ _)) (Blk.ite (Blk.nil _ _ _) (Blk.one (by omega) (by omega))) (by omega) (by omega) (by omega)) ?_
 exact Cov.append (fArgs_cov al _ _) (Cov.one (lo := 4) (hi := 4) (Blk.ite (Blk.one (by omega) (by omega)) (Blk.nil _ _ _)))
def RlF (r : Rl) : Prop := r.call = true → r.f = .nil
theorem fRule_cov (al : List Tk) (i : Nat) (r : Rl) (h : RlF r) : Cov (r.pl :: rlPl r) (fRule al i r) := by
 unfold fRule
 refine Cov.cons (lo := 4) (hi := 4) (Blk.ite (Blk.one (by omega) (by omega)) (Blk.nil _ _ _)) ?_
 unfold rlPl
 by_cases hc : r.call = true
 ·rw [if_pos hc, if_pos hc, h hc]; exact fCall_cov al r
 ·rw [if_neg hc, if_neg hc, List.append_nil, fFm_lvs]; exact names_cov al _
theorem fRules_cov (al : List Tk) : ∀ i (rs : List Rl), (∀ r ∈ rs, RlF r) → Cov (rs.flatMap (fun r => r.pl :: rlPl r)) (fRules al i rs)
 | _, [], _ => rfl
 | i, r :: l, h => by
  rw [List.flatMap_cons, fRules]
  exact Cov.append (fRule_cov al i r (h r List.mem_cons_self)) (fRules_cov al (i + 1) l (fun x hx => h x (List.mem_cons_of_mem _ hx)))
theorem faults_srt {l al : List Tk} {rs : List Rl} (h : modelRead l = .ok (al, rs)) (hu : (l.map Tk.p).Pairwise (· < ·)) (hf : ∀ r ∈ rs, RlF r) : Srt (faults al rs) :=
 Cov.srt (Cov.append (fActs_cov al 0 al) (fRules_cov al 0 rs hf)) (List.Pairwise.sublist (modelRead_sub h) hu)
def tell (x : Nat × Nat) (p e : Nat) : Nat × Nat := if x.2 = 0 ∨ p < x.1 then (p, e) else x
def tells (x : Nat × Nat) (l : List (Nat × Nat)) : Nat × Nat := l.foldl (fun x f => tell x f.1 f.2) x
theorem tells_append (x : Nat × Nat) (l m : List (Nat × Nat)) : tells x (l ++ m) = tells (tells x l) m := List.foldl_append
theorem tells_keep {x : Nat × Nat} (hx : x.2 ≠ 0) : ∀ {l : List (Nat × Nat)}, (∀ f ∈ l, x.1 ≤ f.1) → tells x l = x
 | [], _ => rfl
 | f :: l, h => by
  have h1 := h f List.mem_cons_self
  show tells (tell x f.1 f.2) l = x
  have : tell x f.1 f.2 = x := if_neg (by omega)
  rw [this]
  exact tells_keep hx (fun g hg => h g (List.mem_cons_of_mem _ hg))
theorem meets_keep {x : Nat × Nat} (hx : x.2 ≠ 0) : ∀ {l : List (Nat × Nat)}, (∀ f ∈ l, x.1 < f.1 ∨ (x.1 = f.1 ∧ x.2 ≤ f.2)) → meets x l = x
 | [], _ => rfl
 | f :: l, h => by
  have h1 := h f List.mem_cons_self
  show meets (meet x f.1 f.2) l = x
  have : meet x f.1 f.2 = x := if_neg (by omega)
  rw [this]
  exact meets_keep hx (fun g hg => h g (List.mem_cons_of_mem _ hg))
theorem tells_srt {l : List (Nat × Nat)} (h : Srt l) (he : Errs l) : tells (0, 0) l = (l.head?).getD (0, 0) := by
 cases l with
 | nil => rfl
 | cons f l =>
  show tells (tell (0, 0) f.1 f.2) l = f
  have : tell (0, 0) f.1 f.2 = f := if_pos (Or.inl rfl)
  rw [this]
  exact tells_keep (he f List.mem_cons_self) (fun g hg => by have := (List.pairwise_cons.1 h).1 g hg; omega)
theorem meets_srt {l : List (Nat × Nat)} (h : Srt l) (he : Errs l) : meets (0, 0) l = (l.head?).getD (0, 0) := by
 cases l with
 | nil => rfl
 | cons f l =>
  show meets (meet (0, 0) f.1 f.2) l = f
  have : meet (0, 0) f.1 f.2 = f := if_pos (Or.inl rfl)
  rw [this]
  exact meets_keep (he f List.mem_cons_self) (List.pairwise_cons.1 h).1
def pAct (pre : List Tk) (i : Nat) (a : Tk) : List (Nat × Nat) := fLong a ++ ((if hasN pre a.s = true then [(a.p, 3)] else []) ++ (if 6 ≤ i then [(a.p, 4)] else []))
def pActs (al : List Tk) : Nat → List Tk → List (Nat × Nat)
 | _, [] => []
 | i, a :: r => pAct (al.take i) i a ++ pActs al (i + 1) r
def pCall (al : List Tk) (r : Rl) : List (Nat × Nat) :=
 fLong r.word ++ (if tplNo r.word.s.toList ≤ 11 then fArgs al (tplTakes (tplNo r.word.s.toList)) r.args ++ (if r.args.length < (tplTakes (tplNo r.word.s.toList)).length then [(r.fin, 4)] else []) else [(r.word.p, 3)])
def pRule (al : List Tk) (i : Nat) (r : Rl) : List (Nat × Nat) := (if 4 ≤ i then [(r.pl, 4)] else []) ++ (if r.call = true then pCall al r else (lvs r.f).flatMap (fun t => fName al t.s t.p))
def pRules (al : List Tk) : Nat → List Rl → List (Nat × Nat)
 | _, [] => []
 | i, r :: l => pRule al i r ++ pRules al (i + 1) l
def pFaults (al : List Tk) (rs : List Rl) : List (Nat × Nat) := pActs al 0 al ++ pRules al 0 rs
def Hd (a b : List (Nat × Nat)) : Prop := a.Sublist b ∧ a.head? = b.head?
theorem Hd.refl (a : List (Nat × Nat)) : Hd a a := ⟨List.Sublist.refl _, rfl⟩
theorem Hd.append {a b c d : List (Nat × Nat)} (h : Hd a b) (k : Hd c d) : Hd (a ++ c) (b ++ d) := ⟨h.1.append k.1, by rw [List.head?_append, List.head?_append, h.2, k.2]⟩
theorem dups_hd (a : Tk) : ∀ l, Hd (if hasN l a.s = true then [(a.p, 3)] else []) (dups l a)
 | [] => Hd.refl _
 | t :: r => by
  rw [hasN, dups]
  by_cases h : t.s.toList = a.s.toList
  ·rw [if_pos h, if_pos h, if_pos rfl]
   exact ⟨List.Sublist.cons_cons _ (List.nil_sublist _), rfl⟩
  ·rw [if_neg h, if_neg h]; exact dups_hd a r
theorem pActs_hd (al : List Tk) : ∀ i l, Hd (pActs al i l) (fActs al i l)
 | _, [] => Hd.refl _
 | i, a :: r => Hd.append (Hd.append (Hd.refl _) (Hd.append (dups_hd a _) (Hd.refl _))) (pActs_hd al (i + 1) r)
theorem pCall_hd (al : List Tk) (r : Rl) : Hd (pCall al r) (fCall al r) := by
 unfold pCall fCall
 refine Hd.append (Hd.refl _) ?_
 by_cases h : tplNo r.word.s.toList ≤ 11
 ·rw [if_pos h, if_pos h]; exact Hd.refl _
 ·rw [if_neg h, if_neg h]; exact ⟨List.Sublist.cons_cons _ (List.nil_sublist _), rfl⟩
theorem pRule_hd (al : List Tk) (i : Nat) (r : Rl) (h : RlF r) : Hd (pRule al i r) (fRule al i r) := by
 unfold pRule fRule
 refine Hd.append (Hd.refl _) ?_
 by_cases hc : r.call = true
 ·rw [if_pos hc, if_pos hc, h hc]; exact pCall_hd al r
 ·rw [if_neg hc, if_neg hc, List.append_nil, fFm_lvs]; exact Hd.refl _
theorem pRules_hd (al : List Tk) : ∀ i (rs : List Rl), (∀ r ∈ rs, RlF r) → Hd (pRules al i rs) (fRules al i rs)
 | _, [], _ => Hd.refl _
 | i, r :: l, h => Hd.append (pRule_hd al i r (h r List.mem_cons_self)) (pRules_hd al (i + 1) l (fun x hx => h x (List.mem_cons_of_mem _ hx)))
theorem tells_eq {l al : List Tk} {rs : List Rl} (h : modelRead l = .ok (al, rs)) (hu : (l.map Tk.p).Pairwise (· < ·)) (hf : ∀ r ∈ rs, RlF r) : tells (0, 0) (pFaults al rs) = meets (0, 0) (faults al rs) := by
 have h1 : Hd (pFaults al rs) (faults al rs) := Hd.append (pActs_hd al 0 al) (pRules_hd al 0 rs hf)
 have h2 := faults_srt h hu hf
 have h3 := faults_errs al rs
 rw [tells_srt (List.Pairwise.sublist h1.1 h2) (fun f hf => h3 f (h1.1.subset hf)), meets_srt h2 h3, h1.2]
end Go.Proofs.YtidakhhekofkoaaGreatDoor
namespace Go.Proofs.YtidakhhekofkoaaGreatDoor
open Go.RowKit Go.Deep
theorem readM_err {s : ByteArray} {x : Nat × Nat} (h : readM s = .error x) : x.2 ≠ 0 := by
 unfold readM at h
 split at h
 ·cases h; exact (by decide : (1 : Nat) ≠ 0)
 ·cases hm : modelRead (lexR s (s.size + 1) 0) with
  | error q => rw [hm] at h; cases h; exact (by decide : (2 : Nat) ≠ 0)
  | ok m =>
   obtain ⟨al, rs⟩ := m
   rw [hm, rdOf] at h
   split at h
   ·rename_i h0; cases h; exact h0
   ·split at h
    ·cases h; exact (by decide : (4 : Nat) ≠ 0)
    ·cases h
structure MGood (al : List Tk) (rs : List Rl) : Prop where
 acts : ∀ t ∈ al, TkS t ∧ t.k = 2
 ne : al ≠ []
 alen : al.length ≤ 401
 rules : ∀ r ∈ rs, RlGood TkS 401 r
 rlen : rs.length ≤ 401
 nof : faults al rs = []
 nodes : nodesL rs ≤ 16
theorem readM_good {s : ByteArray} {al : List Tk} {rs : List Rl} (h : readM s = .ok (al, rs)) : MGood al rs := by
 unfold readM at h
 split at h
 ·cases h
 ·rename_i hs
  cases hm : modelRead (lexR s (s.size + 1) 0) with
  | error q => rw [hm] at h; cases h
  | ok m =>
   obtain ⟨al', rs'⟩ := m
   rw [hm, rdOf] at h
   split at h
   ·cases h
   ·rename_i h0
    split at h
    ·cases h
    ·rename_i h16
     cases h
     have hll : (lexR s (s.size + 1) 0).length ≤ 401 := by have := lexR_len s (s.size + 1) 0 (Nat.zero_le _); omega
     have hg := modelRead_good TkS _ _ _ hm (fun t ht => ⟨lexR_ok s _ _ t ht, by have := lexR_small s _ 0 (Nat.zero_le _) t ht; omega⟩)
     exact ⟨hg.1, hg.2.1, by have := hg.2.2.1; omega, fun r hr => (hg.2.2.2.1 r hr).mono hll, by have := hg.2.2.2.2; omega, meets_zero (faults_errs _ _) (by simpa using h0), by omega⟩
end Go.Proofs.YtidakhhekofkoaaGreatDoor
