/- Plain mathematics: what Print writes is read, written just so again, and keeps the same traces. -/
import Derived.Test.YtidakhhekofkoaaGreatDoorK26
import Derived.Test.YtidakhhekofkoaaGreatDoorK17
import Derived.Test.YtidakhhekofkoaaGreatDoorK25
set_option linter.unusedSimpArgs false
set_option maxRecDepth 100000
set_option linter.unusedVariables false
namespace Go.Proofs.YtidakhhekofkoaaGreatDoor.Rt
open Go.Deep
theorem FE.refl : ∀ f : Fm, FE f f
  | .nil => trivial
  | .node _ _ _ l r => ⟨rfl, fun _ => rfl, FE.refl l, FE.refl r⟩
theorem FE.size : ∀ {f g : Fm}, FE f g → sizeF f = sizeF g
  | .nil, .nil, _ => rfl
  | .node _ _ _ _ _, .node _ _ _ _ _, h => by show 1 + _ + _ = 1 + _ + _; rw [FE.size h.2.2.1, FE.size h.2.2.2]
  | .nil, .node _ _ _ _ _, h => False.elim h
  | .node _ _ _ _ _, .nil, h => False.elim h
theorem FE.txt : ∀ {f g : Fm}, FE f g → txtF f = txtF g
  | .nil, .nil, _ => rfl
  | .node _ _ a l r, .node _ _ b l' r', h => by
    rw [txtF, txtF, FE.txt h.2.2.1, FE.txt h.2.2.2, ← h.1]
    by_cases h0 : a.1 = 0
    · rw [if_pos h0, if_pos h0, h.2.1 h0]
    · rw [if_neg h0, if_neg h0]
  | .nil, .node _ _ _ _ _, h => False.elim h
  | .node _ _ _ _ _, .nil, h => False.elim h
theorem FE.sem (n : Nat) (y : ByteArray → Nat → Bool) : ∀ {f g : Fm}, FE f g → semF n y f = semF n y g
  | .nil, .nil, _ => rfl
  | .node _ _ a l r, .node _ _ b l' r', h => by
    funext i
    show opV a.1 (y a.2.1 i) (semF n y l) (semF n y r) i n = opV b.1 (y b.2.1 i) (semF n y l') (semF n y r') i n
    rw [FE.sem n y h.2.2.1, FE.sem n y h.2.2.2, ← h.1]
    by_cases h0 : a.1 = 0
    · rw [h.2.1 h0]
    · exact opV_y h0 _ _ _ _ _ _
  | .nil, .node _ _ _ _ _, h => False.elim h
  | .node _ _ _ _ _, .nil, h => False.elim h
def er (l : List (Nat × Nat)) : List Nat := l.map (·.2)
theorem er_app (a b : List (Nat × Nat)) : er (a ++ b) = er a ++ er b := List.map_append
theorem er_nil {l : List (Nat × Nat)} (h : er l = []) : l = [] := List.map_eq_nil_iff.1 h
theorem er_ite {c d : Prop} [Decidable c] [Decidable d] (h : c ↔ d) {a b a' b' : List (Nat × Nat)} (h1 : er a = er a') (h2 : er b = er b') : er (if c then a else b) = er (if d then a' else b') := by
  by_cases hc : c
  · rw [if_pos hc, if_pos (h.1 hc)]; exact h1
  · rw [if_neg hc, if_neg (fun hd => hc (h.2 hd))]; exact h2
theorem er_if {c : Prop} [Decidable c] {a a' : List (Nat × Nat)} (h : er a = er a') : er (if c then a else []) = er (if c then a' else []) := er_ite Iff.rfl h rfl
theorem hasN_same : ∀ {al al' : List Tk}, al'.map (·.s) = al.map (·.s) → ∀ x, hasN al' x = hasN al x
  | [], [], _, _ => rfl
  | [], _ :: _, h, _ => by simp at h
  | _ :: _, [], h, _ => by simp at h
  | t :: r, t' :: r', h, x => by
    simp at h
    rw [hasN, hasN, h.1, hasN_same h.2 x]
theorem dups_same {a a' : Tk} (ha : a'.s = a.s) : ∀ {p p' : List Tk}, p'.map (·.s) = p.map (·.s) → er (dups p' a') = er (dups p a)
  | [], [], _ => rfl
  | [], _ :: _, h => by simp at h
  | _ :: _, [], h => by simp at h
  | t :: r, t' :: r', h => by
    simp at h
    rw [dups, dups, er_app, er_app, dups_same ha h.2]
    congr 1
    rw [h.1, ha]
    exact er_if rfl
theorem fAct_same {a a' : Tk} (ha : a'.s = a.s) {p p' : List Tk} (h : p'.map (·.s) = p.map (·.s)) (i : Nat) : er (fAct p' i a') = er (fAct p i a) := by
  unfold fAct fLong
  rw [er_app, er_app, er_app, er_app, dups_same ha h, ha]
  congr 1
  · exact er_if rfl
  · congr 1
    exact er_if rfl
theorem fActs_same {al al' : List Tk} (h : al'.map (·.s) = al.map (·.s)) : ∀ {l l' : List Tk} (i : Nat), l'.map (·.s) = l.map (·.s) → er (fActs al' i l') = er (fActs al i l)
  | [], [], _, _ => rfl
  | [], _ :: _, _, h => by simp at h
  | _ :: _, [], _, h => by simp at h
  | t :: r, t' :: r', i, hl => by
    simp at hl
    rw [fActs, fActs, er_app, er_app, fActs_same h (i + 1) hl.2, fAct_same hl.1 (p' := al'.take i) (p := al.take i) (by rw [List.map_take, List.map_take, h])]
theorem fName_same {al al' : List Tk} (h : al'.map (·.s) = al.map (·.s)) (x : ByteArray) (p p' : Nat) : er (fName al' x p') = er (fName al x p) := by
  unfold fName
  rw [er_app, er_app, hasN_same h]
  congr 1
  · exact er_if rfl
  · exact er_ite Iff.rfl rfl rfl
theorem fFm_same {al al' : List Tk} (h : al'.map (·.s) = al.map (·.s)) : ∀ {f f' : Fm}, FE f f' → er (fFm al' f') = er (fFm al f)
  | .nil, .nil, _ => rfl
  | .node _ _ a l r, .node _ _ b l' r', hf => by
    rw [fFm, fFm, er_app, er_app, er_app, er_app, fFm_same h hf.2.2.1, fFm_same h hf.2.2.2, ← hf.1]
    congr 1
    by_cases h0 : a.1 = 0
    · rw [if_pos h0, if_pos h0, ← hf.2.1 h0]; exact fName_same h _ _ _
    · rw [if_neg h0, if_neg h0]
  | .nil, .node _ _ _ _ _, hf => False.elim hf
  | .node _ _ _ _ _, .nil, hf => False.elim hf
theorem ks_eq {t t' : Tk} (h : ks t' = ks t) : t'.k = t.k ∧ t'.s = t.s := by
  have h' := Prod.mk.inj h
  exact ⟨h'.1, ba_ext h'.2⟩
theorem badArg_same {k : List UInt8} {t t' : Tk} (h : ks t' = ks t) : badArg k t' = badArg k t := by
  obtain ⟨h1, h2⟩ := ks_eq h
  unfold badArg; rw [h1, h2]
theorem fArgs_same {al al' : List Tk} (h : al'.map (·.s) = al.map (·.s)) : ∀ (k : List UInt8) {l l' : List Tk}, l'.map ks = l.map ks → er (fArgs al' k l') = er (fArgs al k l)
  | _, [], [], _ => rfl
  | _, [], _ :: _, h => by simp at h
  | _, _ :: _, [], h => by simp at h
  | k, t :: r, t' :: r', hl => by
    simp only [List.map_cons, List.cons.injEq] at hl
    obtain ⟨h1, h2⟩ := ks_eq hl.1
    rw [fArgs, fArgs, er_app, er_app, fArgs_same h k.tail hl.2]
    congr 1
    unfold fArg
    rw [er_app, er_app, badArg_same hl.1, h1, h2]
    congr 1
    · exact er_if (fName_same h _ _ _)
    · exact er_if rfl
theorem args_len {l l' : List Tk} (h : l'.map ks = l.map ks) : l'.length = l.length := by
  have := congrArg List.length h; simpa using this
theorem argS_same {l l' : List Tk} (h : l'.map ks = l.map ks) (i : Nat) : argS l' i = argS l i := by
  have h2 : (l'.drop i).map ks = (l.drop i).map ks := by rw [List.map_drop, List.map_drop, h]
  unfold argS
  cases hd : l.drop i with
  | nil => rw [hd] at h2; simp at h2; rw [List.drop_eq_nil_of_le h2]
  | cons t r =>
    rw [hd] at h2
    cases hd' : l'.drop i with
    | nil => rw [hd'] at h2; simp at h2
    | cons t' r' => rw [hd'] at h2; simp only [List.map_cons, List.cons.injEq] at h2; exact (ks_eq h2.1).2
theorem fCall_same {al al' : List Tk} (h : al'.map (·.s) = al.map (·.s)) {r r' : Rl} (hw : r'.word.s = r.word.s) (ha : r'.args.map ks = r.args.map ks) : er (fCall al' r') = er (fCall al r) := by
  unfold fCall
  rw [hw, args_len ha]
  simp only [er_app]
  rw [fArgs_same h _ ha]
  congr 1
  · exact er_if rfl
  · congr 1
    · exact er_ite Iff.rfl rfl rfl
    · congr 1
      exact er_if rfl
theorem RE.ruleF {r r' : Rl} (h : RE r r') : FE (ruleF r) (ruleF r') := by
  cases hc : r.call with
  | true =>
    obtain ⟨h1, _, h3, _⟩ := h.2.1 hc
    have : Go.Proofs.YtidakhhekofkoaaGreatDoor.ruleF r' = Go.Proofs.YtidakhhekofkoaaGreatDoor.ruleF r := by unfold Go.Proofs.YtidakhhekofkoaaGreatDoor.ruleF; rw [h.1, h1, argS_same h3, argS_same h3, hc]; rfl
    rw [this]; exact FE.refl _
  | false =>
    unfold Go.Proofs.YtidakhhekofkoaaGreatDoor.ruleF
    rw [h.1, hc]
    exact (h.2.2 hc).1
theorem fRule_same {al al' : List Tk} (h : al'.map (·.s) = al.map (·.s)) {r r' : Rl} (hr : RE r r') (hf : r.call = true → r.f = .nil) (i : Nat) : er (fRule al' i r') = er (fRule al i r) := by
  unfold fRule
  simp only [er_app]
  congr 1
  · exact er_if rfl
  · cases hc : r.call with
    | true =>
      obtain ⟨h1, _, h3, h4⟩ := hr.2.1 hc
      rw [hr.1, hc, h4, hf hc]
      congr 1
      exact fCall_same h h1 h3
    | false =>
      rw [hr.1, hc]
      congr 1
      exact fFm_same h (hr.2.2 hc).1
theorem fRules_same {al al' : List Tk} (h : al'.map (·.s) = al.map (·.s)) : ∀ {rs rs' : List Rl} (i : Nat), RsE rs rs' → (∀ r ∈ rs, r.call = true → r.f = .nil) → er (fRules al' i rs') = er (fRules al i rs)
  | [], [], _, _, _ => rfl
  | [], _ :: _, _, h, _ => False.elim h
  | _ :: _, [], _, h, _ => False.elim h
  | r :: l, r' :: l', i, hr, hf => by
    rw [fRules, fRules, er_app, er_app, fRule_same h hr.1 (hf r (List.mem_cons_self ..)), fRules_same h (i + 1) hr.2 (fun x hx => hf x (List.mem_cons_of_mem _ hx))]
theorem RsE.nodes : ∀ {rs rs' : List Rl}, RsE rs rs' → nodesL rs' = nodesL rs
  | [], [], _ => rfl
  | [], _ :: _, h => False.elim h
  | _ :: _, [], h => False.elim h
  | r :: l, r' :: l', h => by rw [nodesL, nodesL, h.1.ruleF.size, RsE.nodes h.2]
theorem RsE.all (n : Nat) (y : ByteArray → Nat → Bool) : ∀ {rs rs' : List Rl}, RsE rs rs' → rs'.all (fun r => semF n y (ruleF r) 1) = rs.all (fun r => semF n y (ruleF r) 1)
  | [], [], _ => rfl
  | [], _ :: _, h => False.elim h
  | _ :: _, [], h => False.elim h
  | r :: l, r' :: l', h => by rw [List.all_cons, List.all_cons, h.1.ruleF.sem n y, RsE.all n y h.2]
theorem actsB_same : ∀ {al al' : List Tk}, al'.map (·.s) = al.map (·.s) → actsB al' = actsB al
  | [], [], _ => rfl
  | [], _ :: _, h => by simp at h
  | _ :: _, [], h => by simp at h
  | [t], [t'], h => by simp at h; rw [actsB, actsB, h]
  | [t], _ :: _ :: _, h => by simp at h
  | _ :: _ :: _, [t'], h => by simp at h
  | t :: u :: r, t' :: u' :: r', h => by
    simp only [List.map_cons, List.cons.injEq] at h
    have ih := actsB_same (al := u :: r) (al' := u' :: r') (by simp only [List.map_cons, List.cons.injEq]; exact h.2)
    show t'.s.data.toList ++ 44 :: 32 :: actsB (u' :: r') = t.s.data.toList ++ 44 :: 32 :: actsB (u :: r)
    rw [ih, h.1]
theorem bodyB_same {r r' : Rl} (h : RE r r') : bodyB r' = bodyB r := by
  cases hc : r.call with
  | true =>
    obtain ⟨h1, _, h3, _⟩ := h.2.1 hc
    unfold bodyB
    rw [h.1, hc, h1, argS_same h3, argS_same h3, args_len h3, if_pos rfl, if_pos rfl]
  | false =>
    unfold bodyB
    rw [h.1, hc, (h.2.2 hc).1.txt, if_neg (by decide), if_neg (by decide)]
theorem rulesB_same : ∀ {rs rs' : List Rl}, RsE rs rs' → rulesB rs' = rulesB rs
  | [], [], _ => rfl
  | [], _ :: _, h => False.elim h
  | _ :: _, [], h => False.elim h
  | r :: l, r' :: l', h => by rw [rulesB, rulesB, rulesB_same h.2, ruleB, ruleB, bodyB_same h.1]
theorem good_n {m : Nat} {r : Rl} (h : RlGood TkN m r) : RlN r := by
  rcases h with h | ⟨h1, h2, _, h3⟩
  · exact Or.inl h
  · exact Or.inr ⟨h1, h2, h3⟩
theorem again_ok {s : ByteArray} {al : List Tk} {rs : List Rl} (h : readM s = .ok (al, rs)) (hz : (txtM al rs).size ≤ 400) : ∃ al' rs', readM (txtM al rs) = .ok (al', rs') ∧ txtM al' rs' = txtM al rs ∧ ∀ tr, holdsM (txtM al rs) tr = holdsM s tr := by
  have hg := readM_good h
  obtain ⟨hn1, hn2⟩ := readM_nm h
  have hrn : ∀ r ∈ rs, RlN r := fun r hr => by obtain ⟨m, hm⟩ := hn2 r hr; exact good_n hm
  obtain ⟨al', rs', h1, h2, h3⟩ := modelRead_ok hg.ne hrn (lex_txt hg.ne hn1 hrn)
  have hs : al'.map (·.s) = al.map (·.s) := by
    have : ∀ (a b : List Tk), b.map ks = a.map (fun t => (2, t.s.data.toList)) → b.map (·.s) = a.map (·.s) := by
      intro a
      induction a with
      | nil => intro b hb; simp at hb; simp [hb]
      | cons x r ih =>
        intro b hb
        cases b with
        | nil => simp at hb
        | cons y r' =>
          simp [ks] at hb
          simp
          exact ⟨ba_ext (congrArg Array.toList hb.1.2), ih r' (by simpa [ks] using hb.2)⟩
    exact this al al' h2
  have hfc : ∀ r ∈ rs, r.call = true → r.f = .nil := fun r hr hc => by
    rcases hg.rules r hr with ⟨_, _, _, hf, _⟩ | ⟨hc', _⟩
    · exact hf
    · rw [hc] at hc'; cases hc'
  have hf : faults al' rs' = [] := by
    apply er_nil
    have := hg.nof
    unfold faults at this ⊢
    rw [er_app, fActs_same hs 0 hs, fRules_same hs 0 h3 hfc, ← er_app, this]; rfl
  have hr : readM (txtM al rs) = .ok (al', rs') := by
    unfold readM
    rw [if_neg (by omega), h1, rdOf, hf, if_neg (by simp [meets]), if_neg (by rw [h3.nodes]; have := hg.nodes; omega)]
  refine ⟨al', rs', hr, ba_ext ?_, fun tr => ?_⟩
  · rw [txtM_list, txtM_list, actsB_same hs, rulesB_same h3]
  · unfold holdsM
    rw [hr, h]
    show (if tr.all (fun x => hasN al' x) = true then _ else _) = (if tr.all (fun x => hasN al x) = true then _ else _)
    have e : (fun x => hasN al' x) = fun x => hasN al x := funext (hasN_same hs)
    rw [e, h3.all]
def Pm (m : Nat) (t : Tk) : Prop := t.p ≤ m
theorem headP_le {m : Nat} {l : List Tk} (h : ∀ t ∈ l, Pm m t) : headP l ≤ m := by
  cases l with
  | nil => exact Nat.zero_le _
  | cons t r => exact h t (List.mem_cons_self ..)
theorem pf_err (m : Nat) : ∀ n lev f l q, pf n lev f l = .error q → lev ≤ 6 → (5 ≤ lev → Fg (Pm m) f) → (∀ t ∈ l, Pm m t) → q ≤ m
  | 0, _, _, l, q, h, _, _, hl => by rw [pf] at h; cases h; exact headP_le hl
  | n + 1, 0, f, l, q, h, _, _, hl => by
    rw [pf] at h
    split at h
    · rename_i q1 e; cases h; exact pf_err m n 1 .nil l _ e (by omega) (fun h => by omega) hl
    · rename_i a l1 e
      have g := pf_good (Pm m) n 1 .nil l a l1 e (by omega) (fun h => by omega) hl
      split at h
      · split at h
        · rename_i q1 e2; cases h; exact pf_err m n 0 .nil l1.tail _ e2 (by omega) (fun h => by omega) (all_tail g.2.1)
        · cases h
      · cases h
  | n + 1, 1, f, l, q, h, _, _, hl => by
    rw [pf] at h
    split at h
    · rename_i q1 e; cases h; exact pf_err m n 2 .nil l _ e (by omega) (fun h => by omega) hl
    · rename_i a l1 e
      have g := pf_good (Pm m) n 2 .nil l a l1 e (by omega) (fun h => by omega) hl
      exact pf_err m n 5 a l1 _ h (by omega) (fun _ => g.1) g.2.1
  | n + 1, 2, f, l, q, h, _, _, hl => by
    rw [pf] at h
    split at h
    · rename_i q1 e; cases h; exact pf_err m n 3 .nil l _ e (by omega) (fun h => by omega) hl
    · rename_i a l1 e
      have g := pf_good (Pm m) n 3 .nil l a l1 e (by omega) (fun h => by omega) hl
      exact pf_err m n 6 a l1 _ h (by omega) (fun _ => g.1) g.2.1
  | n + 1, 3, f, l, q, h, _, _, hl => by
    rw [pf] at h
    split at h
    · rename_i q1 e; cases h; exact pf_err m n 4 .nil l _ e (by omega) (fun h => by omega) hl
    · rename_i a l1 e
      have g := pf_good (Pm m) n 4 .nil l a l1 e (by omega) (fun h => by omega) hl
      split at h
      · split at h
        · rename_i q1 e2; cases h; exact pf_err m n 4 .nil l1.tail _ e2 (by omega) (fun h => by omega) (all_tail g.2.1)
        · cases h
      · cases h
  | n + 1, 4, f, l, q, h, _, _, hl => by
    rw [pf] at h
    split at h
    · split at h
      · rename_i q1 e; cases h; exact pf_err m n 4 .nil l.tail _ e (by omega) (fun h => by omega) (all_tail hl)
      · cases h
    · split at h
      · split at h
        · rename_i q1 e; cases h; exact pf_err m n 0 .nil l.tail _ e (by omega) (fun h => by omega) (all_tail hl)
        · rename_i a l1 e
          have g := pf_good (Pm m) n 0 .nil l.tail a l1 e (by omega) (fun h => by omega) (all_tail hl)
          split at h
          · cases h
          · cases h; exact headP_le g.2.1
      · split at h
        · cases h
        · split at h
          · cases h
          · cases h; exact headP_le hl
  | n + 1, 5, f, l, q, h, _, hf, hl => by
    rw [pf] at h
    split at h
    · split at h
      · rename_i q1 e; cases h; exact pf_err m n 2 .nil l.tail _ e (by omega) (fun h => by omega) (all_tail hl)
      · rename_i a l1 e
        have g := pf_good (Pm m) n 2 .nil l.tail a l1 e (by omega) (fun h => by omega) (all_tail hl)
        exact pf_err m n 5 _ l1 _ h (by omega) (fun _ => Fg.two (by decide) (hf (by omega)) g.1) g.2.1
    · cases h
  | n + 1, 6, f, l, q, h, _, hf, hl => by
    rw [pf] at h
    split at h
    · split at h
      · rename_i q1 e; cases h; exact pf_err m n 3 .nil l.tail _ e (by omega) (fun h => by omega) (all_tail hl)
      · rename_i a l1 e
        have g := pf_good (Pm m) n 3 .nil l.tail a l1 e (by omega) (fun h => by omega) (all_tail hl)
        exact pf_err m n 6 _ l1 _ h (by omega) (fun _ => Fg.two (by decide) (hf (by omega)) g.1) g.2.1
    · cases h
  | n + 1, k + 7, f, l, q, h, hk, _, _ => by omega
theorem ruleRead_err {m : Nat} {l : List Tk} (hl : ∀ t ∈ l, Pm m t) : (∀ q, ruleRead l = .error q → q ≤ m) ∧ ∀ r l', ruleRead l = .ok (r, l') → r.fin ≤ m := by
  have t1 := all_tail hl
  have t2 := all_tail t1
  have t3 := all_tail t2
  have t4 := all_tail t3
  have t5 := all_tail t4
  unfold ruleRead
  refine ⟨fun q h => ?_, fun r l' h => ?_⟩
  · split at h
    · split at h
      · split at h
        · split at h
          · split at h
            · cases h
            · cases h; exact headP_le t5
          · cases h; exact headP_le t4
        · split at h
          · cases h
          · cases h; exact headP_le t3
      · cases h; exact headP_le t2
    · split at h
      · rename_i q1 e; cases h; exact pf_err m _ 0 .nil l _ e (by omega) (fun h => by omega) hl
      · cases h
  · split at h
    · split at h
      · split at h
        · split at h
          · split at h
            · cases h; exact headP_le t5
            · cases h
          · cases h
        · split at h
          · cases h; exact headP_le t3
          · cases h
      · cases h
    · split at h
      · cases h
      · cases h; exact Nat.zero_le _
theorem actsRead_err {m : Nat} : ∀ n l q, actsRead n l = .error q → (∀ t ∈ l, Pm m t) → q ≤ m
  | 0, l, q, h, hl => by rw [actsRead] at h; cases h; exact headP_le hl
  | n + 1, l, q, h, hl => by
    rw [actsRead] at h
    split at h
    · split at h
      · split at h
        · rename_i q1 e; cases h; exact actsRead_err n _ _ e (all_tail (all_tail hl))
        · cases h
      · cases h
    · cases h; exact headP_le hl
theorem rulesRead_err {m : Nat} : ∀ n l, (∀ t ∈ l, Pm m t) → (∀ q, rulesRead n l = .error q → q ≤ m) ∧ ∀ rs, rulesRead n l = .ok rs → ∀ r ∈ rs, r.pl ≤ m ∧ r.fin ≤ m
  | 0, l, hl => ⟨fun q h => by rw [rulesRead] at h; cases h; exact headP_le hl, fun rs h => by rw [rulesRead] at h; cases h⟩
  | n + 1, l, hl => by
    refine ⟨fun q h => ?_, fun rs h => ?_⟩
    · rw [rulesRead] at h
      split at h
      · cases h
      · split at h
        · split at h
          · rename_i q1 e; cases h; exact (ruleRead_err (all_tail hl)).1 _ e
          · rename_i r l1 e
            have g := ruleRead_good (Pm m) _ _ _ e (all_tail hl)
            split at h
            · split at h
              · rename_i q1 e2; cases h; exact (rulesRead_err n _ (all_tail g.2)).1 _ e2
              · cases h
            · cases h; exact headP_le g.2
        · cases h; exact headP_le hl
    · rw [rulesRead] at h
      split at h
      · cases h; exact fun r hr => (List.not_mem_nil hr).elim
      · split at h
        · split at h
          · cases h
          · rename_i r l1 e
            have g := ruleRead_good (Pm m) _ _ _ e (all_tail hl)
            split at h
            · split at h
              · cases h
              · rename_i rs1 e2
                cases h
                intro x hx
                rcases List.mem_cons.1 hx with rfl | hx
                · have k := (ruleRead_err (all_tail hl)).2 _ _ e
                  exact ⟨headP_le hl, k⟩
                · exact (rulesRead_err n _ (all_tail g.2)).2 _ e2 x hx
            · cases h
        · cases h
theorem modelRead_err {m : Nat} {l : List Tk} (hl : ∀ t ∈ l, Pm m t) : (∀ q, modelRead l = .error q → q ≤ m) ∧ ∀ al rs, modelRead l = .ok (al, rs) → ∀ r ∈ rs, r.pl ≤ m ∧ r.fin ≤ m := by
  unfold modelRead
  refine ⟨fun q h => ?_, fun al rs h => ?_⟩
  · split at h
    · split at h
      · rename_i q1 e; cases h; exact actsRead_err _ _ _ e (all_tail hl)
      · rename_i ts l1 e
        have g := actsRead_good (Pm m) _ _ _ _ e (all_tail hl)
        split at h
        · split at h
          · rename_i q1 e2; cases h; exact (rulesRead_err _ _ (all_tail g.2.2.2)).1 _ e2
          · cases h
        · cases h; exact headP_le g.2.2.2
    · cases h; exact headP_le hl
  · split at h
    · split at h
      · cases h
      · rename_i ts l1 e
        have g := actsRead_good (Pm m) _ _ _ _ e (all_tail hl)
        split at h
        · split at h
          · cases h
          · rename_i rs1 e2; cases h; exact (rulesRead_err _ _ (all_tail g.2.2.2)).2 _ e2
        · cases h
    · cases h
def Fm' (m : Nat) (l : List (Nat × Nat)) : Prop := ∀ x ∈ l, x.1 ≤ m
theorem Fm'.app {m : Nat} {a b : List (Nat × Nat)} (h : Fm' m a) (k : Fm' m b) : Fm' m (a ++ b) := fun x hx => (List.mem_append.1 hx).elim (h x) (k x)
theorem Fm'.nil (m : Nat) : Fm' m [] := fun _ h => (List.not_mem_nil h).elim
theorem Fm'.one {m p e : Nat} (h : p ≤ m) : Fm' m [(p, e)] := fun x hx => by rw [List.mem_singleton] at hx; subst hx; exact h
theorem Fm'.ite {m : Nat} {c : Prop} [Decidable c] {a b : List (Nat × Nat)} (h : Fm' m a) (k : Fm' m b) : Fm' m (if c then a else b) := by split <;> assumption
theorem meets_le {m : Nat} : ∀ (l : List (Nat × Nat)) (x : Nat × Nat), x.1 ≤ m → Fm' m l → (meets x l).1 ≤ m
  | [], x, h, _ => h
  | f :: l, x, h, hl => by
    rw [meets_cons]
    refine meets_le l _ ?_ (fun y hy => hl y (List.mem_cons_of_mem _ hy))
    unfold meet
    split
    · exact hl f (List.mem_cons_self ..)
    · exact h
theorem dups_le {m : Nat} {a : Tk} (h : a.p ≤ m) : ∀ l, Fm' m (dups l a)
  | [] => Fm'.nil m
  | _ :: r => ((Fm'.one h).ite (Fm'.nil m)).app (dups_le h r)
theorem fName_le {m : Nat} (al : List Tk) (s : ByteArray) {p : Nat} (h : p ≤ m) : Fm' m (fName al s p) := ((Fm'.one h).ite (Fm'.nil m)).app ((Fm'.nil m).ite (Fm'.one h))
theorem fActs_le {m : Nat} (al : List Tk) : ∀ (l : List Tk) (i : Nat), (∀ t ∈ l, Pm m t) → Fm' m (fActs al i l)
  | [], _, _ => Fm'.nil m
  | a :: r, i, h => by
    have ha := h a (List.mem_cons_self ..)
    exact (((Fm'.one ha).ite (Fm'.nil m)).app ((dups_le ha _).app ((Fm'.one ha).ite (Fm'.nil m)))).app (fActs_le al r (i + 1) (fun t ht => h t (List.mem_cons_of_mem _ ht)))
theorem fFm_le {m : Nat} (al : List Tk) : ∀ f, (f = .nil ∨ Fg (Pm m) f) → Fm' m (fFm al f)
  | .nil, _ => Fm'.nil m
  | .node u v a l r, h => by
    have h : Fg (Pm m) (.node u v a l r) := by rcases h with h | h; cases h; exact h
    rw [fFm]
    rcases h with ⟨hk, ⟨t, h1, _, _, h2⟩, rfl, rfl⟩ | ⟨hk, rfl, rfl⟩ | ⟨hk, hl, rfl⟩ | ⟨hk, hl, hr⟩
    · exact ((fName_le al _ (by rw [← h2]; exact h1)).ite (Fm'.nil m)).app ((fFm_le al .nil (Or.inl rfl)).app (fFm_le al .nil (Or.inl rfl)))
    · rw [if_neg (by omega)]; exact (Fm'.nil m).app ((fFm_le al .nil (Or.inl rfl)).app (fFm_le al .nil (Or.inl rfl)))
    · rw [if_neg (by omega)]; exact (Fm'.nil m).app ((fFm_le al l (Or.inr hl)).app (fFm_le al .nil (Or.inl rfl)))
    · rw [if_neg (by omega)]; exact (Fm'.nil m).app ((fFm_le al l (Or.inr hl)).app (fFm_le al r (Or.inr hr)))
theorem fArgs_le {m : Nat} (al : List Tk) : ∀ (k : List UInt8) (l : List Tk), (∀ t ∈ l, Pm m t) → Fm' m (fArgs al k l)
  | _, [], _ => Fm'.nil m
  | k, t :: r, h => by
    have ht := h t (List.mem_cons_self ..)
    exact (((fName_le al _ ht).ite (Fm'.nil m)).app ((Fm'.one ht).ite (Fm'.nil m))).app (fArgs_le al k.tail r (fun x hx => h x (List.mem_cons_of_mem _ hx)))
theorem fRules_le {m : Nat} (al : List Tk) {k : Nat} : ∀ (rs : List Rl) (i : Nat), (∀ r ∈ rs, RlGood (Pm m) k r) → (∀ r ∈ rs, r.pl ≤ m ∧ r.fin ≤ m) → Fm' m (fRules al i rs)
  | [], _, _, _ => Fm'.nil m
  | r :: l, i, h1, h2 => by
    have g1 := h1 r (List.mem_cons_self ..)
    have g2 := h2 r (List.mem_cons_self ..)
    refine Fm'.app ?_ (fRules_le al l (i + 1) (fun x hx => h1 x (List.mem_cons_of_mem _ hx)) (fun x hx => h2 x (List.mem_cons_of_mem _ hx)))
    rcases g1 with ⟨hc, hw, _, hf, x, hx, _, ha⟩ | ⟨hc, hf, _, ha⟩
    · refine ((Fm'.one g2.1).ite (Fm'.nil m)).app ((fFm_le al r.f (Or.inl hf)).app (Fm'.ite ?_ (Fm'.nil m)))
      have hargs : ∀ t ∈ r.args, Pm m t := by
        rcases ha with ha | ⟨y, hy, _, ha⟩
        · rw [ha]; intro t ht; rcases List.mem_singleton.1 ht with rfl; exact hx
        · rw [ha]; intro t ht; rcases List.mem_cons.1 ht with rfl | ht
          · exact hx
          · rcases List.mem_singleton.1 ht with rfl; exact hy
      exact ((Fm'.one hw).ite (Fm'.nil m)).app (((Fm'.nil m).ite (Fm'.one hw)).app ((fArgs_le al _ _ hargs).app ((Fm'.one g2.2).ite (Fm'.nil m))))
    · refine ((Fm'.one g2.1).ite (Fm'.nil m)).app ((fFm_le al r.f (Or.inr hf)).app ?_)
      rw [if_neg (by rw [hc]; decide)]
      exact Fm'.nil m
theorem readM_place {s : ByteArray} {x : Nat × Nat} (h : readM s = .error x) : x.1 ≤ s.size := by
  have hl : ∀ t ∈ lexR s (s.size + 1) 0, Pm s.size t := fun t ht => (lexR_small s _ 0 (Nat.zero_le _) t ht).2
  unfold readM at h
  split at h
  · cases h; exact Nat.zero_le _
  · cases hm : modelRead (lexR s (s.size + 1) 0) with
    | error q => rw [hm] at h; cases h; exact (modelRead_err hl).1 _ hm
    | ok m =>
      obtain ⟨al, rs⟩ := m
      have hg := modelRead_good (Pm s.size) _ _ _ hm hl
      rw [hm, rdOf] at h
      split at h
      · cases h
        exact meets_le _ _ (Nat.zero_le _) ((fActs_le al al 0 (fun t ht => (hg.1 t ht).1)).app (fRules_le al rs 0 hg.2.2.2.1 ((modelRead_err hl).2 _ _ hm)))
      · split at h
        · cases h; exact Nat.le_refl _
        · cases h
end Go.Proofs.YtidakhhekofkoaaGreatDoor.Rt
namespace Go.Proofs.YtidakhhekofkoaaGreatDoor
open Rt
def firstB : ByteArray := ⟨#[97, 99, 116, 115, 32, 97, 44, 98, 59, 114, 117, 108, 101, 32, 114, 101, 115, 112, 111, 110, 115, 101, 40, 97, 44, 98, 41, 59]⟩
def firstT : ByteArray := ⟨#[97, 99, 116, 115, 32, 97, 44, 32, 98, 59, 10, 114, 117, 108, 101, 32, 114, 101, 115, 112, 111, 110, 115, 101, 40, 97, 44, 32, 98, 41, 59, 10]⟩
theorem first_print : printM firstB = (firstT, 0, 0) := by decide +kernel
theorem first_ab : holdsM firstB [⟨#[97]⟩, ⟨#[98]⟩] = (true, 0) := by decide +kernel
theorem first_a : holdsM firstB [⟨#[97]⟩] = (false, 0) := by decide +kernel
end Go.Proofs.YtidakhhekofkoaaGreatDoor
namespace Go.Proofs.YtidakhhekofkoaaGreatDoor
open Go.Deep
def stB (S : List Sp) (ins : Bool) (ev : ByteArray) (more : Bool) (nx hr k : Nat) : Bool := match S[k]? with
  | some d => stepP d.k ins more (ev.toList == d.s.toList) (hr.testBit d.a) (hr.testBit d.b) (nx.testBit d.a) (nx.testBit k)
  | none => false
def hereN (S : List Sp) (ins : Bool) (ev : ByteArray) (more : Bool) (nx : Nat) : Nat → Nat
  | 0 => 0
  | k + 1 => hereN S ins ev more nx k + (if stB S ins ev more nx (hereN S ins ev more nx k) k = true then 2 ^ k else 0)
def fillN (S : List Sp) (ins : Bool) (ev : ByteArray) (more : Bool) (nx : Nat) : Nat := hereN S ins ev more nx S.length + (if ins = true then 2 ^ S.length else 0)
theorem hereN_pre (S : List Sp) (ins : Bool) (ev : ByteArray) (more : Bool) (nx : Nat) : ∀ k, hereN S ins ev more nx k = preN (fun j => stB S ins ev more nx (hereN S ins ev more nx j) j) k
  | 0 => rfl
  | k + 1 => by rw [hereN, preN, ← hereN_pre S ins ev more nx k]
theorem hereN_lt (S : List Sp) (ins : Bool) (ev : ByteArray) (more : Bool) (nx k : Nat) : hereN S ins ev more nx k < 2 ^ k := by rw [hereN_pre]; exact preN_lt _ _
theorem hereN_or (S : List Sp) (ins : Bool) (ev : ByteArray) (more : Bool) (nx k : Nat) : hereN S ins ev more nx k ||| 2 ^ k = hereN S ins ev more nx k + 2 ^ k := by rw [hereN_pre]; exact preN_or _ _
theorem fillN_lt (S : List Sp) (ins : Bool) (ev : ByteArray) (more : Bool) (nx : Nat) : fillN S ins ev more nx < 2 ^ (S.length + 1) := by
  have := hereN_lt S ins ev more nx S.length
  unfold fillN
  rw [Nat.pow_succ]
  split <;> omega
theorem fillN_bit (S : List Sp) (ins : Bool) (ev : ByteArray) (more : Bool) (nx j : Nat) (hj : j < S.length) : (fillN S ins ev more nx).testBit j = stB S ins ev more nx (hereN S ins ev more nx j) j := by
  have e : fillN S ins ev more nx = preN (fun i => if i < S.length then stB S ins ev more nx (hereN S ins ev more nx i) i else ins) (S.length + 1) := by
    rw [preN, fillN, hereN_pre, if_neg (Nat.lt_irrefl _)]
    congr 1
    exact preN_congr (fun i hi => by rw [if_pos hi])
  rw [e, preN_bit _ _ _ (by omega), if_pos hj]
theorem fillN_top (S : List Sp) (ins : Bool) (ev : ByteArray) (more : Bool) (nx : Nat) : (fillN S ins ev more nx).testBit S.length = ins := by
  have e : fillN S ins ev more nx = preN (fun i => if i < S.length then stB S ins ev more nx (hereN S ins ev more nx i) i else ins) (S.length + 1) := by
    rw [preN, fillN, hereN_pre, if_neg (Nat.lt_irrefl _)]
    congr 1
    exact preN_congr (fun i hi => by rw [if_pos hi])
  rw [e, preN_bit _ _ _ (by omega), if_neg (Nat.lt_irrefl _)]
theorem hereN_bit (S : List Sp) (ins : Bool) (ev : ByteArray) (more : Bool) (nx j k : Nat) (hj : j < k) : (hereN S ins ev more nx k).testBit j = stB S ins ev more nx (hereN S ins ev more nx j) j := by
  rw [hereN_pre, preN_bit _ _ _ hj]
def PlOk (G : List Fm) (n : Nat) (y : ByteArray → Nat → Bool) (p i : Nat) : Prop := (∀ j f, G[j]? = some f → p.testBit j = semF n y f i) ∧ p.testBit G.length = decide (i ≤ n)
def KOk : Fm → Prop
  | .nil => True
  | .node _ _ a l r => a.1 ≤ 12 ∧ (a.1 = 0 ∨ a.1 = 1 ∨ a.1 = 2 ∨ a.1 = 3 ∨ l ≠ .nil) ∧ (a.1 < 9 ∨ r ≠ .nil) ∧ KOk l ∧ KOk r
theorem Fg.kok {Q : Tk → Prop} : ∀ {f : Fm}, Fg Q f → KOk f
  | .nil, h => False.elim h
  | .node _ _ a l r, h => by
    rcases h with ⟨h1, _, rfl, rfl⟩ | ⟨h1, rfl, rfl⟩ | ⟨h1, h2, rfl⟩ | ⟨h1, h2, h3⟩
    · exact ⟨by omega, Or.inl h1, Or.inl (by omega), trivial, trivial⟩
    · exact ⟨by omega, by omega, Or.inl (by omega), trivial, trivial⟩
    · exact ⟨by omega, Or.inr (Or.inr (Or.inr (Or.inr h2.ne))), Or.inl (by omega), Fg.kok h2, trivial⟩
    · exact ⟨by omega, Or.inr (Or.inr (Or.inr (Or.inr h2.ne))), Or.inr h3.ne, Fg.kok h2, Fg.kok h3⟩
theorem subs_kok : ∀ {f : Fm}, KOk f → ∀ g ∈ subs f, KOk g
  | .nil, _, g, hg => (List.not_mem_nil hg).elim
  | .node u v a l r, h, g, hg => by
    rw [subs] at hg
    rcases List.mem_append.1 hg with hg | hg
    · rcases List.mem_append.1 hg with hg | hg
      · exact subs_kok h.2.2.2.1 g hg
      · exact subs_kok h.2.2.2.2 g hg
    · rcases List.mem_singleton.1 hg with rfl
      exact h
theorem subsM_kok {rs : List Rl} (h : ∀ r ∈ rs, KOk (ruleF r)) : ∀ g ∈ subsM rs, KOk g := by
  intro g hg
  unfold subsM at hg
  obtain ⟨l, hl, hgl⟩ := List.mem_flatten.1 hg
  obtain ⟨r, hr, rfl⟩ := List.mem_map.1 hl
  exact subs_kok (h r hr) g hgl
theorem stepP_leaf {k : Nat} (h : k = 0 ∨ k = 1 ∨ k = 2 ∨ k = 3) (ins more y u v u' x u2 v2 u2' x2 : Bool) : stepP k ins more y u v u' x = stepP k ins more y u2 v2 u2' x2 := by
  rcases h with rfl | rfl | rfl | rfl <;> rfl
theorem stepP_one {k : Nat} (h : k < 9) (ins more y u v u' x v2 : Bool) : stepP k ins more y u v u' x = stepP k ins more y u v2 u' x := by
  have h : k = 0 ∨ k = 1 ∨ k = 2 ∨ k = 3 ∨ k = 4 ∨ k = 5 ∨ k = 6 ∨ k = 7 ∨ k = 8 := by omega
  rcases h with rfl | rfl | rfl | rfl | rfl | rfl | rfl | rfl | rfl <;> rfl
theorem fill_ok {S : List Sp} {G : List Fm} (hs : StOk S G) (hk : ∀ g ∈ G, KOk g) (n : Nat) (y : ByteArray → Nat → Bool) (yy : ByteArray → Nat → Bool) (hy : ∀ s i, y s i = (decide (i ≤ n) && yy s i)) (ev : ByteArray) (i : Nat)
    (hev : i ≤ n → ∀ s, yy s i = (ev.toList == s.toList)) (nx : Nat) (hnx : i ≤ n → PlOk G n y nx (i + 1)) :
    PlOk G n y (fillN S (decide (i ≤ n)) ev (decide (i + 1 ≤ n)) nx) i := by
  have key : ∀ k, k ≤ S.length → ∀ j, j < k → ∀ f, G[j]? = some f → stB S (decide (i ≤ n)) ev (decide (i + 1 ≤ n)) nx (hereN S (decide (i ≤ n)) ev (decide (i + 1 ≤ n)) nx j) j = semF n y f i := by
    intro k
    induction k with
    | zero => intro _ j hj; omega
    | succ k ih =>
      intro hkl j hj f hf
      by_cases hjk : j < k
      · exact ih (by omega) j hjk f hf
      have hjk : j = k := by omega
      subst hjk
      have ih := ih (by omega)
      obtain ⟨d, hd⟩ : ∃ d, S[j]? = some d := ⟨_, List.getElem?_eq_getElem (by omega)⟩
      have hst := hs.2 j d f hd hf
      have hkf := hk f (List.mem_of_getElem? hf)
      cases f with
      | nil => exact False.elim hst
      | node u v a l r =>
        obtain ⟨h1, h2, h3, h4⟩ := hst
        unfold stB
        rw [hd]
        show stepP d.k _ _ _ _ _ _ _ = opV a.1 (y a.2.1 i) (semF n y l) (semF n y r) i n
        rw [hy, opV_step a.1 (yy a.2.1) (semF n y l) (semF n y r) i n hkf.1, h1, h2]
        have hev' : stepP a.1 (decide (i ≤ n)) (decide (i + 1 ≤ n)) (ev.toList == a.2.1.toList) (semF n y l i) (semF n y r i) (semF n y l (i + 1)) (opV a.1 (decide (i + 1 ≤ n) && yy a.2.1 (i + 1)) (semF n y l) (semF n y r) (i + 1) n) = stepP a.1 (decide (i ≤ n)) (decide (i + 1 ≤ n)) (yy a.2.1 i) (semF n y l i) (semF n y r i) (semF n y l (i + 1)) (opV a.1 (decide (i + 1 ≤ n) && yy a.2.1 (i + 1)) (semF n y l) (semF n y r) (i + 1) n) := by
          by_cases hi : i ≤ n
          · rw [hev hi]
          · by_cases hk0 : a.1 = 0
            · rw [hk0, decide_eq_false hi]; rfl
            · unfold stepP; rw [if_neg hk0, if_neg hk0]
        rw [← hev']
        have hfut : i ≤ n → nx.testBit j = opV a.1 (decide (i + 1 ≤ n) && yy a.2.1 (i + 1)) (semF n y l) (semF n y r) (i + 1) n := by
          intro hi
          rw [(hnx hi).1 j _ hf]
          show opV a.1 (y a.2.1 (i + 1)) _ _ _ _ = _
          rw [hy]
        have hx : ∀ u' x u2 x2 : Bool, (i ≤ n → u' = u2) → (i ≤ n → x = x2) → ∀ u v, stepP a.1 (decide (i ≤ n)) (decide (i + 1 ≤ n)) (ev.toList == a.2.1.toList) u v u' x = stepP a.1 (decide (i ≤ n)) (decide (i + 1 ≤ n)) (ev.toList == a.2.1.toList) u v u2 x2 := by
          intro u' x u2 x2 e1 e2 u v
          by_cases hi : i ≤ n
          · rw [e1 hi, e2 hi]
          · rw [decide_eq_false hi, decide_eq_false (show ¬ i + 1 ≤ n by omega)]
            have hk12 := hkf.1
            have h : a.1 = 0 ∨ a.1 = 1 ∨ a.1 = 2 ∨ a.1 = 3 ∨ a.1 = 4 ∨ a.1 = 5 ∨ a.1 = 6 ∨ a.1 = 7 ∨ a.1 = 8 ∨ a.1 = 9 ∨ a.1 = 10 ∨ a.1 = 11 ∨ a.1 = 12 := by omega
            rcases h with h | h | h | h | h | h | h | h | h | h | h | h | h <;> rw [h] <;> rfl
        have hbit : ∀ b g, b < j → G[b]? = some g → (hereN S (decide (i ≤ n)) ev (decide (i + 1 ≤ n)) nx j).testBit b = semF n y g i := by
          intro b g hb hg
          rw [hereN_bit _ _ _ _ _ _ _ hb]
          exact ih b hb g hg
        rcases hkf.2.1 with hk0 | hk0 | hk0 | hk0 | hln
        · exact stepP_leaf (Or.inl hk0) _ _ _ _ _ _ _ _ _ _ _
        · exact stepP_leaf (Or.inr (Or.inl hk0)) _ _ _ _ _ _ _ _ _ _ _
        · exact stepP_leaf (Or.inr (Or.inr (Or.inl hk0))) _ _ _ _ _ _ _ _ _ _ _
        · exact stepP_leaf (Or.inr (Or.inr (Or.inr hk0))) _ _ _ _ _ _ _ _ _ _ _
        · rcases h3 with h3 | ⟨h3, h3'⟩
          · exact absurd h3 hln
          have hl := hbit d.a l h3 h3'
          have hl' : i ≤ n → nx.testBit d.a = semF n y l (i + 1) := fun hi => (hnx hi).1 d.a l h3'
          rcases hkf.2.2.1 with hk9 | hrn
          · rw [hl, stepP_one hk9 _ _ _ _ _ _ _ (semF n y r i)]
            exact hx _ _ _ _ hl' hfut _ _
          · rcases h4 with h4 | ⟨h4, h4'⟩
            · exact absurd h4 hrn
            rw [hl, hbit d.b r h4 h4']
            exact hx _ _ _ _ hl' hfut _ _
  refine ⟨fun j f hf => ?_, ?_⟩
  · have hj : j < S.length := by
      rw [hs.1]
      rcases Nat.lt_or_ge j G.length with h | h
      · exact h
      · rw [List.getElem?_eq_none h] at hf; cases hf
    rw [fillN_bit _ _ _ _ _ _ hj]
    exact key S.length (Nat.le_refl _) j hj f hf
  · rw [← hs.1, fillN_top]
def walkB (S : List Sp) : List ByteArray → Nat
  | [] => fillN S false ⟨#[]⟩ false 0
  | ev :: r => fillN S true ev ((walkB S r).testBit S.length) (walkB S r)
theorem walkB_lt (S : List Sp) : ∀ tr, walkB S tr < 2 ^ (S.length + 1)
  | [] => fillN_lt _ _ _ _ _
  | _ :: _ => fillN_lt _ _ _ _ _
def yT (tr : List ByteArray) (s : ByteArray) (i : Nat) : Bool := match i with
  | 0 => false
  | j + 1 => (tr.getD j ⟨#[]⟩).toList == s.toList
theorem atT_y (tr : List ByteArray) (s : ByteArray) (i : Nat) : atT tr s i = (decide (i ≤ tr.length) && yT tr s i) := by
  cases i with
  | zero => simp [atT, yT]
  | succ j =>
    simp only [atT, yT]
    by_cases h : j < tr.length
    · rw [List.getElem?_eq_getElem h, decide_eq_true (show j + 1 ≤ tr.length by omega), Bool.true_and, List.getD_eq_getElem?_getD, List.getElem?_eq_getElem h]; rfl
    · rw [List.getElem?_eq_none (by omega), decide_eq_false (show ¬ j + 1 ≤ tr.length by omega)]; rfl
theorem walk_ok {S : List Sp} {G : List Fm} (hs : StOk S G) (hk : ∀ g ∈ G, KOk g) (tr : List ByteArray) : ∀ (c j : Nat), j + c = tr.length → PlOk G tr.length (atT tr) (walkB S (tr.drop j)) (j + 1)
  | 0, j, h => by
    rw [List.drop_eq_nil_of_le (by omega), walkB]
    have := fill_ok hs hk tr.length (atT tr) (yT tr) (atT_y tr) ⟨#[]⟩ (j + 1) (fun h' => by omega) 0 (fun h' => by omega)
    rw [decide_eq_false (show ¬ j + 1 ≤ tr.length by omega), decide_eq_false (show ¬ j + 1 + 1 ≤ tr.length by omega)] at this
    exact this
  | c + 1, j, h => by
    have hj : j < tr.length := by omega
    have ih := walk_ok hs hk tr c (j + 1) (by omega)
    have hd : tr.drop j = tr[j] :: tr.drop (j + 1) := List.drop_eq_getElem_cons hj
    rw [hd, walkB, hs.1, ih.2]
    have := fill_ok hs hk tr.length (atT tr) (yT tr) (atT_y tr) tr[j] (j + 1) (fun _ s => by simp only [yT, List.getD_eq_getElem?_getD, List.getElem?_eq_getElem hj, Option.getD_some]) (walkB S (tr.drop (j + 1))) (fun _ => ih)
    rw [decide_eq_true (show j + 1 ≤ tr.length by omega)] at this
    exact this
def wholeM : List Rl → List Sp → Nat → Nat
  | [], _, w => w
  | r :: rs, S, w => wholeM rs (appS (ruleF r) S) (w ||| 2 ^ ((appS (ruleF r) S).length - 1))
theorem wholeM_snoc (r : Rl) : ∀ (rs : List Rl) (S : List Sp) (w : Nat), wholeM (rs ++ [r]) S w = (wholeM rs S w ||| 2 ^ ((stepsM (rs ++ [r]) S).length - 1))
  | [], S, w => rfl
  | x :: rs, S, w => by rw [List.cons_append, wholeM, wholeM_snoc r rs]; rfl
theorem and_or_bit (p w t : Nat) : (p &&& (w ||| 2 ^ t) == (w ||| 2 ^ t)) = ((p &&& w == w) && p.testBit t) := by
  rw [Bool.eq_iff_iff, Bool.and_eq_true, beq_iff_eq, beq_iff_eq]
  constructor
  · intro h
    have hb : ∀ j, (p.testBit j && (w.testBit j || decide (t = j))) = (w.testBit j || decide (t = j)) := by
      intro j
      have := congrArg (fun x => x.testBit j) h
      simpa [Nat.testBit_and, Nat.testBit_or, Nat.testBit_two_pow] using this
    refine ⟨Nat.eq_of_testBit_eq (fun j => ?_), ?_⟩
    · rw [Nat.testBit_and]
      have := hb j
      cases hw : w.testBit j with
      | false => simp
      | true => rw [hw] at this; simpa using this
    · have := hb t
      simpa using this
  · rintro ⟨h1, h2⟩
    refine Nat.eq_of_testBit_eq (fun j => ?_)
    rw [Nat.testBit_and, Nat.testBit_or, Nat.testBit_two_pow]
    have := congrArg (fun x => x.testBit j) h1
    simp only [Nat.testBit_and] at this
    by_cases e : t = j
    · subst e; simp [h2]
    · simp [e]; simpa using this
theorem whole_ok (n : Nat) (y : ByteArray → Nat → Bool) (p i : Nat) : ∀ (rs : List Rl) (S : List Sp) (G : List Fm) (w : Nat), StOk S G → (∀ r ∈ rs, ruleF r ≠ .nil) → (∀ j f, (G ++ subsM rs)[j]? = some f → p.testBit j = semF n y f i) →
    (p &&& wholeM rs S w == wholeM rs S w) = ((p &&& w == w) && rs.all (fun r => semF n y (ruleF r) i))
  | [], S, G, w, _, _, _ => by simp [wholeM]
  | r :: rs, S, G, w, hs, hn, hp => by
    have hr := hn r (List.mem_cons_self ..)
    have h1 := appS_ok (ruleF r) S G hs
    rw [wholeM, whole_ok n y p i rs _ (G ++ subs (ruleF r)) _ h1 (fun r' h' => hn r' (List.mem_cons_of_mem _ h')) (fun j f hf => hp j f (by rw [subsM_cons, ← List.append_assoc]; exact hf)), and_or_bit, List.all_cons, Bool.and_assoc]
    congr 2
    have hl := subs_last hr G
    have e : (appS (ruleF r) S).length - 1 = G.length + sizeF (ruleF r) - 1 := by rw [appS_len, hs.1]
    rw [e]
    refine hp _ _ ?_
    rw [subsM_cons, ← List.append_assoc, List.getElem?_append_left]
    · exact hl
    · rw [List.length_append, subs_len]
      have := sizeF_pos' hr
      omega
theorem keeps_ok {al : List Tk} {rs : List Rl} (h : MGood al rs) (tr : List ByteArray) :
    (walkB (stepsM rs []) tr &&& wholeM rs [] 0 == wholeM rs [] 0) = rs.all (fun r => semF tr.length (atT tr) (ruleF r) 1) := by
  have hs : StOk (stepsM rs []) (subsM rs) := by simpa using stepsM_ok rs [] [] StOk.nil
  have hw := walk_ok hs (subsM_kok (fun r hr => (h.fg r hr).kok)) tr tr.length 0 (by omega)
  have := whole_ok tr.length (atT tr) (walkB (stepsM rs []) tr) 1 rs [] [] 0 StOk.nil (fun r hr => (h.fg r hr).ne) (fun j f hf => hw.1 j f (by simpa using hf))
  rw [this]
  simp
end Go.Proofs.YtidakhhekofkoaaGreatDoor
namespace Go.Proofs.YtidakhhekofkoaaGreatDoor
open Go.RowKit Go.Deep
theorem onward_any (k : Nat) (hk : 5 ≤ k) (hk' : k ≤ 9) (w : World) (lb : Nat) (ins : Bool) (ev : ByteArray) (more : Bool) (nx hr : Nat) (s : ByteArray) (i a b : Nat) (h : LkAt w lb ins ev more nx hr) (hnx : nx < 4294967296) (hhr : hr < 4294967296) (hi : i ≤ 31) (ha : a ≤ 31) (hb : b ≤ 31) :
    Calls Tryz.prog 242 #[.pointer (some ⟨lb, 0, none⟩), .int .i64 (i : Int), .agg #[.int .i64 (k : Int), .string s, .int .i64 (a : Int), .int .i64 (b : Int)]] w fun e w' => e = .returned (.bool (stepP k ins more (ev.toList == s.toList) (hr.testBit a) (hr.testBit b) (nx.testBit a) (nx.testBit i))) ∧ Below w.heap.size w w' := by
  have h' : k = 5 ∨ k = 6 ∨ k = 7 ∨ k = 8 ∨ k = 9 := by omega
  rcases h' with rfl | rfl | rfl | rfl | rfl
  · exact on_next w lb ins ev more nx hr s i a b h hnx hhr hi ha hb
  · exact on_weak w lb ins ev more nx hr s i a b h hnx hhr hi ha hb
  · exact on_fin w lb ins ev more nx hr s i a b h hnx hhr hi ha hb
  · exact on_glob w lb ins ev more nx hr s i a b h hnx hhr hi ha hb
  · exact on_until w lb ins ev more nx hr s i a b h hnx hhr hi ha hb
theorem LkAt.later {w w' : World} {lb : Nat} {ins : Bool} {ev : ByteArray} {more : Bool} {nx hr : Nat} (h : LkAt w lb ins ev more nx hr) (hb : Below w.heap.size w w') : LkAt w' lb ins ev more nx hr := (hb.block lb (lt_of_blk h)).trans h
set_option maxHeartbeats 1000000 in
set_option maxRecDepth 100000 in
theorem look_onward (k : Nat) (hk : 5 ≤ k) (hk' : k ≤ 9) (w : World) (lb : Nat) (ins : Bool) (ev : ByteArray) (more : Bool) (nx hr : Nat) (s : ByteArray) (i a b : Nat) (h : LkAt w lb ins ev more nx hr) (hnx : nx < 4294967296) (hhr : hr < 4294967296) (hi : i ≤ 31) (ha : a ≤ 31) (hb : b ≤ 31) :
    Calls Tryz.prog 197 #[.pointer (some ⟨lb, 0, none⟩), .int .i64 (i : Int), .agg #[.int .i64 (k : Int), .string s, .int .i64 (a : Int), .int .i64 (b : Int)]] w fun e w' => e = .returned (.bool (stepP k ins more (ev.toList == s.toList) (hr.testBit a) (hr.testBit b) (nx.testBit a) (nx.testBit i))) ∧ Below w.heap.size w w' := by
  have HC := hide (fun W h => onward_any k hk hk' W lb ins ev more nx hr s i a b h hnx hhr hi ha hb)
  have HL := hide h
  generalize stepP k ins more (ev.toList == s.toList) (hr.testBit a) (hr.testBit b) (nx.testBit a) (nx.testBit i) = B at *
  clear h hnx hhr hi ha hb
  have h' : k = 5 ∨ k = 6 ∨ k = 7 ∨ k = 8 ∨ k = 9 := by omega
  rcases h' with rfl | rfl | rfl | rfl | rfl
  all_goals
    go_enter Tryz.func197, Tryz.ntmps197
    go_wp2_with (go_at_call 242; refine (unhide HC _ ((unhide HL).later ((Below.refl _ _).alloc (Nat.le_refl _) _))).mono ?_)
    rintro e w1 ⟨rfl, hb1⟩
    have HB1 := hide hb1
    clear hb1
    go_wp2_with fail
    go_ret
    exact ⟨rfl, ((Below.refl _ _).alloc (Nat.le_refl _) _).trans ((unhide HB1).mono (by simp))⟩
theorem look_any (k : Nat) (hk : k ≤ 12) (w : World) (lb : Nat) (ins : Bool) (ev : ByteArray) (more : Bool) (nx hr : Nat) (s : ByteArray) (i a b : Nat) (h : LkAt w lb ins ev more nx hr) (hnx : nx < 4294967296) (hhr : hr < 4294967296) (hi : i ≤ 31) (ha : a ≤ 31) (hb : b ≤ 31) :
    Calls Tryz.prog 197 #[.pointer (some ⟨lb, 0, none⟩), .int .i64 (i : Int), .agg #[.int .i64 (k : Int), .string s, .int .i64 (a : Int), .int .i64 (b : Int)]] w fun e w' => e = .returned (.bool (stepP k ins more (ev.toList == s.toList) (hr.testBit a) (hr.testBit b) (nx.testBit a) (nx.testBit i))) ∧ Below w.heap.size w w' := by
  have h' : k = 0 ∨ k = 1 ∨ k = 2 ∨ k = 3 ∨ k = 4 ∨ (5 ≤ k ∧ k ≤ 9) ∨ k = 10 ∨ k = 11 ∨ k = 12 := by omega
  rcases h' with rfl | rfl | rfl | rfl | rfl | ⟨h1, h2⟩ | rfl | rfl | rfl
  · exact lk_act w lb ins ev more nx hr s i a b h hnx hhr hi ha hb
  · exact lk_true w lb ins ev more nx hr s i a b h hnx hhr hi ha hb
  · exact lk_false w lb ins ev more nx hr s i a b h hnx hhr hi ha hb
  · exact lk_end w lb ins ev more nx hr s i a b h hnx hhr hi ha hb
  · exact lk_not w lb ins ev more nx hr s i a b h hnx hhr hi ha hb
  · exact look_onward k h1 h2 w lb ins ev more nx hr s i a b h hnx hhr hi ha hb
  · exact lk_and w lb ins ev more nx hr s i a b h hnx hhr hi ha hb
  · exact lk_or w lb ins ev more nx hr s i a b h hnx hhr hi ha hb
  · exact lk_imp w lb ins ev more nx hr s i a b h hnx hhr hi ha hb
theorem or_bit32 (H i : Nat) (hH : H < 4294967296) (hi : i ≤ 31) : bits BinOp.or IntKind.u32 (H : Int) (2 ^ i % 4294967296) = ((H ||| 2 ^ i : Nat) : Int) := by
  have h2 : (2 : Nat) ^ i < 4294967296 := Nat.lt_of_le_of_lt (Nat.pow_le_pow_right (by decide) hi) (by decide)
  have e : (2 : Int) ^ i % 4294967296 = ((2 ^ i : Nat) : Int) := by
    rw [show (2 : Int) ^ i = ((2 ^ i : Nat) : Int) by simp]
    generalize 2 ^ i = z at *
    omega
  rw [e]; exact or32 H (2 ^ i) hH h2
def StS (w : World) (o : Option Addr) (S : List Sp) : Prop := ∀ j d, S[j]? = some d → ∃ g, o = some ⟨g, 0, none⟩ ∧ g < w.heap.size ∧ w.cell? ⟨g, j * 4, none⟩ = some (.int .i64 (d.k : Int)) ∧ w.cell? ⟨g, j * 4 + 1, none⟩ = some (.string d.s) ∧ w.cell? ⟨g, j * 4 + 2, none⟩ = some (.int .i64 (d.a : Int)) ∧ w.cell? ⟨g, j * 4 + 3, none⟩ = some (.int .i64 (d.b : Int))
theorem StS.later {w w' : World} {o : Option Addr} {S : List Sp} (h : StS w o S) (hb : Below w.heap.size w w') : StS w' o S := fun j d hd => by
  obtain ⟨g, h1, h2, h3, h4, h5, h6⟩ := h j d hd
  exact ⟨g, h1, Nat.lt_of_lt_of_le h2 hb.size, (bcell3 hb _ _ h2).trans h3, (bcell3 hb _ _ h2).trans h4, (bcell3 hb _ _ h2).trans h5, (bcell3 hb _ _ h2).trans h6⟩
theorem StS.of {w : World} {base : Nat} {o : Option Addr} {c : Nat} {S : List Sp} (h : w.ownsRow base 319 4 (.slice o S.length c) S.length (spC S)) : StS w o S := by
  intro j d hd
  have hj : j < S.length := by
    rcases Nat.lt_or_ge j S.length with h | h
    · exact h
    · rw [List.getElem?_eq_none h] at hd; cases hd
  obtain ⟨_, ⟨h1, h2⟩ | ⟨g, cap, cur, hv, _, hrow, hle, _, hcs, htake⟩⟩ := h
  · omega
  · cases hv
    have key : ∀ m, m < 4 → w.cell? ⟨g, j * 4 + m, none⟩ = (stC d)[m]? := by
      intro m hm
      rw [cell_of_blk hrow, ← Array.getElem?_toList, ← spC_at hd m hm, ← htake, List.getElem?_take, if_pos (by omega)]
    exact ⟨g, rfl, lt_of_blk hrow, key 0 (by omega), key 1 (by omega), key 2 (by omega), key 3 (by omega)⟩
structure StG (S : List Sp) : Prop where
  len : S.length ≤ 31
  k : ∀ d ∈ S, d.k ≤ 12
  a : ∀ d ∈ S, d.a ≤ 31
  b : ∀ d ∈ S, d.b ≤ 31
structure FSt (w W : World) (so : Option Addr) (n sc : Nat) (wh : Nat) (ins : Bool) (ev : ByteArray) (more : Bool) (nx hr : Nat) : Prop where
  wk : W.heap[w.heap.size]? = some (.cells #[.slice so n sc, .int .u32 (wh : Int)] 149 (0, 0))
  lk : LkAt W (w.heap.size + 1) ins ev more nx hr
  bel : Below w.heap.size w W
theorem FSt.later {w W W' : World} {so : Option Addr} {n sc : Nat} {wh : Nat} {ins : Bool} {ev : ByteArray} {more : Bool} {nx hr : Nat} (h : FSt w W so n sc wh ins ev more nx hr) (hb : Below W.heap.size W W') : FSt w W' so n sc wh ins ev more nx hr :=
  ⟨(hb.block _ (lt_of_blk h.wk)).trans h.wk, h.lk.later hb, h.bel.trans (hb.mono h.bel.size)⟩
theorem FSt.set {w W : World} {so : Option Addr} {n sc : Nat} {wh : Nat} {ins : Bool} {ev : ByteArray} {more : Bool} {nx hr : Nat} (h : FSt w W so n sc wh ins ev more nx hr) (z : Int) (hr' : Nat) (hz : z = (hr' : Int)) : FSt w (W.setCell ⟨w.heap.size + 1, 4, none⟩ (.int .u32 z)) so n sc wh ins ev more nx hr' := by
  subst hz
  refine ⟨(Below.heap_setCell _ _ _ _ (by show w.heap.size ≠ w.heap.size + 1; omega)).trans h.wk, blk_set h.lk 4 _, h.bel.grown (grown_set _ _ _ _) h.bel.size (fun b hb => by cases hb; omega)⟩
set_option maxHeartbeats 4000000 in
set_option maxRecDepth 100000 in
theorem fill_any (w : World) (S : List Sp) (so : Option Addr) (sc wh : Nat) (ins : Bool) (ev : ByteArray) (more : Bool) (nx : Nat) (hS : StS w so S) (hG : StG S) (hnx : nx < 4294967296) :
    Calls Tryz.prog 167 #[.agg #[.slice so S.length sc, .int .u32 (wh : Int)], .agg #[.bool ins, .string ev, .bool more, .int .u32 (nx : Int), .int .u32 0]] w fun e w' => e = .returned (.int .u32 (fillN S ins ev more nx : Nat)) ∧ Below w.heap.size w w' := by
  have HS := hide hS
  have HG := hide hG
  have hlen := hG.len
  clear hS hG
  have HF0 : Hid (FSt w ((w.alloc (.cells #[.slice so S.length sc, .int .u32 (wh : Int)] 149)).alloc (.cells #[.bool ins, .string ev, .bool more, .int .u32 (nx : Int), .int .u32 0] 277)) so S.length sc wh ins ev more nx 0) :=
    ⟨(Below.heap_alloc _ _ _ (by simp)).trans (blk_alloc _ _), blk_alloc' _ _ _ (by simp), ((Below.refl _ _).alloc (Nat.le_refl _) _).alloc (by simp) _⟩
  go_enter Tryz.func167, Tryz.ntmps167
  go_wp2_with fail
  generalize ((w.alloc (.cells #[.slice so S.length sc, .int .u32 (wh : Int)] 149)).alloc (.cells #[.bool ins, .string ev, .bool more, .int .u32 (nx : Int), .int .u32 0] 277)) = W0 at *
  go_loopw [10] (fun x wr => ∃ i : Nat, i ≤ S.length ∧ x = .int .i64 i ∧ Hid (FSt w wr so S.length sc wh ins ev more nx (hereN S ins ev more nx i))) (fun x _ => S.length - (intOf x).toNat)
  case atStart => exact ⟨0, Nat.zero_le _, rfl, HF0⟩
  case round =>
    obtain ⟨i, hi, rfl, HF⟩ := hrel
    by_cases hlt : i < S.length
    · have hin : (i : Int) < (S.length : Int) := by omega
      have hd : S[i]? = some S[i] := List.getElem?_eq_getElem hlt
      obtain ⟨g, hso, hg, c0, c1, c2, c3⟩ := (unhide HS).later (unhide HF).bel i S[i] hd
      have hdm : S[i] ∈ S := List.getElem_mem hlt
      have hdk := (unhide HG).k _ hdm
      have hda := (unhide HG).a _ hdm
      have hdb := (unhide HG).b _ hdm
      have HSTB : Hid (hereN S ins ev more nx (i + 1) = hereN S ins ev more nx i + (if stepP S[i].k ins more (ev.toList == S[i].s.toList) ((hereN S ins ev more nx i).testBit S[i].a) ((hereN S ins ev more nx i).testBit S[i].b) (nx.testBit S[i].a) (nx.testBit i) = true then 2 ^ i else 0)) := by
        show _ = _
        rw [hereN]
        unfold stB
        rw [hd]
      have hpl : hereN S ins ev more nx i < 4294967296 := Nat.lt_of_lt_of_le (hereN_lt S ins ev more nx i) (Nat.le_trans (Nat.pow_le_pow_right (by decide) (show i ≤ 32 by omega)) (by decide))
      have HOR := hide (hereN_or S ins ev more nx i)
      subst hso
      clear hd hdm
      generalize S[i] = d at *
      have hwlt := lt_of_blk (unhide HF).wk
      have hllt := lt_of_blk (unhide HF).lk
      go_wp2_with (go_at_call 197; refine (look_any d.k hdk _ (w.heap.size + 1) ins ev more nx (hereN S ins ev more nx i) d.s i d.a d.b (((unhide HF).later ((Below.refl _ _).alloc (Nat.le_refl _) _)).lk) hnx hpl (by omega) hda hdb).mono ?_)
      rintro e w1 ⟨rfl, hb1⟩
      have HF1 := hide ((((unhide HF).later ((Below.refl _ _).alloc (Nat.le_refl _) (.cells #[.int .i64 (d.k : Int), .string d.s, .int .i64 (d.a : Int), .int .i64 (d.b : Int)] 319)))).later hb1)
      clear hb1 HF c0 c1 c2 c3
      generalize hB : stepP d.k ins more (ev.toList == d.s.toList) ((hereN S ins ev more nx i).testBit d.a) ((hereN S ins ev more nx i).testBit d.b) (nx.testBit d.a) (nx.testBit i) = B at *
      clear hB
      have lc := fun o => cell_of_blk (unhide HF1).lk o
      have lf := fun o => frozen_of_blk (unhide HF1).lk o
      have hllt1 := lt_of_blk (unhide HF1).lk
      cases B with
      | false =>
        go_wp2_with fail
        go_roundw
        case rel => exact ⟨i + 1, by omega, by go_num, by rw [unhide HSTB]; simpa using HF1⟩
        case measure => simp [intOf]; omega
      | true =>
        generalize hereN S ins ev more nx i = H at *
        go_wp2_with fail
        go_region
        have HF2 := hide (((unhide HF1).set (bits BinOp.or IntKind.u32 (H : Int) (2 ^ i % 4294967296)) (H + 2 ^ i) (by rw [or_bit32 H i hpl (by omega), unhide HOR])).later ((Below.refl _ _).drew))
        generalize (w1.setCell ⟨w.heap.size + 1, 4, none⟩ (.int .u32 (bits BinOp.or IntKind.u32 (H : Int) (2 ^ i % 4294967296)))).drew = w2 at *
        generalize bits BinOp.or IntKind.u32 (H : Int) (2 ^ i % 4294967296) = z at *
        clear lc lf hllt1
        go_wp2_with fail
        go_roundw
        case rel => exact ⟨i + 1, by omega, by go_num, by rw [unhide HSTB]; simpa using HF2⟩
        case measure => simp [intOf]; omega
    · have hin : ¬ (i : Int) < (S.length : Int) := by omega
      have hie : i = S.length := by omega
      subst hie
      have hpl : hereN S ins ev more nx S.length < 4294967296 := Nat.lt_of_lt_of_le (hereN_lt S ins ev more nx S.length) (Nat.le_trans (Nat.pow_le_pow_right (by decide) (show S.length ≤ 32 by omega)) (by decide))
      have HOR := hide (hereN_or S ins ev more nx S.length)
      have HFI : Hid (fillN S ins ev more nx = hereN S ins ev more nx S.length + (if ins = true then 2 ^ S.length else 0)) := rfl
      have lc := fun o => cell_of_blk (unhide HF).lk o
      have lf := fun o => frozen_of_blk (unhide HF).lk o
      have wc := fun o => cell_of_blk (unhide HF).wk o
      have hllt1 := lt_of_blk (unhide HF).lk
      generalize hereN S ins ev more nx S.length = H at *
      cases ins with
      | false =>
        go_wp2_with fail
        go_ret
        have e : fillN S false ev more nx = H := by rw [unhide HFI]; simp
        rw [e]
        exact ⟨rfl, (unhide HF).bel⟩
      | true =>
        go_wp2_with fail
        go_region
        have HF2 := hide (((unhide HF).set (bits BinOp.or IntKind.u32 (H : Int) (2 ^ S.length % 4294967296)) (H + 2 ^ S.length) (by rw [or_bit32 H S.length hpl hlen, unhide HOR])).later ((Below.refl _ _).drew))
        have lc2 := fun o => cell_of_blk (unhide HF2).lk o
        have hll2 := lt_of_blk (unhide HF2).lk
        generalize (wr.setCell ⟨w.heap.size + 1, 4, none⟩ (.int .u32 (bits BinOp.or IntKind.u32 (H : Int) (2 ^ S.length % 4294967296)))).drew = w2 at *
        generalize bits BinOp.or IntKind.u32 (H : Int) (2 ^ S.length % 4294967296) = z at *
        have HFE : Hid (fillN S true ev more nx = H + 2 ^ S.length) := by show _ = _; rw [unhide HFI]; simp
        clear lc lf hllt1 wc HFI
        generalize H + 2 ^ S.length = F at *
        go_wp2_with fail
        go_ret
        rw [unhide HFE]
        exact ⟨rfl, (unhide HF2).bel⟩
end Go.Proofs.YtidakhhekofkoaaGreatDoor
