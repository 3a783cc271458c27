/- The reference's add: a formula's parts. -/
import Derived.Test.YtidakhhekofkoaaGreatDoorU20
import Derived.Deep.AppendLies
import Derived.Deep.RegionLaw
import Derived.BigQuiet
import Derived.Deep.RegionHeld
import Derived.Test.YtidakhhekofkoaaGreatDoorU02
import Derived.Test.YtidakhhekofkoaaGreatDoorU24
import Derived.Test.YtidakhhekofkoaaGreatDoorU16
import Derived.Deep.DeepCutAuto
set_option linter.unusedSimpArgs false
set_option linter.unusedSectionVars false
set_option linter.unusedVariables false
set_option maxRecDepth 100000
open List renaming setIfInBounds_toArray → zA, set_cons_zero → zB, set_cons_succ → zC, getElem_toArray → zD, getElem_cons_succ → zE, getElem_cons_zero → zF
namespace Go.Proofs.YtidakhhekofkoaaGreatDoor
open Go.RowKit Go.Deep
theorem Fg.ne {Q : Tk → Prop} {f : Fm} (h : Fg Q f) : f ≠ .nil := by
 intro e; subst e; exact h
end Go.Proofs.YtidakhhekofkoaaGreatDoor
namespace Go.Proofs.YtidakhhekofkoaaGreatDoor
open Go.Deep
def atT (tr : List ByteArray) (s : ByteArray) (i : Nat) : Bool := match i with
 | 0 => false
 | j + 1 => match tr[j]? with
  | some x => x.toList == s.toList
  | none => false
def holdsM (s : ByteArray) (tr : List ByteArray) : Bool × Nat :=
 match readM s with
 | .error x => (false, x.2)
 | .ok (al, rs) => if tr.all (fun x => hasN al x) = true then (rs.all (fun r => semF tr.length (atT tr) (ruleF r) 1), 0) else (false, 3)
theorem Fg.weak {Q R : Tk → Prop} (h : ∀ t, Q t → R t) : ∀ {f : Fm}, Fg Q f → Fg R f
 | .nil, hf => False.elim hf
 | .node _ _ a l r, hf => by
  rcases hf with ⟨h1, ⟨t, h2, h3⟩, h4⟩ | hf | ⟨h1, h2, h3⟩ | ⟨h1, h2, h3⟩
  ·exact Or.inl ⟨h1, ⟨t, h t h2, h3⟩, h4⟩
  ·exact Or.inr (Or.inl hf)
  ·exact Or.inr (Or.inr (Or.inl ⟨h1, Fg.weak h h2, h3⟩))
  ·exact Or.inr (Or.inr (Or.inr ⟨h1, Fg.weak h h2, Fg.weak h h3⟩))
def TkA (_ : Tk) : Prop := True
theorem Fg.act (s : ByteArray) : Fg TkA (acF s) := Or.inl ⟨rfl, ⟨⟨2, s, 0⟩, trivial, rfl, rfl, rfl⟩, rfl, rfl⟩
theorem timesF_fg (a : ByteArray) : ∀ n, Fg TkA (timesF a n)
 | 0 => Fg.one (by decide) (Fg.act a)
 | 1 => Fg.one (by decide) (Fg.act a)
 | n + 2 => Fg.one (by decide) (Fg.two (by decide) (Fg.act a) (Fg.one (by decide) (timesF_fg a (n + 1))))
theorem tplF_fg (k : Nat) (a b : ByteArray) (n : Nat) : Fg TkA (tplF k a b n) := by
 have ha := Fg.act a
 have hb := Fg.act b
 have ht : Fg TkA (leaf 1 ByteArray.empty 0) := Fg.word (by decide)
 unfold tplF
 repeat' split
 ·exact ha
 ·exact Fg.one (by decide) (Fg.two (by decide) ha (Fg.one (by decide) (Fg.one (by decide) ht)))
 ·exact timesF_fg a n
 ·exact Fg.one (by decide) (timesF_fg a n)
 ·exact Fg.one (by decide) (Fg.two (by decide) ha (Fg.one (by decide) hb))
 ·exact Fg.two (by decide) (Fg.two (by decide) (Fg.one (by decide) hb) ha) (Fg.one (by decide) (Fg.one (by decide) hb))
 ·exact Fg.one (by decide) (Fg.two (by decide) ha (Fg.one (by decide) hb))
 ·exact Fg.two (by decide) (Fg.one (by decide) hb) (Fg.one (by decide) (Fg.two (by decide) (Fg.one (by decide) hb) ha))
 ·exact Fg.two (by decide) (Fg.one (by decide) ha) (Fg.one (by decide) hb)
 ·exact Fg.one (by decide) (Fg.two (by decide) (Fg.one (by decide) ha) (Fg.one (by decide) hb))
 ·exact Fg.one (by decide) (Fg.two (by decide) ha (Fg.one (by decide) (Fg.one (by decide) (Fg.one (by decide) hb))))
 ·exact Fg.one (by decide) (Fg.two (by decide) ha (Fg.one (by decide) (Fg.one (by decide) hb)))
theorem MGood.fg {al : List Tk} {rs : List Rl} (h : MGood al rs) : ∀ r ∈ rs, Fg TkA (ruleF r) := by
 intro r hr
 unfold ruleF
 split
 ·exact tplF_fg _ _ _ _
 ·rename_i hc
  rcases h.rules r hr with ⟨h1, _⟩ | ⟨_, h2, _⟩
  ·exact absurd h1 hc
  ·exact h2.weak (fun _ _ => trivial)
theorem MGood.dist {al : List Tk} {rs : List Rl} (h : MGood al rs) : Dist al := dist_of (List.append_eq_nil_iff.1 h.nof).1
end Go.Proofs.YtidakhhekofkoaaGreatDoor
namespace Go.Proofs.YtidakhhekofkoaaGreatDoor
end Go.Proofs.YtidakhhekofkoaaGreatDoor
namespace Go.Proofs.YtidakhhekofkoaaGreatDoor
open Go.Deep
def stB (S : List Sp) (ins : Bool) (ev : ByteArray) (more : Bool) (nx hr k : Nat) : Bool := match S[k]? with
 | some d => stepP d.k ins more (ev.toList == d.s.toList) (hr.testBit d.a) (hr.testBit d.b) (nx.testBit d.a) (nx.testBit k)
 | none => false
def hereN (S : List Sp) (ins : Bool) (ev : ByteArray) (more : Bool) (nx : Nat) : Nat → Nat
 | 0 => 0
 | k + 1 => hereN S ins ev more nx k + (if stB S ins ev more nx (hereN S ins ev more nx k) k = true then 2 ^ k else 0)
def fillN (S : List Sp) (ins : Bool) (ev : ByteArray) (more : Bool) (nx : Nat) : Nat := hereN S ins ev more nx S.length + (if ins = true then 2 ^ S.length else 0)
theorem hereN_pre (S : List Sp) (ins : Bool) (ev : ByteArray) (more : Bool) (nx : Nat) : ∀ k, hereN S ins ev more nx k = preN (fun j => stB S ins ev more nx (hereN S ins ev more nx j) j) k
 | 0 => rfl
 | k + 1 => by rw [hereN, preN, ← hereN_pre S ins ev more nx k]
theorem hereN_lt (S : List Sp) (ins : Bool) (ev : ByteArray) (more : Bool) (nx k : Nat) : hereN S ins ev more nx k < 2 ^ k := by rw [hereN_pre]; exact preN_lt _ _
theorem hereN_or (S : List Sp) (ins : Bool) (ev : ByteArray) (more : Bool) (nx k : Nat) : hereN S ins ev more nx k ||| 2 ^ k = hereN S ins ev more nx k + 2 ^ k := by rw [hereN_pre]; exact preN_or _ _
theorem fillN_lt (S : List Sp) (ins : Bool) (ev : ByteArray) (more : Bool) (nx : Nat) : fillN S ins ev more nx < 2 ^ (S.length + 1) := by
 have := hereN_lt S ins ev more nx S.length
 unfold fillN
 rw [Nat.pow_succ]
 split <;> omega
theorem fillN_bit (S : List Sp) (ins : Bool) (ev : ByteArray) (more : Bool) (nx j : Nat) (hj : j < S.length) : (fillN S ins ev more nx).testBit j = stB S ins ev more nx (hereN S ins ev more nx j) j := by
 have e : fillN S ins ev more nx = preN (fun i => if i < S.length then stB S ins ev more nx (hereN S ins ev more nx i) i else ins) (S.length + 1) := by
  rw [preN, fillN, hereN_pre, if_neg (Nat.lt_irrefl _)]
  congr 1
  exact preN_congr (fun i hi => by rw [if_pos hi])
 rw [e, preN_bit _ _ _ (by omega), if_pos hj]
theorem fillN_top (S : List Sp) (ins : Bool) (ev : ByteArray) (more : Bool) (nx : Nat) : (fillN S ins ev more nx).testBit S.length = ins := by
 have e : fillN S ins ev more nx = preN (fun i => if i < S.length then stB S ins ev more nx (hereN S ins ev more nx i) i else ins) (S.length + 1) := by
  rw [preN, fillN, hereN_pre, if_neg (Nat.lt_irrefl _)]
  congr 1
  exact preN_congr (fun i hi => by rw [if_pos hi])
 rw [e, preN_bit _ _ _ (by omega), if_neg (Nat.lt_irrefl _)]
theorem hereN_bit (S : List Sp) (ins : Bool) (ev : ByteArray) (more : Bool) (nx j k : Nat) (hj : j < k) : (hereN S ins ev more nx k).testBit j = stB S ins ev more nx (hereN S ins ev more nx j) j := by
 rw [hereN_pre, preN_bit _ _ _ hj]
def PlOk (G : List Fm) (n : Nat) (y : ByteArray → Nat → Bool) (p i : Nat) : Prop := (∀ j f, G[j]? = some f → p.testBit j = semF n y f i) ∧ p.testBit G.length = decide (i ≤ n)
def KOk : Fm → Prop
 | .nil => True
 | .node _ _ a l r => a.1 ≤ 12 ∧ (a.1 = 0 ∨ a.1 = 1 ∨ a.1 = 2 ∨ a.1 = 3 ∨ l ≠ .nil) ∧ (a.1 < 9 ∨ r ≠ .nil) ∧ KOk l ∧ KOk r
theorem Fg.kok {Q : Tk → Prop} : ∀ {f : Fm}, Fg Q f → KOk f
 | .nil, h => False.elim h
 | .node _ _ a l r, h => by
  rcases h with ⟨h1, _, rfl, rfl⟩ | ⟨h1, rfl, rfl⟩ | ⟨h1, h2, rfl⟩ | ⟨h1, h2, h3⟩
  ·exact ⟨by omega, Or.inl h1, Or.inl (by omega), trivial, trivial⟩
  ·exact ⟨by omega, by omega, Or.inl (by omega), trivial, trivial⟩
  ·exact ⟨by omega, Or.inr (Or.inr (Or.inr (Or.inr h2.ne))), Or.inl (by omega), Fg.kok h2, trivial⟩
  ·exact ⟨by omega, Or.inr (Or.inr (Or.inr (Or.inr h2.ne))), Or.inr h3.ne, Fg.kok h2, Fg.kok h3⟩
theorem subs_kok : ∀ {f : Fm}, KOk f → ∀ g ∈ subs f, KOk g
 | .nil, _, g, hg => (List.not_mem_nil hg).elim
 | .node u v a l r, h, g, hg => by
  rw [subs] at hg
  rcases List.mem_append.1 hg with hg | hg
  ·rcases List.mem_append.1 hg with hg | hg
   ·exact subs_kok h.2.2.2.1 g hg
   ·exact subs_kok h.2.2.2.2 g hg
  ·rcases List.mem_singleton.1 hg with rfl
   exact h
theorem subsM_kok {rs : List Rl} (h : ∀ r ∈ rs, KOk (ruleF r)) : ∀ g ∈ subsM rs, KOk g := by
 intro g hg
 unfold subsM at hg
 obtain ⟨l, hl, hgl⟩ := List.mem_flatten.1 hg
 obtain ⟨r, hr, rfl⟩ := List.mem_map.1 hl
 exact subs_kok (h r hr) g hgl
theorem stepP_leaf {k : Nat} (h : k = 0 ∨ k = 1 ∨ k = 2 ∨ k = 3) (ins more y u v u' x u2 v2 u2' x2 : Bool) : stepP k ins more y u v u' x = stepP k ins more y u2 v2 u2' x2 := by
 rcases h with rfl | rfl | rfl | rfl <;> rfl
theorem stepP_one {k : Nat} (h : k < 9) (ins more y u v u' x v2 : Bool) : stepP k ins more y u v u' x = stepP k ins more y u v2 u' x := by
 have h : k = 0 ∨ k = 1 ∨ k = 2 ∨ k = 3 ∨ k = 4 ∨ k = 5 ∨ k = 6 ∨ k = 7 ∨ k = 8 := by omega
 rcases h with rfl | rfl | rfl | rfl | rfl | rfl | rfl | rfl | rfl <;> rfl
theorem fill_ok {S : List Sp} {G : List Fm} (hs : StOk S G) (hk : ∀ g ∈ G, KOk g) (n : Nat) (y : ByteArray → Nat → Bool) (yy : ByteArray → Nat → Bool) (hy : ∀ s i, y s i = (decide (i ≤ n) && yy s i)) (ev : ByteArray) (i : Nat)
  (hev : i ≤ n → ∀ s, yy s i = (ev.toList == s.toList)) (nx : Nat) (hnx : i ≤ n → PlOk G n y nx (i + 1)) :
  PlOk G n y (fillN S (decide (i ≤ n)) ev (decide (i + 1 ≤ n)) nx) i := by
 have key : ∀ k, k ≤ S.length → ∀ j, j < k → ∀ f, G[j]? = some f → stB S (decide (i ≤ n)) ev (decide (i + 1 ≤ n)) nx (hereN S (decide (i ≤ n)) ev (decide (i + 1 ≤ n)) nx j) j = semF n y f i := by
  intro k
  induction k with
  | zero => intro _ j hj; omega
  | succ k ih =>
   intro hkl j hj f hf
   by_cases hjk : j < k
   ·exact ih (by omega) j hjk f hf
   have hjk : j = k := by omega
   subst hjk
   have ih := ih (by omega)
   obtain ⟨d, hd⟩ : ∃ d, S[j]? = some d := ⟨_, List.getElem?_eq_getElem (by omega)⟩
   have hst := hs.2 j d f hd hf
   have hkf := hk f (List.mem_of_getElem? hf)
   cases f with
   | nil => exact False.elim hst
   | node u v a l r =>
    obtain ⟨h1, h2, h3, h4⟩ := hst
    unfold stB
    rw [hd]
    show stepP d.k _ _ _ _ _ _ _ = opV a.1 (y a.2.1 i) (semF n y l) (semF n y r) i n
    rw [hy, opV_step a.1 (yy a.2.1) (semF n y l) (semF n y r) i n hkf.1, h1, h2]
    have hev' : stepP a.1 (decide (i ≤ n)) (decide (i + 1 ≤ n)) (ev.toList == a.2.1.toList) (semF n y l i) (semF n y r i) (semF n y l (i + 1)) (opV a.1 (decide (i + 1 ≤ n) && yy a.2.1 (i + 1)) (semF n y l) (semF n y r) (i + 1) n) = stepP a.1 (decide (i ≤ n)) (decide (i + 1 ≤ n)) (yy a.2.1 i) (semF n y l i) (semF n y r i) (semF n y l (i + 1)) (opV a.1 (decide (i + 1 ≤ n) && yy a.2.1 (i + 1)) (semF n y l) (semF n y r) (i + 1) n) := by
     by_cases hi : i ≤ n
     ·rw [hev hi]
     ·by_cases hk0 : a.1 = 0
      ·rw [hk0, decide_eq_false hi]; rfl
      ·unfold stepP; rw [if_neg hk0, if_neg hk0]
    rw [← hev']
    have hfut : i ≤ n → nx.testBit j = opV a.1 (decide (i + 1 ≤ n) && yy a.2.1 (i + 1)) (semF n y l) (semF n y r) (i + 1) n := by
     intro hi
     rw [(hnx hi).1 j _ hf]
     show opV a.1 (y a.2.1 (i + 1)) _ _ _ _ = _
     rw [hy]
    have hx : ∀ u' x u2 x2 : Bool, (i ≤ n → u' = u2) → (i ≤ n → x = x2) → ∀ u v, stepP a.1 (decide (i ≤ n)) (decide (i + 1 ≤ n)) (ev.toList == a.2.1.toList) u v u' x = stepP a.1 (decide (i ≤ n)) (decide (i + 1 ≤ n)) (ev.toList == a.2.1.toList) u v u2 x2 := by
     intro u' x u2 x2 e1 e2 u v
     by_cases hi : i ≤ n
     ·rw [e1 hi, e2 hi]
     ·rw [decide_eq_false hi, decide_eq_false (show ¬ i + 1 ≤ n by omega)]
      have hk12 := hkf.1
      have h : a.1 = 0 ∨ a.1 = 1 ∨ a.1 = 2 ∨ a.1 = 3 ∨ a.1 = 4 ∨ a.1 = 5 ∨ a.1 = 6 ∨ a.1 = 7 ∨ a.1 = 8 ∨ a.1 = 9 ∨ a.1 = 10 ∨ a.1 = 11 ∨ a.1 = 12 := by omega
      rcases h with h | h | h | h | h | h | h | h | h | h | h | h | h <;> rw [h] <;> rfl
    have hbit : ∀ b g, b < j → G[b]? = some g → (hereN S (decide (i ≤ n)) ev (decide (i + 1 ≤ n)) nx j).testBit b = semF n y g i := by
     intro b g hb hg
     rw [hereN_bit _ _ _ _ _ _ _ hb]
     exact ih b hb g hg
    rcases hkf.2.1 with hk0 | hk0 | hk0 | hk0 | hln
    ·exact stepP_leaf (Or.inl hk0) _ _ _ _ _ _ _ _ _ _ _
    ·exact stepP_leaf (Or.inr (Or.inl hk0)) _ _ _ _ _ _ _ _ _ _ _
    ·exact stepP_leaf (Or.inr (Or.inr (Or.inl hk0))) _ _ _ _ _ _ _ _ _ _ _
    ·exact stepP_leaf (Or.inr (Or.inr (Or.inr hk0))) _ _ _ _ _ _ _ _ _ _ _
    ·rcases h3 with h3 | ⟨h3, h3'⟩
     ·exact absurd h3 hln
     have hl := hbit d.a l h3 h3'
     have hl' : i ≤ n → nx.testBit d.a = semF n y l (i + 1) := fun hi => (hnx hi).1 d.a l h3'
     rcases hkf.2.2.1 with hk9 | hrn
     ·rw [hl, stepP_one hk9 _ _ _ _ _ _ _ (semF n y r i)]
      exact hx _ _ _ _ hl' hfut _ _
     ·rcases h4 with h4 | ⟨h4, h4'⟩
      ·exact absurd h4 hrn
      rw [hl, hbit d.b r h4 h4']
      exact hx _ _ _ _ hl' hfut _ _
 refine ⟨fun j f hf => ?_, ?_⟩
 ·have hj : j < S.length := by
   rw [hs.1]
   rcases Nat.lt_or_ge j G.length with h | h
   ·exact h
   ·rw [List.getElem?_eq_none h] at hf; cases hf
  rw [fillN_bit _ _ _ _ _ _ hj]
  exact key S.length (Nat.le_refl _) j hj f hf
 ·rw [← hs.1, fillN_top]
def walkB (S : List Sp) : List ByteArray → Nat
 | [] => fillN S false ⟨#[]⟩ false 0
 | ev :: r => fillN S true ev ((walkB S r).testBit S.length) (walkB S r)
theorem walkB_lt (S : List Sp) : ∀ tr, walkB S tr < 2 ^ (S.length + 1)
 | [] => fillN_lt _ _ _ _ _
 | _ :: _ => fillN_lt _ _ _ _ _
def yT (tr : List ByteArray) (s : ByteArray) (i : Nat) : Bool := match i with
 | 0 => false
 | j + 1 => (tr.getD j ⟨#[]⟩).toList == s.toList
theorem atT_y (tr : List ByteArray) (s : ByteArray) (i : Nat) : atT tr s i = (decide (i ≤ tr.length) && yT tr s i) := by
 cases i with
 | zero => simp [atT, yT]
 | succ j =>
  simp only [atT, yT]
  by_cases h : j < tr.length
  ·rw [List.getElem?_eq_getElem h, decide_eq_true (show j + 1 ≤ tr.length by omega), Bool.true_and, List.getD_eq_getElem?_getD, List.getElem?_eq_getElem h]; rfl
  ·rw [List.getElem?_eq_none (by omega), decide_eq_false (show ¬ j + 1 ≤ tr.length by omega)]; rfl
theorem walk_ok {S : List Sp} {G : List Fm} (hs : StOk S G) (hk : ∀ g ∈ G, KOk g) (tr : List ByteArray) : ∀ (c j : Nat), j + c = tr.length → PlOk G tr.length (atT tr) (walkB S (tr.drop j)) (j + 1)
 | 0, j, h => by
  rw [List.drop_eq_nil_of_le (by omega), walkB]
  have := fill_ok hs hk tr.length (atT tr) (yT tr) (atT_y tr) ⟨#[]⟩ (j + 1) (fun h' => by omega) 0 (fun h' => by omega)
  rw [decide_eq_false (show ¬ j + 1 ≤ tr.length by omega), decide_eq_false (show ¬ j + 1 + 1 ≤ tr.length by omega)] at this
  exact this
 | c + 1, j, h => by
  have hj : j < tr.length := by omega
  have ih := walk_ok hs hk tr c (j + 1) (by omega)
  have hd : tr.drop j = tr[j] :: tr.drop (j + 1) := List.drop_eq_getElem_cons hj
  rw [hd, walkB, hs.1, ih.2]
  have := fill_ok hs hk tr.length (atT tr) (yT tr) (atT_y tr) tr[j] (j + 1) (fun _ s => by simp only [yT, List.getD_eq_getElem?_getD, List.getElem?_eq_getElem hj, Option.getD_some]) (walkB S (tr.drop (j + 1))) (fun _ => ih)
  rw [decide_eq_true (show j + 1 ≤ tr.length by omega)] at this
  exact this
def wholeM : List Rl → List Sp → Nat → Nat
 | [], _, w => w
 | r :: rs, S, w => wholeM rs (appS (ruleF r) S) (w ||| 2 ^ ((appS (ruleF r) S).length - 1))
theorem wholeM_snoc (r : Rl) : ∀ (rs : List Rl) (S : List Sp) (w : Nat), wholeM (rs ++ [r]) S w = (wholeM rs S w ||| 2 ^ ((stepsM (rs ++ [r]) S).length - 1))
 | [], S, w => rfl
 | x :: rs, S, w => by rw [List.cons_append, wholeM, wholeM_snoc r rs]; rfl
theorem and_or_bit (p w t : Nat) : (p &&& (w ||| 2 ^ t) == (w ||| 2 ^ t)) = ((p &&& w == w) && p.testBit t) := by
 rw [Bool.eq_iff_iff, Bool.and_eq_true, beq_iff_eq, beq_iff_eq]
 constructor
 ·intro h
  have hb : ∀ j, (p.testBit j && (w.testBit j || decide (t = j))) = (w.testBit j || decide (t = j)) := by
   intro j
   have := congrArg (fun x => x.testBit j) h
   simpa [Nat.testBit_and, Nat.testBit_or, Nat.testBit_two_pow] using this
  refine ⟨Nat.eq_of_testBit_eq (fun j => ?_), ?_⟩
  ·rw [Nat.testBit_and]
   have := hb j
   cases hw : w.testBit j with
   | false => simp
   | true => rw [hw] at this; simpa using this
  ·have := hb t
   simpa using this
 ·rintro ⟨h1, h2⟩
  refine Nat.eq_of_testBit_eq (fun j => ?_)
  rw [Nat.testBit_and, Nat.testBit_or, Nat.testBit_two_pow]
  have := congrArg (fun x => x.testBit j) h1
  simp only [Nat.testBit_and] at this
  by_cases e : t = j
  ·subst e; simp [h2]
  ·simp [e]; simpa using this
theorem whole_ok (n : Nat) (y : ByteArray → Nat → Bool) (p i : Nat) : ∀ (rs : List Rl) (S : List Sp) (G : List Fm) (w : Nat), StOk S G → (∀ r ∈ rs, ruleF r ≠ .nil) → (∀ j f, (G ++ subsM rs)[j]? = some f → p.testBit j = semF n y f i) →
  (p &&& wholeM rs S w == wholeM rs S w) = ((p &&& w == w) && rs.all (fun r => semF n y (ruleF r) i))
 | [], S, G, w, _, _, _ => by simp [wholeM]
 | r :: rs, S, G, w, hs, hn, hp => by
  have hr := hn r (List.mem_cons_self ..)
  have h1 := appS_ok (ruleF r) S G hs
  rw [wholeM, whole_ok n y p i rs _ (G ++ subs (ruleF r)) _ h1 (fun r' h' => hn r' (List.mem_cons_of_mem _ h')) (fun j f hf => hp j f (by rw [subsM_cons, ← List.append_assoc]; exact hf)), and_or_bit, List.all_cons, Bool.and_assoc]
  congr 2
  have hl := subs_last hr G
  have e : (appS (ruleF r) S).length - 1 = G.length + sizeF (ruleF r) - 1 := by rw [appS_len, hs.1]
  rw [e]
  refine hp _ _ ?_
  rw [subsM_cons, ← List.append_assoc, List.getElem?_append_left]
  ·exact hl
  ·rw [List.length_append, subs_len]
   have := sizeF_pos' hr
   omega
theorem keeps_ok {al : List Tk} {rs : List Rl} (h : MGood al rs) (tr : List ByteArray) :
  (walkB (stepsM rs []) tr &&& wholeM rs [] 0 == wholeM rs [] 0) = rs.all (fun r => semF tr.length (atT tr) (ruleF r) 1) := by
 have hs : StOk (stepsM rs []) (subsM rs) := by simpa using stepsM_ok rs [] [] StOk.nil
 have hw := walk_ok hs (subsM_kok (fun r hr => (h.fg r hr).kok)) tr tr.length 0 (by omega)
 have := whole_ok tr.length (atT tr) (walkB (stepsM rs []) tr) 1 rs [] [] 0 StOk.nil (fun r hr => (h.fg r hr).ne) (fun j f hf => hw.1 j f (by simpa using hf))
 rw [this]
 simp
end Go.Proofs.YtidakhhekofkoaaGreatDoor
namespace Go.Proofs.YtidakhhekofkoaaGreatDoor
def nmA (al : List Tk) (a : Nat) : ByteArray := ((al[a]?).map (·.s)).getD ⟨#[]⟩
def p0P (S : List Sp) : Nat := fillN S false ⟨#[]⟩ false 0
def ahP (S : List Sp) (al : List Tk) (p a : Nat) : Nat := fillN S true (nmA al a) (p.testBit S.length) p
def keepP (w p : Nat) : Bool := p &&& w == w
theorem plcP (S : List Sp) (al : List Tk) : ∀ v : List Nat, plc (p0P S) (ahP S al) v = walkB S (v.map (nmA al))
 | [] => rfl
 | a :: v => by
  rw [plc, plcP S al v]
  rfl
theorem nmA_has {al : List Tk} (hd : Dist al) {a : Nat} (ha : a < al.length) : hasN al (nmA al a) = true ∧ numI (nmA al a) 0 al = (a : Int) := by
 have hal : al[a]? = some al[a] := List.getElem?_eq_getElem ha
 have hn : nmA al a = al[a].s := by unfold nmA; rw [hal]; rfl
 have hm : ∀ (l : List Tk) (t : Tk), t ∈ l → hasN l t.s = true := by
  intro l t
  induction l with
  | nil => intro h; exact (List.not_mem_nil h).elim
  | cons x r ih =>
   intro h
   rw [hasN]
   by_cases e : x.s.toList = t.s.toList
   ·rw [if_pos e]
   ·rw [if_neg e]
    rcases List.mem_cons.1 h with h | h
    ·rw [h] at e; exact absurd rfl e
    ·exact ih h
 have hh : hasN al (nmA al a) = true := by rw [hn]; exact hm al _ (List.getElem_mem ha)
 refine ⟨hh, ?_⟩
 rcases numI_spec (nmA al a) 0 al with ⟨_, j, t, h1, h2, h3⟩ | ⟨h, _⟩
 ·have := hd j a t al[a] h1 hal (h2.trans (by rw [hn]))
  rw [h3, this, Nat.zero_add]
 ·rw [hh] at h; cases h
theorem keepP_holds {s : ByteArray} {al : List Tk} {rs : List Rl} (hr : readM s = .ok (al, rs)) (v : List Nat) (hv : ∀ a ∈ v, a < al.length) :
  holdsM s (v.map (nmA al)) = (keepP (wholeM rs [] 0) (plc (p0P (stepsM rs [])) (ahP (stepsM rs []) al) v), 0) := by
 have h := readM_good hr
 have ht : (v.map (nmA al)).all (fun x => hasN al x) = true := List.all_eq_true.2 fun x hx => by
  obtain ⟨a, ha, rfl⟩ := List.mem_map.1 hx
  exact (nmA_has h.dist (hv a ha)).1
 unfold holdsM
 rw [hr]
 simp only
 rw [if_pos ht, plcP]
 exact congrArg (fun b => (b, 0)) (keeps_ok h (v.map (nmA al))).symm
theorem nodup_le : ∀ (B : Nat) (l : List Nat), l.Nodup → (∀ x ∈ l, x < B) → l.length ≤ B
 | 0, l, _, h => by
  cases l with
  | nil => exact Nat.le_refl _
  | cons x r => exact absurd (h x (List.mem_cons_self ..)) (Nat.not_lt_zero _)
 | B + 1, l, hn, h => by
  have h1 := nodup_le B (l.erase B) (hn.erase B) (fun x hx => by
   have hx' := h x (List.mem_of_mem_erase hx)
   have hne : x ≠ B := fun e => by
    rw [e] at hx
    exact (hn.not_mem_erase) hx
   omega)
  rw [List.length_erase] at h1
  split at h1 <;> omega
section
variable {σ : Type} [DecidableEq σ]
theorem bfs_end {st : σ → Nat → σ} {acts : List Nat} {mx n k : Nat} {l : List σ} {rows : List (List Nat)} (h : l.length ≤ k) : bfs st acts mx (n + 1) k l rows = some (l, rows) := by
 rw [bfs, List.getElem?_eq_none h]
theorem bfs_next {st : σ → Nat → σ} {acts : List Nat} {mx n k : Nat} {l : List σ} {rows : List (List Nat)} {s : σ} (h : l[k]? = some s) (hm : ¬ mx < (rowN st s acts l).1.length) :
  bfs st acts mx (n + 1) k l rows = bfs st acts mx n (k + 1) (rowN st s acts l).1 (rows ++ [(rowN st s acts l).2]) := by
 rw [bfs, h]
 simp only
 rw [if_neg hm]
theorem bfs_many {st : σ → Nat → σ} {acts : List Nat} {mx n k : Nat} {l : List σ} {rows : List (List Nat)} {s : σ} (h : l[k]? = some s) (hm : mx < (rowN st s acts l).1.length) :
  bfs st acts mx (n + 1) k l rows = none := by
 rw [bfs, h]
 simp only
 rw [if_pos hm]
end
theorem placesP_le {S : List Sp} {al : List Tk} {n k : Nat} {l : List Nat} {tw : List (List Nat)} (h : Bfs (ahP S al) (List.range n) (p0P S) k l tw) : l.length ≤ 2 ^ (S.length + 1) ∧ ∀ p ∈ l, p < 2 ^ (S.length + 1) := by
 have hb : ∀ p ∈ l, p < 2 ^ (S.length + 1) := fun p hp => by
  obtain ⟨j, hj⟩ := List.mem_iff_getElem?.1 hp
  cases j with
  | zero =>
   rw [h.first] at hj
   cases hj
   exact fillN_lt _ _ _ _ _
  | succ j =>
   obtain ⟨_, _, _, _, _, _, _, e⟩ := h.met j p hj
   rw [e]
   exact fillN_lt _ _ _ _ _
 exact ⟨nodup_le _ _ h.nodup hb, hb⟩
def flB (b : List Bool) : Nat := (if (b[0]?).getD false = true then 1 else 0) + (if b.any id = true then 2 else 0)
def tabOf (names : List ByteArray) (m : List (List Bool)) (rows : List (List Nat)) : Tb := ⟨names, m.map flB, rows⟩
theorem flB_odd (b : List Bool) : flB b % 2 = 1 ↔ (b[0]?).getD false = true := by
 unfold flB
 generalize (b[0]?).getD false = x
 generalize b.any id = y
 cases x <;> cases y <;> decide
theorem flB_two (b : List Bool) : 2 ≤ flB b ↔ true ∈ b := by
 have e : b.any id = true ↔ true ∈ b := by
  rw [List.any_eq_true]
  exact ⟨fun ⟨x, hx, e⟩ => by have e' : x = true := e; rw [← e']; exact hx, fun h => ⟨true, h, rfl⟩⟩
 rw [← e]
 unfold flB
 generalize (b[0]?).getD false = x
 generalize b.any id = y
 cases x <;> cases y <;> decide
theorem flB_le (b : List Bool) : flB b ≤ 3 := by unfold flB; split <;> split <;> omega
def CmpR {π : Type} [DecidableEq π] (p0 : π) (ah : π → Nat → π) (keep : π → Bool) (names : List ByteArray) (o : Option Tb) : Prop :=
 ∃ (l : List π) (tw : List (List Nat)), Bfs ah (List.range names.length) p0 l.length l tw ∧ o = (bfs (setB tw) (List.range names.length) 100 102 0 [l.map keep] []).map fun x => tabOf names x.1 x.2
section
variable {π : Type} [DecidableEq π]
structure CmpT (p0 : π) (ah : π → Nat → π) (keep : π → Bool) (t : Tb) (l : List π) (tw : List (List Nat)) (m : List (List Bool)) : Prop where
 pl : Bfs ah (List.range t.acts.length) p0 l.length l tw
 st : Bfs (setB tw) (List.range t.acts.length) (l.map keep) m.length m t.nx
 fl : t.fl = m.map flB
 few : m.length ≤ 100
theorem CmpR.some {p0 : π} {ah : π → Nat → π} {keep : π → Bool} {names : List ByteArray} {t : Tb} (h : CmpR p0 ah keep names (some t)) : t.acts = names ∧ ∃ l tw m, CmpT p0 ah keep t l tw m := by
 obtain ⟨l, tw, h1, h2⟩ := h
 cases e : bfs (setB tw) (List.range names.length) 100 102 0 [l.map keep] [] with
 | none => rw [e] at h2; cases h2
 | some x =>
  obtain ⟨m, rows⟩ := x
  rw [e] at h2
  have h3 : t = tabOf names m rows := Option.some.inj h2
  obtain ⟨k1, k2⟩ := bfs_spec 102 0 [l.map keep] [] (Bfs.start _ _ _) (by simp) m rows e
  subst h3
  exact ⟨rfl, l, tw, m, h1, k1, rfl, by simpa using k2⟩
theorem CmpT.hf {p0 : π} {ah : π → Nat → π} {keep : π → Bool} {t : Tb} {l : List π} {tw : List (List Nat)} {m : List (List Bool)} (h : CmpT p0 ah keep t l tw m) :
  ∀ (i : Nat) (b : List Bool), m[i]? = some b → ∃ f, t.fl[i]? = some f ∧ (f % 2 = 1 ↔ (b[0]?).getD false = true) := fun i b hb =>
 ⟨flB b, by rw [h.fl, List.getElem?_map, hb]; rfl, flB_odd b⟩
theorem CmpT.right {p0 : π} {ah : π → Nat → π} {keep : π → Bool} {t : Tb} {l : List π} {tw : List (List Nat)} {m : List (List Bool)} (h : CmpT p0 ah keep t l tw m) (ha : ActsOk t.acts) : RightT t := by
 have hm1 : 1 ≤ m.length := by have := (List.getElem?_eq_some_iff.1 h.st.first).1; omega
 have hnl : t.nx.length = m.length := h.st.len
 refine ⟨ha, by omega, by have := h.few; omega, by rw [h.fl, List.length_map, hnl], fun r hr => ?_, fun f hf => ?_, fun i f hi => ?_⟩
 ·obtain ⟨i, hi⟩ := List.mem_iff_getElem?.1 hr
  have hil : i < m.length := by have := (List.getElem?_eq_some_iff.1 hi).1; omega
  obtain ⟨r', r1, r2, r3⟩ := h.st.row i m[i] hil (List.getElem?_eq_getElem hil)
  rw [hi] at r1
  cases r1
  rw [List.length_range] at r2
  refine ⟨r2, fun x hx => ?_⟩
  obtain ⟨q, hq⟩ := List.mem_iff_getElem?.1 hx
  have hql : q < t.acts.length := by have := (List.getElem?_eq_some_iff.1 hq).1; omega
  obtain ⟨k, k1, k2⟩ := r3 q q (List.getElem?_range hql)
  rw [hq] at k1
  cases k1
  have := (List.getElem?_eq_some_iff.1 k2).1
  omega
 ·rw [h.fl] at hf
  obtain ⟨b, _, rfl⟩ := List.mem_map.1 hf
  exact flB_le b
 ·rw [h.fl, List.getElem?_map] at hi
  cases hb : m[i]? with
  | none => rw [hb] at hi; cases hi
  | some b =>
   rw [hb] at hi
   have hfb : flB b = f := Option.some.inj hi
   rw [← hfb, flB_two, lives_any h.pl h.st h.hf hb]
theorem CmpT.keeps {p0 : π} {ah : π → Nat → π} {keep : π → Bool} {t : Tb} {l : List π} {tw : List (List Nat)} {m : List (List Bool)} (h : CmpT p0 ah keep t l tw m) {v : List Nat} (hv : ∀ a ∈ v, a < t.acts.length) : accT t (runT t 0 v) = keep (plc p0 ah v) :=
 run_keeps h.pl h.st h.hf hv
theorem CmpT.differ {p0 : π} {ah : π → Nat → π} {keep : π → Bool} {t : Tb} {l : List π} {tw : List (List Nat)} {m : List (List Bool)} (h : CmpT p0 ah keep t l tw m) {i j : Nat} (hi : i < t.nx.length) (hj : j < t.nx.length) (hij : i ≠ j) : ∃ v : List Nat, (∀ a ∈ v, a < t.acts.length) ∧ accT t (runT t i v) ≠ accT t (runT t j v) := by
 have hnl : t.nx.length = m.length := h.st.len
 exact states_differ h.pl h.st h.hf (by omega) (by omega) hij
end
section
variable {π ρ : Type} [DecidableEq π] [DecidableEq ρ]
end
def CompP (al : List Tk) (rs : List Rl) (o : Option Tb) : Prop := CmpR (p0P (stepsM rs [])) (ahP (stepsM rs []) al) (keepP (wholeM rs [] 0)) (al.map (·.s)) o
end Go.Proofs.YtidakhhekofkoaaGreatDoor
namespace Go.Proofs.YtidakhhekofkoaaGreatDoor.Rt
open Go.Deep
theorem extract_list (s : ByteArray) (i j : Nat) : (s.extract i j).data.toList = (s.data.toList.drop i).take (j - i) := by
 rw [ByteArray.data_extract, Array.toList_extract, List.extract_eq_take_drop]
theorem span_all (p : UInt8 → Bool) : ∀ (l : List UInt8), ∀ c ∈ l.take (span p l), p c = true
 | [], c, h => by simp at h
 | d :: r, c, h => by
  unfold span at h
  split at h
  ·rename_i hd
   rw [List.take_succ_cons] at h
   rcases List.mem_cons.1 h with rfl | h
   ·exact hd
   ·exact span_all p r c h
  ·simp at h
def TkN (t : Tk) : Prop := (t.k = 2 → t.s.data.toList ≠ [] ∧ (∀ c ∈ t.s.data.toList, isLet c = true) ∧ isWord t.s.data.toList = false) ∧ (t.k = 3 → ∃ c : UInt8, t.s.data.toList = [c] ∧ 48 ≤ c.toNat ∧ c.toNat ≤ 57)
theorem isWord_of {l : List UInt8} (h : wordK l = 2) : isWord l = false := by
 cases hw : isWord l with
 | false => rfl
 | true => have := wordK_word l hw; omega
theorem signK_ge (c : Nat) : signK c ≠ 2 ∧ signK c ≠ 3 := by
 unfold signK
 repeat' split
 all_goals exact ⟨by decide, by decide⟩
theorem lexAt_nm (s : ByteArray) (j : Nat) : TkN (lexAt s j) := by
 unfold lexAt
 split
 ·rename_i h
  split
  ·rename_i hl
   refine ⟨fun hk => ⟨?_, ?_, isWord_of hk⟩, fun hk => ?_⟩
   ·show (s.extract j (upTo isLet s j)).data.toList ≠ []
    rw [extract_list]
    have e : upTo isLet s j - j = span isLet (s.data.toList.drop j) := by unfold upTo; omega
    rw [e, drop_at s j h, span, if_pos hl, List.take_succ_cons]
    exact List.cons_ne_nil _ _
   ·show ∀ c ∈ (s.extract j (upTo isLet s j)).data.toList, isLet c = true
    rw [extract_list]
    have e : upTo isLet s j - j = span isLet (s.data.toList.drop j) := by unfold upTo; omega
    rw [e]
    exact span_all _ _
   ·have hk' : wordK (s.extract j (upTo isLet s j)).data.toList = 3 := hk
    unfold wordK at hk'
    repeat' split at hk'
    all_goals omega
  ·split
   ·rename_i hd
    exact ⟨fun hk => (by cases hk), fun _ => ⟨s[j], extract_one s j h, hd.1, hd.2⟩⟩
   ·split
    ·split
     ·exact ⟨fun hk => (by cases hk), fun hk => (by cases hk)⟩
     ·exact ⟨fun hk => absurd hk (signK_ge _).1, fun hk => absurd hk (signK_ge _).2⟩
    ·exact ⟨fun hk => absurd hk (signK_ge _).1, fun hk => absurd hk (signK_ge _).2⟩
 ·exact ⟨fun hk => (by cases hk), fun hk => (by cases hk)⟩
theorem lexR_nm (s : ByteArray) : ∀ n i, ∀ t ∈ lexR s n i, TkN t
 | 0, _, t, h => by simp [lexR] at h
 | n + 1, i, t, h => by
  by_cases hk : (lexAt s (upTo isBl s i)).k ≤ 1
  ·rw [lexR_stop s n i hk] at h; simp at h; subst h; exact lexAt_nm _ _
  ·rw [lexR_go s n i hk] at h
   rcases List.mem_cons.1 h with rfl | h
   ·exact lexAt_nm _ _
   ·exact lexR_nm s n _ t h
theorem readM_nm {s : ByteArray} {al : List Tk} {rs : List Rl} (h : readM s = .ok (al, rs)) : (∀ t ∈ al, TkN t ∧ t.k = 2) ∧ ∀ r ∈ rs, ∃ m, RlGood TkN m r := by
 unfold readM at h
 split at h
 ·cases h
 ·cases hm : modelRead (lexR s (s.size + 1) 0) with
  | error q => rw [hm] at h; cases h
  | ok m =>
   obtain ⟨al', rs'⟩ := m
   rw [hm, rdOf] at h
   split at h
   ·cases h
   ·split at h
    ·cases h
    ·cases h
     have hg := modelRead_good TkN _ _ _ hm (fun t ht => lexR_nm s _ _ t ht)
     exact ⟨hg.1, fun r hr => ⟨_, hg.2.2.2.1 r hr⟩⟩
end Go.Proofs.YtidakhhekofkoaaGreatDoor.Rt
namespace Go.Proofs.YtidakhhekofkoaaGreatDoor
theorem fActs_few {al : List Tk} : ∀ {l : List Tk} {i : Nat}, fActs al i l = [] → (∀ t ∈ l, t.s.size ≤ 8) ∧ (l ≠ [] → i + l.length ≤ 6)
 | [], _, _ => ⟨fun t ht => (List.not_mem_nil ht).elim, fun h => absurd rfl h⟩
 | a :: r, i, h => by
  rw [fActs] at h
  obtain ⟨h1, h2⟩ := List.append_eq_nil_iff.1 h
  unfold fAct at h1
  obtain ⟨h3, h4⟩ := List.append_eq_nil_iff.1 h1
  obtain ⟨_, h5⟩ := List.append_eq_nil_iff.1 h4
  obtain ⟨k1, k2⟩ := fActs_few h2
  have ha : a.s.size ≤ 8 := by
   unfold fLong at h3
   rcases Nat.lt_or_ge 8 a.s.size with h | h
   ·rw [if_pos h] at h3; cases h3
   ·exact h
  have hi : i < 6 := by
   rcases Nat.lt_or_ge i 6 with h | h
   ·exact h
   ·rw [if_pos h] at h5; cases h5
  refine ⟨fun t ht => ?_, fun _ => ?_⟩
  ·rcases List.mem_cons.1 ht with rfl | ht
   ·exact ha
   ·exact k1 t ht
  ·rw [List.length_cons]
   by_cases hr : r = []
   ·rw [hr]; simp; omega
   ·have := k2 hr; omega
theorem acts_ok {s : ByteArray} {al : List Tk} {rs : List Rl} (h : readM s = .ok (al, rs)) : ActsOk (al.map (·.s)) := by
 have hM := readM_good h
 obtain ⟨h1, h2⟩ := fActs_few (List.append_eq_nil_iff.1 hM.nof).1
 have h3 := h2 hM.ne
 have h4 := (Rt.readM_nm h).1
 have hd := hM.dist
 refine ⟨?_, by rw [List.length_map]; omega, fun a ha => ?_, ?_⟩
 ·rw [List.length_map]
  cases hc : al with
  | nil => exact absurd hc hM.ne
  | cons _ _ => simp
 ·obtain ⟨t, ht, rfl⟩ := List.mem_map.1 ha
  obtain ⟨k1, k2⟩ := h4 t ht
  obtain ⟨k3, k4, k5⟩ := k1.1 k2
  refine ⟨?_, h1 t ht, k4, k5⟩
  cases hc : t.s.data.toList with
  | nil => exact absurd hc k3
  | cons _ _ => rw [← size_data, hc]; simp
 ·show List.Pairwise _ _
  rw [List.pairwise_iff_getElem]
  intro i j hi hj hij e
  have hi' : i < al.length := by simpa using hi
  have hj' : j < al.length := by simpa using hj
  rw [List.getElem_map, List.getElem_map] at e
  have := hd i j al[i] al[j] (List.getElem?_eq_getElem hi') (List.getElem?_eq_getElem hj') (by rw [e])
  omega
theorem comp_right {s : ByteArray} {al : List Tk} {rs : List Rl} (h : readM s = .ok (al, rs)) {t : Tb} (hc : CompP al rs (some t)) : RightT t := by
 obtain ⟨e, l, tw, m, hT⟩ := CmpR.some hc
 exact hT.right (by rw [e]; exact acts_ok h)
section
variable {σ : Type} [DecidableEq σ]
def metRow : Nat → List Nat → Option Nat
 | m, [] => some m
 | m, k :: r => if m < k then none else metRow (if k = m then m + 1 else m) r
def metAll (n : Nat) : Nat → Nat → List (List Nat) → Prop
 | _, m, [] => m = n
 | i, m, r :: rs => i < m ∧ ∃ m', metRow m r = some m' ∧ metAll n (i + 1) m' rs
theorem numb_met (l : List σ) (s : σ) : (numb l s).2 ≤ l.length ∧ (numb l s).1.length = if (numb l s).2 = l.length then l.length + 1 else l.length := by
 unfold numb
 cases h : fnd s l 0 with
 | some i =>
  have h2 := (List.getElem?_eq_some_iff.1 (fnd_some h).2).1
  simp only
  rw [if_neg (by omega)]
  exact ⟨by omega, rfl⟩
 | none => simp
theorem rowN_met (st : σ → Nat → σ) (s : σ) : ∀ (ns : List Nat) (l : List σ), metRow l.length (rowN st s ns l).2 = some (rowN st s ns l).1.length
 | [], l => rfl
 | a :: ns, l => by
  obtain ⟨h1, h2⟩ := numb_met l (st s a)
  rw [rowN, metRow, if_neg (by omega), ← h2]
  exact rowN_met st s ns _
theorem bfs_met {st : σ → Nat → σ} {acts : List Nat} {mx : Nat} : ∀ (n k : Nat) (l : List σ) (rows : List (List Nat)) (m : List σ) (r : List (List Nat)), bfs st acts mx n k l rows = some (m, r) → ∃ rs, r = rows ++ rs ∧ metAll m.length k l.length rs
 | 0, _, _, _, _, _, h => by cases h
 | n + 1, k, l, rows, m, r, h => by
  rw [bfs] at h
  cases e : l[k]? with
  | none =>
   rw [e] at h
   cases h
   exact ⟨[], by simp, rfl⟩
  | some s =>
   rw [e] at h
   simp only at h
   split at h
   ·cases h
   ·obtain ⟨rs, h1, h2⟩ := bfs_met n (k + 1) _ _ m r h
    exact ⟨(rowN st s acts l).2 :: rs, by rw [h1]; simp, (List.getElem?_eq_some_iff.1 e).1, _, rowN_met st s acts l, h2⟩
end
theorem cmp_met {π : Type} [DecidableEq π] {p0 : π} {ah : π → Nat → π} {keep : π → Bool} {names : List ByteArray} {t : Tb} (h : CmpR p0 ah keep names (some t)) : metAll t.nx.length 0 1 t.nx := by
 obtain ⟨l, tw, h1, h2⟩ := h
 cases e : bfs (setB tw) (List.range names.length) 100 102 0 [l.map keep] [] with
 | none => rw [e] at h2; cases h2
 | some x =>
  obtain ⟨m, rows⟩ := x
  rw [e] at h2
  cases h2
  obtain ⟨rs, e1, e2⟩ := bfs_met 102 0 _ _ m rows e
  have hl := (bfs_spec 102 0 _ _ (Bfs.start _ _ _) (by simp) m rows e).1.len
  rw [List.nil_append] at e1
  subst e1
  show metAll rows.length 0 1 rows
  rw [hl]
  exact e2
def stPr (t u : Tb) (z a : Nat) : Nat := ((t.nx[z / u.nx.length]?.getD [])[a]?).getD 0 * u.nx.length + ((u.nx[z % u.nx.length]?.getD [])[a]?).getD 0
theorem pair_div {n x y : Nat} (h : y < n) : (x * n + y) / n = x ∧ (x * n + y) % n = y := by
 refine ⟨?_, ?_⟩
 ·rw [Nat.mul_comm, Nat.mul_add_div (by omega), Nat.div_eq_of_lt h, Nat.add_zero]
 ·rw [Nat.mul_comm, Nat.mul_add_mod, Nat.mod_eq_of_lt h]
theorem pair_lt {m n x y : Nat} (hx : x < m) (hy : y < n) : x * n + y < m * n := by
 have : (x + 1) * n ≤ m * n := Nat.mul_le_mul_right n hx
 rw [Nat.add_mul, Nat.one_mul] at this
 omega
theorem RightT.step {t : Tb} (h : RightT t) {x a : Nat} (hx : x < t.nx.length) (ha : a < t.acts.length) : ∃ r k, t.nx[x]? = some r ∧ r[a]? = some k ∧ k < t.nx.length := by
 have e := List.getElem?_eq_getElem hx
 obtain ⟨h1, h2⟩ := h.rs _ (List.mem_of_getElem? e)
 have e2 : (t.nx[x])[a]? = some (t.nx[x])[a] := List.getElem?_eq_getElem (by omega)
 exact ⟨_, _, e, e2, h2 _ (List.mem_of_getElem? e2)⟩
theorem RightT.go {t : Tb} (h : RightT t) {x a : Nat} (hx : x < t.nx.length) (ha : a < t.acts.length) : ((t.nx[x]?.getD [])[a]?).getD 0 < t.nx.length := by
 obtain ⟨r, k, h1, h2, h3⟩ := h.step hx ha
 rw [h1]
 simp only [Option.getD_some]
 rw [h2]
 exact h3
theorem pr_run {t u : Tb} (ht : RightT t) (hu : RightT u) {A : Nat} (hA : A = t.acts.length) (hB : A = u.acts.length) : ∀ (v : List Nat) (p q : Nat), (∀ a ∈ v, a < A) → p < t.nx.length → q < u.nx.length →
  v.foldl (stPr t u) (p * u.nx.length + q) = runT t p v * u.nx.length + runT u q v ∧ runT t p v < t.nx.length ∧ runT u q v < u.nx.length
 | [], p, q, _, hp, hq => ⟨rfl, hp, hq⟩
 | a :: v, p, q, hv, hp, hq => by
  have ha := hv a (List.mem_cons_self ..)
  rw [List.foldl_cons, runT, runT]
  have e : stPr t u (p * u.nx.length + q) a = ((t.nx[p]?.getD [])[a]?).getD 0 * u.nx.length + ((u.nx[q]?.getD [])[a]?).getD 0 := by
   unfold stPr
   rw [(pair_div hq).1, (pair_div hq).2]
  rw [e]
  exact pr_run ht hu hA hB v _ _ (fun b hb => hv b (List.mem_cons_of_mem _ hb)) (ht.go hp (by omega)) (hu.go hq (by omega))
theorem bfs_all {st : Nat → Nat → Nat} {A s0 : Nat} {l : List Nat} {rows : List (List Nat)} (h : Bfs st (List.range A) s0 l.length l rows) : ∀ (v : List Nat) (s : Nat), (∀ a ∈ v, a < A) → s ∈ l → v.foldl st s ∈ l
 | [], _, _, hs => hs
 | a :: v, s, hv, hs => by
  rw [List.foldl_cons]
  refine bfs_all h v _ (fun b hb => hv b (List.mem_cons_of_mem _ hb)) ?_
  obtain ⟨i, hi⟩ := List.mem_iff_getElem?.1 hs
  obtain ⟨r, _, _, r3⟩ := h.row i s (List.getElem?_eq_some_iff.1 hi).1 hi
  obtain ⟨m, _, m2⟩ := r3 a a (by rw [List.getElem?_range (hv a (List.mem_cons_self ..))])
  exact List.mem_of_getElem? m2
structure ParOk (st : Nat → Nat → Nat) (A N s0 : Nat) (l : List Nat) (fr by_ : List Int) : Prop where
 n1 : fr.length = N
 n2 : by_.length = N
 lt : ∀ z ∈ l, z < N
 no : ∀ z, z < N → z ∉ l → fr[z]? = some 0
 at0 : l[0]? = some s0
 f0 : fr[s0]? = some (-1)
 par : ∀ (j z : Nat), l[j + 1]? = some z → ∃ i y a : Nat, i ≤ j ∧ l[i]? = some y ∧ fr[z]? = some ((y : Int) + 1) ∧ by_[z]? = some (a : Int) ∧ a < A ∧ z = st y a
 nd : l.Nodup
theorem ParOk.start {st : Nat → Nat → Nat} {A N s0 : Nat} (h : s0 < N) : ParOk st A N s0 [s0] ((List.replicate N 0).set s0 (-1)) (List.replicate N 0) := by
 refine ⟨by simp, by simp, fun z hz => by rw [List.mem_singleton.1 hz]; exact h, fun z hz hn => ?_, rfl, ?_, fun j z hj => by simp at hj, by simp⟩
 ·rw [List.getElem?_set_ne (fun e => hn (by rw [e]; exact List.mem_singleton.2 rfl)), List.getElem?_replicate, if_pos hz]
 ·rw [List.getElem?_set_self (by simpa using h)]
theorem ParOk.zero {st : Nat → Nat → Nat} {A N s0 : Nat} {l : List Nat} {fr by_ : List Int} (h : ParOk st A N s0 l fr by_) {z : Nat} {f : Int} (hz : z < N) (hf : fr[z]? = some f) : f = 0 ↔ z ∉ l := by
 refine ⟨fun e hz' => ?_, fun hn => ?_⟩
 ·subst e
  obtain ⟨j, hj⟩ := List.mem_iff_getElem?.1 hz'
  cases j with
  | zero =>
   rw [h.at0] at hj
   cases hj
   rw [h.f0] at hf
   cases hf
  | succ j =>
   obtain ⟨i, y, a, _, _, h3, _⟩ := h.par j z hj
   rw [hf] at h3
   have := Option.some.inj h3
   omega
 ·rw [h.no z hz hn] at hf
  exact (Option.some.inj hf).symm
theorem ParOk.more {st : Nat → Nat → Nat} {A N s0 : Nat} {l : List Nat} {fr by_ : List Int} (h : ParOk st A N s0 l fr by_) {i y a : Nat} (hy : l[i]? = some y) (ha : a < A) (hz : st y a < N) (hn : st y a ∉ l) :
  ParOk st A N s0 (l ++ [st y a]) (fr.set (st y a) ((y : Int) + 1)) (by_.set (st y a) (a : Int)) := by
 have hne : ∀ z ∈ l, st y a ≠ z := fun z hz e => hn (by rw [e]; exact hz)
 refine ⟨by rw [List.length_set]; exact h.n1, by rw [List.length_set]; exact h.n2, fun z hz' => ?_, fun z hz' hn' => ?_, getApp h.at0, ?_, fun j z hj => ?_, ?_⟩
 ·rcases List.mem_append.1 hz' with h1 | h1
  ·exact h.lt z h1
  ·rw [List.mem_singleton.1 h1]; exact hz
 ·have h1 : z ∉ l := fun k => hn' (List.mem_append_left _ k)
  have h2 : st y a ≠ z := fun e => hn' (List.mem_append_right _ (by rw [e]; exact List.mem_singleton.2 rfl))
  rw [List.getElem?_set_ne h2]
  exact h.no z hz' h1
 ·rw [List.getElem?_set_ne (hne _ (List.mem_of_getElem? h.at0))]
  exact h.f0
 ·by_cases hjl : j + 1 < l.length
  ·rw [List.getElem?_append_left hjl] at hj
   obtain ⟨i', y', a', h1, h2, h3, h4, h5, h6⟩ := h.par j z hj
   have := hne z (List.mem_of_getElem? hj)
   exact ⟨i', y', a', h1, getApp h2, by rw [List.getElem?_set_ne this]; exact h3, by rw [List.getElem?_set_ne this]; exact h4, h5, h6⟩
  ·rw [List.getElem?_append_right (by omega)] at hj
   have hz' := List.mem_of_getElem? hj
   obtain rfl := List.mem_singleton.1 hz'
   have hil := (List.getElem?_eq_some_iff.1 hy).1
   exact ⟨i, y, a, by omega, getApp hy, by rw [List.getElem?_set_self (by rw [h.n1]; exact hz)], by rw [List.getElem?_set_self (by rw [h.n2]; exact hz)], ha, rfl⟩
 ·rw [List.nodup_append]
  exact ⟨h.nd, by simp, fun x hx b hb e => hne x hx (by rw [List.mem_singleton.1 hb] at e; exact e.symm)⟩
theorem ParOk.few {st : Nat → Nat → Nat} {A N s0 : Nat} {l : List Nat} {fr by_ : List Int} (h : ParOk st A N s0 l fr by_) : l.length ≤ N := nodup_le N l h.nd h.lt
theorem ParOk.at {st : Nat → Nat → Nat} {A N s0 : Nat} {l : List Nat} {fr by_ : List Int} (h : ParOk st A N s0 l fr by_) {j z : Nat} (hz : l[j]? = some z) :
  (z = s0 ∧ fr[z]? = some (-1)) ∨ ∃ i y a : Nat, i < j ∧ l[i]? = some y ∧ fr[z]? = some ((y : Int) + 1) ∧ by_[z]? = some (a : Int) ∧ a < A ∧ z = st y a := by
 cases j with
 | zero =>
  rw [h.at0] at hz
  cases hz
  exact Or.inl ⟨rfl, h.f0⟩
 | succ j =>
  obtain ⟨i, y, a, h1, h2⟩ := h.par j z hz
  exact Or.inr ⟨i, y, a, by omega, h2⟩
def kvRow (t : Tb) (l : List Bool) (i : Nat) : List Bool := l.set i (lv l i || accT t i || ((t.nx[i]?.getD []).any (lv l)))
def kvRound (t : Tb) (l : List Bool) : List Bool := (List.range l.length).foldl (kvRow t) l
def kvRounds (t : Tb) : Nat → List Bool → List Bool
 | 0, l => l
 | n + 1, l => kvRounds t n (kvRound t l)
theorem kvRow_le (t : Tb) (l : List Bool) (i : Nat) : LvLe l (kvRow t l i) := by
 refine ⟨by unfold kvRow; simp, fun j hj => ?_⟩
 unfold kvRow
 rw [lv_set]
 split
 ·rename_i h
  rw [h.1, hj]
  rfl
 ·exact hj
theorem kfoldl_le (t : Tb) : ∀ (is : List Nat) (l : List Bool), LvLe l (is.foldl (kvRow t) l)
 | [], l => LvLe.refl l
 | i :: r, l => (kvRow_le t l i).trans (kfoldl_le t r _)
theorem kvRound_le (t : Tb) (l : List Bool) : LvLe l (kvRound t l) := kfoldl_le t _ l
theorem kvRounds_le (t : Tb) : ∀ n (l : List Bool), LvLe l (kvRounds t n l)
 | 0, l => LvLe.refl l
 | n + 1, l => (kvRound_le t l).trans (kvRounds_le t n _)
theorem kvRow_fix {t : Tb} {l : List Bool} (h : kvRound t l = l) {i : Nat} (hi : i < l.length) : (lv l i || accT t i || ((t.nx[i]?.getD []).any (lv l))) = lv l i := by
 have hsame : ∀ (is : List Nat), LvLe (is.foldl (kvRow t) l) l → ∀ k ∈ is, kvRow t l k = l := by
  intro is
  induction is with
  | nil => intro _ k hk; exact (List.not_mem_nil hk).elim
  | cons a is ih =>
   intro hle k hk
   have e : kvRow t l a = l := ((kvRow_le t l a).anti ((kfoldl_le t is (kvRow t l a)).trans hle)).symm
   rcases List.mem_cons.1 hk with rfl | hk
   ·exact e
   ·refine ih ?_ k hk
    rw [List.foldl_cons, e] at hle
    exact hle
 have e := hsame (List.range l.length) (by show LvLe (kvRound t l) l; rw [h]; exact LvLe.refl l) i (List.mem_range.2 hi)
 have e2 : lv (kvRow t l i) i = lv l i := congrArg (fun l => lv l i) e
 unfold kvRow at e2
 rw [lv_set, if_pos ⟨rfl, hi⟩] at e2
 exact e2
theorem kvRow_sound {t : Tb} {l : List Bool} (h : ∀ i, lv l i = true → Lives t i) (k : Nat) : ∀ i, lv (kvRow t l k) i = true → Lives t i := by
 intro i hi
 unfold kvRow at hi
 rw [lv_set] at hi
 split at hi
 ·rename_i he
  obtain ⟨rfl, _⟩ := he
  rcases Bool.or_eq_true_iff.1 hi with hi | hi
  ·rcases Bool.or_eq_true_iff.1 hi with hi | hi
   ·exact h _ hi
   ·unfold accT at hi
    cases hf : t.fl[k]? with
    | none => rw [hf] at hi; simp at hi
    | some f => rw [hf] at hi; exact .acc hf (by simpa using hi)
  ·obtain ⟨j, hj, hl⟩ := List.any_eq_true.1 hi
   cases hr : t.nx[k]? with
   | none => rw [hr] at hj; exact (List.not_mem_nil hj).elim
   | some r => rw [hr] at hj; exact .step hr hj (h j hl)
 ·exact h _ hi
theorem kfoldl_sound {t : Tb} : ∀ (is : List Nat) {l : List Bool}, (∀ i, lv l i = true → Lives t i) → ∀ i, lv (is.foldl (kvRow t) l) i = true → Lives t i
 | [], _, h => h
 | k :: r, _, h => kfoldl_sound r (kvRow_sound h k)
theorem kvRounds_fix {t : Tb} {l : List Bool} (h : kvRound t l = l) : ∀ n, kvRounds t n l = l
 | 0 => rfl
 | n + 1 => by rw [kvRounds, h]; exact kvRounds_fix h n
theorem kvRounds_sound {t : Tb} : ∀ n {l : List Bool}, (∀ i, lv l i = true → Lives t i) → ∀ i, lv (kvRounds t n l) i = true → Lives t i
 | 0, _, h => h
 | n + 1, _, h => kvRounds_sound n (kfoldl_sound _ h)
theorem kvRounds_done (t : Tb) : ∀ n (l : List Bool), l.length ≤ l.count true + n → kvRound t (kvRounds t n l) = kvRounds t n l
 | 0, l, h => by
  have hc := (kvRound_le t l).count
  rw [kvRounds]
  apply Classical.byContradiction
  intro hne
  have h1 := hc.2 (fun e => hne e.symm)
  have h2 := List.count_le_length (a := true) (l := kvRound t l)
  have h3 := (kvRound_le t l).1
  omega
 | n + 1, l, h => by
  rw [kvRounds]
  by_cases e : kvRound t l = l
  ·rw [e, kvRounds_fix e]; exact e
  ·have h1 := (kvRound_le t l).count.2 (fun x => e x.symm)
   have h3 := (kvRound_le t l).1
   exact kvRounds_done t n _ (by omega)
theorem kvRounds_succ (t : Tb) : ∀ n (l : List Bool), kvRounds t (n + 1) l = kvRound t (kvRounds t n l)
 | 0, l => rfl
 | n + 1, l => by rw [kvRounds, kvRounds_succ t n, ← kvRounds]
theorem living_keep {t : Tb} (hf : t.fl.length = t.nx.length) (i : Nat) : lv (kvRounds t (t.fl.length + 1) (List.replicate t.fl.length false)) i = true ↔ Lives t i := by
 have hdone := kvRounds_done t t.fl.length (List.replicate t.fl.length false) (by simp)
 have hfix : kvRound t (kvRounds t (t.fl.length + 1) (List.replicate t.fl.length false)) = kvRounds t (t.fl.length + 1) (List.replicate t.fl.length false) := by
  rw [kvRounds_succ, hdone, hdone]
 have hlen : (kvRounds t (t.fl.length + 1) (List.replicate t.fl.length false)).length = t.fl.length := (kvRounds_le t _ _).1.symm.trans (by simp)
 refine lives_eq (kvRounds_sound _ fun i hi => ?_) (fun i f h1 h2 => ?_) (fun i r j hr hj hl => ?_) i
 ·exfalso
  unfold lv at hi
  rw [List.getElem?_replicate] at hi
  split at hi <;> simp at hi
 ·have hi : i < t.fl.length := (List.getElem?_eq_some_iff.1 h1).1
  rw [← kvRow_fix hfix (by omega)]
  have : accT t i = true := by unfold accT; rw [h1]; simpa using h2
  rw [this]
  simp
 ·have hi : i < t.nx.length := (List.getElem?_eq_some_iff.1 hr).1
  rw [← kvRow_fix hfix (by omega), hr]
  have : ((some r).getD []).any (lv (kvRounds t (t.fl.length + 1) (List.replicate t.fl.length false))) = true := List.any_eq_true.2 ⟨j, hj, hl⟩
  rw [this, Bool.or_true]
end Go.Proofs.YtidakhhekofkoaaGreatDoor
namespace Go.Proofs.YtidakhhekofkoaaGreatDoor
open Go.RowKit Go.Deep
theorem onward_any (k : Nat) (hk : 5 ≤ k) (hk' : k ≤ 9) (w : World) (lb : Nat) (ins : Bool) (ev : ByteArray) (more : Bool) (nx hr : Nat) (s : ByteArray) (i a b : Nat) (h : LkAt w lb ins ev more nx hr) (hnx : nx < 4294967296) (hhr : hr < 4294967296) (hi : i ≤ 31) (ha : a ≤ 31) (hb : b ≤ 31) :
  Calls Tryz.prog 242 #[.pointer (some ⟨lb, 0, none⟩), .int .i64 (i : Int), .agg #[.int .i64 (k : Int), .string s, .int .i64 (a : Int), .int .i64 (b : Int)]] w fun e w' => e = .returned (.bool (stepP k ins more (ev.toList == s.toList) (hr.testBit a) (hr.testBit b) (nx.testBit a) (nx.testBit i))) ∧ Below w.heap.size w w' := by
 have h' : k = 5 ∨ k = 6 ∨ k = 7 ∨ k = 8 ∨ k = 9 := by omega
 rcases h' with rfl | rfl | rfl | rfl | rfl
 ·exact on_next w lb ins ev more nx hr s i a b h hnx hhr hi ha hb
 ·exact on_weak w lb ins ev more nx hr s i a b h hnx hhr hi ha hb
 ·exact on_fin w lb ins ev more nx hr s i a b h hnx hhr hi ha hb
 ·exact on_glob w lb ins ev more nx hr s i a b h hnx hhr hi ha hb
 ·exact on_until w lb ins ev more nx hr s i a b h hnx hhr hi ha hb
theorem LkAt.later {w w' : World} {lb : Nat} {ins : Bool} {ev : ByteArray} {more : Bool} {nx hr : Nat} (h : LkAt w lb ins ev more nx hr) (hb : Below w.heap.size w w') : LkAt w' lb ins ev more nx hr := (hb.block lb (lt_of_blk h)).trans h
set_option maxHeartbeats 1000000 in
set_option maxRecDepth 100000 in
theorem look_onward (k : Nat) (hk : 5 ≤ k) (hk' : k ≤ 9) (w : World) (lb : Nat) (ins : Bool) (ev : ByteArray) (more : Bool) (nx hr : Nat) (s : ByteArray) (i a b : Nat) (h : LkAt w lb ins ev more nx hr) (hnx : nx < 4294967296) (hhr : hr < 4294967296) (hi : i ≤ 31) (ha : a ≤ 31) (hb : b ≤ 31) :
  Calls Tryz.prog 197 #[.pointer (some ⟨lb, 0, none⟩), .int .i64 (i : Int), .agg #[.int .i64 (k : Int), .string s, .int .i64 (a : Int), .int .i64 (b : Int)]] w fun e w' => e = .returned (.bool (stepP k ins more (ev.toList == s.toList) (hr.testBit a) (hr.testBit b) (nx.testBit a) (nx.testBit i))) ∧ Below w.heap.size w w' := by
 have HC := hide (fun W h => onward_any k hk hk' W lb ins ev more nx hr s i a b h hnx hhr hi ha hb)
 have HL := hide h
 generalize stepP k ins more (ev.toList == s.toList) (hr.testBit a) (hr.testBit b) (nx.testBit a) (nx.testBit i) = B at *
 clear h hnx hhr hi ha hb
 have h' : k = 5 ∨ k = 6 ∨ k = 7 ∨ k = 8 ∨ k = 9 := by omega
 rcases h' with rfl | rfl | rfl | rfl | rfl
 all_goals
  go_enter Tryz.func197, Tryz.ntmps197
  go_wp2_with (go_at_call 242; refine (unhide HC _ ((unhide HL).later ((Below.refl _ _).alloc (Nat.le_refl _) _))).mono ?_)
  rintro e w1 ⟨rfl, hb1⟩
  have HB1 := hide hb1
  clear hb1
  go_wp2_with fail
  go_ret
  exact ⟨rfl, ((Below.refl _ _).alloc (Nat.le_refl _) _).trans ((unhide HB1).mono (by simp))⟩
theorem look_any (k : Nat) (hk : k ≤ 12) (w : World) (lb : Nat) (ins : Bool) (ev : ByteArray) (more : Bool) (nx hr : Nat) (s : ByteArray) (i a b : Nat) (h : LkAt w lb ins ev more nx hr) (hnx : nx < 4294967296) (hhr : hr < 4294967296) (hi : i ≤ 31) (ha : a ≤ 31) (hb : b ≤ 31) :
  Calls Tryz.prog 197 #[.pointer (some ⟨lb, 0, none⟩), .int .i64 (i : Int), .agg #[.int .i64 (k : Int), .string s, .int .i64 (a : Int), .int .i64 (b : Int)]] w fun e w' => e = .returned (.bool (stepP k ins more (ev.toList == s.toList) (hr.testBit a) (hr.testBit b) (nx.testBit a) (nx.testBit i))) ∧ Below w.heap.size w w' := by
 have h' : k = 0 ∨ k = 1 ∨ k = 2 ∨ k = 3 ∨ k = 4 ∨ (5 ≤ k ∧ k ≤ 9) ∨ k = 10 ∨ k = 11 ∨ k = 12 := by omega
 rcases h' with rfl | rfl | rfl | rfl | rfl | ⟨h1, h2⟩ | rfl | rfl | rfl
 ·exact lk_act w lb ins ev more nx hr s i a b h hnx hhr hi ha hb
 ·exact lk_true w lb ins ev more nx hr s i a b h hnx hhr hi ha hb
 ·exact lk_false w lb ins ev more nx hr s i a b h hnx hhr hi ha hb
 ·exact lk_end w lb ins ev more nx hr s i a b h hnx hhr hi ha hb
 ·exact lk_not w lb ins ev more nx hr s i a b h hnx hhr hi ha hb
 ·exact look_onward k h1 h2 w lb ins ev more nx hr s i a b h hnx hhr hi ha hb
 ·exact lk_and w lb ins ev more nx hr s i a b h hnx hhr hi ha hb
 ·exact lk_or w lb ins ev more nx hr s i a b h hnx hhr hi ha hb
 ·exact lk_imp w lb ins ev more nx hr s i a b h hnx hhr hi ha hb
theorem or_bit32 (H i : Nat) (hH : H < 4294967296) (hi : i ≤ 31) : bits BinOp.or IntKind.u32 (H : Int) (2 ^ i % 4294967296) = ((H ||| 2 ^ i : Nat) : Int) := by
 have h2 : (2 : Nat) ^ i < 4294967296 := Nat.lt_of_le_of_lt (Nat.pow_le_pow_right (by decide) hi) (by decide)
 have e : (2 : Int) ^ i % 4294967296 = ((2 ^ i : Nat) : Int) := by
  rw [show (2 : Int) ^ i = ((2 ^ i : Nat) : Int) by simp]
  generalize 2 ^ i = z at *
  omega
 rw [e]; exact or32 H (2 ^ i) hH h2
def StS (w : World) (o : Option Addr) (S : List Sp) : Prop := ∀ j d, S[j]? = some d → ∃ g, o = some ⟨g, 0, none⟩ ∧ g < w.heap.size ∧ w.cell? ⟨g, j * 4, none⟩ = some (.int .i64 (d.k : Int)) ∧ w.cell? ⟨g, j * 4 + 1, none⟩ = some (.string d.s) ∧ w.cell? ⟨g, j * 4 + 2, none⟩ = some (.int .i64 (d.a : Int)) ∧ w.cell? ⟨g, j * 4 + 3, none⟩ = some (.int .i64 (d.b : Int))
theorem StS.later {w w' : World} {o : Option Addr} {S : List Sp} (h : StS w o S) (hb : Below w.heap.size w w') : StS w' o S := fun j d hd => by
 obtain ⟨g, h1, h2, h3, h4, h5, h6⟩ := h j d hd
 exact ⟨g, h1, Nat.lt_of_lt_of_le h2 hb.size, (bcell3 hb _ _ h2).trans h3, (bcell3 hb _ _ h2).trans h4, (bcell3 hb _ _ h2).trans h5, (bcell3 hb _ _ h2).trans h6⟩
theorem StS.of {w : World} {base : Nat} {o : Option Addr} {c : Nat} {S : List Sp} (h : w.ownsRow base 319 4 (.slice o S.length c) S.length (spC S)) : StS w o S := by
 intro j d hd
 have hj : j < S.length := by
  rcases Nat.lt_or_ge j S.length with h | h
  ·exact h
  ·rw [List.getElem?_eq_none h] at hd; cases hd
 obtain ⟨_, ⟨h1, h2⟩ | ⟨g, cap, cur, hv, _, hrow, hle, _, hcs, htake⟩⟩ := h
 ·omega
 ·cases hv
  have key : ∀ m, m < 4 → w.cell? ⟨g, j * 4 + m, none⟩ = (stC d)[m]? := by
   intro m hm
   rw [cell_of_blk hrow, ← Array.getElem?_toList, ← spC_at hd m hm, ← htake, List.getElem?_take, if_pos (by omega)]
  exact ⟨g, rfl, lt_of_blk hrow, key 0 (by omega), key 1 (by omega), key 2 (by omega), key 3 (by omega)⟩
structure StG (S : List Sp) : Prop where
 len : S.length ≤ 31
 k : ∀ d ∈ S, d.k ≤ 12
 a : ∀ d ∈ S, d.a ≤ 31
 b : ∀ d ∈ S, d.b ≤ 31
structure FSt (w W : World) (so : Option Addr) (n sc : Nat) (wh : Nat) (ins : Bool) (ev : ByteArray) (more : Bool) (nx hr : Nat) : Prop where
 wk : W.heap[w.heap.size]? = some (.cells #[.slice so n sc, .int .u32 (wh : Int)] 149 (0, 0))
 lk : LkAt W (w.heap.size + 1) ins ev more nx hr
 bel : Below w.heap.size w W
theorem FSt.later {w W W' : World} {so : Option Addr} {n sc : Nat} {wh : Nat} {ins : Bool} {ev : ByteArray} {more : Bool} {nx hr : Nat} (h : FSt w W so n sc wh ins ev more nx hr) (hb : Below W.heap.size W W') : FSt w W' so n sc wh ins ev more nx hr :=
 ⟨(hb.block _ (lt_of_blk h.wk)).trans h.wk, h.lk.later hb, h.bel.trans (hb.mono h.bel.size)⟩
theorem FSt.set {w W : World} {so : Option Addr} {n sc : Nat} {wh : Nat} {ins : Bool} {ev : ByteArray} {more : Bool} {nx hr : Nat} (h : FSt w W so n sc wh ins ev more nx hr) (z : Int) (hr' : Nat) (hz : z = (hr' : Int)) : FSt w (W.setCell ⟨w.heap.size + 1, 4, none⟩ (.int .u32 z)) so n sc wh ins ev more nx hr' := by
 subst hz
 refine ⟨(Below.heap_setCell _ _ _ _ (by show w.heap.size ≠ w.heap.size + 1; omega)).trans h.wk, blk_set h.lk 4 _, h.bel.grown (grown_set _ _ _ _) h.bel.size (fun b hb => by cases hb; omega)⟩
set_option maxHeartbeats 4000000 in
set_option maxRecDepth 100000 in
theorem fill_any (w : World) (S : List Sp) (so : Option Addr) (sc wh : Nat) (ins : Bool) (ev : ByteArray) (more : Bool) (nx : Nat) (hS : StS w so S) (hG : StG S) (hnx : nx < 4294967296) :
  Calls Tryz.prog 167 #[.agg #[.slice so S.length sc, .int .u32 (wh : Int)], .agg #[.bool ins, .string ev, .bool more, .int .u32 (nx : Int), .int .u32 0]] w fun e w' => e = .returned (.int .u32 (fillN S ins ev more nx : Nat)) ∧ Below w.heap.size w w' := by
 have HS := hide hS
 have HG := hide hG
 have hlen := hG.len
 clear hS hG
 have HF0 : Hid (FSt w ((w.alloc (.cells #[.slice so S.length sc, .int .u32 (wh : Int)] 149)).alloc (.cells #[.bool ins, .string ev, .bool more, .int .u32 (nx : Int), .int .u32 0] 277)) so S.length sc wh ins ev more nx 0) :=
  ⟨(Below.heap_alloc _ _ _ (by simp)).trans (blk_alloc _ _), blk_alloc' _ _ _ (by simp), ((Below.refl _ _).alloc (Nat.le_refl _) _).alloc (by simp) _⟩
 go_enter Tryz.func167, Tryz.ntmps167
 go_wp2_with fail
 generalize ((w.alloc (.cells #[.slice so S.length sc, .int .u32 (wh : Int)] 149)).alloc (.cells #[.bool ins, .string ev, .bool more, .int .u32 (nx : Int), .int .u32 0] 277)) = W0 at *
 go_loopw [10] (fun x wr => ∃ i : Nat, i ≤ S.length ∧ x = .int .i64 i ∧ Hid (FSt w wr so S.length sc wh ins ev more nx (hereN S ins ev more nx i))) (fun x _ => S.length - (intOf x).toNat)
 case atStart => exact ⟨0, Nat.zero_le _, rfl, HF0⟩
 case round =>
  obtain ⟨i, hi, rfl, HF⟩ := hrel
  by_cases hlt : i < S.length
  ·have hin : (i : Int) < (S.length : Int) := by omega
   have hd : S[i]? = some S[i] := List.getElem?_eq_getElem hlt
   obtain ⟨g, hso, hg, c0, c1, c2, c3⟩ := (unhide HS).later (unhide HF).bel i S[i] hd
   have hdm : S[i] ∈ S := List.getElem_mem hlt
   have hdk := (unhide HG).k _ hdm
   have hda := (unhide HG).a _ hdm
   have hdb := (unhide HG).b _ hdm
   have HSTB : Hid (hereN S ins ev more nx (i + 1) = hereN S ins ev more nx i + (if stepP S[i].k ins more (ev.toList == S[i].s.toList) ((hereN S ins ev more nx i).testBit S[i].a) ((hereN S ins ev more nx i).testBit S[i].b) (nx.testBit S[i].a) (nx.testBit i) = true then 2 ^ i else 0)) := by
    show _ = _
    rw [hereN]
    unfold stB
    rw [hd]
   have hpl : hereN S ins ev more nx i < 4294967296 := Nat.lt_of_lt_of_le (hereN_lt S ins ev more nx i) (Nat.le_trans (Nat.pow_le_pow_right (by decide) (show i ≤ 32 by omega)) (by decide))
   have HOR := hide (hereN_or S ins ev more nx i)
   subst hso
   clear hd hdm
   generalize S[i] = d at *
   have hwlt := lt_of_blk (unhide HF).wk
   have hllt := lt_of_blk (unhide HF).lk
   go_wp2_with (go_at_call 197; refine (look_any d.k hdk _ (w.heap.size + 1) ins ev more nx (hereN S ins ev more nx i) d.s i d.a d.b (((unhide HF).later ((Below.refl _ _).alloc (Nat.le_refl _) _)).lk) hnx hpl (by omega) hda hdb).mono ?_)
   rintro e w1 ⟨rfl, hb1⟩
   have HF1 := hide ((((unhide HF).later ((Below.refl _ _).alloc (Nat.le_refl _) (.cells #[.int .i64 (d.k : Int), .string d.s, .int .i64 (d.a : Int), .int .i64 (d.b : Int)] 319)))).later hb1)
   clear hb1 HF c0 c1 c2 c3
   generalize hB : stepP d.k ins more (ev.toList == d.s.toList) ((hereN S ins ev more nx i).testBit d.a) ((hereN S ins ev more nx i).testBit d.b) (nx.testBit d.a) (nx.testBit i) = B at *
   clear hB
   have lc := fun o => cell_of_blk (unhide HF1).lk o
   have lf := fun o => frozen_of_blk (unhide HF1).lk o
   have hllt1 := lt_of_blk (unhide HF1).lk
   cases B with
   | false =>
    go_wp2_with fail
    go_roundw
    case rel => exact ⟨i + 1, by omega, by go_num, by rw [unhide HSTB]; simpa using HF1⟩
    case measure => simp [intOf]; omega
   | true =>
    generalize hereN S ins ev more nx i = H at *
    go_wp2_with fail
    go_region
    have HF2 := hide (((unhide HF1).set (bits BinOp.or IntKind.u32 (H : Int) (2 ^ i % 4294967296)) (H + 2 ^ i) (by rw [or_bit32 H i hpl (by omega), unhide HOR])).later ((Below.refl _ _).drew))
    generalize (w1.setCell ⟨w.heap.size + 1, 4, none⟩ (.int .u32 (bits BinOp.or IntKind.u32 (H : Int) (2 ^ i % 4294967296)))).drew = w2 at *
    generalize bits BinOp.or IntKind.u32 (H : Int) (2 ^ i % 4294967296) = z at *
    clear lc lf hllt1
    go_wp2_with fail
    go_roundw
    case rel => exact ⟨i + 1, by omega, by go_num, by rw [unhide HSTB]; simpa using HF2⟩
    case measure => simp [intOf]; omega
  ·have hin : ¬ (i : Int) < (S.length : Int) := by omega
   have hie : i = S.length := by omega
   subst hie
   have hpl : hereN S ins ev more nx S.length < 4294967296 := Nat.lt_of_lt_of_le (hereN_lt S ins ev more nx S.length) (Nat.le_trans (Nat.pow_le_pow_right (by decide) (show S.length ≤ 32 by omega)) (by decide))
   have HOR := hide (hereN_or S ins ev more nx S.length)
   have HFI : Hid (fillN S ins ev more nx = hereN S ins ev more nx S.length + (if ins = true then 2 ^ S.length else 0)) := rfl
   have lc := fun o => cell_of_blk (unhide HF).lk o
   have lf := fun o => frozen_of_blk (unhide HF).lk o
   have wc := fun o => cell_of_blk (unhide HF).wk o
   have hllt1 := lt_of_blk (unhide HF).lk
   generalize hereN S ins ev more nx S.length = H at *
   cases ins with
   | false =>
    go_wp2_with fail
    go_ret
    have e : fillN S false ev more nx = H := by rw [unhide HFI]; simp
    rw [e]
    exact ⟨rfl, (unhide HF).bel⟩
   | true =>
    go_wp2_with fail
    go_region
    have HF2 := hide (((unhide HF).set (bits BinOp.or IntKind.u32 (H : Int) (2 ^ S.length % 4294967296)) (H + 2 ^ S.length) (by rw [or_bit32 H S.length hpl hlen, unhide HOR])).later ((Below.refl _ _).drew))
    have lc2 := fun o => cell_of_blk (unhide HF2).lk o
    have hll2 := lt_of_blk (unhide HF2).lk
    generalize (wr.setCell ⟨w.heap.size + 1, 4, none⟩ (.int .u32 (bits BinOp.or IntKind.u32 (H : Int) (2 ^ S.length % 4294967296)))).drew = w2 at *
    generalize bits BinOp.or IntKind.u32 (H : Int) (2 ^ S.length % 4294967296) = z at *
    have HFE : Hid (fillN S true ev more nx = H + 2 ^ S.length) := by show _ = _; rw [unhide HFI]; simp
    clear lc lf hllt1 wc HFI
    generalize H + 2 ^ S.length = F at *
    go_wp2_with fail
    go_ret
    rw [unhide HFE]
    exact ⟨rfl, (unhide HF2).bel⟩
set_option maxHeartbeats 1000000 in
set_option maxRecDepth 100000 in
theorem Behind_any (w : World) (S : List Sp) (so : Option Addr) (sc wh : Nat) (hS : StS w so S) (hG : StG S) :
  Calls Tryz.prog 125 #[.agg #[.slice so S.length sc, .int .u32 (wh : Int)]] w fun e w' => e = .returned (.int .u32 (walkB S [] : Nat)) ∧ Below w.heap.size w w' := by
 have HC := hide (fun W h => fill_any W S so sc wh false ⟨#[]⟩ false 0 h hG (by decide))
 have HS := hide hS
 have HW : Hid (walkB S [] = fillN S false ⟨#[]⟩ false 0) := rfl
 clear hS hG
 go_enter Tryz.func125, Tryz.ntmps125
 go_wp2_with (go_at_call 167; refine (unhide HC _ ((unhide HS).later ((Below.refl _ _).alloc (Nat.le_refl _) _))).mono ?_)
 rintro e w1 ⟨rfl, hb1⟩
 have HB1 := hide hb1
 clear hb1
 go_wp2_with fail
 go_ret
 exact ⟨rfl, ((Below.refl _ _).alloc (Nat.le_refl _) _).trans ((unhide HB1).mono (by simp))⟩
set_option maxHeartbeats 1000000 in
set_option maxRecDepth 100000 in
theorem AllHold_any (w : World) (so : Option Addr) (n sc wh p : Nat) (hw : wh < 4294967296) (hp : p < 4294967296) :
  Calls Tryz.prog 127 #[.agg #[.slice so n sc, .int .u32 (wh : Int)], .int .u32 (p : Int)] w fun e w' => e = .returned (.bool (p &&& wh == wh)) ∧ Below w.heap.size w w' := by
 have HA := hide (and32 p wh hp hw)
 go_enter Tryz.func127, Tryz.ntmps127
 go_wp2_with fail
 go_ret
 refine ⟨ret_bool ?_, (Below.refl _ _).alloc (Nat.le_refl _) _⟩
 rw [unhide HA]
 rw [Bool.eq_iff_iff]; simp only [beq_iff_eq]; omega
set_option maxHeartbeats 2000000 in
set_option maxRecDepth 100000 in
theorem Ahead_any (w : World) (S : List Sp) (so : Option Addr) (sc wh : Nat) (nx : Nat) (ev : ByteArray) (hS : StS w so S) (hG : StG S) (hnx : nx < 4294967296) :
  Calls Tryz.prog 126 #[.agg #[.slice so S.length sc, .int .u32 (wh : Int)], .int .u32 (nx : Int), .string ev] w fun e w' => e = .returned (.int .u32 (fillN S true ev (nx.testBit S.length) nx : Nat)) ∧ Below w.heap.size w w' := by
 have HC := hide (fun W h => fill_any W S so sc wh true ev (nx.testBit S.length) nx h hG hnx)
 have HH := hide (fun W => pHas_any nx S.length hnx hG.len _ rfl W)
 have HS := hide hS
 clear hS hG
 have hb0 : (w.alloc (.cells #[.slice so S.length sc, .int .u32 (wh : Int)] 149)).heap[w.heap.size]? = some (.cells #[.slice so S.length sc, .int .u32 (wh : Int)] 149 (0, 0)) := blk_alloc _ _
 have hB : Below w.heap.size w (w.alloc (.cells #[.slice so S.length sc, .int .u32 (wh : Int)] 149)) := (Below.refl _ _).alloc (Nat.le_refl _) _
 have HB0 := hide hb0
 have HBB := hide hB
 have HS1 := hide ((unhide HS).later hB)
 clear hb0 hB
 generalize hT : nx.testBit S.length = tb at *
 clear hT
 go_enter Tryz.func126, Tryz.ntmps126
 go_wp2_with fail
 generalize (w.alloc (.cells #[.slice so S.length sc, .int .u32 (wh : Int)] 149)) = W at *
 have bc := fun o => cell_of_blk (unhide HB0) o
 have hlt := lt_of_blk (unhide HB0)
 have c0 : W.cell? ⟨w.heap.size, 0, none⟩ = some (.slice so S.length sc) := bc 0
 have c1 : W.cell? ⟨w.heap.size, 1, none⟩ = some (.int .u32 (wh : Int)) := bc 1
 clear bc
 refine wp_region_held_drew (S := fun w' => w'.cell? ⟨w.heap.size, 0, none⟩ = some (.slice so S.length sc) ∧ w'.cell? ⟨w.heap.size, 1, none⟩ = some (.int .u32 (wh : Int))) (by kernel_rfl) ?_ (fun hHeld => ?_)
 ·exact ⟨c0, c1⟩
 refine wpAnyH_take (i := 0) (v := .agg #[.slice so S.length sc, .int .u32 (wh : Int)]) rfl (by kernel_rfl) (by kernel_rfl) (by kernel_rfl) (fun _ _ _ h => h) (Or.inl ⟨by kernel_rfl, fun w hw => by obtain ⟨s0, s1⟩ := hw; go_simp⟩) hHeld ?_
 try simp only [Act.put, zA, zB, zC, zD, zE, zF]
 refine wpAnyH_take (i := 1) (v := .string ev) rfl (by kernel_rfl) (by kernel_rfl) (by kernel_rfl) (fun _ _ _ h => h) (Or.inl ⟨by kernel_rfl, fun w hw => by obtain ⟨s0, s1⟩ := hw; go_simp⟩) hHeld ?_
 try simp only [Act.put, zA, zB, zC, zD, zE, zF]
 refine wpAnyH_take (i := 2) (v := .int .u32 (nx : Int)) rfl (by kernel_rfl) (by kernel_rfl) (by kernel_rfl) (fun _ _ _ h => h) (Or.inl ⟨by kernel_rfl, fun w hw => by obtain ⟨s0, s1⟩ := hw; go_simp⟩) hHeld ?_
 try simp only [Act.put, zA, zB, zC, zD, zE, zF]
 refine wpAnyH_take (i := 3) (v := .pointer (some ⟨w.heap.size, 0, none⟩)) rfl (by kernel_rfl) (by kernel_rfl) (by kernel_rfl) (fun _ _ _ h => h) (Or.inl ⟨by kernel_rfl, fun w hw => by obtain ⟨s0, s1⟩ := hw; go_simp⟩) hHeld ?_
 try simp only [Act.put, zA, zB, zC, zD, zE, zF]
 refine wpAnyH_take (i := 4) (v := .slice so S.length sc) rfl (by kernel_rfl) (by kernel_rfl) (by kernel_rfl) (fun _ _ _ h => h) (Or.inl ⟨by kernel_rfl, fun w hw => by obtain ⟨s0, s1⟩ := hw; go_simp⟩) hHeld ?_
 try simp only [Act.put, zA, zB, zC, zD, zE, zF]
 refine wpAnyH_take (i := 5) (v := .int .i64 (S.length : Int)) rfl (by kernel_rfl) (by kernel_rfl) (by kernel_rfl) (fun _ _ _ h => h) (Or.inl ⟨by kernel_rfl, fun w hw => by obtain ⟨s0, s1⟩ := hw; go_simp⟩) hHeld ?_
 try simp only [Act.put, zA, zB, zC, zD, zE, zF]
 refine wpAnyH_take (i := 7) (v := .int .u32 (nx : Int)) rfl (by kernel_rfl) (by kernel_rfl) (by kernel_rfl) (fun _ _ _ h => h) (Or.inl ⟨by kernel_rfl, fun w hw => by obtain ⟨s0, s1⟩ := hw; go_simp⟩) hHeld ?_
 try simp only [Act.put, zA, zB, zC, zD, zE, zF]
 refine wpAnyH_ready (rs := [6]) (by kernel_rfl) (by simp) ?_
 refine AllReadyH.cons rfl (fun K hK => ?_) AllReadyH.nil
 go_simp
 refine (unhide HH _).mono ?_
 rintro e w5 ⟨rfl, hw5⟩
 have h5 := hw5.symm
 clear hw5
 subst h5
 refine hK.out _ _ hHeld (fun hHeld => ?_)
 clear hK K
 refine wpAnyH_take (i := 8) (v := .agg #[.bool true, .string ev, .bool tb, .int .u32 (nx : Int), .int .u32 0]) rfl (by kernel_rfl) (by kernel_rfl) (by kernel_rfl) (fun _ _ _ h => h) (Or.inl ⟨by kernel_rfl, fun w hw => by obtain ⟨s0, s1⟩ := hw; go_simp⟩) hHeld ?_
 try simp only [Act.put, zA, zB, zC, zD, zE, zF]
 refine wpAnyH_ready (rs := [9]) (by kernel_rfl) (by simp) ?_
 refine AllReadyH.cons rfl (fun K hK => ?_) AllReadyH.nil
 go_simp
 refine (unhide HC _ ((unhide HS1).later ((Below.refl _ _).drew))).mono ?_
 rintro e w6 ⟨rfl, hb6⟩
 refine hK.out _ _ ⟨(bcell3 hb6 _ _ hlt).trans hHeld.1, (bcell3 hb6 _ _ hlt).trans hHeld.2⟩ (fun hHeld => ?_)
 clear hK K
 have HB6 := hide (((unhide HBB).trans ((((Below.refl _ _).drew).trans hb6).mono (unhide HBB).size)))
 clear hb6
 refine wpAnyH_take (i := 10) (v := .int .u32 (fillN S true ev tb nx : Nat)) rfl (by kernel_rfl) (by kernel_rfl) (by kernel_rfl) (fun _ _ _ h => h) (Or.inl ⟨by kernel_rfl, fun w hw => by obtain ⟨s0, s1⟩ := hw; go_simp⟩) hHeld ?_
 try simp only [Act.put, zA, zB, zC, zD, zE, zF]
 refine wpAnyH_done (by kernel_rfl) ?_ _
 clear hHeld
 go_wp2_with fail
 go_ret
 exact ⟨rfl, unhide HB6⟩
theorem walkB_lt32 {S : List Sp} (h : StG S) (tr : List ByteArray) : walkB S tr < 4294967296 :=
 Nat.lt_of_lt_of_le (walkB_lt S tr) (Nat.le_trans (Nat.pow_le_pow_right (by decide) (show S.length + 1 ≤ 32 by have := h.len; omega)) (by decide))
set_option maxHeartbeats 2000000 in
set_option maxRecDepth 100000 in
theorem WHolds_any (w : World) (S : List Sp) (so : Option Addr) (sc wh : Nat) (tr : List ByteArray) (tt : Option Addr) (tc : Nat) (hS : StS w so S) (hG : StG S) (hT : TxS w tt tr) (hwh : wh < 4294967296) (hn : tr.length ≤ 10000000000000) :
  Calls Tryz.prog 79 #[.agg #[.slice so S.length sc, .int .u32 (wh : Int)], .slice tt tr.length tc] w fun e w' => e = .returned (.bool (walkB S tr &&& wh == wh)) ∧ Below w.heap.size w w' := by
 have HAH := hide (fun W nx ev h h' => Ahead_any W S so sc wh nx ev h hG h')
 have HBH := hide (fun W h => Behind_any W S so sc wh h hG)
 have HAL := hide (fun W p h => AllHold_any W so S.length sc wh p hwh h)
 have HLT := hide (fun l => walkB_lt32 hG l)
 have HS := hide hS
 have HT := hide hT
 have hb0 : (w.alloc (.cells #[.slice so S.length sc, .int .u32 (wh : Int)] 149)).heap[w.heap.size]? = some (.cells #[.slice so S.length sc, .int .u32 (wh : Int)] 149 (0, 0)) := blk_alloc _ _
 have hB : Below w.heap.size w (w.alloc (.cells #[.slice so S.length sc, .int .u32 (wh : Int)] 149)) := (Below.refl _ _).alloc (Nat.le_refl _) _
 have HB0 := hide hb0
 have HBB := hide hB
 have HS1 := hide ((unhide HS).later hB)
 have HT1 := hide ((unhide HT).later hB)
 clear hS hG hT hb0 hB HS HT
 go_enter Tryz.func79, Tryz.ntmps79
 go_wp2_with (go_at_call 125; refine (unhide HBH _ (unhide HS1)).mono ?_)
 rintro e w1 ⟨rfl, hb1⟩
 generalize (w.alloc (.cells #[.slice so S.length sc, .int .u32 (wh : Int)] 149)) = W at *
 have hltW := lt_of_blk (unhide HB0)
 have HB1 := hide hb1
 clear hb1
 go_wp2_with fail
 go_loopw [5, 6] (fun pv x wr => ∃ j : Nat, j ≤ tr.length ∧ pv = .int .u32 (walkB S (tr.drop j) : Nat) ∧ x = .int .i64 ((j : Int) - 1) ∧ Hid (Below W.heap.size W wr)) (fun _ x _ => (intOf x + 1).toNat)
 case atStart => exact ⟨tr.length, Nat.le_refl _, by rw [List.drop_length], rfl, HB1⟩
 case round =>
  obtain ⟨j, hj, rfl, rfl, HBL⟩ := hrel
  have bc := fun o => cell_of_blk (((unhide HBL).block _ hltW).trans (unhide HB0)) o
  have hlt := lt_of_blk (((unhide HBL).block _ hltW).trans (unhide HB0))
  have c0 : wr.cell? ⟨w.heap.size, 0, none⟩ = some (.slice so S.length sc) := bc 0
  have c1 : wr.cell? ⟨w.heap.size, 1, none⟩ = some (.int .u32 (wh : Int)) := bc 1
  clear bc
  have HSr := hide ((unhide HS1).later (unhide HBL))
  have hpl := unhide HLT (tr.drop j)
  by_cases hj0 : 1 ≤ j
  ·obtain ⟨k, rfl⟩ : ∃ k, j = k + 1 := ⟨j - 1, by omega⟩
   have hk : k < tr.length := by omega
   have hkn : (k : Int) < (tr.length : Int) := by omega
   have hdr : walkB S (tr.drop k) = fillN S true tr[k] ((walkB S (tr.drop (k + 1))).testBit S.length) (walkB S (tr.drop (k + 1))) := by
    rw [List.drop_eq_getElem_cons hk, walkB]
   obtain ⟨b, off, hto, hbl, hcx⟩ := (unhide HT1).later (unhide HBL) k tr[k] (List.getElem?_eq_getElem hk)
   have HDR := hide hdr
   subst hto
   clear hdr
   generalize tr[k] = x at *
   generalize hP : walkB S (tr.drop (k + 1)) = P at *
   clear hP
   have hik : ((k + 1 : Nat) : Int) - 1 = (k : Int) := by omega
   rw [hik]
   clear hik
   go_wp2_with fail
   refine wp_region_held_drew (S := fun w' => w'.cell? ⟨w.heap.size, 0, none⟩ = some (.slice so S.length sc) ∧ w'.cell? ⟨w.heap.size, 1, none⟩ = some (.int .u32 (wh : Int)) ∧ w'.cell? ⟨b, off + k, none⟩ = some (.string x)) (by kernel_rfl) ?_ (fun hHeld => ?_)
   ·exact ⟨c0, c1, hcx⟩
   refine wpAnyH_take (i := 0) (v := .agg #[.slice so S.length sc, .int .u32 (wh : Int)]) rfl (by kernel_rfl) (by kernel_rfl) (by kernel_rfl) (fun _ _ _ h => h) (Or.inl ⟨by kernel_rfl, fun w hw => by obtain ⟨s0, s1, s2⟩ := hw; go_simp⟩) hHeld ?_
   try simp only [Act.put, zA, zB, zC, zD, zE, zF]
   refine wpAnyH_take (i := 1) (v := .int .u32 (P : Int)) rfl (by kernel_rfl) (by kernel_rfl) (by kernel_rfl) (fun _ _ _ h => h) (Or.inl ⟨by kernel_rfl, fun w hw => by obtain ⟨s0, s1, s2⟩ := hw; go_simp⟩) hHeld ?_
   try simp only [Act.put, zA, zB, zC, zD, zE, zF]
   refine wpAnyH_take (i := 2) (v := .slice (some ⟨b, off, none⟩) tr.length tc) rfl (by kernel_rfl) (by kernel_rfl) (by kernel_rfl) (fun _ _ _ h => h) (Or.inl ⟨by kernel_rfl, fun w hw => by obtain ⟨s0, s1, s2⟩ := hw; go_simp⟩) hHeld ?_
   try simp only [Act.put, zA, zB, zC, zD, zE, zF]
   refine wpAnyH_take (i := 3) (v := .int .i64 (k : Int)) rfl (by kernel_rfl) (by kernel_rfl) (by kernel_rfl) (fun _ _ _ h => h) (Or.inl ⟨by kernel_rfl, fun w hw => by obtain ⟨s0, s1, s2⟩ := hw; go_simp⟩) hHeld ?_
   try simp only [Act.put, zA, zB, zC, zD, zE, zF]
   refine wpAnyH_take (i := 4) (v := .pointer (some ⟨b, off + k, none⟩)) rfl (by kernel_rfl) (by kernel_rfl) (by kernel_rfl) (fun _ _ _ h => h) (Or.inl ⟨by kernel_rfl, fun w hw => by obtain ⟨s0, s1, s2⟩ := hw; go_simp⟩) hHeld ?_
   try simp only [Act.put, zA, zB, zC, zD, zE, zF]
   refine wpAnyH_take (i := 5) (v := .string x) rfl (by kernel_rfl) (by kernel_rfl) (by kernel_rfl) (fun _ _ _ h => h) (Or.inl ⟨by kernel_rfl, fun w hw => by obtain ⟨s0, s1, s2⟩ := hw; go_simp⟩) hHeld ?_
   try simp only [Act.put, zA, zB, zC, zD, zE, zF]
   refine wpAnyH_ready (rs := [6]) (by kernel_rfl) (by simp) ?_
   refine AllReadyH.cons rfl (fun K hK => ?_) AllReadyH.nil
   go_simp
   refine (unhide HAH _ P x ((unhide HSr).later ((Below.refl _ _).drew)) hpl).mono ?_
   rintro e w6 ⟨rfl, hb6⟩
   refine hK.out _ _ ⟨(bcell3 hb6 _ _ hlt).trans hHeld.1, (bcell3 hb6 _ _ hlt).trans hHeld.2.1, (bcell3 hb6 _ _ hbl).trans hHeld.2.2⟩ (fun hHeld => ?_)
   clear hK K
   have HB6 := hide (((unhide HBL).trans ((((Below.refl _ _).drew).trans hb6).mono (unhide HBL).size)))
   clear hb6
   rw [← unhide HDR]
   refine wpAnyH_take (i := 7) (v := .int .u32 (walkB S (tr.drop k) : Nat)) rfl (by kernel_rfl) (by kernel_rfl) (by kernel_rfl) (fun _ _ _ h => h) (Or.inl ⟨by kernel_rfl, fun w hw => by obtain ⟨s0, s1, s2⟩ := hw; go_simp⟩) hHeld ?_
   try simp only [Act.put, zA, zB, zC, zD, zE, zF]
   refine wpAnyH_done (by kernel_rfl) ?_ _
   clear hHeld
   go_wp2_with fail
   go_roundw
   case rel => exact ⟨k, by omega, rfl, by go_num, HB6⟩
   case measure => simp [intOf]
  ·obtain rfl : j = 0 := by omega
   rw [List.drop_zero] at hpl ⊢
   go_wp2_with (go_at_call 127; refine (unhide HAL _ _ hpl).mono ?_)
   rintro e w6 ⟨rfl, hb6⟩
   have HB6 := hide (((unhide HBB).trans ((unhide HBL).mono (unhide HBB).size)).trans (hb6.mono (by have := (unhide HBB).size; have := (unhide HBL).size; omega)))
   clear hb6
   go_wp2_with fail
   go_ret
   exact ⟨rfl, unhide HB6⟩
theorem wholeM_lt : ∀ (rs : List Rl) (S : List Sp) (w : Nat), w < 2 ^ S.length → (∀ r ∈ rs, ruleF r ≠ .nil) → wholeM rs S w < 2 ^ (stepsM rs S).length
 | [], S, w, h, _ => h
 | r :: rs, S, w, h, hn => by
  rw [wholeM, stepsM]
  have hp := sizeF_pos' (hn r (List.mem_cons_self ..))
  have hl := appS_len (ruleF r) S
  refine wholeM_lt rs _ _ (Nat.or_lt_two_pow (Nat.lt_of_lt_of_le h (Nat.pow_le_pow_right (by decide) (by omega))) (Nat.pow_lt_pow_right (by decide) (by omega))) (fun r' h' => hn r' (List.mem_cons_of_mem _ h'))
theorem appS_small {M : Nat} : ∀ (f : Fm) (S : List Sp), (∀ d ∈ S, d.a ≤ M ∧ d.b ≤ M) → (appS f S).length ≤ M → ∀ d ∈ appS f S, d.a ≤ M ∧ d.b ≤ M
 | .nil, S, h, _ => h
 | .node u v a l r, S, h, hl => by
  rw [appS_len] at hl
  have hz : sizeF (.node u v a l r) = 1 + sizeF l + sizeF r := rfl
  have e1 := appS_len l S
  have e2 := appS_len r (appS l S)
  have h1 := appS_small l S h (by omega)
  have h2 := appS_small r (appS l S) h1 (by omega)
  intro d hd
  rw [appS] at hd
  rcases List.mem_append.1 hd with hd | hd
  ·exact h2 d hd
  ·rcases List.mem_singleton.1 hd with rfl
   constructor
   ·show (if isN l then 0 else (appS l S).length - 1) ≤ M
    split <;> omega
   ·show (if isN r then 0 else (appS r (appS l S)).length - 1) ≤ M
    split <;> omega
theorem steps_small {M : Nat} : ∀ (rs : List Rl) (S : List Sp), (∀ d ∈ S, d.a ≤ M ∧ d.b ≤ M) → (stepsM rs S).length ≤ M → ∀ d ∈ stepsM rs S, d.a ≤ M ∧ d.b ≤ M
 | [], S, h, _ => h
 | r :: rs, S, h, hl => by
  rw [stepsM] at hl ⊢
  refine steps_small rs _ (appS_small (ruleF r) S h ?_) hl
  rw [stepsM_len] at hl; omega
theorem stepsM_g {al : List Tk} {rs : List Rl} (h : MGood al rs) : StG (stepsM rs []) := by
 have hs : StOk (stepsM rs []) (subsM rs) := by simpa using stepsM_ok rs [] [] StOk.nil
 have hl : (stepsM rs []).length ≤ 16 := by rw [stepsM_len]; have := h.nodes; simp; omega
 have hk := subsM_kok (fun r hr => (h.fg r hr).kok)
 have key : ∀ d ∈ stepsM rs [], d.k ≤ 12 ∧ d.a ≤ 31 ∧ d.b ≤ 31 := by
  intro d hd
  obtain ⟨j, hj, hjd⟩ := List.mem_iff_getElem.1 hd
  have hj' : (stepsM rs [])[j]? = some d := by rw [List.getElem?_eq_getElem hj, hjd]
  have hgj : j < (subsM rs).length := by rw [← hs.1]; exact hj
  have hst := hs.2 j d _ hj' (List.getElem?_eq_getElem hgj)
  have hkk := hk _ (List.getElem_mem hgj)
  have hz := steps_small (M := 16) rs [] (fun d hd => (List.not_mem_nil hd).elim) hl d hd
  have hk12 : d.k ≤ 12 := by
   generalize (subsM rs)[j] = f at *
   cases f with
   | nil => exact False.elim hst
   | node u v a l r => rw [hst.1]; exact hkk.1
  exact ⟨hk12, by omega, by omega⟩
 exact ⟨by omega, fun d hd => (key d hd).1, fun d hd => (key d hd).2.1, fun d hd => (key d hd).2.2⟩
def FpS (w : World) (o : Option Addr) (ps : List (Option Addr)) : Prop := ∀ j p, ps[j]? = some p → ∃ g, o = some ⟨g, 0, none⟩ ∧ g < w.heap.size ∧ w.cell? ⟨g, j, none⟩ = some (.pointer p)
def PsG (w : World) (rs : List Rl) (ps : List (Option Addr)) : Prop := rs.length = ps.length ∧ ∀ (j : Nat) (r : Rl) (p : Option Addr), rs[j]? = some r → ps[j]? = some p → IsG w (ruleF r) p
theorem FpS.later {w w' : World} {o : Option Addr} {ps : List (Option Addr)} (h : FpS w o ps) (hb : Below w.heap.size w w') : FpS w' o ps := fun j p hp => by
 obtain ⟨g, h1, h2, h3⟩ := h j p hp
 exact ⟨g, h1, Nat.lt_of_lt_of_le h2 hb.size, (bcell3 hb _ _ h2).trans h3⟩
theorem PsG.later {w w' : World} {rs : List Rl} {ps : List (Option Addr)} (h : PsG w rs ps) (hb : Below w.heap.size w w') : PsG w' rs ps := ⟨h.1, fun j r p h1 h2 => (h.2 j r p h1 h2).later hb⟩
structure NW (w W : World) (so : Option Addr) (sc : Nat) (S : List Sp) (wh : Nat) : Prop where
 rb : W.heap[w.heap.size]? = some (.cells #[.slice none 0 0, .int .u32 0] 149 (0, 0))
 wb : W.heap[w.heap.size + 1]? = some (.cells #[.slice so S.length sc, .int .u32 (wh : Int)] 149 (0, 0))
 own : W.ownsRow (w.heap.size + 2) 319 4 (.slice so S.length sc) S.length (spC S)
 bel : Below w.heap.size w W
theorem NW.call {w W w2 : World} {so : Option Addr} {sc : Nat} {S S' : List Sp} {wh : Nat} {e : Ending} (h : NW w W so sc S wh) (hp : ApPost (w.heap.size + 2) S' (.slice so S.length sc) W w2 e) :
  ∃ o' c', e = .returned (.slice o' S'.length c') ∧ NW w (w2.setCell ⟨w.heap.size + 1, 0, none⟩ (.slice o' S'.length c')) o' c' S' wh ∧ w2.heap[w.heap.size + 1]? = some (.cells #[.slice so S.length sc, .int .u32 (wh : Int)] 149 (0, 0)) := by
 obtain ⟨o', c', he, ho, hg, hat⟩ := hp
 have hrb : w2.heap[w.heap.size]? = some (.cells #[.slice none 0 0, .int .u32 0] 149 (0, 0)) := (hg.block _ (lt_of_blk h.rb) (fun e => own_ty h.own e.symm h.rb (by decide))).trans h.rb
 have hwb : w2.heap[w.heap.size + 1]? = some (.cells #[.slice so S.length sc, .int .u32 (wh : Int)] 149 (0, 0)) := (hg.block _ (lt_of_blk h.wb) (fun e => own_ty h.own e.symm h.wb (by decide))).trans h.wb
 have hb2 : Below w.heap.size w w2 := h.bel.grown hg h.bel.size (fun b hb => by have := (own_lt h.own b hb).1; omega)
 refine ⟨o', c', he, ⟨(Below.heap_setCell _ _ _ _ (by show w.heap.size ≠ w.heap.size + 1; omega)).trans hrb, blk_set hwb 0 _, owns_keep ho (grown_set _ _ _ _) (Or.inr (fun e => own_ty ho e hwb (by decide))), hb2.grown (grown_set _ _ _ _) hb2.size (fun b hb => by cases hb; omega)⟩, hwb⟩
theorem NW.set {w W : World} {so : Option Addr} {sc : Nat} {S : List Sp} {wh : Nat} (h : NW w W so sc S wh) (z : Int) (wh' : Nat) (hz : z = (wh' : Int)) : NW w (W.setCell ⟨w.heap.size + 1, 1, none⟩ (.int .u32 z)) so sc S wh' := by
 subst hz
 exact ⟨(Below.heap_setCell _ _ _ _ (by show w.heap.size ≠ w.heap.size + 1; omega)).trans h.rb, blk_set h.wb 1 _, owns_keep h.own (grown_set _ _ _ _) (Or.inr (fun e => own_ty h.own e h.wb (by decide))), h.bel.grown (grown_set _ _ _ _) h.bel.size (fun b hb => by cases hb; omega)⟩
theorem NW.later {w W W' : World} {so : Option Addr} {sc : Nat} {S : List Sp} {wh : Nat} (h : NW w W so sc S wh) (hb : Below W.heap.size W W') : NW w W' so sc S wh :=
 ⟨(hb.block _ (lt_of_blk h.rb)).trans h.rb, (hb.block _ (lt_of_blk h.wb)).trans h.wb, owns_later h.own hb, h.bel.trans (hb.mono h.bel.size)⟩
def NwPost (rs : List Rl) (w w' : World) (e : Ending) : Prop := ∃ so sc, e = .returned (.agg #[.slice so (stepsM rs []).length sc, .int .u32 (wholeM rs [] 0 : Nat)]) ∧ StS w' so (stepsM rs []) ∧ Below w.heap.size w w'
set_option maxHeartbeats 4000000 in
set_option maxRecDepth 100000 in
theorem NewWalk_any (w : World) (rs : List Rl) (ps : List (Option Addr)) (fo : Option Addr) (fc : Nat) (hF : FpS w fo ps) (hP : PsG w rs ps) (hn : nodesL rs ≤ 16) (hrl : rs.length ≤ 401) (hne : ∀ r ∈ rs, ruleF r ≠ .nil) :
  Calls Tryz.prog 124 #[.slice fo rs.length fc] w fun e w' => NwPost rs w w' e := by
 have HF := hide hF
 have HP := hide hP
 have HNE := hide hne
 clear hF hP hne
 have HN0 : Hid (NW w ((w.alloc (.cells #[.slice none 0 0, .int .u32 0] 149)).alloc (.cells #[.slice none 0 0, .int .u32 0] 149)) none 0 [] 0) :=
  ⟨(Below.heap_alloc _ _ _ (by simp)).trans (blk_alloc _ _), blk_alloc' _ _ _ (by simp), World.ownsRow_nil _ _ _ _, ((Below.refl _ _).alloc (Nat.le_refl _) _).alloc (by simp) _⟩
 go_enter Tryz.func124, Tryz.ntmps124
 go_wp2_with fail
 generalize ((w.alloc (.cells #[.slice none 0 0, .int .u32 0] 149)).alloc (.cells #[.slice none 0 0, .int .u32 0] 149)) = W0 at *
 go_loopw [8] (fun x wr => ∃ (k : Nat) (so : Option Addr) (sc : Nat), k ≤ rs.length ∧ x = .int .i64 k ∧ Hid (NW w wr so sc (stepsM (rs.take k) []) (wholeM (rs.take k) [] 0))) (fun x _ => rs.length - (intOf x).toNat)
 case atStart => exact ⟨0, none, 0, Nat.zero_le _, rfl, HN0⟩
 case round =>
  obtain ⟨k, so, sc, hk, rfl, HN⟩ := hrel
  by_cases hlt : k < rs.length
  ·have hkn : (k : Int) < (rs.length : Int) := by omega
   have hrk : rs[k]? = some rs[k] := List.getElem?_eq_getElem hlt
   obtain ⟨p, hpk⟩ : ∃ p, ps[k]? = some p := ⟨_, List.getElem?_eq_getElem (by have := (unhide HP).1; omega)⟩
   obtain ⟨g, hfo, hg, hcp⟩ := (unhide HF).later (unhide HN).bel k p hpk
   have HIG := hide (((unhide HP).later (unhide HN).bel).2 k _ p hrk hpk)
   have htk : rs.take (k + 1) = rs.take k ++ [rs[k]] := by rw [List.take_add_one, hrk]; rfl
   have hrn : rs[k] ∈ rs := List.getElem_mem hlt
   have hfn := unhide HNE _ hrn
   have hs1 : (stepsM (rs.take k) []).length = nodesL (rs.take k) := by rw [stepsM_len]; simp
   have hsum : nodesL (rs.take k) + sizeF (ruleF rs[k]) ≤ 16 := by
    have h1 : nodesL rs = nodesL (rs.take (k + 1)) + nodesL (rs.drop (k + 1)) := by rw [← nodesL_append, List.take_append_drop]
    rw [htk, nodesL_append] at h1
    simp only [nodesL] at h1
    omega
   have HST : Hid (stepsM (rs.take (k + 1)) [] = appS (ruleF rs[k]) (stepsM (rs.take k) [])) := by show _ = _; rw [htk, stepsM_snoc]
   have HWH : Hid (wholeM (rs.take (k + 1)) [] 0 = (wholeM (rs.take k) [] 0 ||| 2 ^ ((appS (ruleF rs[k]) (stepsM (rs.take k) [])).length - 1))) := by show _ = _; rw [htk, wholeM_snoc, stepsM_snoc]
   have hwl : wholeM (rs.take k) [] 0 < 4294967296 := Nat.lt_of_lt_of_le (wholeM_lt _ [] 0 (by decide) (fun r hr => unhide HNE r (List.mem_of_mem_take hr))) (Nat.le_trans (Nat.pow_le_pow_right (by decide) (show _ ≤ 32 by omega)) (by decide))
   have hal := appS_len (ruleF rs[k]) (stepsM (rs.take k) [])
   have hpz := sizeF_pos' hfn
   have ha1 : 1 ≤ (appS (ruleF rs[k]) (stepsM (rs.take k) [])).length := by omega
   have ha2 : (appS (ruleF rs[k]) (stepsM (rs.take k) [])).length ≤ 16 := by omega
   have hs3 : (stepsM (rs.take k) []).length + sizeF (ruleF rs[k]) ≤ 100000 := by omega
   subst hfo
   clear hrk hpk htk hrn hs1 hsum hal hpz
   generalize stepsM (rs.take k) [] = S at *
   generalize wholeM (rs.take k) [] 0 = wh at *
   generalize rs[k] = r at *
   have HAP := hide (fun W h1 h2 h3 => appendSteps_any (ruleF r) S W p (w.heap.size + 2) so sc hfn h1 h2 h3 hs3)
   generalize hfr : ruleF r = f at *
   clear hfr hs3
   have wc := fun o => cell_of_blk (unhide HN).wb o
   have hwb := lt_of_blk (unhide HN).wb
   go_wp2_with (go_at_call 166; refine (unhide HAP _ (unhide HIG) (unhide HN).own (by omega)).mono ?_)
   intro e w2 hp2
   obtain ⟨o2, c2, he2, hN2, hb2⟩ := (unhide HN).call hp2
   subst he2
   have HN2 := hide hN2
   have wc := fun o => cell_of_blk hb2 o
   have wf := fun o => frozen_of_blk hb2 o
   have hwb2 := lt_of_blk hb2
   clear hN2 hp2 hb2
   generalize hS2 : appS f S = S2 at *
   clear hS2
   obtain ⟨m, hm⟩ : ∃ m, S2.length = m + 1 := ⟨S2.length - 1, by omega⟩
   go_wp2_with fail
   have hwld : w2.setCell ⟨w.heap.size + 1, 0, none⟩ (.slice o2 S2.length c2) = w2.setCell ⟨w.heap.size + 1, 0, none⟩ (.slice o2 (m + 1) c2) := by rw [hm]
   rw [hwld] at HN2
   clear hwld wc wf hwb2
   generalize w2.setCell ⟨w.heap.size + 1, 0, none⟩ (.slice o2 (m + 1) c2) = w3 at *
   have HWE : Hid (wholeM (rs.take (k + 1)) [] 0 = (wh ||| 2 ^ m)) := by show _ = _; rw [unhide HWH, hm]; rfl
   have hm16 : m ≤ 31 := by omega
   have hblk := (unhide HN2).wb
   rw [hm] at hblk
   have wc := fun o => cell_of_blk hblk o
   have wf := fun o => frozen_of_blk hblk o
   have hwb2 := lt_of_blk hblk
   clear hblk hm HWH HAP
   go_region
   have HN3 := hide (((unhide HN2).set (bits BinOp.or IntKind.u32 (wh : Int) (2 ^ m % 4294967296)) (wh ||| 2 ^ m) (or_bit32 wh m hwl hm16)).later ((Below.refl _ _).drew))
   generalize (w3.setCell ⟨w.heap.size + 1, 1, none⟩ (.int .u32 (bits BinOp.or IntKind.u32 (wh : Int) (2 ^ m % 4294967296)))).drew = w4 at *
   generalize bits BinOp.or IntKind.u32 (wh : Int) (2 ^ m % 4294967296) = z at *
   clear wc wf hwb2
   go_wp2_with fail
   go_roundw
   case rel => exact ⟨k + 1, o2, c2, by omega, by go_num, by rw [unhide HWE, unhide HST]; exact HN3⟩
   case measure => simp [intOf]; omega
  ·have hkn : ¬ (k : Int) < (rs.length : Int) := by omega
   have hke : rs.take k = rs := List.take_of_length_le (by omega)
   rw [hke] at HN
   have wc := fun o => cell_of_blk (unhide HN).wb o
   have rc := fun o => cell_of_blk (unhide HN).rb o
   have rf := fun o => frozen_of_blk (unhide HN).rb o
   have hl1 := lt_of_blk (unhide HN).wb
   have hl0 := lt_of_blk (unhide HN).rb
   go_wp2_with fail
   have hf1 := blk_set (unhide HN).rb 0 (.slice so (stepsM rs []).length sc)
   have ho1 := owns_keep (unhide HN).own (grown_set wr w.heap.size 0 (.slice so (stepsM rs []).length sc)) (Or.inr (fun e => own_ty (unhide HN).own e (unhide HN).rb (by decide)))
   have hfin := blk_set hf1 1 (.int .u32 ((wholeM rs [] 0 : Nat) : Int))
   have ho2 := owns_keep ho1 (grown_set _ w.heap.size 1 (.int .u32 ((wholeM rs [] 0 : Nat) : Int))) (Or.inr (fun e => own_ty ho1 e hf1 (by decide)))
   have hbf : Below w.heap.size w ((wr.setCell ⟨w.heap.size, 0, none⟩ (.slice so (stepsM rs []).length sc)).setCell ⟨w.heap.size, 1, none⟩ (.int .u32 ((wholeM rs [] 0 : Nat) : Int))) := by
    have h1 := (unhide HN).bel.grown (grown_set wr w.heap.size 0 (.slice so (stepsM rs []).length sc)) (unhide HN).bel.size (fun b hb => by cases hb; exact Nat.le_refl _)
    exact h1.grown (grown_set _ _ _ _) h1.size (fun b hb => by cases hb; exact Nat.le_refl _)
   generalize ((wr.setCell ⟨w.heap.size, 0, none⟩ (.slice so (stepsM rs []).length sc)).setCell ⟨w.heap.size, 1, none⟩ (.int .u32 ((wholeM rs [] 0 : Nat) : Int))) = wf at *
   have hfin' : wf.heap[w.heap.size]? = some (.cells #[.slice so (stepsM rs []).length sc, .int .u32 ((wholeM rs [] 0 : Nat) : Int)] 149 (0, 0)) := hfin
   have fc := fun o => cell_of_blk hfin' o
   refine bodyPost_ret (v := .agg #[.slice so (stepsM rs []).length sc, .int .u32 ((wholeM rs [] 0 : Nat) : Int)]) (by simp [results, Tryz.results124, go_sem, fc]) rfl ?_
   exact ⟨so, sc, rfl, StS.of ho2, hbf⟩
end Go.Proofs.YtidakhhekofkoaaGreatDoor
namespace Go.Proofs.YtidakhhekofkoaaGreatDoor.Rt
open Go.Deep
end Go.Proofs.YtidakhhekofkoaaGreatDoor.Rt
namespace Go.Proofs.YtidakhhekofkoaaGreatDoor.Rt
open Go.Deep
end Go.Proofs.YtidakhhekofkoaaGreatDoor.Rt
namespace Go.Proofs.YtidakhhekofkoaaGreatDoor
open Rt
def firstB : ByteArray := ⟨#[97, 99, 116, 115, 32, 97, 44, 98, 59, 114, 117, 108, 101, 32, 114, 101, 115, 112, 111, 110, 115, 101, 40, 97, 44, 98, 41, 59]⟩
def firstT : ByteArray := ⟨#[97, 99, 116, 115, 32, 97, 44, 32, 98, 59, 10, 114, 117, 108, 101, 32, 114, 101, 115, 112, 111, 110, 115, 101, 40, 97, 44, 32, 98, 41, 59, 10]⟩
theorem first_print : printM firstB = (firstT, 0, 0) := by decide +kernel
theorem first_ab : holdsM firstB [⟨#[97]⟩, ⟨#[98]⟩] = (true, 0) := by decide +kernel
theorem first_a : holdsM firstB [⟨#[97]⟩] = (false, 0) := by decide +kernel
end Go.Proofs.YtidakhhekofkoaaGreatDoor
namespace Go.Proofs.YtidakhhekofkoaaGreatDoor
open Rt
end Go.Proofs.YtidakhhekofkoaaGreatDoor
