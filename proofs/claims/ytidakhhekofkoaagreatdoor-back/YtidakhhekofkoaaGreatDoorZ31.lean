/- The reference's add: a formula's parts. -/
import Derived.Test.YtidakhhekofkoaaGreatDoorZ19
import Derived.Deep.AppendLies
import Derived.Deep.RegionLaw
import Derived.BigQuiet
import Derived.Deep.RegionHeld
import Derived.Test.YtidakhhekofkoaaGreatDoorZ20
import Derived.Test.YtidakhhekofkoaaGreatDoorZ02
import Derived.Test.YtidakhhekofkoaaGreatDoorZ27
import Derived.Test.YtidakhhekofkoaaGreatDoorZ15
import Derived.Deep.DeepCutAuto
set_option linter.unusedSimpArgs false
set_option maxRecDepth 100000
set_option linter.unusedSectionVars false
set_option linter.unusedVariables false
open List renaming setIfInBounds_toArray → zA, set_cons_zero → zB, set_cons_succ → zC, getElem_toArray → zD, getElem_cons_succ → zE, getElem_cons_zero → zF
namespace Go.Proofs.YtidakhhekofkoaaGreatDoor
open Go.RowKit Go.Deep
theorem Fg.ne {Q : Tk → Prop} {f : Fm} (h : Fg Q f) : f ≠ .nil := by
 intro e; subst e; exact h
end Go.Proofs.YtidakhhekofkoaaGreatDoor
namespace Go.Proofs.YtidakhhekofkoaaGreatDoor
open Go.Deep
theorem Fg.weak {Q R : Tk → Prop} (h : ∀ t, Q t → R t) : ∀ {f : Fm}, Fg Q f → Fg R f
 | .nil, hf => False.elim hf
 | .node _ _ a l r, hf => by
  rcases hf with ⟨h1, ⟨t, h2, h3⟩, h4⟩ | hf | ⟨h1, h2, h3⟩ | ⟨h1, h2, h3⟩
  ·exact Or.inl ⟨h1, ⟨t, h t h2, h3⟩, h4⟩
  ·exact Or.inr (Or.inl hf)
  ·exact Or.inr (Or.inr (Or.inl ⟨h1, Fg.weak h h2, h3⟩))
  ·exact Or.inr (Or.inr (Or.inr ⟨h1, Fg.weak h h2, Fg.weak h h3⟩))
def TkA (_ : Tk) : Prop := True
theorem Fg.act (s : ByteArray) : Fg TkA (acF s) := Or.inl ⟨rfl, ⟨⟨2, s, 0⟩, trivial, rfl, rfl, rfl⟩, rfl, rfl⟩
theorem timesF_fg (a : ByteArray) : ∀ n, Fg TkA (timesF a n)
 | 0 => Fg.one (by decide) (Fg.act a)
 | 1 => Fg.one (by decide) (Fg.act a)
 | n + 2 => Fg.one (by decide) (Fg.two (by decide) (Fg.act a) (Fg.one (by decide) (timesF_fg a (n + 1))))
theorem tplF_fg (k : Nat) (a b : ByteArray) (n : Nat) : Fg TkA (tplF k a b n) := by
 have ha := Fg.act a
 have hb := Fg.act b
 have ht : Fg TkA (leaf 1 ByteArray.empty 0) := Fg.word (by decide)
 unfold tplF
 repeat' split
 ·exact ha
 ·exact Fg.one (by decide) (Fg.two (by decide) ha (Fg.one (by decide) (Fg.one (by decide) ht)))
 ·exact timesF_fg a n
 ·exact Fg.one (by decide) (timesF_fg a n)
 ·exact Fg.one (by decide) (Fg.two (by decide) ha (Fg.one (by decide) hb))
 ·exact Fg.two (by decide) (Fg.two (by decide) (Fg.one (by decide) hb) ha) (Fg.one (by decide) (Fg.one (by decide) hb))
 ·exact Fg.one (by decide) (Fg.two (by decide) ha (Fg.one (by decide) hb))
 ·exact Fg.two (by decide) (Fg.one (by decide) hb) (Fg.one (by decide) (Fg.two (by decide) (Fg.one (by decide) hb) ha))
 ·exact Fg.two (by decide) (Fg.one (by decide) ha) (Fg.one (by decide) hb)
 ·exact Fg.one (by decide) (Fg.two (by decide) (Fg.one (by decide) ha) (Fg.one (by decide) hb))
 ·exact Fg.one (by decide) (Fg.two (by decide) ha (Fg.one (by decide) (Fg.one (by decide) (Fg.one (by decide) hb))))
 ·exact Fg.one (by decide) (Fg.two (by decide) ha (Fg.one (by decide) (Fg.one (by decide) hb)))
theorem MGood.fg {al : List Tk} {rs : List Rl} (h : MGood al rs) : ∀ r ∈ rs, Fg TkA (ruleF r) := by
 intro r hr
 unfold ruleF
 split
 ·exact tplF_fg _ _ _ _
 ·rename_i hc
  rcases h.rules r hr with ⟨h1, _⟩ | ⟨_, h2, _⟩
  ·exact absurd h1 hc
  ·exact h2.weak (fun _ _ => trivial)
theorem MGood.dist {al : List Tk} {rs : List Rl} (h : MGood al rs) : Dist al := dist_of (List.append_eq_nil_iff.1 h.nof).1
end Go.Proofs.YtidakhhekofkoaaGreatDoor
namespace Go.Proofs.YtidakhhekofkoaaGreatDoor.Rt
open Go.Deep
theorem extract_list (s : ByteArray) (i j : Nat) : (s.extract i j).data.toList = (s.data.toList.drop i).take (j - i) := by
 rw [ByteArray.data_extract, Array.toList_extract, List.extract_eq_take_drop]
theorem span_all (p : UInt8 → Bool) : ∀ (l : List UInt8), ∀ c ∈ l.take (span p l), p c = true
 | [], c, h => by simp at h
 | d :: r, c, h => by
  unfold span at h
  split at h
  ·rename_i hd
   rw [List.take_succ_cons] at h
   rcases List.mem_cons.1 h with rfl | h
   ·exact hd
   ·exact span_all p r c h
  ·simp at h
def TkN (t : Tk) : Prop := (t.k = 2 → t.s.data.toList ≠ [] ∧ (∀ c ∈ t.s.data.toList, isLet c = true) ∧ isWord t.s.data.toList = false) ∧ (t.k = 3 → ∃ c : UInt8, t.s.data.toList = [c] ∧ 48 ≤ c.toNat ∧ c.toNat ≤ 57)
theorem isWord_of {l : List UInt8} (h : wordK l = 2) : isWord l = false := by
 cases hw : isWord l with
 | false => rfl
 | true => have := wordK_word l hw; omega
theorem signK_ge (c : Nat) : signK c ≠ 2 ∧ signK c ≠ 3 := by
 unfold signK
 repeat' split
 all_goals exact ⟨by decide, by decide⟩
theorem lexAt_nm (s : ByteArray) (j : Nat) : TkN (lexAt s j) := by
 unfold lexAt
 split
 ·rename_i h
  split
  ·rename_i hl
   refine ⟨fun hk => ⟨?_, ?_, isWord_of hk⟩, fun hk => ?_⟩
   ·show (s.extract j (upTo isLet s j)).data.toList ≠ []
    rw [extract_list]
    have e : upTo isLet s j - j = span isLet (s.data.toList.drop j) := by unfold upTo; omega
    rw [e, drop_at s j h, span, if_pos hl, List.take_succ_cons]
    exact List.cons_ne_nil _ _
   ·show ∀ c ∈ (s.extract j (upTo isLet s j)).data.toList, isLet c = true
    rw [extract_list]
    have e : upTo isLet s j - j = span isLet (s.data.toList.drop j) := by unfold upTo; omega
    rw [e]
    exact span_all _ _
   ·have hk' : wordK (s.extract j (upTo isLet s j)).data.toList = 3 := hk
    unfold wordK at hk'
    repeat' split at hk'
    all_goals omega
  ·split
   ·rename_i hd
    exact ⟨fun hk => (by cases hk), fun _ => ⟨s[j], extract_one s j h, hd.1, hd.2⟩⟩
   ·split
    ·split
     ·exact ⟨fun hk => (by cases hk), fun hk => (by cases hk)⟩
     ·exact ⟨fun hk => absurd hk (signK_ge _).1, fun hk => absurd hk (signK_ge _).2⟩
    ·exact ⟨fun hk => absurd hk (signK_ge _).1, fun hk => absurd hk (signK_ge _).2⟩
 ·exact ⟨fun hk => (by cases hk), fun hk => (by cases hk)⟩
theorem lexR_nm (s : ByteArray) : ∀ n i, ∀ t ∈ lexR s n i, TkN t
 | 0, _, t, h => by simp [lexR] at h
 | n + 1, i, t, h => by
  by_cases hk : (lexAt s (upTo isBl s i)).k ≤ 1
  ·rw [lexR_stop s n i hk] at h; simp at h; subst h; exact lexAt_nm _ _
  ·rw [lexR_go s n i hk] at h
   rcases List.mem_cons.1 h with rfl | h
   ·exact lexAt_nm _ _
   ·exact lexR_nm s n _ t h
theorem readM_nm {s : ByteArray} {al : List Tk} {rs : List Rl} (h : readM s = .ok (al, rs)) : (∀ t ∈ al, TkN t ∧ t.k = 2) ∧ ∀ r ∈ rs, ∃ m, RlGood TkN m r := by
 unfold readM at h
 split at h
 ·cases h
 ·cases hm : modelRead (lexR s (s.size + 1) 0) with
  | error q => rw [hm] at h; cases h
  | ok m =>
   obtain ⟨al', rs'⟩ := m
   rw [hm, rdOf] at h
   split at h
   ·cases h
   ·split at h
    ·cases h
    ·cases h
     have hg := modelRead_good TkN _ _ _ hm (fun t ht => lexR_nm s _ _ t ht)
     exact ⟨hg.1, fun r hr => ⟨_, hg.2.2.2.1 r hr⟩⟩
end Go.Proofs.YtidakhhekofkoaaGreatDoor.Rt
namespace Go.Proofs.YtidakhhekofkoaaGreatDoor
open Rt
def firstB : ByteArray := ⟨#[97, 99, 116, 115, 32, 97, 44, 98, 59, 114, 117, 108, 101, 32, 114, 101, 115, 112, 111, 110, 115, 101, 40, 97, 44, 98, 41, 59]⟩
end Go.Proofs.YtidakhhekofkoaaGreatDoor
namespace Go.Proofs.YtidakhhekofkoaaGreatDoor
end Go.Proofs.YtidakhhekofkoaaGreatDoor
namespace Go.Proofs.YtidakhhekofkoaaGreatDoor
open Go.Deep
def stB (S : List Sp) (ins : Bool) (ev : ByteArray) (more : Bool) (nx hr k : Nat) : Bool := match S[k]? with
 | some d => stepP d.k ins more (ev.toList == d.s.toList) (hr.testBit d.a) (hr.testBit d.b) (nx.testBit d.a) (nx.testBit k)
 | none => false
def hereN (S : List Sp) (ins : Bool) (ev : ByteArray) (more : Bool) (nx : Nat) : Nat → Nat
 | 0 => 0
 | k + 1 => hereN S ins ev more nx k + (if stB S ins ev more nx (hereN S ins ev more nx k) k = true then 2 ^ k else 0)
def fillN (S : List Sp) (ins : Bool) (ev : ByteArray) (more : Bool) (nx : Nat) : Nat := hereN S ins ev more nx S.length + (if ins = true then 2 ^ S.length else 0)
theorem hereN_pre (S : List Sp) (ins : Bool) (ev : ByteArray) (more : Bool) (nx : Nat) : ∀ k, hereN S ins ev more nx k = preN (fun j => stB S ins ev more nx (hereN S ins ev more nx j) j) k
 | 0 => rfl
 | k + 1 => by rw [hereN, preN, ← hereN_pre S ins ev more nx k]
theorem hereN_lt (S : List Sp) (ins : Bool) (ev : ByteArray) (more : Bool) (nx k : Nat) : hereN S ins ev more nx k < 2 ^ k := by rw [hereN_pre]; exact preN_lt _ _
theorem hereN_or (S : List Sp) (ins : Bool) (ev : ByteArray) (more : Bool) (nx k : Nat) : hereN S ins ev more nx k ||| 2 ^ k = hereN S ins ev more nx k + 2 ^ k := by rw [hereN_pre]; exact preN_or _ _
theorem fillN_lt (S : List Sp) (ins : Bool) (ev : ByteArray) (more : Bool) (nx : Nat) : fillN S ins ev more nx < 2 ^ (S.length + 1) := by
 have := hereN_lt S ins ev more nx S.length
 unfold fillN
 rw [Nat.pow_succ]
 split <;> omega
def KOk : Fm → Prop
 | .nil => True
 | .node _ _ a l r => a.1 ≤ 12 ∧ (a.1 = 0 ∨ a.1 = 1 ∨ a.1 = 2 ∨ a.1 = 3 ∨ l ≠ .nil) ∧ (a.1 < 9 ∨ r ≠ .nil) ∧ KOk l ∧ KOk r
theorem Fg.kok {Q : Tk → Prop} : ∀ {f : Fm}, Fg Q f → KOk f
 | .nil, h => False.elim h
 | .node _ _ a l r, h => by
  rcases h with ⟨h1, _, rfl, rfl⟩ | ⟨h1, rfl, rfl⟩ | ⟨h1, h2, rfl⟩ | ⟨h1, h2, h3⟩
  ·exact ⟨by omega, Or.inl h1, Or.inl (by omega), trivial, trivial⟩
  ·exact ⟨by omega, by omega, Or.inl (by omega), trivial, trivial⟩
  ·exact ⟨by omega, Or.inr (Or.inr (Or.inr (Or.inr h2.ne))), Or.inl (by omega), Fg.kok h2, trivial⟩
  ·exact ⟨by omega, Or.inr (Or.inr (Or.inr (Or.inr h2.ne))), Or.inr h3.ne, Fg.kok h2, Fg.kok h3⟩
theorem subs_kok : ∀ {f : Fm}, KOk f → ∀ g ∈ subs f, KOk g
 | .nil, _, g, hg => (List.not_mem_nil hg).elim
 | .node u v a l r, h, g, hg => by
  rw [subs] at hg
  rcases List.mem_append.1 hg with hg | hg
  ·rcases List.mem_append.1 hg with hg | hg
   ·exact subs_kok h.2.2.2.1 g hg
   ·exact subs_kok h.2.2.2.2 g hg
  ·rcases List.mem_singleton.1 hg with rfl
   exact h
theorem subsM_kok {rs : List Rl} (h : ∀ r ∈ rs, KOk (ruleF r)) : ∀ g ∈ subsM rs, KOk g := by
 intro g hg
 unfold subsM at hg
 obtain ⟨l, hl, hgl⟩ := List.mem_flatten.1 hg
 obtain ⟨r, hr, rfl⟩ := List.mem_map.1 hl
 exact subs_kok (h r hr) g hgl
def walkB (S : List Sp) : List ByteArray → Nat
 | [] => fillN S false ⟨#[]⟩ false 0
 | ev :: r => fillN S true ev ((walkB S r).testBit S.length) (walkB S r)
def wholeM : List Rl → List Sp → Nat → Nat
 | [], _, w => w
 | r :: rs, S, w => wholeM rs (appS (ruleF r) S) (w ||| 2 ^ ((appS (ruleF r) S).length - 1))
theorem wholeM_snoc (r : Rl) : ∀ (rs : List Rl) (S : List Sp) (w : Nat), wholeM (rs ++ [r]) S w = (wholeM rs S w ||| 2 ^ ((stepsM (rs ++ [r]) S).length - 1))
 | [], S, w => rfl
 | x :: rs, S, w => by rw [List.cons_append, wholeM, wholeM_snoc r rs]; rfl
end Go.Proofs.YtidakhhekofkoaaGreatDoor
namespace Go.Proofs.YtidakhhekofkoaaGreatDoor
def nmA (al : List Tk) (a : Nat) : ByteArray := ((al[a]?).map (·.s)).getD ⟨#[]⟩
def p0P (S : List Sp) : Nat := fillN S false ⟨#[]⟩ false 0
def ahP (S : List Sp) (al : List Tk) (p a : Nat) : Nat := fillN S true (nmA al a) (p.testBit S.length) p
def keepP (w p : Nat) : Bool := p &&& w == w
theorem nodup_le : ∀ (B : Nat) (l : List Nat), l.Nodup → (∀ x ∈ l, x < B) → l.length ≤ B
 | 0, l, _, h => by
  cases l with
  | nil => exact Nat.le_refl _
  | cons x r => exact absurd (h x (List.mem_cons_self ..)) (Nat.not_lt_zero _)
 | B + 1, l, hn, h => by
  have h1 := nodup_le B (l.erase B) (hn.erase B) (fun x hx => by
   have hx' := h x (List.mem_of_mem_erase hx)
   have hne : x ≠ B := fun e => by
    rw [e] at hx
    exact (hn.not_mem_erase) hx
   omega)
  rw [List.length_erase] at h1
  split at h1 <;> omega
section
variable {σ : Type} [DecidableEq σ]
theorem bfs_end {st : σ → Nat → σ} {acts : List Nat} {mx n k : Nat} {l : List σ} {rows : List (List Nat)} (h : l.length ≤ k) : bfs st acts mx (n + 1) k l rows = some (l, rows) := by
 rw [bfs, List.getElem?_eq_none h]
theorem bfs_next {st : σ → Nat → σ} {acts : List Nat} {mx n k : Nat} {l : List σ} {rows : List (List Nat)} {s : σ} (h : l[k]? = some s) (hm : ¬ mx < (rowN st s acts l).1.length) :
  bfs st acts mx (n + 1) k l rows = bfs st acts mx n (k + 1) (rowN st s acts l).1 (rows ++ [(rowN st s acts l).2]) := by
 rw [bfs, h]
 simp only
 rw [if_neg hm]
theorem bfs_many {st : σ → Nat → σ} {acts : List Nat} {mx n k : Nat} {l : List σ} {rows : List (List Nat)} {s : σ} (h : l[k]? = some s) (hm : mx < (rowN st s acts l).1.length) :
  bfs st acts mx (n + 1) k l rows = none := by
 rw [bfs, h]
 simp only
 rw [if_pos hm]
end
theorem placesP_le {S : List Sp} {al : List Tk} {n k : Nat} {l : List Nat} {tw : List (List Nat)} (h : Bfs (ahP S al) (List.range n) (p0P S) k l tw) : l.length ≤ 2 ^ (S.length + 1) ∧ ∀ p ∈ l, p < 2 ^ (S.length + 1) := by
 have hb : ∀ p ∈ l, p < 2 ^ (S.length + 1) := fun p hp => by
  obtain ⟨j, hj⟩ := List.mem_iff_getElem?.1 hp
  cases j with
  | zero =>
   rw [h.first] at hj
   cases hj
   exact fillN_lt _ _ _ _ _
  | succ j =>
   obtain ⟨_, _, _, _, _, _, _, e⟩ := h.met j p hj
   rw [e]
   exact fillN_lt _ _ _ _ _
 exact ⟨nodup_le _ _ h.nodup hb, hb⟩
def flB (b : List Bool) : Nat := (if (b[0]?).getD false = true then 1 else 0) + (if b.any id = true then 2 else 0)
def tabOf (names : List ByteArray) (m : List (List Bool)) (rows : List (List Nat)) : Tb := ⟨names, m.map flB, rows⟩
theorem flB_odd (b : List Bool) : flB b % 2 = 1 ↔ (b[0]?).getD false = true := by
 unfold flB
 generalize (b[0]?).getD false = x
 generalize b.any id = y
 cases x <;> cases y <;> decide
theorem flB_two (b : List Bool) : 2 ≤ flB b ↔ true ∈ b := by
 have e : b.any id = true ↔ true ∈ b := by
  rw [List.any_eq_true]
  exact ⟨fun ⟨x, hx, e⟩ => by have e' : x = true := e; rw [← e']; exact hx, fun h => ⟨true, h, rfl⟩⟩
 rw [← e]
 unfold flB
 generalize (b[0]?).getD false = x
 generalize b.any id = y
 cases x <;> cases y <;> decide
theorem flB_le (b : List Bool) : flB b ≤ 3 := by unfold flB; split <;> split <;> omega
def CmpR {π : Type} [DecidableEq π] (p0 : π) (ah : π → Nat → π) (keep : π → Bool) (names : List ByteArray) (o : Option Tb) : Prop :=
 ∃ (l : List π) (tw : List (List Nat)), Bfs ah (List.range names.length) p0 l.length l tw ∧ o = (bfs (setB tw) (List.range names.length) 100 102 0 [l.map keep] []).map fun x => tabOf names x.1 x.2
section
variable {π : Type} [DecidableEq π]
structure CmpT (p0 : π) (ah : π → Nat → π) (keep : π → Bool) (t : Tb) (l : List π) (tw : List (List Nat)) (m : List (List Bool)) : Prop where
 pl : Bfs ah (List.range t.acts.length) p0 l.length l tw
 st : Bfs (setB tw) (List.range t.acts.length) (l.map keep) m.length m t.nx
 fl : t.fl = m.map flB
 few : m.length ≤ 100
theorem CmpR.some {p0 : π} {ah : π → Nat → π} {keep : π → Bool} {names : List ByteArray} {t : Tb} (h : CmpR p0 ah keep names (some t)) : t.acts = names ∧ ∃ l tw m, CmpT p0 ah keep t l tw m := by
 obtain ⟨l, tw, h1, h2⟩ := h
 cases e : bfs (setB tw) (List.range names.length) 100 102 0 [l.map keep] [] with
 | none => rw [e] at h2; cases h2
 | some x =>
  obtain ⟨m, rows⟩ := x
  rw [e] at h2
  have h3 : t = tabOf names m rows := Option.some.inj h2
  obtain ⟨k1, k2⟩ := bfs_spec 102 0 [l.map keep] [] (Bfs.start _ _ _) (by simp) m rows e
  subst h3
  exact ⟨rfl, l, tw, m, h1, k1, rfl, by simpa using k2⟩
theorem CmpT.hf {p0 : π} {ah : π → Nat → π} {keep : π → Bool} {t : Tb} {l : List π} {tw : List (List Nat)} {m : List (List Bool)} (h : CmpT p0 ah keep t l tw m) :
  ∀ (i : Nat) (b : List Bool), m[i]? = some b → ∃ f, t.fl[i]? = some f ∧ (f % 2 = 1 ↔ (b[0]?).getD false = true) := fun i b hb =>
 ⟨flB b, by rw [h.fl, List.getElem?_map, hb]; rfl, flB_odd b⟩
theorem CmpT.right {p0 : π} {ah : π → Nat → π} {keep : π → Bool} {t : Tb} {l : List π} {tw : List (List Nat)} {m : List (List Bool)} (h : CmpT p0 ah keep t l tw m) (ha : ActsOk t.acts) : RightT t := by
 have hm1 : 1 ≤ m.length := by have := (List.getElem?_eq_some_iff.1 h.st.first).1; omega
 have hnl : t.nx.length = m.length := h.st.len
 refine ⟨ha, by omega, by have := h.few; omega, by rw [h.fl, List.length_map, hnl], fun r hr => ?_, fun f hf => ?_, fun i f hi => ?_⟩
 ·obtain ⟨i, hi⟩ := List.mem_iff_getElem?.1 hr
  have hil : i < m.length := by have := (List.getElem?_eq_some_iff.1 hi).1; omega
  obtain ⟨r', r1, r2, r3⟩ := h.st.row i m[i] hil (List.getElem?_eq_getElem hil)
  rw [hi] at r1
  cases r1
  rw [List.length_range] at r2
  refine ⟨r2, fun x hx => ?_⟩
  obtain ⟨q, hq⟩ := List.mem_iff_getElem?.1 hx
  have hql : q < t.acts.length := by have := (List.getElem?_eq_some_iff.1 hq).1; omega
  obtain ⟨k, k1, k2⟩ := r3 q q (List.getElem?_range hql)
  rw [hq] at k1
  cases k1
  have := (List.getElem?_eq_some_iff.1 k2).1
  omega
 ·rw [h.fl] at hf
  obtain ⟨b, _, rfl⟩ := List.mem_map.1 hf
  exact flB_le b
 ·rw [h.fl, List.getElem?_map] at hi
  cases hb : m[i]? with
  | none => rw [hb] at hi; cases hi
  | some b =>
   rw [hb] at hi
   have hfb : flB b = f := Option.some.inj hi
   rw [← hfb, flB_two, lives_any h.pl h.st h.hf hb]
end
section
variable {π ρ : Type} [DecidableEq π] [DecidableEq ρ]
theorem flB_alike {p0 : π} {ah : π → Nat → π} {keep : π → Bool} {q0 : ρ} {ah' : ρ → Nat → ρ} {keep' : ρ → Bool} {n : Nat} {l : List π} {tw : List (List Nat)} {l' : List ρ} {tw' : List (List Nat)}
  (h : Bfs ah (List.range n) p0 l.length l tw) (h' : Bfs ah' (List.range n) q0 l'.length l' tw') (same : ∀ v : List Nat, (∀ a ∈ v, a < n) → keep (plc p0 ah v) = keep' (plc q0 ah' v)) {b b' : List Bool} (hb : ByOne n ah keep l ah' keep' l' b b') : flB b = flB b' := by
 obtain ⟨u, hu, rfl, rfl⟩ := hb
 have hap : ∀ {v : List Nat}, (∀ a ∈ v, a < n) → ∀ a ∈ u ++ v, a < n := fun hv a ha => by
  rcases List.mem_append.1 ha with h | h
  ·exact hu a h
  ·exact hv a h
 have e0 : ((l.map (readS ah keep u))[0]?).getD false = ((l'.map (readS ah' keep' u))[0]?).getD false := by
  rw [List.getElem?_map, List.getElem?_map, h.first, h'.first]
  have k1 := readS_says p0 ah u keep []
  have k2 := readS_says q0 ah' u keep' []
  show readS ah keep u p0 = readS ah' keep' u q0
  have k3 := same (u ++ []) (hap (fun a ha => (List.not_mem_nil ha).elim))
  exact k1.trans (k3.trans k2.symm)
 have e1 : (l.map (readS ah keep u)).any id = (l'.map (readS ah' keep' u)).any id := by
  rw [Bool.eq_iff_iff, List.any_eq_true, List.any_eq_true]
  constructor
  ·rintro ⟨x, hx, e⟩
   obtain ⟨p, hp, rfl⟩ := List.mem_map.1 hx
   obtain ⟨j, hj⟩ := List.mem_iff_getElem?.1 hp
   obtain ⟨v, hv, rfl⟩ := plc_of h j j p (Nat.le_refl _) hj
   refine ⟨readS ah' keep' u (plc q0 ah' v), List.mem_map.2 ⟨_, plc_mem h' v hv, rfl⟩, ?_⟩
   have e' : readS ah keep u (plc p0 ah v) = true := e
   rw [readS_says, same _ (hap hv), ← readS_says q0 ah' u keep' v] at e'
   exact e'
  ·rintro ⟨x, hx, e⟩
   obtain ⟨p, hp, rfl⟩ := List.mem_map.1 hx
   obtain ⟨j, hj⟩ := List.mem_iff_getElem?.1 hp
   obtain ⟨v, hv, rfl⟩ := plc_of h' j j p (Nat.le_refl _) hj
   refine ⟨readS ah keep u (plc p0 ah v), List.mem_map.2 ⟨_, plc_mem h v hv, rfl⟩, ?_⟩
   have e' : readS ah' keep' u (plc q0 ah' v) = true := e
   rw [readS_says, ← same _ (hap hv), ← readS_says p0 ah u keep v] at e'
   exact e'
 unfold flB
 rw [e0, e1]
theorem CmpR.alike {p0 : π} {ah : π → Nat → π} {keep : π → Bool} {q0 : ρ} {ah' : ρ → Nat → ρ} {keep' : ρ → Bool} {names : List ByteArray} {o o' : Option Tb}
  (h : CmpR p0 ah keep names o) (h' : CmpR q0 ah' keep' names o') (same : ∀ v : List Nat, (∀ a ∈ v, a < names.length) → keep (plc p0 ah v) = keep' (plc q0 ah' v)) : o = o' := by
 obtain ⟨l, tw, h1, rfl⟩ := h
 obtain ⟨l', tw', h1', rfl⟩ := h'
 rcases tables_alike h1 h1' same 100 102 with ⟨e1, e2⟩ | ⟨m, m', r, e1, e2, hR⟩
 ·rw [e1, e2]
 ·rw [e1, e2]
  simp only [Option.map_some]
  have : m.map flB = m'.map flB := by
   clear e1 e2
   induction hR using RL.ind with
   | nil => rfl
   | cons hb _ ih => rw [List.map_cons, List.map_cons, ih, flB_alike h1 h1' same hb]
  unfold tabOf
  rw [this]
end
def CompP (al : List Tk) (rs : List Rl) (o : Option Tb) : Prop := CmpR (p0P (stepsM rs [])) (ahP (stepsM rs []) al) (keepP (wholeM rs [] 0)) (al.map (·.s)) o
theorem fActs_few {al : List Tk} : ∀ {l : List Tk} {i : Nat}, fActs al i l = [] → (∀ t ∈ l, t.s.size ≤ 8) ∧ (l ≠ [] → i + l.length ≤ 6)
 | [], _, _ => ⟨fun t ht => (List.not_mem_nil ht).elim, fun h => absurd rfl h⟩
 | a :: r, i, h => by
  rw [fActs] at h
  obtain ⟨h1, h2⟩ := List.append_eq_nil_iff.1 h
  unfold fAct at h1
  obtain ⟨h3, h4⟩ := List.append_eq_nil_iff.1 h1
  obtain ⟨_, h5⟩ := List.append_eq_nil_iff.1 h4
  obtain ⟨k1, k2⟩ := fActs_few h2
  have ha : a.s.size ≤ 8 := by
   unfold fLong at h3
   rcases Nat.lt_or_ge 8 a.s.size with h | h
   ·rw [if_pos h] at h3; cases h3
   ·exact h
  have hi : i < 6 := by
   rcases Nat.lt_or_ge i 6 with h | h
   ·exact h
   ·rw [if_pos h] at h5; cases h5
  refine ⟨fun t ht => ?_, fun _ => ?_⟩
  ·rcases List.mem_cons.1 ht with rfl | ht
   ·exact ha
   ·exact k1 t ht
  ·rw [List.length_cons]
   by_cases hr : r = []
   ·rw [hr]; simp; omega
   ·have := k2 hr; omega
theorem acts_ok {s : ByteArray} {al : List Tk} {rs : List Rl} (h : readM s = .ok (al, rs)) : ActsOk (al.map (·.s)) := by
 have hM := readM_good h
 obtain ⟨h1, h2⟩ := fActs_few (List.append_eq_nil_iff.1 hM.nof).1
 have h3 := h2 hM.ne
 have h4 := (Rt.readM_nm h).1
 have hd := hM.dist
 refine ⟨?_, by rw [List.length_map]; omega, fun a ha => ?_, ?_⟩
 ·rw [List.length_map]
  cases hc : al with
  | nil => exact absurd hc hM.ne
  | cons _ _ => simp
 ·obtain ⟨t, ht, rfl⟩ := List.mem_map.1 ha
  obtain ⟨k1, k2⟩ := h4 t ht
  obtain ⟨k3, k4, k5⟩ := k1.1 k2
  refine ⟨?_, h1 t ht, k4, k5⟩
  cases hc : t.s.data.toList with
  | nil => exact absurd hc k3
  | cons _ _ => rw [← size_data, hc]; simp
 ·show List.Pairwise _ _
  rw [List.pairwise_iff_getElem]
  intro i j hi hj hij e
  have hi' : i < al.length := by simpa using hi
  have hj' : j < al.length := by simpa using hj
  rw [List.getElem_map, List.getElem_map] at e
  have := hd i j al[i] al[j] (List.getElem?_eq_getElem hi') (List.getElem?_eq_getElem hj') (by rw [e])
  omega
theorem comp_right {s : ByteArray} {al : List Tk} {rs : List Rl} (h : readM s = .ok (al, rs)) {t : Tb} (hc : CompP al rs (some t)) : RightT t := by
 obtain ⟨e, l, tw, m, hT⟩ := CmpR.some hc
 exact hT.right (by rw [e]; exact acts_ok h)
end Go.Proofs.YtidakhhekofkoaaGreatDoor
namespace Go.Proofs.YtidakhhekofkoaaGreatDoor
open Rt
def compC (al : List Tk) (rs : List Rl) : Bool :=
 match bfs (ahP (stepsM rs []) al) (List.range (al.map (·.s)).length) 100 102 0 [p0P (stepsM rs [])] [] with
 | some (l, tw) => (bfs (setB tw) (List.range (al.map (·.s)).length) 100 102 0 [l.map (keepP (wholeM rs [] 0))] []).isSome
 | none => false
def firstC : Bool :=
 match readM firstB with
 | .ok (al, rs) => compC al rs
 | .error _ => false
theorem firstC_true : firstC = true := by decide +kernel
theorem compC_ok {al : List Tk} {rs : List Rl} (h : compC al rs = true) : ∃ T, CompP al rs (some T) := by
 unfold compC at h
 cases e : bfs (ahP (stepsM rs []) al) (List.range (al.map (·.s)).length) 100 102 0 [p0P (stepsM rs [])] [] with
 | none => rw [e] at h; cases h
 | some x =>
  obtain ⟨l, tw⟩ := x
  rw [e] at h
  have hB := (bfs_spec 102 0 _ _ (Bfs.start _ _ _) (by simp) l tw e).1
  cases e2 : bfs (setB tw) (List.range (al.map (·.s)).length) 100 102 0 [l.map (keepP (wholeM rs [] 0))] [] with
  | none => dsimp only at h; rw [e2] at h; cases h
  | some y => exact ⟨tabOf (al.map (·.s)) y.1 y.2, l, tw, hB, by rw [e2]; rfl⟩
theorem comp_uniq {al : List Tk} {rs : List Rl} {o o' : Option Tb} (h : CompP al rs o) (h' : CompP al rs o') : o = o' := CmpR.alike h h' (fun _ _ => rfl)
theorem first_tab : ∃ al rs T, readM firstB = .ok (al, rs) ∧ CompP al rs (some T) := by
 have h := firstC_true
 unfold firstC at h
 cases e : readM firstB with
 | error x => rw [e] at h; cases h
 | ok m =>
  obtain ⟨al, rs⟩ := m
  rw [e] at h
  obtain ⟨T, hT⟩ := compC_ok h
  exact ⟨al, rs, T, rfl, hT⟩
theorem dec_same {t : Tb} (h : RightT t) {o : Option Tb} (ho : DecR (encB t) o) : o = some t := ho.uniq (o' := some t) ⟨h, rfl⟩
theorem dec_turned {t : Tb} {k : Nat} {c d : UInt8} (hk : (encB t)[k]? = some c) (hcd : c ≠ d) {o : Option Tb} (ho : DecR ((encB t).set k d) o) : o = none := by
 refine ho.uniq (o' := none) fun t' _ => ?_
 obtain ⟨hl, hc⟩ := List.getElem?_eq_some_iff.1 hk
 have e1 : encB t = (encB t).take k ++ c :: (encB t).drop (k + 1) := by rw [← hc, List.getElem_cons_drop, List.take_append_drop]
 have e2 : (encB t).set k d = (encB t).take k ++ d :: (encB t).drop (k + 1) := by rw [List.set_eq_take_append_cons_drop, if_pos hl]
 rw [e2]
 exact enc_turned e1 hcd t'
theorem dec_short {t : Tb} (h : RightT t) {o : Option Tb} (ho : DecR (encB t).dropLast o) : o = none := ho.uniq (o' := none) fun _ ht' => enc_short h.s ht'.s
theorem dec_long {t : Tb} (h : RightT t) {c : UInt8} {o : Option Tb} (ho : DecR (encB t ++ [c]) o) : o = none := ho.uniq (o' := none) fun _ ht' => enc_long h.s ht'.s c
end Go.Proofs.YtidakhhekofkoaaGreatDoor
namespace Go.Proofs.YtidakhhekofkoaaGreatDoor
open Go.RowKit Go.Deep
theorem onward_any (k : Nat) (hk : 5 ≤ k) (hk' : k ≤ 9) (w : World) (lb : Nat) (ins : Bool) (ev : ByteArray) (more : Bool) (nx hr : Nat) (s : ByteArray) (i a b : Nat) (h : LkAt w lb ins ev more nx hr) (hnx : nx < 4294967296) (hhr : hr < 4294967296) (hi : i ≤ 31) (ha : a ≤ 31) (hb : b ≤ 31) :
  Calls Tryz.prog 242 #[.pointer (some ⟨lb, 0, none⟩), .int .i64 (i : Int), .agg #[.int .i64 (k : Int), .string s, .int .i64 (a : Int), .int .i64 (b : Int)]] w fun e w' => e = .returned (.bool (stepP k ins more (ev.toList == s.toList) (hr.testBit a) (hr.testBit b) (nx.testBit a) (nx.testBit i))) ∧ Below w.heap.size w w' := by
 have h' : k = 5 ∨ k = 6 ∨ k = 7 ∨ k = 8 ∨ k = 9 := by omega
 rcases h' with rfl | rfl | rfl | rfl | rfl
 ·exact on_next w lb ins ev more nx hr s i a b h hnx hhr hi ha hb
 ·exact on_weak w lb ins ev more nx hr s i a b h hnx hhr hi ha hb
 ·exact on_fin w lb ins ev more nx hr s i a b h hnx hhr hi ha hb
 ·exact on_glob w lb ins ev more nx hr s i a b h hnx hhr hi ha hb
 ·exact on_until w lb ins ev more nx hr s i a b h hnx hhr hi ha hb
theorem LkAt.later {w w' : World} {lb : Nat} {ins : Bool} {ev : ByteArray} {more : Bool} {nx hr : Nat} (h : LkAt w lb ins ev more nx hr) (hb : Below w.heap.size w w') : LkAt w' lb ins ev more nx hr := (hb.block lb (lt_of_blk h)).trans h
set_option maxHeartbeats 1000000 in
set_option maxRecDepth 100000 in
theorem look_onward (k : Nat) (hk : 5 ≤ k) (hk' : k ≤ 9) (w : World) (lb : Nat) (ins : Bool) (ev : ByteArray) (more : Bool) (nx hr : Nat) (s : ByteArray) (i a b : Nat) (h : LkAt w lb ins ev more nx hr) (hnx : nx < 4294967296) (hhr : hr < 4294967296) (hi : i ≤ 31) (ha : a ≤ 31) (hb : b ≤ 31) :
  Calls Tryz.prog 197 #[.pointer (some ⟨lb, 0, none⟩), .int .i64 (i : Int), .agg #[.int .i64 (k : Int), .string s, .int .i64 (a : Int), .int .i64 (b : Int)]] w fun e w' => e = .returned (.bool (stepP k ins more (ev.toList == s.toList) (hr.testBit a) (hr.testBit b) (nx.testBit a) (nx.testBit i))) ∧ Below w.heap.size w w' := by
 have HC := hide (fun W h => onward_any k hk hk' W lb ins ev more nx hr s i a b h hnx hhr hi ha hb)
 have HL := hide h
 generalize stepP k ins more (ev.toList == s.toList) (hr.testBit a) (hr.testBit b) (nx.testBit a) (nx.testBit i) = B at *
 clear h hnx hhr hi ha hb
 have h' : k = 5 ∨ k = 6 ∨ k = 7 ∨ k = 8 ∨ k = 9 := by omega
 rcases h' with rfl | rfl | rfl | rfl | rfl
 all_goals
  go_enter Tryz.func197, Tryz.ntmps197
  go_wp2_with (go_at_call 242; refine (unhide HC _ ((unhide HL).later ((Below.refl _ _).alloc (Nat.le_refl _) _))).mono ?_)
  rintro e w1 ⟨rfl, hb1⟩
  have HB1 := hide hb1
  clear hb1
  go_wp2_with fail
  go_ret
  exact ⟨rfl, ((Below.refl _ _).alloc (Nat.le_refl _) _).trans ((unhide HB1).mono (by simp))⟩
theorem look_any (k : Nat) (hk : k ≤ 12) (w : World) (lb : Nat) (ins : Bool) (ev : ByteArray) (more : Bool) (nx hr : Nat) (s : ByteArray) (i a b : Nat) (h : LkAt w lb ins ev more nx hr) (hnx : nx < 4294967296) (hhr : hr < 4294967296) (hi : i ≤ 31) (ha : a ≤ 31) (hb : b ≤ 31) :
  Calls Tryz.prog 197 #[.pointer (some ⟨lb, 0, none⟩), .int .i64 (i : Int), .agg #[.int .i64 (k : Int), .string s, .int .i64 (a : Int), .int .i64 (b : Int)]] w fun e w' => e = .returned (.bool (stepP k ins more (ev.toList == s.toList) (hr.testBit a) (hr.testBit b) (nx.testBit a) (nx.testBit i))) ∧ Below w.heap.size w w' := by
 have h' : k = 0 ∨ k = 1 ∨ k = 2 ∨ k = 3 ∨ k = 4 ∨ (5 ≤ k ∧ k ≤ 9) ∨ k = 10 ∨ k = 11 ∨ k = 12 := by omega
 rcases h' with rfl | rfl | rfl | rfl | rfl | ⟨h1, h2⟩ | rfl | rfl | rfl
 ·exact lk_act w lb ins ev more nx hr s i a b h hnx hhr hi ha hb
 ·exact lk_true w lb ins ev more nx hr s i a b h hnx hhr hi ha hb
 ·exact lk_false w lb ins ev more nx hr s i a b h hnx hhr hi ha hb
 ·exact lk_end w lb ins ev more nx hr s i a b h hnx hhr hi ha hb
 ·exact lk_not w lb ins ev more nx hr s i a b h hnx hhr hi ha hb
 ·exact look_onward k h1 h2 w lb ins ev more nx hr s i a b h hnx hhr hi ha hb
 ·exact lk_and w lb ins ev more nx hr s i a b h hnx hhr hi ha hb
 ·exact lk_or w lb ins ev more nx hr s i a b h hnx hhr hi ha hb
 ·exact lk_imp w lb ins ev more nx hr s i a b h hnx hhr hi ha hb
theorem or_bit32 (H i : Nat) (hH : H < 4294967296) (hi : i ≤ 31) : bits BinOp.or IntKind.u32 (H : Int) (2 ^ i % 4294967296) = ((H ||| 2 ^ i : Nat) : Int) := by
 have h2 : (2 : Nat) ^ i < 4294967296 := Nat.lt_of_le_of_lt (Nat.pow_le_pow_right (by decide) hi) (by decide)
 have e : (2 : Int) ^ i % 4294967296 = ((2 ^ i : Nat) : Int) := by
  rw [show (2 : Int) ^ i = ((2 ^ i : Nat) : Int) by simp]
  generalize 2 ^ i = z at *
  omega
 rw [e]; exact or32 H (2 ^ i) hH h2
def StS (w : World) (o : Option Addr) (S : List Sp) : Prop := ∀ j d, S[j]? = some d → ∃ g, o = some ⟨g, 0, none⟩ ∧ g < w.heap.size ∧ w.cell? ⟨g, j * 4, none⟩ = some (.int .i64 (d.k : Int)) ∧ w.cell? ⟨g, j * 4 + 1, none⟩ = some (.string d.s) ∧ w.cell? ⟨g, j * 4 + 2, none⟩ = some (.int .i64 (d.a : Int)) ∧ w.cell? ⟨g, j * 4 + 3, none⟩ = some (.int .i64 (d.b : Int))
theorem StS.later {w w' : World} {o : Option Addr} {S : List Sp} (h : StS w o S) (hb : Below w.heap.size w w') : StS w' o S := fun j d hd => by
 obtain ⟨g, h1, h2, h3, h4, h5, h6⟩ := h j d hd
 exact ⟨g, h1, Nat.lt_of_lt_of_le h2 hb.size, (bcell3 hb _ _ h2).trans h3, (bcell3 hb _ _ h2).trans h4, (bcell3 hb _ _ h2).trans h5, (bcell3 hb _ _ h2).trans h6⟩
theorem StS.of {w : World} {base : Nat} {o : Option Addr} {c : Nat} {S : List Sp} (h : w.ownsRow base 319 4 (.slice o S.length c) S.length (spC S)) : StS w o S := by
 intro j d hd
 have hj : j < S.length := by
  rcases Nat.lt_or_ge j S.length with h | h
  ·exact h
  ·rw [List.getElem?_eq_none h] at hd; cases hd
 obtain ⟨_, ⟨h1, h2⟩ | ⟨g, cap, cur, hv, _, hrow, hle, _, hcs, htake⟩⟩ := h
 ·omega
 ·cases hv
  have key : ∀ m, m < 4 → w.cell? ⟨g, j * 4 + m, none⟩ = (stC d)[m]? := by
   intro m hm
   rw [cell_of_blk hrow, ← Array.getElem?_toList, ← spC_at hd m hm, ← htake, List.getElem?_take, if_pos (by omega)]
  exact ⟨g, rfl, lt_of_blk hrow, key 0 (by omega), key 1 (by omega), key 2 (by omega), key 3 (by omega)⟩
structure StG (S : List Sp) : Prop where
 len : S.length ≤ 31
 k : ∀ d ∈ S, d.k ≤ 12
 a : ∀ d ∈ S, d.a ≤ 31
 b : ∀ d ∈ S, d.b ≤ 31
structure FSt (w W : World) (so : Option Addr) (n sc : Nat) (wh : Nat) (ins : Bool) (ev : ByteArray) (more : Bool) (nx hr : Nat) : Prop where
 wk : W.heap[w.heap.size]? = some (.cells #[.slice so n sc, .int .u32 (wh : Int)] 149 (0, 0))
 lk : LkAt W (w.heap.size + 1) ins ev more nx hr
 bel : Below w.heap.size w W
theorem FSt.later {w W W' : World} {so : Option Addr} {n sc : Nat} {wh : Nat} {ins : Bool} {ev : ByteArray} {more : Bool} {nx hr : Nat} (h : FSt w W so n sc wh ins ev more nx hr) (hb : Below W.heap.size W W') : FSt w W' so n sc wh ins ev more nx hr :=
 ⟨(hb.block _ (lt_of_blk h.wk)).trans h.wk, h.lk.later hb, h.bel.trans (hb.mono h.bel.size)⟩
theorem FSt.set {w W : World} {so : Option Addr} {n sc : Nat} {wh : Nat} {ins : Bool} {ev : ByteArray} {more : Bool} {nx hr : Nat} (h : FSt w W so n sc wh ins ev more nx hr) (z : Int) (hr' : Nat) (hz : z = (hr' : Int)) : FSt w (W.setCell ⟨w.heap.size + 1, 4, none⟩ (.int .u32 z)) so n sc wh ins ev more nx hr' := by
 subst hz
 refine ⟨(Below.heap_setCell _ _ _ _ (by show w.heap.size ≠ w.heap.size + 1; omega)).trans h.wk, blk_set h.lk 4 _, h.bel.grown (grown_set _ _ _ _) h.bel.size (fun b hb => by cases hb; omega)⟩
set_option maxHeartbeats 4000000 in
set_option maxRecDepth 100000 in
theorem fill_any (w : World) (S : List Sp) (so : Option Addr) (sc wh : Nat) (ins : Bool) (ev : ByteArray) (more : Bool) (nx : Nat) (hS : StS w so S) (hG : StG S) (hnx : nx < 4294967296) :
  Calls Tryz.prog 167 #[.agg #[.slice so S.length sc, .int .u32 (wh : Int)], .agg #[.bool ins, .string ev, .bool more, .int .u32 (nx : Int), .int .u32 0]] w fun e w' => e = .returned (.int .u32 (fillN S ins ev more nx : Nat)) ∧ Below w.heap.size w w' := by
 have HS := hide hS
 have HG := hide hG
 have hlen := hG.len
 clear hS hG
 have HF0 : Hid (FSt w ((w.alloc (.cells #[.slice so S.length sc, .int .u32 (wh : Int)] 149)).alloc (.cells #[.bool ins, .string ev, .bool more, .int .u32 (nx : Int), .int .u32 0] 277)) so S.length sc wh ins ev more nx 0) :=
  ⟨(Below.heap_alloc _ _ _ (by simp)).trans (blk_alloc _ _), blk_alloc' _ _ _ (by simp), ((Below.refl _ _).alloc (Nat.le_refl _) _).alloc (by simp) _⟩
 go_enter Tryz.func167, Tryz.ntmps167
 go_wp2_with fail
 generalize ((w.alloc (.cells #[.slice so S.length sc, .int .u32 (wh : Int)] 149)).alloc (.cells #[.bool ins, .string ev, .bool more, .int .u32 (nx : Int), .int .u32 0] 277)) = W0 at *
 go_loopw [10] (fun x wr => ∃ i : Nat, i ≤ S.length ∧ x = .int .i64 i ∧ Hid (FSt w wr so S.length sc wh ins ev more nx (hereN S ins ev more nx i))) (fun x _ => S.length - (intOf x).toNat)
 case atStart => exact ⟨0, Nat.zero_le _, rfl, HF0⟩
 case round =>
  obtain ⟨i, hi, rfl, HF⟩ := hrel
  by_cases hlt : i < S.length
  ·have hin : (i : Int) < (S.length : Int) := by omega
   have hd : S[i]? = some S[i] := List.getElem?_eq_getElem hlt
   obtain ⟨g, hso, hg, c0, c1, c2, c3⟩ := (unhide HS).later (unhide HF).bel i S[i] hd
   have hdm : S[i] ∈ S := List.getElem_mem hlt
   have hdk := (unhide HG).k _ hdm
   have hda := (unhide HG).a _ hdm
   have hdb := (unhide HG).b _ hdm
   have HSTB : Hid (hereN S ins ev more nx (i + 1) = hereN S ins ev more nx i + (if stepP S[i].k ins more (ev.toList == S[i].s.toList) ((hereN S ins ev more nx i).testBit S[i].a) ((hereN S ins ev more nx i).testBit S[i].b) (nx.testBit S[i].a) (nx.testBit i) = true then 2 ^ i else 0)) := by
    show _ = _
    rw [hereN]
    unfold stB
    rw [hd]
   have hpl : hereN S ins ev more nx i < 4294967296 := Nat.lt_of_lt_of_le (hereN_lt S ins ev more nx i) (Nat.le_trans (Nat.pow_le_pow_right (by decide) (show i ≤ 32 by omega)) (by decide))
   have HOR := hide (hereN_or S ins ev more nx i)
   subst hso
   clear hd hdm
   generalize S[i] = d at *
   have hwlt := lt_of_blk (unhide HF).wk
   have hllt := lt_of_blk (unhide HF).lk
   go_wp2_with (go_at_call 197; refine (look_any d.k hdk _ (w.heap.size + 1) ins ev more nx (hereN S ins ev more nx i) d.s i d.a d.b (((unhide HF).later ((Below.refl _ _).alloc (Nat.le_refl _) _)).lk) hnx hpl (by omega) hda hdb).mono ?_)
   rintro e w1 ⟨rfl, hb1⟩
   have HF1 := hide ((((unhide HF).later ((Below.refl _ _).alloc (Nat.le_refl _) (.cells #[.int .i64 (d.k : Int), .string d.s, .int .i64 (d.a : Int), .int .i64 (d.b : Int)] 319)))).later hb1)
   clear hb1 HF c0 c1 c2 c3
   generalize hB : stepP d.k ins more (ev.toList == d.s.toList) ((hereN S ins ev more nx i).testBit d.a) ((hereN S ins ev more nx i).testBit d.b) (nx.testBit d.a) (nx.testBit i) = B at *
   clear hB
   have lc := fun o => cell_of_blk (unhide HF1).lk o
   have lf := fun o => frozen_of_blk (unhide HF1).lk o
   have hllt1 := lt_of_blk (unhide HF1).lk
   cases B with
   | false =>
    go_wp2_with fail
    go_roundw
    case rel => exact ⟨i + 1, by omega, by go_num, by rw [unhide HSTB]; simpa using HF1⟩
    case measure => simp [intOf]; omega
   | true =>
    generalize hereN S ins ev more nx i = H at *
    go_wp2_with fail
    go_region
    have HF2 := hide (((unhide HF1).set (bits BinOp.or IntKind.u32 (H : Int) (2 ^ i % 4294967296)) (H + 2 ^ i) (by rw [or_bit32 H i hpl (by omega), unhide HOR])).later ((Below.refl _ _).drew))
    generalize (w1.setCell ⟨w.heap.size + 1, 4, none⟩ (.int .u32 (bits BinOp.or IntKind.u32 (H : Int) (2 ^ i % 4294967296)))).drew = w2 at *
    generalize bits BinOp.or IntKind.u32 (H : Int) (2 ^ i % 4294967296) = z at *
    clear lc lf hllt1
    go_wp2_with fail
    go_roundw
    case rel => exact ⟨i + 1, by omega, by go_num, by rw [unhide HSTB]; simpa using HF2⟩
    case measure => simp [intOf]; omega
  ·have hin : ¬ (i : Int) < (S.length : Int) := by omega
   have hie : i = S.length := by omega
   subst hie
   have hpl : hereN S ins ev more nx S.length < 4294967296 := Nat.lt_of_lt_of_le (hereN_lt S ins ev more nx S.length) (Nat.le_trans (Nat.pow_le_pow_right (by decide) (show S.length ≤ 32 by omega)) (by decide))
   have HOR := hide (hereN_or S ins ev more nx S.length)
   have HFI : Hid (fillN S ins ev more nx = hereN S ins ev more nx S.length + (if ins = true then 2 ^ S.length else 0)) := rfl
   have lc := fun o => cell_of_blk (unhide HF).lk o
   have lf := fun o => frozen_of_blk (unhide HF).lk o
   have wc := fun o => cell_of_blk (unhide HF).wk o
   have hllt1 := lt_of_blk (unhide HF).lk
   generalize hereN S ins ev more nx S.length = H at *
   cases ins with
   | false =>
    go_wp2_with fail
    go_ret
    have e : fillN S false ev more nx = H := by rw [unhide HFI]; simp
    rw [e]
    exact ⟨rfl, (unhide HF).bel⟩
   | true =>
    go_wp2_with fail
    go_region
    have HF2 := hide (((unhide HF).set (bits BinOp.or IntKind.u32 (H : Int) (2 ^ S.length % 4294967296)) (H + 2 ^ S.length) (by rw [or_bit32 H S.length hpl hlen, unhide HOR])).later ((Below.refl _ _).drew))
    have lc2 := fun o => cell_of_blk (unhide HF2).lk o
    have hll2 := lt_of_blk (unhide HF2).lk
    generalize (wr.setCell ⟨w.heap.size + 1, 4, none⟩ (.int .u32 (bits BinOp.or IntKind.u32 (H : Int) (2 ^ S.length % 4294967296)))).drew = w2 at *
    generalize bits BinOp.or IntKind.u32 (H : Int) (2 ^ S.length % 4294967296) = z at *
    have HFE : Hid (fillN S true ev more nx = H + 2 ^ S.length) := by show _ = _; rw [unhide HFI]; simp
    clear lc lf hllt1 wc HFI
    generalize H + 2 ^ S.length = F at *
    go_wp2_with fail
    go_ret
    rw [unhide HFE]
    exact ⟨rfl, (unhide HF2).bel⟩
set_option maxHeartbeats 1000000 in
set_option maxRecDepth 100000 in
theorem Behind_any (w : World) (S : List Sp) (so : Option Addr) (sc wh : Nat) (hS : StS w so S) (hG : StG S) :
  Calls Tryz.prog 125 #[.agg #[.slice so S.length sc, .int .u32 (wh : Int)]] w fun e w' => e = .returned (.int .u32 (walkB S [] : Nat)) ∧ Below w.heap.size w w' := by
 have HC := hide (fun W h => fill_any W S so sc wh false ⟨#[]⟩ false 0 h hG (by decide))
 have HS := hide hS
 have HW : Hid (walkB S [] = fillN S false ⟨#[]⟩ false 0) := rfl
 clear hS hG
 go_enter Tryz.func125, Tryz.ntmps125
 go_wp2_with (go_at_call 167; refine (unhide HC _ ((unhide HS).later ((Below.refl _ _).alloc (Nat.le_refl _) _))).mono ?_)
 rintro e w1 ⟨rfl, hb1⟩
 have HB1 := hide hb1
 clear hb1
 go_wp2_with fail
 go_ret
 exact ⟨rfl, ((Below.refl _ _).alloc (Nat.le_refl _) _).trans ((unhide HB1).mono (by simp))⟩
set_option maxHeartbeats 1000000 in
set_option maxRecDepth 100000 in
theorem AllHold_any (w : World) (so : Option Addr) (n sc wh p : Nat) (hw : wh < 4294967296) (hp : p < 4294967296) :
  Calls Tryz.prog 127 #[.agg #[.slice so n sc, .int .u32 (wh : Int)], .int .u32 (p : Int)] w fun e w' => e = .returned (.bool (p &&& wh == wh)) ∧ Below w.heap.size w w' := by
 have HA := hide (and32 p wh hp hw)
 go_enter Tryz.func127, Tryz.ntmps127
 go_wp2_with fail
 go_ret
 refine ⟨ret_bool ?_, (Below.refl _ _).alloc (Nat.le_refl _) _⟩
 rw [unhide HA]
 rw [Bool.eq_iff_iff]; simp only [beq_iff_eq]; omega
set_option maxHeartbeats 2000000 in
set_option maxRecDepth 100000 in
theorem Ahead_any (w : World) (S : List Sp) (so : Option Addr) (sc wh : Nat) (nx : Nat) (ev : ByteArray) (hS : StS w so S) (hG : StG S) (hnx : nx < 4294967296) :
  Calls Tryz.prog 126 #[.agg #[.slice so S.length sc, .int .u32 (wh : Int)], .int .u32 (nx : Int), .string ev] w fun e w' => e = .returned (.int .u32 (fillN S true ev (nx.testBit S.length) nx : Nat)) ∧ Below w.heap.size w w' := by
 have HC := hide (fun W h => fill_any W S so sc wh true ev (nx.testBit S.length) nx h hG hnx)
 have HH := hide (fun W => pHas_any nx S.length hnx hG.len _ rfl W)
 have HS := hide hS
 clear hS hG
 have hb0 : (w.alloc (.cells #[.slice so S.length sc, .int .u32 (wh : Int)] 149)).heap[w.heap.size]? = some (.cells #[.slice so S.length sc, .int .u32 (wh : Int)] 149 (0, 0)) := blk_alloc _ _
 have hB : Below w.heap.size w (w.alloc (.cells #[.slice so S.length sc, .int .u32 (wh : Int)] 149)) := (Below.refl _ _).alloc (Nat.le_refl _) _
 have HB0 := hide hb0
 have HBB := hide hB
 have HS1 := hide ((unhide HS).later hB)
 clear hb0 hB
 generalize hT : nx.testBit S.length = tb at *
 clear hT
 go_enter Tryz.func126, Tryz.ntmps126
 go_wp2_with fail
 generalize (w.alloc (.cells #[.slice so S.length sc, .int .u32 (wh : Int)] 149)) = W at *
 have bc := fun o => cell_of_blk (unhide HB0) o
 have hlt := lt_of_blk (unhide HB0)
 have c0 : W.cell? ⟨w.heap.size, 0, none⟩ = some (.slice so S.length sc) := bc 0
 have c1 : W.cell? ⟨w.heap.size, 1, none⟩ = some (.int .u32 (wh : Int)) := bc 1
 clear bc
 refine wp_region_held_drew (S := fun w' => w'.cell? ⟨w.heap.size, 0, none⟩ = some (.slice so S.length sc) ∧ w'.cell? ⟨w.heap.size, 1, none⟩ = some (.int .u32 (wh : Int))) (by kernel_rfl) ?_ (fun hHeld => ?_)
 ·exact ⟨c0, c1⟩
 refine wpAnyH_take (i := 0) (v := .agg #[.slice so S.length sc, .int .u32 (wh : Int)]) rfl (by kernel_rfl) (by kernel_rfl) (by kernel_rfl) (fun _ _ _ h => h) (Or.inl ⟨by kernel_rfl, fun w hw => by obtain ⟨s0, s1⟩ := hw; go_simp⟩) hHeld ?_
 try simp only [Act.put, zA, zB, zC, zD, zE, zF]
 refine wpAnyH_take (i := 1) (v := .string ev) rfl (by kernel_rfl) (by kernel_rfl) (by kernel_rfl) (fun _ _ _ h => h) (Or.inl ⟨by kernel_rfl, fun w hw => by obtain ⟨s0, s1⟩ := hw; go_simp⟩) hHeld ?_
 try simp only [Act.put, zA, zB, zC, zD, zE, zF]
 refine wpAnyH_take (i := 2) (v := .int .u32 (nx : Int)) rfl (by kernel_rfl) (by kernel_rfl) (by kernel_rfl) (fun _ _ _ h => h) (Or.inl ⟨by kernel_rfl, fun w hw => by obtain ⟨s0, s1⟩ := hw; go_simp⟩) hHeld ?_
 try simp only [Act.put, zA, zB, zC, zD, zE, zF]
 refine wpAnyH_take (i := 3) (v := .pointer (some ⟨w.heap.size, 0, none⟩)) rfl (by kernel_rfl) (by kernel_rfl) (by kernel_rfl) (fun _ _ _ h => h) (Or.inl ⟨by kernel_rfl, fun w hw => by obtain ⟨s0, s1⟩ := hw; go_simp⟩) hHeld ?_
 try simp only [Act.put, zA, zB, zC, zD, zE, zF]
 refine wpAnyH_take (i := 4) (v := .slice so S.length sc) rfl (by kernel_rfl) (by kernel_rfl) (by kernel_rfl) (fun _ _ _ h => h) (Or.inl ⟨by kernel_rfl, fun w hw => by obtain ⟨s0, s1⟩ := hw; go_simp⟩) hHeld ?_
 try simp only [Act.put, zA, zB, zC, zD, zE, zF]
 refine wpAnyH_take (i := 5) (v := .int .i64 (S.length : Int)) rfl (by kernel_rfl) (by kernel_rfl) (by kernel_rfl) (fun _ _ _ h => h) (Or.inl ⟨by kernel_rfl, fun w hw => by obtain ⟨s0, s1⟩ := hw; go_simp⟩) hHeld ?_
 try simp only [Act.put, zA, zB, zC, zD, zE, zF]
 refine wpAnyH_take (i := 7) (v := .int .u32 (nx : Int)) rfl (by kernel_rfl) (by kernel_rfl) (by kernel_rfl) (fun _ _ _ h => h) (Or.inl ⟨by kernel_rfl, fun w hw => by obtain ⟨s0, s1⟩ := hw; go_simp⟩) hHeld ?_
 try simp only [Act.put, zA, zB, zC, zD, zE, zF]
 refine wpAnyH_ready (rs := [6]) (by kernel_rfl) (by simp) ?_
 refine AllReadyH.cons rfl (fun K hK => ?_) AllReadyH.nil
 go_simp
 refine (unhide HH _).mono ?_
 rintro e w5 ⟨rfl, hw5⟩
 have h5 := hw5.symm
 clear hw5
 subst h5
 refine hK.out _ _ hHeld (fun hHeld => ?_)
 clear hK K
 refine wpAnyH_take (i := 8) (v := .agg #[.bool true, .string ev, .bool tb, .int .u32 (nx : Int), .int .u32 0]) rfl (by kernel_rfl) (by kernel_rfl) (by kernel_rfl) (fun _ _ _ h => h) (Or.inl ⟨by kernel_rfl, fun w hw => by obtain ⟨s0, s1⟩ := hw; go_simp⟩) hHeld ?_
 try simp only [Act.put, zA, zB, zC, zD, zE, zF]
 refine wpAnyH_ready (rs := [9]) (by kernel_rfl) (by simp) ?_
 refine AllReadyH.cons rfl (fun K hK => ?_) AllReadyH.nil
 go_simp
 refine (unhide HC _ ((unhide HS1).later ((Below.refl _ _).drew))).mono ?_
 rintro e w6 ⟨rfl, hb6⟩
 refine hK.out _ _ ⟨(bcell3 hb6 _ _ hlt).trans hHeld.1, (bcell3 hb6 _ _ hlt).trans hHeld.2⟩ (fun hHeld => ?_)
 clear hK K
 have HB6 := hide (((unhide HBB).trans ((((Below.refl _ _).drew).trans hb6).mono (unhide HBB).size)))
 clear hb6
 refine wpAnyH_take (i := 10) (v := .int .u32 (fillN S true ev tb nx : Nat)) rfl (by kernel_rfl) (by kernel_rfl) (by kernel_rfl) (fun _ _ _ h => h) (Or.inl ⟨by kernel_rfl, fun w hw => by obtain ⟨s0, s1⟩ := hw; go_simp⟩) hHeld ?_
 try simp only [Act.put, zA, zB, zC, zD, zE, zF]
 refine wpAnyH_done (by kernel_rfl) ?_ _
 clear hHeld
 go_wp2_with fail
 go_ret
 exact ⟨rfl, unhide HB6⟩
theorem wholeM_lt : ∀ (rs : List Rl) (S : List Sp) (w : Nat), w < 2 ^ S.length → (∀ r ∈ rs, ruleF r ≠ .nil) → wholeM rs S w < 2 ^ (stepsM rs S).length
 | [], S, w, h, _ => h
 | r :: rs, S, w, h, hn => by
  rw [wholeM, stepsM]
  have hp := sizeF_pos' (hn r (List.mem_cons_self ..))
  have hl := appS_len (ruleF r) S
  refine wholeM_lt rs _ _ (Nat.or_lt_two_pow (Nat.lt_of_lt_of_le h (Nat.pow_le_pow_right (by decide) (by omega))) (Nat.pow_lt_pow_right (by decide) (by omega))) (fun r' h' => hn r' (List.mem_cons_of_mem _ h'))
theorem appS_small {M : Nat} : ∀ (f : Fm) (S : List Sp), (∀ d ∈ S, d.a ≤ M ∧ d.b ≤ M) → (appS f S).length ≤ M → ∀ d ∈ appS f S, d.a ≤ M ∧ d.b ≤ M
 | .nil, S, h, _ => h
 | .node u v a l r, S, h, hl => by
  rw [appS_len] at hl
  have hz : sizeF (.node u v a l r) = 1 + sizeF l + sizeF r := rfl
  have e1 := appS_len l S
  have e2 := appS_len r (appS l S)
  have h1 := appS_small l S h (by omega)
  have h2 := appS_small r (appS l S) h1 (by omega)
  intro d hd
  rw [appS] at hd
  rcases List.mem_append.1 hd with hd | hd
  ·exact h2 d hd
  ·rcases List.mem_singleton.1 hd with rfl
   constructor
   ·show (if isN l then 0 else (appS l S).length - 1) ≤ M
    split <;> omega
   ·show (if isN r then 0 else (appS r (appS l S)).length - 1) ≤ M
    split <;> omega
theorem steps_small {M : Nat} : ∀ (rs : List Rl) (S : List Sp), (∀ d ∈ S, d.a ≤ M ∧ d.b ≤ M) → (stepsM rs S).length ≤ M → ∀ d ∈ stepsM rs S, d.a ≤ M ∧ d.b ≤ M
 | [], S, h, _ => h
 | r :: rs, S, h, hl => by
  rw [stepsM] at hl ⊢
  refine steps_small rs _ (appS_small (ruleF r) S h ?_) hl
  rw [stepsM_len] at hl; omega
theorem stepsM_g {al : List Tk} {rs : List Rl} (h : MGood al rs) : StG (stepsM rs []) := by
 have hs : StOk (stepsM rs []) (subsM rs) := by simpa using stepsM_ok rs [] [] StOk.nil
 have hl : (stepsM rs []).length ≤ 16 := by rw [stepsM_len]; have := h.nodes; simp; omega
 have hk := subsM_kok (fun r hr => (h.fg r hr).kok)
 have key : ∀ d ∈ stepsM rs [], d.k ≤ 12 ∧ d.a ≤ 31 ∧ d.b ≤ 31 := by
  intro d hd
  obtain ⟨j, hj, hjd⟩ := List.mem_iff_getElem.1 hd
  have hj' : (stepsM rs [])[j]? = some d := by rw [List.getElem?_eq_getElem hj, hjd]
  have hgj : j < (subsM rs).length := by rw [← hs.1]; exact hj
  have hst := hs.2 j d _ hj' (List.getElem?_eq_getElem hgj)
  have hkk := hk _ (List.getElem_mem hgj)
  have hz := steps_small (M := 16) rs [] (fun d hd => (List.not_mem_nil hd).elim) hl d hd
  have hk12 : d.k ≤ 12 := by
   generalize (subsM rs)[j] = f at *
   cases f with
   | nil => exact False.elim hst
   | node u v a l r => rw [hst.1]; exact hkk.1
  exact ⟨hk12, by omega, by omega⟩
 exact ⟨by omega, fun d hd => (key d hd).1, fun d hd => (key d hd).2.1, fun d hd => (key d hd).2.2⟩
def FpS (w : World) (o : Option Addr) (ps : List (Option Addr)) : Prop := ∀ j p, ps[j]? = some p → ∃ g, o = some ⟨g, 0, none⟩ ∧ g < w.heap.size ∧ w.cell? ⟨g, j, none⟩ = some (.pointer p)
def PsG (w : World) (rs : List Rl) (ps : List (Option Addr)) : Prop := rs.length = ps.length ∧ ∀ (j : Nat) (r : Rl) (p : Option Addr), rs[j]? = some r → ps[j]? = some p → IsG w (ruleF r) p
theorem FpS.later {w w' : World} {o : Option Addr} {ps : List (Option Addr)} (h : FpS w o ps) (hb : Below w.heap.size w w') : FpS w' o ps := fun j p hp => by
 obtain ⟨g, h1, h2, h3⟩ := h j p hp
 exact ⟨g, h1, Nat.lt_of_lt_of_le h2 hb.size, (bcell3 hb _ _ h2).trans h3⟩
theorem PsG.later {w w' : World} {rs : List Rl} {ps : List (Option Addr)} (h : PsG w rs ps) (hb : Below w.heap.size w w') : PsG w' rs ps := ⟨h.1, fun j r p h1 h2 => (h.2 j r p h1 h2).later hb⟩
structure NW (w W : World) (so : Option Addr) (sc : Nat) (S : List Sp) (wh : Nat) : Prop where
 rb : W.heap[w.heap.size]? = some (.cells #[.slice none 0 0, .int .u32 0] 149 (0, 0))
 wb : W.heap[w.heap.size + 1]? = some (.cells #[.slice so S.length sc, .int .u32 (wh : Int)] 149 (0, 0))
 own : W.ownsRow (w.heap.size + 2) 319 4 (.slice so S.length sc) S.length (spC S)
 bel : Below w.heap.size w W
theorem NW.call {w W w2 : World} {so : Option Addr} {sc : Nat} {S S' : List Sp} {wh : Nat} {e : Ending} (h : NW w W so sc S wh) (hp : ApPost (w.heap.size + 2) S' (.slice so S.length sc) W w2 e) :
  ∃ o' c', e = .returned (.slice o' S'.length c') ∧ NW w (w2.setCell ⟨w.heap.size + 1, 0, none⟩ (.slice o' S'.length c')) o' c' S' wh ∧ w2.heap[w.heap.size + 1]? = some (.cells #[.slice so S.length sc, .int .u32 (wh : Int)] 149 (0, 0)) := by
 obtain ⟨o', c', he, ho, hg, hat⟩ := hp
 have hrb : w2.heap[w.heap.size]? = some (.cells #[.slice none 0 0, .int .u32 0] 149 (0, 0)) := (hg.block _ (lt_of_blk h.rb) (fun e => own_ty h.own e.symm h.rb (by decide))).trans h.rb
 have hwb : w2.heap[w.heap.size + 1]? = some (.cells #[.slice so S.length sc, .int .u32 (wh : Int)] 149 (0, 0)) := (hg.block _ (lt_of_blk h.wb) (fun e => own_ty h.own e.symm h.wb (by decide))).trans h.wb
 have hb2 : Below w.heap.size w w2 := h.bel.grown hg h.bel.size (fun b hb => by have := (own_lt h.own b hb).1; omega)
 refine ⟨o', c', he, ⟨(Below.heap_setCell _ _ _ _ (by show w.heap.size ≠ w.heap.size + 1; omega)).trans hrb, blk_set hwb 0 _, owns_keep ho (grown_set _ _ _ _) (Or.inr (fun e => own_ty ho e hwb (by decide))), hb2.grown (grown_set _ _ _ _) hb2.size (fun b hb => by cases hb; omega)⟩, hwb⟩
theorem NW.set {w W : World} {so : Option Addr} {sc : Nat} {S : List Sp} {wh : Nat} (h : NW w W so sc S wh) (z : Int) (wh' : Nat) (hz : z = (wh' : Int)) : NW w (W.setCell ⟨w.heap.size + 1, 1, none⟩ (.int .u32 z)) so sc S wh' := by
 subst hz
 exact ⟨(Below.heap_setCell _ _ _ _ (by show w.heap.size ≠ w.heap.size + 1; omega)).trans h.rb, blk_set h.wb 1 _, owns_keep h.own (grown_set _ _ _ _) (Or.inr (fun e => own_ty h.own e h.wb (by decide))), h.bel.grown (grown_set _ _ _ _) h.bel.size (fun b hb => by cases hb; omega)⟩
theorem NW.later {w W W' : World} {so : Option Addr} {sc : Nat} {S : List Sp} {wh : Nat} (h : NW w W so sc S wh) (hb : Below W.heap.size W W') : NW w W' so sc S wh :=
 ⟨(hb.block _ (lt_of_blk h.rb)).trans h.rb, (hb.block _ (lt_of_blk h.wb)).trans h.wb, owns_later h.own hb, h.bel.trans (hb.mono h.bel.size)⟩
def NwPost (rs : List Rl) (w w' : World) (e : Ending) : Prop := ∃ so sc, e = .returned (.agg #[.slice so (stepsM rs []).length sc, .int .u32 (wholeM rs [] 0 : Nat)]) ∧ StS w' so (stepsM rs []) ∧ Below w.heap.size w w'
set_option maxHeartbeats 4000000 in
set_option maxRecDepth 100000 in
theorem NewWalk_any (w : World) (rs : List Rl) (ps : List (Option Addr)) (fo : Option Addr) (fc : Nat) (hF : FpS w fo ps) (hP : PsG w rs ps) (hn : nodesL rs ≤ 16) (hrl : rs.length ≤ 401) (hne : ∀ r ∈ rs, ruleF r ≠ .nil) :
  Calls Tryz.prog 124 #[.slice fo rs.length fc] w fun e w' => NwPost rs w w' e := by
 have HF := hide hF
 have HP := hide hP
 have HNE := hide hne
 clear hF hP hne
 have HN0 : Hid (NW w ((w.alloc (.cells #[.slice none 0 0, .int .u32 0] 149)).alloc (.cells #[.slice none 0 0, .int .u32 0] 149)) none 0 [] 0) :=
  ⟨(Below.heap_alloc _ _ _ (by simp)).trans (blk_alloc _ _), blk_alloc' _ _ _ (by simp), World.ownsRow_nil _ _ _ _, ((Below.refl _ _).alloc (Nat.le_refl _) _).alloc (by simp) _⟩
 go_enter Tryz.func124, Tryz.ntmps124
 go_wp2_with fail
 generalize ((w.alloc (.cells #[.slice none 0 0, .int .u32 0] 149)).alloc (.cells #[.slice none 0 0, .int .u32 0] 149)) = W0 at *
 go_loopw [8] (fun x wr => ∃ (k : Nat) (so : Option Addr) (sc : Nat), k ≤ rs.length ∧ x = .int .i64 k ∧ Hid (NW w wr so sc (stepsM (rs.take k) []) (wholeM (rs.take k) [] 0))) (fun x _ => rs.length - (intOf x).toNat)
 case atStart => exact ⟨0, none, 0, Nat.zero_le _, rfl, HN0⟩
 case round =>
  obtain ⟨k, so, sc, hk, rfl, HN⟩ := hrel
  by_cases hlt : k < rs.length
  ·have hkn : (k : Int) < (rs.length : Int) := by omega
   have hrk : rs[k]? = some rs[k] := List.getElem?_eq_getElem hlt
   obtain ⟨p, hpk⟩ : ∃ p, ps[k]? = some p := ⟨_, List.getElem?_eq_getElem (by have := (unhide HP).1; omega)⟩
   obtain ⟨g, hfo, hg, hcp⟩ := (unhide HF).later (unhide HN).bel k p hpk
   have HIG := hide (((unhide HP).later (unhide HN).bel).2 k _ p hrk hpk)
   have htk : rs.take (k + 1) = rs.take k ++ [rs[k]] := by rw [List.take_add_one, hrk]; rfl
   have hrn : rs[k] ∈ rs := List.getElem_mem hlt
   have hfn := unhide HNE _ hrn
   have hs1 : (stepsM (rs.take k) []).length = nodesL (rs.take k) := by rw [stepsM_len]; simp
   have hsum : nodesL (rs.take k) + sizeF (ruleF rs[k]) ≤ 16 := by
    have h1 : nodesL rs = nodesL (rs.take (k + 1)) + nodesL (rs.drop (k + 1)) := by rw [← nodesL_append, List.take_append_drop]
    rw [htk, nodesL_append] at h1
    simp only [nodesL] at h1
    omega
   have HST : Hid (stepsM (rs.take (k + 1)) [] = appS (ruleF rs[k]) (stepsM (rs.take k) [])) := by show _ = _; rw [htk, stepsM_snoc]
   have HWH : Hid (wholeM (rs.take (k + 1)) [] 0 = (wholeM (rs.take k) [] 0 ||| 2 ^ ((appS (ruleF rs[k]) (stepsM (rs.take k) [])).length - 1))) := by show _ = _; rw [htk, wholeM_snoc, stepsM_snoc]
   have hwl : wholeM (rs.take k) [] 0 < 4294967296 := Nat.lt_of_lt_of_le (wholeM_lt _ [] 0 (by decide) (fun r hr => unhide HNE r (List.mem_of_mem_take hr))) (Nat.le_trans (Nat.pow_le_pow_right (by decide) (show _ ≤ 32 by omega)) (by decide))
   have hal := appS_len (ruleF rs[k]) (stepsM (rs.take k) [])
   have hpz := sizeF_pos' hfn
   have ha1 : 1 ≤ (appS (ruleF rs[k]) (stepsM (rs.take k) [])).length := by omega
   have ha2 : (appS (ruleF rs[k]) (stepsM (rs.take k) [])).length ≤ 16 := by omega
   have hs3 : (stepsM (rs.take k) []).length + sizeF (ruleF rs[k]) ≤ 100000 := by omega
   subst hfo
   clear hrk hpk htk hrn hs1 hsum hal hpz
   generalize stepsM (rs.take k) [] = S at *
   generalize wholeM (rs.take k) [] 0 = wh at *
   generalize rs[k] = r at *
   have HAP := hide (fun W h1 h2 h3 => appendSteps_any (ruleF r) S W p (w.heap.size + 2) so sc hfn h1 h2 h3 hs3)
   generalize hfr : ruleF r = f at *
   clear hfr hs3
   have wc := fun o => cell_of_blk (unhide HN).wb o
   have hwb := lt_of_blk (unhide HN).wb
   go_wp2_with (go_at_call 166; refine (unhide HAP _ (unhide HIG) (unhide HN).own (by omega)).mono ?_)
   intro e w2 hp2
   obtain ⟨o2, c2, he2, hN2, hb2⟩ := (unhide HN).call hp2
   subst he2
   have HN2 := hide hN2
   have wc := fun o => cell_of_blk hb2 o
   have wf := fun o => frozen_of_blk hb2 o
   have hwb2 := lt_of_blk hb2
   clear hN2 hp2 hb2
   generalize hS2 : appS f S = S2 at *
   clear hS2
   obtain ⟨m, hm⟩ : ∃ m, S2.length = m + 1 := ⟨S2.length - 1, by omega⟩
   go_wp2_with fail
   have hwld : w2.setCell ⟨w.heap.size + 1, 0, none⟩ (.slice o2 S2.length c2) = w2.setCell ⟨w.heap.size + 1, 0, none⟩ (.slice o2 (m + 1) c2) := by rw [hm]
   rw [hwld] at HN2
   clear hwld wc wf hwb2
   generalize w2.setCell ⟨w.heap.size + 1, 0, none⟩ (.slice o2 (m + 1) c2) = w3 at *
   have HWE : Hid (wholeM (rs.take (k + 1)) [] 0 = (wh ||| 2 ^ m)) := by show _ = _; rw [unhide HWH, hm]; rfl
   have hm16 : m ≤ 31 := by omega
   have hblk := (unhide HN2).wb
   rw [hm] at hblk
   have wc := fun o => cell_of_blk hblk o
   have wf := fun o => frozen_of_blk hblk o
   have hwb2 := lt_of_blk hblk
   clear hblk hm HWH HAP
   go_region
   have HN3 := hide (((unhide HN2).set (bits BinOp.or IntKind.u32 (wh : Int) (2 ^ m % 4294967296)) (wh ||| 2 ^ m) (or_bit32 wh m hwl hm16)).later ((Below.refl _ _).drew))
   generalize (w3.setCell ⟨w.heap.size + 1, 1, none⟩ (.int .u32 (bits BinOp.or IntKind.u32 (wh : Int) (2 ^ m % 4294967296)))).drew = w4 at *
   generalize bits BinOp.or IntKind.u32 (wh : Int) (2 ^ m % 4294967296) = z at *
   clear wc wf hwb2
   go_wp2_with fail
   go_roundw
   case rel => exact ⟨k + 1, o2, c2, by omega, by go_num, by rw [unhide HWE, unhide HST]; exact HN3⟩
   case measure => simp [intOf]; omega
  ·have hkn : ¬ (k : Int) < (rs.length : Int) := by omega
   have hke : rs.take k = rs := List.take_of_length_le (by omega)
   rw [hke] at HN
   have wc := fun o => cell_of_blk (unhide HN).wb o
   have rc := fun o => cell_of_blk (unhide HN).rb o
   have rf := fun o => frozen_of_blk (unhide HN).rb o
   have hl1 := lt_of_blk (unhide HN).wb
   have hl0 := lt_of_blk (unhide HN).rb
   go_wp2_with fail
   have hf1 := blk_set (unhide HN).rb 0 (.slice so (stepsM rs []).length sc)
   have ho1 := owns_keep (unhide HN).own (grown_set wr w.heap.size 0 (.slice so (stepsM rs []).length sc)) (Or.inr (fun e => own_ty (unhide HN).own e (unhide HN).rb (by decide)))
   have hfin := blk_set hf1 1 (.int .u32 ((wholeM rs [] 0 : Nat) : Int))
   have ho2 := owns_keep ho1 (grown_set _ w.heap.size 1 (.int .u32 ((wholeM rs [] 0 : Nat) : Int))) (Or.inr (fun e => own_ty ho1 e hf1 (by decide)))
   have hbf : Below w.heap.size w ((wr.setCell ⟨w.heap.size, 0, none⟩ (.slice so (stepsM rs []).length sc)).setCell ⟨w.heap.size, 1, none⟩ (.int .u32 ((wholeM rs [] 0 : Nat) : Int))) := by
    have h1 := (unhide HN).bel.grown (grown_set wr w.heap.size 0 (.slice so (stepsM rs []).length sc)) (unhide HN).bel.size (fun b hb => by cases hb; exact Nat.le_refl _)
    exact h1.grown (grown_set _ _ _ _) h1.size (fun b hb => by cases hb; exact Nat.le_refl _)
   generalize ((wr.setCell ⟨w.heap.size, 0, none⟩ (.slice so (stepsM rs []).length sc)).setCell ⟨w.heap.size, 1, none⟩ (.int .u32 ((wholeM rs [] 0 : Nat) : Int))) = wf at *
   have hfin' : wf.heap[w.heap.size]? = some (.cells #[.slice so (stepsM rs []).length sc, .int .u32 ((wholeM rs [] 0 : Nat) : Int)] 149 (0, 0)) := hfin
   have fc := fun o => cell_of_blk hfin' o
   refine bodyPost_ret (v := .agg #[.slice so (stepsM rs []).length sc, .int .u32 ((wholeM rs [] 0 : Nat) : Int)]) (by simp [results, Tryz.results124, go_sem, fc]) rfl ?_
   exact ⟨so, sc, rfl, StS.of ho2, hbf⟩
end Go.Proofs.YtidakhhekofkoaaGreatDoor
