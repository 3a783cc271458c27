/- Plain mathematics of the tokens of a text: no program in it. What a text's tokens are (kind, text, place); the kinds are numbers: 0 the end, 1 a stray byte, 2 a name, 3 a digit, 4 to 8 the five words, 9 to 13 the letters X N F G U, 14 the arrow, 15 to 21 the signs. -/
import Derived.WalkKit
import Derived.Lib.Strings
set_option linter.unusedSectionVars false
namespace Go.Proofs.YtidakhhekofkoaaGreatDoor
def isLet (c : UInt8) : Bool := decide (97 ≤ c.toNat) && decide (c.toNat ≤ 122)
def isBl (c : UInt8) : Bool := c.toNat == 32 || (c.toNat == 9 || c.toNat == 10)
def span (p : UInt8 → Bool) : List UInt8 → Nat
 | [] => 0
 | c :: r => if p c then span p r + 1 else 0
def upTo (p : UInt8 → Bool) (s : ByteArray) (i : Nat) : Nat := i + span p (s.data.toList.drop i)
theorem size_data (s : ByteArray) : s.data.toList.length = s.size := rfl
theorem drop_at (s : ByteArray) (i : Nat) (h : i < s.size) : s.data.toList.drop i = s[i] :: s.data.toList.drop (i + 1) := by
 have h' : i < s.data.toList.length := by rw [size_data]; exact h
 rw [List.drop_eq_getElem_cons h']
 rfl
theorem span_le (p : UInt8 → Bool) (l : List UInt8) : span p l ≤ l.length := by
 induction l with
 | nil => exact Nat.le_refl _
 | cons c r ih => unfold span; split <;> simp <;> omega
theorem upTo_yes (p : UInt8 → Bool) (s : ByteArray) (i : Nat) (h : i < s.size) (hp : p s[i] = true) : upTo p s i = upTo p s (i + 1) := by
 unfold upTo; rw [drop_at s i h, span, if_pos hp]; omega
theorem upTo_no (p : UInt8 → Bool) (s : ByteArray) (i : Nat) (h : i < s.size) (hp : p s[i] = false) : upTo p s i = i := by
 unfold upTo; rw [drop_at s i h, span, hp]; rfl
theorem upTo_end (p : UInt8 → Bool) (s : ByteArray) (i : Nat) (h : s.size ≤ i) : upTo p s i = i := by
 unfold upTo; rw [List.drop_eq_nil_of_le (by rw [size_data]; exact h)]; rfl
theorem upTo_ge (p : UInt8 → Bool) (s : ByteArray) (i : Nat) : i ≤ upTo p s i := by unfold upTo; omega
theorem upTo_le (p : UInt8 → Bool) (s : ByteArray) (i : Nat) (h : i ≤ s.size) : upTo p s i ≤ s.size := by
 have := span_le p (s.data.toList.drop i)
 rw [List.length_drop, size_data] at this
 unfold upTo; omega
structure Tk where
 k : Nat
 s : ByteArray
 p : Nat
def isWord (l : List UInt8) : Bool := l == [97, 99, 116, 115] || (l == [114, 117, 108, 101] || (l == [116, 114, 117, 101] || (l == [102, 97, 108, 115, 101] || l == [101, 110, 100])))
def wordK (l : List UInt8) : Nat :=
 if l = [97, 99, 116, 115] then 4 else if l = [114, 117, 108, 101] then 5 else if l = [116, 114, 117, 101] then 6 else if l = [102, 97, 108, 115, 101] then 7 else if l = [101, 110, 100] then 8 else 2
def signK (c : Nat) : Nat :=
 if c = 88 then 9 else if c = 78 then 10 else if c = 70 then 11 else if c = 71 then 12 else if c = 85 then 13 else
 if c = 124 then 15 else if c = 38 then 16 else if c = 33 then 17 else if c = 40 then 18 else if c = 41 then 19 else if c = 44 then 20 else if c = 59 then 21 else 1
def lexAt (s : ByteArray) (j : Nat) : Tk :=
 if h : j < s.size then
  if isLet s[j] then ⟨wordK (s.extract j (upTo isLet s j)).data.toList, s.extract j (upTo isLet s j), j⟩
  else if 48 ≤ s[j].toNat ∧ s[j].toNat ≤ 57 then ⟨3, s.extract j (j + 1), j⟩
  else if h2 : j + 1 < s.size then
   if s[j].toNat = 45 ∧ s[j + 1].toNat = 62 then ⟨14, ⟨#[45, 62]⟩, j⟩
   else ⟨signK s[j].toNat, s.extract j (j + 1), j⟩
  else ⟨signK s[j].toNat, s.extract j (j + 1), j⟩
 else ⟨0, ByteArray.empty, s.size⟩
theorem lex_end (s : ByteArray) (k : Nat) (h : s.size ≤ k) : lexAt s k = ⟨0, ByteArray.empty, s.size⟩ := by
 unfold lexAt; rw [dif_neg (by omega)]
theorem lex_name (s : ByteArray) (k : Nat) (h : k < s.size) (hl : isLet s[k] = true) : lexAt s k = ⟨wordK (s.extract k (upTo isLet s k)).data.toList, s.extract k (upTo isLet s k), k⟩ := by
 unfold lexAt; rw [dif_pos h, if_pos hl]
theorem lex_digit (s : ByteArray) (k : Nat) (h : k < s.size) (h1 : 48 ≤ s[k].toNat) (h2 : s[k].toNat ≤ 57) : lexAt s k = ⟨3, s.extract k (k + 1), k⟩ := by
 unfold lexAt; rw [dif_pos h, if_neg (by simp [isLet]; omega), if_pos ⟨h1, h2⟩]
theorem lex_arrow (s : ByteArray) (k : Nat) (h : k < s.size) (h1 : s[k].toNat = 45) (h2 : k + 1 < s.size) (h3 : s[k + 1].toNat = 62) : lexAt s k = ⟨14, ⟨#[45, 62]⟩, k⟩ := by
 unfold lexAt; rw [dif_pos h, if_neg (by simp [isLet]; omega), if_neg (by omega), dif_pos h2, if_pos ⟨h1, h3⟩]
theorem lex_sign (s : ByteArray) (k : Nat) (h : k < s.size) (hl : isLet s[k] = false) (hd : ¬ (48 ≤ s[k].toNat ∧ s[k].toNat ≤ 57)) (ha : ¬ (s[k].toNat = 45 ∧ ∃ h2 : k + 1 < s.size, s[k + 1].toNat = 62)) :
  lexAt s k = ⟨signK s[k].toNat, s.extract k (k + 1), k⟩ := by
 unfold lexAt; rw [dif_pos h, if_neg (by simp [hl]), if_neg hd]
 split
 ·rename_i h2; rw [if_neg (fun e => ha ⟨e.1, h2, e.2⟩)]
 ·rfl
theorem upTo_pos (s : ByteArray) (k : Nat) (h : k < s.size) (e : k < upTo isLet s k) : isLet s[k] = true := by
 cases hl : isLet s[k] with
 | true => rfl
 | false => rw [upTo_no isLet s k h hl] at e; omega
theorem upTo_zero (s : ByteArray) (k : Nat) (h : k < s.size) (e : upTo isLet s k = k) : isLet s[k] = false := by
 cases hl : isLet s[k] with
 | false => rfl
 | true => have := upTo_ge isLet s (k + 1); rw [upTo_yes isLet s k h hl] at e; omega
theorem wordK_word (l : List UInt8) : isWord l = true → 4 ≤ wordK l ∧ wordK l ≤ 8 := by
 intro h
 unfold wordK
 simp only [isWord, Bool.or_eq_true, beq_iff_eq] at h
 repeat (split; · omega)
 rcases h with h | h | h | h | h <;> contradiction
theorem lexAt_p (s : ByteArray) (j : Nat) (h : j ≤ s.size) : (lexAt s j).p = j := by
 unfold lexAt
 split
 ·repeat' split
  all_goals rfl
 ·show s.size = j; omega
theorem lexAt_s (s : ByteArray) (j : Nat) (h : j ≤ s.size) : j + (lexAt s j).s.size ≤ s.size := by
 unfold lexAt
 split
 ·rename_i hj
  split
  ·have := upTo_le isLet s j h
   show j + (s.extract j (upTo isLet s j)).size ≤ _
   rw [ByteArray.size_extract]; omega
  ·split
   ·show j + (s.extract j (j + 1)).size ≤ _
    rw [ByteArray.size_extract]; omega
   ·split
    ·split
     ·show j + 2 ≤ _; omega
     ·show j + (s.extract j (j + 1)).size ≤ _
      rw [ByteArray.size_extract]; omega
    ·show j + (s.extract j (j + 1)).size ≤ _
     rw [ByteArray.size_extract]; omega
 ·show j + 0 ≤ _; omega
theorem lexAt_pos (s : ByteArray) (j : Nat) (h : j ≤ s.size) (hk : (lexAt s j).k ≠ 0) : 1 ≤ (lexAt s j).s.size := by
 revert hk
 unfold lexAt
 split
 ·rename_i hj
  intro _
  split
  ·rename_i hl
   have h1 := upTo_le isLet s j h
   have h2 := upTo_ge isLet s (j + 1)
   rw [← upTo_yes isLet s j hj hl] at h2
   show 1 ≤ (s.extract j (upTo isLet s j)).size
   rw [ByteArray.size_extract]; omega
  ·split
   ·show 1 ≤ (s.extract j (j + 1)).size
    rw [ByteArray.size_extract]; omega
   ·split
    ·split
     ·show 1 ≤ 2; omega
     ·show 1 ≤ (s.extract j (j + 1)).size
      rw [ByteArray.size_extract]; omega
    ·show 1 ≤ (s.extract j (j + 1)).size
     rw [ByteArray.size_extract]; omega
 ·intro hk; exact absurd rfl hk
def lexR (s : ByteArray) : Nat → Nat → List Tk
 | 0, _ => []
 | n + 1, i => let t := lexAt s (upTo isBl s i); if t.k ≤ 1 then [t] else t :: lexR s n (t.p + t.s.size)
theorem lexR_stop (s : ByteArray) (n i : Nat) (h : (lexAt s (upTo isBl s i)).k ≤ 1) : lexR s (n + 1) i = [lexAt s (upTo isBl s i)] := by
 rw [lexR]; exact if_pos h
theorem lexR_go (s : ByteArray) (n i : Nat) (h : ¬ (lexAt s (upTo isBl s i)).k ≤ 1) : lexR s (n + 1) i = lexAt s (upTo isBl s i) :: lexR s n ((lexAt s (upTo isBl s i)).p + (lexAt s (upTo isBl s i)).s.size) := by
 rw [lexR]; exact if_neg h
theorem lex_adv (s : ByteArray) (i : Nat) (h : i ≤ s.size) (hk : ¬ (lexAt s (upTo isBl s i)).k ≤ 1) :
  i + 1 ≤ (lexAt s (upTo isBl s i)).p + (lexAt s (upTo isBl s i)).s.size ∧ (lexAt s (upTo isBl s i)).p + (lexAt s (upTo isBl s i)).s.size ≤ s.size := by
 have h0 := upTo_ge isBl s i
 have h1 := upTo_le isBl s i h
 have h2 := lexAt_p s _ h1
 have h3 := lexAt_s s _ h1
 have h4 := lexAt_pos s _ h1 (by omega)
 omega
structure Tb where
 acts : List ByteArray
 fl : List Nat
 nx : List (List Nat)
/-- From state i a trace leads to a state with Accept. -/
def Lives (t : Tb) (i : Nat) : Prop := ∀ P : Nat → Prop, (∀ i f : Nat, t.fl[i]? = some f → f % 2 = 1 → P i) → (∀ (i j : Nat) (r : List Nat), t.nx[i]? = some r → j ∈ r → P j → P i) → P i
theorem Lives.acc {t : Tb} {i f : Nat} (h1 : t.fl[i]? = some f) (h2 : f % 2 = 1) : Lives t i := fun _ a _ => a i f h1 h2
theorem Lives.step {t : Tb} {i j : Nat} {r : List Nat} (h1 : t.nx[i]? = some r) (h2 : j ∈ r) (h : Lives t j) : Lives t i := fun P a s => s i j r h1 h2 (h P a s)
theorem Lives.ind {t : Tb} {motive : (i : Nat) → Lives t i → Prop} (acc : ∀ {i f : Nat} (h1 : t.fl[i]? = some f) (h2 : f % 2 = 1), motive i (.acc h1 h2))
    (step : ∀ {i j : Nat} {r : List Nat} (h1 : t.nx[i]? = some r) (h2 : j ∈ r) (h : Lives t j), motive j h → motive i (.step h1 h2 h)) {i : Nat} (h : Lives t i) : motive i h :=
  (h (fun i => ∃ h : Lives t i, motive i h) (fun _ _ h1 h2 => ⟨.acc h1 h2, acc h1 h2⟩) (fun _ _ _ h1 h2 ⟨h3, h4⟩ => ⟨.step h1 h2 h3, step h1 h2 h3 h4⟩)).elim fun _ k => k
def lv (l : List Bool) (i : Nat) : Bool := l[i]?.getD false
theorem lives_eq {t : Tb} {l : List Bool} (sound : ∀ i, lv l i = true → Lives t i) (acc : ∀ i f, t.fl[i]? = some f → f % 2 = 1 → lv l i = true)
  (closed : ∀ i r j, t.nx[i]? = some r → j ∈ r → lv l j = true → lv l i = true) (i : Nat) : lv l i = true ↔ Lives t i :=
 ⟨sound i, fun h => by
  induction h using Lives.ind with
  | acc h1 h2 => exact acc _ _ h1 h2
  | step h1 h2 _ ih => exact closed _ _ _ h1 h2 ih⟩
def LvLe (l l' : List Bool) : Prop := l.length = l'.length ∧ ∀ i, lv l i = true → lv l' i = true
theorem LvLe.refl (l : List Bool) : LvLe l l := ⟨rfl, fun _ h => h⟩
theorem LvLe.trans {a b c : List Bool} (h : LvLe a b) (k : LvLe b c) : LvLe a c := ⟨h.1.trans k.1, fun i hi => k.2 i (h.2 i hi)⟩
theorem lv_set (l : List Bool) (i j : Nat) (b : Bool) : lv (l.set i b) j = if i = j ∧ i < l.length then b else lv l j := by
 unfold lv
 rw [List.getElem?_set]
 by_cases h : i = j
 ·subst h
  by_cases h2 : i < l.length
  ·simp [h2]
  ·simp [h2]
 ·simp [h]
theorem LvLe.anti {a b : List Bool} (h : LvLe a b) (k : LvLe b a) : a = b := by
 refine List.ext_getElem h.1 fun i h1 h2 => ?_
 have e1 := h.2 i
 have e2 := k.2 i
 unfold lv at e1 e2
 rw [List.getElem?_eq_getElem h1, List.getElem?_eq_getElem h2] at e1 e2
 simp only [Option.getD_some] at e1 e2
 cases ha : a[i] <;> cases hb : b[i] <;> simp_all
theorem LvLe.count : ∀ {a b : List Bool}, LvLe a b → a.count true ≤ b.count true ∧ (a ≠ b → a.count true < b.count true)
 | [], [], _ => ⟨Nat.le_refl _, fun h => (h rfl).elim⟩
 | [], _ :: _, h => by have := h.1; simp at this
 | _ :: _, [], h => by have := h.1; simp at this
 | x :: a, y :: b, h => by
  have ht : LvLe a b := ⟨by simpa using h.1, fun i hi => by have := h.2 (i + 1); unfold lv at this hi ⊢; simpa using this (by simpa using hi)⟩
  have hh : x = true → y = true := fun hx => by have := h.2 0; unfold lv at this; simpa using this (by simpa using hx)
  obtain ⟨k1, k2⟩ := LvLe.count ht
  rw [List.count_cons, List.count_cons]
  cases x <;> cases y
  ·refine ⟨by simpa using k1, fun hn => ?_⟩
   have := k2 (fun e => hn (by rw [e]))
   simpa using this
  ·refine ⟨by simp; omega, fun _ => by simp; omega⟩
  ·exact absurd (hh rfl) (by decide)
  ·refine ⟨by simpa using k1, fun hn => ?_⟩
   have := k2 (fun e => hn (by rw [e]))
   simpa using this
section
variable {σ τ : Type} [DecidableEq σ] [DecidableEq τ]
def fnd (s : σ) : List σ → Nat → Option Nat
 | [], _ => none
 | x :: r, i => if x = s then some i else fnd s r (i + 1)
def numb (l : List σ) (s : σ) : List σ × Nat :=
 match fnd s l 0 with
 | some i => (l, i)
 | none => (l ++ [s], l.length)
def rowN (st : σ → Nat → σ) (s : σ) : List Nat → List σ → List σ × List Nat
 | [], l => (l, [])
 | a :: as, l => ((rowN st s as (numb l (st s a)).1).1, (numb l (st s a)).2 :: (rowN st s as (numb l (st s a)).1).2)
def bfs (st : σ → Nat → σ) (acts : List Nat) (mx : Nat) : Nat → Nat → List σ → List (List Nat) → Option (List σ × List (List Nat))
 | 0, _, _, _ => none
 | n + 1, k, l, rows =>
  match l[k]? with
  | none => some (l, rows)
  | some s => if mx < (rowN st s acts l).1.length then none else bfs st acts mx n (k + 1) (rowN st s acts l).1 (rows ++ [(rowN st s acts l).2])
end
def plc {π : Type} (p0 : π) (ah : π → Nat → π) : List Nat → π
 | [] => p0
 | a :: v => ah (plc p0 ah v) a
def stepS {π : Type} (ah : π → Nat → π) (S : π → Bool) (a : Nat) : π → Bool := fun p => S (ah p a)
def readS {π : Type} (ah : π → Nat → π) : (π → Bool) → List Nat → (π → Bool)
 | S, [] => S
 | S, a :: u => readS ah (stepS ah S a) u
section
variable {σ : Type} [DecidableEq σ]
theorem fnd_some {s : σ} : ∀ {l : List σ} {i j : Nat}, fnd s l i = some j → i ≤ j ∧ l[j - i]? = some s
 | [], _, _, h => by cases h
 | x :: r, i, j, h => by
  rw [fnd] at h
  by_cases e : x = s
  ·rw [if_pos e] at h
   cases h
   exact ⟨Nat.le_refl _, by simp [e]⟩
  ·rw [if_neg e] at h
   have ⟨h1, h2⟩ := fnd_some h
   obtain ⟨k, rfl⟩ : ∃ k, j = i + 1 + k := ⟨j - (i + 1), by omega⟩
   refine ⟨by omega, ?_⟩
   rw [show i + 1 + k - i = k + 1 by omega]
   rw [show i + 1 + k - (i + 1) = k by omega] at h2
   simpa using h2
theorem fnd_none {s : σ} : ∀ {l : List σ} {i : Nat}, fnd s l i = none → s ∉ l
 | [], _, _ => List.not_mem_nil
 | x :: r, i, h => by
  rw [fnd] at h
  by_cases e : x = s
  ·rw [if_pos e] at h; cases h
  ·rw [if_neg e] at h
   intro hm
   rcases List.mem_cons.1 hm with h1 | h1
   ·exact e h1.symm
   ·exact fnd_none h h1
theorem numb_spec (l : List σ) (s : σ) : (∃ x, (numb l s).1 = l ++ x ∧ ∀ y ∈ x, y = s) ∧ (numb l s).1[(numb l s).2]? = some s ∧ (l.Nodup → (numb l s).1.Nodup) := by
 unfold numb
 cases h : fnd s l 0 with
 | some i => exact ⟨⟨[], by simp, fun y hy => (List.not_mem_nil hy).elim⟩, by simpa using (fnd_some h).2, id⟩
 | none =>
  refine ⟨⟨[s], rfl, fun y hy => List.mem_singleton.1 hy⟩, by simp, fun hn => ?_⟩
  rw [List.nodup_append]
  refine ⟨hn, by simp, fun a ha b hb => ?_⟩
  rw [List.mem_singleton] at hb
  subst hb
  intro e
  exact fnd_none h (e ▸ ha)
theorem getApp {α : Type} {l x : List α} {k : Nat} {a : α} (h : l[k]? = some a) : (l ++ x)[k]? = some a := by
 rw [List.getElem?_append_left (List.getElem?_eq_some_iff.1 h).1]; exact h
theorem rowN_spec (st : σ → Nat → σ) (s : σ) : ∀ (as : List Nat) (l : List σ), (∃ x, (rowN st s as l).1 = l ++ x ∧ ∀ y ∈ x, ∃ a ∈ as, y = st s a) ∧ (rowN st s as l).2.length = as.length ∧
  (∀ (k a : Nat), as[k]? = some a → ∃ j, (rowN st s as l).2[k]? = some j ∧ (rowN st s as l).1[j]? = some (st s a)) ∧ (l.Nodup → (rowN st s as l).1.Nodup)
 | [], l => ⟨⟨[], by simp [rowN], fun y hy => (List.not_mem_nil hy).elim⟩, rfl, fun k a h => by simp at h, id⟩
 | a :: as, l => by
  obtain ⟨⟨x, hx, hxs⟩, h2, h3⟩ := numb_spec l (st s a)
  obtain ⟨⟨y, hy, hys⟩, k2, k3, k4⟩ := rowN_spec st s as (numb l (st s a)).1
  rw [rowN]
  refine ⟨⟨x ++ y, by rw [hy, hx, List.append_assoc], fun z hz => ?_⟩, by simp [k2], fun k b hk => ?_, fun hn => k4 (h3 hn)⟩
  ·rcases List.mem_append.1 hz with h | h
   ·exact ⟨a, List.mem_cons_self .., hxs z h⟩
   ·obtain ⟨b, hb, e⟩ := hys z h
    exact ⟨b, List.mem_cons_of_mem _ hb, e⟩
  ·cases k with
   | zero =>
    obtain rfl : a = b := by simpa using hk
    refine ⟨(numb l (st s a)).2, by simp, ?_⟩
    simp only
    rw [hy]
    exact getApp h2
   | succ k =>
    obtain ⟨j, j1, j2⟩ := k3 k b (by simpa using hk)
    exact ⟨j, by simpa using j1, j2⟩
structure Bfs (st : σ → Nat → σ) (acts : List Nat) (s0 : σ) (k : Nat) (l : List σ) (rows : List (List Nat)) : Prop where
 first : l[0]? = some s0
 nodup : l.Nodup
 le : k ≤ l.length
 len : rows.length = k
 row : ∀ (i : Nat) (s : σ), i < k → l[i]? = some s → ∃ r, rows[i]? = some r ∧ r.length = acts.length ∧ ∀ (j a : Nat), acts[j]? = some a → ∃ m, r[j]? = some m ∧ l[m]? = some (st s a)
 met : ∀ (j : Nat) (s : σ), l[j + 1]? = some s → ∃ (i : Nat) (s' : σ), i ≤ j ∧ i < k ∧ l[i]? = some s' ∧ ∃ a ∈ acts, s = st s' a
theorem Bfs.start (st : σ → Nat → σ) (acts : List Nat) (s0 : σ) : Bfs st acts s0 0 [s0] [] :=
 ⟨rfl, by simp, Nat.zero_le _, rfl, fun i s h => absurd h (Nat.not_lt_zero _), fun j s h => by simp at h⟩
theorem Bfs.step {st : σ → Nat → σ} {acts : List Nat} {s0 : σ} {k : Nat} {l : List σ} {rows : List (List Nat)} (h : Bfs st acts s0 k l rows) {s : σ} (hs : l[k]? = some s) :
  Bfs st acts s0 (k + 1) (rowN st s acts l).1 (rows ++ [(rowN st s acts l).2]) := by
 obtain ⟨⟨x, hx, hxs⟩, h2, h3, h4⟩ := rowN_spec st s acts l
 have hk := (List.getElem?_eq_some_iff.1 hs).1
 refine ⟨?_, h4 h.nodup, ?_, by simp [h.len], fun i s' hi hs' => ?_, fun j s' hs' => ?_⟩
 ·rw [hx]; exact getApp h.first
 ·rw [hx, List.length_append]; omega
 ·rcases Nat.lt_or_ge i k with hlt | hge
  ·rw [hx, List.getElem?_append_left (by omega)] at hs'
   obtain ⟨r, r1, r2, r3⟩ := h.row i s' hlt hs'
   refine ⟨r, getApp r1, r2, fun j a ha => ?_⟩
   obtain ⟨m, m1, m2⟩ := r3 j a ha
   exact ⟨m, m1, by rw [hx]; exact getApp m2⟩
  ·obtain rfl : i = k := by omega
   rw [hx, List.getElem?_append_left hk, hs] at hs'
   cases hs'
   refine ⟨_, by rw [List.getElem?_append_right (by rw [h.len]; exact Nat.le_refl _), h.len, Nat.sub_self]; rfl, h2, fun j a ha => h3 j a ha⟩
 ·rcases Nat.lt_or_ge (j + 1) l.length with hlt | hge
  ·rw [hx, List.getElem?_append_left hlt] at hs'
   obtain ⟨i, s'', i1, i2, i3, i4⟩ := h.met j s' hs'
   exact ⟨i, s'', i1, by omega, by rw [hx]; exact getApp i3, i4⟩
  ·rw [hx, List.getElem?_append_right hge] at hs'
   obtain ⟨a, ha, e⟩ := hxs s' (List.mem_of_getElem? hs')
   exact ⟨k, s, by omega, by omega, by rw [hx]; exact getApp hs, a, ha, e⟩
theorem bfs_spec {st : σ → Nat → σ} {acts : List Nat} {mx : Nat} {s0 : σ} : ∀ (n k : Nat) (l : List σ) (rows : List (List Nat)), Bfs st acts s0 k l rows → l.length ≤ max mx 1 → ∀ m r, bfs st acts mx n k l rows = some (m, r) →
  Bfs st acts s0 m.length m r ∧ m.length ≤ max mx 1
 | 0, _, _, _, _, _, _, _, h => by cases h
 | n + 1, k, l, rows, hb, hl, m, r, h => by
  rw [bfs] at h
  cases e : l[k]? with
  | none =>
   rw [e] at h
   cases h
   have : k = l.length := Nat.le_antisymm hb.le (List.getElem?_eq_none_iff.1 e)
   exact ⟨this ▸ hb, hl⟩
  | some s =>
   rw [e] at h
   simp only at h
   by_cases hm : mx < (rowN st s acts l).1.length
   ·rw [if_pos hm] at h; cases h
   ·rw [if_neg hm] at h
    exact bfs_spec n (k + 1) _ _ (hb.step e) (by omega) m r h
end
section
variable {π : Type} [DecidableEq π]
theorem plc_mem {p0 : π} {ah : π → Nat → π} {n : Nat} {l : List π} {to : List (List Nat)} (h : Bfs ah (List.range n) p0 l.length l to) : ∀ v : List Nat, (∀ a ∈ v, a < n) → plc p0 ah v ∈ l
 | [], _ => List.mem_of_getElem? h.first
 | a :: v, hv => by
  obtain ⟨i, hi⟩ := List.mem_iff_getElem?.1 (plc_mem h v (fun b hb => hv b (List.mem_cons_of_mem _ hb)))
  obtain ⟨r, _, _, r3⟩ := h.row i _ (List.getElem?_eq_some_iff.1 hi).1 hi
  obtain ⟨m, _, m2⟩ := r3 a a (List.getElem?_range (hv a (List.mem_cons_self ..)))
  exact List.mem_of_getElem? m2
theorem plc_of {p0 : π} {ah : π → Nat → π} {n : Nat} {l : List π} {to : List (List Nat)} (h : Bfs ah (List.range n) p0 l.length l to) : ∀ (k j : Nat) (p : π), j ≤ k → l[j]? = some p → ∃ v : List Nat, (∀ a ∈ v, a < n) ∧ p = plc p0 ah v
 | 0, j, p, hj, hp => by
  obtain rfl : j = 0 := by omega
  rw [h.first] at hp
  cases hp
  exact ⟨[], fun a ha => (List.not_mem_nil ha).elim, rfl⟩
 | k + 1, j, p, hj, hp => by
  cases j with
  | zero => exact plc_of h k 0 p (by omega) hp
  | succ j =>
   obtain ⟨i, s', i1, _, i3, a, ha, e⟩ := h.met j p hp
   obtain ⟨v, hv, e2⟩ := plc_of h k i s' (by omega) i3
   refine ⟨a :: v, fun b hb => ?_, by rw [e, e2]; rfl⟩
   rcases List.mem_cons.1 hb with rfl | hb
   ·exact List.mem_range.1 ha
   ·exact hv b hb
def setB (to : List (List Nat)) (b : List Bool) (a : Nat) : List Bool := to.map fun r => (b[(r[a]?).getD 0]?).getD false
theorem setB_map {p0 : π} {ah : π → Nat → π} {n : Nat} {l : List π} {to : List (List Nat)} (h : Bfs ah (List.range n) p0 l.length l to) (S : π → Bool) {a : Nat} (ha : a < n) : setB to (l.map S) a = l.map (stepS ah S a) := by
 refine List.ext_getElem? fun i => ?_
 unfold setB
 rw [List.getElem?_map, List.getElem?_map]
 cases hp : l[i]? with
 | none =>
  have : to[i]? = none := List.getElem?_eq_none (by rw [h.len]; exact List.getElem?_eq_none_iff.1 hp)
  rw [this]
  rfl
 | some p =>
  obtain ⟨r, r1, _, r3⟩ := h.row i p (List.getElem?_eq_some_iff.1 hp).1 hp
  obtain ⟨m, m1, m2⟩ := r3 a a (List.getElem?_range ha)
  rw [r1]
  simp only [Option.map_some]
  rw [m1, Option.getD_some, List.getElem?_map, m2]
  rfl
theorem readS_snoc (ah : π → Nat → π) : ∀ (u : List Nat) (S : π → Bool) (a : Nat), readS ah S (u ++ [a]) = stepS ah (readS ah S u) a
 | [], _, _ => rfl
 | _ :: u, _, a => readS_snoc ah u _ a
theorem map_eq_says {p0 : π} {ah : π → Nat → π} {n : Nat} {l : List π} {to : List (List Nat)} (h : Bfs ah (List.range n) p0 l.length l to) (S S' : π → Bool) :
  l.map S = l.map S' ↔ ∀ v : List Nat, (∀ a ∈ v, a < n) → S (plc p0 ah v) = S' (plc p0 ah v) := by
 rw [List.map_inj_left]
 refine ⟨fun e v hv => e _ (plc_mem h v hv), fun e p hp => ?_⟩
 obtain ⟨j, hj⟩ := List.mem_iff_getElem?.1 hp
 obtain ⟨v, hv, rfl⟩ := plc_of h j j p (Nat.le_refl _) hj
 exact e v hv
end
section
variable {π ρ : Type} [DecidableEq π] [DecidableEq ρ]
end
section
variable {π : Type} [DecidableEq π]
theorem sets_are {p0 : π} {ah : π → Nat → π} {keep : π → Bool} {n : Nat} {l : List π} {to : List (List Nat)} {m : List (List Bool)} {r : List (List Nat)}
  (h : Bfs ah (List.range n) p0 l.length l to) (hm : Bfs (setB to) (List.range n) (l.map keep) m.length m r) : ∀ (k j : Nat) (b : List Bool), j ≤ k → m[j]? = some b → ∃ u : List Nat, (∀ a ∈ u, a < n) ∧ b = l.map (readS ah keep u)
 | 0, j, b, hj, hb => by
  obtain rfl : j = 0 := by omega
  rw [hm.first] at hb
  cases hb
  exact ⟨[], fun a ha => (List.not_mem_nil ha).elim, rfl⟩
 | k + 1, j, b, hj, hb => by
  cases j with
  | zero => exact sets_are h hm k 0 b (by omega) hb
  | succ j =>
   obtain ⟨i, s', i1, _, i3, a, ha, e⟩ := hm.met j b hb
   obtain ⟨u, hu, e2⟩ := sets_are h hm k i s' (by omega) i3
   have ha' := List.mem_range.1 ha
   refine ⟨u ++ [a], fun c hc => ?_, by rw [e, e2, setB_map h _ ha', readS_snoc]⟩
   rcases List.mem_append.1 hc with hc | hc
   ·exact hu c hc
   ·rw [List.mem_singleton] at hc
    rw [hc]
    exact ha'
theorem mem_of_getD {b : List Bool} {k : Nat} (h : (b[k]?).getD false = true) : true ∈ b := by
 cases e : b[k]? with
 | none => rw [e] at h; cases h
 | some x => rw [e] at h; exact List.mem_of_getElem? (e.trans (congrArg some h))
theorem lives_any {p0 : π} {ah : π → Nat → π} {keep : π → Bool} {n : Nat} {l : List π} {to : List (List Nat)} {m : List (List Bool)} {t : Tb}
  (h : Bfs ah (List.range n) p0 l.length l to) (hm : Bfs (setB to) (List.range n) (l.map keep) m.length m t.nx)
  (hf : ∀ (i : Nat) (b : List Bool), m[i]? = some b → ∃ f, t.fl[i]? = some f ∧ (f % 2 = 1 ↔ (b[0]?).getD false = true)) {i : Nat} {b : List Bool} (hb : m[i]? = some b) : Lives t i ↔ true ∈ b := by
 constructor
 ·intro hL
  induction hL using Lives.ind generalizing b with
  | acc h1 h2 =>
   obtain ⟨f, f1, f2⟩ := hf _ _ hb
   rw [h1] at f1
   cases f1
   exact mem_of_getD (f2.1 h2)
  | step hr hj _ ih =>
   obtain ⟨r', r1, r2, r3⟩ := hm.row _ _ (List.getElem?_eq_some_iff.1 hb).1 hb
   rw [hr] at r1
   cases r1
   obtain ⟨q, hq⟩ := List.mem_iff_getElem?.1 hj
   have hqn : q < n := by
    have := (List.getElem?_eq_some_iff.1 hq).1
    rw [r2, List.length_range] at this
    exact this
   obtain ⟨j, j1, j2⟩ := r3 q q (List.getElem?_range hqn)
   rw [hq] at j1
   cases j1
   have := ih j2
   unfold setB at this
   obtain ⟨_, _, e⟩ := List.mem_map.1 this
   exact mem_of_getD e
 ·intro ht
  have key : ∀ (v : List Nat) (i : Nat) (S : π → Bool), (∀ a ∈ v, a < n) → m[i]? = some (l.map S) → S (plc p0 ah v) = true → Lives t i := by
   intro v
   induction v with
   | nil =>
    intro i S _ hi hS
    obtain ⟨f, f1, f2⟩ := hf _ _ hi
    refine .acc f1 (f2.2 ?_)
    rw [List.getElem?_map, h.first]
    exact hS
   | cons a v ih =>
    intro i S hv hi hS
    have ha := hv a (List.mem_cons_self ..)
    obtain ⟨r', r1, _, r3⟩ := hm.row _ _ (List.getElem?_eq_some_iff.1 hi).1 hi
    obtain ⟨j, j1, j2⟩ := r3 a a (List.getElem?_range ha)
    rw [setB_map h S ha] at j2
    exact .step r1 (List.mem_of_getElem? j1) (ih j (stepS ah S a) (fun c hc => hv c (List.mem_cons_of_mem _ hc)) j2 hS)
  obtain ⟨u, _, rfl⟩ := sets_are h hm i i b (Nat.le_refl _) hb
  obtain ⟨p, hp, hS⟩ := List.mem_map.1 ht
  obtain ⟨k, hk⟩ := List.mem_iff_getElem?.1 hp
  obtain ⟨v, hv, rfl⟩ := plc_of h k k p (Nat.le_refl _) hk
  exact key v i _ hv hb hS
end
def runT (t : Tb) : Nat → List Nat → Nat
 | i, [] => i
 | i, a :: v => runT t (((t.nx[i]?.getD [])[a]?).getD 0) v
def accT (t : Tb) (i : Nat) : Bool := (t.fl[i]?.getD 0) % 2 == 1
section
variable {π : Type} [DecidableEq π]
theorem run_says {p0 : π} {ah : π → Nat → π} {keep : π → Bool} {n : Nat} {l : List π} {to : List (List Nat)} {m : List (List Bool)} {t : Tb}
  (h : Bfs ah (List.range n) p0 l.length l to) (hm : Bfs (setB to) (List.range n) (l.map keep) m.length m t.nx)
  (hf : ∀ (i : Nat) (b : List Bool), m[i]? = some b → ∃ f, t.fl[i]? = some f ∧ (f % 2 = 1 ↔ (b[0]?).getD false = true)) :
  ∀ (v : List Nat) (i : Nat) (S : π → Bool), (∀ a ∈ v, a < n) → m[i]? = some (l.map S) → m[runT t i v]? = some (l.map (readS ah S v)) ∧ accT t (runT t i v) = S (plc p0 ah v)
 | [], i, S, _, hi => by
  refine ⟨hi, ?_⟩
  obtain ⟨f, f1, f2⟩ := hf _ _ hi
  rw [List.getElem?_map, h.first] at f2
  have f3 : f % 2 = 1 ↔ S p0 = true := f2
  unfold accT runT
  rw [f1]
  show (f % 2 == 1) = S p0
  by_cases e : f % 2 = 1
  ·rw [f3.1 e, e]; rfl
  ·have : S p0 = false := by
    cases hs : S p0 with
    | false => rfl
    | true => exact absurd (f3.2 hs) e
   rw [this]
   simpa using e
 | a :: v, i, S, hv, hi => by
  have ha := hv a (List.mem_cons_self ..)
  obtain ⟨r', r1, _, r3⟩ := hm.row _ _ (List.getElem?_eq_some_iff.1 hi).1 hi
  obtain ⟨j, j1, j2⟩ := r3 a a (List.getElem?_range ha)
  rw [setB_map h S ha] at j2
  have e : ((t.nx[i]?.getD [])[a]?).getD 0 = j := by rw [r1, Option.getD_some, j1]; rfl
  rw [runT, e]
  exact run_says h hm hf v j (stepS ah S a) (fun c hc => hv c (List.mem_cons_of_mem _ hc)) j2
theorem run_keeps {p0 : π} {ah : π → Nat → π} {keep : π → Bool} {n : Nat} {l : List π} {to : List (List Nat)} {m : List (List Bool)} {t : Tb}
  (h : Bfs ah (List.range n) p0 l.length l to) (hm : Bfs (setB to) (List.range n) (l.map keep) m.length m t.nx)
  (hf : ∀ (i : Nat) (b : List Bool), m[i]? = some b → ∃ f, t.fl[i]? = some f ∧ (f % 2 = 1 ↔ (b[0]?).getD false = true)) {v : List Nat} (hv : ∀ a ∈ v, a < n) : accT t (runT t 0 v) = keep (plc p0 ah v) :=
 (run_says h hm hf v 0 keep hv hm.first).2
theorem states_differ {p0 : π} {ah : π → Nat → π} {keep : π → Bool} {n : Nat} {l : List π} {to : List (List Nat)} {m : List (List Bool)} {t : Tb}
  (h : Bfs ah (List.range n) p0 l.length l to) (hm : Bfs (setB to) (List.range n) (l.map keep) m.length m t.nx)
  (hf : ∀ (i : Nat) (b : List Bool), m[i]? = some b → ∃ f, t.fl[i]? = some f ∧ (f % 2 = 1 ↔ (b[0]?).getD false = true)) {i j : Nat} (hi : i < m.length) (hj : j < m.length) (hij : i ≠ j) :
  ∃ v : List Nat, (∀ a ∈ v, a < n) ∧ accT t (runT t i v) ≠ accT t (runT t j v) := by
 have ei := List.getElem?_eq_getElem hi
 have ej := List.getElem?_eq_getElem hj
 obtain ⟨u, _, e1⟩ := sets_are h hm i i _ (Nat.le_refl _) ei
 obtain ⟨w, _, e2⟩ := sets_are h hm j j _ (Nat.le_refl _) ej
 apply Classical.byContradiction
 intro hno
 apply hij
 have : m[i] = m[j] := by
  rw [e1, e2, map_eq_says h]
  intro v hv
  rw [← (run_says h hm hf v i (readS ah keep u) hv (ei.trans (congrArg some e1))).2, ← (run_says h hm hf v j (readS ah keep w) hv (ej.trans (congrArg some e2))).2]
  apply Classical.byContradiction
  intro hne
  exact hno ⟨v, hv, hne⟩
 exact (List.getElem_inj hm.nodup).1 this
end
structure Tz where
 acts : List ByteArray
 fl : List Int
 nx : List (List Int)
def zI (l : List Nat) : List Int := l.map fun n : Nat => (n : Int)
def Tb.z (t : Tb) : Tz := ⟨t.acts, zI t.fl, t.nx.map zI⟩
structure NmOk (s : ByteArray) : Prop where
 n1 : 1 ≤ s.size
 n8 : s.size ≤ 8
 lt : ∀ c ∈ s.data.toList, isLet c = true
 wd : isWord s.data.toList = false
structure ActsOk (l : List ByteArray) : Prop where
 n1 : 1 ≤ l.length
 n6 : l.length ≤ 6
 nm : ∀ a ∈ l, NmOk a
 nd : l.Nodup
structure RightT (t : Tb) : Prop where
 acts : ActsOk t.acts
 n1 : 1 ≤ t.nx.length
 n100 : t.nx.length ≤ 100
 fl : t.fl.length = t.nx.length
 rs : ∀ r ∈ t.nx, r.length = t.acts.length ∧ ∀ x ∈ r, x < t.nx.length
 fs : ∀ f ∈ t.fl, f ≤ 3
 alive : ∀ (i f : Nat), t.fl[i]? = some f → (2 ≤ f ↔ Lives t i)
end Go.Proofs.YtidakhhekofkoaaGreatDoor
