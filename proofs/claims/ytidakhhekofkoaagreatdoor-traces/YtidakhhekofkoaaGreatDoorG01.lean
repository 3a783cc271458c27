/- Plain mathematics of the tokens of a text: no program in it. What a text's tokens are (kind, text, place); the kinds are numbers: 0 the end, 1 a stray byte, 2 a name, 3 a digit, 4 to 8 the five words, 9 to 13 the letters X N F G U, 14 the arrow, 15 to 21 the signs. -/
import Derived.WalkKit
import Derived.Lib.Strings
namespace Go.Proofs.YtidakhhekofkoaaGreatDoor
def isLet (c : UInt8) : Bool := decide (97 ≤ c.toNat) && decide (c.toNat ≤ 122)
def isBl (c : UInt8) : Bool := c.toNat == 32 || (c.toNat == 9 || c.toNat == 10)
def span (p : UInt8 → Bool) : List UInt8 → Nat
 | [] => 0
 | c :: r => if p c then span p r + 1 else 0
def upTo (p : UInt8 → Bool) (s : ByteArray) (i : Nat) : Nat := i + span p (s.data.toList.drop i)
theorem size_data (s : ByteArray) : s.data.toList.length = s.size := rfl
theorem drop_at (s : ByteArray) (i : Nat) (h : i < s.size) : s.data.toList.drop i = s[i] :: s.data.toList.drop (i + 1) := by
 have h' : i < s.data.toList.length := by rw [size_data]; exact h
 rw [List.drop_eq_getElem_cons h']
 rfl
theorem span_le (p : UInt8 → Bool) (l : List UInt8) : span p l ≤ l.length := by
 induction l with
 | nil => exact Nat.le_refl _
 | cons c r ih => unfold span; split <;> simp <;> omega
theorem upTo_yes (p : UInt8 → Bool) (s : ByteArray) (i : Nat) (h : i < s.size) (hp : p s[i] = true) : upTo p s i = upTo p s (i + 1) := by
 unfold upTo; rw [drop_at s i h, span, if_pos hp]; omega
theorem upTo_no (p : UInt8 → Bool) (s : ByteArray) (i : Nat) (h : i < s.size) (hp : p s[i] = false) : upTo p s i = i := by
 unfold upTo; rw [drop_at s i h, span, hp]; rfl
theorem upTo_end (p : UInt8 → Bool) (s : ByteArray) (i : Nat) (h : s.size ≤ i) : upTo p s i = i := by
 unfold upTo; rw [List.drop_eq_nil_of_le (by rw [size_data]; exact h)]; rfl
theorem upTo_ge (p : UInt8 → Bool) (s : ByteArray) (i : Nat) : i ≤ upTo p s i := by unfold upTo; omega
theorem upTo_le (p : UInt8 → Bool) (s : ByteArray) (i : Nat) (h : i ≤ s.size) : upTo p s i ≤ s.size := by
 have := span_le p (s.data.toList.drop i)
 rw [List.length_drop, size_data] at this
 unfold upTo; omega
def hasC (l : List UInt8) (c : UInt8) : Bool :=
 match l with
 | [] => false
 | d :: r => if d.toNat = c.toNat then true else hasC r c
theorem hasC_yes (s : ByteArray) (c : UInt8) (k : Nat) (h : k < s.size) (e : s[k].toNat = c.toNat) : hasC (s.data.toList.drop k) c = true := by
 rw [drop_at s k h, hasC, if_pos e]
theorem hasC_no (s : ByteArray) (c : UInt8) (k : Nat) (h : k < s.size) (e : ¬ s[k].toNat = c.toNat) : hasC (s.data.toList.drop k) c = hasC (s.data.toList.drop (k + 1)) c := by
 rw [drop_at s k h, hasC, if_neg e]
theorem hasC_end (s : ByteArray) (c : UInt8) (k : Nat) (h : s.size ≤ k) : hasC (s.data.toList.drop k) c = false := by
 rw [List.drop_eq_nil_of_le (by rw [size_data]; omega)]; rfl
structure Tk where
 k : Nat
 s : ByteArray
 p : Nat
def isWord (l : List UInt8) : Bool := l == [97, 99, 116, 115] || (l == [114, 117, 108, 101] || (l == [116, 114, 117, 101] || (l == [102, 97, 108, 115, 101] || l == [101, 110, 100])))
def wordK (l : List UInt8) : Nat :=
 if l = [97, 99, 116, 115] then 4 else if l = [114, 117, 108, 101] then 5 else if l = [116, 114, 117, 101] then 6 else if l = [102, 97, 108, 115, 101] then 7 else if l = [101, 110, 100] then 8 else 2
def signK (c : Nat) : Nat :=
 if c = 88 then 9 else if c = 78 then 10 else if c = 70 then 11 else if c = 71 then 12 else if c = 85 then 13 else
 if c = 124 then 15 else if c = 38 then 16 else if c = 33 then 17 else if c = 40 then 18 else if c = 41 then 19 else if c = 44 then 20 else if c = 59 then 21 else 1
def lexAt (s : ByteArray) (j : Nat) : Tk :=
 if h : j < s.size then
  if isLet s[j] then ⟨wordK (s.extract j (upTo isLet s j)).data.toList, s.extract j (upTo isLet s j), j⟩
  else if 48 ≤ s[j].toNat ∧ s[j].toNat ≤ 57 then ⟨3, s.extract j (j + 1), j⟩
  else if h2 : j + 1 < s.size then
   if s[j].toNat = 45 ∧ s[j + 1].toNat = 62 then ⟨14, ⟨#[45, 62]⟩, j⟩
   else ⟨signK s[j].toNat, s.extract j (j + 1), j⟩
  else ⟨signK s[j].toNat, s.extract j (j + 1), j⟩
 else ⟨0, ByteArray.empty, s.size⟩
theorem lex_end (s : ByteArray) (k : Nat) (h : s.size ≤ k) : lexAt s k = ⟨0, ByteArray.empty, s.size⟩ := by
 unfold lexAt; rw [dif_neg (by omega)]
theorem lex_name (s : ByteArray) (k : Nat) (h : k < s.size) (hl : isLet s[k] = true) : lexAt s k = ⟨wordK (s.extract k (upTo isLet s k)).data.toList, s.extract k (upTo isLet s k), k⟩ := by
 unfold lexAt; rw [dif_pos h, if_pos hl]
theorem lex_digit (s : ByteArray) (k : Nat) (h : k < s.size) (h1 : 48 ≤ s[k].toNat) (h2 : s[k].toNat ≤ 57) : lexAt s k = ⟨3, s.extract k (k + 1), k⟩ := by
 unfold lexAt; rw [dif_pos h, if_neg (by simp [isLet]; omega), if_pos ⟨h1, h2⟩]
theorem lex_arrow (s : ByteArray) (k : Nat) (h : k < s.size) (h1 : s[k].toNat = 45) (h2 : k + 1 < s.size) (h3 : s[k + 1].toNat = 62) : lexAt s k = ⟨14, ⟨#[45, 62]⟩, k⟩ := by
 unfold lexAt; rw [dif_pos h, if_neg (by simp [isLet]; omega), if_neg (by omega), dif_pos h2, if_pos ⟨h1, h3⟩]
theorem lex_sign (s : ByteArray) (k : Nat) (h : k < s.size) (hl : isLet s[k] = false) (hd : ¬ (48 ≤ s[k].toNat ∧ s[k].toNat ≤ 57)) (ha : ¬ (s[k].toNat = 45 ∧ ∃ h2 : k + 1 < s.size, s[k + 1].toNat = 62)) :
  lexAt s k = ⟨signK s[k].toNat, s.extract k (k + 1), k⟩ := by
 unfold lexAt; rw [dif_pos h, if_neg (by simp [hl]), if_neg hd]
 split
 ·rename_i h2; rw [if_neg (fun e => ha ⟨e.1, h2, e.2⟩)]
 ·rfl
theorem upTo_pos (s : ByteArray) (k : Nat) (h : k < s.size) (e : k < upTo isLet s k) : isLet s[k] = true := by
 cases hl : isLet s[k] with
 | true => rfl
 | false => rw [upTo_no isLet s k h hl] at e; omega
theorem upTo_zero (s : ByteArray) (k : Nat) (h : k < s.size) (e : upTo isLet s k = k) : isLet s[k] = false := by
 cases hl : isLet s[k] with
 | false => rfl
 | true => have := upTo_ge isLet s (k + 1); rw [upTo_yes isLet s k h hl] at e; omega
theorem wordK_word (l : List UInt8) : isWord l = true → 4 ≤ wordK l ∧ wordK l ≤ 8 := by
 intro h
 unfold wordK
 simp only [isWord, Bool.or_eq_true, beq_iff_eq] at h
 repeat (split; · omega)
 rcases h with h | h | h | h | h <;> contradiction
theorem wordK_none (l : List UInt8) : isWord l = false → wordK l = 2 := by
 intro h
 unfold wordK
 simp only [isWord, Bool.or_eq_false_iff, beq_eq_false_iff_ne] at h
 obtain ⟨h1, h2, h3, h4, h5⟩ := h
 rw [if_neg h1, if_neg h2, if_neg h3, if_neg h4, if_neg h5]
def signs12 : List UInt8 := [88, 78, 70, 71, 85, 124, 38, 33, 40, 41, 44, 59]
theorem signK_has (c : UInt8) : hasC signs12 c = true → 9 ≤ signK c.toNat := by
 intro h
 have h' : c.toNat = 88 ∨ c.toNat = 78 ∨ c.toNat = 70 ∨ c.toNat = 71 ∨ c.toNat = 85 ∨ c.toNat = 124 ∨ c.toNat = 38 ∨ c.toNat = 33 ∨ c.toNat = 40 ∨ c.toNat = 41 ∨ c.toNat = 44 ∨ c.toNat = 59 := by
  simp [hasC, signs12] at h; omega
 clear h
 generalize c.toNat = n at h'
 rcases h' with h | h | h | h | h | h | h | h | h | h | h | h <;> subst h <;> decide
theorem signK_hasnt (c : UInt8) : hasC signs12 c = false → signK c.toNat = 1 := by
 intro h
 have h' : ¬ (c.toNat = 88 ∨ c.toNat = 78 ∨ c.toNat = 70 ∨ c.toNat = 71 ∨ c.toNat = 85 ∨ c.toNat = 124 ∨ c.toNat = 38 ∨ c.toNat = 33 ∨ c.toNat = 40 ∨ c.toNat = 41 ∨ c.toNat = 44 ∨ c.toNat = 59) := by
  simp [hasC, signs12] at h; omega
 clear h
 generalize c.toNat = n at h'
 simp only [not_or] at h'
 obtain ⟨a, b, c, d, e, f, g, h, i, j, k, l⟩ := h'
 simp only [signK, a, b, c, d, e, f, g, h, i, j, k, l, if_false]
theorem lexAt_p (s : ByteArray) (j : Nat) (h : j ≤ s.size) : (lexAt s j).p = j := by
 unfold lexAt
 split
 ·repeat' split
  all_goals rfl
 ·show s.size = j; omega
theorem lexAt_s (s : ByteArray) (j : Nat) (h : j ≤ s.size) : j + (lexAt s j).s.size ≤ s.size := by
 unfold lexAt
 split
 ·rename_i hj
  split
  ·have := upTo_le isLet s j h
   show j + (s.extract j (upTo isLet s j)).size ≤ _
   rw [ByteArray.size_extract]; omega
  ·split
   ·show j + (s.extract j (j + 1)).size ≤ _
    rw [ByteArray.size_extract]; omega
   ·split
    ·split
     ·show j + 2 ≤ _; omega
     ·show j + (s.extract j (j + 1)).size ≤ _
      rw [ByteArray.size_extract]; omega
    ·show j + (s.extract j (j + 1)).size ≤ _
     rw [ByteArray.size_extract]; omega
 ·show j + 0 ≤ _; omega
theorem lexAt_pos (s : ByteArray) (j : Nat) (h : j ≤ s.size) (hk : (lexAt s j).k ≠ 0) : 1 ≤ (lexAt s j).s.size := by
 revert hk
 unfold lexAt
 split
 ·rename_i hj
  intro _
  split
  ·rename_i hl
   have h1 := upTo_le isLet s j h
   have h2 := upTo_ge isLet s (j + 1)
   rw [← upTo_yes isLet s j hj hl] at h2
   show 1 ≤ (s.extract j (upTo isLet s j)).size
   rw [ByteArray.size_extract]; omega
  ·split
   ·show 1 ≤ (s.extract j (j + 1)).size
    rw [ByteArray.size_extract]; omega
   ·split
    ·split
     ·show 1 ≤ 2; omega
     ·show 1 ≤ (s.extract j (j + 1)).size
      rw [ByteArray.size_extract]; omega
    ·show 1 ≤ (s.extract j (j + 1)).size
     rw [ByteArray.size_extract]; omega
 ·intro hk; exact absurd rfl hk
def lexR (s : ByteArray) : Nat → Nat → List Tk
 | 0, _ => []
 | n + 1, i => let t := lexAt s (upTo isBl s i); if t.k ≤ 1 then [t] else t :: lexR s n (t.p + t.s.size)
theorem lexR_stop (s : ByteArray) (n i : Nat) (h : (lexAt s (upTo isBl s i)).k ≤ 1) : lexR s (n + 1) i = [lexAt s (upTo isBl s i)] := by
 rw [lexR]; exact if_pos h
theorem lexR_go (s : ByteArray) (n i : Nat) (h : ¬ (lexAt s (upTo isBl s i)).k ≤ 1) : lexR s (n + 1) i = lexAt s (upTo isBl s i) :: lexR s n ((lexAt s (upTo isBl s i)).p + (lexAt s (upTo isBl s i)).s.size) := by
 rw [lexR]; exact if_neg h
theorem lex_adv (s : ByteArray) (i : Nat) (h : i ≤ s.size) (hk : ¬ (lexAt s (upTo isBl s i)).k ≤ 1) :
  i + 1 ≤ (lexAt s (upTo isBl s i)).p + (lexAt s (upTo isBl s i)).s.size ∧ (lexAt s (upTo isBl s i)).p + (lexAt s (upTo isBl s i)).s.size ≤ s.size := by
 have h0 := upTo_ge isBl s i
 have h1 := upTo_le isBl s i h
 have h2 := lexAt_p s _ h1
 have h3 := lexAt_s s _ h1
 have h4 := lexAt_pos s _ h1 (by omega)
 omega
end Go.Proofs.YtidakhhekofkoaaGreatDoor
