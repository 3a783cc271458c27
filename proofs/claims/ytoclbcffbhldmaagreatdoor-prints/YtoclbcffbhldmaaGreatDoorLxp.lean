/- Plain mathematics: all tokens of a text, also those behind a stray byte; what is left of them up to the first stray byte. No program in it. -/
import Derived.Test.YtoclbcffbhldmaaGreatDoorGd
namespace Go.Proofs.YtoclbcffbhldmaaGreatDoor
open Go.Deep

/-- All tokens from place i on, up to the end. -/
def lexP (s : ByteArray) : Nat → Nat → List Tk
  | 0, _ => []
  | n + 1, i => let t := lexAt s (upTo isBl s i); if t.k = 0 then [t] else t :: lexP s n (t.p + t.s.size)
theorem lexP_stop (s : ByteArray) (n i : Nat) (h : (lexAt s (upTo isBl s i)).k = 0) : lexP s (n + 1) i = [lexAt s (upTo isBl s i)] := by
  rw [lexP]; exact if_pos h
theorem lexP_go (s : ByteArray) (n i : Nat) (h : (lexAt s (upTo isBl s i)).k ≠ 0) : lexP s (n + 1) i = lexAt s (upTo isBl s i) :: lexP s n ((lexAt s (upTo isBl s i)).p + (lexAt s (upTo isBl s i)).s.size) := by
  rw [lexP]; exact if_neg h
theorem lexP_adv (s : ByteArray) (i : Nat) (h : i ≤ s.size) (hk : (lexAt s (upTo isBl s i)).k ≠ 0) :
    i + 1 ≤ (lexAt s (upTo isBl s i)).p + (lexAt s (upTo isBl s i)).s.size ∧ (lexAt s (upTo isBl s i)).p + (lexAt s (upTo isBl s i)).s.size ≤ s.size := by
  have h0 := upTo_ge isBl s i
  have h1 := upTo_le isBl s i h
  have h2 := lexAt_p s _ h1
  have h3 := lexAt_s s _ h1
  have h4 := lexAt_pos s _ h1 hk
  omega
def cut : List Tk → List Tk
  | [] => []
  | t :: r => if t.k ≤ 1 then [t] else t :: cut r
theorem cut_lexP (s : ByteArray) : ∀ n i, cut (lexP s n i) = lexR s n i
  | 0, _ => rfl
  | n + 1, i => by
    by_cases h : (lexAt s (upTo isBl s i)).k ≤ 1
    · rw [lexR_stop s n i h]
      by_cases h0 : (lexAt s (upTo isBl s i)).k = 0
      · rw [lexP_stop s n i h0, cut, if_pos h]
      · rw [lexP_go s n i h0, cut, if_pos h]
    · rw [lexR_go s n i h, lexP_go s n i (by omega), cut, if_neg h, cut_lexP s n]
/-- A list of tokens that ends by the text's end, and has it nowhere before. -/
def FE : List Tk → Prop
  | [] => False
  | [t] => t.k = 0
  | t :: r => t.k ≠ 0 ∧ FE r
theorem FE.ne {l : List Tk} (h : FE l) : l ≠ [] := by rintro rfl; exact h
theorem FE.tail {t : Tk} {r : List Tk} (h : FE (t :: r)) (hk : t.k ≠ 0) : FE r := by
  cases r with
  | nil => exact absurd (show t.k = 0 from h) hk
  | cons u r => exact h.2
theorem lexP_fe (s : ByteArray) : ∀ n i, i ≤ s.size → s.size < n + i → FE (lexP s n i)
  | 0, i, h, h' => by omega
  | n + 1, i, h, h' => by
    by_cases hk : (lexAt s (upTo isBl s i)).k = 0
    · rw [lexP_stop s n i hk]; exact hk
    · rw [lexP_go s n i hk]
      have ha := lexP_adv s i h hk
      have := lexP_fe s n _ ha.2 (by omega)
      cases hr : lexP s n ((lexAt s (upTo isBl s i)).p + (lexAt s (upTo isBl s i)).s.size) with
      | nil => rw [hr] at this; exact absurd this id
      | cons u r => rw [hr] at this; exact ⟨hk, this⟩
theorem lexP_len (s : ByteArray) : ∀ n i, i ≤ s.size → (lexP s n i).length + i ≤ s.size + 1
  | 0, i, h => by simp [lexP]; omega
  | n + 1, i, h => by
    by_cases hk : (lexAt s (upTo isBl s i)).k = 0
    · rw [lexP_stop s n i hk]; simp; omega
    · rw [lexP_go s n i hk]
      have ha := lexP_adv s i h hk
      have := lexP_len s n _ ha.2
      simp; omega
/-- A token of a text of m bytes. -/
def TkIn (m : Nat) (t : Tk) : Prop := TkOk t ∧ t.s.size ≤ m ∧ t.p ≤ m
theorem lexAt_in (s : ByteArray) (j : Nat) (h : j ≤ s.size) : TkIn s.size (lexAt s j) :=
  ⟨lexAt_ok s j, by have := lexAt_s s j h; omega, by rw [lexAt_p s j h]; exact h⟩
theorem lexP_in (s : ByteArray) : ∀ n i, i ≤ s.size → ∀ t ∈ lexP s n i, TkIn s.size t
  | 0, _, _, t, h => by simp [lexP] at h
  | n + 1, i, hi, t, h => by
    by_cases hk : (lexAt s (upTo isBl s i)).k = 0
    · rw [lexP_stop s n i hk] at h; simp at h; subst h; exact lexAt_in s _ (upTo_le isBl s i hi)
    · rw [lexP_go s n i hk] at h
      rcases List.mem_cons.1 h with rfl | h
      · exact lexAt_in s _ (upTo_le isBl s i hi)
      · exact lexP_in s n _ (lexP_adv s i hi hk).2 t h
theorem cut_ends : ∀ {l : List Tk}, FE l → Ends (cut l)
  | [], h => absurd h id
  | [t], h => by rw [cut, if_pos (by have : t.k = 0 := h; omega)]; show t.k ≤ 1; have : t.k = 0 := h; omega
  | t :: u :: r, h => by
    by_cases hk : t.k ≤ 1
    · rw [cut, if_pos hk]; exact hk
    · rw [cut, if_neg hk]
      have := cut_ends (l := u :: r) h.2
      cases hc : cut (u :: r) with
      | nil => rw [hc] at this; exact absurd this id
      | cons a b => rw [hc] at this; exact ⟨by omega, this⟩
theorem FE.drop : ∀ {l : List Tk} (i : Nat), FE l → i < l.length → FE (l.drop i)
  | [], _, h, _ => absurd h id
  | [t], 0, h, _ => h
  | [t], i + 1, h, hi => by simp at hi
  | t :: u :: r, 0, h, _ => h
  | t :: u :: r, i + 1, h, hi => by
    rw [List.drop_succ_cons]
    exact FE.drop (l := u :: r) i h.2 (by simpa using hi)
/-- The tokens that are left at token i. -/
def PL (L : List Tk) (i : Nat) : List Tk := cut (L.drop i)
theorem PL_head {L : List Tk} {i : Nat} {t : Tk} {r : List Tk} (h : PL L i = t :: r) : ∃ r', L.drop i = t :: r' := by
  unfold PL at h
  cases hd : L.drop i with
  | nil => rw [hd] at h; cases h
  | cons u r' =>
    rw [hd, cut] at h
    split at h
    · cases h; exact ⟨r', rfl⟩
    · cases h; exact ⟨r', rfl⟩
theorem PL_next {L : List Tk} {i : Nat} {t : Tk} {r : List Tk} (h : PL L i = t :: r) (hk : 2 ≤ t.k) : PL L (i + 1) = r := by
  unfold PL at h ⊢
  cases hd : L.drop i with
  | nil => rw [hd] at h; cases h
  | cons u r' =>
    rw [hd, cut] at h
    split at h
    · cases h; omega
    · cases h
      have : L.drop (i + 1) = r' := by
        have := congrArg List.tail hd
        simpa using this
      rw [this]
theorem PL_lt {L : List Tk} {i : Nat} {t : Tk} {r : List Tk} (h : PL L i = t :: r) : i < L.length := by
  obtain ⟨r', h'⟩ := PL_head h
  rcases Nat.lt_or_ge i L.length with hi | hi
  · exact hi
  · rw [List.drop_eq_nil_of_le hi] at h'; cases h'
theorem PL_ends {L : List Tk} {i : Nat} (h : FE L) (hi : i < L.length) : Ends (PL L i) := cut_ends (h.drop i hi)
theorem PL_some {L : List Tk} {i : Nat} (h : FE L) (hi : i < L.length) : ∃ t r, PL L i = t :: r := by
  cases hp : PL L i with
  | nil => have := (PL_ends h hi); rw [hp] at this; exact absurd this id
  | cons t r => exact ⟨t, r, rfl⟩
theorem FE.nextLt {L : List Tk} {i : Nat} {t : Tk} {r : List Tk} (h : FE L) (ht : PL L i = t :: r) (hk : t.k ≠ 0) : i + 1 < L.length := by
  obtain ⟨r', hr⟩ := PL_head ht
  have h1 := h.drop i (PL_lt ht)
  rw [hr] at h1
  have h2 := (h1.tail hk).ne
  have h3 := congrArg List.length hr
  have h4 : 0 < r'.length := List.length_pos_iff.2 h2
  simp at h3; omega
theorem FE.last {L : List Tk} (h : FE L) : ∃ e, L.drop (L.length - 1) = [e] ∧ e.k = 0 := by
  have h1 : 0 < L.length := List.length_pos_iff.2 h.ne
  have h2 := h.drop (L.length - 1) (by omega)
  cases hd : L.drop (L.length - 1) with
  | nil => rw [hd] at h2; exact absurd h2 id
  | cons e r =>
    have h3 := congrArg List.length hd
    simp at h3
    have : r = [] := List.length_eq_zero_iff.1 (by omega)
    subst this
    rw [hd] at h2
    exact ⟨e, rfl, h2⟩
theorem PL_last {L : List Tk} (h : FE L) : ∃ e, PL L (L.length - 1) = [e] ∧ e.k = 0 := by
  obtain ⟨e, h1, h2⟩ := h.last
  refine ⟨e, ?_, h2⟩
  unfold PL; rw [h1, cut, if_pos (by omega)]
end Go.Proofs.YtoclbcffbhldmaaGreatDoor
