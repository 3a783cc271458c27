/- The reference's reader of formulas, whole. -/
import Derived.Test.YtoclbcffbhldmaaGreatDoorR4
namespace Go.Proofs.YtoclbcffbhldmaaGreatDoor
open Go.RowKit Go.Deep

theorem s_of_list {s : ByteArray} {l : List UInt8} (h : s.data.toList = l) : s = ⟨l.toArray⟩ := by
  obtain ⟨⟨d⟩⟩ := s
  have : d = l := h
  rw [this]

theorem Ends.more {t : Tk} {r : List Tk} (h : Ends (t :: r)) (hk : 2 ≤ t.k) : ∃ u r', r = u :: r' := by
  cases r with
  | nil => exact absurd (show t.k ≤ 1 from h) (by omega)
  | cons u r => exact ⟨u, r, rfl⟩

set_option maxHeartbeats 1000000 in
theorem unary_step (n : Nat) (hU : SU n) (hF : SF n) : SU (n + 1) := by
  intro w pb g cap L i h hn
  obtain ⟨⟨k, s, q⟩, r, ht⟩ := drop_ne h.lt
  have hok := h.ok _ (drop_mem ht)
  obtain ⟨hk21, hs, _, _⟩ := hok
  dsimp only at hk21 hs
  have hen := h.ends
  rw [ht] at hen
  by_cases hk2 : 2 ≤ k
  · obtain ⟨u, r', rfl⟩ := hen.more hk2
    have ht2 := drop_tail ht
    have hn2 : 6 * (L.drop (i + 1)).length + 5 ≤ n := by rw [ht2]; rw [ht] at hn; simp only [List.length_cons] at hn ⊢; omega
    have hcases : k = 2 ∨ k = 3 ∨ k = 4 ∨ k = 5 ∨ k = 6 ∨ k = 7 ∨ k = 8 ∨ k = 9 ∨ k = 10 ∨ k = 11 ∨ k = 12 ∨ k = 13 ∨ k = 14 ∨ k = 15 ∨ k = 16 ∨ k = 17 ∨ k = 18 ∨ k = 19 ∨ k = 20 ∨ k = 21 := by omega
    rcases hcases with rfl | rfl | rfl | rfl | rfl | rfl | rfl | rfl | rfl | rfl | rfl | rfl | rfl | rfl | rfl | rfl | rfl | rfl | rfl | rfl
    · exact unary_name (n + 1) w pb g cap L i 2 q s u r' h ht (by decide) (by decide) (by rw [ht, pf]; simp [headK, opOf, headS, headP])
    · exact unary_fail0 (n + 1) w pb g cap L i 3 q s _ h ht (by decide) (by decide) (by decide) (by rw [ht, pf]; simp [headK, opOf, headP])
    · have hs' := s_of_list (hs (by decide)); subst hs'
      exact unary_fail3 (n + 1) w pb g cap L i 4 q _ _ h ht (by decide) (by decide) (by decide) (by rw [ByteArray.toList_eq]; decide) (by rw [ByteArray.toList_eq]; decide) (by rw [ByteArray.toList_eq]; decide) (by rw [ht, pf]; simp [headK, opOf, headP])
    · have hs' := s_of_list (hs (by decide)); subst hs'
      exact unary_fail3 (n + 1) w pb g cap L i 5 q _ _ h ht (by decide) (by decide) (by decide) (by rw [ByteArray.toList_eq]; decide) (by rw [ByteArray.toList_eq]; decide) (by rw [ByteArray.toList_eq]; decide) (by rw [ht, pf]; simp [headK, opOf, headP])
    · have hs' := s_of_list (hs (by decide)); subst hs'
      exact unary_w6 (n + 1) w pb g cap L i q u r' h ht (by rw [ht, pf]; simp [headK, opOf])
    · have hs' := s_of_list (hs (by decide)); subst hs'
      exact unary_w7 (n + 1) w pb g cap L i q u r' h ht (by rw [ht, pf]; simp [headK, opOf])
    · have hs' := s_of_list (hs (by decide)); subst hs'
      exact unary_w8 (n + 1) w pb g cap L i q u r' h ht (by rw [ht, pf]; simp [headK, opOf])
    · have hs' := s_of_list (hs (by decide)); subst hs'
      exact unary_op n hU w pb g cap L i 9 q 88 u r' h ht (by decide) (by decide) (by decide) (by omega) (by rw [ht2, ht, pf]; rfl)
    · have hs' := s_of_list (hs (by decide)); subst hs'
      exact unary_op n hU w pb g cap L i 10 q 78 u r' h ht (by decide) (by decide) (by decide) (by omega) (by rw [ht2, ht, pf]; rfl)
    · have hs' := s_of_list (hs (by decide)); subst hs'
      exact unary_op n hU w pb g cap L i 11 q 70 u r' h ht (by decide) (by decide) (by decide) (by omega) (by rw [ht2, ht, pf]; rfl)
    · have hs' := s_of_list (hs (by decide)); subst hs'
      exact unary_op n hU w pb g cap L i 12 q 71 u r' h ht (by decide) (by decide) (by decide) (by omega) (by rw [ht2, ht, pf]; rfl)
    · have hs' := s_of_list (hs (by decide)); subst hs'
      exact unary_fail1 (n + 1) w pb g cap L i 13 q 85 _ h ht (by decide) (by decide) (by decide) (by decide) (by decide) (by rw [ht, pf]; simp [headK, opOf, headP])
    · have hs' := s_of_list (hs (by decide)); subst hs'
      exact unary_fail2 (n + 1) w pb g cap L i 14 q _ h ht (by decide) (by decide) (by decide) (by rw [ht, pf]; simp [headK, opOf, headP])
    · have hs' := s_of_list (hs (by decide)); subst hs'
      exact unary_fail1 (n + 1) w pb g cap L i 15 q 124 _ h ht (by decide) (by decide) (by decide) (by decide) (by decide) (by rw [ht, pf]; simp [headK, opOf, headP])
    · have hs' := s_of_list (hs (by decide)); subst hs'
      exact unary_fail1 (n + 1) w pb g cap L i 16 q 38 _ h ht (by decide) (by decide) (by decide) (by decide) (by decide) (by rw [ht, pf]; simp [headK, opOf, headP])
    · have hs' := s_of_list (hs (by decide)); subst hs'
      exact unary_op n hU w pb g cap L i 17 q 33 u r' h ht (by decide) (by decide) (by decide) (by omega) (by rw [ht2, ht, pf]; rfl)
    · have hs' := s_of_list (hs (by decide)); subst hs'
      exact unary_bracket n hF w pb g cap L i 18 q u r' h ht (by decide) (by omega) (by rw [ht2, ht, pf]; rfl)
    · have hs' := s_of_list (hs (by decide)); subst hs'
      exact unary_fail1 (n + 1) w pb g cap L i 19 q 41 _ h ht (by decide) (by decide) (by decide) (by decide) (by decide) (by rw [ht, pf]; simp [headK, opOf, headP])
    · have hs' := s_of_list (hs (by decide)); subst hs'
      exact unary_fail1 (n + 1) w pb g cap L i 20 q 44 _ h ht (by decide) (by decide) (by decide) (by decide) (by decide) (by rw [ht, pf]; simp [headK, opOf, headP])
    · have hs' := s_of_list (hs (by decide)); subst hs'
      exact unary_fail1 (n + 1) w pb g cap L i 21 q 59 _ h ht (by decide) (by decide) (by decide) (by decide) (by decide) (by rw [ht, pf]; simp [headK, opOf, headP])
  · have hcases : k = 0 ∨ k = 1 := by omega
    rcases hcases with rfl | rfl
    · exact unary_fail0 (n + 1) w pb g cap L i 0 q s _ h ht (by decide) (by decide) (by decide) (by rw [ht, pf]; simp [headK, opOf, headP])
    · exact unary_fail0 (n + 1) w pb g cap L i 1 q s _ h ht (by decide) (by decide) (by decide) (by rw [ht, pf]; simp [headK, opOf, headP])

theorem reads_all : ∀ n m, m ≤ n → SU m ∧ ST m ∧ SA m ∧ SO m ∧ SF m
  | 0, m, hm => by
    have : m = 0 := by omega
    subst this
    exact ⟨fun _ _ _ _ _ _ _ h => by omega, fun _ _ _ _ _ _ _ h => by omega, fun _ _ _ _ _ _ _ h => by omega, fun _ _ _ _ _ _ _ h => by omega, fun _ _ _ _ _ _ _ h => by omega⟩
  | n + 1, m, hm => by
    by_cases hlt : m ≤ n
    · exact reads_all n m hlt
    · have : m = n + 1 := by omega
      subst this
      have ih := reads_all n
      have hn := ih n (Nat.le_refl _)
      exact ⟨unary_step n hn.1 hn.2.2.2.2, until_step n hn.1, and_step n (fun m hm => (ih m hm).2.1), or_step n (fun m hm => (ih m hm).2.2.1), formula_step n hn.2.2.2.1 hn.2.2.2.2⟩

/-- The reference's formula: with fuel enough. -/
theorem formula_any (n : Nat) : SF n := (reads_all n n (Nat.le_refl _)).2.2.2.2
end Go.Proofs.YtoclbcffbhldmaaGreatDoor
