/- The program's small functions on texts: blanksEnd, lettersEnd, wordKind, HasPrefix. -/
import Derived.Test.YtoclbcffbhldmaaGreatDoorGv
set_option linter.unusedSimpArgs false
namespace Go.Proofs.YtoclbcffbhldmaaGreatDoor
open Go.RowKit Go.Deep

set_option maxHeartbeats 1000000 in
theorem blanksEnd_any (s : ByteArray) (i : Nat) (w : World) (hs : s.size ≤ maxLen) (hi : i ≤ s.size) :
    Calls Tryz.prog 126 #[.string s, .int .i64 i] w fun e w' => e = .returned (.int .i64 (upTo isBl s i : Nat)) ∧ w' = w := by
  unfold maxLen at hs
  go_enter Tryz.func126, Tryz.ntmps126
  go_wp2_with fail
  go_loop [1] (fun x => ∃ k : Nat, k ≤ s.size ∧ x = .int .i64 k ∧ Hid (upTo isBl s i = upTo isBl s k)) (fun x => s.size - (intOf x).toNat)
  case atStart => exact ⟨i, hi, rfl, rfl⟩
  case round =>
    obtain ⟨k, hk, rfl, H⟩ := hrel
    by_cases hlt : k < s.size
    · by_cases hb : isBl s[k] = true
      · have HB := hide hb
        clear hb
        go_wp2_with fail
        all_goals first
          | (go_round
             case rel => exact ⟨k + 1, by omega, by go_num, H.out.trans (upTo_yes isBl s k hlt (unhide HB))⟩
             case measure => simp [intOf]; omega)
          | (exfalso
             have h1 : (((s[k].toNat : Int) == 32) = false ∧ ((s[k].toNat : Int) == 9) = false) ∧ ((s[k].toNat : Int) == 10) = false := by simp_all
             have := unhide HB
             simp only [isBl, Bool.or_eq_true, beq_iff_eq, beq_eq_false_iff_ne] at this h1
             omega)
      · have hb' : isBl s[k] = false := by simpa using hb
        have h32 : ((s[k].toNat : Int) == 32) = false := by
          simp only [isBl, Bool.or_eq_false_iff, beq_eq_false_iff_ne] at hb' ⊢; omega
        have h9 : ((s[k].toNat : Int) == 9) = false := by
          simp only [isBl, Bool.or_eq_false_iff, beq_eq_false_iff_ne] at hb' ⊢; omega
        have h10 : ((s[k].toNat : Int) == 10) = false := by
          simp only [isBl, Bool.or_eq_false_iff, beq_eq_false_iff_ne] at hb' ⊢; omega
        have HE : Hid (upTo isBl s i = k) := H.out.trans (upTo_no isBl s k hlt hb')
        clear hb hb' H
        go_wp2_with fail
        go_ret
        exact ⟨ret_int (by rw [unhide HE]), rfl⟩
    · have HE : Hid (upTo isBl s i = k) := H.out.trans (upTo_end isBl s k (by omega))
      clear H
      go_wp2_with fail
      go_ret
      exact ⟨ret_int (by rw [unhide HE]), rfl⟩

set_option maxHeartbeats 1000000 in
theorem lettersEnd_any (s : ByteArray) (w : World) (hs : s.size ≤ maxLen) :
    Calls Tryz.prog 157 #[.string s] w fun e w' => e = .returned (.int .i64 (upTo isLet s 0 : Nat)) ∧ w' = w := by
  unfold maxLen at hs
  go_enter Tryz.func157, Tryz.ntmps157
  go_wp2_with fail
  go_loop [3] (fun x => ∃ k : Nat, k ≤ s.size ∧ x = .int .i64 k ∧ Hid (upTo isLet s 0 = upTo isLet s k)) (fun x => s.size - (intOf x).toNat)
  case atStart => exact ⟨0, Nat.zero_le _, rfl, rfl⟩
  case round =>
    obtain ⟨k, hk, rfl, H⟩ := hrel
    by_cases hlt : k < s.size
    · by_cases h1 : (97 : Int) ≤ (s[k].toNat : Int)
      · by_cases h2 : (s[k].toNat : Int) ≤ 122
        · go_wp2_with fail
          go_round
          case rel => exact ⟨k + 1, by omega, by go_num, H.out.trans (upTo_yes isLet s k hlt (by simp [isLet]; omega))⟩
          case measure => simp [intOf]; omega
        · have HE : Hid (upTo isLet s 0 = k) := H.out.trans (upTo_no isLet s k hlt (by simp [isLet]; omega))
          clear H
          go_wp2_with fail
          go_ret
          exact ⟨ret_int (by rw [unhide HE]), rfl⟩
      · have HE : Hid (upTo isLet s 0 = k) := H.out.trans (upTo_no isLet s k hlt (by simp [isLet]; omega))
        clear H
        go_wp2_with fail
        go_ret
        exact ⟨ret_int (by rw [unhide HE]), rfl⟩
    · have HE : Hid (upTo isLet s 0 = k) := H.out.trans (upTo_end isLet s k (by omega))
      clear H
      go_wp2_with fail
      go_ret
      exact ⟨ret_int (by rw [unhide HE]), rfl⟩

set_option maxHeartbeats 1000000 in
theorem hasPrefixLite_any (s p : ByteArray) (w : World) :
    Calls Tryz.prog 173 #[.string s, .string p] w fun e w' => e = .returned (.bool (s.toList.take p.size == p.toList)) ∧ w' = w := by
  by_cases h : p.size ≤ s.size
  · have e : (s.extract 0 p.size).toList = s.toList.take p.size := by
      rw [ByteArray.toList_eq, ByteArray.toList_eq, Lib.extract_data]; simp
    go_enter Tryz.func173, Tryz.ntmps173
    go_wp2_with fail
    go_ret
    exact ⟨by simp [e], rfl⟩
  · have e : ¬ s.toList.take p.size = p.toList := by
      intro e
      have := congrArg List.length e
      rw [ByteArray.toList_eq, ByteArray.toList_eq] at this
      simp [size_data] at this
      have h1 : s.data.size = s.size := rfl
      have h2 : p.data.size = p.size := rfl
      omega
    go_enter Tryz.func173, Tryz.ntmps173
    go_wp2_with fail
    go_ret
    exact ⟨by simp [e], rfl⟩
set_option maxHeartbeats 1000000 in
theorem hasPrefix_any (s p : ByteArray) (w : World) :
    Calls Tryz.prog 159 #[.string s, .string p] w fun e w' => e = .returned (.bool (s.toList.take p.size == p.toList)) ∧ w' = w := by
  go_enter Tryz.func159, Tryz.ntmps159
  go_wp2_with fail
  refine (hasPrefixLite_any s p _).mono ?_
  rintro e w' ⟨rfl, rfl⟩
  go_wp2_with fail
  go_ret
  exact ⟨rfl, rfl⟩
end Go.Proofs.YtoclbcffbhldmaaGreatDoor
