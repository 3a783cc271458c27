/- The reference's size, act, one, times, takes. -/
import Derived.Test.YtoclbcffbhldmaaGreatDoorF2
import Derived.Test.YtoclbcffbhldmaaGreatDoorTpl
import Derived.Deep.TreeCalls
set_option linter.unusedSimpArgs false
namespace Go.Proofs.YtoclbcffbhldmaaGreatDoor
open Go.RowKit Go.Deep

set_option maxHeartbeats 400000 in
theorem act_any (s : ByteArray) (w : World) :
    Calls Tryz.prog 147 #[.string s] w fun e w' => ∃ v, e = .returned (.pointer v) ∧ IsF w' (acF s) v ∧ Below w.heap.size w w' := by
  go_enter Tryz.func147, Tryz.ntmps147
  go_wp2
  go_ret
  exact ⟨_, rfl, ⟨w.heap.size, none, none, rfl, blk_alloc _ _, rfl, rfl⟩, (Below.refl _ _).alloc (Nat.le_refl _) _⟩

set_option maxHeartbeats 400000 in
theorem one_any (k : Nat) (c : Int) (f : Fm) (vf : Option Addr) (w : World) (hf : IsF w f vf) (hc : c = refO k) :
    Calls Tryz.prog 148 #[.int .u8 c, .pointer vf] w fun e w' => ∃ v, e = .returned (.pointer v) ∧ IsF w' (one k f) v ∧ Below w.heap.size w w' := by
  subst hc
  have HF := hide hf
  clear hf
  go_enter Tryz.func148, Tryz.ntmps148
  go_wp2
  go_ret
  have hb : Below w.heap.size w (w.alloc (.cells #[.int .u8 (refO k), .string ⟨#[]⟩, .int .i64 0, .pointer vf, .pointer none] 175)) := (Below.refl _ _).alloc (Nat.le_refl _) _
  exact ⟨_, rfl, ⟨w.heap.size, vf, none, rfl, blk_alloc _ _, (unhide HF).later hb, rfl⟩, hb⟩

theorem IsF.drewN {w : World} {f : Fm} {p : Option Addr} (h : IsF w f p) (n : Nat) : IsF (w.drewN n) f p := by
  induction n with
  | zero => exact h
  | succ n ih => exact ih.later (Below.refl _ _).drew
set_option maxHeartbeats 1000000 in
theorem times_any (a : ByteArray) : ∀ (n : Nat) (w : World), 1 ≤ n → n ≤ 9 →
    Calls Tryz.prog 150 #[.string a, .int .i64 n] w fun e w' => ∃ v, e = .returned (.pointer v) ∧ IsF w' (timesF a n) v ∧ Below w.heap.size w w'
  | 0, w, h, _ => by omega
  | 1, w, _, _ => by
    go_enter Tryz.func150, Tryz.ntmps150
    go_wp2_with (go_at_call 147; refine (act_any _ _).mono ?_)
    rintro e w1 ⟨v1, rfl, hf1, hb1⟩
    have HF1 := hide hf1
    have HB1 := hide hb1
    clear hf1 hb1
    go_wp2_with (go_at_call 148; refine (one_any 7 _ _ _ _ (unhide HF1) rfl).mono ?_)
    rintro e w2 ⟨v2, rfl, hf2, hb2⟩
    have HF2 := hide hf2
    have HB2 := hide ((unhide HB1).trans (hb2.mono (unhide HB1).size))
    clear hf2 hb2
    go_wp2_with fail
    go_ret
    exact ⟨_, rfl, unhide HF2, unhide HB2⟩
  | n + 2, w, _, h9 => by
    have IH := hide (times_any a (n + 1))
    go_enter Tryz.func150, Tryz.ntmps150
    go_wp2_with (go_at_call 147; refine (act_any _ _).mono ?_)
    rintro e w1 ⟨v1, rfl, hf1, hb1⟩
    have HF1 := hide hf1
    have HB1 := hide hb1
    clear hf1 hb1
    go_wp2_with fail
    rw [show ((n : Int) + 2 - 1) = ((n + 1 : Nat) : Int) from by omega]
    refine ((unhide IH) _ (by omega) (by omega)).mono ?_
    rintro e w2 ⟨v2, rfl, hf2, hb2⟩
    have HF2 := hide hf2
    have Ha2 := hide ((unhide HF1).later hb2)
    have HB2 := hide ((unhide HB1).trans (hb2.mono (unhide HB1).size))
    clear hf2 hb2
    go_wp2_with (go_at_call 148; refine (one_any 5 _ _ _ _ (unhide HF2) rfl).mono ?_)
    rintro e w3 ⟨v3, rfl, hf3, hb3⟩
    have HF3 := hide hf3
    have Ha3 := hide ((unhide Ha2).later hb3)
    have Ht3 := hide ((unhide HF2).later hb3)
    have HB3 := hide ((unhide HB2).trans (hb3.mono (unhide HB2).size))
    clear hf3 hb3
    go_wp2_with (go_at_call 149; refine (two_any 10 _ _ _ _ _ _ (unhide Ha3) (unhide HF3) rfl).mono ?_)
    rintro e w4 ⟨v4, rfl, hf4, hb4⟩
    have HF4 := hide hf4
    have Ha4 := hide ((unhide Ha3).later hb4)
    have Ht4 := hide ((unhide Ht3).later hb4)
    have Hx4 := hide ((unhide HF3).later hb4)
    have HB4 := hide ((unhide HB3).trans (hb4.mono (unhide HB3).size))
    clear hf4 hb4
    go_wp2_with (go_at_call 148; refine (one_any 7 _ _ _ _ (unhide HF4) rfl).mono ?_)
    rintro e w5 ⟨v5, rfl, hf5, hb5⟩
    have HF5 := hide hf5
    have Ha5 := hide ((unhide Ha4).later hb5)
    have Ht5 := hide ((unhide Ht4).later hb5)
    have Hx5 := hide ((unhide Hx4).later hb5)
    have Hy5 := hide ((unhide HF4).later hb5)
    have HB5 := hide ((unhide HB4).trans (hb5.mono (unhide HB4).size))
    clear hf5 hb5
    go_wp2_with fail
    go_ret
    exact ⟨_, rfl, unhide HF5, unhide HB5⟩

/-- How many nodes: it only reads. -/
theorem sizeF_pos (f : Fm) : (0 : Int) ≤ sizeF f := by omega

set_option maxHeartbeats 1600000 in
set_option maxRecDepth 1000000 in
theorem size_any : ∀ (f : Fm) (w : World) (p : Option Addr), IsF w f p → sizeF f ≤ 100000 →
    Calls Tryz.prog 87 #[.pointer p] w fun e w' => e = .returned (.int .i64 (sizeF f)) ∧ ∃ n, w' = w.drewN n
  | .nil, w, p, h, _ => by
    cases (show p = none from h)
    go_enter Tryz.func87, Tryz.ntmps87
    go_wp2_with fail
    go_ret
    exact ⟨rfl, 0, rfl⟩
  | .node u v a l r, w, p, h, hs => by
    obtain ⟨b, pl, pr, rfl, hb, hl, hr⟩ := h
    have IHL := hide (size_any l)
    have IHR := hide (size_any r)
    have HL := hide hl
    have HR := hide hr
    have hsl : sizeF l ≤ 100000 := by simp only [sizeF] at hs; omega
    have hsr : sizeF r ≤ 100000 := by simp only [sizeF] at hs; omega
    have hss : 1 + sizeF l + sizeF r ≤ 100000 := hs
    have bc := fun o => cell_of_blk hb o
    clear hb hl hr hs
    go_enter Tryz.func87, Tryz.ntmps87
    go_wp2_with fail
    go_quiet (first | (go_at_call_of 87 (Value.pointer pl); refine Calls.quiet_of ((unhide IHL) _ _ ?_ hsl); exact IsF.drewN (unhide HL) _) | (go_at_call_of 87 (Value.pointer pr); refine Calls.quiet_of ((unhide IHR) _ _ ?_ hsr); exact IsF.drewN (unhide HR) _))
    go_wp2_with fail
    go_ret
    exact ⟨ret_int (by simp only [sizeF]; omega), nq, rfl⟩

set_option maxHeartbeats 1000000 in
theorem takes_any (s : ByteArray) (w : World) :
    Calls Tryz.prog 113 #[.string s] w fun e w' => e = .returned (.tuple #[.string ⟨(tplTakes (tplNo s.toList)).toArray⟩, .bool (decide (tplNo s.toList ≤ 11))]) ∧ w' = w := by
  go_enter Tryz.func113, Tryz.ntmps113
  go_wp2
  all_goals
    go_ret2
    refine ⟨?_, rfl⟩
  all_goals first
    | (have h : s.toList = [105, 110, 105, 116] := by first | assumption | (exact eq_of_beq (by assumption))
       rw [h]; rfl)
    | (have h : s.toList = [108, 97, 115, 116] := by first | assumption | (exact eq_of_beq (by assumption))
       rw [h]; rfl)
    | (have h : s.toList = [115, 111, 109, 101] := by first | assumption | (exact eq_of_beq (by assumption))
       rw [h]; rfl)
    | (have h : s.toList = [102, 101, 119] := by first | assumption | (exact eq_of_beq (by assumption))
       rw [h]; rfl)
    | (have h : s.toList = [114, 101, 115, 112, 111, 110, 115, 101] := by first | assumption | (exact eq_of_beq (by assumption))
       rw [h]; rfl)
    | (have h : s.toList = [112, 114, 101, 99, 101, 100, 101] := by first | assumption | (exact eq_of_beq (by assumption))
       rw [h]; rfl)
    | (have h : s.toList = [99, 104, 97, 105, 110] := by first | assumption | (exact eq_of_beq (by assumption))
       rw [h]; rfl)
    | (have h : s.toList = [98, 101, 102, 111, 114, 101] := by first | assumption | (exact eq_of_beq (by assumption))
       rw [h]; rfl)
    | (have h : s.toList = [119, 105, 116, 104] := by first | assumption | (exact eq_of_beq (by assumption))
       rw [h]; rfl)
    | (have h : s.toList = [97, 112, 97, 114, 116] := by first | assumption | (exact eq_of_beq (by assumption))
       rw [h]; rfl)
    | (have h : s.toList = [110, 101, 118, 101, 114] := by first | assumption | (exact eq_of_beq (by assumption))
       rw [h]; rfl)
    | (have h : s.toList = [110, 111, 116, 110, 101, 120, 116] := by first | assumption | (exact eq_of_beq (by assumption))
       rw [h]; rfl)
    | (have hn : tplNo s.toList = 12 := by simp_all [tplNo]
       rw [hn]; rfl)
end Go.Proofs.YtoclbcffbhldmaaGreatDoor
