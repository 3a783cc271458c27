/- The program's Text of a formula. -/
import Derived.Test.YtoclbcffbhldmaaGreatDoorB13
import Derived.Test.YtoclbcffbhldmaaGreatDoorF90
set_option linter.unusedSimpArgs false
namespace Go.Proofs.YtoclbcffbhldmaaGreatDoor
open Go.RowKit Go.Deep

set_option maxHeartbeats 4000000 in
set_option maxRecDepth 1000000 in
theorem text_any (Q : Tk → Prop) : ∀ (f : Fm) (w : World) (p : Option Addr), IsG w f p → Fg Q f → (txtF f).size ≤ 1000000 → GV w →
    Calls Tryz.prog 108 #[.pointer p] w fun e w' => e = .returned (.string (txtF f)) ∧ ∃ n, w' = w.drewN n
  | .nil, w, p, _, hf, _, _ => False.elim hf
  | .node u v a l r, w, p, h, hf, hz, hG => by
    obtain ⟨b, pl, pr, rfl, hb, hl, hr⟩ := h
    have hzl : (txtF l).size ≤ 1000000 ∧ (txtF r).size ≤ 1000000 := by
      rw [txtF] at hz
      rcases hf with ⟨hk, _, rfl, rfl⟩ | ⟨hk, rfl, rfl⟩ | ⟨hk, hfl, rfl⟩ | ⟨hk, hfl, hfr⟩
      · exact ⟨Nat.zero_le _, Nat.zero_le _⟩
      · exact ⟨Nat.zero_le _, Nat.zero_le _⟩
      · rw [if_neg (by omega), if_neg (by omega), if_neg (by omega), if_neg (by omega), if_pos (by omega)] at hz
        simp only [ByteArray.size_append] at hz
        exact ⟨by omega, Nat.zero_le _⟩
      · rw [if_neg (by omega), if_neg (by omega), if_neg (by omega), if_neg (by omega), if_neg (by omega)] at hz
        simp only [ByteArray.size_append] at hz
        omega
    obtain ⟨hzl, hzr⟩ := hzl
    clear hz
    have IHL := hide (text_any Q l)
    have IHR := hide (text_any Q r)
    have HL := hide hl
    have HR := hide hr
    have HGV := hide hG
    obtain ⟨gt, gm, hg⟩ := hG.fs
    have hgl := lt_of_blk hg
    have hbl := lt_of_blk hb
    clear hl hr hG
    obtain ⟨k, s, q⟩ := a
    rcases hf with ⟨hk, _, rfl, rfl⟩ | ⟨hk, rfl, rfl⟩ | ⟨hk, hfl, rfl⟩ | ⟨hk, hfl, hfr⟩
    · have hk' : k = 0 := hk
      subst hk'
      have hb0 : w.heap[b]? = some (.cells #[.int .i64 0, .string s, .pointer pl, .pointer pr] 259 (0, 0)) := hb
      have bc := fun o => cell_of_blk hb0 o
      clear hb hb0 hg
      go_enter Tryz.func108, Tryz.ntmps108
      go_wp2_with fail
      go_ret
      exact ⟨rfl, 0, rfl⟩
    · have hk' : k = 1 ∨ k = 2 ∨ k = 3 := by have := hk; simp at this; omega
      rcases hk' with rfl | rfl | rfl
      · have hb0 : w.heap[b]? = some (.cells #[.int .i64 1, .string s, .pointer pl, .pointer pr] 259 (0, 0)) := hb
        have bc := fun o => cell_of_blk hb0 o
        have fc : w.cell? ⟨0, 1, none⟩ = some (.string ⟨#[116, 114, 117, 101]⟩) := cell_of_blk hg 1
        clear hb hb0 hg
        go_enter Tryz.func108, Tryz.ntmps108
        go_wp2_with fail
        go_ret
        exact ⟨rfl, 0, rfl⟩
      · have hb0 : w.heap[b]? = some (.cells #[.int .i64 2, .string s, .pointer pl, .pointer pr] 259 (0, 0)) := hb
        have bc := fun o => cell_of_blk hb0 o
        have fc : w.cell? ⟨0, 2, none⟩ = some (.string ⟨#[102, 97, 108, 115, 101]⟩) := cell_of_blk hg 2
        clear hb hb0 hg
        go_enter Tryz.func108, Tryz.ntmps108
        go_wp2_with fail
        go_ret
        exact ⟨rfl, 0, rfl⟩
      · have hb0 : w.heap[b]? = some (.cells #[.int .i64 3, .string s, .pointer pl, .pointer pr] 259 (0, 0)) := hb
        have bc := fun o => cell_of_blk hb0 o
        have fc : w.cell? ⟨0, 3, none⟩ = some (.string ⟨#[101, 110, 100]⟩) := cell_of_blk hg 3
        clear hb hb0 hg
        go_enter Tryz.func108, Tryz.ntmps108
        go_wp2_with fail
        go_ret
        exact ⟨rfl, 0, rfl⟩
    · have HFL := hide hfl
      have hk' : k = 4 ∨ k = 5 ∨ k = 6 ∨ k = 7 ∨ k = 8 := by have := hk; simp at this; omega
      clear hk hfl
      rcases hk' with rfl | rfl | rfl | rfl | rfl
      · have hb0 : w.heap[b]? = some (.cells #[.int .i64 4, .string s, .pointer pl, .pointer pr] 259 (0, 0)) := hb
        have bc := fun o => cell_of_blk hb0 o
        have fc : w.cell? ⟨0, 4, none⟩ = some (.string ⟨#[33]⟩) := cell_of_blk hg 4
        clear hb hb0 hg
        go_enter Tryz.func108, Tryz.ntmps108
        go_wp2_with fail
        go_quiet (first | (go_at_call_of 108 (Value.pointer pl); refine Calls.quiet_of ((unhide IHL) _ _ ?_ (unhide HFL) hzl ?_); exact IsG.drewN (unhide HL) _; exact (unhide HGV).later (bdn _ _)))
        go_wp2_with fail
        go_ret
        exact ⟨rfl, nq, rfl⟩
      · have hb0 : w.heap[b]? = some (.cells #[.int .i64 5, .string s, .pointer pl, .pointer pr] 259 (0, 0)) := hb
        have bc := fun o => cell_of_blk hb0 o
        have fc : w.cell? ⟨0, 5, none⟩ = some (.string ⟨#[88]⟩) := cell_of_blk hg 5
        clear hb hb0 hg
        go_enter Tryz.func108, Tryz.ntmps108
        go_wp2_with fail
        go_quiet (first | (go_at_call_of 108 (Value.pointer pl); refine Calls.quiet_of ((unhide IHL) _ _ ?_ (unhide HFL) hzl ?_); exact IsG.drewN (unhide HL) _; exact (unhide HGV).later (bdn _ _)))
        go_wp2_with fail
        go_ret
        exact ⟨rfl, nq, rfl⟩
      · have hb0 : w.heap[b]? = some (.cells #[.int .i64 6, .string s, .pointer pl, .pointer pr] 259 (0, 0)) := hb
        have bc := fun o => cell_of_blk hb0 o
        have fc : w.cell? ⟨0, 6, none⟩ = some (.string ⟨#[78]⟩) := cell_of_blk hg 6
        clear hb hb0 hg
        go_enter Tryz.func108, Tryz.ntmps108
        go_wp2_with fail
        go_quiet (first | (go_at_call_of 108 (Value.pointer pl); refine Calls.quiet_of ((unhide IHL) _ _ ?_ (unhide HFL) hzl ?_); exact IsG.drewN (unhide HL) _; exact (unhide HGV).later (bdn _ _)))
        go_wp2_with fail
        go_ret
        exact ⟨rfl, nq, rfl⟩
      · have hb0 : w.heap[b]? = some (.cells #[.int .i64 7, .string s, .pointer pl, .pointer pr] 259 (0, 0)) := hb
        have bc := fun o => cell_of_blk hb0 o
        have fc : w.cell? ⟨0, 7, none⟩ = some (.string ⟨#[70]⟩) := cell_of_blk hg 7
        clear hb hb0 hg
        go_enter Tryz.func108, Tryz.ntmps108
        go_wp2_with fail
        go_quiet (first | (go_at_call_of 108 (Value.pointer pl); refine Calls.quiet_of ((unhide IHL) _ _ ?_ (unhide HFL) hzl ?_); exact IsG.drewN (unhide HL) _; exact (unhide HGV).later (bdn _ _)))
        go_wp2_with fail
        go_ret
        exact ⟨rfl, nq, rfl⟩
      · have hb0 : w.heap[b]? = some (.cells #[.int .i64 8, .string s, .pointer pl, .pointer pr] 259 (0, 0)) := hb
        have bc := fun o => cell_of_blk hb0 o
        have fc : w.cell? ⟨0, 8, none⟩ = some (.string ⟨#[71]⟩) := cell_of_blk hg 8
        clear hb hb0 hg
        go_enter Tryz.func108, Tryz.ntmps108
        go_wp2_with fail
        go_quiet (first | (go_at_call_of 108 (Value.pointer pl); refine Calls.quiet_of ((unhide IHL) _ _ ?_ (unhide HFL) hzl ?_); exact IsG.drewN (unhide HL) _; exact (unhide HGV).later (bdn _ _)))
        go_wp2_with fail
        go_ret
        exact ⟨rfl, nq, rfl⟩
    · have HFL := hide hfl
      have HFR := hide hfr
      have hk' : k = 9 ∨ k = 10 ∨ k = 11 ∨ k = 12 := by have := hk; simp at this; omega
      clear hk hfl hfr
      rcases hk' with rfl | rfl | rfl | rfl
      · have hb0 : w.heap[b]? = some (.cells #[.int .i64 9, .string s, .pointer pl, .pointer pr] 259 (0, 0)) := hb
        have bc := fun o => cell_of_blk hb0 o
        have fc : w.cell? ⟨0, 9, none⟩ = some (.string ⟨#[85]⟩) := cell_of_blk hg 9
        clear hb hb0 hg
        go_enter Tryz.func108, Tryz.ntmps108
        go_wp2_with fail
        go_quiet (first | (go_at_call_of 108 (Value.pointer pl); refine Calls.quiet_of ((unhide IHL) _ _ ?_ (unhide HFL) hzl ?_); exact IsG.drewN (unhide HL) _; exact (unhide HGV).later (bdn _ _)) | (go_at_call_of 108 (Value.pointer pr); refine Calls.quiet_of ((unhide IHR) _ _ ?_ (unhide HFR) hzr ?_); exact IsG.drewN (unhide HR) _; exact (unhide HGV).later (bdn _ _)))
        go_wp2_with fail
        go_ret
        exact ⟨rfl, nq, rfl⟩
      · have hb0 : w.heap[b]? = some (.cells #[.int .i64 10, .string s, .pointer pl, .pointer pr] 259 (0, 0)) := hb
        have bc := fun o => cell_of_blk hb0 o
        have fc : w.cell? ⟨0, 10, none⟩ = some (.string ⟨#[38]⟩) := cell_of_blk hg 10
        clear hb hb0 hg
        go_enter Tryz.func108, Tryz.ntmps108
        go_wp2_with fail
        go_quiet (first | (go_at_call_of 108 (Value.pointer pl); refine Calls.quiet_of ((unhide IHL) _ _ ?_ (unhide HFL) hzl ?_); exact IsG.drewN (unhide HL) _; exact (unhide HGV).later (bdn _ _)) | (go_at_call_of 108 (Value.pointer pr); refine Calls.quiet_of ((unhide IHR) _ _ ?_ (unhide HFR) hzr ?_); exact IsG.drewN (unhide HR) _; exact (unhide HGV).later (bdn _ _)))
        go_wp2_with fail
        go_ret
        exact ⟨rfl, nq, rfl⟩
      · have hb0 : w.heap[b]? = some (.cells #[.int .i64 11, .string s, .pointer pl, .pointer pr] 259 (0, 0)) := hb
        have bc := fun o => cell_of_blk hb0 o
        have fc : w.cell? ⟨0, 11, none⟩ = some (.string ⟨#[124]⟩) := cell_of_blk hg 11
        clear hb hb0 hg
        go_enter Tryz.func108, Tryz.ntmps108
        go_wp2_with fail
        go_quiet (first | (go_at_call_of 108 (Value.pointer pl); refine Calls.quiet_of ((unhide IHL) _ _ ?_ (unhide HFL) hzl ?_); exact IsG.drewN (unhide HL) _; exact (unhide HGV).later (bdn _ _)) | (go_at_call_of 108 (Value.pointer pr); refine Calls.quiet_of ((unhide IHR) _ _ ?_ (unhide HFR) hzr ?_); exact IsG.drewN (unhide HR) _; exact (unhide HGV).later (bdn _ _)))
        go_wp2_with fail
        go_ret
        exact ⟨rfl, nq, rfl⟩
      · have hb0 : w.heap[b]? = some (.cells #[.int .i64 12, .string s, .pointer pl, .pointer pr] 259 (0, 0)) := hb
        have bc := fun o => cell_of_blk hb0 o
        have fc : w.cell? ⟨0, 12, none⟩ = some (.string ⟨#[45, 62]⟩) := cell_of_blk hg 12
        clear hb hb0 hg
        go_enter Tryz.func108, Tryz.ntmps108
        go_wp2_with fail
        go_quiet (first | (go_at_call_of 108 (Value.pointer pl); refine Calls.quiet_of ((unhide IHL) _ _ ?_ (unhide HFL) hzl ?_); exact IsG.drewN (unhide HL) _; exact (unhide HGV).later (bdn _ _)) | (go_at_call_of 108 (Value.pointer pr); refine Calls.quiet_of ((unhide IHR) _ _ ?_ (unhide HFR) hzr ?_); exact IsG.drewN (unhide HR) _; exact (unhide HGV).later (bdn _ _)))
        go_wp2_with fail
        go_ret
        exact ⟨rfl, nq, rfl⟩
end Go.Proofs.YtoclbcffbhldmaaGreatDoor
