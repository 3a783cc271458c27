/- The contract of the reference's Tokens. -/
import Derived.Test.YtoclbcffbhldmaaGreatDoorT1
namespace Go.Proofs.YtoclbcffbhldmaaGreatDoor
open Go.RowKit

def tkCellsR (L : List Tk) : List Value := L.flatMap fun t => [.int .u8 (refK t.k), .string t.s, .int .i64 t.p]
theorem tkCellsR_len (L : List Tk) : (tkCellsR L).length = L.length * 3 := by
  induction L with
  | nil => rfl
  | cons t r ih => simp [tkCellsR, List.flatMap_cons] at ih ⊢; omega
theorem tkCellsR_snoc (L : List Tk) (t : Tk) : tkCellsR (L ++ [t]) = tkCellsR L ++ [.int .u8 (refK t.k), .string t.s, .int .i64 t.p] := by
  simp [tkCellsR]

theorem Tryz.infoTok : (Tryz.prog.info? 122).map (fun i => (i.zero, i.size, i.bytes)) = some (some (.agg #[.int .u8 0, .string ⟨#[]⟩, .int .i64 0]), 3, 32) := by kernel_rfl

theorem refK_end (k : Nat) : (refK k == 101) = decide (k = 0) := by
  unfold refK; repeat' split
  all_goals simp_all
theorem refK_stray (k : Nat) : (refK k == 63) = decide (k = 1) := by
  unfold refK; repeat' split
  all_goals simp_all

set_option maxHeartbeats 1000000 in
theorem Tokens_any (s : ByteArray) (w : World) (hs : s.size ≤ 400) :
    Calls Tryz.prog 109 #[.string s] w fun e w' => ∃ v, e = .returned v ∧ w'.ownsRow w.heap.size 122 3 v (lexR s (s.size + 1) 0).length (tkCellsR (lexR s (s.size + 1) 0)) ∧ Below w.heap.size w w' := by
  have hs0 : s.size ≤ maxLen := by unfold maxLen; omega
  obtain ⟨i0, hi, hz0, hz1, hz2⟩ := info_parts Tryz.infoTok
  go_enter Tryz.func109, Tryz.ntmps109
  go_wp2_with fail
  go_loopw [3, 4] (fun v x wr => ∃ (k n : Nat) (acc : List Tk), k ≤ s.size ∧ s.size < n + k ∧ acc.length ≤ k ∧ x = .int .i64 k ∧ Hid (lexR s (s.size + 1) 0 = acc ++ lexR s n k) ∧
      wr.ownsRow w.heap.size 122 3 v acc.length (tkCellsR acc) ∧ Below w.heap.size w wr) (fun _ x _ => s.size - (intOf x).toNat)
  case atStart => exact ⟨0, s.size + 1, [], Nat.zero_le _, by omega, Nat.le_refl _, rfl, rfl, World.ownsRow_nil _ _ _ _, Below.refl _ _⟩
  case round =>
    obtain ⟨k, n, acc, hk, hn, hacc, rfl, H, hown, hbel⟩ := hrel
    go_wp2_with (go_at_call 141; refine (token_any s k _ hs0 hk).mono ?_)
    rintro e w1 ⟨rfl, hb1⟩
    have hadv := lex_adv s k hk
    have hstop := lexR_stop s (n - 1) k
    have hgo := lexR_go s (n - 1) k
    generalize lexAt s (upTo isBl s k) = t at *
    have HA := hide hadv
    have HS := hide hstop
    have HG := hide hgo
    clear hadv hstop hgo
    simp only [tkR]
    go_wp2_with (at_builtin; go_must (refine wpList_append_own _ rfl _ _ 115 rfl w.heap.size 122 i0 (.agg #[.int .u8 0, .string ⟨#[]⟩, .int .i64 0]) 3 32 Tryz.underlying115 hi hz0 hz1 hz2 rfl (by decide) _ acc.length (tkCellsR acc) rfl ?c0 ⟨w1.heap.size + 1, 0, none⟩ 1 1 [.int .u8 (refK t.k), .string t.s, .int .i64 t.p] rfl rfl ?c1 ?c2 ?c3 ?c4 ?c5 ?_))
    case c0 => exact ((owns_later hown hb1).alloc _).alloc _
    case c1 =>
      intro j u hj
      match j, hj with
      | 0, hj => simp at hj; subst hj; simp [Addr.add]
      | 1, hj => simp at hj; subst hj; simp [Addr.add]
      | 2, hj => simp at hj; subst hj; simp [Addr.add]
      | j + 3, hj => simp at hj
    case c2 => intro u hu; simp at hu; rcases hu with rfl | rfl | rfl <;> rfl
    case c3 => unfold maxLen; omega
    case c4 => omega
    case c5 => have := hbel.size; have := hb1.size; simp; omega
    intro v' w2 hown2 hgrow _
    have hol := own_lt hown
    have hsz := hb1.size
    have hc0 : w2.cell? ⟨w1.heap.size, 0, none⟩ = some (.int .u8 (refK t.k)) := (box_kept hgrow (by simp; omega) (fun k hk => by have := hol k hk; omega) 0).trans (by simp)
    have hc1 : w2.cell? ⟨w1.heap.size, 1, none⟩ = some (.string t.s) := (box_kept hgrow (by simp; omega) (fun k hk => by have := hol k hk; omega) 1).trans (by simp)
    have hc2 : w2.cell? ⟨w1.heap.size, 2, none⟩ = some (.int .i64 t.p) := (box_kept hgrow (by simp; omega) (fun k hk => by have := hol k hk; omega) 2).trans (by simp)
    have HB2 : Hid (Below w.heap.size w w2) := ((((hbel.trans (hb1.mono hbel.size)).alloc (by have := hbel.size; omega) _).alloc (by have := hbel.size; simp; omega) _).grown hgrow (by have := hbel.size; simp; omega) (fun k hk => (hol k hk).1))
    have HO2 : Hid (w2.ownsRow w.heap.size 122 3 v' (acc ++ [t]).length (tkCellsR (acc ++ [t]))) := by
      rw [tkCellsR_snoc, List.length_append]; exact hown2
    have hn1 : n - 1 + 1 = n := by omega
    rw [hn1] at HS HG
    clear hown2 hgrow hown hol hn1 hb1 hbel hsz
    by_cases h0 : t.k ≤ 1
    · have HR : Hid (lexR s (s.size + 1) 0 = acc ++ [t]) := by rw [H.out, HS.out h0]; rfl
      by_cases h00 : t.k = 0
      · have e1 : (refK t.k == 101) = true := by rw [refK_end]; simp [h00]
        have HZ := hide h00
        clear h00 h0
        go_wp2
        go_ret
        exact ⟨_, rfl, by rw [HR.out]; exact HO2.out, HB2.out⟩
      · have e1 : (refK t.k == 101) = false := by rw [refK_end]; simp [h00]
        have e2 : (refK t.k == 63) = true := by rw [refK_stray]; simp; omega
        clear h00 h0
        go_wp2
        go_ret
        exact ⟨_, rfl, by rw [HR.out]; exact HO2.out, HB2.out⟩
    · have HR : Hid (lexR s (s.size + 1) 0 = (acc ++ [t]) ++ lexR s (n - 1) (t.p + t.s.size)) := by show _ = _; rw [H.out, HG.out h0]; simp
      have hadv := HA.out h0
      have e1 : (refK t.k == 101) = false := by rw [refK_end]; simp; omega
      have e2 : (refK t.k == 63) = false := by rw [refK_stray]; simp; omega
      clear h0
      go_wp2
      go_roundw
      case rel => exact ⟨t.p + t.s.size, n - 1, acc ++ [t], hadv.2, by omega, by simp; omega, by go_num, HR.out, HO2.out, HB2.out⟩
      case measure => simp [intOf]; omega
end Go.Proofs.YtoclbcffbhldmaaGreatDoor
