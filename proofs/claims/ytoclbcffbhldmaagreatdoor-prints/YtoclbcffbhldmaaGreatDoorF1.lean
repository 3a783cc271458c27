/- The reference's faults: meets, has, named. -/
import Derived.Test.YtoclbcffbhldmaaGreatDoorR9
import Derived.Test.YtoclbcffbhldmaaGreatDoorFlt
set_option linter.unusedSimpArgs false
namespace Go.Proofs.YtoclbcffbhldmaaGreatDoor
open Go.RowKit Go.Deep

/-- A fault in memory. -/
def FB (w : World) (fb : Nat) (x : Nat × Nat) : Prop := w.heap[fb]? = some (.cells #[.int .i64 x.1, .int .i64 x.2] 167 (0, 0))

set_option maxHeartbeats 1000000 in
theorem meets_any (w : World) (fb : Nat) (x : Nat × Nat) (p e : Nat) (h : FB w fb x) :
    Calls Tryz.prog 83 #[.pointer (some ⟨fb, 0, none⟩), .int .i64 p, .int .i64 e] w fun r w' => r = .returned (.tuple #[]) ∧ FB w' fb (meet x p e) ∧ w.grownBy w' (some fb) := by
  have HF := hide h
  have fc := fun o => cell_of_blk h o
  have ff := fun o => frozen_of_blk h o
  clear h
  have yes : (x.2 = 0 ∨ p < x.1 ∨ (p = x.1 ∧ e < x.2)) → FB ((w.setCell ⟨fb, 0, none⟩ (.int .i64 p)).setCell ⟨fb, 1, none⟩ (.int .i64 e)) fb (meet x p e) ∧ w.grownBy ((w.setCell ⟨fb, 0, none⟩ (.int .i64 p)).setCell ⟨fb, 1, none⟩ (.int .i64 e)) (some fb) := by
    intro hc
    refine ⟨?_, (grown_set _ _ _ _).trans (grown_set _ _ _ _)⟩
    unfold FB
    rw [blk_set (blk_set (unhide HF) _ _) _ _, meet, if_pos hc]
    rfl
  have no : ¬ (x.2 = 0 ∨ p < x.1 ∨ (p = x.1 ∧ e < x.2)) → FB w fb (meet x p e) ∧ w.grownBy w (some fb) := by
    intro hc
    rw [meet, if_neg hc]; exact ⟨unhide HF, World.grownBy.refl _ _⟩
  have Y := hide yes
  have N := hide no
  clear yes no
  by_cases h0 : x.2 = 0
  · have e0 : ((x.2 : Int) == 0) = true := beq_iff_eq.2 (by omega)
    have H0 := hide h0
    clear h0
    go_enter Tryz.func83, Tryz.ntmps83
    go_wp2
    go_end0
    exact ⟨rfl, (unhide Y) (Or.inl (unhide H0))⟩
  · have e0 : ((x.2 : Int) == 0) = false := beq_eq_false_iff_ne.2 (by omega)
    by_cases h1 : p < x.1
    · have H1 := hide h1
      have e1 : decide (p < x.1) = true := by simp; omega
      clear h1 h0
      go_enter Tryz.func83, Tryz.ntmps83
      go_wp2
      go_end0
      exact ⟨rfl, (unhide Y) (Or.inr (Or.inl (unhide H1)))⟩
    · have e1 : decide (p < x.1) = false := by simp; omega
      by_cases h2 : p = x.1
      · have e2 : ((p : Int) == (x.1 : Int)) = true := beq_iff_eq.2 (by omega)
        by_cases h3 : e < x.2
        · have H3 := hide (And.intro h2 h3)
          have e3 : decide (e < x.2) = true := by simp; omega
          clear h0 h1 h2 h3
          go_enter Tryz.func83, Tryz.ntmps83
          go_wp2
          go_end0
          exact ⟨rfl, (unhide Y) (Or.inr (Or.inr (unhide H3)))⟩
        · have HN := hide (show ¬ (x.2 = 0 ∨ p < x.1 ∨ (p = x.1 ∧ e < x.2)) by omega)
          have e3 : decide (e < x.2) = false := by simp; omega
          clear h0 h1 h2 h3
          go_enter Tryz.func83, Tryz.ntmps83
          go_wp2
          go_end0
          exact ⟨rfl, (unhide N) (unhide HN)⟩
      · have e2 : ((p : Int) == (x.1 : Int)) = false := beq_eq_false_iff_ne.2 (by omega)
        have HN := hide (show ¬ (x.2 = 0 ∨ p < x.1 ∨ (p = x.1 ∧ e < x.2)) by omega)
        clear h0 h1 h2
        go_enter Tryz.func83, Tryz.ntmps83
        go_wp2
        go_end0
        exact ⟨rfl, (unhide N) (unhide HN)⟩

/-- The activities of a model in memory. -/
def ActsAre (w : World) (o : Option Addr) (n k : Nat) (al : List Tk) : Prop := w.ownsRow 0 122 3 (.slice o n k) al.length (tkCellsR al)
theorem ActsAre.len {w : World} {o : Option Addr} {n k : Nat} {al : List Tk} (h : ActsAre w o n k al) : n = al.length := by
  obtain ⟨_, ⟨h1, h2⟩ | ⟨g, cap, cur, hv, _⟩⟩ := h
  · cases h1; exact h2.symm
  · cases hv; rfl
theorem ActsAre.tok {w : World} {o : Option Addr} {n k : Nat} {al : List Tk} (h : ActsAre w o n k al) {i : Nat} {t : Tk} {r : List Tk} (ht : al.drop i = t :: r) :
    ∃ g, o = some ⟨g, 0, none⟩ ∧ g < w.heap.size ∧ TyAt w g 122 ∧ w.cell? ⟨g, i * 3, none⟩ = some (.int .u8 (refK t.k)) ∧ w.cell? ⟨g, i * 3 + 1, none⟩ = some (.string t.s) ∧ w.cell? ⟨g, i * 3 + 2, none⟩ = some (.int .i64 t.p) := by
  have hi : i < al.length := by
    rcases Nat.lt_or_ge i al.length with h | h
    · exact h
    · rw [List.drop_eq_nil_of_le h] at ht; cases ht
  obtain ⟨_, ⟨h1, h2⟩ | ⟨g, cap, cur, hv, _, hrow, hle, _, hcs, htake⟩⟩ := h
  · omega
  · cases hv
    have h3 := tkCells_at al i t r ht
    rw [← htake, List.getElem?_take, List.getElem?_take, List.getElem?_take, if_pos (by omega), if_pos (by omega), if_pos (by omega)] at h3
    refine ⟨g, rfl, lt_of_blk hrow, ⟨_, _, hrow⟩, ?_, ?_, ?_⟩ <;> rw [cell_of_blk hrow, ← Array.getElem?_toList]
    · exact h3.1
    · exact h3.2.1
    · exact h3.2.2
theorem KT.acts {w w' : World} (h : KT w w') {o : Option Addr} {n k : Nat} {al : List Tk} (ha : ActsAre w o n k al) : ActsAre w' o n k al := h.owns ha

theorem hasN_yes {al : List Tk} {s : ByteArray} {i : Nat} {t : Tk} {r : List Tk} (ht : al.drop i = t :: r) (e : (t.s.toList == s.toList) = true) : hasN (al.drop i) s = true := by
  rw [ht, hasN, if_pos (by simpa using e)]
theorem hasN_no {al : List Tk} {s : ByteArray} {i : Nat} {t : Tk} {r : List Tk} (ht : al.drop i = t :: r) (e : (t.s.toList == s.toList) = false) : hasN (al.drop i) s = hasN (al.drop (i + 1)) s := by
  rw [drop_tail ht, ht, hasN, if_neg (by simpa using e)]

set_option maxHeartbeats 1000000 in
theorem has_any (w : World) (o1 : Option Addr) (n1 k1 : Nat) (o2 : Option Addr) (n2 k2 : Nat) (al : List Tk) (s : ByteArray) (h : ActsAre w o1 n1 k1 al) (hlen : al.length ≤ 401) :
    Calls Tryz.prog 146 #[.agg #[.slice o1 n1 k1, .slice o2 n2 k2], .string s] w fun r w' => r = .returned (.bool (hasN al s)) ∧ Below w.heap.size w w' := by
  have HA := hide h
  have hn := h.len
  subst hn
  clear h
  have HB := hide (show Below w.heap.size w (w.alloc (.cells #[.slice o1 al.length k1, .slice o2 n2 k2] 118)) from (Below.refl _ _).alloc (Nat.le_refl _) _)
  go_enter Tryz.func146, Tryz.ntmps146
  go_wp2
  go_loop [5] (fun v => ∃ k : Nat, k ≤ al.length ∧ v = .int .i64 k ∧ Hid (hasN al s = hasN (al.drop k) s)) (fun v => al.length - (intOf v).toNat)
  case atStart => exact ⟨0, Nat.zero_le _, rfl, rfl⟩
  case round =>
    obtain ⟨k, hk, rfl, H⟩ := hrel
    by_cases hlt : k < al.length
    · obtain ⟨t, r, ht⟩ := drop_ne hlt
      obtain ⟨g, rfl, hg, _, t0, t1, t2⟩ := (unhide HA).tok ht
      have HT := hide ht
      clear ht
      cases he : (t.s.toList == s.toList) with
      | true =>
        have HE := hide he
        go_wp2
        go_ret
        exact ⟨ret_bool (by rw [H.out, hasN_yes (unhide HT) (unhide HE)]), unhide HB⟩
      | false =>
        have HE := hide he
        go_wp2
        go_round
        case rel => exact ⟨k + 1, by omega, by go_num, H.out.trans (hasN_no (unhide HT) (unhide HE))⟩
        case measure => simp [intOf]; omega
    · go_wp2
      go_ret
      exact ⟨ret_bool (by rw [H.out, List.drop_eq_nil_of_le (by omega)]; rfl), unhide HB⟩
end Go.Proofs.YtoclbcffbhldmaaGreatDoor
