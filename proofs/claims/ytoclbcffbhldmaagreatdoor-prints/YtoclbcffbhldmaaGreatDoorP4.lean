/- The program's scan. -/
import Derived.Test.YtoclbcffbhldmaaGreatDoorP23
import Derived.Test.YtoclbcffbhldmaaGreatDoorLxp
set_option linter.unusedSimpArgs false
namespace Go.Proofs.YtoclbcffbhldmaaGreatDoor
open Go.RowKit Go.Deep

def tkCellsP (L : List Tk) : List Value := L.flatMap fun t => [.int .i64 t.k, .string t.s, .int .i64 t.p]
theorem tkCellsP_len (L : List Tk) : (tkCellsP L).length = L.length * 3 := by
  induction L with
  | nil => rfl
  | cons t r ih => simp [tkCellsP, List.flatMap_cons] at ih ⊢; omega
theorem tkCellsP_snoc (L : List Tk) (t : Tk) : tkCellsP (L ++ [t]) = tkCellsP L ++ [.int .i64 t.k, .string t.s, .int .i64 t.p] := by
  simp [tkCellsP]
theorem Tryz.infoTokP : (Tryz.prog.info? 201).map (fun i => (i.zero, i.size, i.bytes)) = some (some (.agg #[.int .i64 0, .string ⟨#[]⟩, .int .i64 0]), 3, 32) := by kernel_rfl
theorem signK_ne (n : Nat) : signK n ≠ 0 := by unfold signK; repeat' split
                                               all_goals omega
theorem wordK_ne (l : List UInt8) : wordK l ≠ 0 := by unfold wordK; repeat' split
                                                      all_goals omega
theorem lexAt_ne (s : ByteArray) (j : Nat) (h : j < s.size) : (lexAt s j).k ≠ 0 := by
  unfold lexAt
  rw [dif_pos h]
  repeat' split
  all_goals first | exact wordK_ne _ | exact signK_ne _ | (show (3 : Nat) ≠ 0; decide) | (show (14 : Nat) ≠ 0; decide)

set_option maxHeartbeats 2000000 in
set_option maxRecDepth 100000 in
theorem scan_any (s : ByteArray) (w : World) (hs : s.size ≤ 400) (hG : GV w) :
    Calls Tryz.prog 99 #[.string s] w fun e w' => ∃ v, e = .returned v ∧ w'.ownsRow w.heap.size 201 3 v (lexP s (s.size + 1) 0).length (tkCellsP (lexP s (s.size + 1) 0)) ∧ Below w.heap.size w w' := by
  have hs0 : s.size ≤ maxLen := by unfold maxLen; omega
  obtain ⟨i0, hi, hz0, hz1, hz2⟩ := info_parts Tryz.infoTokP
  have HG := hide hG
  clear hG
  go_enter Tryz.func99, Tryz.ntmps99
  go_wp2_with fail
  refine (blanksEnd_any s 0 _ hs0 (Nat.zero_le _)).mono ?_
  rintro e w0 ⟨rfl, hw0⟩
  have hw1 := hw0.symm
  clear hw0
  subst hw1
  go_wp2_with fail
  go_loopw [3, 4] (fun v x wr => ∃ (i n : Nat) (acc : List Tk), i ≤ s.size ∧ s.size < n + i ∧ acc.length ≤ i ∧ x = .int .i64 (upTo isBl s i : Nat) ∧ Hid (lexP s (s.size + 1) 0 = acc ++ lexP s n i) ∧
      wr.ownsRow w.heap.size 201 3 v acc.length (tkCellsP acc) ∧ Below w.heap.size w wr) (fun _ x _ => s.size - (intOf x).toNat)
  case atStart => exact ⟨0, s.size + 1, [], Nat.zero_le _, by omega, Nat.le_refl _, rfl, rfl, World.ownsRow_nil _ _ _ _, Below.refl _ _⟩
  case round =>
    obtain ⟨i, n, acc, hii, hn, hacc, rfl, H, hown, hbel⟩ := hrel
    have hle := upTo_le isBl s i hii
    have hge := upTo_ge isBl s i
    have HADV := hide (lexP_adv s i hii)
    have HSTOP := hide (lexP_stop s (n - 1) i)
    have HGO := hide (lexP_go s (n - 1) i)
    have HNE := hide (lexAt_ne s (upTo isBl s i))
    have HEND := hide (lex_end s (upTo isBl s i))
    have HP := hide (lexAt_p s _ hle)
    have HPOS := hide (lexAt_pos s _ hle)
    have hn1 : n - 1 + 1 = n := by omega
    rw [hn1] at HSTOP HGO
    clear hn1
    have HTA := hide (fun W h hG => tokenAt_any s (upTo isBl s i) W hs0 h hG)
    generalize lexAt s (upTo isBl s i) = t at *
    generalize upTo isBl s i = a at *
    by_cases ha : a < s.size
    · have hk0 := unhide HNE ha
      have hadv := unhide HADV hk0
      have hp : t.p = a := unhide HP
      have hpos := unhide HPOS hk0
      have HR : Hid (lexP s (s.size + 1) 0 = (acc ++ [t]) ++ lexP s (n - 1) (t.p + t.s.size)) := by show _ = _; rw [H.out, HGO.out hk0]; simp
      have HPP := hide hp
      have hpl : t.p ≤ a := by omega
      have hpg : a ≤ t.p := by omega
      clear HSTOP HGO HNE HEND HADV HP H HPOS hp
      go_wp2_with fail
      refine (unhide HTA _ ha ((unhide HG).later hbel)).mono ?_
      rintro e w1 ⟨rfl, hb1⟩
      clear HTA
      simp only [tkP]
      go_wp2_with (at_builtin; go_must (refine wpList_append_own _ rfl _ _ 143 rfl w.heap.size 201 i0 (.agg #[.int .i64 0, .string ⟨#[]⟩, .int .i64 0]) 3 32 Tryz.underlying143 hi hz0 hz1 hz2 rfl (by decide) _ acc.length (tkCellsP acc) rfl ?c0 ⟨w1.heap.size + 1, 0, none⟩ 1 1 [.int .i64 t.k, .string t.s, .int .i64 t.p] rfl rfl ?c1 ?c2 ?c3 ?c4 ?c5 ?_))
      case c0 => exact ((owns_later hown hb1).alloc _).alloc _
      case c1 =>
        intro j u hj
        match j, hj with
        | 0, hj => simp at hj; subst hj; simp [Addr.add]
        | 1, hj => simp at hj; subst hj; simp [Addr.add]
        | 2, hj => simp at hj; subst hj; simp [Addr.add]
        | j + 3, hj => simp at hj
      case c2 => intro u hu; simp at hu; rcases hu with rfl | rfl | rfl <;> rfl
      case c3 => unfold maxLen; omega
      case c4 => omega
      case c5 => have := hbel.size; have := hb1.size; simp; omega
      intro v' w2 hown2 hgrow _
      have hol := own_lt hown
      have hsz := hb1.size
      have hc0 : w2.cell? ⟨w1.heap.size, 0, none⟩ = some (.int .i64 t.k) := (box_kept hgrow (by simp; omega) (fun k hk => by have := hol k hk; omega) 0).trans (by simp)
      have hc1 : w2.cell? ⟨w1.heap.size, 1, none⟩ = some (.string t.s) := (box_kept hgrow (by simp; omega) (fun k hk => by have := hol k hk; omega) 1).trans (by simp)
      have hc2 : w2.cell? ⟨w1.heap.size, 2, none⟩ = some (.int .i64 t.p) := (box_kept hgrow (by simp; omega) (fun k hk => by have := hol k hk; omega) 2).trans (by simp)
      have HB2 : Hid (Below w.heap.size w w2) := ((((hbel.trans (hb1.mono hbel.size)).alloc (by have := hbel.size; omega) _).alloc (by have := hbel.size; simp; omega) _).grown hgrow (by have := hbel.size; simp; omega) (fun k hk => (hol k hk).1))
      have HO2 : Hid (w2.ownsRow w.heap.size 201 3 v' (acc ++ [t]).length (tkCellsP (acc ++ [t]))) := by
        rw [tkCellsP_snoc, List.length_append]; exact hown2
      clear hown2 hgrow hown hol hb1 hbel hsz
      have htl : t.s.size ≤ s.size := by omega
      have hts : (a : Int) + (t.s.size : Int) ≤ 400 := by omega
      go_wp2_with fail
      refine (blanksEnd_any s (a + t.s.size) _ hs0 (by omega)).mono ?_
      rintro e w3 ⟨rfl, hw3⟩
      have hw4 := hw3.symm
      clear hw3
      subst hw4
      have hg2 := upTo_ge isBl s (a + t.s.size)
      have HG2 := hide hg2
      clear hg2
      go_wp2_with fail
      go_roundw
      case rel => exact ⟨t.p + t.s.size, n - 1, acc ++ [t], hadv.2, by omega, by simp; omega, by rw [unhide HPP], HR.out, HO2.out, HB2.out⟩
      case measure => simp [intOf]; have := unhide HG2; omega
    · have ha' : a = s.size := by omega
      have ht := unhide HEND (by omega)
      subst ht
      have HR : Hid (lexP s (s.size + 1) 0 = acc ++ [⟨0, ByteArray.empty, s.size⟩]) := by show _ = _; rw [H.out, HSTOP.out rfl]
      clear HSTOP HGO HNE HEND HADV HP H HTA HPOS
      have hsa : acc.length ≤ 400 := by omega
      subst ha'
      go_wp2_with (at_builtin; go_must (refine wpList_append_own _ rfl _ _ 143 rfl w.heap.size 201 i0 (.agg #[.int .i64 0, .string ⟨#[]⟩, .int .i64 0]) 3 32 Tryz.underlying143 hi hz0 hz1 hz2 rfl (by decide) _ acc.length (tkCellsP acc) rfl ?c0 ⟨wr.heap.size, 0, none⟩ 1 1 [.int .i64 0, .string ⟨#[]⟩, .int .i64 (s.size : Int)] rfl rfl ?c1 ?c2 ?c3 ?c4 ?c5 ?_))
      case c0 => exact hown.alloc _
      case c1 =>
        intro j u hj
        match j, hj with
        | 0, hj => simp at hj; subst hj; simp [Addr.add]
        | 1, hj => simp at hj; subst hj; simp [Addr.add]
        | 2, hj => simp at hj; subst hj; simp [Addr.add]
        | j + 3, hj => simp at hj
      case c2 => intro u hu; simp at hu; rcases hu with rfl | rfl | rfl <;> rfl
      case c3 => unfold maxLen; omega
      case c4 => omega
      case c5 => have := hbel.size; simp; omega
      intro v' w2 hown2 hgrow _
      have hol := own_lt hown
      have HB2 : Hid (Below w.heap.size w w2) := (hbel.alloc hbel.size _).grown hgrow (by have := hbel.size; simp; omega) (fun k hk => (hol k hk).1)
      have HO2 : Hid (w2.ownsRow w.heap.size 201 3 v' (acc ++ [(⟨0, ByteArray.empty, s.size⟩ : Tk)]).length (tkCellsP (acc ++ [⟨0, ByteArray.empty, s.size⟩]))) := by
        rw [tkCellsP_snoc, List.length_append]; exact hown2
      clear hown2 hgrow hown hol hbel
      go_wp2_with fail
      go_ret
      exact ⟨_, rfl, by rw [HR.out]; exact HO2.out, HB2.out⟩
end Go.Proofs.YtoclbcffbhldmaaGreatDoor
