/- The program's texts and Nodes. -/
import Derived.Test.YtidakhhekofkoaaGreatDoorK29
import Derived.Test.YtidakhhekofkoaaGreatDoorK02
set_option linter.unusedSimpArgs false
namespace Go.Proofs.YtidakhhekofkoaaGreatDoor
open Go.RowKit Go.Deep
set_option maxHeartbeats 400000 in
theorem sclone_any (s : ByteArray) (hs : s.size ≤ 400) (w : World) : Calls Tryz.prog 49 #[.string s] w fun e w' => e = .returned (.string s) ∧ Below w.heap.size w w' := by
  go_enter Tryz.func49, Tryz.ntmps49
  go_wp2_with (go_at_call 90; refine (Tryz.stringslite_Clone s _ (by omega)).mono ?_; rintro e w1 ⟨rfl, hb1⟩)
  go_wp2_with fail
  go_ret
  exact ⟨rfl, hb1⟩
set_option maxHeartbeats 2000000 in
set_option maxRecDepth 100000 in
theorem texts_any (w : World) (L : List Tk) (no : Option Addr) (nn nc : Nat) (h : w.ownsRow 0 201 3 (.slice no nn nc) L.length (tkCellsP L)) (hl : L.length ≤ 401) (hz : ∀ t ∈ L, t.s.size ≤ 400) :
    Calls Tryz.prog 117 #[.slice no nn nc] w fun e w' => ∃ v, e = .returned v ∧ w'.ownsRow w.heap.size 9 1 v L.length (strC L) ∧ Below w.heap.size w w' := by
  obtain ⟨i0, hi, hz0, hz1', hz2⟩ := info_parts Tryz.infoStr
  obtain ⟨hnn, hrow⟩ := row_tkP h
  have hnn1 : nn ≤ L.length := by omega
  have hnn2 : L.length ≤ nn := by omega
  have HROW := hide hrow
  have HZ := hide hz
  clear h hnn hrow hz
  go_enter Tryz.func117, Tryz.ntmps117
  go_wp2_with fail
  go_loopw [3, 8] (fun v i wr => ∃ k : Nat, i = .int .i64 (k : Int) ∧ k ≤ L.length ∧ wr.ownsRow w.heap.size 9 1 v k (strC (L.take k)) ∧ Below w.heap.size w wr) (fun _ i _ => L.length - (intOf i).toNat)
  case atStart => exact ⟨0, rfl, Nat.zero_le _, World.ownsRow_nil _ _ _ _, Below.refl _ _⟩
  case round =>
    obtain ⟨k, rfl, hkk, hown, hbel⟩ := hrel
    by_cases hlt : k < L.length
    · obtain ⟨t, rr, ht⟩ : ∃ t rr, L.drop k = t :: rr := by
        cases hd : L.drop k with
        | nil => have := congrArg List.length hd; simp at this; omega
        | cons t rr => exact ⟨t, rr, rfl⟩
      obtain ⟨g, hno, hle, hcap, cur, hc1, hc2⟩ := unhide HROW (by intro e; rw [e] at hlt; simp at hlt)
      unfold maxLen at hcap
      have hrw2 : ∃ cur, wr.heap[g]? = some (.cells cur 201 (0, 0)) ∧ cur.toList.take (L.length * 3) = tkCellsP L := ⟨cur, (hbel.block _ (lt_of_blk hc1)).trans hc1, hc2⟩
      obtain ⟨c0, c1, c2⟩ := row_tok hrw2 ht
      have hgl : g < wr.heap.size := by obtain ⟨cur, h1, _⟩ := hrw2; exact lt_of_blk h1
      subst hno
      have HTS := hide (take_snoc ht)
      have hts := unhide HZ t (List.mem_of_mem_drop (i := k) (ht ▸ List.mem_cons_self ..))
      have hkn : (k : Int) < (nn : Int) := by omega
      clear ht hc1 hc2 hrw2 cur
      go_wp2_with fail
      refine (sclone_any _ hts _).mono ?_
      rintro e w1 ⟨rfl, hb1⟩
      have HO1 := hide (owns_later (hown.alloc (.cells #[.int .i64 t.k, .string t.s, .int .i64 t.p] 201)) hb1)
      have HL1 := hide (own_lt hown)
      have HB1 : Hid (Below w.heap.size w w1) := (hbel.alloc hbel.size _).trans (hb1.mono (by have := hbel.size; simp; omega))
      clear hown hbel hb1
      have hz1 := (unhide HB1).size
      go_wp2_with (at_builtin; go_must (refine wpList_append_own _ rfl _ _ 25 rfl w.heap.size 9 i0 (.string ⟨#[]⟩) 1 16 Tryz.underlying25 hi hz0 hz1' hz2 rfl (by decide) _ k (strC (L.take k)) rfl ?c0 ⟨w1.heap.size, 0, none⟩ 1 1 [.string t.s] rfl rfl ?c1 ?c2 ?c3 ?c4 ?c5 ?_))
      case c0 => exact (unhide HO1).alloc _
      case c1 =>
        intro j u hj
        match j, hj with
        | 0, hj => simp at hj; subst hj; simp [Addr.add]
        | j + 1, hj => simp at hj
      case c2 => intro u hu; simp at hu; subst hu; rfl
      case c3 => unfold maxLen; omega
      case c4 => omega
      case c5 => simp; omega
      intro v' w2 hown2 hgrow _
      have HB2 : Hid (Below w.heap.size w w2) := ((unhide HB1).alloc hz1 _).grown hgrow (by simp; omega) (fun k hk => (unhide HL1 k hk).1)
      have HO2 : Hid (w2.ownsRow w.heap.size 9 1 v' (k + 1) (strC (L.take (k + 1)))) := by
        rw [unhide HTS, strC_snoc]; exact hown2
      clear hown2 hgrow
      go_wp2_with fail
      go_roundw
      case rel => exact ⟨k + 1, by go_num, by omega, unhide HO2, unhide HB2⟩
      case measure => simp [intOf]; omega
    · have hke : k = L.length := by omega
      have hkn : ¬ (k : Int) < (nn : Int) := by omega
      have HO : Hid (wr.ownsRow w.heap.size 9 1 u3 L.length (strC L)) := by rw [← hke]; rw [hke, List.take_length] at hown; rw [hke]; exact hown
      have HB := hide hbel
      clear hown hbel hke
      go_wp2_with fail
      go_ret
      exact ⟨_, rfl, unhide HO, unhide HB⟩
theorem IsG.drewN {w : World} {f : Fm} {p : Option Addr} (h : IsG w f p) (n : Nat) : IsG (w.drewN n) f p := h.later (bdn _ _)
set_option maxHeartbeats 1600000 in
set_option maxRecDepth 1000000 in
theorem nodes_any : ∀ (f : Fm) (w : World) (p : Option Addr), IsG w f p → sizeF f ≤ 100000 →
    Calls Tryz.prog 119 #[.pointer p] w fun e w' => e = .returned (.int .i64 (sizeF f)) ∧ ∃ n, w' = w.drewN n
  | .nil, w, p, h, _ => by
    cases (show p = none from h)
    go_enter Tryz.func119, Tryz.ntmps119
    go_wp2_with fail
    go_ret
    exact ⟨rfl, 0, rfl⟩
  | .node u v a l r, w, p, h, hs => by
    obtain ⟨b, pl, pr, rfl, hb, hl, hr⟩ := h
    have IHL := hide (nodes_any l)
    have IHR := hide (nodes_any r)
    have HL := hide hl
    have HR := hide hr
    have hsl : sizeF l ≤ 100000 := by simp only [sizeF] at hs; omega
    have hsr : sizeF r ≤ 100000 := by simp only [sizeF] at hs; omega
    have hss : 1 + sizeF l + sizeF r ≤ 100000 := hs
    have bc := fun o => cell_of_blk hb o
    clear hb hl hr hs
    go_enter Tryz.func119, Tryz.ntmps119
    go_wp2_with fail
    go_quiet (first | (go_at_call_of 119 (Value.pointer pl); refine Calls.quiet_of ((unhide IHL) _ _ ?_ hsl); exact IsG.drewN (unhide HL) _) | (go_at_call_of 119 (Value.pointer pr); refine Calls.quiet_of ((unhide IHR) _ _ ?_ hsr); exact IsG.drewN (unhide HR) _))
    go_wp2_with fail
    go_ret
    exact ⟨ret_int (by simp only [sizeF]; omega), nq, rfl⟩
end Go.Proofs.YtidakhhekofkoaaGreatDoor
