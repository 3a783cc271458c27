/- A list that is lent: made, and looked at. -/
import Derived.Test.YtidakhhekofkoaaGreatDoorG33
import Derived.Test.YtidakhhekofkoaaGreatDoorG34
import Derived.Lib.BufferMore
set_option linter.unusedSimpArgs false
set_option linter.unusedVariables false
namespace Go.Proofs.YtidakhhekofkoaaGreatDoor
open Go.RowKit Go.Deep
theorem infoStr : (Tryz.prog.info? 9).map (fun i => (i.zero, i.size, i.bytes)) = some (some (.string ⟨#[]⟩), 1, 16) := by kernel_rfl
theorem infoStr1 : (Tryz.prog.info? 9).map (·.size) = some 1 := by kernel_rfl
def beyond : Value := .string ⟨#[98, 101, 121, 111, 110, 100]⟩
structure LentB (w : World) (g : Nat) (tr : List ByteArray) : Prop where
 blk : ∃ cur, w.heap[g]? = some (.cells cur 9 (0, 0)) ∧ cur.size = tr.length + 8 ∧ (∀ (j : Nat) (x : ByteArray), tr[j]? = some x → cur[j]? = some (.string x)) ∧ ∀ (j : Nat), tr.length ≤ j → j < tr.length + 8 → cur[j]? = some beyond
theorem LentB.later {w w' : World} {g : Nat} {tr : List ByteArray} (h : LentB w g tr) (hb : Below w.heap.size w w') : LentB w' g tr := by
 obtain ⟨cur, h1, h2⟩ := h.blk
 exact ⟨⟨cur, (hb.block _ (lt_of_blk h1)).trans h1, h2⟩⟩
theorem LentB.lt {w : World} {g : Nat} {tr : List ByteArray} (h : LentB w g tr) : g < w.heap.size := by
 obtain ⟨cur, h1, _⟩ := h.blk
 exact lt_of_blk h1
theorem LentB.txs {w : World} {g : Nat} {tr : List ByteArray} (h : LentB w g tr) : TxS w (some ⟨g, 0, none⟩) tr := by
 intro j x hx
 obtain ⟨cur, h1, _, h3, _⟩ := h.blk
 exact ⟨g, 0, rfl, lt_of_blk h1, by rw [Nat.zero_add, cell_of_blk h1]; exact h3 j x hx⟩
def strV (tr : List ByteArray) : List Value := tr.map fun x => .string x
theorem strV_len (tr : List ByteArray) : (strV tr).length = tr.length := by simp [strV]
theorem strV_at {tr : List ByteArray} {j : Nat} {x : ByteArray} (h : tr[j]? = some x) : (strV tr)[j]? = some (.string x) := by rw [strV, List.getElem?_map, h]; rfl
theorem strV_at' {tr : List ByteArray} {j : Nat} {v : Value} (h : (strV tr)[j]? = some v) : ∃ x, tr[j]? = some x ∧ v = .string x := by
 rw [strV, List.getElem?_map] at h
 cases hx : tr[j]? with
 | none => rw [hx] at h; cases h
 | some x => rw [hx] at h; cases h; exact ⟨x, rfl, rfl⟩
theorem eqNil (w : World) (ad : Addr) (n c : Nat) : (binOp .eql 25 (.slice (some ad) n c) (.slice none 0 0)).run Tryz.prog w = .ok (.bool false) w := Lib.run_eql_slice_some_nil w _ _ _ Tryz.underlying25
theorem eqNil0 (w : World) : (binOp .eql 25 (.slice none 0 0) (.slice none 0 0)).run Tryz.prog w = .ok (.bool true) w := Lib.run_eql_slice_nil_nil w _ _ Tryz.underlying25
set_option maxHeartbeats 2000000 in
set_option maxRecDepth 100000 in
theorem lentTexts_any (w : World) (tr : List ByteArray) (ad : Addr) (c : Nat) (hT : TxS w (some ad) tr) (hn : tr.length ≤ 8796093021952) :
  Calls Tryz.prog 94 #[.slice (some ad) tr.length c] w fun e w' => ∃ g, e = .returned (.slice (some ⟨g, 0, none⟩) tr.length (tr.length + 8)) ∧ w.heap.size ≤ g ∧ LentB w' g tr ∧ Below w.heap.size w w' := by
 have HT := hide hT
 clear hT
 obtain ⟨i0, hi0, hz0, hz1, hz2⟩ := info_parts infoStr
 have he := fun W : World => eqNil W ad tr.length c
 go_enter Tryz.func94, Tryz.ntmps94
 go_wp2_with (at_make; go_must (refine wpList_make_full _ rfl _ _ 25 rfl w.heap.size 9 i0 (.string ⟨#[]⟩) 1 Tryz.underlying25 hi0 hz0 hz1 .i64 .i64 _ _ (tr.length + 8) rfl rfl (by first | rfl | omega) (by first | rfl | omega) (by rw [hz2]; omega) (by unfold maxLen; omega) (Nat.le_refl _) ?_))
 intro w1 hown1 hgrow1
 have hblk : ∃ cur, w1.heap[w.heap.size]? = some (.cells cur 9 (0, 0)) ∧ cur.size = tr.length + 8 := by
  obtain ⟨_, ⟨h1, _⟩ | ⟨g', cap', cur', hv', _, hh', _, _, hcs, _⟩⟩ := hown1
  ·cases h1
  ·cases hv'
   exact ⟨cur', hh', by rw [hcs, Nat.mul_one]⟩
 obtain ⟨cur1, hc1, hcs1⟩ := hblk
 have HB1 : Hid (Below w.heap.size w w1) := ⟨hgrow1.os, hgrow1.tape, hgrow1.output, hgrow1.size, fun b hb => hgrow1.block b hb (fun e => by cases e)⟩
 have HC1 := hide hc1
 have HCS1 := hide hcs1
 clear hown1 hgrow1 hc1 hcs1
 have hcopy : ∃ w2, (Builtin.copy_ #[25, 25] 3 #[.slice (some ⟨w.heap.size, 0, none⟩) (tr.length + 8) (tr.length + 8), .slice (some ad) tr.length c]).run Tryz.prog w1 = .ok (.int .i64 (tr.length : Int)) w2 ∧ Below w.heap.size w w2 ∧ ∃ cur, w2.heap[w.heap.size]? = some (.cells cur 9 (0, 0)) ∧ cur.size = tr.length + 8 ∧ ∀ (j : Nat) (x : ByteArray), tr[j]? = some x → cur[j]? = some (.string x) := by
  have hsz := unhide HCS1
  have hr := run_copy_row (P := Tryz.prog) w1 25 25 3 9 w.heap.size 0 (tr.length + 8) (tr.length + 8) ad tr.length c cur1 9 (strV tr) Tryz.underlying25 infoStr1 (unhide HC1) (by rw [strV_len]; exact (Nat.min_eq_left (by omega)).symm)
   (fun j v hv => by
    obtain ⟨x, hx, rfl⟩ := strV_at' hv
    obtain ⟨b, off, h1, h2, h3⟩ := (unhide HT).later (unhide HB1) j x hx
    cases h1
    rw [Addr.add_lit]; exact h3) (by rw [strV_len]; omega) (fun v hv => by
    obtain ⟨x, _, rfl⟩ := List.mem_map.1 hv
    rfl)
  refine ⟨_, hr.trans (by rw [strV_len]; rfl), below_setRow (unhide HB1) (Nat.le_refl _) _, _, setRow_heap w1 w.heap.size _ _ _ _ (unhide HC1), ?_, fun j x hx => ?_⟩
  ·simp [strV_len]; omega
  ·have hj : j < tr.length := by
    rcases Nat.lt_or_ge j tr.length with h | h
    ·exact h
    ·rw [List.getElem?_eq_none h] at hx; cases hx
   simp only [List.take_zero, List.nil_append, List.getElem?_toArray]
   rw [List.getElem?_append_left (by rw [strV_len]; exact hj)]
   exact strV_at hx
 obtain ⟨w2, hrun, hb2, cur2, hc2, hcs2, hv2⟩ := hcopy
 have HB2 := hide hb2
 have HC2 := hide hc2
 have HV2 := hide hv2
 clear HC1 HCS1 hb2 hc2 hv2
 go_wp2_with fail
 go_loopw [5] (fun x wr => ∃ (i : Nat) (cur : Array Value), tr.length ≤ i ∧ i ≤ tr.length + 8 ∧ x = .int .i64 i ∧ Hid (wr.heap[w.heap.size]? = some (.cells cur 9 (0, 0))) ∧ cur.size = tr.length + 8 ∧ Hid (∀ (j : Nat) (x : ByteArray), tr[j]? = some x → cur[j]? = some (.string x)) ∧ Hid (∀ (j : Nat), tr.length ≤ j → j < i → cur[j]? = some beyond) ∧ Hid (Below w.heap.size w wr)) (fun x _ => tr.length + 8 - (intOf x).toNat)
 case atStart => exact ⟨tr.length, cur2, Nat.le_refl _, by omega, rfl, HC2, hcs2, HV2, hide (fun j h1 h2 => by omega), HB2⟩
 case round =>
  obtain ⟨i, cur, hi1, hi2, rfl, HC, hcs, HV, HY, HB⟩ := hrel
  have hlt := lt_of_blk (unhide HC)
  by_cases hil : i < tr.length + 8
  ·have hin : (i : Int) < (tr.length : Int) + 8 := by omega
   have cc : wr.cell? ⟨w.heap.size, i, none⟩ = some cur[i] := (cell_of_blk (unhide HC) i).trans (Array.getElem?_eq_getElem (by omega))
   have cf := frozen_of_blk (unhide HC) i
   generalize cur[i] = old at *
   go_wp2_with fail
   go_roundw
   case rel =>
    refine ⟨i + 1, cur.setIfInBounds i beyond, by omega, by omega, by go_num, blk_set (unhide HC) i _, by rw [Array.size_setIfInBounds]; exact hcs, hide (fun j x hx => ?_), hide (fun j h1 h2 => ?_), (unhide HB).grown (grown_set _ _ _ _) (unhide HB).size (fun b hb => by cases hb; exact Nat.le_refl _)⟩
    ·have hj : j < tr.length := by
      rcases Nat.lt_or_ge j tr.length with h | h
      ·exact h
      ·rw [List.getElem?_eq_none h] at hx; cases hx
     rw [Array.getElem?_setIfInBounds_ne (by omega)]; exact unhide HV j x hx
    ·by_cases e : j = i
     ·subst e; rw [Array.getElem?_setIfInBounds_self_of_lt (by omega)]
     ·rw [Array.getElem?_setIfInBounds_ne (by omega)]; exact unhide HY j h1 (by omega)
   case measure => simp [intOf]; omega
  ·have hin : ¬ (i : Int) < (tr.length : Int) + 8 := by omega
   go_wp2_with fail
   go_ret
   exact ⟨w.heap.size, rfl, Nat.le_refl _, ⟨cur, unhide HC, hcs, unhide HV, fun j h1 h2 => unhide HY j h1 (by omega)⟩, unhide HB⟩
end Go.Proofs.YtidakhhekofkoaaGreatDoor
