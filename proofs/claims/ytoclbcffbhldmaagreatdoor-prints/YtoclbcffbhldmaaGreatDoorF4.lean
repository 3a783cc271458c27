/- The reference's stands: the formula that a template stands for. -/
import Derived.Test.YtoclbcffbhldmaaGreatDoorF3
set_option linter.unusedSimpArgs false
namespace Go.Proofs.YtoclbcffbhldmaaGreatDoor
open Go.RowKit Go.Deep

/-- The number of a digit's text. -/
def digitN (s : ByteArray) : Nat := match s.data.toList with | c :: _ => c.toNat - 48 | [] => 0

set_option maxHeartbeats 2000000 in
theorem stands_0 (w : World) (a b : Int) (s : ByteArray) (c : Int) (o : Option Addr) (n k : Nat) (d : Int) (p : Option Addr) (x : Tk) (ha : ActsAre w o n k [x]) (hw : s.toList = [105, 110, 105, 116]) :
    Calls Tryz.prog 114 #[rlV a b s c o n k d p] w fun e w' => ∃ v, e = .returned (.pointer v) ∧ IsF w' (tplF 0 x.s ByteArray.empty 0) v ∧ Below w.heap.size w w' := by
  obtain ⟨g, hgo, hg, _, t0, t1, t2⟩ := ha.tok (i := 0) (t := x) (r := []) rfl
  subst hgo
  have hn : n = 1 := ha.len
  subst hn
  clear ha
  simp only [rlV]
  have e0 : (s.toList == [105, 110, 105, 116]) = true := by rw [hw]; decide
  clear hw
  simp at t0 t1 t2
  go_enter Tryz.func114, Tryz.ntmps114
  go_wp2_with (go_at_call 147; refine (act_any _ _).mono ?_)
  rintro e w1 ⟨v1, rfl, hf1, hb1⟩
  have HF1 := hide hf1
  have HB1 := hide (((Below.refl w.heap.size w).alloc (Nat.le_refl _) _).trans (hb1.mono (by simp)))
  have HX1 := hide ((hb1.block w.heap.size (by simp)).trans (blk_alloc _ _))
  have hz1 : w.heap.size < w1.heap.size := lt_of_blk (unhide HX1)
  clear hf1 hb1
  go_wp2_with (go_at_call 147; refine (act_any _ _).mono ?_)
  rintro e w2 ⟨v2, rfl, hf2, hb2⟩
  have HF2 := hide hf2
  have Hx2 := hide ((unhide HF1).later hb2)
  have HB2 := hide ((unhide HB1).trans (hb2.mono (unhide HB1).size))
  have HX2 := hide ((hb2.block w.heap.size hz1).trans (unhide HX1))
  have hz2 : w.heap.size < w2.heap.size := lt_of_blk (unhide HX2)
  clear hf2 hb2
  have xc := fun o => cell_of_blk (unhide HX2) o
  go_wp2_with fail
  go_ret
  exact ⟨_, rfl, unhide Hx2, unhide HB2⟩

set_option maxHeartbeats 2000000 in
theorem stands_1 (w : World) (a b : Int) (s : ByteArray) (c : Int) (o : Option Addr) (n k : Nat) (d : Int) (p : Option Addr) (x : Tk) (ha : ActsAre w o n k [x]) (hw : s.toList = [108, 97, 115, 116]) :
    Calls Tryz.prog 114 #[rlV a b s c o n k d p] w fun e w' => ∃ v, e = .returned (.pointer v) ∧ IsF w' (tplF 1 x.s ByteArray.empty 0) v ∧ Below w.heap.size w w' := by
  obtain ⟨g, hgo, hg, _, t0, t1, t2⟩ := ha.tok (i := 0) (t := x) (r := []) rfl
  subst hgo
  have hn : n = 1 := ha.len
  subst hn
  clear ha
  simp only [rlV]
  have e0 : (s.toList == [105, 110, 105, 116]) = false := by rw [hw]; decide
  have e1 : (s.toList == [108, 97, 115, 116]) = true := by rw [hw]; decide
  clear hw
  simp at t0 t1 t2
  go_enter Tryz.func114, Tryz.ntmps114
  go_wp2_with (go_at_call 147; refine (act_any _ _).mono ?_)
  rintro e w1 ⟨v1, rfl, hf1, hb1⟩
  have HF1 := hide hf1
  have HB1 := hide (((Below.refl w.heap.size w).alloc (Nat.le_refl _) _).trans (hb1.mono (by simp)))
  have HX1 := hide ((hb1.block w.heap.size (by simp)).trans (blk_alloc _ _))
  have hz1 : w.heap.size < w1.heap.size := lt_of_blk (unhide HX1)
  clear hf1 hb1
  go_wp2_with (go_at_call 147; refine (act_any _ _).mono ?_)
  rintro e w2 ⟨v2, rfl, hf2, hb2⟩
  have HF2 := hide hf2
  have Hx2 := hide ((unhide HF1).later hb2)
  have HB2 := hide ((unhide HB1).trans (hb2.mono (unhide HB1).size))
  have HX2 := hide ((hb2.block w.heap.size hz1).trans (unhide HX1))
  have hz2 : w.heap.size < w2.heap.size := lt_of_blk (unhide HX2)
  clear hf2 hb2
  have xc := fun o => cell_of_blk (unhide HX2) o
  have HLF := hide (show IsF (w2.alloc (.cells #[.int .u8 116, .string ⟨#[]⟩, .int .i64 0, .pointer none, .pointer none] 175)) (leaf 1 ByteArray.empty 0) (some ⟨w2.heap.size, 0, none⟩) from ⟨w2.heap.size, none, none, rfl, blk_alloc _ _, rfl, rfl⟩)
  have HXA := hide ((unhide Hx2).later ((Below.refl w2.heap.size w2).alloc (Nat.le_refl _) (.cells #[.int .u8 116, .string ⟨#[]⟩, .int .i64 0, .pointer none, .pointer none] 175)))
  have HBA := hide ((unhide HB2).alloc (unhide HB2).size (.cells #[.int .u8 116, .string ⟨#[]⟩, .int .i64 0, .pointer none, .pointer none] 175))
  go_wp2_with (go_at_call 148; refine (one_any 5 _ _ _ _ (unhide HLF) rfl).mono ?_)
  rintro e w3 ⟨v3, rfl, hf3, hb3⟩
  have HF3 := hide hf3
  have Hx3 := hide ((unhide HXA).later hb3)
  have HB3 := hide ((unhide HBA).trans (hb3.mono (unhide HBA).size))
  clear hf3 hb3
  go_wp2_with (go_at_call 148; refine (one_any 4 _ _ _ _ (unhide HF3) rfl).mono ?_)
  rintro e w4 ⟨v4, rfl, hf4, hb4⟩
  have HF4 := hide hf4
  have Hx4 := hide ((unhide Hx3).later hb4)
  have Hp4 := hide ((unhide HF3).later hb4)
  have HB4 := hide ((unhide HB3).trans (hb4.mono (unhide HB3).size))
  clear hf4 hb4
  go_wp2_with (go_at_call 149; refine (two_any 10 _ _ _ _ _ _ (unhide Hx4) (unhide HF4) rfl).mono ?_)
  rintro e w5 ⟨v5, rfl, hf5, hb5⟩
  have HF5 := hide hf5
  have Hx5 := hide ((unhide Hx4).later hb5)
  have Hp5 := hide ((unhide Hp4).later hb5)
  have Hq5 := hide ((unhide HF4).later hb5)
  have HB5 := hide ((unhide HB4).trans (hb5.mono (unhide HB4).size))
  clear hf5 hb5
  go_wp2_with (go_at_call 148; refine (one_any 7 _ _ _ _ (unhide HF5) rfl).mono ?_)
  rintro e w6 ⟨v6, rfl, hf6, hb6⟩
  have HF6 := hide hf6
  have Hx6 := hide ((unhide Hx5).later hb6)
  have Hp6 := hide ((unhide Hp5).later hb6)
  have Hq6 := hide ((unhide Hq5).later hb6)
  have Ht6 := hide ((unhide HF5).later hb6)
  have HB6 := hide ((unhide HB5).trans (hb6.mono (unhide HB5).size))
  clear hf6 hb6
  go_wp2_with fail
  go_ret
  exact ⟨_, rfl, unhide HF6, unhide HB6⟩

set_option maxHeartbeats 2000000 in
theorem stands_2 (w : World) (a b : Int) (s : ByteArray) (c : Int) (o : Option Addr) (n k : Nat) (d : Int) (p : Option Addr) (x y : Tk) (ha : ActsAre w o n k [x, y]) (hw : s.toList = [115, 111, 109, 101]) (hd : ∃ c : UInt8, y.s = ⟨#[c]⟩ ∧ 49 ≤ c.toNat ∧ c.toNat ≤ 57) :
    Calls Tryz.prog 114 #[rlV a b s c o n k d p] w fun e w' => ∃ v, e = .returned (.pointer v) ∧ IsF w' (tplF 2 x.s y.s (digitN y.s)) v ∧ Below w.heap.size w w' := by
  obtain ⟨yk, ys, yp⟩ := y
  obtain ⟨ch, hys, hc1, hc2⟩ := hd
  dsimp only at hys
  subst hys
  have hdn : digitN (⟨#[ch]⟩ : ByteArray) = ch.toNat - 48 := rfl
  show Calls _ _ _ _ fun e w' => ∃ v, e = .returned (.pointer v) ∧ IsF w' (tplF 2 x.s ⟨#[ch]⟩ (digitN ⟨#[ch]⟩)) v ∧ Below w.heap.size w w'
  rw [hdn]
  obtain ⟨g, hgo, hg, _, t0, t1, t2⟩ := ha.tok (i := 0) (t := x) (r := [⟨yk, ⟨#[ch]⟩, yp⟩]) rfl
  subst hgo
  obtain ⟨g', hgo, _, _, u0, u1, u2⟩ := ha.tok (i := 1) (t := ⟨yk, ⟨#[ch]⟩, yp⟩) (r := []) rfl
  cases hgo
  have hn : n = 2 := ha.len
  subst hn
  clear ha
  simp only [rlV]
  have e0 : (s.toList == [105, 110, 105, 116]) = false := by rw [hw]; decide
  have e1 : (s.toList == [108, 97, 115, 116]) = false := by rw [hw]; decide
  have e2 : (s.toList == [115, 111, 109, 101]) = true := by rw [hw]; decide
  clear hw
  simp at t0 t1 t2 u0 u1 u2
  go_enter Tryz.func114, Tryz.ntmps114
  go_wp2_with (go_at_call 147; refine (act_any _ _).mono ?_)
  rintro e w1 ⟨v1, rfl, hf1, hb1⟩
  have HF1 := hide hf1
  have HB1 := hide (((Below.refl w.heap.size w).alloc (Nat.le_refl _) _).trans (hb1.mono (by simp)))
  have HX1 := hide ((hb1.block w.heap.size (by simp)).trans (blk_alloc _ _))
  have hz1 : w.heap.size < w1.heap.size := lt_of_blk (unhide HX1)
  clear hf1 hb1
  go_wp2_with (go_at_call 147; refine (act_any _ _).mono ?_)
  rintro e w2 ⟨v2, rfl, hf2, hb2⟩
  have HF2 := hide hf2
  have Hx2 := hide ((unhide HF1).later hb2)
  have HB2 := hide ((unhide HB1).trans (hb2.mono (unhide HB1).size))
  have HX2 := hide ((hb2.block w.heap.size hz1).trans (unhide HX1))
  have hz2 : w.heap.size < w2.heap.size := lt_of_blk (unhide HX2)
  clear hf2 hb2
  have xc := fun o => cell_of_blk (unhide HX2) o
  go_wp2_with fail
  have hnum : ((((⟨#[ch]⟩ : ByteArray)[0]'(show 0 < 1 by decide)).toNat : Int) - 48) % 256 = ((ch.toNat - 48 : Nat) : Int) := by show ((ch.toNat : Int) - 48) % 256 = _; omega
  rw [hnum]
  refine (times_any _ (ch.toNat - 48) _ (by omega) (by omega)).mono ?_
  rintro e w3 ⟨v3, rfl, hf3, hb3⟩
  have HF3 := hide hf3
  have Hx3 := hide ((unhide Hx2).later hb3)
  have Hy3 := hide ((unhide HF2).later hb3)
  have HB3 := hide ((unhide HB2).trans (hb3.mono (unhide HB2).size))
  clear hf3 hb3
  go_wp2_with fail
  go_ret
  exact ⟨_, rfl, unhide HF3, unhide HB3⟩

set_option maxHeartbeats 2000000 in
theorem stands_3 (w : World) (a b : Int) (s : ByteArray) (c : Int) (o : Option Addr) (n k : Nat) (d : Int) (p : Option Addr) (x y : Tk) (ha : ActsAre w o n k [x, y]) (hw : s.toList = [102, 101, 119]) (hd : ∃ c : UInt8, y.s = ⟨#[c]⟩ ∧ 49 ≤ c.toNat ∧ c.toNat ≤ 57) :
    Calls Tryz.prog 114 #[rlV a b s c o n k d p] w fun e w' => ∃ v, e = .returned (.pointer v) ∧ IsF w' (tplF 3 x.s y.s (digitN y.s)) v ∧ Below w.heap.size w w' := by
  obtain ⟨yk, ys, yp⟩ := y
  obtain ⟨ch, hys, hc1, hc2⟩ := hd
  dsimp only at hys
  subst hys
  have hdn : digitN (⟨#[ch]⟩ : ByteArray) = ch.toNat - 48 := rfl
  show Calls _ _ _ _ fun e w' => ∃ v, e = .returned (.pointer v) ∧ IsF w' (tplF 3 x.s ⟨#[ch]⟩ (digitN ⟨#[ch]⟩)) v ∧ Below w.heap.size w w'
  rw [hdn]
  obtain ⟨g, hgo, hg, _, t0, t1, t2⟩ := ha.tok (i := 0) (t := x) (r := [⟨yk, ⟨#[ch]⟩, yp⟩]) rfl
  subst hgo
  obtain ⟨g', hgo, _, _, u0, u1, u2⟩ := ha.tok (i := 1) (t := ⟨yk, ⟨#[ch]⟩, yp⟩) (r := []) rfl
  cases hgo
  have hn : n = 2 := ha.len
  subst hn
  clear ha
  simp only [rlV]
  have e0 : (s.toList == [105, 110, 105, 116]) = false := by rw [hw]; decide
  have e1 : (s.toList == [108, 97, 115, 116]) = false := by rw [hw]; decide
  have e2 : (s.toList == [115, 111, 109, 101]) = false := by rw [hw]; decide
  have e3 : (s.toList == [102, 101, 119]) = true := by rw [hw]; decide
  clear hw
  simp at t0 t1 t2 u0 u1 u2
  go_enter Tryz.func114, Tryz.ntmps114
  go_wp2_with (go_at_call 147; refine (act_any _ _).mono ?_)
  rintro e w1 ⟨v1, rfl, hf1, hb1⟩
  have HF1 := hide hf1
  have HB1 := hide (((Below.refl w.heap.size w).alloc (Nat.le_refl _) _).trans (hb1.mono (by simp)))
  have HX1 := hide ((hb1.block w.heap.size (by simp)).trans (blk_alloc _ _))
  have hz1 : w.heap.size < w1.heap.size := lt_of_blk (unhide HX1)
  clear hf1 hb1
  go_wp2_with (go_at_call 147; refine (act_any _ _).mono ?_)
  rintro e w2 ⟨v2, rfl, hf2, hb2⟩
  have HF2 := hide hf2
  have Hx2 := hide ((unhide HF1).later hb2)
  have HB2 := hide ((unhide HB1).trans (hb2.mono (unhide HB1).size))
  have HX2 := hide ((hb2.block w.heap.size hz1).trans (unhide HX1))
  have hz2 : w.heap.size < w2.heap.size := lt_of_blk (unhide HX2)
  clear hf2 hb2
  have xc := fun o => cell_of_blk (unhide HX2) o
  go_wp2_with fail
  have hnum : ((((⟨#[ch]⟩ : ByteArray)[0]'(show 0 < 1 by decide)).toNat : Int) - 48) % 256 = ((ch.toNat - 48 : Nat) : Int) := by show ((ch.toNat : Int) - 48) % 256 = _; omega
  rw [hnum]
  refine (times_any _ (ch.toNat - 48) _ (by omega) (by omega)).mono ?_
  rintro e w3 ⟨v3, rfl, hf3, hb3⟩
  have HF3 := hide hf3
  have Hx3 := hide ((unhide Hx2).later hb3)
  have Hy3 := hide ((unhide HF2).later hb3)
  have HB3 := hide ((unhide HB2).trans (hb3.mono (unhide HB2).size))
  clear hf3 hb3
  go_wp2_with (go_at_call 148; refine (one_any 4 _ _ _ _ (unhide HF3) rfl).mono ?_)
  rintro e w4 ⟨v4, rfl, hf4, hb4⟩
  have HF4 := hide hf4
  have Hx4 := hide ((unhide Hx3).later hb4)
  have Hy4 := hide ((unhide Hy3).later hb4)
  have Ht4 := hide ((unhide HF3).later hb4)
  have HB4 := hide ((unhide HB3).trans (hb4.mono (unhide HB3).size))
  clear hf4 hb4
  go_wp2_with fail
  go_ret
  exact ⟨_, rfl, unhide HF4, unhide HB4⟩

set_option maxHeartbeats 2000000 in
theorem stands_4 (w : World) (a b : Int) (s : ByteArray) (c : Int) (o : Option Addr) (n k : Nat) (d : Int) (p : Option Addr) (x y : Tk) (ha : ActsAre w o n k [x, y]) (hw : s.toList = [114, 101, 115, 112, 111, 110, 115, 101]) :
    Calls Tryz.prog 114 #[rlV a b s c o n k d p] w fun e w' => ∃ v, e = .returned (.pointer v) ∧ IsF w' (tplF 4 x.s y.s 0) v ∧ Below w.heap.size w w' := by
  obtain ⟨g, hgo, hg, _, t0, t1, t2⟩ := ha.tok (i := 0) (t := x) (r := [y]) rfl
  subst hgo
  obtain ⟨g', hgo, _, _, u0, u1, u2⟩ := ha.tok (i := 1) (t := y) (r := []) rfl
  cases hgo
  have hn : n = 2 := ha.len
  subst hn
  clear ha
  simp only [rlV]
  have e0 : (s.toList == [105, 110, 105, 116]) = false := by rw [hw]; decide
  have e1 : (s.toList == [108, 97, 115, 116]) = false := by rw [hw]; decide
  have e2 : (s.toList == [115, 111, 109, 101]) = false := by rw [hw]; decide
  have e3 : (s.toList == [102, 101, 119]) = false := by rw [hw]; decide
  have e4 : (s.toList == [114, 101, 115, 112, 111, 110, 115, 101]) = true := by rw [hw]; decide
  clear hw
  simp at t0 t1 t2 u0 u1 u2
  go_enter Tryz.func114, Tryz.ntmps114
  go_wp2_with (go_at_call 147; refine (act_any _ _).mono ?_)
  rintro e w1 ⟨v1, rfl, hf1, hb1⟩
  have HF1 := hide hf1
  have HB1 := hide (((Below.refl w.heap.size w).alloc (Nat.le_refl _) _).trans (hb1.mono (by simp)))
  have HX1 := hide ((hb1.block w.heap.size (by simp)).trans (blk_alloc _ _))
  have hz1 : w.heap.size < w1.heap.size := lt_of_blk (unhide HX1)
  clear hf1 hb1
  go_wp2_with (go_at_call 147; refine (act_any _ _).mono ?_)
  rintro e w2 ⟨v2, rfl, hf2, hb2⟩
  have HF2 := hide hf2
  have Hx2 := hide ((unhide HF1).later hb2)
  have HB2 := hide ((unhide HB1).trans (hb2.mono (unhide HB1).size))
  have HX2 := hide ((hb2.block w.heap.size hz1).trans (unhide HX1))
  have hz2 : w.heap.size < w2.heap.size := lt_of_blk (unhide HX2)
  clear hf2 hb2
  have xc := fun o => cell_of_blk (unhide HX2) o
  go_wp2_with (go_at_call 148; refine (one_any 7 _ _ _ _ (unhide HF2) rfl).mono ?_)
  rintro e w3 ⟨v3, rfl, hf3, hb3⟩
  have HF3 := hide hf3
  have Hx3 := hide ((unhide Hx2).later hb3)
  have Hy3 := hide ((unhide HF2).later hb3)
  have HB3 := hide ((unhide HB2).trans (hb3.mono (unhide HB2).size))
  clear hf3 hb3
  go_wp2_with (go_at_call 149; refine (two_any 12 _ _ _ _ _ _ (unhide Hx3) (unhide HF3) rfl).mono ?_)
  rintro e w4 ⟨v4, rfl, hf4, hb4⟩
  have HF4 := hide hf4
  have Hx4 := hide ((unhide Hx3).later hb4)
  have Hy4 := hide ((unhide Hy3).later hb4)
  have Hp4 := hide ((unhide HF3).later hb4)
  have HB4 := hide ((unhide HB3).trans (hb4.mono (unhide HB3).size))
  clear hf4 hb4
  go_wp2_with (go_at_call 148; refine (one_any 8 _ _ _ _ (unhide HF4) rfl).mono ?_)
  rintro e w5 ⟨v5, rfl, hf5, hb5⟩
  have HF5 := hide hf5
  have Hx5 := hide ((unhide Hx4).later hb5)
  have Hy5 := hide ((unhide Hy4).later hb5)
  have Hp5 := hide ((unhide Hp4).later hb5)
  have Hq5 := hide ((unhide HF4).later hb5)
  have HB5 := hide ((unhide HB4).trans (hb5.mono (unhide HB4).size))
  clear hf5 hb5
  go_wp2_with fail
  go_ret
  exact ⟨_, rfl, unhide HF5, unhide HB5⟩

set_option maxHeartbeats 2000000 in
theorem stands_5 (w : World) (a b : Int) (s : ByteArray) (c : Int) (o : Option Addr) (n k : Nat) (d : Int) (p : Option Addr) (x y : Tk) (ha : ActsAre w o n k [x, y]) (hw : s.toList = [112, 114, 101, 99, 101, 100, 101]) :
    Calls Tryz.prog 114 #[rlV a b s c o n k d p] w fun e w' => ∃ v, e = .returned (.pointer v) ∧ IsF w' (tplF 5 x.s y.s 0) v ∧ Below w.heap.size w w' := by
  obtain ⟨g, hgo, hg, _, t0, t1, t2⟩ := ha.tok (i := 0) (t := x) (r := [y]) rfl
  subst hgo
  obtain ⟨g', hgo, _, _, u0, u1, u2⟩ := ha.tok (i := 1) (t := y) (r := []) rfl
  cases hgo
  have hn : n = 2 := ha.len
  subst hn
  clear ha
  simp only [rlV]
  have e0 : (s.toList == [105, 110, 105, 116]) = false := by rw [hw]; decide
  have e1 : (s.toList == [108, 97, 115, 116]) = false := by rw [hw]; decide
  have e2 : (s.toList == [115, 111, 109, 101]) = false := by rw [hw]; decide
  have e3 : (s.toList == [102, 101, 119]) = false := by rw [hw]; decide
  have e4 : (s.toList == [114, 101, 115, 112, 111, 110, 115, 101]) = false := by rw [hw]; decide
  have e5 : (s.toList == [112, 114, 101, 99, 101, 100, 101]) = true := by rw [hw]; decide
  clear hw
  simp at t0 t1 t2 u0 u1 u2
  go_enter Tryz.func114, Tryz.ntmps114
  go_wp2_with (go_at_call 147; refine (act_any _ _).mono ?_)
  rintro e w1 ⟨v1, rfl, hf1, hb1⟩
  have HF1 := hide hf1
  have HB1 := hide (((Below.refl w.heap.size w).alloc (Nat.le_refl _) _).trans (hb1.mono (by simp)))
  have HX1 := hide ((hb1.block w.heap.size (by simp)).trans (blk_alloc _ _))
  have hz1 : w.heap.size < w1.heap.size := lt_of_blk (unhide HX1)
  clear hf1 hb1
  go_wp2_with (go_at_call 147; refine (act_any _ _).mono ?_)
  rintro e w2 ⟨v2, rfl, hf2, hb2⟩
  have HF2 := hide hf2
  have Hx2 := hide ((unhide HF1).later hb2)
  have HB2 := hide ((unhide HB1).trans (hb2.mono (unhide HB1).size))
  have HX2 := hide ((hb2.block w.heap.size hz1).trans (unhide HX1))
  have hz2 : w.heap.size < w2.heap.size := lt_of_blk (unhide HX2)
  clear hf2 hb2
  have xc := fun o => cell_of_blk (unhide HX2) o
  go_wp2_with (go_at_call 148; refine (one_any 4 _ _ _ _ (unhide HF2) rfl).mono ?_)
  rintro e w3 ⟨v3, rfl, hf3, hb3⟩
  have HF3 := hide hf3
  have Hx3 := hide ((unhide Hx2).later hb3)
  have Hy3 := hide ((unhide HF2).later hb3)
  have HB3 := hide ((unhide HB2).trans (hb3.mono (unhide HB2).size))
  clear hf3 hb3
  go_wp2_with (go_at_call 149; refine (two_any 9 _ _ _ _ _ _ (unhide HF3) (unhide Hx3) rfl).mono ?_)
  rintro e w4 ⟨v4, rfl, hf4, hb4⟩
  have HF4 := hide hf4
  have Hx4 := hide ((unhide Hx3).later hb4)
  have Hy4 := hide ((unhide Hy3).later hb4)
  have Hp4 := hide ((unhide HF3).later hb4)
  have HB4 := hide ((unhide HB3).trans (hb4.mono (unhide HB3).size))
  clear hf4 hb4
  go_wp2_with (go_at_call 147; refine (act_any _ _).mono ?_)
  rintro e w5 ⟨v5, rfl, hf5, hb5⟩
  have HF5 := hide hf5
  have Hx5 := hide ((unhide Hx4).later hb5)
  have Hy5 := hide ((unhide Hy4).later hb5)
  have Hp5 := hide ((unhide Hp4).later hb5)
  have Hq5 := hide ((unhide HF4).later hb5)
  have HB5 := hide ((unhide HB4).trans (hb5.mono (unhide HB4).size))
  clear hf5 hb5
  go_wp2_with (go_at_call 148; refine (one_any 4 _ _ _ _ (unhide HF5) rfl).mono ?_)
  rintro e w6 ⟨v6, rfl, hf6, hb6⟩
  have HF6 := hide hf6
  have Hx6 := hide ((unhide Hx5).later hb6)
  have Hy6 := hide ((unhide Hy5).later hb6)
  have Hp6 := hide ((unhide Hp5).later hb6)
  have Hq6 := hide ((unhide Hq5).later hb6)
  have Hz6 := hide ((unhide HF5).later hb6)
  have HB6 := hide ((unhide HB5).trans (hb6.mono (unhide HB5).size))
  clear hf6 hb6
  go_wp2_with (go_at_call 148; refine (one_any 8 _ _ _ _ (unhide HF6) rfl).mono ?_)
  rintro e w7 ⟨v7, rfl, hf7, hb7⟩
  have HF7 := hide hf7
  have Hx7 := hide ((unhide Hx6).later hb7)
  have Hy7 := hide ((unhide Hy6).later hb7)
  have Hp7 := hide ((unhide Hp6).later hb7)
  have Hq7 := hide ((unhide Hq6).later hb7)
  have Hz7 := hide ((unhide Hz6).later hb7)
  have Ht7 := hide ((unhide HF6).later hb7)
  have HB7 := hide ((unhide HB6).trans (hb7.mono (unhide HB6).size))
  clear hf7 hb7
  go_wp2_with (go_at_call 149; refine (two_any 11 _ _ _ _ _ _ (unhide Hq7) (unhide HF7) rfl).mono ?_)
  rintro e w8 ⟨v8, rfl, hf8, hb8⟩
  have HF8 := hide hf8
  have Hx8 := hide ((unhide Hx7).later hb8)
  have Hy8 := hide ((unhide Hy7).later hb8)
  have Hp8 := hide ((unhide Hp7).later hb8)
  have Hq8 := hide ((unhide Hq7).later hb8)
  have Hz8 := hide ((unhide Hz7).later hb8)
  have Ht8 := hide ((unhide Ht7).later hb8)
  have Hu8 := hide ((unhide HF7).later hb8)
  have HB8 := hide ((unhide HB7).trans (hb8.mono (unhide HB7).size))
  clear hf8 hb8
  go_wp2_with fail
  go_ret
  exact ⟨_, rfl, unhide HF8, unhide HB8⟩

set_option maxHeartbeats 2000000 in
theorem stands_6 (w : World) (a b : Int) (s : ByteArray) (c : Int) (o : Option Addr) (n k : Nat) (d : Int) (p : Option Addr) (x y : Tk) (ha : ActsAre w o n k [x, y]) (hw : s.toList = [99, 104, 97, 105, 110]) :
    Calls Tryz.prog 114 #[rlV a b s c o n k d p] w fun e w' => ∃ v, e = .returned (.pointer v) ∧ IsF w' (tplF 6 x.s y.s 0) v ∧ Below w.heap.size w w' := by
  obtain ⟨g, hgo, hg, _, t0, t1, t2⟩ := ha.tok (i := 0) (t := x) (r := [y]) rfl
  subst hgo
  obtain ⟨g', hgo, _, _, u0, u1, u2⟩ := ha.tok (i := 1) (t := y) (r := []) rfl
  cases hgo
  have hn : n = 2 := ha.len
  subst hn
  clear ha
  simp only [rlV]
  have e0 : (s.toList == [105, 110, 105, 116]) = false := by rw [hw]; decide
  have e1 : (s.toList == [108, 97, 115, 116]) = false := by rw [hw]; decide
  have e2 : (s.toList == [115, 111, 109, 101]) = false := by rw [hw]; decide
  have e3 : (s.toList == [102, 101, 119]) = false := by rw [hw]; decide
  have e4 : (s.toList == [114, 101, 115, 112, 111, 110, 115, 101]) = false := by rw [hw]; decide
  have e5 : (s.toList == [112, 114, 101, 99, 101, 100, 101]) = false := by rw [hw]; decide
  have e6 : (s.toList == [99, 104, 97, 105, 110]) = true := by rw [hw]; decide
  clear hw
  simp at t0 t1 t2 u0 u1 u2
  go_enter Tryz.func114, Tryz.ntmps114
  go_wp2_with (go_at_call 147; refine (act_any _ _).mono ?_)
  rintro e w1 ⟨v1, rfl, hf1, hb1⟩
  have HF1 := hide hf1
  have HB1 := hide (((Below.refl w.heap.size w).alloc (Nat.le_refl _) _).trans (hb1.mono (by simp)))
  have HX1 := hide ((hb1.block w.heap.size (by simp)).trans (blk_alloc _ _))
  have hz1 : w.heap.size < w1.heap.size := lt_of_blk (unhide HX1)
  clear hf1 hb1
  go_wp2_with (go_at_call 147; refine (act_any _ _).mono ?_)
  rintro e w2 ⟨v2, rfl, hf2, hb2⟩
  have HF2 := hide hf2
  have Hx2 := hide ((unhide HF1).later hb2)
  have HB2 := hide ((unhide HB1).trans (hb2.mono (unhide HB1).size))
  have HX2 := hide ((hb2.block w.heap.size hz1).trans (unhide HX1))
  have hz2 : w.heap.size < w2.heap.size := lt_of_blk (unhide HX2)
  clear hf2 hb2
  have xc := fun o => cell_of_blk (unhide HX2) o
  go_wp2_with (go_at_call 148; refine (one_any 5 _ _ _ _ (unhide HF2) rfl).mono ?_)
  rintro e w3 ⟨v3, rfl, hf3, hb3⟩
  have HF3 := hide hf3
  have Hx3 := hide ((unhide Hx2).later hb3)
  have Hy3 := hide ((unhide HF2).later hb3)
  have HB3 := hide ((unhide HB2).trans (hb3.mono (unhide HB2).size))
  clear hf3 hb3
  go_wp2_with (go_at_call 149; refine (two_any 12 _ _ _ _ _ _ (unhide Hx3) (unhide HF3) rfl).mono ?_)
  rintro e w4 ⟨v4, rfl, hf4, hb4⟩
  have HF4 := hide hf4
  have Hx4 := hide ((unhide Hx3).later hb4)
  have Hy4 := hide ((unhide Hy3).later hb4)
  have Hp4 := hide ((unhide HF3).later hb4)
  have HB4 := hide ((unhide HB3).trans (hb4.mono (unhide HB3).size))
  clear hf4 hb4
  go_wp2_with (go_at_call 148; refine (one_any 8 _ _ _ _ (unhide HF4) rfl).mono ?_)
  rintro e w5 ⟨v5, rfl, hf5, hb5⟩
  have HF5 := hide hf5
  have Hx5 := hide ((unhide Hx4).later hb5)
  have Hy5 := hide ((unhide Hy4).later hb5)
  have Hp5 := hide ((unhide Hp4).later hb5)
  have Hq5 := hide ((unhide HF4).later hb5)
  have HB5 := hide ((unhide HB4).trans (hb5.mono (unhide HB4).size))
  clear hf5 hb5
  go_wp2_with fail
  go_ret
  exact ⟨_, rfl, unhide HF5, unhide HB5⟩

set_option maxHeartbeats 2000000 in
theorem stands_7 (w : World) (a b : Int) (s : ByteArray) (c : Int) (o : Option Addr) (n k : Nat) (d : Int) (p : Option Addr) (x y : Tk) (ha : ActsAre w o n k [x, y]) (hw : s.toList = [98, 101, 102, 111, 114, 101]) :
    Calls Tryz.prog 114 #[rlV a b s c o n k d p] w fun e w' => ∃ v, e = .returned (.pointer v) ∧ IsF w' (tplF 7 x.s y.s 0) v ∧ Below w.heap.size w w' := by
  obtain ⟨g, hgo, hg, _, t0, t1, t2⟩ := ha.tok (i := 0) (t := x) (r := [y]) rfl
  subst hgo
  obtain ⟨g', hgo, _, _, u0, u1, u2⟩ := ha.tok (i := 1) (t := y) (r := []) rfl
  cases hgo
  have hn : n = 2 := ha.len
  subst hn
  clear ha
  simp only [rlV]
  have e0 : (s.toList == [105, 110, 105, 116]) = false := by rw [hw]; decide
  have e1 : (s.toList == [108, 97, 115, 116]) = false := by rw [hw]; decide
  have e2 : (s.toList == [115, 111, 109, 101]) = false := by rw [hw]; decide
  have e3 : (s.toList == [102, 101, 119]) = false := by rw [hw]; decide
  have e4 : (s.toList == [114, 101, 115, 112, 111, 110, 115, 101]) = false := by rw [hw]; decide
  have e5 : (s.toList == [112, 114, 101, 99, 101, 100, 101]) = false := by rw [hw]; decide
  have e6 : (s.toList == [99, 104, 97, 105, 110]) = false := by rw [hw]; decide
  have e7 : (s.toList == [98, 101, 102, 111, 114, 101]) = true := by rw [hw]; decide
  clear hw
  simp at t0 t1 t2 u0 u1 u2
  go_enter Tryz.func114, Tryz.ntmps114
  go_wp2_with (go_at_call 147; refine (act_any _ _).mono ?_)
  rintro e w1 ⟨v1, rfl, hf1, hb1⟩
  have HF1 := hide hf1
  have HB1 := hide (((Below.refl w.heap.size w).alloc (Nat.le_refl _) _).trans (hb1.mono (by simp)))
  have HX1 := hide ((hb1.block w.heap.size (by simp)).trans (blk_alloc _ _))
  have hz1 : w.heap.size < w1.heap.size := lt_of_blk (unhide HX1)
  clear hf1 hb1
  go_wp2_with (go_at_call 147; refine (act_any _ _).mono ?_)
  rintro e w2 ⟨v2, rfl, hf2, hb2⟩
  have HF2 := hide hf2
  have Hx2 := hide ((unhide HF1).later hb2)
  have HB2 := hide ((unhide HB1).trans (hb2.mono (unhide HB1).size))
  have HX2 := hide ((hb2.block w.heap.size hz1).trans (unhide HX1))
  have hz2 : w.heap.size < w2.heap.size := lt_of_blk (unhide HX2)
  clear hf2 hb2
  have xc := fun o => cell_of_blk (unhide HX2) o
  go_wp2_with (go_at_call 148; refine (one_any 4 _ _ _ _ (unhide HF2) rfl).mono ?_)
  rintro e w3 ⟨v3, rfl, hf3, hb3⟩
  have HF3 := hide hf3
  have Hx3 := hide ((unhide Hx2).later hb3)
  have Hy3 := hide ((unhide HF2).later hb3)
  have HB3 := hide ((unhide HB2).trans (hb3.mono (unhide HB2).size))
  clear hf3 hb3
  go_wp2_with (go_at_call 147; refine (act_any _ _).mono ?_)
  rintro e w4 ⟨v4, rfl, hf4, hb4⟩
  have HF4 := hide hf4
  have Hx4 := hide ((unhide Hx3).later hb4)
  have Hy4 := hide ((unhide Hy3).later hb4)
  have Hp4 := hide ((unhide HF3).later hb4)
  have HB4 := hide ((unhide HB3).trans (hb4.mono (unhide HB3).size))
  clear hf4 hb4
  go_wp2_with (go_at_call 148; refine (one_any 5 _ _ _ _ (unhide HF4) rfl).mono ?_)
  rintro e w5 ⟨v5, rfl, hf5, hb5⟩
  have HF5 := hide hf5
  have Hx5 := hide ((unhide Hx4).later hb5)
  have Hy5 := hide ((unhide Hy4).later hb5)
  have Hp5 := hide ((unhide Hp4).later hb5)
  have Hz5 := hide ((unhide HF4).later hb5)
  have HB5 := hide ((unhide HB4).trans (hb5.mono (unhide HB4).size))
  clear hf5 hb5
  go_wp2_with (go_at_call 149; refine (two_any 12 _ _ _ _ _ _ (unhide HF5) (unhide Hx5) rfl).mono ?_)
  rintro e w6 ⟨v6, rfl, hf6, hb6⟩
  have HF6 := hide hf6
  have Hx6 := hide ((unhide Hx5).later hb6)
  have Hy6 := hide ((unhide Hy5).later hb6)
  have Hp6 := hide ((unhide Hp5).later hb6)
  have Hz6 := hide ((unhide Hz5).later hb6)
  have Ht6 := hide ((unhide HF5).later hb6)
  have HB6 := hide ((unhide HB5).trans (hb6.mono (unhide HB5).size))
  clear hf6 hb6
  go_wp2_with (go_at_call 148; refine (one_any 8 _ _ _ _ (unhide HF6) rfl).mono ?_)
  rintro e w7 ⟨v7, rfl, hf7, hb7⟩
  have HF7 := hide hf7
  have Hx7 := hide ((unhide Hx6).later hb7)
  have Hy7 := hide ((unhide Hy6).later hb7)
  have Hp7 := hide ((unhide Hp6).later hb7)
  have Hz7 := hide ((unhide Hz6).later hb7)
  have Ht7 := hide ((unhide Ht6).later hb7)
  have Hu7 := hide ((unhide HF6).later hb7)
  have HB7 := hide ((unhide HB6).trans (hb7.mono (unhide HB6).size))
  clear hf7 hb7
  go_wp2_with (go_at_call 149; refine (two_any 10 _ _ _ _ _ _ (unhide Hp7) (unhide HF7) rfl).mono ?_)
  rintro e w8 ⟨v8, rfl, hf8, hb8⟩
  have HF8 := hide hf8
  have Hx8 := hide ((unhide Hx7).later hb8)
  have Hy8 := hide ((unhide Hy7).later hb8)
  have Hp8 := hide ((unhide Hp7).later hb8)
  have Hz8 := hide ((unhide Hz7).later hb8)
  have Ht8 := hide ((unhide Ht7).later hb8)
  have Hu8 := hide ((unhide Hu7).later hb8)
  have Hq8 := hide ((unhide HF7).later hb8)
  have HB8 := hide ((unhide HB7).trans (hb8.mono (unhide HB7).size))
  clear hf8 hb8
  go_wp2_with fail
  go_ret
  exact ⟨_, rfl, unhide HF8, unhide HB8⟩

set_option maxHeartbeats 2000000 in
theorem stands_8 (w : World) (a b : Int) (s : ByteArray) (c : Int) (o : Option Addr) (n k : Nat) (d : Int) (p : Option Addr) (x y : Tk) (ha : ActsAre w o n k [x, y]) (hw : s.toList = [119, 105, 116, 104]) :
    Calls Tryz.prog 114 #[rlV a b s c o n k d p] w fun e w' => ∃ v, e = .returned (.pointer v) ∧ IsF w' (tplF 8 x.s y.s 0) v ∧ Below w.heap.size w w' := by
  obtain ⟨g, hgo, hg, _, t0, t1, t2⟩ := ha.tok (i := 0) (t := x) (r := [y]) rfl
  subst hgo
  obtain ⟨g', hgo, _, _, u0, u1, u2⟩ := ha.tok (i := 1) (t := y) (r := []) rfl
  cases hgo
  have hn : n = 2 := ha.len
  subst hn
  clear ha
  simp only [rlV]
  have e0 : (s.toList == [105, 110, 105, 116]) = false := by rw [hw]; decide
  have e1 : (s.toList == [108, 97, 115, 116]) = false := by rw [hw]; decide
  have e2 : (s.toList == [115, 111, 109, 101]) = false := by rw [hw]; decide
  have e3 : (s.toList == [102, 101, 119]) = false := by rw [hw]; decide
  have e4 : (s.toList == [114, 101, 115, 112, 111, 110, 115, 101]) = false := by rw [hw]; decide
  have e5 : (s.toList == [112, 114, 101, 99, 101, 100, 101]) = false := by rw [hw]; decide
  have e6 : (s.toList == [99, 104, 97, 105, 110]) = false := by rw [hw]; decide
  have e7 : (s.toList == [98, 101, 102, 111, 114, 101]) = false := by rw [hw]; decide
  have e8 : (s.toList == [119, 105, 116, 104]) = true := by rw [hw]; decide
  clear hw
  simp at t0 t1 t2 u0 u1 u2
  go_enter Tryz.func114, Tryz.ntmps114
  go_wp2_with (go_at_call 147; refine (act_any _ _).mono ?_)
  rintro e w1 ⟨v1, rfl, hf1, hb1⟩
  have HF1 := hide hf1
  have HB1 := hide (((Below.refl w.heap.size w).alloc (Nat.le_refl _) _).trans (hb1.mono (by simp)))
  have HX1 := hide ((hb1.block w.heap.size (by simp)).trans (blk_alloc _ _))
  have hz1 : w.heap.size < w1.heap.size := lt_of_blk (unhide HX1)
  clear hf1 hb1
  go_wp2_with (go_at_call 147; refine (act_any _ _).mono ?_)
  rintro e w2 ⟨v2, rfl, hf2, hb2⟩
  have HF2 := hide hf2
  have Hx2 := hide ((unhide HF1).later hb2)
  have HB2 := hide ((unhide HB1).trans (hb2.mono (unhide HB1).size))
  have HX2 := hide ((hb2.block w.heap.size hz1).trans (unhide HX1))
  have hz2 : w.heap.size < w2.heap.size := lt_of_blk (unhide HX2)
  clear hf2 hb2
  have xc := fun o => cell_of_blk (unhide HX2) o
  go_wp2_with (go_at_call 148; refine (one_any 7 _ _ _ _ (unhide Hx2) rfl).mono ?_)
  rintro e w3 ⟨v3, rfl, hf3, hb3⟩
  have HF3 := hide hf3
  have Hx3 := hide ((unhide Hx2).later hb3)
  have Hy3 := hide ((unhide HF2).later hb3)
  have HB3 := hide ((unhide HB2).trans (hb3.mono (unhide HB2).size))
  clear hf3 hb3
  go_wp2_with (go_at_call 148; refine (one_any 7 _ _ _ _ (unhide Hy3) rfl).mono ?_)
  rintro e w4 ⟨v4, rfl, hf4, hb4⟩
  have HF4 := hide hf4
  have Hx4 := hide ((unhide Hx3).later hb4)
  have Hy4 := hide ((unhide Hy3).later hb4)
  have Hp4 := hide ((unhide HF3).later hb4)
  have HB4 := hide ((unhide HB3).trans (hb4.mono (unhide HB3).size))
  clear hf4 hb4
  go_wp2_with (go_at_call 149; refine (two_any 12 _ _ _ _ _ _ (unhide Hp4) (unhide HF4) rfl).mono ?_)
  rintro e w5 ⟨v5, rfl, hf5, hb5⟩
  have HF5 := hide hf5
  have Hx5 := hide ((unhide Hx4).later hb5)
  have Hy5 := hide ((unhide Hy4).later hb5)
  have Hp5 := hide ((unhide Hp4).later hb5)
  have Hq5 := hide ((unhide HF4).later hb5)
  have HB5 := hide ((unhide HB4).trans (hb5.mono (unhide HB4).size))
  clear hf5 hb5
  go_wp2_with fail
  go_ret
  exact ⟨_, rfl, unhide HF5, unhide HB5⟩

set_option maxHeartbeats 2000000 in
theorem stands_9 (w : World) (a b : Int) (s : ByteArray) (c : Int) (o : Option Addr) (n k : Nat) (d : Int) (p : Option Addr) (x y : Tk) (ha : ActsAre w o n k [x, y]) (hw : s.toList = [97, 112, 97, 114, 116]) :
    Calls Tryz.prog 114 #[rlV a b s c o n k d p] w fun e w' => ∃ v, e = .returned (.pointer v) ∧ IsF w' (tplF 9 x.s y.s 0) v ∧ Below w.heap.size w w' := by
  obtain ⟨g, hgo, hg, _, t0, t1, t2⟩ := ha.tok (i := 0) (t := x) (r := [y]) rfl
  subst hgo
  obtain ⟨g', hgo, _, _, u0, u1, u2⟩ := ha.tok (i := 1) (t := y) (r := []) rfl
  cases hgo
  have hn : n = 2 := ha.len
  subst hn
  clear ha
  simp only [rlV]
  have e0 : (s.toList == [105, 110, 105, 116]) = false := by rw [hw]; decide
  have e1 : (s.toList == [108, 97, 115, 116]) = false := by rw [hw]; decide
  have e2 : (s.toList == [115, 111, 109, 101]) = false := by rw [hw]; decide
  have e3 : (s.toList == [102, 101, 119]) = false := by rw [hw]; decide
  have e4 : (s.toList == [114, 101, 115, 112, 111, 110, 115, 101]) = false := by rw [hw]; decide
  have e5 : (s.toList == [112, 114, 101, 99, 101, 100, 101]) = false := by rw [hw]; decide
  have e6 : (s.toList == [99, 104, 97, 105, 110]) = false := by rw [hw]; decide
  have e7 : (s.toList == [98, 101, 102, 111, 114, 101]) = false := by rw [hw]; decide
  have e8 : (s.toList == [119, 105, 116, 104]) = false := by rw [hw]; decide
  have e9 : (s.toList == [97, 112, 97, 114, 116]) = true := by rw [hw]; decide
  clear hw
  simp at t0 t1 t2 u0 u1 u2
  go_enter Tryz.func114, Tryz.ntmps114
  go_wp2_with (go_at_call 147; refine (act_any _ _).mono ?_)
  rintro e w1 ⟨v1, rfl, hf1, hb1⟩
  have HF1 := hide hf1
  have HB1 := hide (((Below.refl w.heap.size w).alloc (Nat.le_refl _) _).trans (hb1.mono (by simp)))
  have HX1 := hide ((hb1.block w.heap.size (by simp)).trans (blk_alloc _ _))
  have hz1 : w.heap.size < w1.heap.size := lt_of_blk (unhide HX1)
  clear hf1 hb1
  go_wp2_with (go_at_call 147; refine (act_any _ _).mono ?_)
  rintro e w2 ⟨v2, rfl, hf2, hb2⟩
  have HF2 := hide hf2
  have Hx2 := hide ((unhide HF1).later hb2)
  have HB2 := hide ((unhide HB1).trans (hb2.mono (unhide HB1).size))
  have HX2 := hide ((hb2.block w.heap.size hz1).trans (unhide HX1))
  have hz2 : w.heap.size < w2.heap.size := lt_of_blk (unhide HX2)
  clear hf2 hb2
  have xc := fun o => cell_of_blk (unhide HX2) o
  go_wp2_with (go_at_call 148; refine (one_any 7 _ _ _ _ (unhide Hx2) rfl).mono ?_)
  rintro e w3 ⟨v3, rfl, hf3, hb3⟩
  have HF3 := hide hf3
  have Hx3 := hide ((unhide Hx2).later hb3)
  have Hy3 := hide ((unhide HF2).later hb3)
  have HB3 := hide ((unhide HB2).trans (hb3.mono (unhide HB2).size))
  clear hf3 hb3
  go_wp2_with (go_at_call 148; refine (one_any 7 _ _ _ _ (unhide Hy3) rfl).mono ?_)
  rintro e w4 ⟨v4, rfl, hf4, hb4⟩
  have HF4 := hide hf4
  have Hx4 := hide ((unhide Hx3).later hb4)
  have Hy4 := hide ((unhide Hy3).later hb4)
  have Hp4 := hide ((unhide HF3).later hb4)
  have HB4 := hide ((unhide HB3).trans (hb4.mono (unhide HB3).size))
  clear hf4 hb4
  go_wp2_with (go_at_call 149; refine (two_any 10 _ _ _ _ _ _ (unhide Hp4) (unhide HF4) rfl).mono ?_)
  rintro e w5 ⟨v5, rfl, hf5, hb5⟩
  have HF5 := hide hf5
  have Hx5 := hide ((unhide Hx4).later hb5)
  have Hy5 := hide ((unhide Hy4).later hb5)
  have Hp5 := hide ((unhide Hp4).later hb5)
  have Hq5 := hide ((unhide HF4).later hb5)
  have HB5 := hide ((unhide HB4).trans (hb5.mono (unhide HB4).size))
  clear hf5 hb5
  go_wp2_with (go_at_call 148; refine (one_any 4 _ _ _ _ (unhide HF5) rfl).mono ?_)
  rintro e w6 ⟨v6, rfl, hf6, hb6⟩
  have HF6 := hide hf6
  have Hx6 := hide ((unhide Hx5).later hb6)
  have Hy6 := hide ((unhide Hy5).later hb6)
  have Hp6 := hide ((unhide Hp5).later hb6)
  have Hq6 := hide ((unhide Hq5).later hb6)
  have Ht6 := hide ((unhide HF5).later hb6)
  have HB6 := hide ((unhide HB5).trans (hb6.mono (unhide HB5).size))
  clear hf6 hb6
  go_wp2_with fail
  go_ret
  exact ⟨_, rfl, unhide HF6, unhide HB6⟩

set_option maxHeartbeats 2000000 in
theorem stands_10 (w : World) (a b : Int) (s : ByteArray) (c : Int) (o : Option Addr) (n k : Nat) (d : Int) (p : Option Addr) (x y : Tk) (ha : ActsAre w o n k [x, y]) (hw : s.toList = [110, 101, 118, 101, 114]) :
    Calls Tryz.prog 114 #[rlV a b s c o n k d p] w fun e w' => ∃ v, e = .returned (.pointer v) ∧ IsF w' (tplF 10 x.s y.s 0) v ∧ Below w.heap.size w w' := by
  obtain ⟨g, hgo, hg, _, t0, t1, t2⟩ := ha.tok (i := 0) (t := x) (r := [y]) rfl
  subst hgo
  obtain ⟨g', hgo, _, _, u0, u1, u2⟩ := ha.tok (i := 1) (t := y) (r := []) rfl
  cases hgo
  have hn : n = 2 := ha.len
  subst hn
  clear ha
  simp only [rlV]
  have e0 : (s.toList == [105, 110, 105, 116]) = false := by rw [hw]; decide
  have e1 : (s.toList == [108, 97, 115, 116]) = false := by rw [hw]; decide
  have e2 : (s.toList == [115, 111, 109, 101]) = false := by rw [hw]; decide
  have e3 : (s.toList == [102, 101, 119]) = false := by rw [hw]; decide
  have e4 : (s.toList == [114, 101, 115, 112, 111, 110, 115, 101]) = false := by rw [hw]; decide
  have e5 : (s.toList == [112, 114, 101, 99, 101, 100, 101]) = false := by rw [hw]; decide
  have e6 : (s.toList == [99, 104, 97, 105, 110]) = false := by rw [hw]; decide
  have e7 : (s.toList == [98, 101, 102, 111, 114, 101]) = false := by rw [hw]; decide
  have e8 : (s.toList == [119, 105, 116, 104]) = false := by rw [hw]; decide
  have e9 : (s.toList == [97, 112, 97, 114, 116]) = false := by rw [hw]; decide
  have e10 : (s.toList == [110, 101, 118, 101, 114]) = true := by rw [hw]; decide
  clear hw
  simp at t0 t1 t2 u0 u1 u2
  go_enter Tryz.func114, Tryz.ntmps114
  go_wp2_with (go_at_call 147; refine (act_any _ _).mono ?_)
  rintro e w1 ⟨v1, rfl, hf1, hb1⟩
  have HF1 := hide hf1
  have HB1 := hide (((Below.refl w.heap.size w).alloc (Nat.le_refl _) _).trans (hb1.mono (by simp)))
  have HX1 := hide ((hb1.block w.heap.size (by simp)).trans (blk_alloc _ _))
  have hz1 : w.heap.size < w1.heap.size := lt_of_blk (unhide HX1)
  clear hf1 hb1
  go_wp2_with (go_at_call 147; refine (act_any _ _).mono ?_)
  rintro e w2 ⟨v2, rfl, hf2, hb2⟩
  have HF2 := hide hf2
  have Hx2 := hide ((unhide HF1).later hb2)
  have HB2 := hide ((unhide HB1).trans (hb2.mono (unhide HB1).size))
  have HX2 := hide ((hb2.block w.heap.size hz1).trans (unhide HX1))
  have hz2 : w.heap.size < w2.heap.size := lt_of_blk (unhide HX2)
  clear hf2 hb2
  have xc := fun o => cell_of_blk (unhide HX2) o
  go_wp2_with (go_at_call 148; refine (one_any 4 _ _ _ _ (unhide HF2) rfl).mono ?_)
  rintro e w3 ⟨v3, rfl, hf3, hb3⟩
  have HF3 := hide hf3
  have Hx3 := hide ((unhide Hx2).later hb3)
  have Hy3 := hide ((unhide HF2).later hb3)
  have HB3 := hide ((unhide HB2).trans (hb3.mono (unhide HB2).size))
  clear hf3 hb3
  go_wp2_with (go_at_call 148; refine (one_any 8 _ _ _ _ (unhide HF3) rfl).mono ?_)
  rintro e w4 ⟨v4, rfl, hf4, hb4⟩
  have HF4 := hide hf4
  have Hx4 := hide ((unhide Hx3).later hb4)
  have Hy4 := hide ((unhide Hy3).later hb4)
  have Hp4 := hide ((unhide HF3).later hb4)
  have HB4 := hide ((unhide HB3).trans (hb4.mono (unhide HB3).size))
  clear hf4 hb4
  go_wp2_with (go_at_call 148; refine (one_any 6 _ _ _ _ (unhide HF4) rfl).mono ?_)
  rintro e w5 ⟨v5, rfl, hf5, hb5⟩
  have HF5 := hide hf5
  have Hx5 := hide ((unhide Hx4).later hb5)
  have Hy5 := hide ((unhide Hy4).later hb5)
  have Hp5 := hide ((unhide Hp4).later hb5)
  have Hq5 := hide ((unhide HF4).later hb5)
  have HB5 := hide ((unhide HB4).trans (hb5.mono (unhide HB4).size))
  clear hf5 hb5
  go_wp2_with (go_at_call 149; refine (two_any 12 _ _ _ _ _ _ (unhide Hx5) (unhide HF5) rfl).mono ?_)
  rintro e w6 ⟨v6, rfl, hf6, hb6⟩
  have HF6 := hide hf6
  have Hx6 := hide ((unhide Hx5).later hb6)
  have Hy6 := hide ((unhide Hy5).later hb6)
  have Hp6 := hide ((unhide Hp5).later hb6)
  have Hq6 := hide ((unhide Hq5).later hb6)
  have Ht6 := hide ((unhide HF5).later hb6)
  have HB6 := hide ((unhide HB5).trans (hb6.mono (unhide HB5).size))
  clear hf6 hb6
  go_wp2_with (go_at_call 148; refine (one_any 8 _ _ _ _ (unhide HF6) rfl).mono ?_)
  rintro e w7 ⟨v7, rfl, hf7, hb7⟩
  have HF7 := hide hf7
  have Hx7 := hide ((unhide Hx6).later hb7)
  have Hy7 := hide ((unhide Hy6).later hb7)
  have Hp7 := hide ((unhide Hp6).later hb7)
  have Hq7 := hide ((unhide Hq6).later hb7)
  have Ht7 := hide ((unhide Ht6).later hb7)
  have Hu7 := hide ((unhide HF6).later hb7)
  have HB7 := hide ((unhide HB6).trans (hb7.mono (unhide HB6).size))
  clear hf7 hb7
  go_wp2_with fail
  go_ret
  exact ⟨_, rfl, unhide HF7, unhide HB7⟩

set_option maxHeartbeats 2000000 in
theorem stands_11 (w : World) (a b : Int) (s : ByteArray) (c : Int) (o : Option Addr) (n k : Nat) (d : Int) (p : Option Addr) (x y : Tk) (ha : ActsAre w o n k [x, y]) (hw : s.toList = [110, 111, 116, 110, 101, 120, 116]) :
    Calls Tryz.prog 114 #[rlV a b s c o n k d p] w fun e w' => ∃ v, e = .returned (.pointer v) ∧ IsF w' (tplF 11 x.s y.s 0) v ∧ Below w.heap.size w w' := by
  obtain ⟨g, hgo, hg, _, t0, t1, t2⟩ := ha.tok (i := 0) (t := x) (r := [y]) rfl
  subst hgo
  obtain ⟨g', hgo, _, _, u0, u1, u2⟩ := ha.tok (i := 1) (t := y) (r := []) rfl
  cases hgo
  have hn : n = 2 := ha.len
  subst hn
  clear ha
  simp only [rlV]
  have e0 : (s.toList == [105, 110, 105, 116]) = false := by rw [hw]; decide
  have e1 : (s.toList == [108, 97, 115, 116]) = false := by rw [hw]; decide
  have e2 : (s.toList == [115, 111, 109, 101]) = false := by rw [hw]; decide
  have e3 : (s.toList == [102, 101, 119]) = false := by rw [hw]; decide
  have e4 : (s.toList == [114, 101, 115, 112, 111, 110, 115, 101]) = false := by rw [hw]; decide
  have e5 : (s.toList == [112, 114, 101, 99, 101, 100, 101]) = false := by rw [hw]; decide
  have e6 : (s.toList == [99, 104, 97, 105, 110]) = false := by rw [hw]; decide
  have e7 : (s.toList == [98, 101, 102, 111, 114, 101]) = false := by rw [hw]; decide
  have e8 : (s.toList == [119, 105, 116, 104]) = false := by rw [hw]; decide
  have e9 : (s.toList == [97, 112, 97, 114, 116]) = false := by rw [hw]; decide
  have e10 : (s.toList == [110, 101, 118, 101, 114]) = false := by rw [hw]; decide
  clear hw
  simp at t0 t1 t2 u0 u1 u2
  go_enter Tryz.func114, Tryz.ntmps114
  go_wp2_with (go_at_call 147; refine (act_any _ _).mono ?_)
  rintro e w1 ⟨v1, rfl, hf1, hb1⟩
  have HF1 := hide hf1
  have HB1 := hide (((Below.refl w.heap.size w).alloc (Nat.le_refl _) _).trans (hb1.mono (by simp)))
  have HX1 := hide ((hb1.block w.heap.size (by simp)).trans (blk_alloc _ _))
  have hz1 : w.heap.size < w1.heap.size := lt_of_blk (unhide HX1)
  clear hf1 hb1
  go_wp2_with (go_at_call 147; refine (act_any _ _).mono ?_)
  rintro e w2 ⟨v2, rfl, hf2, hb2⟩
  have HF2 := hide hf2
  have Hx2 := hide ((unhide HF1).later hb2)
  have HB2 := hide ((unhide HB1).trans (hb2.mono (unhide HB1).size))
  have HX2 := hide ((hb2.block w.heap.size hz1).trans (unhide HX1))
  have hz2 : w.heap.size < w2.heap.size := lt_of_blk (unhide HX2)
  clear hf2 hb2
  have xc := fun o => cell_of_blk (unhide HX2) o
  go_wp2_with (go_at_call 148; refine (one_any 5 _ _ _ _ (unhide HF2) rfl).mono ?_)
  rintro e w3 ⟨v3, rfl, hf3, hb3⟩
  have HF3 := hide hf3
  have Hx3 := hide ((unhide Hx2).later hb3)
  have Hy3 := hide ((unhide HF2).later hb3)
  have HB3 := hide ((unhide HB2).trans (hb3.mono (unhide HB2).size))
  clear hf3 hb3
  go_wp2_with (go_at_call 148; refine (one_any 4 _ _ _ _ (unhide HF3) rfl).mono ?_)
  rintro e w4 ⟨v4, rfl, hf4, hb4⟩
  have HF4 := hide hf4
  have Hx4 := hide ((unhide Hx3).later hb4)
  have Hy4 := hide ((unhide Hy3).later hb4)
  have Hp4 := hide ((unhide HF3).later hb4)
  have HB4 := hide ((unhide HB3).trans (hb4.mono (unhide HB3).size))
  clear hf4 hb4
  go_wp2_with (go_at_call 149; refine (two_any 12 _ _ _ _ _ _ (unhide Hx4) (unhide HF4) rfl).mono ?_)
  rintro e w5 ⟨v5, rfl, hf5, hb5⟩
  have HF5 := hide hf5
  have Hx5 := hide ((unhide Hx4).later hb5)
  have Hy5 := hide ((unhide Hy4).later hb5)
  have Hp5 := hide ((unhide Hp4).later hb5)
  have Hq5 := hide ((unhide HF4).later hb5)
  have HB5 := hide ((unhide HB4).trans (hb5.mono (unhide HB4).size))
  clear hf5 hb5
  go_wp2_with (go_at_call 148; refine (one_any 8 _ _ _ _ (unhide HF5) rfl).mono ?_)
  rintro e w6 ⟨v6, rfl, hf6, hb6⟩
  have HF6 := hide hf6
  have Hx6 := hide ((unhide Hx5).later hb6)
  have Hy6 := hide ((unhide Hy5).later hb6)
  have Hp6 := hide ((unhide Hp5).later hb6)
  have Hq6 := hide ((unhide Hq5).later hb6)
  have Ht6 := hide ((unhide HF5).later hb6)
  have HB6 := hide ((unhide HB5).trans (hb6.mono (unhide HB5).size))
  clear hf6 hb6
  go_wp2_with fail
  go_ret
  exact ⟨_, rfl, unhide HF6, unhide HB6⟩
end Go.Proofs.YtoclbcffbhldmaaGreatDoor
