/- The law of Print: its steps, by the contract of the program's Print. -/
import Derived.Test.YtoclbcffbhldmaaGreatDoorGv
import Derived.Test.YtoclbcffbhldmaaGreatDoorF90
set_option linter.unusedSimpArgs false
namespace Go.Proofs.YtoclbcffbhldmaaGreatDoor
open Go.RowKit Go.Deep

/-- The program's Print answers as the reference's. -/
def PrintOk : Prop := ∀ (s : ByteArray) (w : World), GV w → Calls Tryz.prog 25 #[.string s] w fun e w' => e = .returned (.tuple #[.string (printM s).1, .int .i64 (printM s).2.1, .int .i64 (printM s).2.2]) ∧ Below w.heap.size w w'

/-- The law's world, in which nothing has been kept. -/
def LW (w : World) (lb : Nat) : Prop := w.heap[lb]? = some (.cells #[.slice none 0 0, .int .i64 0, .slice none 0 0, .slice none 0 0, .slice none 0 0, .slice none 0 0, .slice none 0 0, .slice none 0 0, .slice none 0 0] 33 (0, 0))
theorem LW.later {w w' : World} {lb : Nat} (h : LW w lb) (hb : Below w.heap.size w w') : LW w' lb := (hb.block lb (lt_of_blk h)).trans h

theorem num_any (a : Int) (w : World) : Calls Tryz.prog 27 #[.int .i64 a] w fun e w' => e = .returned (.int .i64 a) ∧ w' = w := by
  go_enter Tryz.func27, Tryz.ntmps27
  go_wp2_with fail
  go_ret
  exact ⟨rfl, rfl⟩

set_option maxHeartbeats 2000000 in
set_option maxRecDepth 100000 in
theorem models_print (hP : PrintOk) (w : World) (lb : Nat) (oa : Int) (os ot : ByteArray) (l1 : Option Addr) (l2 l3 : Nat) (f1 : Option Addr) (f2 f3 : Nat) (m1 : Option Addr) (m2 m3 : Nat) (hG : GV w) :
    Calls Tryz.prog 10 #[.pointer (some ⟨lb, 0, none⟩), (.agg #[.int .i64 1, .int .i64 oa, .string os, .string ot, .slice l1 l2 l3, .slice f1 f2 f3, .slice m1 m2 m3])] w fun e w' => e = .returned (.bool true) ∧ Below w.heap.size w w' := by
  have HP := hide hP
  have HG := hide hG
  clear hP hG
  go_enter Tryz.func10, Tryz.ntmps10
  go_wp2_with fail
  refine ((unhide HP) os _ ((unhide HG).alloc _)).mono ?_
  rintro e w1 ⟨rfl, hb1⟩
  have HB1 := hide hb1
  have hbx := (hb1.block w.heap.size (by simp)).trans (blk_alloc w (.cells #[.int .i64 1, .int .i64 oa, .string os, .string ot, .slice l1 l2 l3, .slice f1 f2 f3, .slice m1 m2 m3] 39))
  have hz1 : w.heap.size < w1.heap.size := lt_of_blk hbx
  have bc := fun o => cell_of_blk hbx o
  clear hb1 hbx
  have HPR := hide (Print_any os)
  generalize printM os = pm at *
  obtain ⟨tx, pl, er⟩ := pm
  go_wp2_with fail
  refine ((unhide HPR) _).mono ?_
  rintro e w2 ⟨rfl, hb2⟩
  have HB2 := hide hb2
  clear hb2
  go_wp2_with (go_at_call 27; refine (num_any _ _).mono ?_; rintro e w3 ⟨rfl, rfl⟩)
  go_ret
  exact ⟨rfl, (((Below.refl _ _).alloc (Nat.le_refl _) _).trans ((unhide HB1).mono (by simp))).trans ((unhide HB2).mono (by omega))⟩

set_option maxHeartbeats 2000000 in
set_option maxRecDepth 100000 in
theorem step_print (hP : PrintOk) (w : World) (lb : Nat) (oa : Int) (os ot : ByteArray) (l1 : Option Addr) (l2 l3 : Nat) (f1 : Option Addr) (f2 f3 : Nat) (m1 : Option Addr) (m2 m3 : Nat) (hG : GV w) :
    Calls Tryz.prog 7 #[.pointer (some ⟨lb, 0, none⟩), (.agg #[.int .i64 1, .int .i64 oa, .string os, .string ot, .slice l1 l2 l3, .slice f1 f2 f3, .slice m1 m2 m3])] w fun e w' => e = .returned (.bool true) ∧ Below w.heap.size w w' := by
  have HM := hide (models_print hP)
  have HG := hide hG
  clear hP hG
  go_enter Tryz.func7, Tryz.ntmps7
  go_wp2_with fail
  refine ((unhide HM) _ lb oa os ot l1 l2 l3 f1 f2 f3 m1 m2 m3 ((unhide HG).alloc _)).mono ?_
  rintro e w1 ⟨rfl, hb1⟩
  have HB1 := hide hb1
  clear hb1
  go_wp2_with fail
  go_ret
  exact ⟨rfl, ((Below.refl _ _).alloc (Nat.le_refl _) _).trans ((unhide HB1).mono (by simp))⟩

set_option maxHeartbeats 2000000 in
set_option maxRecDepth 100000 in
theorem looks_none (w : World) (lb : Nat) (h : LW w lb) : Calls Tryz.prog 9 #[.pointer (some ⟨lb, 0, none⟩)] w fun e w' => e = .returned (.bool true) ∧ w' = w := by
  have bc := fun o => cell_of_blk h o
  clear h
  go_enter Tryz.func9, Tryz.ntmps9
  go_wp2_with fail
  go_loopw [3] (fun v wr => v = .int .i64 0 ∧ w = wr) (fun _ _ => 0)
  case atStart => exact ⟨rfl, rfl⟩
  case round =>
    obtain ⟨rfl, hw⟩ := hrel
    subst hw
    go_wp2_with fail
    go_loopw [9] (fun v wr => v = .int .i64 0 ∧ w = wr) (fun _ _ => 0)
    case atStart => exact ⟨rfl, rfl⟩
    case round =>
      obtain ⟨rfl, hw⟩ := hrel
      subst hw
      go_wp2_with fail
      go_loopw [15] (fun v wr => v = .int .i64 0 ∧ w = wr) (fun _ _ => 0)
      case atStart => exact ⟨rfl, rfl⟩
      case round =>
        obtain ⟨rfl, hw⟩ := hrel
        subst hw
        go_wp2_with fail
        go_ret
        exact ⟨rfl, rfl⟩

set_option maxHeartbeats 2000000 in
set_option maxRecDepth 100000 in
theorem settle_none (w : World) (lb : Nat) (h : LW w lb) : Calls Tryz.prog 8 #[.pointer (some ⟨lb, 0, none⟩)] w fun e w' => e = .returned (.bool true) ∧ LW w' lb ∧ w.grownBy w' (some lb) := by
  have bc := fun o => cell_of_blk h o
  have bf := fun o => frozen_of_blk h o
  have H := hide h
  have hlt := lt_of_blk h
  clear h
  go_enter Tryz.func8, Tryz.ntmps8
  go_wp2_with fail
  go_loopw [3, 4] (fun o v wr => o = .bool true ∧ v = .int .i64 0 ∧ w = wr) (fun _ _ _ => 0)
  case atStart => exact ⟨rfl, rfl, rfl⟩
  case round =>
    obtain ⟨rfl, rfl, hw⟩ := hrel
    subst hw
    go_wp2_with fail
    go_loopw [3, 6] (fun o v wr => o = .bool true ∧ v = .int .i64 0 ∧ w = wr) (fun _ _ _ => 0)
    case atStart => exact ⟨rfl, rfl, rfl⟩
    case round =>
      obtain ⟨rfl, rfl, hw⟩ := hrel
      subst hw
      go_wp2_with fail
      go_loopw [8] (fun v wr => v = .int .i64 0 ∧ w = wr) (fun _ _ => 0)
      case atStart => exact ⟨rfl, rfl⟩
      case round =>
        obtain ⟨rfl, hw⟩ := hrel
        subst hw
        go_wp2_with fail
        go_loopw [9] (fun v wr => v = .int .i64 0 ∧ w = wr) (fun _ _ => 0)
        case atStart => exact ⟨rfl, rfl⟩
        case round =>
          obtain ⟨rfl, hw⟩ := hrel
          subst hw
          go_wp2_with fail
          go_ret
          exact ⟨rfl, blk_set (blk_set (blk_set (blk_set (unhide H) 5 _) 6 _) 7 _) 8 _, (((grown_set _ _ _ _).trans (grown_set _ _ _ _)).trans (grown_set _ _ _ _)).trans (grown_set _ _ _ _)⟩

/-- The steps of the opening, in memory. -/
def opC (p q : Option Addr) : Array Value := #[.int .i64 1, .int .i64 0, .string ⟨#[97, 99, 116, 115, 32, 97, 44, 98, 59, 114, 117, 108, 101, 32, 114, 101, 115, 112, 111, 110, 115, 101, 40, 97, 44, 98, 41, 59]⟩, .string ⟨#[]⟩, .slice none 0 0, .slice none 0 0, .slice none 0 0, .int .i64 1, .int .i64 0, .string ⟨#[97, 99, 116, 115, 32, 97]⟩, .string ⟨#[]⟩, .slice none 0 0, .slice none 0 0, .slice none 0 0, .int .i64 2, .int .i64 0, .string ⟨#[97, 99, 116, 115, 32, 97, 44, 98, 59, 114, 117, 108, 101, 32, 114, 101, 115, 112, 111, 110, 115, 101, 40, 97, 44, 98, 41, 59]⟩, .string ⟨#[]⟩, .slice p 2 2, .slice none 0 0, .slice none 0 0, .int .i64 2, .int .i64 0, .string ⟨#[97, 99, 116, 115, 32, 97, 44, 98, 59, 114, 117, 108, 101, 32, 114, 101, 115, 112, 111, 110, 115, 101, 40, 97, 44, 98, 41, 59]⟩, .string ⟨#[]⟩, .slice q 1 1, .slice none 0 0, .slice none 0 0, .int .i64 3, .int .i64 0, .string ⟨#[97, 99, 116, 115, 32, 97, 44, 98, 59, 114, 117, 108, 101, 32, 114, 101, 115, 112, 111, 110, 115, 101, 40, 97, 44, 98, 41, 59]⟩, .string ⟨#[]⟩, .slice none 0 0, .slice none 0 0, .slice none 0 0, .int .i64 3, .int .i64 0, .string ⟨#[97, 99, 116, 115]⟩, .string ⟨#[]⟩, .slice none 0 0, .slice none 0 0, .slice none 0 0, .int .i64 4, .int .i64 0, .string ⟨#[]⟩, .string ⟨#[]⟩, .slice none 0 0, .slice none 0 0, .slice none 0 0, .int .i64 5, .int .i64 0, .string ⟨#[97, 99, 116, 115, 32, 97, 44, 98, 59, 114, 117, 108, 101, 32, 114, 101, 115, 112, 111, 110, 115, 101, 40, 97, 44, 98, 41, 59]⟩, .string ⟨#[]⟩, .slice none 0 0, .slice none 0 0, .slice none 0 0, .int .i64 6, .int .i64 0, .string ⟨#[83]⟩, .string ⟨#[]⟩, .slice none 0 0, .slice none 0 0, .slice none 0 0, .int .i64 7, .int .i64 0, .string ⟨#[97, 99, 116, 115, 32, 97, 44, 98, 59, 114, 117, 108, 101, 32, 114, 101, 115, 112, 111, 110, 115, 101, 40, 97, 44, 98, 41, 59]⟩, .string ⟨#[]⟩, .slice none 0 0, .slice none 0 0, .slice none 0 0, .int .i64 8, .int .i64 0, .string ⟨#[]⟩, .string ⟨#[]⟩, .slice none 0 0, .slice none 0 0, .slice none 0 0, .int .i64 9, .int .i64 0, .string ⟨#[97, 99, 116, 115, 32, 97, 44, 98, 59, 114, 117, 108, 101, 32, 114, 101, 115, 112, 111, 110, 115, 101, 40, 97, 44, 98, 41, 59]⟩, .string ⟨#[]⟩, .slice none 0 0, .slice none 0 0, .slice none 0 0, .int .i64 10, .int .i64 0, .string ⟨#[120]⟩, .string ⟨#[]⟩, .slice none 0 0, .slice none 0 0, .slice none 0 0, .int .i64 11, .int .i64 0, .string ⟨#[120]⟩, .string ⟨#[97]⟩, .slice none 0 0, .slice none 0 0, .slice none 0 0, .int .i64 12, .int .i64 0, .string ⟨#[120]⟩, .string ⟨#[]⟩, .slice none 0 0, .slice none 0 0, .slice none 0 0, .int .i64 13, .int .i64 0, .string ⟨#[120]⟩, .string ⟨#[]⟩, .slice none 0 0, .slice none 0 0, .slice none 0 0, .int .i64 14, .int .i64 0, .string ⟨#[120]⟩, .string ⟨#[]⟩, .slice none 0 0, .slice none 0 0, .slice none 0 0, .int .i64 15, .int .i64 0, .string ⟨#[]⟩, .string ⟨#[]⟩, .slice none 0 0, .slice none 0 0, .slice none 0 0]
set_option maxHeartbeats 2000000 in
set_option maxRecDepth 100000 in
theorem opening_any (w : World) : Calls Tryz.prog 6 #[] w fun e w' => e = .returned (.slice (some ⟨w.heap.size + 2, 0, none⟩) 18 18) ∧ w' = ((w.alloc (.cells #[.string ⟨#[97]⟩, .string ⟨#[98]⟩] 9)).alloc (.cells #[.string ⟨#[99]⟩] 9)).alloc (.cells (opC (some ⟨w.heap.size, 0, none⟩) (some ⟨w.heap.size + 1, 0, none⟩)) 39) := by
  go_enter Tryz.func6, Tryz.ntmps6
  go_wp2_with fail
  go_ret
  exact ⟨rfl, rfl⟩
end Go.Proofs.YtoclbcffbhldmaaGreatDoor
/- The law of Print, played over any script. -/
set_option linter.unusedSimpArgs false
namespace Go.Proofs.YtoclbcffbhldmaaGreatDoor
open Go.RowKit Go.Deep

/-- A script in memory: n steps. -/
def Sc (w : World) (o : Option Addr) (n : Nat) : Prop := ∀ i, i < n → ∃ b off, o = some ⟨b, off, none⟩ ∧ b < w.heap.size ∧ ∃ (kd oa : Int) (os ot : ByteArray) (l1 : Option Addr) (l2 l3 : Nat) (f1 : Option Addr) (f2 f3 : Nat) (m1 : Option Addr) (m2 m3 : Nat),
    w.cell? ⟨b, off + i * 7, none⟩ = some (.int .i64 kd) ∧ w.cell? ⟨b, off + i * 7 + 1, none⟩ = some (.int .i64 oa) ∧ w.cell? ⟨b, off + i * 7 + 2, none⟩ = some (.string os) ∧ w.cell? ⟨b, off + i * 7 + 3, none⟩ = some (.string ot) ∧
    w.cell? ⟨b, off + i * 7 + 4, none⟩ = some (.slice l1 l2 l3) ∧ w.cell? ⟨b, off + i * 7 + 5, none⟩ = some (.slice f1 f2 f3) ∧ w.cell? ⟨b, off + i * 7 + 6, none⟩ = some (.slice m1 m2 m3)
theorem Sc.later {w w' : World} {o : Option Addr} {n : Nat} (h : Sc w o n) (hb : Below w.heap.size w w') : Sc w' o n := by
  intro i hi
  obtain ⟨b, off, ho, hlt, kd, oa, os, ot, l1, l2, l3, f1, f2, f3, m1, m2, m3, h0, h1, h2, h3, h4, h5, h6⟩ := h i hi
  have e := fun a => bcell3 hb b a hlt
  exact ⟨b, off, ho, Nat.lt_of_lt_of_le hlt hb.size, kd, oa, os, ot, l1, l2, l3, f1, f2, f3, m1, m2, m3, (e _).trans h0, (e _).trans h1, (e _).trans h2, (e _).trans h3, (e _).trans h4, (e _).trans h5, (e _).trans h6⟩
theorem opC_kind (p q : Option Addr) (i : Nat) (h2 : 2 ≤ i) (h : i < 18) : ∃ kd : Int, (opC p q)[i * 7]? = some (.int .i64 kd) ∧ 2 ≤ kd := by
  have : i = 2 ∨ i = 3 ∨ i = 4 ∨ i = 5 ∨ i = 6 ∨ i = 7 ∨ i = 8 ∨ i = 9 ∨ i = 10 ∨ i = 11 ∨ i = 12 ∨ i = 13 ∨ i = 14 ∨ i = 15 ∨ i = 16 ∨ i = 17 := by omega
  rcases this with rfl | rfl | rfl | rfl | rfl | rfl | rfl | rfl | rfl | rfl | rfl | rfl | rfl | rfl | rfl | rfl
  all_goals exact ⟨_, rfl, by decide⟩

set_option maxHeartbeats 4000000 in
set_option maxRecDepth 100000 in
theorem plays_prints (hP : PrintOk) (w : World) (o : Option Addr) (n k : Nat) (hS : Sc w o n) (hG : GV w) :
    Calls Tryz.prog 5 #[.slice o n k, .int .i64 1, .int .i64 1] w fun e w' => e = .returned (.bool true) ∧ Below w.heap.size w w' := by
  have HST := hide (step_print hP)
  have HS := hide hS
  have HG := hide hG
  clear hP hS hG
  go_enter Tryz.func5, Tryz.ntmps5
  go_wp2_with (go_at_call 6; refine (opening_any _).mono ?_; rintro e w1 ⟨rfl, rfl⟩)
  have hLW : LW ((((w.alloc (.cells #[.slice none 0 0, .int .i64 0, .slice none 0 0, .slice none 0 0, .slice none 0 0, .slice none 0 0, .slice none 0 0, .slice none 0 0, .slice none 0 0] 33)).alloc (.cells #[.string ⟨#[97]⟩, .string ⟨#[98]⟩] 9)).alloc (.cells #[.string ⟨#[99]⟩] 9)).alloc (.cells (opC (some ⟨w.heap.size + 1, 0, none⟩) (some ⟨w.heap.size + 2, 0, none⟩)) 39)) w.heap.size := (Below.heap_alloc _ _ _ (by simp; omega)).trans ((Below.heap_alloc _ _ _ (by simp; omega)).trans ((Below.heap_alloc _ _ _ (by simp)).trans (blk_alloc _ _)))
  have hOP : ((((w.alloc (.cells #[.slice none 0 0, .int .i64 0, .slice none 0 0, .slice none 0 0, .slice none 0 0, .slice none 0 0, .slice none 0 0, .slice none 0 0, .slice none 0 0] 33)).alloc (.cells #[.string ⟨#[97]⟩, .string ⟨#[98]⟩] 9)).alloc (.cells #[.string ⟨#[99]⟩] 9)).alloc (.cells (opC (some ⟨w.heap.size + 1, 0, none⟩) (some ⟨w.heap.size + 2, 0, none⟩)) 39)).heap[w.heap.size + 3]? = some (.cells (opC (some ⟨w.heap.size + 1, 0, none⟩) (some ⟨w.heap.size + 2, 0, none⟩)) 39 (0, 0)) := blk_alloc' _ _ _ (by simp)
  have hBE : Below w.heap.size w ((((w.alloc (.cells #[.slice none 0 0, .int .i64 0, .slice none 0 0, .slice none 0 0, .slice none 0 0, .slice none 0 0, .slice none 0 0, .slice none 0 0, .slice none 0 0] 33)).alloc (.cells #[.string ⟨#[97]⟩, .string ⟨#[98]⟩] 9)).alloc (.cells #[.string ⟨#[99]⟩] 9)).alloc (.cells (opC (some ⟨w.heap.size + 1, 0, none⟩) (some ⟨w.heap.size + 2, 0, none⟩)) 39)) := ((((Below.refl _ _).alloc (Nat.le_refl _) _).alloc (by simp) _).alloc (by simp; omega) _).alloc (by simp; omega) _
  have HLW := hide hLW
  have HOP := hide hOP
  have HBE := hide hBE
  clear hLW hOP hBE
  generalize ((((w.alloc (.cells #[.slice none 0 0, .int .i64 0, .slice none 0 0, .slice none 0 0, .slice none 0 0, .slice none 0 0, .slice none 0 0, .slice none 0 0, .slice none 0 0] 33)).alloc (.cells #[.string ⟨#[97]⟩, .string ⟨#[98]⟩] 9)).alloc (.cells #[.string ⟨#[99]⟩] 9)).alloc (.cells (opC (some ⟨w.heap.size + 1, 0, none⟩) (some ⟨w.heap.size + 2, 0, none⟩)) 39)) = W2 at *
  have hz2 : w.heap.size + 3 < W2.heap.size := lt_of_blk (unhide HOP)
  go_loopw [9] (fun v wr => ∃ i : Nat, i ≤ 18 ∧ v = .int .i64 i ∧ Below W2.heap.size W2 wr) (fun v _ => 18 - (intOf v).toNat)
  case atStart => exact ⟨0, Nat.zero_le _, rfl, Below.refl _ _⟩
  case round =>
    obtain ⟨i, hi, rfl, hbel⟩ := hrel
    have HBEL := hide hbel
    have HBW := hide ((unhide HBE).trans (hbel.mono (unhide HBE).size))
    have hop := (hbel.block _ hz2).trans (unhide HOP)
    have hzr : w.heap.size + 3 < wr.heap.size := lt_of_blk hop
    by_cases hlt : i < 18
    · have h3 : i = 0 ∨ i = 1 ∨ 2 ≤ i := by omega
      rcases h3 with rfl | rfl | h3
      · have c0 : wr.cell? ⟨w.heap.size + 3, 0, none⟩ = some (.int .i64 1) := (cell_of_blk hop 0).trans rfl
        have c1 : wr.cell? ⟨w.heap.size + 3, 1, none⟩ = some (.int .i64 0) := (cell_of_blk hop 1).trans rfl
        have c2 : wr.cell? ⟨w.heap.size + 3, 2, none⟩ = some (.string ⟨#[97, 99, 116, 115, 32, 97, 44, 98, 59, 114, 117, 108, 101, 32, 114, 101, 115, 112, 111, 110, 115, 101, 40, 97, 44, 98, 41, 59]⟩) := (cell_of_blk hop 2).trans rfl
        have c3 : wr.cell? ⟨w.heap.size + 3, 3, none⟩ = some (.string ⟨#[]⟩) := (cell_of_blk hop 3).trans rfl
        have c4 : wr.cell? ⟨w.heap.size + 3, 4, none⟩ = some (.slice none 0 0) := (cell_of_blk hop 4).trans rfl
        have c5 : wr.cell? ⟨w.heap.size + 3, 5, none⟩ = some (.slice none 0 0) := (cell_of_blk hop 5).trans rfl
        have c6 : wr.cell? ⟨w.heap.size + 3, 6, none⟩ = some (.slice none 0 0) := (cell_of_blk hop 6).trans rfl
        clear hop hbel
        go_wp2_with fail
        refine ((unhide HST) _ _ _ _ _ _ _ _ _ _ _ _ _ _ ((unhide HG).later (unhide HBW))).mono ?_
        rintro e w3 ⟨rfl, hb3⟩
        have HB3 := hide ((unhide HBEL).trans (hb3.mono (unhide HBEL).size))
        clear hb3
        go_wp2_with fail
        go_roundw
        case rel => exact ⟨1, by omega, by go_num, unhide HB3⟩
        case measure => simp [intOf]
      · have c0 : wr.cell? ⟨w.heap.size + 3, 7, none⟩ = some (.int .i64 1) := (cell_of_blk hop 7).trans rfl
        have c1 : wr.cell? ⟨w.heap.size + 3, 8, none⟩ = some (.int .i64 0) := (cell_of_blk hop 8).trans rfl
        have c2 : wr.cell? ⟨w.heap.size + 3, 9, none⟩ = some (.string ⟨#[97, 99, 116, 115, 32, 97]⟩) := (cell_of_blk hop 9).trans rfl
        have c3 : wr.cell? ⟨w.heap.size + 3, 10, none⟩ = some (.string ⟨#[]⟩) := (cell_of_blk hop 10).trans rfl
        have c4 : wr.cell? ⟨w.heap.size + 3, 11, none⟩ = some (.slice none 0 0) := (cell_of_blk hop 11).trans rfl
        have c5 : wr.cell? ⟨w.heap.size + 3, 12, none⟩ = some (.slice none 0 0) := (cell_of_blk hop 12).trans rfl
        have c6 : wr.cell? ⟨w.heap.size + 3, 13, none⟩ = some (.slice none 0 0) := (cell_of_blk hop 13).trans rfl
        clear hop hbel
        go_wp2_with fail
        refine ((unhide HST) _ _ _ _ _ _ _ _ _ _ _ _ _ _ ((unhide HG).later (unhide HBW))).mono ?_
        rintro e w3 ⟨rfl, hb3⟩
        have HB3 := hide ((unhide HBEL).trans (hb3.mono (unhide HBEL).size))
        clear hb3
        go_wp2_with fail
        go_roundw
        case rel => exact ⟨2, by omega, by go_num, unhide HB3⟩
        case measure => simp [intOf]
      · obtain ⟨kd, hk1, hk2⟩ := opC_kind (some ⟨w.heap.size + 1, 0, none⟩) (some ⟨w.heap.size + 2, 0, none⟩) i h3 hlt
        have c0 : wr.cell? ⟨w.heap.size + 3, i * 7, none⟩ = some (.int .i64 kd) := (cell_of_blk hop (i * 7)).trans hk1
        have hk3 : (1 : Int) ≤ kd := by omega
        have hk4 : ¬ kd ≤ (1 : Int) := by omega
        clear hop hbel hk1
        go_wp2_with fail
        go_roundw
        case rel => exact ⟨i + 1, by omega, by go_num, unhide HBEL⟩
        case measure => simp [intOf]; omega
    · have hie : ¬ ((i : Int) < 18) := by omega
      have HLW2 := hide ((unhide HLW).later hbel)
      clear hbel hop hlt hi hzr HBEL HLW HOP HBE
      go_wp2_with fail
      go_loopw [11] (fun v wq => ∃ i : Nat, i ≤ n ∧ i ≤ 1152921504606846976 ∧ v = .int .i64 i ∧ Below w.heap.size w wq ∧ LW wq w.heap.size) (fun v _ => n - (intOf v).toNat)
      case atStart => exact ⟨0, Nat.zero_le _, by decide, rfl, unhide HBW, unhide HLW2⟩
      case round =>
        clear HBW HLW2
        obtain ⟨i, hi, him, rfl, hbw, hlw⟩ := hrel
        have HBW := hide hbw
        have HLW := hide hlw
        have hgr := (unhide HG).later hbw
        have HGR := hide hgr
        have hzr : w.heap.size < wr.heap.size := lt_of_blk hlw
        by_cases hlt : i < n ∧ i < 1152921504606846976
        · obtain ⟨b, off, hob, hlb, kd, oa, os, ot, l1, l2, l3, f1, f2, f3, m1, m2, m3, c0, c1, c2, c3, c4, c5, c6⟩ := ((unhide HS).later hbw) i hlt.1
          subst hob
          have hin : (i : Int) < 1152921504606846976 := by omega
          have hin2 : (i : Int) < (n : Int) := by omega
          clear hbw hlw hgr
          by_cases hk : kd = 1
          · subst hk
            go_wp2_with fail
            refine ((unhide HST) _ _ _ _ _ _ _ _ _ _ _ _ _ _ ((unhide HGR).alloc _)).mono ?_
            rintro e w3 ⟨rfl, hb3⟩
            have hbl3 := ((Below.refl wr.heap.size wr).alloc (Nat.le_refl _) (.cells #[.int .i64 1, .int .i64 oa, .string os, .string ot, .slice l1 l2 l3, .slice f1 f2 f3, .slice m1 m2 m3] 39)).trans (hb3.mono (by simp))
            have HLW3 := hide ((unhide HLW).later hbl3)
            have HBW3 := hide ((unhide HBW).trans (hbl3.mono (unhide HBW).size))
            clear hb3 hbl3
            have h3 : (i : Int).tmod 3 = 0 ∨ (i : Int).tmod 3 = 1 ∨ (i : Int).tmod 3 = 2 := by rw [Int.tmod_eq_emod_of_nonneg (by omega)]; omega
            rcases h3 with hm | hm | hm
            · go_wp2_with fail
              refine (looks_none _ _ (unhide HLW3)).mono ?_
              rintro e w5 ⟨rfl, rfl⟩
              go_wp2_with fail
              go_roundw
              case rel => exact ⟨i + 1, by omega, by omega, by go_num, unhide HBW3, unhide HLW3⟩
              case measure => simp [intOf]; omega
            · go_wp2_with fail
              refine (looks_none _ _ (unhide HLW3)).mono ?_
              rintro e w5 ⟨rfl, rfl⟩
              go_wp2_with fail
              go_roundw
              case rel => exact ⟨i + 1, by omega, by omega, by go_num, unhide HBW3, unhide HLW3⟩
              case measure => simp [intOf]; omega
            · go_wp2_with fail
              refine (settle_none _ _ (unhide HLW3)).mono ?_
              rintro e w4 ⟨rfl, hlw4, hg4⟩
              have HLW4 := hide hlw4
              have HBW4 := hide (below_grown (unhide HBW3) hg4 (Nat.le_refl _))
              clear hlw4 hg4
              go_wp2_with fail
              refine (looks_none _ _ (unhide HLW4)).mono ?_
              rintro e w5 ⟨rfl, rfl⟩
              go_wp2_with fail
              go_roundw
              case rel => exact ⟨i + 1, by omega, by omega, by go_num, unhide HBW4, unhide HLW4⟩
              case measure => simp [intOf]; omega
          · by_cases hk1 : kd < 1
            · go_wp2_with fail
              go_roundw
              case rel => exact ⟨i + 1, by omega, by omega, by go_num, (unhide HBW).alloc (unhide HBW).size _, (unhide HLW).later ((Below.refl _ _).alloc (Nat.le_refl _) _)⟩
              case measure => simp [intOf]; omega
            · have hk2 : (1 : Int) < kd := by omega
              go_wp2_with fail
              go_roundw
              case rel => exact ⟨i + 1, by omega, by omega, by go_num, (unhide HBW).alloc (unhide HBW).size _, (unhide HLW).later ((Below.refl _ _).alloc (Nat.le_refl _) _)⟩
              case measure => simp [intOf]; omega
        · by_cases hln : i < n
          · have hin : ¬ ((i : Int) < 1152921504606846976) := by omega
            have hin2 : (i : Int) < (n : Int) := by omega
            clear hlt
            clear hbw hlw hgr
            go_wp2_with fail
            refine (settle_none _ _ (unhide HLW)).mono ?_
            rintro e w4 ⟨rfl, hlw4, hg4⟩
            have HLW4 := hide hlw4
            have HBW4 := hide (below_grown (unhide HBW) hg4 (Nat.le_refl _))
            clear hlw4 hg4
            go_wp2_with fail
            refine (looks_none _ _ (unhide HLW4)).mono ?_
            rintro e w5 ⟨rfl, rfl⟩
            go_wp2_with fail
            go_ret
            exact ⟨rfl, unhide HBW4⟩
          · have hin2 : ¬ ((i : Int) < (n : Int)) := by omega
            clear hlt
            clear hbw hlw hgr
            go_wp2_with fail
            refine (settle_none _ _ (unhide HLW)).mono ?_
            rintro e w4 ⟨rfl, hlw4, hg4⟩
            have HLW4 := hide hlw4
            have HBW4 := hide (below_grown (unhide HBW) hg4 (Nat.le_refl _))
            clear hlw4 hg4
            go_wp2_with fail
            refine (looks_none _ _ (unhide HLW4)).mono ?_
            rintro e w5 ⟨rfl, rfl⟩
            go_wp2_with fail
            go_ret
            exact ⟨rfl, unhide HBW4⟩

set_option maxHeartbeats 1000000 in
theorem Prints_any (hP : PrintOk) (w : World) (o : Option Addr) (n k : Nat) (hS : Sc w o n) (hG : GV w) :
    Calls Tryz.prog 3 #[.slice o n k] w fun e w' => e = .returned (.bool true) ∧ Below w.heap.size w w' := by
  have HPL := hide (plays_prints hP w o n k hS hG)
  clear hP hS hG
  go_enter Tryz.func3, Tryz.ntmps3
  go_wp2_with fail
  refine (unhide HPL).mono ?_
  rintro e w1 ⟨rfl, hb1⟩
  have HB1 := hide hb1
  clear hb1
  go_wp2_with fail
  go_ret
  exact ⟨rfl, unhide HB1⟩
end Go.Proofs.YtoclbcffbhldmaaGreatDoor
