/- The program's sets of places: has, empty, flags, keeping, behind. -/
import Derived.Test.YtidakhhekofkoaaGreatDoorK18
import Derived.Test.YtidakhhekofkoaaGreatDoorK22
import Derived.Test.YtidakhhekofkoaaGreatDoorK01
import Derived.Laws.IdiomStrings
import Derived.Lib.IndexAny
set_option linter.unusedSimpArgs false
set_option linter.unusedVariables false
namespace Go.Proofs.YtidakhhekofkoaaGreatDoor
open Go.RowKit Go.Deep
def bit8 (x : Bool) : UInt8 := if x = true then 1 else 0
theorem bit8_nat (x : Bool) : ((bit8 x).toNat : Int) = if x = true then 1 else 0 := by cases x <;> rfl
def setS (b : List Bool) : ByteArray := ⟨(b.map bit8).toArray⟩
theorem setS_list (b : List Bool) : (setS b).data.toList = b.map bit8 := by unfold setS; simp
theorem setS_size (b : List Bool) : (setS b).size = b.length := by rw [← size_data, setS_list, List.length_map]
theorem bit8_inj {x y : Bool} (h : bit8 x = bit8 y) : x = y := by cases x <;> cases y <;> first | rfl | (revert h; decide)
theorem setS_at {b : List Bool} {k : Nat} (hk : k < (setS b).size) {x : Bool} (h : b[k]? = some x) : ((setS b)[k].toNat : Int) = if x = true then 1 else 0 := by
 have e : (setS b).data.toList[k]? = some (setS b)[k] := by
  rw [List.getElem?_eq_getElem (by rw [size_data]; exact hk)]
  rfl
 rw [setS_list, List.getElem?_map, h] at e
 have e' : bit8 x = (setS b)[k] := Option.some.inj e
 rw [← e', bit8_nat]
set_option maxHeartbeats 1000000 in
set_option maxRecDepth 100000 in
theorem setHas_any (b : List Bool) (k : Nat) (x : Bool) (h : b[k]? = some x) (w : World) :
  Calls Tryz.prog 129 #[.string (setS b), .int .i64 (k : Int)] w fun e w' => e = .returned (.bool x) ∧ w' = w := by
 have hk : k < (setS b).size := by rw [setS_size]; exact (List.getElem?_eq_some_iff.1 h).1
 have HA := hide (setS_at hk h)
 generalize setS b = s at *
 clear h
 go_enter Tryz.func129, Tryz.ntmps129
 go_wp2_with fail
 go_ret
 refine ⟨ret_bool ?_, rfl⟩
 rw [unhide HA]
 cases x <;> decide
theorem setS_any (b : List Bool) : decide (0 ≤ Lib.indexByte (setS b).data.toList 1) = b.any id := by
 rw [← Lib.contains_iff_indexByte, setS_list]
 induction b with
 | nil => rfl
 | cons x r ih =>
  rw [List.map_cons, List.contains_cons, ih, List.any_cons]
  cases x <;> rfl
set_option maxHeartbeats 1000000 in
set_option maxRecDepth 100000 in
theorem setEmpty_any (b : List Bool) (w : World) :
  Calls Tryz.prog 130 #[.string (setS b)] w fun e w' => e = .returned (.bool (!b.any id)) ∧ w' = w := by
 have HC := hide (Tryz.strings_Contains_one (setS b) 1 w)
 rw [setS_any] at HC
 generalize setS b = s at *
 go_enter Tryz.func130, Tryz.ntmps130
 go_wp2_with fail
 refine (unhide HC).mono ?_
 rintro e w1 ⟨rfl, hw⟩
 have h2 := hw.symm
 clear hw
 subst h2
 go_wp2_with fail
 go_ret
 exact ⟨rfl, rfl⟩
set_option maxHeartbeats 1000000 in
set_option maxRecDepth 100000 in
theorem flags_any (b : List Bool) (hb : b ≠ []) (w : World) :
  Calls Tryz.prog 84 #[.string (setS b)] w fun e w' => e = .returned (.int .i64 (flB b : Nat)) ∧ w' = w := by
 obtain ⟨x, hx⟩ : ∃ x, b[0]? = some x := by
  cases b with
  | nil => exact absurd rfl hb
  | cons x r => exact ⟨x, rfl⟩
 have HF : Hid (flB b = (if x = true then 1 else 0) + (if b.any id = true then 2 else 0)) := by
  show _ = _
  unfold flB
  rw [hx]
  rfl
 have HH := hide (setHas_any b 0 x hx w)
 have HE := hide (setEmpty_any b w)
 generalize setS b = s at *
 generalize b.any id = y at *
 clear hx hb
 go_enter Tryz.func84, Tryz.ntmps84
 go_wp2_with fail
 refine (unhide HH).mono ?_
 rintro e w1 ⟨rfl, hw⟩
 have h2 := hw.symm
 clear hw
 subst h2
 cases x with
 | true =>
  go_wp2_with fail
  refine (unhide HE).mono ?_
  rintro e w1 ⟨rfl, hw⟩
  have h2 := hw.symm
  clear hw
  subst h2
  cases y with
  | true =>
   go_wp2_with fail
   go_ret
   exact ⟨by rw [unhide HF]; rfl, rfl⟩
  | false =>
   go_wp2_with fail
   go_ret
   exact ⟨by rw [unhide HF]; rfl, rfl⟩
 | false =>
  go_wp2_with fail
  refine (unhide HE).mono ?_
  rintro e w1 ⟨rfl, hw⟩
  have h2 := hw.symm
  clear hw
  subst h2
  cases y with
  | true =>
   go_wp2_with fail
   go_ret
   exact ⟨by rw [unhide HF]; rfl, rfl⟩
  | false =>
   go_wp2_with fail
   go_ret
   exact ⟨by rw [unhide HF]; rfl, rfl⟩
def bitC (b : List Bool) : Array Value := (b.map fun x => Value.int .u8 ((bit8 x).toNat : Int)).toArray
theorem bitC_at {b : List Bool} {k : Nat} {x : Bool} (h : b[k]? = some x) : (bitC b)[k]? = some (.int .u8 ((bit8 x).toNat : Int)) := by
 unfold bitC
 rw [List.getElem?_toArray, List.getElem?_map, h]
 rfl
theorem bitC_set (b : List Bool) (k : Nat) (x : Bool) : (bitC b).setIfInBounds k (.int .u8 ((bit8 x).toNat : Int)) = bitC (b.set k x) := by
 unfold bitC
 rw [List.setIfInBounds_toArray, List.map_set]
theorem bitC_zero (n : Nat) : bitC (List.replicate n false) = Array.replicate n (.int .u8 0) := by unfold bitC; simp [bit8]
theorem bits_conv (w : World) (g n : Nat) (b : List Bool) (ty : Nat) (m : Nat × Nat) (h : w.heap[g]? = some (.cells (bitC b) ty m)) (hn : b.length = n) :
  (convert 51 151 (.slice (some ⟨g, 0, none⟩) n n)).run Tryz.prog w = .ok (.string (setS b)) w := by
 have := run_convert_bytes_back (P := Tryz.prog) w 51 151 5 ⟨g, 0, none⟩ n (b.map bit8) Tryz.underlying51 Tryz.underlying5 Tryz.underlying151 (fun j hj => by
  have hj' : j < b.length := by simpa using hj
  rw [Addr.add_lit, Nat.zero_add, cell_of_blk h, bitC_at (List.getElem?_eq_getElem hj')]
  simp)
 rw [List.length_map, hn] at this
 exact this
def bitsTo (b : List Bool) (k : Nat) : List Bool := b.take k ++ List.replicate (b.length - k) false
theorem bitsTo_len {b : List Bool} {k : Nat} (hk : k ≤ b.length) : (bitsTo b k).length = b.length := by unfold bitsTo; simp; omega
theorem bitsTo_all (b : List Bool) : bitsTo b b.length = b := by unfold bitsTo; simp
theorem bitsTo_zero (b : List Bool) : bitsTo b 0 = List.replicate b.length false := by unfold bitsTo; simp
theorem bitsTo_succ {b : List Bool} {k : Nat} {x : Bool} (h : b[k]? = some x) : bitsTo b (k + 1) = (bitsTo b k).set k x := by
 have hk := (List.getElem?_eq_some_iff.1 h).1
 unfold bitsTo
 rw [List.take_add_one, h]
 obtain ⟨m, hm⟩ : ∃ m, b.length - k = m + 1 := ⟨b.length - k - 1, by omega⟩
 rw [hm, show b.length - (k + 1) = m by omega]
 have hl : (b.take k).length = k := by rw [List.length_take]; omega
 rw [List.set_append_right _ _ (by omega), hl, Nat.sub_self, List.replicate_succ, List.set_cons_zero]
 simp
theorem bitsTo_same {b : List Bool} {k : Nat} (h : b[k]? = some false) : bitsTo b (k + 1) = bitsTo b k := by
 have hk := (List.getElem?_eq_some_iff.1 h).1
 unfold bitsTo
 rw [List.take_add_one, h]
 obtain ⟨m, hm⟩ : ∃ m, b.length - k = m + 1 := ⟨b.length - k - 1, by omega⟩
 rw [hm, show b.length - (k + 1) = m by omega, List.replicate_succ]
 simp
end Go.Proofs.YtidakhhekofkoaaGreatDoor
