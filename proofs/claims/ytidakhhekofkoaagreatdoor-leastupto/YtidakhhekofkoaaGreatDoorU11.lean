/- The reference's parser in memory, and its smallest functions. -/
import Derived.Test.YtidakhhekofkoaaGreatDoorU09
import Derived.Test.YtidakhhekofkoaaGreatDoorU06
import Derived.Maps.AppendAt
set_option linter.unusedSimpArgs false
namespace Go.Proofs.YtidakhhekofkoaaGreatDoor
open Go.RowKit Go.Deep
theorem cell_of_blk {w : World} {b ty : Nat} {c : Array Value} {m : Nat × Nat} (h : w.heap[b]? = some (.cells c ty m)) (o : Nat) : w.cell? ⟨b, o, none⟩ = c[o]? := by
 simp [World.cell?, h]
theorem frozen_of_blk {w : World} {b ty : Nat} {c : Array Value} (h : w.heap[b]? = some (.cells c ty (0, 0))) (o : Nat) : w.frozen? ⟨b, o, none⟩ = false := by
 simp [World.frozen?, h]
theorem lt_of_blk {w : World} {b : Nat} {o : Obj} (h : w.heap[b]? = some o) : b < w.heap.size := by
 rcases Nat.lt_or_ge b w.heap.size with h' | h'
 ·exact h'
 ·rw [Array.getElem?_eq_none h'] at h; cases h
theorem blk_alloc (w : World) (o : Obj) : (w.alloc o).heap[w.heap.size]? = some o := by
 show (w.heap.push o)[w.heap.size]? = _
 rw [Array.getElem?_push, if_pos rfl]
theorem blk_set {w : World} {b ty : Nat} {c : Array Value} {m : Nat × Nat} (h : w.heap[b]? = some (.cells c ty m)) (o : Nat) (v : Value) : (w.setCell ⟨b, o, none⟩ v).heap[b]? = some (.cells (c.setIfInBounds o v) ty m) := by
 simp [World.setCell, Array.getElem?_modify, h]
theorem grown_set (w : World) (b o : Nat) (v : Value) : w.grownBy (w.setCell ⟨b, o, none⟩ v) (some b) :=
 ⟨rfl, rfl, rfl, by simp [World.setCell], fun k _ hk => Below.heap_setCell _ _ _ _ (by intro e; exact hk (by rw [e]))⟩
theorem grown_below {w w' : World} (h : Below w.heap.size w w') (row : Option Nat) : w.grownBy w' row := ⟨h.os, h.tape, h.output, h.size, fun k hk _ => h.block k hk⟩
theorem grown_setNew {w w' : World} {row : Option Nat} (h : w.grownBy w' row) {b : Nat} (hb : w.heap.size ≤ b) (o : Nat) (v : Value) : w.grownBy (w'.setCell ⟨b, o, none⟩ v) row :=
 ⟨h.os, h.tape, h.output, by simpa [World.setCell] using h.size, fun k hk hr => (Below.heap_setCell _ _ _ _ (by show k ≠ b; omega)).trans (h.block k hk hr)⟩
theorem grown_alloc {w w' : World} {row : Option Nat} (h : w.grownBy w' row) (o : Obj) : w.grownBy (w'.alloc o) row := h.trans (World.grownBy_alloc _ _ _)
end Go.Proofs.YtidakhhekofkoaaGreatDoor
namespace Go.Proofs.YtidakhhekofkoaaGreatDoor
def stepP (k : Nat) (inside more y u v u' x : Bool) : Bool :=
 if k = 0 then inside && y else if k = 1 then true else if k = 2 then false else if k = 3 then !inside else if k = 4 then !u
 else if k = 5 then more && u' else if k = 6 then !more || u' else if k = 7 then inside && (u || x) else if k = 8 then !inside || (u && x)
 else if k = 9 then inside && (v || (u && x)) else if k = 10 then u && v else if k = 11 then u || v else !u || v
end Go.Proofs.YtidakhhekofkoaaGreatDoor
namespace Go.Proofs.YtidakhhekofkoaaGreatDoor
open Go.RowKit Go.Deep
def fsignsC : Array Value := #[.string ⟨#[]⟩, .string ⟨#[116, 114, 117, 101]⟩, .string ⟨#[102, 97, 108, 115, 101]⟩, .string ⟨#[101, 110, 100]⟩, .string ⟨#[33]⟩, .string ⟨#[88]⟩, .string ⟨#[78]⟩, .string ⟨#[70]⟩, .string ⟨#[71]⟩, .string ⟨#[85]⟩, .string ⟨#[38]⟩, .string ⟨#[124]⟩, .string ⟨#[45, 62]⟩]
def wordsC : Array Value := #[.string ⟨#[97, 99, 116, 115]⟩, .int .i64 4, .string ⟨#[114, 117, 108, 101]⟩, .int .i64 5, .string ⟨#[116, 114, 117, 101]⟩, .int .i64 6, .string ⟨#[102, 97, 108, 115, 101]⟩, .int .i64 7, .string ⟨#[101, 110, 100]⟩, .int .i64 8]
def rsignsC : Array Value := #[.string ⟨#[88]⟩, .int .i64 9, .string ⟨#[78]⟩, .int .i64 10, .string ⟨#[70]⟩, .int .i64 11, .string ⟨#[71]⟩, .int .i64 12, .string ⟨#[85]⟩, .int .i64 13, .string ⟨#[45, 62]⟩, .int .i64 14, .string ⟨#[124]⟩, .int .i64 15, .string ⟨#[38]⟩, .int .i64 16, .string ⟨#[33]⟩, .int .i64 17, .string ⟨#[40]⟩, .int .i64 18, .string ⟨#[41]⟩, .int .i64 19, .string ⟨#[44]⟩, .int .i64 20, .string ⟨#[59]⟩, .int .i64 21]
structure GV (w : World) : Prop where
 ws : ∃ t m, w.heap[2]? = some (.cells wordsC t m)
 rs : ∃ t m, w.heap[1]? = some (.cells rsignsC t m)
theorem GV.later {w w' : World} (h : GV w) (hb : Below w.heap.size w w') : GV w' := by
 obtain ⟨⟨t2, m2, h2⟩, ⟨t3, m3, h3⟩⟩ := h
 exact ⟨⟨t2, m2, (hb.block _ (lt_of_blk h2)).trans h2⟩, ⟨t3, m3, (hb.block _ (lt_of_blk h3)).trans h3⟩⟩
theorem GV.alloc {w : World} (h : GV w) (o : Obj) : GV (w.alloc o) := h.later ((Below.refl _ _).alloc (Nat.le_refl _) _)
structure GVF (w : World) : Prop where
 fs : ∃ t m, w.heap[0]? = some (.cells fsignsC t m)
 ws : ∃ t m, w.heap[2]? = some (.cells wordsC t m)
 rs : ∃ t m, w.heap[1]? = some (.cells rsignsC t m)
theorem GVF.later {w w' : World} (h : GVF w) (hb : Below w.heap.size w w') : GVF w' := by
 obtain ⟨⟨t1, m1, h1⟩, ⟨t2, m2, h2⟩, ⟨t3, m3, h3⟩⟩ := h
 exact ⟨⟨t1, m1, (hb.block _ (lt_of_blk h1)).trans h1⟩, ⟨t2, m2, (hb.block _ (lt_of_blk h2)).trans h2⟩, ⟨t3, m3, (hb.block _ (lt_of_blk h3)).trans h3⟩⟩
theorem GVF.g {w : World} (h : GVF w) : GV w := ⟨h.ws, h.rs⟩
set_option maxHeartbeats 1000000 in
theorem blanksEnd_any (s : ByteArray) (i : Nat) (w : World) (hs : s.size ≤ maxLen) (hi : i ≤ s.size) :
    Calls Tryz.prog 151 #[.string s, .int .i64 i] w fun e w' => e = .returned (.int .i64 (upTo isBl s i : Nat)) ∧ w' = w := by
  unfold maxLen at hs
  go_enter Tryz.func151, Tryz.ntmps151
  go_wp2_with fail
  go_loop [1] (fun x => ∃ k : Nat, k ≤ s.size ∧ x = .int .i64 k ∧ Hid (upTo isBl s i = upTo isBl s k)) (fun x => s.size - (intOf x).toNat)
  case atStart => exact ⟨i, hi, rfl, rfl⟩
  case round =>
    obtain ⟨k, hk, rfl, H⟩ := hrel
    by_cases hlt : k < s.size
    · by_cases hb : isBl s[k] = true
      · have HB := hide hb
        clear hb
        go_wp2_with fail
        all_goals first
          | (go_round
             case rel => exact ⟨k + 1, by omega, by go_num, H.out.trans (upTo_yes isBl s k hlt (unhide HB))⟩
             case measure => simp [intOf]; omega)
          | (exfalso
             have h1 : (((s[k].toNat : Int) == 32) = false ∧ ((s[k].toNat : Int) == 9) = false) ∧ ((s[k].toNat : Int) == 10) = false := by simp_all
             have := unhide HB
             simp only [isBl, Bool.or_eq_true, beq_iff_eq, beq_eq_false_iff_ne] at this h1
             omega)
      · have hb' : isBl s[k] = false := by simpa using hb
        have h32 : ((s[k].toNat : Int) == 32) = false := by
          simp only [isBl, Bool.or_eq_false_iff, beq_eq_false_iff_ne] at hb' ⊢; omega
        have h9 : ((s[k].toNat : Int) == 9) = false := by
          simp only [isBl, Bool.or_eq_false_iff, beq_eq_false_iff_ne] at hb' ⊢; omega
        have h10 : ((s[k].toNat : Int) == 10) = false := by
          simp only [isBl, Bool.or_eq_false_iff, beq_eq_false_iff_ne] at hb' ⊢; omega
        have HE : Hid (upTo isBl s i = k) := H.out.trans (upTo_no isBl s k hlt hb')
        clear hb hb' H
        go_wp2_with fail
        go_ret
        exact ⟨ret_int (by rw [unhide HE]), rfl⟩
    · have HE : Hid (upTo isBl s i = k) := H.out.trans (upTo_end isBl s k (by omega))
      clear H
      go_wp2_with fail
      go_ret
      exact ⟨ret_int (by rw [unhide HE]), rfl⟩
set_option maxHeartbeats 1000000 in
theorem lettersEnd_any (s : ByteArray) (w : World) (hs : s.size ≤ maxLen) :
  Calls Tryz.prog 170 #[.string s] w fun e w' => e = .returned (.int .i64 (upTo isLet s 0 : Nat)) ∧ w' = w := by
 unfold maxLen at hs
 go_enter Tryz.func170, Tryz.ntmps170
 go_wp2_with fail
 go_loop [3] (fun x => ∃ k : Nat, k ≤ s.size ∧ x = .int .i64 k ∧ Hid (upTo isLet s 0 = upTo isLet s k)) (fun x => s.size - (intOf x).toNat)
 case atStart => exact ⟨0, Nat.zero_le _, rfl, rfl⟩
 case round =>
  obtain ⟨k, hk, rfl, H⟩ := hrel
  by_cases hlt : k < s.size
  ·by_cases h1 : (97 : Int) ≤ (s[k].toNat : Int)
   ·by_cases h2 : (s[k].toNat : Int) ≤ 122
    ·go_wp2_with fail
     go_round
     case rel => exact ⟨k + 1, by omega, by go_num, H.out.trans (upTo_yes isLet s k hlt (by simp [isLet]; omega))⟩
     case measure => simp [intOf]; omega
    ·have HE : Hid (upTo isLet s 0 = k) := H.out.trans (upTo_no isLet s k hlt (by simp [isLet]; omega))
     clear H
     go_wp2_with fail
     go_ret
     exact ⟨ret_int (by rw [unhide HE]), rfl⟩
   ·have HE : Hid (upTo isLet s 0 = k) := H.out.trans (upTo_no isLet s k hlt (by simp [isLet]; omega))
    clear H
    go_wp2_with fail
    go_ret
    exact ⟨ret_int (by rw [unhide HE]), rfl⟩
  ·have HE : Hid (upTo isLet s 0 = k) := H.out.trans (upTo_end isLet s k (by omega))
   clear H
   go_wp2_with fail
   go_ret
   exact ⟨ret_int (by rw [unhide HE]), rfl⟩
set_option maxHeartbeats 1000000 in
theorem hasPrefixLite_any (s p : ByteArray) (w : World) :
  Calls Tryz.prog 224 #[.string s, .string p] w fun e w' => e = .returned (.bool (s.toList.take p.size == p.toList)) ∧ w' = w := by
 by_cases h : p.size ≤ s.size
 ·have e : (s.extract 0 p.size).toList = s.toList.take p.size := by
   rw [ByteArray.toList_eq, ByteArray.toList_eq, Lib.extract_data]; simp
  go_enter Tryz.func224, Tryz.ntmps224
  go_wp2_with fail
  go_ret
  exact ⟨by simp [e], rfl⟩
 ·have e : ¬ s.toList.take p.size = p.toList := by
   intro e
   have := congrArg List.length e
   rw [ByteArray.toList_eq, ByteArray.toList_eq] at this
   simp [size_data] at this
   have h1 : s.data.size = s.size := rfl
   have h2 : p.data.size = p.size := rfl
   omega
  go_enter Tryz.func224, Tryz.ntmps224
  go_wp2_with fail
  go_ret
  exact ⟨by simp [e], rfl⟩
set_option maxHeartbeats 1000000 in
theorem hasPrefix_any (s p : ByteArray) (w : World) :
  Calls Tryz.prog 190 #[.string s, .string p] w fun e w' => e = .returned (.bool (s.toList.take p.size == p.toList)) ∧ w' = w := by
 go_enter Tryz.func190, Tryz.ntmps190
 go_wp2_with fail
 refine (hasPrefixLite_any s p _).mono ?_
 rintro e w' ⟨rfl, rfl⟩
 go_wp2_with fail
 go_ret
 exact ⟨rfl, rfl⟩
theorem and32 (a b : Nat) (ha : a < 4294967296) (hb : b < 4294967296) : bits .and .u32 (a : Int) (b : Int) = ((a &&& b : Nat) : Int) := by
 have hx : a &&& b < 2 ^ 32 := Nat.and_lt_two_pow _ (by omega)
 have h1 : (BitVec.ofInt 32 (a : Int)).toNat = a := by
  rw [BitVec.ofInt_natCast, BitVec.toNat_ofNat]; exact Nat.mod_eq_of_lt (by omega)
 have h2 : (BitVec.ofInt 32 (b : Int)).toNat = b := by
  rw [BitVec.ofInt_natCast, BitVec.toNat_ofNat]; exact Nat.mod_eq_of_lt (by omega)
 show IntKind.u32.wrap ((BitVec.ofInt 32 (a : Int) &&& BitVec.ofInt 32 (b : Int)).toNat : Int) = _
 rw [BitVec.toNat_and, h1, h2, IntKind.wrap_u32]
 omega
theorem or32 (a b : Nat) (ha : a < 4294967296) (hb : b < 4294967296) : bits .or .u32 (a : Int) (b : Int) = ((a ||| b : Nat) : Int) := by
 have hx : a ||| b < 2 ^ 32 := Nat.or_lt_two_pow (by omega) (by omega)
 have h1 : (BitVec.ofInt 32 (a : Int)).toNat = a := by
  rw [BitVec.ofInt_natCast, BitVec.toNat_ofNat]; exact Nat.mod_eq_of_lt (by omega)
 have h2 : (BitVec.ofInt 32 (b : Int)).toNat = b := by
  rw [BitVec.ofInt_natCast, BitVec.toNat_ofNat]; exact Nat.mod_eq_of_lt (by omega)
 show IntKind.u32.wrap ((BitVec.ofInt 32 (a : Int) ||| BitVec.ofInt 32 (b : Int)).toNat : Int) = _
 rw [BitVec.toNat_or, h1, h2, IntKind.wrap_u32]
 omega
theorem bit32 (p i : Nat) (hp : p < 4294967296) : (bits BinOp.and IntKind.u32 ((p : Int) / 2 ^ i) 1 == 1) = p.testBit i := by
 have e : (p : Int) / 2 ^ i = ((p / 2 ^ i : Nat) : Int) := by rw [Int.natCast_ediv, Int.natCast_pow]; rfl
 have hl : p / 2 ^ i < 4294967296 := Nat.lt_of_le_of_lt (Nat.div_le_self _ _) hp
 rw [e]
 have h := and32 (p / 2 ^ i) 1 hl (by decide)
 rw [show ((1 : Nat) : Int) = 1 from rfl] at h
 rw [h, Nat.and_one_is_mod, Nat.testBit_eq_decide_div_mod_eq]
 by_cases hb : p / 2 ^ i % 2 = 1
 ·rw [hb]; rfl
 ·rw [show p / 2 ^ i % 2 = 0 by omega]; rfl
set_option maxHeartbeats 400000 in
theorem pHas_any (p i : Nat) (hp : p < 4294967296) (hi : i ≤ 31) (b : Bool) (hb : p.testBit i = b) (w : World) :
  Calls Tryz.prog 168 #[.int .u32 (p : Int), .int .i64 (i : Int)] w fun e w' => e = .returned (.bool b) ∧ w' = w := by
 go_enter Tryz.func168, Tryz.ntmps168
 go_wp2_with fail
 go_ret
 exact ⟨ret_bool ((bit32 p i hp).trans hb), rfl⟩
end Go.Proofs.YtidakhhekofkoaaGreatDoor
