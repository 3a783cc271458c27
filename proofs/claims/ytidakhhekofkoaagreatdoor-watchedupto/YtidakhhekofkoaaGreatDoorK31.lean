/- The program's keeping, behind. -/
import Derived.Test.YtidakhhekofkoaaGreatDoorK28
import Derived.Test.YtidakhhekofkoaaGreatDoorK15
set_option linter.unusedSimpArgs false
set_option linter.unusedVariables false
namespace Go.Proofs.YtidakhhekofkoaaGreatDoor
open Go.RowKit Go.Deep
theorem Tryz.infoU8p : (Tryz.prog.info? 5).map (fun i => (i.zero, i.size, i.bytes)) = some (some (.int .u8 0), 1, 1) := by kernel_rfl
theorem mkBytes (w : World) (n : Nat) (hn : n ≤ 10000000000) : (Instr.makeSlice 51 (.int .i64 (n : Int)) (.int .i64 (n : Int))).run Tryz.prog w = .ok (.slice (some ⟨w.heap.size, 0, none⟩) n n) (w.alloc (.cells (Array.replicate n (.int .u8 0)) 5)) := by
 obtain ⟨i0, hi0, hz0, hz1, hz2⟩ := info_parts Tryz.infoU8p
 exact make_run (P := Tryz.prog) w 51 5 i0 (.int .u8 0) Tryz.underlying51 hi0 hz0 hz1 rfl (by omega) n hn
def PlS (w : World) (o : Option Addr) (l : List Nat) : Prop := ∀ (j : Nat) (x : Nat), l[j]? = some x → ∃ b off, o = some ⟨b, off, none⟩ ∧ b < w.heap.size ∧ w.cell? ⟨b, off + j, none⟩ = some (.int .u32 (x : Int))
theorem PlS.later {w w' : World} {o : Option Addr} {l : List Nat} (h : PlS w o l) (hb : Below w.heap.size w w') : PlS w' o l := fun j x hx => by
 obtain ⟨b, off, h1, h2, h3⟩ := h j x hx
 exact ⟨b, off, h1, Nat.lt_of_lt_of_le h2 hb.size, (bcell3 hb _ _ h2).trans h3⟩
structure BX (w wr : World) (T : Array Value) (ty : Nat) (b : List Bool) : Prop where
 blk : wr.heap[w.heap.size + 1]? = some (.cells (bitC b) 5 (0, 0))
 box : wr.heap[w.heap.size]? = some (.cells T ty (0, 0))
 bel : Below w.heap.size w wr
theorem BX.later {w wr w' : World} {T : Array Value} {ty : Nat} {b : List Bool} (h : BX w wr T ty b) (hb : Below wr.heap.size wr w') : BX w w' T ty b :=
 ⟨(hb.block _ (lt_of_blk h.blk)).trans h.blk, (hb.block _ (lt_of_blk h.box)).trans h.box, h.bel.trans (hb.mono h.bel.size)⟩
theorem BX.set {w wr : World} {T : Array Value} {ty : Nat} {b : List Bool} (h : BX w wr T ty b) (k : Nat) (x : Bool) : BX w (wr.setCell ⟨w.heap.size + 1, k, none⟩ (.int .u8 ((bit8 x).toNat : Int))) T ty (b.set k x) := by
 refine ⟨?_, ?_, ?_⟩
 ·have := blk_set h.blk k (.int .u8 ((bit8 x).toNat : Int))
  rw [bitC_set] at this
  exact this
 ·exact (Below.heap_setCell _ _ _ _ (by show w.heap.size ≠ w.heap.size + 1; omega)).trans h.box
 ·exact h.bel.setCell (p := ⟨w.heap.size + 1, k, none⟩) (by show _ ≤ w.heap.size + 1; omega) _
set_option maxHeartbeats 2000000 in
set_option maxRecDepth 100000 in
theorem keeping_any (w : World) (so : Option Addr) (n sc wh : Nat) (l : List Nat) (po : Option Addr) (pc : Nat) (hP : PlS w po l) (hwh : wh < 4294967296) (hl : l.length ≤ 1000000) (hlt : ∀ p ∈ l, p < 4294967296) :
  Calls Tryz.prog 128 #[.agg #[.slice so n sc, .int .u32 (wh : Int)], .slice po l.length pc] w fun e w' => e = .returned (.string (setS (l.map (keepP wh)))) ∧ Below w.heap.size w w' := by
 have HP := hide hP
 have HLT := hide hlt
 have HAL := hide (fun W p h => AllHold_any W so n sc wh p hwh h)
 have HX0 : Hid (BX w ((w.alloc (.cells #[.slice so n sc, .int .u32 (wh : Int)] 149)).alloc (.cells (Array.replicate l.length (.int .u8 0)) 5)) #[.slice so n sc, .int .u32 (wh : Int)] 149 (bitsTo (l.map (keepP wh)) 0)) := by
  rw [bitsTo_zero, List.length_map]
  refine ⟨?_, (Below.heap_alloc _ _ _ (by simp)).trans (blk_alloc _ _), ((Below.refl _ _).alloc (Nat.le_refl _) _).alloc (by simp) _⟩
  rw [bitC_zero]
  exact blk_alloc' _ _ _ (by simp)
 have hbl : (l.map (keepP wh)).length = l.length := by simp
 have HBL := hide hbl
 have hmk := fun W : World => mkBytes W l.length (by omega)
 clear hP hlt hbl
 go_enter Tryz.func128, Tryz.ntmps128
 go_wp2_with fail
 generalize (w.alloc (.cells #[.slice so n sc, .int .u32 (wh : Int)] 149)).alloc (.cells (Array.replicate l.length (.int .u8 0)) 5) = W0 at *
 go_loopw [13] (fun x wr => ∃ k : Nat, k ≤ l.length ∧ x = .int .i64 k ∧ Hid (BX w wr #[.slice so n sc, .int .u32 (wh : Int)] 149 (bitsTo (l.map (keepP wh)) k))) (fun x _ => l.length - (intOf x).toNat)
 case atStart => exact ⟨0, Nat.zero_le _, rfl, HX0⟩
 case round =>
  obtain ⟨k, hk, rfl, HX⟩ := hrel
  by_cases hlt : k < l.length
  ·have hkn : (k : Int) < (l.length : Int) := by omega
   obtain ⟨pb, off, rfl, hpb, hpc⟩ := (unhide HP).later (unhide HX).bel k l[k] (List.getElem?_eq_getElem hlt)
   have hp32 := unhide HLT l[k] (List.getElem_mem hlt)
   have hbk : (l.map (keepP wh))[k]? = some (keepP wh l[k]) := by rw [List.getElem?_map, List.getElem?_eq_getElem hlt]; rfl
   have HBK := hide hbk
   clear hbk
   generalize l[k] = p at *
   have bc0 : wr.cell? ⟨w.heap.size, 0, none⟩ = some (.slice so n sc) := cell_of_blk (unhide HX).box 0
   have bc1 : wr.cell? ⟨w.heap.size, 1, none⟩ = some (.int .u32 (wh : Int)) := cell_of_blk (unhide HX).box 1
   have hbl := lt_of_blk (unhide HX).box
   go_wp2_with (go_at_call 127; refine (unhide HAL _ p hp32).mono ?_)
   rintro e w1 ⟨rfl, hb1⟩
   have HX1 := hide ((unhide HX).later hb1)
   clear bc0 bc1 hbl hb1
   have hkp : (p &&& wh == wh) = keepP wh p := rfl
   rw [hkp]
   generalize keepP wh p = y at *
   clear hkp
   cases y with
   | false =>
    rw [← bitsTo_same (unhide HBK)] at HX1
    go_wp2_with fail
    go_roundw
    case rel => exact ⟨k + 1, by omega, by go_num, HX1⟩
    case measure => simp [intOf]; omega
   | true =>
    have hgl := lt_of_blk (unhide HX1).blk
    have gf := frozen_of_blk (unhide HX1).blk k
    have hlb : (bitsTo (l.map (keepP wh)) k).length = l.length := by rw [bitsTo_len (by rw [unhide HBL]; exact hk), unhide HBL]
    obtain ⟨y0, hy0⟩ : ∃ y, (bitsTo (l.map (keepP wh)) k)[k]? = some y := ⟨_, List.getElem?_eq_getElem (by rw [hlb]; exact hlt)⟩
    have gc := (cell_of_blk (unhide HX1).blk k).trans (bitC_at hy0)
    clear hy0 hlb
    have HX2 := hide ((unhide HX1).set k true)
    rw [← bitsTo_succ (unhide HBK)] at HX2
    go_wp2_with fail
    go_roundw
    case rel => exact ⟨k + 1, by omega, by go_num, HX2⟩
    case measure => simp [intOf]; omega
  ·have hkn : ¬ (k : Int) < (l.length : Int) := by omega
   have hke : k = (l.map (keepP wh)).length := by rw [unhide HBL]; omega
   rw [hke, bitsTo_all] at HX
   clear hke
   have hcv := bits_conv wr _ l.length _ _ _ (unhide HX).blk (unhide HBL)
   generalize hR : setS (l.map (keepP wh)) = R at *
   have HRR := hide hR
   clear hR
   go_wp2_with fail
   go_ret
   exact ⟨by rw [unhide HRR]; rfl, (unhide HX).bel⟩
set_option maxHeartbeats 2000000 in
set_option maxRecDepth 100000 in
theorem behind_any (w : World) (ro : Option Addr) (rc : Nat) (tw : List (List Nat)) (ks : ByteArray) (bs : List Bool) (a : Nat) (hT : RwS w ro (tw.map zI)) (hl : tw.length ≤ 1000000) (hr : ∀ r ∈ tw, a < r.length ∧ ∀ x ∈ r, x < bs.length) :
  Calls Tryz.prog 83 #[.agg #[.slice ro tw.length rc, .string ks], .string (setS bs), .int .i64 (a : Int)] w fun e w' => e = .returned (.string (setS (setB tw bs a))) ∧ Below w.heap.size w w' := by
 have HT := hide hT
 have HR := hide hr
 have hbl : (setB tw bs a).length = tw.length := by unfold setB; simp
 have HBL := hide hbl
 have HX0 : Hid (BX w ((w.alloc (.cells #[.slice ro tw.length rc, .string ks] 153)).alloc (.cells (Array.replicate tw.length (.int .u8 0)) 5)) #[.slice ro tw.length rc, .string ks] 153 (bitsTo (setB tw bs a) 0)) := by
  rw [bitsTo_zero, hbl]
  refine ⟨?_, (Below.heap_alloc _ _ _ (by simp)).trans (blk_alloc _ _), ((Below.refl _ _).alloc (Nat.le_refl _) _).alloc (by simp) _⟩
  rw [bitC_zero]
  exact blk_alloc' _ _ _ (by simp)
 have hmk := fun W : World => mkBytes W tw.length (by omega)
 clear hT hr hbl
 go_enter Tryz.func83, Tryz.ntmps83
 go_wp2_with fail
 generalize (w.alloc (.cells #[.slice ro tw.length rc, .string ks] 153)).alloc (.cells (Array.replicate tw.length (.int .u8 0)) 5) = W0 at *
 go_loopw [17] (fun x wr => ∃ k : Nat, k ≤ tw.length ∧ x = .int .i64 k ∧ Hid (BX w wr #[.slice ro tw.length rc, .string ks] 153 (bitsTo (setB tw bs a) k))) (fun x _ => tw.length - (intOf x).toNat)
 case atStart => exact ⟨0, Nat.zero_le _, rfl, HX0⟩
 case round =>
  obtain ⟨k, hk, rfl, HX⟩ := hrel
  by_cases hlt : k < tw.length
  ·have hkn : (k : Int) < (tw.length : Int) := by omega
   have htk : (tw.map zI)[k]? = some (zI tw[k]) := by rw [List.getElem?_map, List.getElem?_eq_getElem hlt]; rfl
   obtain ⟨pb, off, qo, qc, rfl, hpb, hpc, hq⟩ := (unhide HT).later (unhide HX).bel k (zI tw[k]) htk
   obtain ⟨hal, hxs⟩ := unhide HR tw[k] (List.getElem_mem hlt)
   have hbk : (setB tw bs a)[k]? = some ((bs[(tw[k][a]?).getD 0]?).getD false) := by unfold setB; rw [List.getElem?_map, List.getElem?_eq_getElem hlt]; rfl
   rw [List.getElem?_eq_getElem hal, Option.getD_some] at hbk
   have hxl := hxs tw[k][a] (List.getElem_mem hal)
   rw [List.getElem?_eq_getElem hxl, Option.getD_some] at hbk
   obtain ⟨qb, qoff, rfl, hqb, hqc⟩ := hq a (tw[k][a] : Nat) (by unfold zI; rw [List.getElem?_map, List.getElem?_eq_getElem hal]; rfl)
   have hzl : (zI tw[k]).length = tw[k].length := by unfold zI; rw [List.length_map]
   rw [hzl] at hpc
   have hbs := List.getElem?_eq_getElem hxl
   have hss : tw[k][a] < (setS bs).size := by rw [setS_size]; exact hxl
   have HBK := hide hbk
   have hral : (a : Int) < (tw[k].length : Int) := by omega
   have hat := setS_at hss hbs
   clear htk hxs hzl hbk
   generalize bs[tw[k][a]] = y at *
   generalize tw[k][a] = x at *
   generalize tw[k].length = rl at *
   clear hbs
   rw [← bit8_nat] at hat
   have bc0 : wr.cell? ⟨w.heap.size, 0, none⟩ = some (.slice (some ⟨pb, off, none⟩) tw.length rc) := cell_of_blk (unhide HX).box 0
   have hbl := lt_of_blk (unhide HX).box
   have hgl := lt_of_blk (unhide HX).blk
   have gf := frozen_of_blk (unhide HX).blk k
   have hlb : (bitsTo (setB tw bs a) k).length = tw.length := by rw [bitsTo_len (by rw [unhide HBL]; exact hk), unhide HBL]
   obtain ⟨y0, hy0⟩ : ∃ y, (bitsTo (setB tw bs a) k)[k]? = some y := ⟨_, List.getElem?_eq_getElem (by rw [hlb]; exact hlt)⟩
   have gc := (cell_of_blk (unhide HX).blk k).trans (bitC_at hy0)
   clear hy0 hlb
   have HX2 := hide ((unhide HX).set k y)
   rw [← bitsTo_succ (unhide HBK)] at HX2
   generalize setS bs = sb at *
   go_wp2_with fail
   go_roundw
   case rel => exact ⟨k + 1, by omega, by go_num, by first | exact HX2 | (rw [hat]; exact HX2)⟩
   case measure => simp [intOf]; omega
  ·have hkn : ¬ (k : Int) < (tw.length : Int) := by omega
   have hke : k = (setB tw bs a).length := by rw [unhide HBL]; omega
   rw [hke, bitsTo_all] at HX
   clear hke
   have hcv := bits_conv wr _ tw.length _ _ _ (unhide HX).blk (unhide HBL)
   generalize hR : setS (setB tw bs a) = R at *
   have HRR := hide hR
   clear hR
   go_wp2_with fail
   go_ret
   exact ⟨by rw [unhide HRR]; rfl, (unhide HX).bel⟩
end Go.Proofs.YtidakhhekofkoaaGreatDoor
