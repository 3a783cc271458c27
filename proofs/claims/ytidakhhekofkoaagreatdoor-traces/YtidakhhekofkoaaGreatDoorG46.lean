/- The row of Traces and its card: a script is opened, its lists and their sizes. -/
import Derived.Test.YtidakhhekofkoaaGreatDoorG45
import Derived.Test.YtidakhhekofkoaaGreatDoorG42
set_option linter.unusedSimpArgs false
set_option maxRecDepth 100000
namespace Go.Proofs.YtidakhhekofkoaaGreatDoor
open Go.ChangeShapes Go.WideShapes Go.ChangeAt Go.RowKit Go.Deep
theorem bytesStr : Tryz.prog.bytesOf 9 = 16 := by kernel_rfl
theorem bytesOp : Tryz.prog.bytesOf 74 = 120 := by kernel_rfl
def strOf : Value → ByteArray
 | .string s => s
 | _ => ⟨#[]⟩
section
variable {H : Type} {enc : TypeId × Value → H}
theorem weightsAll_mem {P : Program} {e : TypeId} {y : Nat} : ∀ {l : List (DataW H)} {d : DataW H}, d ∈ l → y ∈ d.weights P e → y ∈ DataW.weightsAll P e l
 | [], d, h, _ => (List.not_mem_nil h).elim
 | x :: r, d, h, hy => by
  rw [DataW.weightsAll]
  rcases List.mem_cons.1 h with rfl | h
  ·exact List.mem_append_left _ hy
  ·exact List.mem_append_right _ (weightsAll_mem h hy)
theorem weights_slice {P : Program} {t e : TypeId} {el sp : List (DataW H)} (ht : P.underlying t = some (.slice e)) : (DataW.slice el sp).weights P t = (el.length + sp.length) * P.bytesOf e :: (DataW.weightsAll P e el ++ DataW.weightsAll P e sp) := by
 rw [DataW.weights]; simp only [ht]
theorem list_open {w : World} {fuel : Nat} {cs : List Value} {x : DataW H × List MemPlace} (h : DataW.trod enc Tryz.prog w 0 (fun _ => true) true fuel 25 cs = some x) (hw : ∀ y ∈ x.1.weights Tryz.prog 25, y ≤ reachBytes) :
  ∃ l1 l2 l3, cs = [.slice l1 l2 l3] ∧ ScL0 w l1 l2 l3 := by
 rcases open_slice1 Tryz.underlying25 cellsStr h with ⟨hc, hx⟩ | ⟨a, len, cap, m, n, V, D, Pl, hc, _, hl, hm, hmm, hx, hel⟩
 ·exact ⟨none, 0, 0, hc, Or.inl ⟨rfl, rfl, rfl⟩⟩
 ·simp only [if_true] at hmm
  subst hmm
  have hV : ∀ i, i < m → ∃ s, V i = .string s := fun i hi => by
   obtain ⟨s, e, _⟩ := DataW.trod_string Tryz.underlying9 (hel i hi).2
   exact ⟨s, by simpa using e⟩
  refine ⟨some a, len, m, hc, Or.inr ⟨a, (List.range len).map fun i => strOf (V i), rfl, by simp, fun j s hj => ?_, ?_⟩⟩
  ·rw [List.getElem?_map] at hj
   have hjl : j < len := by
    rcases Nat.lt_or_ge j len with h | h
    ·exact h
    ·rw [List.getElem?_eq_none (by simpa using h)] at hj; cases hj
   rw [List.getElem?_range hjl] at hj
   cases hj
   obtain ⟨s, hs⟩ := hV j (by omega)
   have hcell := (hel j (by omega)).1
   obtain ⟨b, off, spot⟩ := a
   have hspot : spot = none := by simpa [Addr.add] using World.cell?_spot (hel 0 (by omega)).1
   subst hspot
   rw [Addr.add_lit] at hcell
   refine ⟨b, off, rfl, block_lt_of_cell hcell, ?_⟩
   show w.cell? _ = some (.string (strOf (V j)))
   rw [hcell, hs]; rfl
  ·rw [hx, weights_slice Tryz.underlying25] at hw
   have h1 := hw _ (List.mem_cons_self ..)
   rw [bytesStr] at h1
   simp at h1 ⊢
   unfold reachBytes at h1
   omega
set_option maxRecDepth 100000 in
theorem op_open2 {w : World} {fuel : Nat} {cs : List Value} {x : DataW H × List MemPlace} (h : DataW.trod enc Tryz.prog w 0 (fun _ => true) true fuel 74 cs = some x) (hw : ∀ y ∈ x.1.weights Tryz.prog 74, y ≤ reachBytes) :
  ∃ (kd oa : Int) (os ot : ByteArray) (l1 : Option Addr) (l2 l3 : Nat) (f1 : Option Addr) (f2 f3 : Nat) (m1 : Option Addr) (m2 m3 : Nat), ScL0 w l1 l2 l3 ∧ cs = [.int .i64 kd, .int .i64 oa, .string os, .string ot, .slice l1 l2 l3, .slice f1 f2 f3, .slice m1 m2 m3] := by
 obtain ⟨xs, n, _, hx, hl, hlen, hf⟩ := DataW.trod_struct Tryz.underlying74 h
 rw [cellsOp] at hl
 match cs, hl with
 | [c0, c1, c2, c3, c4, c5, c6], _ =>
 have h7 : xs.length = 7 := hlen
 match xs, h7 with
 | [y0, y1, y2, y3, y4, y5, y6], _ =>
 have t0 := hf 0 _ rfl
 have t1 := hf 1 _ rfl
 have t2 := hf 2 _ rfl
 have t3 := hf 3 _ rfl
 have t4 := hf 4 _ rfl
 have t5 := hf 5 _ rfl
 have t6 := hf 6 _ rfl
 simp [cellsInt, cellsStr, cellsL, cellsF, cellsN] at t0 t1 t2 t3 t4 t5 t6
 have hw4 : ∀ y ∈ y4.1.weights Tryz.prog 25, y ≤ reachBytes := by
  intro y hy
  refine hw y ?_
  rw [hx]
  show y ∈ (DataW.agg [y0.1, y1.1, y2.1, y3.1, y4.1, y5.1, y6.1]).weights Tryz.prog 74
  rw [DataW.weights]
  simp only [Tryz.underlying74]
  simp only [DataW.weightsEach, List.mem_append, List.map_cons, List.map_nil]
  exact Or.inr (Or.inr (Or.inr (Or.inr (Or.inl hy))))
 obtain ⟨kd, e0, _⟩ := DataW.trod_int Tryz.underlying3 t0
 obtain ⟨oa, e1, _⟩ := DataW.trod_int Tryz.underlying3 t1
 obtain ⟨os, e2, _⟩ := DataW.trod_string Tryz.underlying9 t2
 obtain ⟨ot, e3, _⟩ := DataW.trod_string Tryz.underlying9 t3
 obtain ⟨l1, l2, l3, e4, hL⟩ := list_open t4 hw4
 obtain ⟨f1, f2, f3, e5⟩ := slice_val Tryz.underlying33 t5
 obtain ⟨m1, m2, m3, e6⟩ := slice_val Tryz.underlying34 t6
 cases e0; cases e1; cases e2; cases e3; cases e4; cases e5; cases e6
 exact ⟨kd, oa, os, ot, l1, l2, l3, f1, f2, f3, m1, m2, m3, hL, rfl⟩
theorem script_open2 {w : World} {fuel : Nat} {v : Value} {x : DataW H × List MemPlace} (h : DataW.trod enc Tryz.prog w 0 (fun _ => true) true fuel 22 [v] = some x) (hlt : ∀ p ∈ x.2, p.block < w.heap.size) (hw : ∀ y ∈ x.1.weights Tryz.prog 22, y ≤ reachBytes) :
  ∃ o n k, v = .slice o n k ∧ Sc2 w o n ∧ n ≤ 1172812402926 := by
 rcases open_slice Tryz.underlying22 h with ⟨hc, hx⟩ | ⟨a, len, cap, m, n, D, Pl, hc, _, hl, hm, hmm, hx, hel⟩
 ·cases hc
  exact ⟨none, 0, 0, rfl, fun i hi => absurd hi (Nat.not_lt_zero i), by omega⟩
 ·cases hc
  simp only [if_true] at hmm
  subst hmm
  rw [hx, weights_slice Tryz.underlying22] at hw
  refine ⟨some a, len, m, rfl, fun i hi => ?_, ?_⟩
  ·obtain ⟨cs', hc', ht'⟩ := hel i (by omega)
   rw [cellsOp] at hc'
   obtain ⟨kd, oa, os, ot, l1, l2, l3, f1, f2, f3, m1, m2, m3, hL, rfl⟩ := op_open2 ht' (fun y hy => hw y (List.mem_cons_of_mem _ (List.mem_append_left _ (weightsAll_mem (List.mem_map.2 ⟨i, List.mem_range.2 hi, rfl⟩) hy))))
   obtain ⟨_, _, hcell⟩ := World.cells?_some hc'
   obtain ⟨b, off, spot⟩ := a
   have hspot : spot = none := by
    obtain ⟨cs0, hc0, ht0⟩ := hel 0 (by omega)
    rw [cellsOp] at hc0
    obtain ⟨_, _, _, _, _, _, _, _, _, _, _, _, _, rfl⟩ := op_open ht0
    obtain ⟨_, _, hcell0⟩ := World.cells?_some hc0
    simpa [Addr.add] using World.cell?_spot (hcell0 0 (by omega))
   subst hspot
   simp only [add_plain] at hcell
   have hb : b < w.heap.size := by
    refine hlt (.cell b off) ?_
    rw [hx]
    refine List.mem_append_left _ ?_
    simp only [MemPlace.row, List.mem_map, List.mem_range]
    exact ⟨0, by rw [cellsOp]; omega, rfl⟩
   refine ⟨b, off, rfl, hb, kd, oa, os, ot, l1, l2, l3, f1, f2, f3, m1, m2, m3, hL, ?_, ?_, ?_, ?_, ?_, ?_, ?_⟩
   ·exact hcell 0 (by omega)
   ·exact hcell 1 (by omega)
   ·exact hcell 2 (by omega)
   ·exact hcell 3 (by omega)
   ·exact hcell 4 (by omega)
   ·exact hcell 5 (by omega)
   ·exact hcell 6 (by omega)
  ·have h1 := hw _ (List.mem_cons_self ..)
   rw [bytesOp] at h1
   simp at h1
   unfold reachBytes at h1
   omega
end
theorem ints_cells {w : World} {base : Nat} {sp : Nat → Bool} {held : Bool} {fuel : Nat} {t : TypeId} {n : Nat} {cs : List Value} {l : List Int} {p : List MemPlace}
  (ht : Tryz.prog.underlying t = some (.array n 345)) (hct : Tryz.prog.cellsOf t = n)
  (h : DataW.trod (fun _ => ()) Tryz.prog w base sp held fuel t cs = some (.agg (l.map fun x => .lit (.int .u64 x)), p)) : cs = l.flatMap fun x => [.int .u64 x] := by
 obtain ⟨h1, h2, h3⟩ := arr_cells ht (show Tryz.prog.cellsOf 345 = 1 by kernel_rfl) (by rw [hct, Nat.mul_one]) h
 refine chunks (k := 1) _ (fun _ => rfl) l cs (by rw [h1]; simp at h2; rw [h2]) (fun i x hx => ?_)
 obtain ⟨f, q, hf⟩ := h3 i (.lit (.int .u64 x)) (by simp [hx])
 obtain ⟨s, e1, e2, _⟩ := DataW.trod_int Tryz.underlying345 hf
 rw [e1]
 have : x = s := by simpa using congrArg Prod.fst e2
 rw [this]
theorem tab_of {laid : List (String × DataW Unit)} {W : World} (h : laidMet Tryz.prog laid W) (x : String × DataW Unit) (hx : x ∈ laid) (hn : x.1 = "internal/strconv.uint64pow10") (hd : x.2 = .agg (Lib.pow10Tab.map fun x => .lit (.int .u64 x))) : Lib.TabIs Tryz.prog W "internal/strconv.uint64pow10" .u64 Lib.pow10Tab := by
 obtain ⟨ps, hl, _⟩ := h
 obtain ⟨g, t, cs, fuel, p, hg, ht, hv, hdd⟩ := laid_mem hl x hx
 rw [hn] at hg hv
 obtain rfl := Option.some.inj (tab_glob.symm.trans hg)
 obtain rfl := Option.some.inj ((show (Tryz.prog.globals[4]?).map (·.type) = some 370 by kernel_rfl).symm.trans ht)
 rw [hd] at hdd
 have e := ints_cells Tryz.underlying370 (by kernel_rfl) hdd
 unfold Lib.TabIs
 rw [hv]
 congr 1
 rw [← Array.toList_inj, e]
 exact List.map_eq_flatMap.symm
end Go.Proofs.YtidakhhekofkoaaGreatDoor
