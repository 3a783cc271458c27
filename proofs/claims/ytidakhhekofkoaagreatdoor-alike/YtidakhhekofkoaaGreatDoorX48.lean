/- The program's Table of a model. -/
import Derived.Test.YtidakhhekofkoaaGreatDoorX47
import Derived.Test.YtidakhhekofkoaaGreatDoorX36
import Derived.Test.YtidakhhekofkoaaGreatDoorX42
import Derived.Test.YtidakhhekofkoaaGreatDoorX28
import Derived.Laws.IdiomStrings
set_option linter.unusedSimpArgs false
set_option linter.unusedVariables false
open List renaming setIfInBounds_toArray → zA, set_cons_zero → zB, set_cons_succ → zC, getElem_toArray → zD, getElem_cons_succ → zE, getElem_cons_zero → zF
namespace Go.Proofs.YtidakhhekofkoaaGreatDoor
open Go.RowKit Go.Deep Go.Maps
theorem Tryz.infoIntT : (Tryz.prog.info? 3).map (fun i => (i.zero, i.size, i.bytes)) = some (some (.int .i64 0), 1, 8) := by kernel_rfl
theorem sets_len {tw : List (List Nat)} {acts : List Nat} {s0 : List Bool} {k : Nat} {ms : List (List Bool)} {rows : List (List Nat)} (h : Bfs (setB tw) acts s0 k ms rows) (h0 : s0.length = tw.length) : ∀ b ∈ ms, b.length = tw.length := fun b hb => by
 obtain ⟨j, hj⟩ := List.mem_iff_getElem?.1 hb
 cases j with
 | zero =>
  rw [h.first] at hj
  cases hj
  exact h0
 | succ j =>
  obtain ⟨_, _, _, _, _, a, _, e⟩ := h.met j b hj
  rw [e]
  unfold setB
  rw [List.length_map]
theorem tw_ok {π : Type} [DecidableEq π] {ah : π → Nat → π} {n : Nat} {p0 : π} {l : List π} {tw : List (List Nat)} (h : Bfs ah (List.range n) p0 l.length l tw) : ∀ r ∈ tw, r.length = n ∧ ∀ x ∈ r, x < tw.length := fun r hr => by
 obtain ⟨i, hi⟩ := List.mem_iff_getElem?.1 hr
 have htl : tw.length = l.length := h.len
 have hil : i < l.length := by have := (List.getElem?_eq_some_iff.1 hi).1; omega
 obtain ⟨r', r1, r2, r3⟩ := h.row i l[i] hil (List.getElem?_eq_getElem hil)
 rw [hi] at r1
 cases r1
 rw [List.length_range] at r2
 refine ⟨r2, fun x hx => ?_⟩
 obtain ⟨q, hq⟩ := List.mem_iff_getElem?.1 hx
 have hql : q < n := by have := (List.getElem?_eq_some_iff.1 hq).1; omega
 obtain ⟨m, m1, m2⟩ := r3 q q (List.getElem?_range hql)
 rw [hq] at m1
 cases m1
 have := (List.getElem?_eq_some_iff.1 m2).1
 omega
set_option maxHeartbeats 8000000 in
set_option maxRecDepth 100000 in
theorem Table_any (w : World) (al : List Tk) (rs : List Rl) (hM : MGood al rs) (a1 : Option Addr) (a3 : Nat) (m1 : Option Addr) (m2 m3 : Nat) (cells : List Value) (ha : w.ownsRow 0 9 1 (.slice a1 al.length a3) al.length (strC al)) (hr : w.ownsRow 0 144 3 (.slice m1 m2 m3) rs.length cells) (hp : BuP w rs cells) (h6 : al.length ≤ 6) :
  Calls Tryz.prog 43 #[.agg #[.slice a1 al.length a3, .slice m1 m2 m3]] w fun e w' => ∃ o, CompP al rs o ∧ DecP okB w o w' e := by
 have hB : Below w.heap.size w ((w.alloc (.cells #[.slice a1 al.length a3, .slice m1 m2 m3] 78)).alloc (.cells #[.slice none 0 0, .slice none 0 0, .slice none 0 0] 36)) := ((Below.refl _ _).alloc (Nat.le_refl _) _).alloc (by simp) _
 have HRBK := hide (readBackward_any _ al rs hM a1 a3 m1 m2 m3 cells (owns_later ha hB) (owns_later hr hB) (hp.keep (KB.below hB)) h6)
 have HA0 := hide (owns_later ha hB)
 have HMB : Hid (((w.alloc (.cells #[.slice a1 al.length a3, .slice m1 m2 m3] 78)).alloc (.cells #[.slice none 0 0, .slice none 0 0, .slice none 0 0] 36)).heap[w.heap.size]? = some (.cells #[.slice a1 al.length a3, .slice m1 m2 m3] 78 (0, 0))) := (Below.heap_alloc _ _ _ (by simp)).trans (blk_alloc _ _)
 have HRS : Hid (((w.alloc (.cells #[.slice a1 al.length a3, .slice m1 m2 m3] 78)).alloc (.cells #[.slice none 0 0, .slice none 0 0, .slice none 0 0] 36)).heap[w.heap.size + 1]? = some (.cells #[.slice none 0 0, .slice none 0 0, .slice none 0 0] 36 (0, 0))) := blk_alloc' _ _ _ (by simp)
 have HB := hide hB
 have HM := hide hM
 have hmm := @run_makeMap Tryz.prog
 have hne : 1 ≤ al.length := by
  cases hc : al with
  | nil => exact absurd hc hM.ne
  | cons _ _ => simp
 clear ha hr hp hB hM
 go_enter Tryz.func43, Tryz.ntmps43
 go_wp2_with fail
 refine (unhide HRBK).mono ?_
 generalize ((w.alloc (.cells #[.slice a1 al.length a3, .slice m1 m2 m3] 78)).alloc (.cells #[.slice none 0 0, .slice none 0 0, .slice none 0 0] 36)) = W0 at *
 rintro e w1 ⟨l, tw, ro, rc, rfl, hbfs, hrws, hb1, hlf⟩
 have hbv : Below w1.heap.size w1 (w1.alloc (.cells #[.slice ro tw.length rc, .string (setS (l.map (keepP (wholeM rs [] 0))))] 153)) := (Below.refl _ _).alloc (Nat.le_refl _) _
 have HBV := hide ((unhide HB).trans ((hb1.trans (hbv.mono hb1.size)).mono (unhide HB).size))
 have HAV := hide (owns_later (owns_later (unhide HA0) hb1) hbv)
 have HMV := hide ((hbv.block _ (Nat.lt_of_lt_of_le (lt_of_blk (unhide HMB)) hb1.size)).trans ((hb1.block _ (lt_of_blk (unhide HMB))).trans (unhide HMB)))
 have HRV := hide ((hbv.block _ (Nat.lt_of_lt_of_le (lt_of_blk (unhide HRS)) hb1.size)).trans ((hb1.block _ (lt_of_blk (unhide HRS))).trans (unhide HRS)))
 have HBB := hide (blk_alloc w1 (.cells #[.slice ro tw.length rc, .string (setS (l.map (keepP (wholeM rs [] 0))))] 153))
 have HRW := hide (hrws.later hbv)
 have HBFS := hide hbfs
 have htl : tw.length ≤ 131072 := by have : tw.length = l.length := hbfs.len; omega
 have hs0l : (l.map (keepP (wholeM rs [] 0))).length = tw.length := by rw [List.length_map]; exact hbfs.len.symm
 have HS0 := hide hs0l
 have HTW := hide (tw_ok hbfs)
 clear hbfs hrws hb1 hbv hs0l HRBK HA0 HMB HRS HB
 go_wp2_with fail
 generalize hV : w1.alloc (.cells #[.slice ro tw.length rc, .string (setS (l.map (keepP (wholeM rs [] 0))))] 153) = V at *
 have hVs : V.heap.size = w1.heap.size + 1 := by rw [← hV]; simp
 have HST0 : Hid (StB ((V.alloc (.map #[] 0)).alloc (.cells #[.slice none 0 0, .map (some (w1.heap.size + 1))] 158)) V.heap.size (w1.heap.size + 2) (w1.heap.size + 1) none 0 [] (.map [])) := by
  have hmade := World.ownsMap_made (H := Unit) V Tryz.prog 151 (plainElem Tryz.prog 3)
  rw [hVs] at hmade
  exact ⟨blk_alloc' _ _ _ (by simp [hVs]), World.ownsRow_nil _ _ _ _, hmade.kept (World.grownBy_alloc _ _ none) (by simp), NumM.nil klS, by omega, by omega⟩
 have hbz : Below V.heap.size V ((V.alloc (.map #[] 0)).alloc (.cells #[.slice none 0 0, .map (some (w1.heap.size + 1))] 158)) := ((Below.refl _ _).alloc (Nat.le_refl _) _).alloc (by simp) _
 have HVS := hide hVs
 have hs0m : (l.map (keepP (wholeM rs [] 0))).length ≤ 1000000 := by rw [unhide HS0]; omega
 refine (snumber_any _ V.heap.size _ _ none 0 [] (.map []) (l.map (keepP (wholeM rs [] 0))) (unhide HST0) hs0m (by simp) hbz.size).mono ?_
 rintro e w3 ⟨rfl, ⟨so, sc, D, hst⟩, hfr⟩
 have hb3 : Below V.heap.size V w3 := ⟨hfr.os.trans hbz.os, hfr.tape.trans hbz.tape, hfr.output.trans hbz.output, Nat.le_trans hbz.size hfr.size, fun k hk => (hfr.low k hk).trans (hbz.block k hk)⟩
 have hst' : StB w3 V.heap.size (w1.heap.size + 2) (w1.heap.size + 1) so sc [l.map (keepP (wholeM rs [] 0))] D := hst
 have HST := hide hst'
 have HB3 := hide hb3
 have hmb3 := (hb3.block _ (lt_of_blk (unhide HMV))).trans (unhide HMV)
 have mc := fun o => cell_of_blk hmb3 o
 have ml := lt_of_blk hmb3
 have HNAM := hide (unhide HAV)
 obtain ⟨ab, ha1, habl, _⟩ := owns1_at (owns_later (unhide HAV) hb3) (show 0 < al.length by omega)
 have HCL := hide (Tryz.slices_Clone_string ab 0 al.length a3 (al.map (·.s)) w3 (by simp) (by omega) (fun j hj => by
  have hj' : j < al.length := by simpa using hj
  obtain ⟨b', h1, _, h3⟩ := owns1_at (owns_later (unhide HAV) hb3) hj'
  rw [ha1] at h1
  cases h1
  rw [Nat.zero_add, h3, strC_nm hj']
  unfold nmA
  rw [List.getD_eq_getElem?_getD, List.getElem?_map, List.getElem?_eq_getElem hj']
  rfl))
 subst ha1
 clear hst hst' hfr hb3 hmb3 hbz HST0 hs0m hV habl hVs
 go_wp2_with fail
 refine (unhide HCL).mono ?_
 rintro e w4 ⟨va, rfl, hva, _, hb4⟩
 obtain ⟨va1, va3, rfl⟩ := owns_val hva
 have hnt : (al.map (·.s)).take al.length = al.map (·.s) := by rw [List.take_of_length_le (by simp)]
 rw [hnt] at hva
 have hnl : (al.map (·.s)).length = al.length := by simp
 have hba : Below w4.heap.size w4 (w4.alloc (.cells #[.slice va1 al.length va3, .slice none 0 0, .slice none 0 0] 36)) := (Below.refl _ _).alloc (Nat.le_refl _) _
 have HCT0 : Hid (CT V (w4.alloc (.cells #[.slice va1 al.length va3, .slice none 0 0, .slice none 0 0] 36)) (w1.heap.size + 2) (w1.heap.size + 1) w4.heap.size so sc [l.map (keepP (wholeM rs [] 0))] D (.slice va1 al.length va3) (.slice none 0 0) (.slice none 0 0) ⟨al.map (·.s), [], []⟩ []) := by
  have hb34 := (unhide HB3).trans (hb4.mono (unhide HB3).size)
  refine ⟨((unhide HST).later hb4).later hba, blk_alloc _ _, hb34.size, ⟨?_, World.ownsRow_nil _ _ _ _, World.ownsRow_nil _ _ _ _, fun j r hr => by simp at hr, fun v hv => by simp at hv, List.Pairwise.nil⟩, hb34.trans (hba.mono hb34.size)⟩
  have := owns_mono (owns_later hva hba) (unhide HB3).size
  show World.ownsRow _ _ _ _ _ (al.map (·.s)).length _
  rw [hnl]
  exact this
 clear hva hb4 hba hnt HCL HST HB3 mc ml
 go_wp2_with fail
 generalize w4.alloc (.cells #[.slice va1 al.length va3, .slice none 0 0, .slice none 0 0] 36) = w5 at *
 generalize w4.heap.size = tb at *
 have hsb : V.heap.size ≤ w1.heap.size + 2 := by have := unhide HVS; omega
 have hbV : w1.heap.size < V.heap.size := by have := unhide HVS; omega
 generalize hsbe : w1.heap.size + 2 = sb at *
 generalize hmbe : w1.heap.size + 1 = mb at *
 generalize hs0e : l.map (keepP (wholeM rs [] 0)) = s0 at *
 generalize hname : al.map (·.s) = names at *
 have HS0E := hide hs0e
 have HNAME := hide hname
 clear hsbe hmbe hs0e hname
 have hmk := fun W : World => mkInts W al.length (by omega)
 obtain ⟨i0, hi0, hz0, hz1, hz2⟩ := info_parts Tryz.infoIntT
 obtain ⟨r0, hr0, hrz0, hrz1, hrz2⟩ := info_parts Tryz.infoRowP
 go_loopw [7] (fun x wr => ∃ (k : Nat) (so : Option Addr) (sc : Nat) (ms : List (List Bool)) (D : DataW Unit) (fo : Option Addr) (fc : Nat) (xo : Option Addr) (xc : Nat) (rows : List (List Nat)) (rv : List Value), x = .int .i64 k ∧ Hid (CT V wr sb mb tb so sc ms D (.slice va1 al.length va3) (.slice fo k fc) (.slice xo k xc) ⟨names, (ms.take k).map flB, rows⟩ rv) ∧ Hid (Bfs (setB tw) (List.range al.length) s0 k ms rows) ∧ ms.length ≤ 100 ∧ Hid (bfs (setB tw) (List.range al.length) 100 102 0 [s0] [] = bfs (setB tw) (List.range al.length) 100 (102 - k) k ms rows)) (fun x _ => 101 - (intOf x).toNat)
 case atStart => exact ⟨0, so, sc, [s0], D, none, 0, none, 0, [], [], rfl, HCT0, Bfs.start _ _ _, by simp, rfl⟩
 case round =>
  obtain ⟨k, so, sc, ms, D, fo, fc, xo, xc, rows, rv, rfl, HCT, HBQ, hms, HEQ⟩ := hrel
  have hkm := (unhide HBQ).le
  have hrk : rows.length = k := (unhide HBQ).len
  have HRK := hide hrk
  have hbel := (unhide HCT).bel
  have hmc : wr.cell? ⟨w.heap.size, 0, none⟩ = some (.slice (some ⟨ab, 0, none⟩) al.length a3) := (bcell3 hbel _ _ (lt_of_blk (unhide HMV))).trans (cell_of_blk (unhide HMV) 0)
  have hml : w.heap.size < wr.heap.size := Nat.lt_of_lt_of_le (lt_of_blk (unhide HMV)) hbel.size
  have hs0c : wr.cell? ⟨sb, 0, none⟩ = some (.slice so ms.length sc) := cell_of_blk (unhide HCT).st.blk 0
  have hsbl := lt_of_blk (unhide HCT).st.blk
  clear hrk
  by_cases hlt : k < ms.length
  ·have hkn : (k : Int) < (ms.length : Int) := by omega
   obtain ⟨pb, hlo, hpbl, hpc⟩ := owns1_at (unhide HCT).st.own hlt
   have hpc2 : wr.cell? ⟨pb, k, none⟩ = some (.string (setS ms[k])) := hpc.trans (by unfold setC; rw [List.getElem?_map, List.getElem?_eq_getElem hlt]; rfl)
   have HX := hide (List.getElem?_eq_getElem hlt)
   have hbsl : ms[k].length = tw.length := sets_len (unhide HBQ) (unhide HS0) _ (List.getElem_mem hlt)
   have HBSL := hide hbsl
   subst hlo
   generalize ms[k] = bs at *
   have hg0 : (wr.alloc (.cells (Array.replicate al.length (.int .i64 0)) 3)).heap[wr.heap.size]? = some (.cells (rowC (rowTo [] al.length 0)) 3 (0, 0)) := by
    have e : rowTo [] al.length 0 = List.replicate al.length 0 := by unfold rowTo; simp
    rw [e, rowC_zero]
    exact blk_alloc _ _
   have HCT1 := hide ((unhide HCT).later ((Below.refl _ _).alloc (Nat.le_refl _) (.cells (Array.replicate al.length (.int .i64 0)) 3)))
   have hVg : V.heap.size ≤ wr.heap.size := (unhide HCT).bel.size
   obtain ⟨hFg, hRg⟩ := (unhide HCT).tab.lt (Nat.le_refl wr.heap.size)
   have HFG := hide hFg
   have HRG := hide hRg
   have HG0 := hide hg0
   clear hg0 hbel hpc hFg hRg hbsl
   go_wp2_with fail
   clear hmc hml hs0c hsbl hpc2 hpbl
   generalize wr.alloc (.cells (Array.replicate al.length (.int .i64 0)) 3) = wA at *
   generalize wr.heap.size = g at *
   rename World => wR
   go_loopw [40] (fun x wq => ∃ (j : Nat) (so : Option Addr) (sc : Nat) (M : List (List Bool)) (D : DataW Unit) (q : List Nat), j ≤ al.length ∧ x = .int .i64 j ∧ Hid (CT V wq sb mb tb so sc M D (.slice va1 al.length va3) (.slice fo k fc) (.slice xo k xc) ⟨names, (ms.take k).map flB, rows⟩ rv) ∧ Hid (wq.heap[g]? = some (.cells (rowC (rowTo q al.length j)) 3 (0, 0))) ∧ Hid (rowN (setB tw) bs (List.range j) ms = (M, q))) (fun x _ => al.length - (intOf x).toNat)
   case atStart => exact ⟨0, _, _, ms, D, [], Nat.zero_le _, rfl, HCT1, HG0, rfl⟩
   case round =>
    obtain ⟨j, so2, sc2, M, D2, q, hj, rfl, HCT2, HGJ, HRN⟩ := hrel
    have hspec := rowN_spec (setB tw) bs (List.range j) ms
    rw [unhide HRN] at hspec
    obtain ⟨⟨xs, hMx, _⟩, hql, _, _⟩ := hspec
    have hMle : M.length ≤ ms.length + j := by
     have := rowN_le (setB tw) bs (List.range j) ms
     rw [unhide HRN, List.length_range] at this
     exact this
    have hql' : q.length = j := by simpa using hql
    have HQL := hide hql'
    have HMX := hide hMx
    clear hql hql' hMx
    by_cases hjl : j < al.length
    ·have hjn : (j : Int) < (al.length : Int) := by omega
     have hbel := (unhide HCT2).bel
     have hb0 : wr.cell? ⟨w1.heap.size, 0, none⟩ = some (.slice ro tw.length rc) := (bcell3 hbel _ _ hbV).trans (cell_of_blk (unhide HBB) 0)
     have hb1 : wr.cell? ⟨w1.heap.size, 1, none⟩ = some (.string (setS s0)) := (bcell3 hbel _ _ hbV).trans (cell_of_blk (unhide HBB) 1)
     have hbl : w1.heap.size < wr.heap.size := Nat.lt_of_lt_of_le hbV hbel.size
     have HBHD := hide (behind_any wr ro rc tw (setS s0) bs j ((unhide HRW).later hbel) (by omega) (fun r hr => ⟨by rw [(unhide HTW r hr).1]; exact hjl, fun x hx => by rw [unhide HBSL]; exact (unhide HTW r hr).2 x hx⟩))
     have HSUC : Hid (rowN (setB tw) bs (List.range (j + 1)) ms = ((numb M (setB tw bs j)).1, q ++ [(numb M (setB tw bs j)).2])) := by
      show _ = _
      rw [List.range_succ, rowN_append, unhide HRN]
     have hsbl2 : (setB tw bs j).length ≤ 1000000 := by unfold setB; rw [List.length_map]; omega
     clear hbel
     generalize setB tw bs j = b2 at *
     go_wp2_with fail
     refine (unhide HBHD).mono ?_
     rintro e w6 ⟨rfl, hb6⟩
     have HCT3 := hide ((unhide HCT2).later hb6)
     have HGJ3 := hide ((hb6.block _ (lt_of_blk (unhide HGJ))).trans (unhide HGJ))
     clear hb6 hb0 hb1 hbl HBHD
     go_wp2_with fail
     refine (snumber_any w6 V.heap.size sb mb so2 sc2 M D2 b2 (unhide HCT3).st hsbl2 (by omega) (unhide HCT3).bel.size).mono ?_
     rintro e w7 ⟨rfl, ⟨so4, sc4, D4, hst4⟩, hfr4⟩
     have HCT4 := hide ((unhide HCT3).numbered hst4 hfr4)
     have hgj4 := (hfr4.ty _ _ _ _ (unhide HGJ3) (by decide) (by decide)).trans (unhide HGJ3)
     generalize (numb M b2).2 = i at *
     generalize (numb M b2).1 = M4 at *
     have hgl := lt_of_blk hgj4
     have gf := frozen_of_blk hgj4 j
     have hlen : (rowTo q al.length j).length = al.length := rowTo_len (by rw [unhide HQL]; exact Nat.le_refl _) hj
     obtain ⟨y0, hy0⟩ : ∃ y0, (rowTo q al.length j)[j]? = some y0 := ⟨_, List.getElem?_eq_getElem (by rw [hlen]; exact hjl)⟩
     have gc := (cell_of_blk hgj4 j).trans (rowC_at hy0)
     have HCT5 := hide ((unhide HCT4).cell hgj4 (unhide HFG) (unhide HRG) hVg j (.int .i64 (i : Int)))
     have HGJ5 : Hid ((w7.setCell ⟨g, j, none⟩ (.int .i64 (i : Int))).heap[g]? = some (.cells (rowC (rowTo (q ++ [i]) al.length (j + 1))) 3 (0, 0))) := by
      have := blk_set hgj4 j (.int .i64 (i : Int))
      rw [rowC_set] at this
      show _ = _
      rw [rowTo_succ hjl (unhide HQL) rfl]
      exact this
     clear hy0 hlen hgj4 hst4 hfr4
     go_wp2_with fail
     go_roundw
     case rel => exact ⟨j + 1, so4, sc4, M4, D4, q ++ [i], by omega, by go_num, HCT5, HGJ5, HSUC⟩
     case measure => simp [intOf]; omega
    ·have hjn : ¬ (j : Int) < (al.length : Int) := by omega
     have hje : j = al.length := by omega
     subst hje
     have hall : rowTo q al.length al.length = q := by unfold rowTo; rw [List.take_of_length_le (by rw [unhide HQL]; exact Nat.le_refl _)]; simp
     have hgq := unhide HGJ
     rw [hall] at hgq
     have HGQ := hide hgq
     have hbel := (unhide HCT2).bel
     have hs0c : wr.cell? ⟨sb, 0, none⟩ = some (.slice so2 M.length sc2) := cell_of_blk (unhide HCT2).st.blk 0
     have hsbl := lt_of_blk (unhide HCT2).st.blk
     have hres := (hbel.block _ (lt_of_blk (unhide HRV))).trans (unhide HRV)
     obtain ⟨n2, hn2⟩ : ∃ n2, 102 - k = n2 + 1 := ⟨101 - k, by omega⟩
     clear hall hgq
     by_cases hbig : 100 < M.length
     ·have hbi : (100 : Int) < (M.length : Int) := by omega
      have HNONE : Hid (bfs (setB tw) (List.range al.length) 100 102 0 [s0] [] = none) := by
       show _ = _
       rw [unhide HEQ, hn2]
       exact bfs_many (unhide HX) (by rw [unhide HRN]; exact hbig)
      have HRES := hide hres
      have HBEL := hide hbel
      have rc' := fun o => cell_of_blk hres o
      have rf' := fun o => frozen_of_blk hres o
      have rl' := lt_of_blk hres
      clear hbel hres hn2
      go_wp2_with fail
      change bodyPost _ _ _ _ _ (setT wr (w.heap.size + 1) (.slice none 0 0) (.slice none 0 0) (.slice none 0 0))
      have hfin := setT_blk (unhide HRES) (.slice none 0 0) (.slice none 0 0) (.slice none 0 0)
      have hbf := setT_below ((unhide HBV).trans ((unhide HBEL).mono (unhide HBV).size)) (show w.heap.size ≤ w.heap.size + 1 by omega) (.slice none 0 0) (.slice none 0 0) (.slice none 0 0)
      generalize setT wr (w.heap.size + 1) (.slice none 0 0) (.slice none 0 0) (.slice none 0 0) = wf at *
      have fcc := fun o => cell_of_blk hfin o
      refine bodyPost_ret (v := .tuple #[.agg #[.slice none 0 0, .slice none 0 0, .slice none 0 0], .bool false]) (by simp [results, Tryz.results43, go_sem, fcc]) rfl ?_
      refine ⟨none, ⟨l, tw, ?_, ?_⟩, hbf, rfl⟩
      ·rw [List.length_map]; exact unhide HBFS
      ·rw [List.length_map, unhide HS0E, unhide HNONE]; rfl
     ·have hbi : ¬ (100 : Int) < (M.length : Int) := by omega
      have HEQ2 : Hid (bfs (setB tw) (List.range al.length) 100 102 0 [s0] [] = bfs (setB tw) (List.range al.length) 100 (102 - (k + 1)) (k + 1) M (rows ++ [q])) := by
       show _ = _
       rw [unhide HEQ, hn2, bfs_next (unhide HX) (by rw [unhide HRN]; exact hbig), unhide HRN, show 102 - (k + 1) = n2 by omega]
      have HBQ2 : Hid (Bfs (setB tw) (List.range al.length) s0 (k + 1) M (rows ++ [q])) := by
       have := (unhide HBQ).step (unhide HX)
       rw [unhide HRN] at this
       exact this
      have hMk : (M.take (k + 1)).map flB = (ms.take k).map flB ++ [flB bs] := by
       rw [show M = ms ++ xs from unhide HMX, List.take_append_of_le_length (by omega), List.take_add_one, unhide HX, List.map_append]
       rfl
      have HMK := hide hMk
      have hbsne : bs ≠ [] := fun e => by
       have h1 := unhide HBSL
       have h2 := (List.getElem?_eq_some_iff.1 (unhide HBFS).first).1
       have h3 : tw.length = l.length := (unhide HBFS).len
       rw [e] at h1
       simp at h1
       omega
      have HFL := hide (fun W => flags_any bs hbsne W)
      have hfl3 : flB bs ≤ 3 := flB_le bs
      clear hbel hres hn2 hMk hbsne
      go_wp2_with fail
      clear hs0c hsbl
      refine wp_region_any (by kernel_rfl) ?_
      change wpAny _ _ _ _ _ _ _ (World.drew _)
      refine wpAny_take (i := 0) (v := .pointer (some ⟨tb, 1, none⟩)) rfl (by kernel_rfl) (by kernel_rfl) (by kernel_rfl) (fun _ _ _ h => h) (Or.inl ⟨by kernel_rfl, fun w => by go_simp⟩) ?_
      try simp only [Act.put, zA, zB, zC, zD, zE, zF]
      refine wpAny_take (i := 2) (v := .string (setS bs)) rfl (by kernel_rfl) (by kernel_rfl) (by kernel_rfl) (fun _ _ _ h => h) (Or.inl ⟨by kernel_rfl, fun w => by go_simp⟩) ?_
      try simp only [Act.put, zA, zB, zC, zD, zE, zF]
      have HTD := hide ((unhide HCT2).later (W' := wr.drew) ((Below.refl _ _).drew))
      refine (fun hG => ?main) (?suf : (?G : Prop))
      case main =>
       refine wpAny_ready (rs := [1, 3]) (by kernel_rfl) (by simp) ?_
       refine AllReady.cons rfl (fun K hK => ?_) (AllReady.cons rfl (fun K hK => ?_) AllReady.nil)
       ·have hcl : World.cell? _ ⟨tb, 1, none⟩ = some (Value.slice fo k fc) := cell_of_blk (unhide HTD).tbk 1
        have htl := lt_of_blk (unhide HTD).tbk
        go_simp
        refine hK _ _ ?_
        clear hK K
        try simp only [Act.put, zA, zB, zC, zD, zE, zF]
        clear hcl htl
        refine wpAny_ready (rs := [3]) (by kernel_rfl) (by simp) ?_
        refine AllReady.cons rfl (fun K hK => ?_) AllReady.nil
        go_simp
        refine (unhide HFL _).mono ?_
        rintro e w8 ⟨rfl, hw8⟩
        subst hw8
        refine hK _ _ ?_
        clear hK K
        try simp only [Act.put, zA, zB, zC, zD, zE, zF]
        refine wpAny_ready (rs := [4]) (by kernel_rfl) (by simp) ?_
        refine AllReady.cons rfl (fun K hK => ?_) AllReady.nil
        go_simp
        refine hK _ _ ?_
        clear hK K
        try simp only [Act.put, zA, zB, zC, zD, zE, zF]
        exact hG
       ·go_simp
        refine (unhide HFL _).mono ?_
        rintro e w8 ⟨rfl, hw8⟩
        subst hw8
        refine hK _ _ ?_
        clear hK K
        try simp only [Act.put, zA, zB, zC, zD, zE, zF]
        refine wpAny_ready (rs := [1, 4]) (by kernel_rfl) (by simp) ?_
        refine AllReady.cons rfl (fun K hK => ?_) (AllReady.cons rfl (fun K hK => ?_) AllReady.nil)
        ·have hcl : World.cell? _ ⟨tb, 1, none⟩ = some (Value.slice fo k fc) := cell_of_blk (unhide HTD).tbk 1
         have htl := lt_of_blk (unhide HTD).tbk
         go_simp
         refine hK _ _ ?_
         clear hK K
         try simp only [Act.put, zA, zB, zC, zD, zE, zF]
         clear hcl htl
         refine wpAny_ready (rs := [4]) (by kernel_rfl) (by simp) ?_
         refine AllReady.cons rfl (fun K hK => ?_) AllReady.nil
         go_simp
         refine hK _ _ ?_
         clear hK K
         try simp only [Act.put, zA, zB, zC, zD, zE, zF]
         exact hG
        ·go_simp
         refine hK _ _ ?_
         clear hK K
         try simp only [Act.put, zA, zB, zC, zD, zE, zF]
         refine wpAny_ready (rs := [1]) (by kernel_rfl) (by simp) ?_
         refine AllReady.cons rfl (fun K hK => ?_) AllReady.nil
         have hcl : World.cell? _ ⟨tb, 1, none⟩ = some (Value.slice fo k fc) := cell_of_blk ((unhide HCT2).later ((Below.refl _ _).alloc (Nat.le_refl _) (.cells #[.int .i64 (flB bs : Int)] 3))).tbk 1
         have htl := lt_of_blk ((unhide HCT2).later ((Below.refl _ _).alloc (Nat.le_refl _) (.cells #[.int .i64 (flB bs : Int)] 3))).tbk
         go_simp
         refine hK _ _ ?_
         clear hK K
         try simp only [Act.put, zA, zB, zC, zD, zE, zF]
         clear hcl htl
         exact hG
      case suf =>
       have hlk : ((ms.take k).map flB).length = k := by rw [List.length_map, List.length_take]; omega
       have h7l := (unhide HCT2).bel.size
       refine wpAny_ready (rs := [5]) (by kernel_rfl) (by simp) ?_
       refine AllReady.cons rfl (fun K hK => ?_) AllReady.nil
       refine step_append_lies _ (by rfl) _ _ 33 (by rfl) V.heap.size 3 i0 (.int .i64 0) 1 8 Tryz.underlying33 hi0 hz0 hz1 hz2 rfl (by decide) (.slice fo k fc) k (intC ((ms.take k).map flB)) (by rfl) ?d0 ⟨wr.heap.size, 0, none⟩ 1 1 [.int .i64 (flB bs : Int)] (by rfl) rfl ?d1 ?d2 (by decide) ?d3 ?d4 ?d5 (wr.heap.size + 1) ?d6 ?_
       case d0 => have := (unhide HTD).tab.fl; simp only [hlk] at this; exact this.alloc _
       case d1 =>
        intro j u hj
        match j, hj with
        | 0, hj => simp at hj; subst hj; simp [Addr.add]
        | j + 1, hj => simp at hj
       case d2 => intro u hu; simp at hu; subst hu; rfl
       case d3 => unfold maxLen; omega
       case d4 => omega
       case d5 => simp; omega
       case d6 => simp
       intro g5 cap5 w5' hown hgrow hat hgl
       have htra := (unhide HTD).later ((Below.refl _ _).alloc (Nat.le_refl _) (.cells #[.int .i64 (flB bs : Int)] 3))
       have hgrow' : (wr.drew.alloc (.cells #[.int .i64 (flB bs : Int)] 3)).grownBy w5' (Value.slice fo k fc).ownBlock := hgrow
       have htab := htra.tab.flag (F' := .slice (some ⟨g5, 0, none⟩) (k + 1) cap5) (f := flB bs) (by simp only [hlk]; exact hown) hgrow' rfl (hat.imp id (fun h => by simp; omega))
       have hblk := (hgrow'.block tb (lt_of_blk htra.tbk) (fun e => own_ty htra.tab.fl e.symm htra.tbk (by decide))).trans htra.tbk
       have HCT8 := hide (htra.grow htra.tab.fl hgrow' (Or.inr (Or.inl rfl)) htab 1 (.slice (some ⟨g5, 0, none⟩) (k + 1) cap5) rfl)
       have hgq1 := ((((Below.refl _ _).drew).trans (((Below.refl wr.drew.heap.size wr.drew).alloc (Nat.le_refl _) (.cells #[.int .i64 (flB bs : Int)] 3)).mono (Nat.le_refl _))).block g (lt_of_blk (unhide HGQ))).trans (unhide HGQ)
       have hgF : ∀ v, (Value.slice fo k fc).ownBlock = some v → g ≠ v := fun v hv e => unhide HFG (e ▸ hv)
       have hgq2 := (hgrow'.block g (lt_of_blk hgq1) (fun e => hgF g e.symm rfl)).trans hgq1
       have hgtb : g ≠ tb := fun e => by
        have h1 := unhide HGQ
        rw [e, (unhide HCT2).tbk] at h1
        injection h1 with h1
        injection h1 with _ e2 _
        revert e2
        decide
       have HGQ8 := hide ((Below.heap_setCell w5' ⟨tb, 1, none⟩ (.slice (some ⟨g5, 0, none⟩) (k + 1) cap5) g hgtb).trans hgq2)
       have hg5g : (Value.slice (some ⟨g5, 0, none⟩) (k + 1) cap5).ownBlock ≠ some g := fun e => by
        have e' : g5 = g := Option.some.inj e
        rcases hat with h | h
        ·exact unhide HFG (by rw [h, e'])
        ·have := lt_of_blk (unhide HGQ); omega
       have HG5G := hide hg5g
       have hc5 : w5'.cell? ⟨tb, 1, none⟩ = some (.slice fo k fc) := cell_of_blk hblk 1
       have hf5 := frozen_of_blk hblk 1
       have hl5 := lt_of_blk hblk
       refine hK _ _ ?_
       clear hK K htra htab hblk hown hgrow hgrow' hat hgl hgq1 hgF hgq2 hgtb hg5g
       try simp only [Act.put, zA, zB, zC, zD, zE, zF]
       refine wpAny_take (i := 6) (v := .pointer (some ⟨tb, 1, none⟩)) rfl (by kernel_rfl) (by kernel_rfl) (by kernel_rfl) (fun _ _ _ h => h) (Or.inl ⟨by kernel_rfl, fun w => by go_simp⟩) ?_
       try simp only [Act.put, zA, zB, zC, zD, zE, zF]
       refine wpAny_ready (rs := [7]) (by kernel_rfl) (by simp) ?_
       refine AllReady.cons rfl (fun K hK => ?_) AllReady.nil
       go_simp
       refine hK _ _ ?_
       clear hK K hc5 hf5 hl5 h7l
       refine wpAny_done (by kernel_rfl) ?_ _
       generalize w5'.setCell ⟨tb, 1, none⟩ (.slice (some ⟨g5, 0, none⟩) (k + 1) cap5) = w8 at *
       have hx2 : w8.cell? ⟨tb, 2, none⟩ = some (.slice xo k xc) := cell_of_blk (unhide HCT8).tbk 2
       have hxl := lt_of_blk (unhide HCT8).tbk
       have hV8 := (unhide HCT8).bel.size
       have hrl2 : rows.length = k := unhide HRK
       have HRL := hide hrl2
       clear hrl2
       go_wp2_with (at_builtin; go_must (refine wpList_append_lies _ rfl _ _ 34 rfl V.heap.size 33 r0 (.slice none 0 0) 1 24 Tryz.underlying34 hr0 hrz0 hrz1 hrz2 rfl (by decide) _ k rv rfl ?e0 ⟨w8.heap.size, 0, none⟩ 1 1 [.slice (some ⟨g, 0, none⟩) al.length al.length] rfl rfl ?e1 ?e2 (by decide) ?e3 ?e4 ?e5 (w8.heap.size + 1) ?e6 ?_))
       case e0 => have := (unhide HCT8).tab.nx; simp only [unhide HRL] at this; exact this.alloc _
       case e2 => first | rfl | (intro u hu; simp at hu; subst hu; rfl)
       case e3 => unfold maxLen; omega
       case e4 => omega
       case e5 => first | omega | (simp; omega)
       intro g9 cap9 w9 ho9 hg9 _ _
       have hba : Below w8.heap.size w8 (w8.alloc (.cells #[.slice (some ⟨g, 0, none⟩) al.length al.length] 33)) := (Below.refl _ _).alloc (Nat.le_refl _) _
       have hct9 := (unhide HCT8).later hba
       have hgq9 := (hba.block _ (lt_of_blk (unhide HGQ8))).trans (unhide HGQ8)
       have hql : q.length = al.length := unhide HQL
       have hro := rowC_owns (base := V.heap.size) hgq9 hVg hql (by omega)
       have htab := hct9.tab.row (X' := .slice (some ⟨g9, 0, none⟩) (k + 1) cap9) (g := g) (c := al.length) (r := q) (by rw [hql]; exact hro) (unhide HG5G) (unhide HRG) (by simp only [unhide HRL, hql]; exact ho9) hg9
       rw [hql] at htab
       have hblk := (hg9.block tb (lt_of_blk hct9.tbk) (fun e => own_ty hct9.tab.nx e.symm hct9.tbk (by decide))).trans hct9.tbk
       have HCT9 := hide (hct9.grow hct9.tab.nx hg9 (Or.inr (Or.inr rfl)) htab 2 (.slice (some ⟨g9, 0, none⟩) (k + 1) cap9) rfl)
       rw [← unhide HMK] at HCT9
       have hc9 : w9.cell? ⟨tb, 2, none⟩ = some (.slice xo k xc) := cell_of_blk hblk 2
       have hf9 := frozen_of_blk hblk 2
       have hl9 := lt_of_blk hblk
       have hk99 : k < 100 := by omega
       clear ho9 hg9 hba hct9 hgq9 hql hro htab hblk hx2 hxl
       go_wp2_with fail
       go_roundw
       case rel => exact ⟨k + 1, so2, sc2, M, D2, some ⟨g5, 0, none⟩, cap5, some ⟨g9, 0, none⟩, cap9, rows ++ [q], _, by go_num, HCT9, HBQ2, by omega, HEQ2⟩
       case measure => simp [intOf]; omega
  ·have hkn : ¬ (k : Int) < (ms.length : Int) := by omega
   have hke : k = ms.length := by omega
   have HSOME : Hid (bfs (setB tw) (List.range al.length) 100 102 0 [s0] [] = some (ms, rows)) := by
    show _ = _
    obtain ⟨n2, hn2⟩ : ∃ n2, 102 - k = n2 + 1 := ⟨101 - k, by omega⟩
    rw [unhide HEQ, hn2]
    exact bfs_end (by omega)
   have htk : ms.take k = ms := List.take_of_length_le (by omega)
   rw [htk] at HCT
   have hres := (hbel.block _ (lt_of_blk (unhide HRV))).trans (unhide HRV)
   have HRES := hide hres
   have HBEL := hide hbel
   have rc' := fun o => cell_of_blk hres o
   have rf' := fun o => frozen_of_blk hres o
   have rl' := lt_of_blk hres
   have tc0 : wr.cell? ⟨tb, 0, none⟩ = some (.slice va1 al.length va3) := cell_of_blk (unhide HCT).tbk 0
   have tc1 : wr.cell? ⟨tb, 1, none⟩ = some (.slice fo k fc) := cell_of_blk (unhide HCT).tbk 1
   have tc2 : wr.cell? ⟨tb, 2, none⟩ = some (.slice xo k xc) := cell_of_blk (unhide HCT).tbk 2
   have tl := lt_of_blk (unhide HCT).tbk
   clear hbel hres hke htk
   go_wp2_with fail
   change bodyPost _ _ _ _ _ (setT wr (w.heap.size + 1) (.slice va1 al.length va3) (.slice fo k fc) (.slice xo k xc))
   have hfin := setT_blk (unhide HRES) (.slice va1 al.length va3) (.slice fo k fc) (.slice xo k xc)
   have hbf := setT_below ((unhide HBV).trans ((unhide HBEL).mono (unhide HBV).size)) (show w.heap.size ≤ w.heap.size + 1 by omega) (.slice va1 al.length va3) (.slice fo k fc) (.slice xo k xc)
   have htf := setT_tab (unhide HRES) (unhide HCT).tab (A' := .slice va1 al.length va3) (F' := .slice fo k fc) (X' := .slice xo k xc)
   generalize setT wr (w.heap.size + 1) (.slice va1 al.length va3) (.slice fo k fc) (.slice xo k xc) = wf at *
   have fcc := fun o => cell_of_blk hfin o
   refine bodyPost_ret (v := .tuple #[.agg #[.slice va1 al.length va3, .slice fo k fc, .slice xo k xc], .bool true]) (by simp [results, Tryz.results43, go_sem, fcc]) rfl ?_
   refine ⟨some ⟨names, ms.map flB, rows⟩, ⟨l, tw, ?_, ?_⟩, hbf, _, _, _, rv, rfl, htf.mono (unhide HBV).size⟩
   ·rw [List.length_map]; exact unhide HBFS
   ·rw [List.length_map, unhide HS0E, unhide HSOME, unhide HNAME]; rfl
end Go.Proofs.YtidakhhekofkoaaGreatDoor
namespace Go.Proofs.YtidakhhekofkoaaGreatDoor
open Go.RowKit Go.Deep
def okG : List Value → Value
 | [] => .int .i64 5
 | _ => .int .i64 0
def CmpP (s : ByteArray) (w w' : World) (e : Ending) : Prop :=
 match readM s with
 | .error x => Below w.heap.size w w' ∧ e = .returned (.tuple #[.agg #[.slice none 0 0, .slice none 0 0, .slice none 0 0], .int .i64 x.2])
 | .ok (al, rs) => ∃ o, CompP al rs o ∧ DecP okG w o w' e
theorem CmpP.err {s : ByteArray} {w w' : World} {e : Ending} {x : Nat × Nat} (h : readM s = .error x) (hb : Below w.heap.size w w') (he : e = .returned (.tuple #[.agg #[.slice none 0 0, .slice none 0 0, .slice none 0 0], .int .i64 x.2])) : CmpP s w w' e := by
 unfold CmpP; rw [h]; exact ⟨hb, he⟩
theorem CmpP.ok {s : ByteArray} {w w' : World} {e : Ending} {al : List Tk} {rs : List Rl} (h : readM s = .ok (al, rs)) {o : Option Tb} (ho : CompP al rs o) (hd : DecP okG w o w' e) : CmpP s w w' e := by
 unfold CmpP; rw [h]; exact ⟨o, ho, hd⟩
set_option maxHeartbeats 4000000 in
set_option maxRecDepth 100000 in
theorem Compile_any (s : ByteArray) (w : World) (hG : GV w) :
  Calls Tryz.prog 17 #[.string s] w fun e w' => CmpP s w w' e := by
 have hbz : Below w.heap.size w (w.alloc (.cells #[.slice none 0 0, .slice none 0 0, .slice none 0 0] 36)) := (Below.refl _ _).alloc (Nat.le_refl _) _
 have HRD := hide (read_any s _ (hG.later hbz))
 have HBZ := hide hbz
 have HRES := hide (blk_alloc w (.cells #[.slice none 0 0, .slice none 0 0, .slice none 0 0] 36))
 clear hG hbz
 go_enter Tryz.func17, Tryz.ntmps17
 go_wp2_with fail
 refine (unhide HRD).mono ?_
 generalize hW : w.alloc (.cells #[.slice none 0 0, .slice none 0 0, .slice none 0 0] 36) = W at *
 have hsz : w.heap.size ≤ W.heap.size := (unhide HBZ).size
 clear hW
 rintro e w1 ⟨hb1, hm⟩
 have hres := (hb1.block _ (lt_of_blk (unhide HRES))).trans (unhide HRES)
 have HB1 := hide ((unhide HBZ).trans (hb1.mono (unhide HBZ).size))
 cases hr : readM s with
 | error x =>
  rw [hr] at hm
  have hne := readM_err hr
  have HX := hide hr
  obtain ⟨xp, xe⟩ := x
  have hne' : ¬ ((xe : Nat) : Int) = 0 := by have : xe ≠ 0 := hne; omega
  subst hm
  have hba : Below w1.heap.size w1 ((w1.alloc (.cells #[.slice none 0 0, .slice none 0 0] 78)).alloc (.cells #[.int .i64 xp, .int .i64 xe] 80)) := ((Below.refl _ _).alloc (Nat.le_refl _) _).alloc (by simp) _
  have hres2 := (hba.block _ (lt_of_blk hres)).trans hres
  have HRE := hide hres2
  have HB2 := hide ((unhide HB1).trans (hba.mono (unhide HB1).size))
  have hfb : ((w1.alloc (.cells #[.slice none 0 0, .slice none 0 0] 78)).alloc (.cells #[.int .i64 xp, .int .i64 xe] 80)).heap[w1.heap.size + 1]? = some (.cells #[.int .i64 xp, .int .i64 xe] 80 (0, 0)) := blk_alloc' _ _ _ (by simp)
  have HFB := hide hfb
  clear hr hb1 hne hba hres hres2 hfb
  go_wp2_with fail
  generalize ((w1.alloc (.cells #[.slice none 0 0, .slice none 0 0] 78)).alloc (.cells #[.int .i64 xp, .int .i64 xe] 80)) = w2 at *
  have hfc : w2.cell? ⟨w1.heap.size + 1, 1, none⟩ = some (.int .i64 xe) := cell_of_blk (unhide HFB) 1
  have rc := fun o => cell_of_blk (unhide HRE) o
  have rf := fun o => frozen_of_blk (unhide HRE) o
  have rl := lt_of_blk (unhide HRE)
  refine wp_region_held_drew (S := fun w' => w'.cell? ⟨w1.heap.size + 1, 1, none⟩ = some (.int .i64 xe)) (by kernel_rfl) ?_ (fun hHeld => ?_)
  ·exact hfc
  refine wpAnyH_take (i := 0) (v := .agg #[.slice none 0 0, .slice none 0 0, .slice none 0 0]) rfl (by kernel_rfl) (by kernel_rfl) (by kernel_rfl) (fun _ _ _ h => h) (Or.inl ⟨by kernel_rfl, fun w hw => by have s0 := hw; go_simp⟩) hHeld ?_
  try simp only [Act.put, zA, zB, zC, zD, zE, zF]
  refine wpAnyH_take (i := 1) (v := .pointer (some ⟨w1.heap.size + 1, 1, none⟩)) rfl (by kernel_rfl) (by kernel_rfl) (by kernel_rfl) (fun _ _ _ h => h) (Or.inl ⟨by kernel_rfl, fun w hw => by have s0 := hw; go_simp⟩) hHeld ?_
  try simp only [Act.put, zA, zB, zC, zD, zE, zF]
  refine wpAnyH_take (i := 2) (v := .int .i64 xe) rfl (by kernel_rfl) (by kernel_rfl) (by kernel_rfl) (fun _ _ _ h => h) (Or.inl ⟨by kernel_rfl, fun w hw => by have s0 := hw; go_simp⟩) hHeld ?_
  try simp only [Act.put, zA, zB, zC, zD, zE, zF]
  refine wpAnyH_ready (rs := [3]) (by kernel_rfl) (by simp) ?_
  refine AllReadyH.cons rfl (fun K hK => ?_) AllReadyH.nil
  go_simp
  have hk : (setT w2 w.heap.size (.slice none 0 0) (.slice none 0 0) (.slice none 0 0)).cell? ⟨w1.heap.size + 1, 1, none⟩ = some (.int .i64 xe) := by
   have hb := (setT_grown w2 w.heap.size (.slice none 0 0) (.slice none 0 0) (.slice none 0 0)).block _ (lt_of_blk (unhide HFB)) (fun e => by
    have e' : w1.heap.size + 1 = w.heap.size := Option.some.inj e
    have := (unhide HB1).size
    omega)
   rw [World.cell?_of_block (a := ⟨w1.heap.size + 1, 1, none⟩) hb]
   exact hfc
  refine hK.out _ _ hk (fun hHeld => ?_)
  clear hK K
  refine wpAnyH_take (i := 4) (v := .int .i64 xe) rfl (by kernel_rfl) (by kernel_rfl) (by kernel_rfl) (fun _ _ _ h => h) (Or.inl ⟨by kernel_rfl, fun w hw => by have s0 := hw; go_simp⟩) hHeld ?_
  try simp only [Act.put, zA, zB, zC, zD, zE, zF]
  refine wpAnyH_done (by kernel_rfl) ?_ _
  clear hHeld hk
  go_wp2_with fail
  change bodyPost _ _ _ _ _ (World.drew (setT w2 w.heap.size (.slice none 0 0) (.slice none 0 0) (.slice none 0 0)))
  have hfin := setT_blk (unhide HRE) (.slice none 0 0) (.slice none 0 0) (.slice none 0 0)
  have hbf := setT_below (unhide HB2) (Nat.le_refl _) (.slice none 0 0) (.slice none 0 0) (.slice none 0 0)
  generalize setT w2 w.heap.size (.slice none 0 0) (.slice none 0 0) (.slice none 0 0) = wf at *
  have fcc := fun o => cell_of_blk hfin o
  refine bodyPost_ret (v := .tuple #[.agg #[.slice none 0 0, .slice none 0 0, .slice none 0 0], .int .i64 xe]) (by simp [results, Tryz.results17, go_sem, fcc]) rfl ?_
  exact CmpP.err (unhide HX) (hbf.trans (((Below.refl _ _).drew).mono hbf.size)) rfl
 | ok m =>
  obtain ⟨al, rs⟩ := m
  rw [hr] at hm
  obtain ⟨a1, a2, a3, m1, m2, m3, cs, rfl, ha, hrr, hp⟩ := hm
  obtain ⟨_, _, e2⟩ := owns_val ha
  cases e2
  have hg := readM_good hr
  have h6 : al.length ≤ 6 := by have := (acts_ok hr).n6; simpa using this
  have hbl : Below w1.heap.size w1 ((w1.alloc (.cells #[.slice a1 al.length a3, .slice m1 m2 m3] 78)).alloc (.cells #[.int .i64 0, .int .i64 0] 80)) := ((Below.refl _ _).alloc (Nat.le_refl _) _).alloc (by simp) _
  have HT := hide (Table_any _ al rs hg a1 a3 m1 m2 m3 cs (owns_later ha hbl) (owns_later hrr hbl) (hp.keep (KB.below hbl)) h6)
  have HB2 := hide ((unhide HB1).trans (hbl.mono (unhide HB1).size))
  have HRE := hide ((hbl.block _ (lt_of_blk hres)).trans hres)
  have HX := hide hr
  clear hr ha hrr hp hg hbl hb1 hres
  go_wp2_with fail
  refine (unhide HT).mono ?_
  generalize ((w1.alloc (.cells #[.slice a1 al.length a3, .slice m1 m2 m3] 78)).alloc (.cells #[.int .i64 0, .int .i64 0] 80)) = w2 at *
  rintro e w3 ⟨o, ho, hb3, hm⟩
  have HO := hide ho
  have hres3 := (hb3.block _ (lt_of_blk (unhide HRE))).trans (unhide HRE)
  have HB3 := hide ((unhide HB2).trans (hb3.mono (unhide HB2).size))
  have hwz : w.heap.size ≤ w2.heap.size := (unhide HB2).size
  cases o with
  | none =>
   have hm' : e = .returned (.tuple #[.agg #[.slice none 0 0, .slice none 0 0, .slice none 0 0], .bool false]) := hm
   subst hm'
   have hba : Below w3.heap.size w3 (w3.alloc (.cells #[.slice none 0 0, .slice none 0 0, .slice none 0 0] 36)) := (Below.refl _ _).alloc (Nat.le_refl _) _
   have HRE4 := hide ((hba.block _ (lt_of_blk hres3)).trans hres3)
   have HB4 := hide ((unhide HB3).trans (hba.mono (unhide HB3).size))
   have rc := fun o => cell_of_blk (unhide HRE4) o
   have rf := fun o => frozen_of_blk (unhide HRE4) o
   have rl := lt_of_blk (unhide HRE4)
   clear hm ho hb3 hres3 hba
   go_wp2_with fail
   change bodyPost _ _ _ _ _ (setT (w3.alloc (.cells #[.slice none 0 0, .slice none 0 0, .slice none 0 0] 36)) w.heap.size (.slice none 0 0) (.slice none 0 0) (.slice none 0 0))
   have hfin := setT_blk (unhide HRE4) (.slice none 0 0) (.slice none 0 0) (.slice none 0 0)
   have hbf := setT_below (unhide HB4) (Nat.le_refl _) (.slice none 0 0) (.slice none 0 0) (.slice none 0 0)
   generalize setT (w3.alloc (.cells #[.slice none 0 0, .slice none 0 0, .slice none 0 0] 36)) w.heap.size (.slice none 0 0) (.slice none 0 0) (.slice none 0 0) = wf at *
   have fcc := fun o => cell_of_blk hfin o
   refine bodyPost_ret (v := .tuple #[.agg #[.slice none 0 0, .slice none 0 0, .slice none 0 0], .int .i64 5]) (by simp [results, Tryz.results17, go_sem, fcc]) rfl ?_
   exact CmpP.ok (unhide HX) (unhide HO) ⟨hbf, rfl⟩
  | some t =>
   obtain ⟨A, F, X, rv, he, htab⟩ := hm
   obtain ⟨ao, ac, rfl⟩ := owns_val htab.acts
   obtain ⟨fo, fc, rfl⟩ := owns_val htab.fl
   obtain ⟨no, nc, rfl⟩ := owns_val htab.nx
   have he' : e = .returned (.tuple #[.agg #[.slice ao t.acts.length ac, .slice fo t.fl.length fc, .slice no t.nx.length nc], .bool true]) := he
   subst he'
   clear he
   have hba : Below w3.heap.size w3 (w3.alloc (.cells #[.slice ao t.acts.length ac, .slice fo t.fl.length fc, .slice no t.nx.length nc] 36)) := (Below.refl _ _).alloc (Nat.le_refl _) _
   have HRE4 := hide ((hba.block _ (lt_of_blk hres3)).trans hres3)
   have HB4 := hide ((unhide HB3).trans (hba.mono (unhide HB3).size))
   have HTAB := hide ((htab.later hba).mono hwz)
   have hbx := blk_alloc w3 (.cells #[.slice ao t.acts.length ac, .slice fo t.fl.length fc, .slice no t.nx.length nc] 36)
   have rc := fun o => cell_of_blk (unhide HRE4) o
   have rf := fun o => frozen_of_blk (unhide HRE4) o
   have rl := lt_of_blk (unhide HRE4)
   clear ho hb3 hres3 hba htab
   go_wp2_with fail
   change bodyPost _ _ _ _ _ (setT (w3.alloc (.cells #[.slice ao t.acts.length ac, .slice fo t.fl.length fc, .slice no t.nx.length nc] 36)) w.heap.size (.slice ao t.acts.length ac) (.slice fo t.fl.length fc) (.slice no t.nx.length nc))
   have hfin := setT_blk (unhide HRE4) (.slice ao t.acts.length ac) (.slice fo t.fl.length fc) (.slice no t.nx.length nc)
   have hbf := setT_below (unhide HB4) (Nat.le_refl _) (.slice ao t.acts.length ac) (.slice fo t.fl.length fc) (.slice no t.nx.length nc)
   have htf := setT_tab (unhide HRE4) (unhide HTAB) (A' := .slice ao t.acts.length ac) (F' := .slice fo t.fl.length fc) (X' := .slice no t.nx.length nc)
   generalize setT (w3.alloc (.cells #[.slice ao t.acts.length ac, .slice fo t.fl.length fc, .slice no t.nx.length nc] 36)) w.heap.size (.slice ao t.acts.length ac) (.slice fo t.fl.length fc) (.slice no t.nx.length nc) = wf at *
   have fcc := fun o => cell_of_blk hfin o
   refine bodyPost_ret (v := .tuple #[.agg #[.slice ao t.acts.length ac, .slice fo t.fl.length fc, .slice no t.nx.length nc], .int .i64 0]) (by simp [results, Tryz.results17, go_sem, fcc]) rfl ?_
   exact CmpP.ok (unhide HX) (unhide HO) ⟨hbf, _, _, _, rv, rfl, htf⟩
end Go.Proofs.YtidakhhekofkoaaGreatDoor
namespace Go.Proofs.YtidakhhekofkoaaGreatDoor
open Rt
open Go.RowKit Go.Deep
theorem RightT.small {t : Tb} (h : RightT t) : t.acts.length ≤ 1000 ∧ t.nx.length ≤ 1000 ∧ t.fl.length ≤ 1000 ∧ ∀ r ∈ t.nx, r.length ≤ 1000 := by
 have h1 := h.acts.n6
 have h2 := h.n100
 have h3 := h.fl
 exact ⟨by omega, by omega, by omega, fun r hr => by have := (h.rs r hr).1; omega⟩
def DecT (t : Tb) (w w' : World) (e : Ending) : Prop := ∃ ao fo no ac fc nc rv, e = .returned (.tuple #[.agg #[.slice ao t.acts.length ac, .slice fo t.fl.length fc, .slice no t.nx.length nc], .int .i64 0]) ∧ TbW w' w.heap.size (.slice ao t.acts.length ac) (.slice fo t.fl.length fc) (.slice no t.nx.length nc) t rv ∧ RightT t ∧ Below w.heap.size w w'
theorem DecT.of {t : Tb} {w w' : World} {e : Ending} {ty : List Value → Value} (hty : ty [.bool true] = .int .i64 0) (hR : RightT t) (h : DecP ty w (some t) w' e) : DecT t w w' e := by
 obtain ⟨hb, A, F, X, rv, he, htab⟩ := h
 obtain ⟨ao, ac, rfl⟩ := owns_val htab.acts
 obtain ⟨fo, fc, rfl⟩ := owns_val htab.fl
 obtain ⟨no, nc, rfl⟩ := owns_val htab.nx
 rw [hty] at he
 exact ⟨ao, fo, no, ac, fc, nc, rv, he, htab, hR, hb⟩
end Go.Proofs.YtidakhhekofkoaaGreatDoor
