/- The program's checkKnown and checkAct. -/
import Derived.Test.YtidakhhekofkoaaGreatDoorK20
import Derived.Test.YtidakhhekofkoaaGreatDoorK17
import Derived.Test.YtidakhhekofkoaaGreatDoorK12
import Derived.Test.YtidakhhekofkoaaGreatDoorK19
import Derived.Deep.AppendLies
import Derived.Deep.RegionHeld
set_option linter.unusedSimpArgs false
open List renaming setIfInBounds_toArray → zA, set_cons_zero → zB, set_cons_succ → zC, getElem_toArray → zD, getElem_cons_succ → zE, getElem_cons_zero → zF
namespace Go.Proofs.YtidakhhekofkoaaGreatDoor
open Go.RowKit Go.Deep
theorem box_cf {w w' : World} {cb B b ty : Nat} {c : Array Value} {m : Nat × Nat} (hf : CF cb B w w') (hb : w.heap[b]? = some (.cells c ty m)) (h1 : ty ≠ 9) (h2 : b ≠ cb) : w'.heap[b]? = some (.cells c ty m) :=
 (hf.keep b (lt_of_blk hb) h2 (Or.inr (ty_ne hb h1))).trans hb
theorem Tryz.infoStr : (Tryz.prog.info? 9).map (fun i => (i.zero, i.size, i.bytes)) = some (some (.string ⟨#[]⟩), 1, 16) := by kernel_rfl
set_option maxHeartbeats 2000000 in
theorem checkKnown_any (w : World) (cb B : Nat) (A : List Tk) (x : Nat × Nat) (t : Tk) (h : CK w cb B A x) :
  Calls Tryz.prog 159 #[.pointer (some ⟨cb, 0, none⟩), tkP t] w fun r w' => r = .returned (.tuple #[]) ∧ CK w' cb B A (tells x (fName A t.s t.p)) ∧ CF cb B w w' := by
 have HC := hide h
 have hcl := h.lt
 clear h
 unfold tkP
 go_enter Tryz.func159, Tryz.ntmps159
 go_wp2_with fail
 refine (checkLength_any _ cb B A x t ((unhide HC).alloc _)).mono ?_
 rintro e w1 ⟨rfl, hc1, hf1⟩
 have hbx := box_cf hf1 (blk_alloc w (.cells #[.int .i64 t.k, .string t.s, .int .i64 t.p] 201)) (by decide) (by omega)
 have xc := fun o => cell_of_blk hbx o
 have hxl : w.heap.size < w1.heap.size := lt_of_blk hbx
 obtain ⟨ao, an, ac, hb1, ho1⟩ := hc1.blk
 have bc := fun o => cell_of_blk hb1 o
 have hcl1 := hc1.lt
 have HC1 := hide hc1
 have HO1 := hide ho1
 have HF1 := hide ((CF.below (cb := cb) (B := B) ((Below.refl w.heap.size w).alloc (Nat.le_refl _) _)).trans hf1)
 clear hc1 hf1 hbx hb1 ho1
 go_wp2_with fail
 go_quiet (first | (go_at_call 77; refine Calls.quiet_of_same (contains_any A t.s (.slice ao an ac) B _ (owns_later (unhide HO1) (bdn _ _)))))
 cases hh : hasN A t.s with
 | true =>
  have HT : Hid (tells (tells x (fLong t)) [] = tells x (fName A t.s t.p)) := by show _ = _; unfold fName fLong; rw [hh, tells_append]; rfl
  clear hh
  go_wp2_with fail
  go_end0
  rw [← unhide HT]
  exact ⟨rfl, (unhide HC1).later (bdn _ _), (unhide HF1).trans (CF.below (bdn _ _))⟩
 | false =>
  have HT : Hid (tell (tells x (fLong t)) t.p 3 = tells x (fName A t.s t.p)) := by show _ = _; unfold fName fLong; rw [hh, tells_append]; rfl
  clear hh
  go_wp2_with fail
  refine (tell_any _ cb B A _ t.p 3 ((unhide HC1).later (bdn _ _))).mono ?_
  rintro e w2 ⟨rfl, hc2, hg2⟩
  have HC2 := hide hc2
  have HG2 := hide hg2
  clear hc2 hg2
  go_wp2_with fail
  go_end0
  rw [← unhide HT]
  exact ⟨rfl, unhide HC2, ((unhide HF1).trans (CF.below (bdn _ _))).trans (CF.grown (unhide HG2))⟩
set_option maxHeartbeats 4000000 in
set_option maxRecDepth 100000 in
theorem checkAct_any (w : World) (cb B : Nat) (A : List Tk) (x : Nat × Nat) (i : Nat) (t : Tk) (h : CK w cb B A x) (hA : A.length ≤ 401) (hBw : B ≤ w.heap.size) :
  Calls Tryz.prog 115 #[.pointer (some ⟨cb, 0, none⟩), .int .i64 (i : Int), tkP t] w fun r w' => r = .returned (.tuple #[]) ∧ CK w' cb B (A ++ [t]) (tells x (pAct A i t)) ∧ CF cb B w w' := by
 obtain ⟨i0, hi, hz0, hz1, hz2⟩ := info_parts Tryz.infoStr
 have HC := hide h
 have hcl := h.lt
 have hBc := h.hB
 clear h
 unfold tkP
 go_enter Tryz.func115, Tryz.ntmps115
 go_wp2_with fail
 refine (checkLength_any _ cb B A x t ((unhide HC).alloc _)).mono ?_
 rintro e w1 ⟨rfl, hc1, hf1⟩
 have hbx := box_cf hf1 (blk_alloc w (.cells #[.int .i64 t.k, .string t.s, .int .i64 t.p] 201)) (by decide) (by omega)
 have HBX := hide hbx
 have xc := fun o => cell_of_blk hbx o
 have hxl : w.heap.size < w1.heap.size := lt_of_blk hbx
 obtain ⟨ao, an, ac, hb1, ho1⟩ := hc1.blk
 have bc := fun o => cell_of_blk hb1 o
 have hcl1 := hc1.lt
 have HC1 := hide hc1
 have HO1 := hide ho1
 have HF1 := hide ((CF.below (cb := cb) (B := B) ((Below.refl w.heap.size w).alloc (Nat.le_refl _) _)).trans hf1)
 clear hc1 hf1 hbx hb1 ho1
 go_wp2_with fail
 go_quiet (first | (go_at_call 77; refine Calls.quiet_of_same (contains_any A t.s (.slice ao an ac) B _ (owns_later (unhide HO1) (bdn _ _)))))
 clear bc xc
 go_upto_if 15 with fail
 go_cut [] (fun wc => CK wc cb B A (tells (tells x (fLong t)) (if hasN A t.s = true then [(t.p, 3)] else [])) ∧ CF cb B w wc ∧ wc.heap[w.heap.size]? = some (.cells #[.int .i64 t.k, .string t.s, .int .i64 t.p] 201 (0, 0)))
 case first =>
  have hbx2 := ((bdn w1 nq).block _ hxl).trans (unhide HBX)
  have xc := fun o => cell_of_blk hbx2 o
  cases hh : hasN A t.s with
  | true =>
   have HT : Hid (tells (tells x (fLong t)) (if hasN A t.s = true then [(t.p, 3)] else []) = tell (tells x (fLong t)) t.p 3) := by show _ = _; rw [hh]; rfl
   go_wp2_with fail
   refine (tell_any _ cb B A _ t.p 3 ((unhide HC1).later (bdn _ _))).mono ?_
   rintro e w2 ⟨rfl, hc2, hg2⟩
   have HC2 := hide hc2
   have HG2 := hide hg2
   clear hc2 hg2
   go_wp2_with fail
   go_meet
   rw [unhide HT]
   exact ⟨unhide HC2, ((unhide HF1).trans (CF.below (bdn _ _))).trans (CF.grown (unhide HG2)), ((unhide HG2).block _ (lt_of_blk hbx2) (by simp; omega)).trans hbx2⟩
  | false =>
   have HT : Hid (tells (tells x (fLong t)) (if hasN A t.s = true then [(t.p, 3)] else []) = tells x (fLong t)) := by show _ = _; rw [hh]; rfl
   go_wp2_with fail
   go_meet
   rw [unhide HT]
   exact ⟨(unhide HC1).later (bdn _ _), (unhide HF1).trans (CF.below (bdn _ _)), hbx2⟩
 case rest =>
  obtain ⟨hc2, hf2, hbx2⟩ := hcut
  have HC2 := hide hc2
  have HF2 := hide hf2
  have HBX2 := hide hbx2
  have hxl2 : w.heap.size < wc.heap.size := lt_of_blk hbx2
  clear hc2 hf2 hbx2 HC1 HO1 HF1 HBX
  go_upto_if 21 with fail
  go_cut [] (fun wc => CK wc cb B A (tells x (pAct A i t)) ∧ CF cb B w wc ∧ wc.heap[w.heap.size]? = some (.cells #[.int .i64 t.k, .string t.s, .int .i64 t.p] 201 (0, 0)))
  case first =>
   have xc := fun o => cell_of_blk (unhide HBX2) o
   by_cases h6 : 6 ≤ i
   ·have h6' : (6 : Int) ≤ (i : Int) := by omega
    have HT : Hid (tell (tells (tells x (fLong t)) (if hasN A t.s = true then [(t.p, 3)] else [])) t.p 4 = tells x (pAct A i t)) := by show _ = _; unfold pAct; rw [if_pos h6, tells_append, tells_append]; rfl
    clear h6
    go_wp2_with fail
    refine (tell_any _ cb B A _ t.p 4 (unhide HC2)).mono ?_
    rintro e w2 ⟨rfl, hc3, hg3⟩
    have HC3 := hide hc3
    have HG3 := hide hg3
    clear hc3 hg3
    go_wp2_with fail
    go_meet
    rw [← unhide HT]
    exact ⟨unhide HC3, (unhide HF2).trans (CF.grown (unhide HG3)), ((unhide HG3).block _ hxl2 (by simp; omega)).trans (unhide HBX2)⟩
   ·have h6' : ¬ (6 : Int) ≤ (i : Int) := by omega
    have HT : Hid (tells (tells x (fLong t)) (if hasN A t.s = true then [(t.p, 3)] else []) = tells x (pAct A i t)) := by show _ = _; unfold pAct; rw [if_neg h6, tells_append, List.append_nil]
    clear h6
    go_wp2_with fail
    go_meet
    rw [← unhide HT]
    exact ⟨unhide HC2, unhide HF2, unhide HBX2⟩
  case rest =>
   obtain ⟨hc3, hf3, hbx3⟩ := hcut
   obtain ⟨bo, bn, bk, hb3, ho3⟩ := hc3.blk
   have bc := fun o => cell_of_blk hb3 o
   have bf := fun o => frozen_of_blk hb3 o
   have hcl3 := hc3.lt
   have hxl3 : w.heap.size < wc.heap.size := lt_of_blk hbx3
   have hnc3 : (Value.slice bo bn bk).ownBlock ≠ some cb := fun e => own_ty ho3 e hb3 (by decide)
   have hnx3 : (Value.slice bo bn bk).ownBlock ≠ some w.heap.size := fun e => own_ty ho3 e hbx3 (by decide)
   have HF3 := hide hf3
   have HO3 := hide ho3
   have HB3 := hide hb3
   have HBX3 := hide hbx3
   clear hc3 hf3 hbx3 hb3 ho3 HC2 HF2 HBX2
   generalize wc = w3 at *
   go_wp2_with fail
   refine wp_region_held_drew (S := fun w' => w'.cell? ⟨w.heap.size, 1, none⟩ = some (.string t.s)) (by kernel_rfl) ?_ (fun hHeld => ?_)
   ·show w3.drew.cell? _ = _
    exact cell_of_blk (unhide HBX3) 1
   refine wpAnyH_take (i := 0) (v := .pointer (some ⟨cb, 0, none⟩)) rfl (by kernel_rfl) (by kernel_rfl) (by kernel_rfl) (fun _ _ _ h => h) (Or.inl ⟨by kernel_rfl, fun w hw => by have s0 := hw; go_simp⟩) hHeld ?_
   try simp only [Act.put, zA, zB, zC, zD, zE, zF]
   refine wpAnyH_take (i := 1) (v := .pointer (some ⟨cb, 0, none⟩)) rfl (by kernel_rfl) (by kernel_rfl) (by kernel_rfl) (fun _ _ _ h => h) (Or.inl ⟨by kernel_rfl, fun w hw => by have s0 := hw; go_simp⟩) hHeld ?_
   try simp only [Act.put, zA, zB, zC, zD, zE, zF]
   refine wpAnyH_take (i := 2) (v := .pointer (some ⟨cb, 0, none⟩)) rfl (by kernel_rfl) (by kernel_rfl) (by kernel_rfl) (fun _ _ _ h => h) (Or.inl ⟨by kernel_rfl, fun w hw => by have s0 := hw; go_simp⟩) hHeld ?_
   try simp only [Act.put, zA, zB, zC, zD, zE, zF]
   refine wpAnyH_take (i := 3) (v := .pointer (some ⟨cb, 0, none⟩)) rfl (by kernel_rfl) (by kernel_rfl) (by kernel_rfl) (fun _ _ _ h => h) (Or.inl ⟨by kernel_rfl, fun w hw => by have s0 := hw; go_simp⟩) hHeld ?_
   try simp only [Act.put, zA, zB, zC, zD, zE, zF]
   refine wpAnyH_take (i := 5) (v := .pointer (some ⟨w.heap.size, 1, none⟩)) rfl (by kernel_rfl) (by kernel_rfl) (by kernel_rfl) (fun _ _ _ h => h) (Or.inl ⟨by kernel_rfl, fun w hw => by have s0 := hw; go_simp⟩) hHeld ?_
   try simp only [Act.put, zA, zB, zC, zD, zE, zF]
   refine wpAnyH_take (i := 6) (v := .string t.s) rfl (by kernel_rfl) (by kernel_rfl) (by kernel_rfl) (fun _ _ _ h => h) (Or.inl ⟨by kernel_rfl, fun w hw => by have s0 := hw; go_simp⟩) hHeld ?_
   try simp only [Act.put, zA, zB, zC, zD, zE, zF]
   refine wpAnyH_ready (rs := [4, 7]) (by kernel_rfl) (by simp) ?_
   refine AllReadyH.cons rfl (fun K hK => ?_) (AllReadyH.cons rfl (fun K hK => ?_) AllReadyH.nil)
   ·go_simp
    refine hK.out _ _ hHeld (fun hHeld => ?_)
    clear hK K
    refine wpAnyH_ready (rs := [7]) (by kernel_rfl) (by simp) ?_
    refine AllReadyH.cons rfl (fun K hK => ?_) AllReadyH.nil
    go_simp
    refine hK.out _ _ (by first | exact hHeld | (show (World.alloc _ _).cell? _ = _; rw [World.cell?_alloc_lt _ _ _ hxl3]; exact cell_of_blk (unhide HBX3) 1)) (fun hHeld => ?_)
    clear hK K
    refine wpAnyH_ready (rs := [8]) (by kernel_rfl) (by simp) ?_
    refine AllReadyH.cons rfl (fun K hK => ?_) AllReadyH.nil
    refine step_append_lies _ (by rfl) _ _ 25 (by rfl) B 9 i0 (.string ⟨#[]⟩) 1 16 Tryz.underlying25 hi hz0 hz1 hz2 rfl (by decide) (.slice bo bn bk) A.length (strC A) (by rfl) ?c0 ⟨w3.heap.size, 0, none⟩ 1 1 [.string t.s] (by rfl) rfl ?c1 ?c2 (by decide) ?c3 ?c4 ?c5 (w3.heap.size + 1) (by simp) ?_
    case c0 => exact owns_later (unhide HO3) ((Below.refl _ _).alloc (Nat.le_refl _) _).drew
    case c1 =>
     intro j u hj
     match j, hj with
     | 0, hj => simp at hj; subst hj; simp [Addr.add]
     | j + 1, hj => simp at hj
    case c2 => intro u hu; simp at hu; subst hu; rfl
    case c3 => unfold maxLen; omega
    case c4 => omega
    case c5 => have := (unhide HF3).size; simp; omega
    intro g4 cap4 w4 hown4 hgrow4 hat4 hlt4
    have hb4 := (hgrow4.block cb (by simp; omega) (fun e => hnc3 e.symm)).trans ((Below.heap_alloc _ _ _ hcl3).trans (unhide HB3))
    have hbx4 := (hgrow4.block w.heap.size (by simp; omega) (fun e => hnx3 e.symm)).trans ((Below.heap_alloc _ _ _ hxl3).trans (unhide HBX3))
    have hf4 : CF cb B w w4 := ((unhide HF3).trans (CF.below ((Below.refl w3.heap.size w3).alloc (Nat.le_refl _) (.cells #[.string t.s] 9)).drew)).trans (CF.row (owns_later (unhide HO3) ((Below.refl _ _).alloc (Nat.le_refl _) _).drew) hgrow4)
    refine hK.out _ _ (cell_of_blk hbx4 1) (fun hHeld => ?_)
    clear hK K bc bf
    have bc := fun o => cell_of_blk hb4 o
    have bf := fun o => frozen_of_blk hb4 o
    have hcl4 := lt_of_blk hb4
    have HB4 := hide hb4
    have HF4 := hide hf4
    have HO4 := hide hown4
    clear hb4 hf4 hown4 hgrow4 hbx4
    refine wpAnyH_take (i := 9) (v := .pointer (some ⟨cb, 0, none⟩)) rfl (by kernel_rfl) (by kernel_rfl) (by kernel_rfl) (fun _ _ _ h => h) (Or.inl ⟨by kernel_rfl, fun w hw => by have s0 := hw; go_simp⟩) hHeld ?_
    try simp only [Act.put, zA, zB, zC, zD, zE, zF]
    refine wpAnyH_take (i := 10) (v := .pointer (some ⟨cb, 0, none⟩)) rfl (by kernel_rfl) (by kernel_rfl) (by kernel_rfl) (fun _ _ _ h => h) (Or.inl ⟨by kernel_rfl, fun w hw => by have s0 := hw; go_simp⟩) hHeld ?_
    try simp only [Act.put, zA, zB, zC, zD, zE, zF]
    refine wpAnyH_ready (rs := [11]) (by kernel_rfl) (by simp) ?_
    refine AllReadyH.cons rfl (fun K hK => ?_) AllReadyH.nil
    go_simp
    refine hK.out _ _ (by show (World.setCell _ _ _).cell? _ = _; rw [World.cell?_setCell_far _ _ _ _ (by show cb ≠ w.heap.size; omega)]; exact hHeld) (fun hHeld => ?_)
    clear hK K
    refine wpAnyH_done (by kernel_rfl) ?_ _
    clear hHeld bc bf
    go_wp2_with fail
    go_end0
    refine ⟨rfl, ⟨⟨some ⟨g4, 0, none⟩, A.length + 1, cap4, blk_set (unhide HB4) 0 _, ?_⟩, hBc⟩, (unhide HF4).trans (CF.grown (grown_set _ _ _ _))⟩
    rw [strC_snoc, List.length_append]
    exact owns_keep (unhide HO4) (grown_set _ _ _ _) (Or.inr (fun e => own_ty (unhide HO4) e (unhide HB4) (by decide)))
   ·go_simp
    refine hK.out _ _ (by first | exact hHeld | (show (World.alloc _ _).cell? _ = _; rw [World.cell?_alloc_lt _ _ _ hxl3]; exact cell_of_blk (unhide HBX3) 1)) (fun hHeld => ?_)
    clear hK K
    refine wpAnyH_ready (rs := [4]) (by kernel_rfl) (by simp) ?_
    refine AllReadyH.cons rfl (fun K hK => ?_) AllReadyH.nil
    go_simp
    refine hK.out _ _ hHeld (fun hHeld => ?_)
    clear hK K
    refine wpAnyH_ready (rs := [8]) (by kernel_rfl) (by simp) ?_
    refine AllReadyH.cons rfl (fun K hK => ?_) AllReadyH.nil
    refine step_append_lies _ (by rfl) _ _ 25 (by rfl) B 9 i0 (.string ⟨#[]⟩) 1 16 Tryz.underlying25 hi hz0 hz1 hz2 rfl (by decide) (.slice bo bn bk) A.length (strC A) (by rfl) ?c0 ⟨w3.heap.size, 0, none⟩ 1 1 [.string t.s] (by rfl) rfl ?c1 ?c2 (by decide) ?c3 ?c4 ?c5 (w3.heap.size + 1) (by simp) ?_
    case c0 => exact owns_later (unhide HO3) ((Below.refl _ _).alloc (Nat.le_refl _) _).drew
    case c1 =>
     intro j u hj
     match j, hj with
     | 0, hj => simp at hj; subst hj; simp [Addr.add]
     | j + 1, hj => simp at hj
    case c2 => intro u hu; simp at hu; subst hu; rfl
    case c3 => unfold maxLen; omega
    case c4 => omega
    case c5 => have := (unhide HF3).size; simp; omega
    intro g4 cap4 w4 hown4 hgrow4 hat4 hlt4
    have hb4 := (hgrow4.block cb (by simp; omega) (fun e => hnc3 e.symm)).trans ((Below.heap_alloc _ _ _ hcl3).trans (unhide HB3))
    have hbx4 := (hgrow4.block w.heap.size (by simp; omega) (fun e => hnx3 e.symm)).trans ((Below.heap_alloc _ _ _ hxl3).trans (unhide HBX3))
    have hf4 : CF cb B w w4 := ((unhide HF3).trans (CF.below ((Below.refl w3.heap.size w3).alloc (Nat.le_refl _) (.cells #[.string t.s] 9)).drew)).trans (CF.row (owns_later (unhide HO3) ((Below.refl _ _).alloc (Nat.le_refl _) _).drew) hgrow4)
    refine hK.out _ _ (cell_of_blk hbx4 1) (fun hHeld => ?_)
    clear hK K bc bf
    have bc := fun o => cell_of_blk hb4 o
    have bf := fun o => frozen_of_blk hb4 o
    have hcl4 := lt_of_blk hb4
    have HB4 := hide hb4
    have HF4 := hide hf4
    have HO4 := hide hown4
    clear hb4 hf4 hown4 hgrow4 hbx4
    refine wpAnyH_take (i := 9) (v := .pointer (some ⟨cb, 0, none⟩)) rfl (by kernel_rfl) (by kernel_rfl) (by kernel_rfl) (fun _ _ _ h => h) (Or.inl ⟨by kernel_rfl, fun w hw => by have s0 := hw; go_simp⟩) hHeld ?_
    try simp only [Act.put, zA, zB, zC, zD, zE, zF]
    refine wpAnyH_take (i := 10) (v := .pointer (some ⟨cb, 0, none⟩)) rfl (by kernel_rfl) (by kernel_rfl) (by kernel_rfl) (fun _ _ _ h => h) (Or.inl ⟨by kernel_rfl, fun w hw => by have s0 := hw; go_simp⟩) hHeld ?_
    try simp only [Act.put, zA, zB, zC, zD, zE, zF]
    refine wpAnyH_ready (rs := [11]) (by kernel_rfl) (by simp) ?_
    refine AllReadyH.cons rfl (fun K hK => ?_) AllReadyH.nil
    go_simp
    refine hK.out _ _ (by show (World.setCell _ _ _).cell? _ = _; rw [World.cell?_setCell_far _ _ _ _ (by show cb ≠ w.heap.size; omega)]; exact hHeld) (fun hHeld => ?_)
    clear hK K
    refine wpAnyH_done (by kernel_rfl) ?_ _
    clear hHeld bc bf
    go_wp2_with fail
    go_end0
    refine ⟨rfl, ⟨⟨some ⟨g4, 0, none⟩, A.length + 1, cap4, blk_set (unhide HB4) 0 _, ?_⟩, hBc⟩, (unhide HF4).trans (CF.grown (grown_set _ _ _ _))⟩
    rw [strC_snoc, List.length_append]
    exact owns_keep (unhide HO4) (grown_set _ _ _ _) (Or.inr (fun e => own_ty (unhide HO4) e (unhide HB4) (by decide)))
def stC (d : Sp) : List Value := [.int .i64 (d.k : Int), .string d.s, .int .i64 (d.a : Int), .int .i64 (d.b : Int)]
def spC (S : List Sp) : List Value := S.flatMap stC
theorem spC_snoc (S : List Sp) (d : Sp) : spC (S ++ [d]) = spC S ++ stC d := by simp [spC]
theorem spC_at : ∀ {S : List Sp} {k : Nat} {d : Sp}, S[k]? = some d → ∀ j, j < 4 → (spC S)[k * 4 + j]? = (stC d)[j]?
 | [], k, d, h, j, hj => by simp at h
 | x :: r, 0, d, h, j, hj => by
  simp at h; subst h
  show (stC x ++ spC r)[0 * 4 + j]? = _
  rw [Nat.zero_mul, Nat.zero_add, List.getElem?_append_left (by show j < 4; exact hj)]
 | x :: r, k + 1, d, h, j, hj => by
  show (stC x ++ spC r)[(k + 1) * 4 + j]? = _
  rw [List.getElem?_append_right (by show 4 ≤ _; omega), show (k + 1) * 4 + j - (stC x).length = k * 4 + j by show (k + 1) * 4 + j - 4 = _; omega]
  exact spC_at (by simpa using h) j hj
theorem Tryz.infoSp : (Tryz.prog.info? 319).map (fun i => (i.zero, i.size, i.bytes)) = some (some (.agg #[.int .i64 0, .string ⟨#[]⟩, .int .i64 0, .int .i64 0]), 4, 40) := by kernel_rfl
theorem isG_grown {w w' : World} {base n : Nat} {v : Value} {xs : List Value} {f : Fm} {p : Option Addr} (ho : w.ownsRow base 319 4 v n xs) (hg : w.grownBy w' v.ownBlock) (hf : IsG w f p) : IsG w' f p :=
 hf.keep (fun b _ _ hb => hg.block b (lt_of_blk hb) (fun e => own_ty ho e.symm hb (by decide)))
def ApPost (base : Nat) (S' : List Sp) (v : Value) (w w' : World) (e : Ending) : Prop :=
 ∃ o' c', e = .returned (.slice o' S'.length c') ∧ w'.ownsRow base 319 4 (.slice o' S'.length c') S'.length (spC S') ∧ w.grownBy w' v.ownBlock ∧ ((Value.slice o' S'.length c').ownBlock = v.ownBlock ∨ ∃ g, (Value.slice o' S'.length c').ownBlock = some g ∧ w.heap.size ≤ g)
theorem grown_more {a b c : World} {k1 k2 : Option Nat} (h1 : a.grownBy b k1) (h2 : b.grownBy c k2) (h : k2 = k1 ∨ ∃ g, k2 = some g ∧ a.heap.size ≤ g) : a.grownBy c k1 := by
 refine ⟨h2.os.trans h1.os, h2.tape.trans h1.tape, h2.output.trans h1.output, Nat.le_trans h1.size h2.size, fun x hx hn => ?_⟩
 refine (h2.block x (Nat.lt_of_lt_of_le hx h1.size) ?_).trans (h1.block x hx hn)
 rcases h with h | ⟨g, h, hg⟩
 ·rw [h]; exact hn
 ·rw [h]; intro e; cases e; omega
structure ASt (w W : World) (base : Nat) (v : Value) (o : Option Addr) (c : Nat) (T : List Sp) (k : Nat) (s : ByteArray) (x y : Nat) : Prop where
 sb : W.heap[w.heap.size]? = some (.cells #[.int .i64 (k : Int), .string s, .int .i64 (x : Int), .int .i64 (y : Int)] 319 (0, 0))
 own : W.ownsRow base 319 4 (.slice o T.length c) T.length (spC T)
 gr : w.grownBy W v.ownBlock
 at_ : (Value.slice o T.length c).ownBlock = v.ownBlock ∨ ∃ g, (Value.slice o T.length c).ownBlock = some g ∧ w.heap.size < g
 vlt : ∀ k, v.ownBlock = some k → k < w.heap.size
theorem ASt.ne {w W : World} {base : Nat} {v : Value} {o : Option Addr} {c : Nat} {T : List Sp} {k : Nat} {s : ByteArray} {x y : Nat} (h : ASt w W base v o c T k s x y) : (Value.slice o T.length c).ownBlock ≠ some w.heap.size := by
 rcases h.at_ with e | ⟨g, e, hg⟩
 ·rw [e]; intro e'; have := h.vlt _ e'; omega
 ·rw [e]; intro e'; cases e'; omega
theorem ASt.call {w W w2 : World} {base : Nat} {v : Value} {o : Option Addr} {c : Nat} {T T' : List Sp} {k : Nat} {s : ByteArray} {x y : Nat} {e : Ending} (h : ASt w W base v o c T k s x y) (hp : ApPost base T' (.slice o T.length c) W w2 e) : ∃ o' c', e = .returned (.slice o' T'.length c') ∧ ASt w w2 base v o' c' T' k s x y := by
 obtain ⟨o', c', he, ho, hg, hat⟩ := hp
 have hlt := lt_of_blk h.sb
 refine ⟨o', c', he, (hg.block _ hlt (fun e => h.ne e.symm)).trans h.sb, ho, grown_more h.gr hg ?_, ?_, h.vlt⟩
 ·rcases h.at_ with e | ⟨g, e, hgg⟩
  ·exact Or.inl e
  ·exact Or.inr ⟨g, e, by omega⟩
 ·rcases hat with e | ⟨g, e, hgg⟩
  ·rw [e]; exact h.at_
  ·exact Or.inr ⟨g, e, by omega⟩
theorem ASt.setA {w W : World} {base : Nat} {v : Value} {o : Option Addr} {c : Nat} {T : List Sp} {k : Nat} {s : ByteArray} {x y : Nat} (h : ASt w W base v o c T k s x y) (z : Int) (x' : Nat) (hz : z = (x' : Int)) : ASt w (W.setCell ⟨w.heap.size, 2, none⟩ (.int .i64 z)) base v o c T k s x' y := by
 subst hz
 refine ⟨blk_set h.sb 2 _, owns_keep h.own (grown_set _ _ _ _) (Or.inr h.ne), grown_more h.gr (grown_set _ _ _ _) (Or.inr ⟨_, rfl, Nat.le_refl _⟩), h.at_, h.vlt⟩
theorem ASt.setB {w W : World} {base : Nat} {v : Value} {o : Option Addr} {c : Nat} {T : List Sp} {k : Nat} {s : ByteArray} {x y : Nat} (h : ASt w W base v o c T k s x y) (z : Int) (y' : Nat) (hz : z = (y' : Int)) : ASt w (W.setCell ⟨w.heap.size, 3, none⟩ (.int .i64 z)) base v o c T k s x y' := by
 subst hz
 refine ⟨blk_set h.sb 3 _, owns_keep h.own (grown_set _ _ _ _) (Or.inr h.ne), grown_more h.gr (grown_set _ _ _ _) (Or.inr ⟨_, rfl, Nat.le_refl _⟩), h.at_, h.vlt⟩
set_option maxHeartbeats 1000000 in
set_option maxRecDepth 100000 in
theorem appendSteps_any : ∀ (f : Fm) (S : List Sp) (w : World) (p : Option Addr) (base : Nat) (vo : Option Addr) (vc : Nat), f ≠ .nil → IsG w f p → w.ownsRow base 319 4 (.slice vo S.length vc) S.length (spC S) → base ≤ w.heap.size → S.length + sizeF f ≤ 100000 →
  Calls Tryz.prog 166 #[.slice vo S.length vc, .pointer p] w fun e w' => ApPost base (appS f S) (.slice vo S.length vc) w w' e
 | .nil, _, _, _, _, _, _, h, _, _, _, _ => absurd rfl h
 | .node u v0 a .nil .nil, S, w, p, base, vo, vc, _, h, ho, hbase, hsz => by
  obtain ⟨i0, hi0, hz0, hz1, hz2⟩ := info_parts Tryz.infoSp
  obtain ⟨b, pl, pr, rfl, hb, hl, hr⟩ := h
  have HADD : Hid (appS (.node u v0 a .nil .nil) S = appS .nil (appS .nil S) ++ [⟨a.1, a.2.1, 0, 0⟩]) := rfl
  have hs : sizeF (.node u v0 a .nil .nil) = 1 + sizeF (.nil : Fm) + sizeF (.nil : Fm) := rfl
  have el0 : (appS .nil S).length = S.length + sizeF (.nil : Fm) := appS_len _ _
  have el1 := Nat.le_of_eq el0
  have el2 := Nat.le_of_eq el0.symm
  clear el0
  have er0 : (appS .nil (appS .nil S)).length = (appS .nil S).length + sizeF (.nil : Fm) := appS_len _ _
  have er1 := Nat.le_of_eq er0
  have er2 := Nat.le_of_eq er0.symm
  clear er0
  cases (show pl = none from hl)
  have ezl : sizeF (.nil : Fm) = 0 := rfl
  cases (show pr = none from hr)
  have ezr : sizeF (.nil : Fm) = 0 := rfl
  have bc := fun o => cell_of_blk hb o
  have hlt := lt_of_blk hb
  have hol := own_lt ho
  have HL := hide hl
  have HR := hide hr
  have HO := hide ho
  have HB := hide hb
  have c0 : w.cell? ⟨b, 0, none⟩ = some (.int .i64 (a.1 : Int)) := bc 0
  have c1 : w.cell? ⟨b, 1, none⟩ = some (.string a.2.1) := bc 1
  have c2 := bc 2
  have c3 := bc 3
  clear hl hr ho hb bc
  go_enter Tryz.func166, Tryz.ntmps166
  go_wp2_with fail
  refine wp_region_held_drew (S := fun w' => w'.cell? ⟨b, 0, none⟩ = some (.int .i64 (a.1 : Int)) ∧ w'.cell? ⟨b, 1, none⟩ = some (.string a.2.1)) (by kernel_rfl) ?_ (fun hHeld => ?_)
  ·exact ⟨c0, c1⟩
  refine wpAnyH_take (i := 0) (v := .pointer (some ⟨b, 0, none⟩)) rfl (by kernel_rfl) (by kernel_rfl) (by kernel_rfl) (fun _ _ _ h => h) (Or.inl ⟨by kernel_rfl, fun w hw => by obtain ⟨s0, s1⟩ := hw; go_simp⟩) hHeld ?_
  try simp only [Act.put, zA, zB, zC, zD, zE, zF]
  refine wpAnyH_take (i := 1) (v := .pointer (some ⟨b, 0, none⟩)) rfl (by kernel_rfl) (by kernel_rfl) (by kernel_rfl) (fun _ _ _ h => h) (Or.inl ⟨by kernel_rfl, fun w hw => by obtain ⟨s0, s1⟩ := hw; go_simp⟩) hHeld ?_
  try simp only [Act.put, zA, zB, zC, zD, zE, zF]
  refine wpAnyH_take (i := 2) (v := .pointer (some ⟨b, 0, none⟩)) rfl (by kernel_rfl) (by kernel_rfl) (by kernel_rfl) (fun _ _ _ h => h) (Or.inl ⟨by kernel_rfl, fun w hw => by obtain ⟨s0, s1⟩ := hw; go_simp⟩) hHeld ?_
  try simp only [Act.put, zA, zB, zC, zD, zE, zF]
  refine wpAnyH_take (i := 3) (v := .int .i64 (a.1 : Int)) rfl (by kernel_rfl) (by kernel_rfl) (by kernel_rfl) (fun _ _ _ h => h) (Or.inl ⟨by kernel_rfl, fun w hw => by obtain ⟨s0, s1⟩ := hw; go_simp⟩) hHeld ?_
  try simp only [Act.put, zA, zB, zC, zD, zE, zF]
  refine wpAnyH_take (i := 4) (v := .pointer (some ⟨b, 0, none⟩)) rfl (by kernel_rfl) (by kernel_rfl) (by kernel_rfl) (fun _ _ _ h => h) (Or.inl ⟨by kernel_rfl, fun w hw => by obtain ⟨s0, s1⟩ := hw; go_simp⟩) hHeld ?_
  try simp only [Act.put, zA, zB, zC, zD, zE, zF]
  refine wpAnyH_take (i := 5) (v := .pointer (some ⟨b, 0, none⟩)) rfl (by kernel_rfl) (by kernel_rfl) (by kernel_rfl) (fun _ _ _ h => h) (Or.inl ⟨by kernel_rfl, fun w hw => by obtain ⟨s0, s1⟩ := hw; go_simp⟩) hHeld ?_
  try simp only [Act.put, zA, zB, zC, zD, zE, zF]
  refine wpAnyH_take (i := 6) (v := .pointer (some ⟨b, 1, none⟩)) rfl (by kernel_rfl) (by kernel_rfl) (by kernel_rfl) (fun _ _ _ h => h) (Or.inl ⟨by kernel_rfl, fun w hw => by obtain ⟨s0, s1⟩ := hw; go_simp⟩) hHeld ?_
  try simp only [Act.put, zA, zB, zC, zD, zE, zF]
  refine wpAnyH_take (i := 7) (v := .string a.2.1) rfl (by kernel_rfl) (by kernel_rfl) (by kernel_rfl) (fun _ _ _ h => h) (Or.inl ⟨by kernel_rfl, fun w hw => by obtain ⟨s0, s1⟩ := hw; go_simp⟩) hHeld ?_
  try simp only [Act.put, zA, zB, zC, zD, zE, zF]
  refine wpAnyH_take (i := 8) (v := .agg #[.int .i64 (a.1 : Int), .string a.2.1, .int .i64 0, .int .i64 0]) rfl (by kernel_rfl) (by kernel_rfl) (by kernel_rfl) (fun _ _ _ h => h) (Or.inl ⟨by kernel_rfl, fun w hw => by obtain ⟨s0, s1⟩ := hw; go_simp⟩) hHeld ?_
  try simp only [Act.put, zA, zB, zC, zD, zE, zF]
  refine wpAnyH_ready (rs := [9]) (by kernel_rfl) (by simp) ?_
  refine AllReadyH.cons rfl (fun K hK => ?_) AllReadyH.nil
  go_simp
  refine hK.out _ _ ⟨by show (World.alloc _ _).cell? _ = _; rw [World.cell?_alloc_lt _ _ _ (by simpa using hlt)]; exact hHeld.1, by show (World.alloc _ _).cell? _ = _; rw [World.cell?_alloc_lt _ _ _ (by simpa using hlt)]; exact hHeld.2⟩ (fun hHeld => ?_)
  clear hK K
  refine wpAnyH_ready (rs := [10]) (by kernel_rfl) (by simp) ?_
  refine AllReadyH.cons rfl (fun K hK => ?_) AllReadyH.nil
  go_simp
  refine hK.out _ _ ⟨by show (World.alloc _ _).cell? _ = _; rw [World.cell?_alloc_lt _ _ _ (by simpa using hlt)]; exact c0, by show (World.alloc _ _).cell? _ = _; rw [World.cell?_alloc_lt _ _ _ (by simpa using hlt)]; exact c1⟩ (fun hHeld => ?_)
  clear hK K
  refine wpAnyH_done (by kernel_rfl) ?_ _
  clear hHeld
  have hBW : Below w.heap.size w ((w.alloc (.cells #[.int .i64 (a.1 : Int), .string a.2.1, .int .i64 0, .int .i64 0] 319)).drew) := ((Below.refl _ _).alloc (Nat.le_refl _) _).drew
  have hA : ASt w ((w.alloc (.cells #[.int .i64 (a.1 : Int), .string a.2.1, .int .i64 0, .int .i64 0] 319)).drew) base (.slice vo S.length vc) vo vc S a.1 a.2.1 0 0 := ⟨blk_alloc _ _, owns_later (unhide HO) hBW, ⟨hBW.os, hBW.tape, hBW.output, hBW.size, fun x hx _ => hBW.block x hx⟩, Or.inl rfl, fun x hx => (hol x hx).2⟩
  generalize (w.alloc (.cells #[.int .i64 (a.1 : Int), .string a.2.1, .int .i64 0, .int .i64 0] 319)).drew = W1 at *
  have HA1 := hide hA
  have hbz := hA.gr.size
  clear hA hBW hol c0 c1
  have HKEEP : Hid (∀ W : World, w.grownBy W (Value.slice vo S.length vc).ownBlock → W.heap[b]? = w.heap[b]?) := fun W hW => hW.block b hlt (fun e => own_ty (unhide HO) e.symm (unhide HB) (by decide))
  clear c2 c3
  have bc := fun o => cell_of_blk ((unhide HKEEP _ (unhide HA1).gr).trans (unhide HB)) o
  have sc := fun o => cell_of_blk (unhide HA1).sb o
  have sf := fun o => frozen_of_blk (unhide HA1).sb o
  have hls := lt_of_blk (unhide HA1).sb
  have hlb : b < W1.heap.size := by omega
  have HAF := hide (unhide HA1)
  have hTl : S.length ≤ 100000 := by omega
  have hbs : base ≤ W1.heap.size := by omega
  go_wp2_with (at_builtin; go_must (refine wpList_append_lies _ rfl _ _ 145 rfl base 319 i0 (.agg #[.int .i64 0, .string ⟨#[]⟩, .int .i64 0, .int .i64 0]) 4 40 Tryz.underlying145 hi0 hz0 hz1 hz2 rfl (by decide) _ S.length (spC S) rfl ?c0 ⟨W1.heap.size, 0, none⟩ 1 1 [.int .i64 (a.1 : Int), .string a.2.1, .int .i64 0, .int .i64 0] rfl rfl ?c1 ?c2 (by decide) ?c3 ?c4 ?c5 (W1.heap.size + 1) ?c6 ?_))
  case c0 => exact owns_later (unhide HAF).own ((Below.refl _ _).alloc (Nat.le_refl _) _)
  case c1 =>
   intro j u hj
   match j, hj with
   | 0, hj => simp at hj; subst hj; exact cell_of_blk (blk_alloc' _ _ _ (by first | rfl | simp [World.setCell])) 0
   | 1, hj => simp at hj; subst hj; exact cell_of_blk (blk_alloc' _ _ _ (by first | rfl | simp [World.setCell])) 1
   | 2, hj => simp at hj; subst hj; exact cell_of_blk (blk_alloc' _ _ _ (by first | rfl | simp [World.setCell])) 2
   | 3, hj => simp at hj; subst hj; exact cell_of_blk (blk_alloc' _ _ _ (by first | rfl | simp [World.setCell])) 3
   | j + 4, hj => simp at hj
  case c2 => intro u hu; simp at hu; rcases hu with rfl | rfl | rfl | rfl <;> rfl
  case c3 => unfold maxLen; omega
  case c4 => omega
  case c5 => simp; omega
  case c6 => simp
  intro g8 cap8 q8 hown hgrow hat _
  have HG8 := hide (grown_more (unhide HAF).gr (grown_more (World.grownBy_alloc _ _ _) hgrow (Or.inl rfl)) (by rcases (unhide HAF).at_ with e | ⟨g, e, hg⟩; exact Or.inl e; exact Or.inr ⟨g, e, by omega⟩))
  have HO8 : Hid (q8.ownsRow base 319 4 (.slice (some ⟨g8, 0, none⟩) (S.length + 1) cap8) (S.length + 1) (spC (S ++ [⟨a.1, a.2.1, 0, 0⟩]))) := by
   have := hown
   show q8.ownsRow _ _ _ _ _ _
   rw [spC_snoc]
   exact this
  have HAT : Hid ((Value.slice vo S.length vc).ownBlock = some g8 ∨ w.heap.size ≤ g8) := by
   rcases hat with e | e
   ·rcases (unhide HAF).at_ with e2 | ⟨g, e2, hg⟩
    ·exact Or.inl (e2.symm.trans e)
    ·rw [e2] at e; cases e; exact Or.inr (by omega)
   ·exact Or.inr (by first | omega | (simp at e; omega))
  clear hown hgrow hat
  go_wp2_with fail
  go_ret
  have hfin : appS (.node u v0 a .nil .nil) S = S ++ [⟨a.1, a.2.1, 0, 0⟩] := unhide HADD
  rw [hfin]
  have hlen : (S ++ [(⟨a.1, a.2.1, 0, 0⟩ : Sp)]).length = S.length + 1 := by simp
  refine ⟨some ⟨g8, 0, none⟩, cap8, ?_, ?_, unhide HG8, ?_⟩
  ·rw [hlen]; rfl
  ·rw [hlen]; exact unhide HO8
  ·rcases unhide HAT with e | e
   ·exact Or.inl e.symm
   ·exact Or.inr ⟨g8, rfl, e⟩
 | .node u v0 a (.node lu lv la ll lr) .nil, S, w, p, base, vo, vc, _, h, ho, hbase, hsz => by
  obtain ⟨i0, hi0, hz0, hz1, hz2⟩ := info_parts Tryz.infoSp
  obtain ⟨b, pl, pr, rfl, hb, hl, hr⟩ := h
  have HADD : Hid (appS (.node u v0 a (.node lu lv la ll lr) .nil) S = appS .nil (appS (.node lu lv la ll lr) S) ++ [⟨a.1, a.2.1, (appS (.node lu lv la ll lr) S).length - 1, 0⟩]) := rfl
  have hs : sizeF (.node u v0 a (.node lu lv la ll lr) .nil) = 1 + sizeF ((.node lu lv la ll lr) : Fm) + sizeF (.nil : Fm) := rfl
  have el0 : (appS (.node lu lv la ll lr) S).length = S.length + sizeF ((.node lu lv la ll lr) : Fm) := appS_len _ _
  have el1 := Nat.le_of_eq el0
  have el2 := Nat.le_of_eq el0.symm
  clear el0
  have er0 : (appS .nil (appS (.node lu lv la ll lr) S)).length = (appS (.node lu lv la ll lr) S).length + sizeF (.nil : Fm) := appS_len _ _
  have er1 := Nat.le_of_eq er0
  have er2 := Nat.le_of_eq er0.symm
  clear er0
  have IHL := hide (fun W h1 h2 h3 h4 => appendSteps_any (.node lu lv la ll lr) S W pl base vo vc (by intro e; cases e) h1 h2 h3 h4)
  have ezl : 1 ≤ sizeF (.node lu lv la ll lr) := by show 1 ≤ 1 + _ + _; omega
  cases (show pr = none from hr)
  have ezr : sizeF (.nil : Fm) = 0 := rfl
  generalize hsl : sizeF ((.node lu lv la ll lr) : Fm) = zl at *
  generalize hsr : sizeF (.nil : Fm) = zr at *
  obtain ⟨bl, pll, plr, hpl, hbl, _, _⟩ := id hl
  subst hpl
  have bc := fun o => cell_of_blk hb o
  have hlt := lt_of_blk hb
  have hol := own_lt ho
  have HL := hide hl
  have HR := hide hr
  have HO := hide ho
  have HB := hide hb
  have c0 : w.cell? ⟨b, 0, none⟩ = some (.int .i64 (a.1 : Int)) := bc 0
  have c1 : w.cell? ⟨b, 1, none⟩ = some (.string a.2.1) := bc 1
  have c2 := bc 2
  have c3 := bc 3
  clear hl hr ho hb bc
  go_enter Tryz.func166, Tryz.ntmps166
  go_wp2_with fail
  refine wp_region_held_drew (S := fun w' => w'.cell? ⟨b, 0, none⟩ = some (.int .i64 (a.1 : Int)) ∧ w'.cell? ⟨b, 1, none⟩ = some (.string a.2.1)) (by kernel_rfl) ?_ (fun hHeld => ?_)
  ·exact ⟨c0, c1⟩
  refine wpAnyH_take (i := 0) (v := .pointer (some ⟨b, 0, none⟩)) rfl (by kernel_rfl) (by kernel_rfl) (by kernel_rfl) (fun _ _ _ h => h) (Or.inl ⟨by kernel_rfl, fun w hw => by obtain ⟨s0, s1⟩ := hw; go_simp⟩) hHeld ?_
  try simp only [Act.put, zA, zB, zC, zD, zE, zF]
  refine wpAnyH_take (i := 1) (v := .pointer (some ⟨b, 0, none⟩)) rfl (by kernel_rfl) (by kernel_rfl) (by kernel_rfl) (fun _ _ _ h => h) (Or.inl ⟨by kernel_rfl, fun w hw => by obtain ⟨s0, s1⟩ := hw; go_simp⟩) hHeld ?_
  try simp only [Act.put, zA, zB, zC, zD, zE, zF]
  refine wpAnyH_take (i := 2) (v := .pointer (some ⟨b, 0, none⟩)) rfl (by kernel_rfl) (by kernel_rfl) (by kernel_rfl) (fun _ _ _ h => h) (Or.inl ⟨by kernel_rfl, fun w hw => by obtain ⟨s0, s1⟩ := hw; go_simp⟩) hHeld ?_
  try simp only [Act.put, zA, zB, zC, zD, zE, zF]
  refine wpAnyH_take (i := 3) (v := .int .i64 (a.1 : Int)) rfl (by kernel_rfl) (by kernel_rfl) (by kernel_rfl) (fun _ _ _ h => h) (Or.inl ⟨by kernel_rfl, fun w hw => by obtain ⟨s0, s1⟩ := hw; go_simp⟩) hHeld ?_
  try simp only [Act.put, zA, zB, zC, zD, zE, zF]
  refine wpAnyH_take (i := 4) (v := .pointer (some ⟨b, 0, none⟩)) rfl (by kernel_rfl) (by kernel_rfl) (by kernel_rfl) (fun _ _ _ h => h) (Or.inl ⟨by kernel_rfl, fun w hw => by obtain ⟨s0, s1⟩ := hw; go_simp⟩) hHeld ?_
  try simp only [Act.put, zA, zB, zC, zD, zE, zF]
  refine wpAnyH_take (i := 5) (v := .pointer (some ⟨b, 0, none⟩)) rfl (by kernel_rfl) (by kernel_rfl) (by kernel_rfl) (fun _ _ _ h => h) (Or.inl ⟨by kernel_rfl, fun w hw => by obtain ⟨s0, s1⟩ := hw; go_simp⟩) hHeld ?_
  try simp only [Act.put, zA, zB, zC, zD, zE, zF]
  refine wpAnyH_take (i := 6) (v := .pointer (some ⟨b, 1, none⟩)) rfl (by kernel_rfl) (by kernel_rfl) (by kernel_rfl) (fun _ _ _ h => h) (Or.inl ⟨by kernel_rfl, fun w hw => by obtain ⟨s0, s1⟩ := hw; go_simp⟩) hHeld ?_
  try simp only [Act.put, zA, zB, zC, zD, zE, zF]
  refine wpAnyH_take (i := 7) (v := .string a.2.1) rfl (by kernel_rfl) (by kernel_rfl) (by kernel_rfl) (fun _ _ _ h => h) (Or.inl ⟨by kernel_rfl, fun w hw => by obtain ⟨s0, s1⟩ := hw; go_simp⟩) hHeld ?_
  try simp only [Act.put, zA, zB, zC, zD, zE, zF]
  refine wpAnyH_take (i := 8) (v := .agg #[.int .i64 (a.1 : Int), .string a.2.1, .int .i64 0, .int .i64 0]) rfl (by kernel_rfl) (by kernel_rfl) (by kernel_rfl) (fun _ _ _ h => h) (Or.inl ⟨by kernel_rfl, fun w hw => by obtain ⟨s0, s1⟩ := hw; go_simp⟩) hHeld ?_
  try simp only [Act.put, zA, zB, zC, zD, zE, zF]
  refine wpAnyH_ready (rs := [9]) (by kernel_rfl) (by simp) ?_
  refine AllReadyH.cons rfl (fun K hK => ?_) AllReadyH.nil
  go_simp
  refine hK.out _ _ ⟨by show (World.alloc _ _).cell? _ = _; rw [World.cell?_alloc_lt _ _ _ (by simpa using hlt)]; exact hHeld.1, by show (World.alloc _ _).cell? _ = _; rw [World.cell?_alloc_lt _ _ _ (by simpa using hlt)]; exact hHeld.2⟩ (fun hHeld => ?_)
  clear hK K
  refine wpAnyH_ready (rs := [10]) (by kernel_rfl) (by simp) ?_
  refine AllReadyH.cons rfl (fun K hK => ?_) AllReadyH.nil
  go_simp
  refine hK.out _ _ ⟨by show (World.alloc _ _).cell? _ = _; rw [World.cell?_alloc_lt _ _ _ (by simpa using hlt)]; exact c0, by show (World.alloc _ _).cell? _ = _; rw [World.cell?_alloc_lt _ _ _ (by simpa using hlt)]; exact c1⟩ (fun hHeld => ?_)
  clear hK K
  refine wpAnyH_done (by kernel_rfl) ?_ _
  clear hHeld
  have hBW : Below w.heap.size w ((w.alloc (.cells #[.int .i64 (a.1 : Int), .string a.2.1, .int .i64 0, .int .i64 0] 319)).drew) := ((Below.refl _ _).alloc (Nat.le_refl _) _).drew
  have hA : ASt w ((w.alloc (.cells #[.int .i64 (a.1 : Int), .string a.2.1, .int .i64 0, .int .i64 0] 319)).drew) base (.slice vo S.length vc) vo vc S a.1 a.2.1 0 0 := ⟨blk_alloc _ _, owns_later (unhide HO) hBW, ⟨hBW.os, hBW.tape, hBW.output, hBW.size, fun x hx _ => hBW.block x hx⟩, Or.inl rfl, fun x hx => (hol x hx).2⟩
  generalize (w.alloc (.cells #[.int .i64 (a.1 : Int), .string a.2.1, .int .i64 0, .int .i64 0] 319)).drew = W1 at *
  have HA1 := hide hA
  have hbz := hA.gr.size
  clear hA hBW hol c0 c1
  have HKEEP : Hid (∀ W : World, w.grownBy W (Value.slice vo S.length vc).ownBlock → W.heap[b]? = w.heap[b]?) := fun W hW => hW.block b hlt (fun e => own_ty (unhide HO) e.symm (unhide HB) (by decide))
  clear c2 c3
  have bc := fun o => cell_of_blk ((unhide HKEEP _ (unhide HA1).gr).trans (unhide HB)) o
  have sc := fun o => cell_of_blk (unhide HA1).sb o
  have sf := fun o => frozen_of_blk (unhide HA1).sb o
  have hls := lt_of_blk (unhide HA1).sb
  have hlb : b < W1.heap.size := by omega
  go_wp2_with fail
  refine (unhide IHL _ (isG_grown (unhide HO) (unhide HA1).gr (unhide HL)) (unhide HA1).own (by omega) (by omega)).mono ?_
  intro e w2 hp2
  obtain ⟨o2, k2, he2, hA2⟩ := (unhide HA1).call hp2
  subst he2
  have HA2 := hide hA2
  have hz2' := hA2.gr.size
  clear hp2 hA2 bc sc sf hls hlb IHL
  generalize hT2 : appS (.node lu lv la ll lr) S = T2 at *
  have bc := fun o => cell_of_blk ((unhide HKEEP _ (unhide HA2).gr).trans (unhide HB)) o
  have sc := fun o => cell_of_blk (unhide HA2).sb o
  have sf := fun o => frozen_of_blk (unhide HA2).sb o
  have hls := lt_of_blk (unhide HA2).sb
  have hlb : b < w2.heap.size := by omega
  have HAF := hide ((unhide HA2).setA (((T2.length : Nat) : Int) - 1) (T2.length - 1) (by omega))
  have hTl : T2.length ≤ 100000 := by omega
  have hbs : base ≤ w2.heap.size := by omega
  go_wp2_with (at_builtin; go_must (refine wpList_append_lies _ rfl _ _ 145 rfl base 319 i0 (.agg #[.int .i64 0, .string ⟨#[]⟩, .int .i64 0, .int .i64 0]) 4 40 Tryz.underlying145 hi0 hz0 hz1 hz2 rfl (by decide) _ T2.length (spC T2) rfl ?c0 ⟨w2.heap.size, 0, none⟩ 1 1 [.int .i64 (a.1 : Int), .string a.2.1, .int .i64 (((T2.length : Nat) : Int) - 1), .int .i64 0] rfl rfl ?c1 ?c2 (by decide) ?c3 ?c4 ?c5 (w2.heap.size + 1) ?c6 ?_))
  case c0 => exact owns_later (unhide HAF).own ((Below.refl _ _).alloc (Nat.le_refl _) _)
  case c1 =>
   intro j u hj
   match j, hj with
   | 0, hj => simp at hj; subst hj; exact cell_of_blk (blk_alloc' _ _ _ (by first | rfl | simp [World.setCell])) 0
   | 1, hj => simp at hj; subst hj; exact cell_of_blk (blk_alloc' _ _ _ (by first | rfl | simp [World.setCell])) 1
   | 2, hj => simp at hj; subst hj; exact cell_of_blk (blk_alloc' _ _ _ (by first | rfl | simp [World.setCell])) 2
   | 3, hj => simp at hj; subst hj; exact cell_of_blk (blk_alloc' _ _ _ (by first | rfl | simp [World.setCell])) 3
   | j + 4, hj => simp at hj
  case c2 => intro u hu; simp at hu; rcases hu with rfl | rfl | rfl | rfl <;> rfl
  case c3 => unfold maxLen; omega
  case c4 => omega
  case c5 => simp; omega
  case c6 => simp
  intro g8 cap8 q8 hown hgrow hat _
  have HG8 := hide (grown_more (unhide HAF).gr (grown_more (World.grownBy_alloc _ _ _) hgrow (Or.inl rfl)) (by rcases (unhide HAF).at_ with e | ⟨g, e, hg⟩; exact Or.inl e; exact Or.inr ⟨g, e, by omega⟩))
  have HO8 : Hid (q8.ownsRow base 319 4 (.slice (some ⟨g8, 0, none⟩) (T2.length + 1) cap8) (T2.length + 1) (spC (T2 ++ [⟨a.1, a.2.1, T2.length - 1, 0⟩]))) := by
   have := hown
   show q8.ownsRow _ _ _ _ _ _
   rw [spC_snoc]
   rw [show (((T2.length : Nat) : Int) - 1) = ((T2.length - 1 : Nat) : Int) by omega] at this
   exact this
  have HAT : Hid ((Value.slice vo S.length vc).ownBlock = some g8 ∨ w.heap.size ≤ g8) := by
   rcases hat with e | e
   ·rcases (unhide HAF).at_ with e2 | ⟨g, e2, hg⟩
    ·exact Or.inl (e2.symm.trans e)
    ·rw [e2] at e; cases e; exact Or.inr (by omega)
   ·exact Or.inr (by first | omega | (simp at e; omega))
  clear hown hgrow hat
  go_wp2_with fail
  go_ret
  have hfin : appS (.node u v0 a (.node lu lv la ll lr) .nil) S = T2 ++ [⟨a.1, a.2.1, T2.length - 1, 0⟩] := unhide HADD
  rw [hfin]
  have hlen : (T2 ++ [(⟨a.1, a.2.1, T2.length - 1, 0⟩ : Sp)]).length = T2.length + 1 := by simp
  refine ⟨some ⟨g8, 0, none⟩, cap8, ?_, ?_, unhide HG8, ?_⟩
  ·rw [hlen]; rfl
  ·rw [hlen]; exact unhide HO8
  ·rcases unhide HAT with e | e
   ·exact Or.inl e.symm
   ·exact Or.inr ⟨g8, rfl, e⟩
 | .node u v0 a .nil (.node ru rv ra rl rr), S, w, p, base, vo, vc, _, h, ho, hbase, hsz => by
  obtain ⟨i0, hi0, hz0, hz1, hz2⟩ := info_parts Tryz.infoSp
  obtain ⟨b, pl, pr, rfl, hb, hl, hr⟩ := h
  have HADD : Hid (appS (.node u v0 a .nil (.node ru rv ra rl rr)) S = appS (.node ru rv ra rl rr) S ++ [⟨a.1, a.2.1, 0, (appS (.node ru rv ra rl rr) S).length - 1⟩]) := rfl
  have hs : sizeF (.node u v0 a .nil (.node ru rv ra rl rr)) = 1 + sizeF (.nil : Fm) + sizeF ((.node ru rv ra rl rr) : Fm) := rfl
  have el0 : (appS .nil S).length = S.length + sizeF (.nil : Fm) := appS_len _ _
  have el1 := Nat.le_of_eq el0
  have el2 := Nat.le_of_eq el0.symm
  clear el0
  have er0 : (appS (.node ru rv ra rl rr) S).length = S.length + sizeF ((.node ru rv ra rl rr) : Fm) := appS_len _ _
  have er1 := Nat.le_of_eq er0
  have er2 := Nat.le_of_eq er0.symm
  clear er0
  cases (show pl = none from hl)
  have ezl : sizeF (.nil : Fm) = 0 := rfl
  have IHR := hide (fun S2 W o2 c2 h1 h2 h3 h4 => appendSteps_any (.node ru rv ra rl rr) S2 W pr base o2 c2 (by intro e; cases e) h1 h2 h3 h4)
  have ezr : 1 ≤ sizeF (.node ru rv ra rl rr) := by show 1 ≤ 1 + _ + _; omega
  generalize hsl : sizeF (.nil : Fm) = zl at *
  generalize hsr : sizeF ((.node ru rv ra rl rr) : Fm) = zr at *
  obtain ⟨br, prl, prr, hpr, hbr, _, _⟩ := id hr
  subst hpr
  have bc := fun o => cell_of_blk hb o
  have hlt := lt_of_blk hb
  have hol := own_lt ho
  have HL := hide hl
  have HR := hide hr
  have HO := hide ho
  have HB := hide hb
  have c0 : w.cell? ⟨b, 0, none⟩ = some (.int .i64 (a.1 : Int)) := bc 0
  have c1 : w.cell? ⟨b, 1, none⟩ = some (.string a.2.1) := bc 1
  have c2 := bc 2
  have c3 := bc 3
  clear hl hr ho hb bc
  go_enter Tryz.func166, Tryz.ntmps166
  go_wp2_with fail
  refine wp_region_held_drew (S := fun w' => w'.cell? ⟨b, 0, none⟩ = some (.int .i64 (a.1 : Int)) ∧ w'.cell? ⟨b, 1, none⟩ = some (.string a.2.1)) (by kernel_rfl) ?_ (fun hHeld => ?_)
  ·exact ⟨c0, c1⟩
  refine wpAnyH_take (i := 0) (v := .pointer (some ⟨b, 0, none⟩)) rfl (by kernel_rfl) (by kernel_rfl) (by kernel_rfl) (fun _ _ _ h => h) (Or.inl ⟨by kernel_rfl, fun w hw => by obtain ⟨s0, s1⟩ := hw; go_simp⟩) hHeld ?_
  try simp only [Act.put, zA, zB, zC, zD, zE, zF]
  refine wpAnyH_take (i := 1) (v := .pointer (some ⟨b, 0, none⟩)) rfl (by kernel_rfl) (by kernel_rfl) (by kernel_rfl) (fun _ _ _ h => h) (Or.inl ⟨by kernel_rfl, fun w hw => by obtain ⟨s0, s1⟩ := hw; go_simp⟩) hHeld ?_
  try simp only [Act.put, zA, zB, zC, zD, zE, zF]
  refine wpAnyH_take (i := 2) (v := .pointer (some ⟨b, 0, none⟩)) rfl (by kernel_rfl) (by kernel_rfl) (by kernel_rfl) (fun _ _ _ h => h) (Or.inl ⟨by kernel_rfl, fun w hw => by obtain ⟨s0, s1⟩ := hw; go_simp⟩) hHeld ?_
  try simp only [Act.put, zA, zB, zC, zD, zE, zF]
  refine wpAnyH_take (i := 3) (v := .int .i64 (a.1 : Int)) rfl (by kernel_rfl) (by kernel_rfl) (by kernel_rfl) (fun _ _ _ h => h) (Or.inl ⟨by kernel_rfl, fun w hw => by obtain ⟨s0, s1⟩ := hw; go_simp⟩) hHeld ?_
  try simp only [Act.put, zA, zB, zC, zD, zE, zF]
  refine wpAnyH_take (i := 4) (v := .pointer (some ⟨b, 0, none⟩)) rfl (by kernel_rfl) (by kernel_rfl) (by kernel_rfl) (fun _ _ _ h => h) (Or.inl ⟨by kernel_rfl, fun w hw => by obtain ⟨s0, s1⟩ := hw; go_simp⟩) hHeld ?_
  try simp only [Act.put, zA, zB, zC, zD, zE, zF]
  refine wpAnyH_take (i := 5) (v := .pointer (some ⟨b, 0, none⟩)) rfl (by kernel_rfl) (by kernel_rfl) (by kernel_rfl) (fun _ _ _ h => h) (Or.inl ⟨by kernel_rfl, fun w hw => by obtain ⟨s0, s1⟩ := hw; go_simp⟩) hHeld ?_
  try simp only [Act.put, zA, zB, zC, zD, zE, zF]
  refine wpAnyH_take (i := 6) (v := .pointer (some ⟨b, 1, none⟩)) rfl (by kernel_rfl) (by kernel_rfl) (by kernel_rfl) (fun _ _ _ h => h) (Or.inl ⟨by kernel_rfl, fun w hw => by obtain ⟨s0, s1⟩ := hw; go_simp⟩) hHeld ?_
  try simp only [Act.put, zA, zB, zC, zD, zE, zF]
  refine wpAnyH_take (i := 7) (v := .string a.2.1) rfl (by kernel_rfl) (by kernel_rfl) (by kernel_rfl) (fun _ _ _ h => h) (Or.inl ⟨by kernel_rfl, fun w hw => by obtain ⟨s0, s1⟩ := hw; go_simp⟩) hHeld ?_
  try simp only [Act.put, zA, zB, zC, zD, zE, zF]
  refine wpAnyH_take (i := 8) (v := .agg #[.int .i64 (a.1 : Int), .string a.2.1, .int .i64 0, .int .i64 0]) rfl (by kernel_rfl) (by kernel_rfl) (by kernel_rfl) (fun _ _ _ h => h) (Or.inl ⟨by kernel_rfl, fun w hw => by obtain ⟨s0, s1⟩ := hw; go_simp⟩) hHeld ?_
  try simp only [Act.put, zA, zB, zC, zD, zE, zF]
  refine wpAnyH_ready (rs := [9]) (by kernel_rfl) (by simp) ?_
  refine AllReadyH.cons rfl (fun K hK => ?_) AllReadyH.nil
  go_simp
  refine hK.out _ _ ⟨by show (World.alloc _ _).cell? _ = _; rw [World.cell?_alloc_lt _ _ _ (by simpa using hlt)]; exact hHeld.1, by show (World.alloc _ _).cell? _ = _; rw [World.cell?_alloc_lt _ _ _ (by simpa using hlt)]; exact hHeld.2⟩ (fun hHeld => ?_)
  clear hK K
  refine wpAnyH_ready (rs := [10]) (by kernel_rfl) (by simp) ?_
  refine AllReadyH.cons rfl (fun K hK => ?_) AllReadyH.nil
  go_simp
  refine hK.out _ _ ⟨by show (World.alloc _ _).cell? _ = _; rw [World.cell?_alloc_lt _ _ _ (by simpa using hlt)]; exact c0, by show (World.alloc _ _).cell? _ = _; rw [World.cell?_alloc_lt _ _ _ (by simpa using hlt)]; exact c1⟩ (fun hHeld => ?_)
  clear hK K
  refine wpAnyH_done (by kernel_rfl) ?_ _
  clear hHeld
  have hBW : Below w.heap.size w ((w.alloc (.cells #[.int .i64 (a.1 : Int), .string a.2.1, .int .i64 0, .int .i64 0] 319)).drew) := ((Below.refl _ _).alloc (Nat.le_refl _) _).drew
  have hA : ASt w ((w.alloc (.cells #[.int .i64 (a.1 : Int), .string a.2.1, .int .i64 0, .int .i64 0] 319)).drew) base (.slice vo S.length vc) vo vc S a.1 a.2.1 0 0 := ⟨blk_alloc _ _, owns_later (unhide HO) hBW, ⟨hBW.os, hBW.tape, hBW.output, hBW.size, fun x hx _ => hBW.block x hx⟩, Or.inl rfl, fun x hx => (hol x hx).2⟩
  generalize (w.alloc (.cells #[.int .i64 (a.1 : Int), .string a.2.1, .int .i64 0, .int .i64 0] 319)).drew = W1 at *
  have HA1 := hide hA
  have hbz := hA.gr.size
  clear hA hBW hol c0 c1
  have HKEEP : Hid (∀ W : World, w.grownBy W (Value.slice vo S.length vc).ownBlock → W.heap[b]? = w.heap[b]?) := fun W hW => hW.block b hlt (fun e => own_ty (unhide HO) e.symm (unhide HB) (by decide))
  clear c2 c3
  have bc := fun o => cell_of_blk ((unhide HKEEP _ (unhide HA1).gr).trans (unhide HB)) o
  have sc := fun o => cell_of_blk (unhide HA1).sb o
  have sf := fun o => frozen_of_blk (unhide HA1).sb o
  have hls := lt_of_blk (unhide HA1).sb
  have hlb : b < W1.heap.size := by omega
  go_wp2_with fail
  refine (unhide IHR _ _ _ _ (isG_grown (unhide HO) (unhide HA1).gr (unhide HR)) (unhide HA1).own (by omega) (by omega)).mono ?_
  intro e w4 hp4
  obtain ⟨o4, k4, he4, hA4⟩ := (unhide HA1).call hp4
  subst he4
  have HA4 := hide hA4
  have hz4' := hA4.gr.size
  clear hp4 hA4 IHR
  generalize hT4 : appS (.node ru rv ra rl rr) S = T4 at *
  clear bc sc sf hls hlb
  have bc := fun o => cell_of_blk ((unhide HKEEP _ (unhide HA4).gr).trans (unhide HB)) o
  have sc := fun o => cell_of_blk (unhide HA4).sb o
  have sf := fun o => frozen_of_blk (unhide HA4).sb o
  have hls := lt_of_blk (unhide HA4).sb
  have hlb : b < w4.heap.size := by omega
  have HAF := hide ((unhide HA4).setB (((T4.length : Nat) : Int) - 1) (T4.length - 1) (by omega))
  have hTl : T4.length ≤ 100000 := by omega
  have hbs : base ≤ w4.heap.size := by omega
  go_wp2_with (at_builtin; go_must (refine wpList_append_lies _ rfl _ _ 145 rfl base 319 i0 (.agg #[.int .i64 0, .string ⟨#[]⟩, .int .i64 0, .int .i64 0]) 4 40 Tryz.underlying145 hi0 hz0 hz1 hz2 rfl (by decide) _ T4.length (spC T4) rfl ?c0 ⟨w4.heap.size, 0, none⟩ 1 1 [.int .i64 (a.1 : Int), .string a.2.1, .int .i64 0, .int .i64 (((T4.length : Nat) : Int) - 1)] rfl rfl ?c1 ?c2 (by decide) ?c3 ?c4 ?c5 (w4.heap.size + 1) ?c6 ?_))
  case c0 => exact owns_later (unhide HAF).own ((Below.refl _ _).alloc (Nat.le_refl _) _)
  case c1 =>
   intro j u hj
   match j, hj with
   | 0, hj => simp at hj; subst hj; exact cell_of_blk (blk_alloc' _ _ _ (by first | rfl | simp [World.setCell])) 0
   | 1, hj => simp at hj; subst hj; exact cell_of_blk (blk_alloc' _ _ _ (by first | rfl | simp [World.setCell])) 1
   | 2, hj => simp at hj; subst hj; exact cell_of_blk (blk_alloc' _ _ _ (by first | rfl | simp [World.setCell])) 2
   | 3, hj => simp at hj; subst hj; exact cell_of_blk (blk_alloc' _ _ _ (by first | rfl | simp [World.setCell])) 3
   | j + 4, hj => simp at hj
  case c2 => intro u hu; simp at hu; rcases hu with rfl | rfl | rfl | rfl <;> rfl
  case c3 => unfold maxLen; omega
  case c4 => omega
  case c5 => simp; omega
  case c6 => simp
  intro g8 cap8 q8 hown hgrow hat _
  have HG8 := hide (grown_more (unhide HAF).gr (grown_more (World.grownBy_alloc _ _ _) hgrow (Or.inl rfl)) (by rcases (unhide HAF).at_ with e | ⟨g, e, hg⟩; exact Or.inl e; exact Or.inr ⟨g, e, by omega⟩))
  have HO8 : Hid (q8.ownsRow base 319 4 (.slice (some ⟨g8, 0, none⟩) (T4.length + 1) cap8) (T4.length + 1) (spC (T4 ++ [⟨a.1, a.2.1, 0, T4.length - 1⟩]))) := by
   have := hown
   show q8.ownsRow _ _ _ _ _ _
   rw [spC_snoc]
   rw [show (((T4.length : Nat) : Int) - 1) = ((T4.length - 1 : Nat) : Int) by omega] at this
   exact this
  have HAT : Hid ((Value.slice vo S.length vc).ownBlock = some g8 ∨ w.heap.size ≤ g8) := by
   rcases hat with e | e
   ·rcases (unhide HAF).at_ with e2 | ⟨g, e2, hg⟩
    ·exact Or.inl (e2.symm.trans e)
    ·rw [e2] at e; cases e; exact Or.inr (by omega)
   ·exact Or.inr (by first | omega | (simp at e; omega))
  clear hown hgrow hat
  go_wp2_with fail
  go_ret
  have hfin : appS (.node u v0 a .nil (.node ru rv ra rl rr)) S = T4 ++ [⟨a.1, a.2.1, 0, T4.length - 1⟩] := unhide HADD
  rw [hfin]
  have hlen : (T4 ++ [(⟨a.1, a.2.1, 0, T4.length - 1⟩ : Sp)]).length = T4.length + 1 := by simp
  refine ⟨some ⟨g8, 0, none⟩, cap8, ?_, ?_, unhide HG8, ?_⟩
  ·rw [hlen]; rfl
  ·rw [hlen]; exact unhide HO8
  ·rcases unhide HAT with e | e
   ·exact Or.inl e.symm
   ·exact Or.inr ⟨g8, rfl, e⟩
 | .node u v0 a (.node lu lv la ll lr) (.node ru rv ra rl rr), S, w, p, base, vo, vc, _, h, ho, hbase, hsz => by
  obtain ⟨i0, hi0, hz0, hz1, hz2⟩ := info_parts Tryz.infoSp
  obtain ⟨b, pl, pr, rfl, hb, hl, hr⟩ := h
  have HADD : Hid (appS (.node u v0 a (.node lu lv la ll lr) (.node ru rv ra rl rr)) S = appS (.node ru rv ra rl rr) (appS (.node lu lv la ll lr) S) ++ [⟨a.1, a.2.1, (appS (.node lu lv la ll lr) S).length - 1, (appS (.node ru rv ra rl rr) (appS (.node lu lv la ll lr) S)).length - 1⟩]) := rfl
  have hs : sizeF (.node u v0 a (.node lu lv la ll lr) (.node ru rv ra rl rr)) = 1 + sizeF ((.node lu lv la ll lr) : Fm) + sizeF ((.node ru rv ra rl rr) : Fm) := rfl
  have el0 : (appS (.node lu lv la ll lr) S).length = S.length + sizeF ((.node lu lv la ll lr) : Fm) := appS_len _ _
  have el1 := Nat.le_of_eq el0
  have el2 := Nat.le_of_eq el0.symm
  clear el0
  have er0 : (appS (.node ru rv ra rl rr) (appS (.node lu lv la ll lr) S)).length = (appS (.node lu lv la ll lr) S).length + sizeF ((.node ru rv ra rl rr) : Fm) := appS_len _ _
  have er1 := Nat.le_of_eq er0
  have er2 := Nat.le_of_eq er0.symm
  clear er0
  have IHL := hide (fun W h1 h2 h3 h4 => appendSteps_any (.node lu lv la ll lr) S W pl base vo vc (by intro e; cases e) h1 h2 h3 h4)
  have ezl : 1 ≤ sizeF (.node lu lv la ll lr) := by show 1 ≤ 1 + _ + _; omega
  have IHR := hide (fun S2 W o2 c2 h1 h2 h3 h4 => appendSteps_any (.node ru rv ra rl rr) S2 W pr base o2 c2 (by intro e; cases e) h1 h2 h3 h4)
  have ezr : 1 ≤ sizeF (.node ru rv ra rl rr) := by show 1 ≤ 1 + _ + _; omega
  generalize hsl : sizeF ((.node lu lv la ll lr) : Fm) = zl at *
  generalize hsr : sizeF ((.node ru rv ra rl rr) : Fm) = zr at *
  obtain ⟨bl, pll, plr, hpl, hbl, _, _⟩ := id hl
  subst hpl
  obtain ⟨br, prl, prr, hpr, hbr, _, _⟩ := id hr
  subst hpr
  have bc := fun o => cell_of_blk hb o
  have hlt := lt_of_blk hb
  have hol := own_lt ho
  have HL := hide hl
  have HR := hide hr
  have HO := hide ho
  have HB := hide hb
  have c0 : w.cell? ⟨b, 0, none⟩ = some (.int .i64 (a.1 : Int)) := bc 0
  have c1 : w.cell? ⟨b, 1, none⟩ = some (.string a.2.1) := bc 1
  have c2 := bc 2
  have c3 := bc 3
  clear hl hr ho hb bc
  go_enter Tryz.func166, Tryz.ntmps166
  go_wp2_with fail
  refine wp_region_held_drew (S := fun w' => w'.cell? ⟨b, 0, none⟩ = some (.int .i64 (a.1 : Int)) ∧ w'.cell? ⟨b, 1, none⟩ = some (.string a.2.1)) (by kernel_rfl) ?_ (fun hHeld => ?_)
  ·exact ⟨c0, c1⟩
  refine wpAnyH_take (i := 0) (v := .pointer (some ⟨b, 0, none⟩)) rfl (by kernel_rfl) (by kernel_rfl) (by kernel_rfl) (fun _ _ _ h => h) (Or.inl ⟨by kernel_rfl, fun w hw => by obtain ⟨s0, s1⟩ := hw; go_simp⟩) hHeld ?_
  try simp only [Act.put, zA, zB, zC, zD, zE, zF]
  refine wpAnyH_take (i := 1) (v := .pointer (some ⟨b, 0, none⟩)) rfl (by kernel_rfl) (by kernel_rfl) (by kernel_rfl) (fun _ _ _ h => h) (Or.inl ⟨by kernel_rfl, fun w hw => by obtain ⟨s0, s1⟩ := hw; go_simp⟩) hHeld ?_
  try simp only [Act.put, zA, zB, zC, zD, zE, zF]
  refine wpAnyH_take (i := 2) (v := .pointer (some ⟨b, 0, none⟩)) rfl (by kernel_rfl) (by kernel_rfl) (by kernel_rfl) (fun _ _ _ h => h) (Or.inl ⟨by kernel_rfl, fun w hw => by obtain ⟨s0, s1⟩ := hw; go_simp⟩) hHeld ?_
  try simp only [Act.put, zA, zB, zC, zD, zE, zF]
  refine wpAnyH_take (i := 3) (v := .int .i64 (a.1 : Int)) rfl (by kernel_rfl) (by kernel_rfl) (by kernel_rfl) (fun _ _ _ h => h) (Or.inl ⟨by kernel_rfl, fun w hw => by obtain ⟨s0, s1⟩ := hw; go_simp⟩) hHeld ?_
  try simp only [Act.put, zA, zB, zC, zD, zE, zF]
  refine wpAnyH_take (i := 4) (v := .pointer (some ⟨b, 0, none⟩)) rfl (by kernel_rfl) (by kernel_rfl) (by kernel_rfl) (fun _ _ _ h => h) (Or.inl ⟨by kernel_rfl, fun w hw => by obtain ⟨s0, s1⟩ := hw; go_simp⟩) hHeld ?_
  try simp only [Act.put, zA, zB, zC, zD, zE, zF]
  refine wpAnyH_take (i := 5) (v := .pointer (some ⟨b, 0, none⟩)) rfl (by kernel_rfl) (by kernel_rfl) (by kernel_rfl) (fun _ _ _ h => h) (Or.inl ⟨by kernel_rfl, fun w hw => by obtain ⟨s0, s1⟩ := hw; go_simp⟩) hHeld ?_
  try simp only [Act.put, zA, zB, zC, zD, zE, zF]
  refine wpAnyH_take (i := 6) (v := .pointer (some ⟨b, 1, none⟩)) rfl (by kernel_rfl) (by kernel_rfl) (by kernel_rfl) (fun _ _ _ h => h) (Or.inl ⟨by kernel_rfl, fun w hw => by obtain ⟨s0, s1⟩ := hw; go_simp⟩) hHeld ?_
  try simp only [Act.put, zA, zB, zC, zD, zE, zF]
  refine wpAnyH_take (i := 7) (v := .string a.2.1) rfl (by kernel_rfl) (by kernel_rfl) (by kernel_rfl) (fun _ _ _ h => h) (Or.inl ⟨by kernel_rfl, fun w hw => by obtain ⟨s0, s1⟩ := hw; go_simp⟩) hHeld ?_
  try simp only [Act.put, zA, zB, zC, zD, zE, zF]
  refine wpAnyH_take (i := 8) (v := .agg #[.int .i64 (a.1 : Int), .string a.2.1, .int .i64 0, .int .i64 0]) rfl (by kernel_rfl) (by kernel_rfl) (by kernel_rfl) (fun _ _ _ h => h) (Or.inl ⟨by kernel_rfl, fun w hw => by obtain ⟨s0, s1⟩ := hw; go_simp⟩) hHeld ?_
  try simp only [Act.put, zA, zB, zC, zD, zE, zF]
  refine wpAnyH_ready (rs := [9]) (by kernel_rfl) (by simp) ?_
  refine AllReadyH.cons rfl (fun K hK => ?_) AllReadyH.nil
  go_simp
  refine hK.out _ _ ⟨by show (World.alloc _ _).cell? _ = _; rw [World.cell?_alloc_lt _ _ _ (by simpa using hlt)]; exact hHeld.1, by show (World.alloc _ _).cell? _ = _; rw [World.cell?_alloc_lt _ _ _ (by simpa using hlt)]; exact hHeld.2⟩ (fun hHeld => ?_)
  clear hK K
  refine wpAnyH_ready (rs := [10]) (by kernel_rfl) (by simp) ?_
  refine AllReadyH.cons rfl (fun K hK => ?_) AllReadyH.nil
  go_simp
  refine hK.out _ _ ⟨by show (World.alloc _ _).cell? _ = _; rw [World.cell?_alloc_lt _ _ _ (by simpa using hlt)]; exact c0, by show (World.alloc _ _).cell? _ = _; rw [World.cell?_alloc_lt _ _ _ (by simpa using hlt)]; exact c1⟩ (fun hHeld => ?_)
  clear hK K
  refine wpAnyH_done (by kernel_rfl) ?_ _
  clear hHeld
  have hBW : Below w.heap.size w ((w.alloc (.cells #[.int .i64 (a.1 : Int), .string a.2.1, .int .i64 0, .int .i64 0] 319)).drew) := ((Below.refl _ _).alloc (Nat.le_refl _) _).drew
  have hA : ASt w ((w.alloc (.cells #[.int .i64 (a.1 : Int), .string a.2.1, .int .i64 0, .int .i64 0] 319)).drew) base (.slice vo S.length vc) vo vc S a.1 a.2.1 0 0 := ⟨blk_alloc _ _, owns_later (unhide HO) hBW, ⟨hBW.os, hBW.tape, hBW.output, hBW.size, fun x hx _ => hBW.block x hx⟩, Or.inl rfl, fun x hx => (hol x hx).2⟩
  generalize (w.alloc (.cells #[.int .i64 (a.1 : Int), .string a.2.1, .int .i64 0, .int .i64 0] 319)).drew = W1 at *
  have HA1 := hide hA
  have hbz := hA.gr.size
  clear hA hBW hol c0 c1
  have HKEEP : Hid (∀ W : World, w.grownBy W (Value.slice vo S.length vc).ownBlock → W.heap[b]? = w.heap[b]?) := fun W hW => hW.block b hlt (fun e => own_ty (unhide HO) e.symm (unhide HB) (by decide))
  clear c2 c3
  have bc := fun o => cell_of_blk ((unhide HKEEP _ (unhide HA1).gr).trans (unhide HB)) o
  have sc := fun o => cell_of_blk (unhide HA1).sb o
  have sf := fun o => frozen_of_blk (unhide HA1).sb o
  have hls := lt_of_blk (unhide HA1).sb
  have hlb : b < W1.heap.size := by omega
  go_wp2_with fail
  refine (unhide IHL _ (isG_grown (unhide HO) (unhide HA1).gr (unhide HL)) (unhide HA1).own (by omega) (by omega)).mono ?_
  intro e w2 hp2
  obtain ⟨o2, k2, he2, hA2⟩ := (unhide HA1).call hp2
  subst he2
  have HA2 := hide hA2
  have hz2' := hA2.gr.size
  clear hp2 hA2 bc sc sf hls hlb IHL
  generalize hT2 : appS (.node lu lv la ll lr) S = T2 at *
  have bc := fun o => cell_of_blk ((unhide HKEEP _ (unhide HA2).gr).trans (unhide HB)) o
  have sc := fun o => cell_of_blk (unhide HA2).sb o
  have sf := fun o => frozen_of_blk (unhide HA2).sb o
  have hls := lt_of_blk (unhide HA2).sb
  have hlb : b < w2.heap.size := by omega
  go_wp2_with fail
  have hA3 := ((unhide HA2).setA (((T2.length : Nat) : Int) - 1) (T2.length - 1) (by omega))
  generalize (w2.setCell ⟨w.heap.size, 2, none⟩ (.int .i64 (((T2.length : Nat) : Int) - 1))) = w3 at *
  have HA3 := hide hA3
  have hz3' := hA3.gr.size
  clear hA3 bc sc sf hls hlb
  refine (unhide IHR _ _ _ _ (isG_grown (unhide HO) (unhide HA3).gr (unhide HR)) (unhide HA3).own (by omega) (by omega)).mono ?_
  intro e w4 hp4
  obtain ⟨o4, k4, he4, hA4⟩ := (unhide HA3).call hp4
  subst he4
  have HA4 := hide hA4
  have hz4' := hA4.gr.size
  clear hp4 hA4 IHR
  generalize hT4 : appS (.node ru rv ra rl rr) T2 = T4 at *
  have bc := fun o => cell_of_blk ((unhide HKEEP _ (unhide HA4).gr).trans (unhide HB)) o
  have sc := fun o => cell_of_blk (unhide HA4).sb o
  have sf := fun o => frozen_of_blk (unhide HA4).sb o
  have hls := lt_of_blk (unhide HA4).sb
  have hlb : b < w4.heap.size := by omega
  have HAF := hide ((unhide HA4).setB (((T4.length : Nat) : Int) - 1) (T4.length - 1) (by omega))
  have hTl : T4.length ≤ 100000 := by omega
  have hbs : base ≤ w4.heap.size := by omega
  go_wp2_with (at_builtin; go_must (refine wpList_append_lies _ rfl _ _ 145 rfl base 319 i0 (.agg #[.int .i64 0, .string ⟨#[]⟩, .int .i64 0, .int .i64 0]) 4 40 Tryz.underlying145 hi0 hz0 hz1 hz2 rfl (by decide) _ T4.length (spC T4) rfl ?c0 ⟨w4.heap.size, 0, none⟩ 1 1 [.int .i64 (a.1 : Int), .string a.2.1, .int .i64 ((T2.length - 1 : Nat) : Int), .int .i64 (((T4.length : Nat) : Int) - 1)] rfl rfl ?c1 ?c2 (by decide) ?c3 ?c4 ?c5 (w4.heap.size + 1) ?c6 ?_))
  case c0 => exact owns_later (unhide HAF).own ((Below.refl _ _).alloc (Nat.le_refl _) _)
  case c1 =>
   intro j u hj
   match j, hj with
   | 0, hj => simp at hj; subst hj; exact cell_of_blk (blk_alloc' _ _ _ (by first | rfl | simp [World.setCell])) 0
   | 1, hj => simp at hj; subst hj; exact cell_of_blk (blk_alloc' _ _ _ (by first | rfl | simp [World.setCell])) 1
   | 2, hj => simp at hj; subst hj; exact cell_of_blk (blk_alloc' _ _ _ (by first | rfl | simp [World.setCell])) 2
   | 3, hj => simp at hj; subst hj; exact cell_of_blk (blk_alloc' _ _ _ (by first | rfl | simp [World.setCell])) 3
   | j + 4, hj => simp at hj
  case c2 => intro u hu; simp at hu; rcases hu with rfl | rfl | rfl | rfl <;> rfl
  case c3 => unfold maxLen; omega
  case c4 => omega
  case c5 => simp; omega
  case c6 => simp
  intro g8 cap8 q8 hown hgrow hat _
  have HG8 := hide (grown_more (unhide HAF).gr (grown_more (World.grownBy_alloc _ _ _) hgrow (Or.inl rfl)) (by rcases (unhide HAF).at_ with e | ⟨g, e, hg⟩; exact Or.inl e; exact Or.inr ⟨g, e, by omega⟩))
  have HO8 : Hid (q8.ownsRow base 319 4 (.slice (some ⟨g8, 0, none⟩) (T4.length + 1) cap8) (T4.length + 1) (spC (T4 ++ [⟨a.1, a.2.1, T2.length - 1, T4.length - 1⟩]))) := by
   have := hown
   show q8.ownsRow _ _ _ _ _ _
   rw [spC_snoc]
   rw [show (((T4.length : Nat) : Int) - 1) = ((T4.length - 1 : Nat) : Int) by omega] at this
   exact this
  have HAT : Hid ((Value.slice vo S.length vc).ownBlock = some g8 ∨ w.heap.size ≤ g8) := by
   rcases hat with e | e
   ·rcases (unhide HAF).at_ with e2 | ⟨g, e2, hg⟩
    ·exact Or.inl (e2.symm.trans e)
    ·rw [e2] at e; cases e; exact Or.inr (by omega)
   ·exact Or.inr (by first | omega | (simp at e; omega))
  clear hown hgrow hat
  go_wp2_with fail
  go_ret
  have hfin : appS (.node u v0 a (.node lu lv la ll lr) (.node ru rv ra rl rr)) S = T4 ++ [⟨a.1, a.2.1, T2.length - 1, T4.length - 1⟩] := unhide HADD
  rw [hfin]
  have hlen : (T4 ++ [(⟨a.1, a.2.1, T2.length - 1, T4.length - 1⟩ : Sp)]).length = T4.length + 1 := by simp
  refine ⟨some ⟨g8, 0, none⟩, cap8, ?_, ?_, unhide HG8, ?_⟩
  ·rw [hlen]; rfl
  ·rw [hlen]; exact unhide HO8
  ·rcases unhide HAT with e | e
   ·exact Or.inl e.symm
   ·exact Or.inr ⟨g8, rfl, e⟩
end Go.Proofs.YtidakhhekofkoaaGreatDoor
