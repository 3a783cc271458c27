/- The program's checkKnown and checkAct. -/
import Derived.Test.YtekfjoapinolgaaGreatDoorG15
import Derived.Test.YtekfjoapinolgaaGreatDoorG14
set_option linter.unusedSimpArgs false
namespace Go.Proofs.YtekfjoapinolgaaGreatDoor
open Go.RowKit Go.Deep

theorem box_cf {w w' : World} {cb B b ty : Nat} {c : Array Value} {m : Nat × Nat} (hf : CF cb B w w') (hb : w.heap[b]? = some (.cells c ty m)) (h1 : ty ≠ 9) (h2 : b ≠ cb) : w'.heap[b]? = some (.cells c ty m) :=
  (hf.keep b (lt_of_blk hb) h2 (Or.inr (ty_ne hb h1))).trans hb
theorem Tryz.infoStr : (Tryz.prog.info? 9).map (fun i => (i.zero, i.size, i.bytes)) = some (some (.string ⟨#[]⟩), 1, 16) := by kernel_rfl

set_option maxHeartbeats 2000000 in
theorem checkKnown_any (w : World) (cb B : Nat) (A : List Tk) (x : Nat × Nat) (t : Tk) (h : CK w cb B A x) :
    Calls Tryz.prog 147 #[.pointer (some ⟨cb, 0, none⟩), tkP t] w fun r w' => r = .returned (.tuple #[]) ∧ CK w' cb B A (tells x (fName A t.s t.p)) ∧ CF cb B w w' := by
  have HC := hide h
  have hcl := h.lt
  clear h
  unfold tkP
  go_enter Tryz.func147, Tryz.ntmps147
  go_wp2_with fail
  refine (checkLength_any _ cb B A x t ((unhide HC).alloc _)).mono ?_
  rintro e w1 ⟨rfl, hc1, hf1⟩
  have hbx := box_cf hf1 (blk_alloc w (.cells #[.int .i64 t.k, .string t.s, .int .i64 t.p] 185)) (by decide) (by omega)
  have xc := fun o => cell_of_blk hbx o
  have hxl : w.heap.size < w1.heap.size := lt_of_blk hbx
  obtain ⟨ao, an, ac, hb1, ho1⟩ := hc1.blk
  have bc := fun o => cell_of_blk hb1 o
  have hcl1 := hc1.lt
  have HC1 := hide hc1
  have HO1 := hide ho1
  have HF1 := hide ((CF.below (cb := cb) (B := B) ((Below.refl w.heap.size w).alloc (Nat.le_refl _) _)).trans hf1)
  clear hc1 hf1 hbx hb1 ho1
  go_wp2_with fail
  go_quiet (first | (go_at_call 62; refine Calls.quiet_of_same (contains_any A t.s (.slice ao an ac) B _ (owns_later (unhide HO1) (bdn _ _)))))
  cases hh : hasN A t.s with
  | true =>
    have HT : Hid (tells (tells x (fLong t)) [] = tells x (fName A t.s t.p)) := by show _ = _; unfold fName fLong; rw [hh, tells_append]; rfl
    clear hh
    go_wp2_with fail
    go_end0
    rw [← unhide HT]
    exact ⟨rfl, (unhide HC1).later (bdn _ _), (unhide HF1).trans (CF.below (bdn _ _))⟩
  | false =>
    have HT : Hid (tell (tells x (fLong t)) t.p 3 = tells x (fName A t.s t.p)) := by show _ = _; unfold fName fLong; rw [hh, tells_append]; rfl
    clear hh
    go_wp2_with fail
    refine (tell_any _ cb B A _ t.p 3 ((unhide HC1).later (bdn _ _))).mono ?_
    rintro e w2 ⟨rfl, hc2, hg2⟩
    have HC2 := hide hc2
    have HG2 := hide hg2
    clear hc2 hg2
    go_wp2_with fail
    go_end0
    rw [← unhide HT]
    exact ⟨rfl, unhide HC2, ((unhide HF1).trans (CF.below (bdn _ _))).trans (CF.grown (unhide HG2))⟩

set_option maxHeartbeats 4000000 in
set_option maxRecDepth 100000 in
theorem checkAct_any (w : World) (cb B : Nat) (A : List Tk) (x : Nat × Nat) (i : Nat) (t : Tk) (h : CK w cb B A x) (hA : A.length ≤ 401) (hBw : B ≤ w.heap.size) :
    Calls Tryz.prog 104 #[.pointer (some ⟨cb, 0, none⟩), .int .i64 (i : Int), tkP t] w fun r w' => r = .returned (.tuple #[]) ∧ CK w' cb B (A ++ [t]) (tells x (pAct A i t)) ∧ CF cb B w w' := by
  obtain ⟨i0, hi, hz0, hz1, hz2⟩ := info_parts Tryz.infoStr
  have HC := hide h
  have hcl := h.lt
  have hBc := h.hB
  clear h
  unfold tkP
  go_enter Tryz.func104, Tryz.ntmps104
  go_wp2_with fail
  refine (checkLength_any _ cb B A x t ((unhide HC).alloc _)).mono ?_
  rintro e w1 ⟨rfl, hc1, hf1⟩
  have hbx := box_cf hf1 (blk_alloc w (.cells #[.int .i64 t.k, .string t.s, .int .i64 t.p] 185)) (by decide) (by omega)
  have HBX := hide hbx
  have xc := fun o => cell_of_blk hbx o
  have hxl : w.heap.size < w1.heap.size := lt_of_blk hbx
  obtain ⟨ao, an, ac, hb1, ho1⟩ := hc1.blk
  have bc := fun o => cell_of_blk hb1 o
  have hcl1 := hc1.lt
  have HC1 := hide hc1
  have HO1 := hide ho1
  have HF1 := hide ((CF.below (cb := cb) (B := B) ((Below.refl w.heap.size w).alloc (Nat.le_refl _) _)).trans hf1)
  clear hc1 hf1 hbx hb1 ho1
  go_wp2_with fail
  go_quiet (first | (go_at_call 62; refine Calls.quiet_of_same (contains_any A t.s (.slice ao an ac) B _ (owns_later (unhide HO1) (bdn _ _)))))
  clear bc xc
  go_upto_if 15 with fail
  go_cut [] (fun wc => CK wc cb B A (tells (tells x (fLong t)) (if hasN A t.s = true then [(t.p, 3)] else [])) ∧ CF cb B w wc ∧ wc.heap[w.heap.size]? = some (.cells #[.int .i64 t.k, .string t.s, .int .i64 t.p] 185 (0, 0)))
  case first =>
    have hbx2 := ((bdn w1 nq).block _ hxl).trans (unhide HBX)
    have xc := fun o => cell_of_blk hbx2 o
    cases hh : hasN A t.s with
    | true =>
      have HT : Hid (tells (tells x (fLong t)) (if hasN A t.s = true then [(t.p, 3)] else []) = tell (tells x (fLong t)) t.p 3) := by show _ = _; rw [hh]; rfl
      go_wp2_with fail
      refine (tell_any _ cb B A _ t.p 3 ((unhide HC1).later (bdn _ _))).mono ?_
      rintro e w2 ⟨rfl, hc2, hg2⟩
      have HC2 := hide hc2
      have HG2 := hide hg2
      clear hc2 hg2
      go_wp2_with fail
      go_meet
      rw [unhide HT]
      exact ⟨unhide HC2, ((unhide HF1).trans (CF.below (bdn _ _))).trans (CF.grown (unhide HG2)), ((unhide HG2).block _ (lt_of_blk hbx2) (by simp; omega)).trans hbx2⟩
    | false =>
      have HT : Hid (tells (tells x (fLong t)) (if hasN A t.s = true then [(t.p, 3)] else []) = tells x (fLong t)) := by show _ = _; rw [hh]; rfl
      go_wp2_with fail
      go_meet
      rw [unhide HT]
      exact ⟨(unhide HC1).later (bdn _ _), (unhide HF1).trans (CF.below (bdn _ _)), hbx2⟩
  case rest =>
    obtain ⟨hc2, hf2, hbx2⟩ := hcut
    have HC2 := hide hc2
    have HF2 := hide hf2
    have HBX2 := hide hbx2
    have hxl2 : w.heap.size < wc.heap.size := lt_of_blk hbx2
    clear hc2 hf2 hbx2 HC1 HO1 HF1 HBX
    go_upto_if 21 with fail
    go_cut [] (fun wc => CK wc cb B A (tells x (pAct A i t)) ∧ CF cb B w wc ∧ wc.heap[w.heap.size]? = some (.cells #[.int .i64 t.k, .string t.s, .int .i64 t.p] 185 (0, 0)))
    case first =>
      have xc := fun o => cell_of_blk (unhide HBX2) o
      by_cases h6 : 6 ≤ i
      · have h6' : (6 : Int) ≤ (i : Int) := by omega
        have HT : Hid (tell (tells (tells x (fLong t)) (if hasN A t.s = true then [(t.p, 3)] else [])) t.p 4 = tells x (pAct A i t)) := by show _ = _; unfold pAct; rw [if_pos h6, tells_append, tells_append]; rfl
        clear h6
        go_wp2_with fail
        refine (tell_any _ cb B A _ t.p 4 (unhide HC2)).mono ?_
        rintro e w2 ⟨rfl, hc3, hg3⟩
        have HC3 := hide hc3
        have HG3 := hide hg3
        clear hc3 hg3
        go_wp2_with fail
        go_meet
        rw [← unhide HT]
        exact ⟨unhide HC3, (unhide HF2).trans (CF.grown (unhide HG3)), ((unhide HG3).block _ hxl2 (by simp; omega)).trans (unhide HBX2)⟩
      · have h6' : ¬ (6 : Int) ≤ (i : Int) := by omega
        have HT : Hid (tells (tells x (fLong t)) (if hasN A t.s = true then [(t.p, 3)] else []) = tells x (pAct A i t)) := by show _ = _; unfold pAct; rw [if_neg h6, tells_append, List.append_nil]
        clear h6
        go_wp2_with fail
        go_meet
        rw [← unhide HT]
        exact ⟨unhide HC2, unhide HF2, unhide HBX2⟩
    case rest =>
      obtain ⟨hc3, hf3, hbx3⟩ := hcut
      obtain ⟨bo, bn, bk, hb3, ho3⟩ := hc3.blk
      have bc := fun o => cell_of_blk hb3 o
      have bf := fun o => frozen_of_blk hb3 o
      have hcl3 := hc3.lt
      have hxl3 : w.heap.size < wc.heap.size := lt_of_blk hbx3
      have hnc3 : (Value.slice bo bn bk).ownBlock ≠ some cb := fun e => own_ty ho3 e hb3 (by decide)
      have hnx3 : (Value.slice bo bn bk).ownBlock ≠ some w.heap.size := fun e => own_ty ho3 e hbx3 (by decide)
      have HF3 := hide hf3
      have HO3 := hide ho3
      have HB3 := hide hb3
      have HBX3 := hide hbx3
      clear hc3 hf3 hbx3 hb3 ho3 HC2 HF2 HBX2
      generalize wc = w3 at *
      go_wp2_with fail
      refine wp_region_held_drew (S := fun w' => w'.cell? ⟨w.heap.size, 1, none⟩ = some (.string t.s)) (by kernel_rfl) ?_ (fun hHeld => ?_)
      · show w3.drew.cell? _ = _
        exact cell_of_blk (unhide HBX3) 1
      refine wpAnyH_take (i := 0) (v := .pointer (some ⟨cb, 0, none⟩)) rfl (by kernel_rfl) (by kernel_rfl) (by kernel_rfl) (fun _ _ _ h => h) (Or.inl ⟨by kernel_rfl, fun w hw => by have s0 := hw; go_simp⟩) hHeld ?_
      try simp only [Act.put, List.setIfInBounds_toArray, List.set_cons_zero, List.set_cons_succ, List.getElem_toArray, List.getElem_cons_succ, List.getElem_cons_zero]
      refine wpAnyH_take (i := 1) (v := .pointer (some ⟨cb, 0, none⟩)) rfl (by kernel_rfl) (by kernel_rfl) (by kernel_rfl) (fun _ _ _ h => h) (Or.inl ⟨by kernel_rfl, fun w hw => by have s0 := hw; go_simp⟩) hHeld ?_
      try simp only [Act.put, List.setIfInBounds_toArray, List.set_cons_zero, List.set_cons_succ, List.getElem_toArray, List.getElem_cons_succ, List.getElem_cons_zero]
      refine wpAnyH_take (i := 2) (v := .pointer (some ⟨cb, 0, none⟩)) rfl (by kernel_rfl) (by kernel_rfl) (by kernel_rfl) (fun _ _ _ h => h) (Or.inl ⟨by kernel_rfl, fun w hw => by have s0 := hw; go_simp⟩) hHeld ?_
      try simp only [Act.put, List.setIfInBounds_toArray, List.set_cons_zero, List.set_cons_succ, List.getElem_toArray, List.getElem_cons_succ, List.getElem_cons_zero]
      refine wpAnyH_take (i := 3) (v := .pointer (some ⟨cb, 0, none⟩)) rfl (by kernel_rfl) (by kernel_rfl) (by kernel_rfl) (fun _ _ _ h => h) (Or.inl ⟨by kernel_rfl, fun w hw => by have s0 := hw; go_simp⟩) hHeld ?_
      try simp only [Act.put, List.setIfInBounds_toArray, List.set_cons_zero, List.set_cons_succ, List.getElem_toArray, List.getElem_cons_succ, List.getElem_cons_zero]
      refine wpAnyH_take (i := 5) (v := .pointer (some ⟨w.heap.size, 1, none⟩)) rfl (by kernel_rfl) (by kernel_rfl) (by kernel_rfl) (fun _ _ _ h => h) (Or.inl ⟨by kernel_rfl, fun w hw => by have s0 := hw; go_simp⟩) hHeld ?_
      try simp only [Act.put, List.setIfInBounds_toArray, List.set_cons_zero, List.set_cons_succ, List.getElem_toArray, List.getElem_cons_succ, List.getElem_cons_zero]
      refine wpAnyH_take (i := 6) (v := .string t.s) rfl (by kernel_rfl) (by kernel_rfl) (by kernel_rfl) (fun _ _ _ h => h) (Or.inl ⟨by kernel_rfl, fun w hw => by have s0 := hw; go_simp⟩) hHeld ?_
      try simp only [Act.put, List.setIfInBounds_toArray, List.set_cons_zero, List.set_cons_succ, List.getElem_toArray, List.getElem_cons_succ, List.getElem_cons_zero]
      refine wpAnyH_ready (rs := [4, 7]) (by kernel_rfl) (by simp) ?_
      refine AllReadyH.cons rfl (fun K hK => ?_) (AllReadyH.cons rfl (fun K hK => ?_) AllReadyH.nil)
      · go_simp
        refine hK.out _ _ hHeld (fun hHeld => ?_)
        clear hK K
        refine wpAnyH_ready (rs := [7]) (by kernel_rfl) (by simp) ?_
        refine AllReadyH.cons rfl (fun K hK => ?_) AllReadyH.nil
        go_simp
        refine hK.out _ _ (by first | exact hHeld | (show (World.alloc _ _).cell? _ = _; rw [World.cell?_alloc_lt _ _ _ hxl3]; exact cell_of_blk (unhide HBX3) 1)) (fun hHeld => ?_)
        clear hK K
        refine wpAnyH_ready (rs := [8]) (by kernel_rfl) (by simp) ?_
        refine AllReadyH.cons rfl (fun K hK => ?_) AllReadyH.nil
        refine step_append_lies _ (by rfl) _ _ 25 (by rfl) B 9 i0 (.string ⟨#[]⟩) 1 16 Tryz.underlying25 hi hz0 hz1 hz2 rfl (by decide) (.slice bo bn bk) A.length (strC A) (by rfl) ?c0 ⟨w3.heap.size, 0, none⟩ 1 1 [.string t.s] (by rfl) rfl ?c1 ?c2 (by decide) ?c3 ?c4 ?c5 (w3.heap.size + 1) (by simp) ?_
        case c0 => exact owns_later (unhide HO3) ((Below.refl _ _).alloc (Nat.le_refl _) _).drew
        case c1 =>
          intro j u hj
          match j, hj with
          | 0, hj => simp at hj; subst hj; simp [Addr.add]
          | j + 1, hj => simp at hj
        case c2 => intro u hu; simp at hu; subst hu; rfl
        case c3 => unfold maxLen; omega
        case c4 => omega
        case c5 => have := (unhide HF3).size; simp; omega
        intro g4 cap4 w4 hown4 hgrow4 hat4 hlt4
        have hb4 := (hgrow4.block cb (by simp; omega) (fun e => hnc3 e.symm)).trans ((Below.heap_alloc _ _ _ hcl3).trans (unhide HB3))
        have hbx4 := (hgrow4.block w.heap.size (by simp; omega) (fun e => hnx3 e.symm)).trans ((Below.heap_alloc _ _ _ hxl3).trans (unhide HBX3))
        have hf4 : CF cb B w w4 := ((unhide HF3).trans (CF.below ((Below.refl w3.heap.size w3).alloc (Nat.le_refl _) (.cells #[.string t.s] 9)).drew)).trans (CF.row (owns_later (unhide HO3) ((Below.refl _ _).alloc (Nat.le_refl _) _).drew) hgrow4)
        refine hK.out _ _ (cell_of_blk hbx4 1) (fun hHeld => ?_)
        clear hK K bc bf
        have bc := fun o => cell_of_blk hb4 o
        have bf := fun o => frozen_of_blk hb4 o
        have hcl4 := lt_of_blk hb4
        have HB4 := hide hb4
        have HF4 := hide hf4
        have HO4 := hide hown4
        clear hb4 hf4 hown4 hgrow4 hbx4
        refine wpAnyH_take (i := 9) (v := .pointer (some ⟨cb, 0, none⟩)) rfl (by kernel_rfl) (by kernel_rfl) (by kernel_rfl) (fun _ _ _ h => h) (Or.inl ⟨by kernel_rfl, fun w hw => by have s0 := hw; go_simp⟩) hHeld ?_
        try simp only [Act.put, List.setIfInBounds_toArray, List.set_cons_zero, List.set_cons_succ, List.getElem_toArray, List.getElem_cons_succ, List.getElem_cons_zero]
        refine wpAnyH_take (i := 10) (v := .pointer (some ⟨cb, 0, none⟩)) rfl (by kernel_rfl) (by kernel_rfl) (by kernel_rfl) (fun _ _ _ h => h) (Or.inl ⟨by kernel_rfl, fun w hw => by have s0 := hw; go_simp⟩) hHeld ?_
        try simp only [Act.put, List.setIfInBounds_toArray, List.set_cons_zero, List.set_cons_succ, List.getElem_toArray, List.getElem_cons_succ, List.getElem_cons_zero]
        refine wpAnyH_ready (rs := [11]) (by kernel_rfl) (by simp) ?_
        refine AllReadyH.cons rfl (fun K hK => ?_) AllReadyH.nil
        go_simp
        refine hK.out _ _ (by show (World.setCell _ _ _).cell? _ = _; rw [World.cell?_setCell_far _ _ _ _ (by show cb ≠ w.heap.size; omega)]; exact hHeld) (fun hHeld => ?_)
        clear hK K
        refine wpAnyH_done (by kernel_rfl) ?_ _
        clear hHeld bc bf
        go_wp2_with fail
        go_end0
        refine ⟨rfl, ⟨⟨some ⟨g4, 0, none⟩, A.length + 1, cap4, blk_set (unhide HB4) 0 _, ?_⟩, hBc⟩, (unhide HF4).trans (CF.grown (grown_set _ _ _ _))⟩
        rw [strC_snoc, List.length_append]
        exact owns_keep (unhide HO4) (grown_set _ _ _ _) (Or.inr (fun e => own_ty (unhide HO4) e (unhide HB4) (by decide)))
      · go_simp
        refine hK.out _ _ (by first | exact hHeld | (show (World.alloc _ _).cell? _ = _; rw [World.cell?_alloc_lt _ _ _ hxl3]; exact cell_of_blk (unhide HBX3) 1)) (fun hHeld => ?_)
        clear hK K
        refine wpAnyH_ready (rs := [4]) (by kernel_rfl) (by simp) ?_
        refine AllReadyH.cons rfl (fun K hK => ?_) AllReadyH.nil
        go_simp
        refine hK.out _ _ hHeld (fun hHeld => ?_)
        clear hK K
        refine wpAnyH_ready (rs := [8]) (by kernel_rfl) (by simp) ?_
        refine AllReadyH.cons rfl (fun K hK => ?_) AllReadyH.nil
        refine step_append_lies _ (by rfl) _ _ 25 (by rfl) B 9 i0 (.string ⟨#[]⟩) 1 16 Tryz.underlying25 hi hz0 hz1 hz2 rfl (by decide) (.slice bo bn bk) A.length (strC A) (by rfl) ?c0 ⟨w3.heap.size, 0, none⟩ 1 1 [.string t.s] (by rfl) rfl ?c1 ?c2 (by decide) ?c3 ?c4 ?c5 (w3.heap.size + 1) (by simp) ?_
        case c0 => exact owns_later (unhide HO3) ((Below.refl _ _).alloc (Nat.le_refl _) _).drew
        case c1 =>
          intro j u hj
          match j, hj with
          | 0, hj => simp at hj; subst hj; simp [Addr.add]
          | j + 1, hj => simp at hj
        case c2 => intro u hu; simp at hu; subst hu; rfl
        case c3 => unfold maxLen; omega
        case c4 => omega
        case c5 => have := (unhide HF3).size; simp; omega
        intro g4 cap4 w4 hown4 hgrow4 hat4 hlt4
        have hb4 := (hgrow4.block cb (by simp; omega) (fun e => hnc3 e.symm)).trans ((Below.heap_alloc _ _ _ hcl3).trans (unhide HB3))
        have hbx4 := (hgrow4.block w.heap.size (by simp; omega) (fun e => hnx3 e.symm)).trans ((Below.heap_alloc _ _ _ hxl3).trans (unhide HBX3))
        have hf4 : CF cb B w w4 := ((unhide HF3).trans (CF.below ((Below.refl w3.heap.size w3).alloc (Nat.le_refl _) (.cells #[.string t.s] 9)).drew)).trans (CF.row (owns_later (unhide HO3) ((Below.refl _ _).alloc (Nat.le_refl _) _).drew) hgrow4)
        refine hK.out _ _ (cell_of_blk hbx4 1) (fun hHeld => ?_)
        clear hK K bc bf
        have bc := fun o => cell_of_blk hb4 o
        have bf := fun o => frozen_of_blk hb4 o
        have hcl4 := lt_of_blk hb4
        have HB4 := hide hb4
        have HF4 := hide hf4
        have HO4 := hide hown4
        clear hb4 hf4 hown4 hgrow4 hbx4
        refine wpAnyH_take (i := 9) (v := .pointer (some ⟨cb, 0, none⟩)) rfl (by kernel_rfl) (by kernel_rfl) (by kernel_rfl) (fun _ _ _ h => h) (Or.inl ⟨by kernel_rfl, fun w hw => by have s0 := hw; go_simp⟩) hHeld ?_
        try simp only [Act.put, List.setIfInBounds_toArray, List.set_cons_zero, List.set_cons_succ, List.getElem_toArray, List.getElem_cons_succ, List.getElem_cons_zero]
        refine wpAnyH_take (i := 10) (v := .pointer (some ⟨cb, 0, none⟩)) rfl (by kernel_rfl) (by kernel_rfl) (by kernel_rfl) (fun _ _ _ h => h) (Or.inl ⟨by kernel_rfl, fun w hw => by have s0 := hw; go_simp⟩) hHeld ?_
        try simp only [Act.put, List.setIfInBounds_toArray, List.set_cons_zero, List.set_cons_succ, List.getElem_toArray, List.getElem_cons_succ, List.getElem_cons_zero]
        refine wpAnyH_ready (rs := [11]) (by kernel_rfl) (by simp) ?_
        refine AllReadyH.cons rfl (fun K hK => ?_) AllReadyH.nil
        go_simp
        refine hK.out _ _ (by show (World.setCell _ _ _).cell? _ = _; rw [World.cell?_setCell_far _ _ _ _ (by show cb ≠ w.heap.size; omega)]; exact hHeld) (fun hHeld => ?_)
        clear hK K
        refine wpAnyH_done (by kernel_rfl) ?_ _
        clear hHeld bc bf
        go_wp2_with fail
        go_end0
        refine ⟨rfl, ⟨⟨some ⟨g4, 0, none⟩, A.length + 1, cap4, blk_set (unhide HB4) 0 _, ?_⟩, hBc⟩, (unhide HF4).trans (CF.grown (grown_set _ _ _ _))⟩
        rw [strC_snoc, List.length_append]
        exact owns_keep (unhide HO4) (grown_set _ _ _ _) (Or.inr (fun e => own_ty (unhide HO4) e (unhide HB4) (by decide)))
end Go.Proofs.YtekfjoapinolgaaGreatDoor
