/- The row of Prints, lifted, and its card. -/
import Derived.Test.YtidakhhekofkoaaGreatDoorJ07
import Derived.Test.YtidakhhekofkoaaGreatDoorJ34
set_option linter.unusedSimpArgs false
set_option maxRecDepth 100000
namespace Go.Proofs.YtidakhhekofkoaaGreatDoor
open Go.ChangeShapes Go.WideShapes Go.ChangeAt Go.RowKit Go.Deep
theorem spellCells : Tryz.prog.cellsOf 309 = 2 := by kernel_rfl
theorem gv_of {laid : List (String × DataW Unit)} {W : World} (h : laidMet Tryz.prog laid W) (xf xw xs : String × DataW Unit) (hf : xf ∈ laid) (hw : xw ∈ laid) (hs : xs ∈ laid)
    (gf : Tryz.prog.globalNamed xf.1 = some 0) (gw : Tryz.prog.globalNamed xw.1 = some 2) (gs : Tryz.prog.globalNamed xs.1 = some 1)
    (df : xf.2 = .agg (fsignsL.map fun x => .lit (.string x))) (dw : xw.2 = .agg (wordsL.map fun x => .agg [.lit (.string x.1), .lit (.int .i64 x.2)])) (ds : xs.2 = .agg (rsignsL.map fun x => .agg [.lit (.string x.1), .lit (.int .i64 x.2)])) : GV W := by
  obtain ⟨ps, hl, _⟩ := h
  refine ⟨?_, ?_, ?_⟩
  · obtain ⟨g, t, cs, fuel, p, hg, ht, hv, hd⟩ := laid_mem hl xf hf
    obtain rfl := Option.some.inj (gf.symm.trans hg)
    obtain rfl := Option.some.inj ((show (Tryz.prog.globals[0]?).map (·.type) = some 273 by kernel_rfl).symm.trans ht)
    rw [df] at hd
    have e := strs_cells Tryz.underlying273 (by kernel_rfl) hd
    obtain ⟨t', m', hb⟩ := var_blk hg hv
    have e2 : cs = fsignsC := by rw [← Array.toList_inj, e]; rfl
    exact ⟨t', m', e2 ▸ hb⟩
  · obtain ⟨g, t, cs, fuel, p, hg, ht, hv, hd⟩ := laid_mem hl xw hw
    obtain rfl := Option.some.inj (gw.symm.trans hg)
    obtain rfl := Option.some.inj ((show (Tryz.prog.globals[2]?).map (·.type) = some 321 by kernel_rfl).symm.trans ht)
    rw [dw] at hd
    have e := pairs_cells Tryz.underlying321 (by kernel_rfl) spellCells hd
    obtain ⟨t', m', hb⟩ := var_blk hg hv
    have e2 : cs = wordsC := by rw [← Array.toList_inj, e]; rfl
    exact ⟨t', m', e2 ▸ hb⟩
  · obtain ⟨g, t, cs, fuel, p, hg, ht, hv, hd⟩ := laid_mem hl xs hs
    obtain rfl := Option.some.inj (gs.symm.trans hg)
    obtain rfl := Option.some.inj ((show (Tryz.prog.globals[1]?).map (·.type) = some 310 by kernel_rfl).symm.trans ht)
    rw [ds] at hd
    have e := pairs_cells Tryz.underlying310 (by kernel_rfl) spellCells hd
    obtain ⟨t', m', hb⟩ := var_blk hg hv
    have e2 : cs = rsignsC := by rw [← Array.toList_inj, e]; rfl
    exact ⟨t', m', e2 ▸ hb⟩
theorem prints_gv {W : World} (h : laidMetH Tryz.prog Rows.printsRow.laid W) : GV W :=
  gv_of (laid := Rows.printsRow.laid) h Rows.printsRow.laid[3] Rows.printsRow.laid[4] Rows.printsRow.laid[5] (List.getElem_mem _) (List.getElem_mem _) (List.getElem_mem _) (by kernel_rfl) (by kernel_rfl) (by kernel_rfl) rfl rfl rfl
theorem prints_contract (hP : PrintOk) (H : Type) (enc : TypeId × Value → H) (W : World) (base : Nat) (args : Array Value) (ds gs : List (DataW H)) (before : List MemPlace)
    (hval : ∀ (j : Nat) t v, Tryz.f3.params[j]? = some t → args[j]? = some v → Value.okWide Tryz.prog W .any base t v)
    (hW : DataW.Whole enc Tryz.prog Tryz.f3.params.toList Rows.printsSpec.vars false W args.toList ds gs before) (hL : laidMetH Tryz.prog Rows.printsRow.laid W) :
    Calls Tryz.prog 3 args W fun e W' => ∃ v, e = .returned v ∧ Rows.printsSpec.post enc Tryz.prog Tryz.f3 false true false false W args v W' := by
  have hW' := hW
  obtain ⟨p, q, hA0, hV, rfl, hfz, hnd⟩ := hW
  have hA : DataW.TrodAll enc Tryz.prog W 0 (fun _ => true) true Tryz.f3.params.toList args.toList ds p := hA0
  rw [Tryz.params3] at hA hval
  obtain ⟨v0, d0, rfl, rfl, h0⟩ := trodAll_one hA
  obtain ⟨rfl, rfl⟩ := trodVars_none hV
  have h0k := h0
  obtain ⟨fuel, hf⟩ := h0
  clear hA0
  simp only [List.append_nil] at hW'
  have hlt : ∀ x ∈ p, x.block < W.heap.size := fun x hx => by simpa using hW'.lt x hx
  obtain ⟨a0, len, cap, rfl⟩ := okWide_slice Tryz.underlying22 (hval 0 22 v0 rfl rfl)
  obtain ⟨o, n, k, hv, hS⟩ := script_open (v := .slice a0 len cap) (x := (d0, p)) hf hlt
  cases hv
  refine (Prints_any hP W _ _ _ hS (prints_gv hL)).mono fun e W' ⟨he, hb⟩ => ?_
  subst he
  exact ⟨_, rfl, ⟨_, _, _, [], _, [], hW', trodAll_mk1 (shut_bool Tryz.underlying4 true), trodAll_mk1 (Below.trod laidOut1 (by kernel_rfl) (of_decide_eq_true (by kernel_rfl)) h0k hb hlt), rfl, hb.frame _, fun h => by cases h⟩⟩
def cellsD : DataW Unit → List Value
  | .lit l => [l.value]
  | .agg xs => xs.flatMap fun x => match x with
    | .lit l => [l.value]
    | .agg ys => ys.flatMap fun y => match y with
      | .lit l => [l.value]
      | _ => []
    | _ => []
  | _ => []
def layH (P : Program) (h : Array Obj) (x : String × DataW Unit) : Array Obj :=
  match P.globalNamed x.1 with
  | some g => h.modify g fun
    | .cells _ t frozen => .cells (cellsD x.2).toArray t frozen
    | o => o
  | none => h
theorem prW1 (os : Os) : (({ World.holding Tryz.prog os ⟨#[], #[], []⟩ with heap := Rows.printsRow.laid.foldl (layH Tryz.prog) (World.holding Tryz.prog os ⟨#[], #[], []⟩).heap } : World).forCall (fun _ _ => 0) ⟨#[], #[.slice none 0 0], []⟩).variablesB Tryz.prog = true := by kernel_rfl
theorem prW2 (os : Os) : ((({ World.holding Tryz.prog os ⟨#[], #[], []⟩ with heap := Rows.printsRow.laid.foldl (layH Tryz.prog) (World.holding Tryz.prog os ⟨#[], #[], []⟩).heap } : World).forCall (fun _ _ => 0) ⟨#[], #[.slice none 0 0], []⟩).heap.toList.drop Tryz.prog.globals.size).take ((begin Tryz.prog (fun _ _ => 0) default).world.heap.size - Tryz.prog.globals.size) = (begin Tryz.prog (fun _ _ => 0) default).world.heap.toList.drop Tryz.prog.globals.size := by kernel_rfl
theorem prW3 (os : Os) : Input.okWideB Tryz.prog (({ World.holding Tryz.prog os ⟨#[], #[], []⟩ with heap := Rows.printsRow.laid.foldl (layH Tryz.prog) (World.holding Tryz.prog os ⟨#[], #[], []⟩).heap } : World).forCall (fun _ _ => 0) ⟨#[], #[.slice none 0 0], []⟩) 3 ⟨#[], #[.slice none 0 0], []⟩ = true := by kernel_rfl
theorem prW4 (os : Os) : laidMet Tryz.prog Rows.printsRow.laid (({ World.holding Tryz.prog os ⟨#[], #[], []⟩ with heap := Rows.printsRow.laid.foldl (layH Tryz.prog) (World.holding Tryz.prog os ⟨#[], #[], []⟩).heap } : World).forCall (fun _ _ => 0) ⟨#[], #[.slice none 0 0], []⟩).memory := laidMet_lin 8 (by kernel_rfl) (by kernel_rfl)
theorem prW5 (os : Os) (H : Type) (enc : TypeId × Value → H) : DataW.whole enc Tryz.prog (({ World.holding Tryz.prog os ⟨#[], #[], []⟩ with heap := Rows.printsRow.laid.foldl (layH Tryz.prog) (World.holding Tryz.prog os ⟨#[], #[], []⟩).heap } : World).forCall (fun _ _ => 0) ⟨#[], #[.slice none 0 0], []⟩).memory Tryz.f3.params.toList Rows.printsSpec.vars false #[Value.slice none 0 0].toList 8 = some ([.nil], [], []) := by kernel_rfl
theorem prW6 (os : Os) (H : Type) (enc : TypeId × Value → H) : (OpenSpec.ofChange Rows.printsSpec).bare.sizedB enc Tryz.prog Tryz.f3 false (({ World.holding Tryz.prog os ⟨#[], #[], []⟩ with heap := Rows.printsRow.laid.foldl (layH Tryz.prog) (World.holding Tryz.prog os ⟨#[], #[], []⟩).heap } : World).forCall (fun _ _ => 0) ⟨#[], #[.slice none 0 0], []⟩).memory #[.slice none 0 0] 8 = true := by kernel_rfl
theorem prints_witness (os : Os) : ∃ w0 : World, w0.os = os ∧ (w0.forCall (fun _ _ => 0) ⟨#[], #[.slice none 0 0], []⟩).variablesB Tryz.prog = true ∧
    (((w0.forCall (fun _ _ => 0) ⟨#[], #[.slice none 0 0], []⟩).heap.toList.drop Tryz.prog.globals.size).take ((begin Tryz.prog (fun _ _ => 0) default).world.heap.size - Tryz.prog.globals.size) = (begin Tryz.prog (fun _ _ => 0) default).world.heap.toList.drop Tryz.prog.globals.size) ∧
    Input.okWideB Tryz.prog (w0.forCall (fun _ _ => 0) ⟨#[], #[.slice none 0 0], []⟩) 3 ⟨#[], #[.slice none 0 0], []⟩ = true ∧
    laidMet Tryz.prog Rows.printsRow.laid (w0.forCall (fun _ _ => 0) ⟨#[], #[.slice none 0 0], []⟩).memory ∧
    (∀ (H : Type) (enc : TypeId × Value → H), ∃ places, DataW.whole enc Tryz.prog (w0.forCall (fun _ _ => 0) ⟨#[], #[.slice none 0 0], []⟩).memory Tryz.f3.params.toList Rows.printsSpec.vars false #[Value.slice none 0 0].toList 8 = some ([.nil], [], places)) ∧
    (∀ (H : Type) (enc : TypeId × Value → H), (OpenSpec.ofChange Rows.printsSpec).bare.sizedB enc Tryz.prog Tryz.f3 false (w0.forCall (fun _ _ => 0) ⟨#[], #[.slice none 0 0], []⟩).memory #[.slice none 0 0] 8 = true) :=
  ⟨({ World.holding Tryz.prog os ⟨#[], #[], []⟩ with heap := Rows.printsRow.laid.foldl (layH Tryz.prog) (World.holding Tryz.prog os ⟨#[], #[], []⟩).heap } : World), rfl, prW1 os, prW2 os, prW3 os, prW4 os, fun H enc => ⟨[], prW5 os H enc⟩, prW6 os⟩
theorem prints_lifted (hP : PrintOk) (os : Os) (started : os.Started) (H : Type) (enc : TypeId × Value → H) (F : Stop.Interp) :
    ReturnsInHanded {} Tryz.checked os 3 .any ((OpenSpec.ofChange Rows.printsSpec).preRow enc Tryz.prog Tryz.f3 Rows.printsRow.domain false Rows.printsRow.laid) (((OpenSpec.ofChange Rows.printsSpec).at F).post enc Tryz.prog Tryz.f3 false true false false) := by
  obtain ⟨w0, hos, hv, hr, hok, hlaid, hx, hsz⟩ := prints_witness os
  obtain ⟨places, hx⟩ := hx H enc
  refine returnsInHanded_of_row (C := Tryz.checked) (s := OpenSpec.ofChange Rows.printsSpec) own1 started (by kernel_rfl) Tryz.func3
    (witness_row_at (enc := enc) (C := Tryz.checked) false w0 #[.slice none 0 0] hos hv hr hok
      (OpenSpec.preRow_of_cond 8 hx (by kernel_rfl) (fun k hk => by cases hk) (hsz H enc) hlaid)) ?_
  intro W base args ds gs before hval hW _ _ _ hL _ _
  exact prints_contract hP H enc W base args ds gs before hval hW hL
set_option maxHeartbeats 20000000 in
theorem prints_closed : joinedFacts Tryz.pinned.checked.prog 3 Tryz.f3 (OpenSpec.ofChange Rows.printsSpec).bare Rows.printsRow = true := by
  unfold joinedFacts
  simp only [Bool.and_eq_true]
  repeat' (refine And.intro ?_ ?_)
  all_goals (as_aux_lemma => kernel_rfl)
theorem prints_said (hP : PrintOk) : Rows.PrintsSaid :=
  OpenClaim.holds_of_cond 3 Tryz.f3 rfl rfl rfl rfl rfl rfl rfl ⟨rfl, rfl, rfl, rfl, rfl⟩ rfl rfl rfl rfl rfl (by as_aux_lemma => kernel_rfl) Tryz.func3 prints_closed
    (of_decide_eq_true (by as_aux_lemma => kernel_rfl)) (by unfold Func.isWrapper; first | (rw [if_pos (by decide +kernel)]; kernel_rfl) | (rw [if_neg (by decide +kernel)]; exact ⟨rfl, rfl⟩))
    (fun os started H enc _ F => by rw [OpenClaim.pre_eq_preRow]; exact prints_lifted hP os started H enc F)
theorem prints_plain (f : FuncId) (fn : Func) (hf : Tryz.pinned.checked.prog.funcNamed Rows.printsRow.func = some f) (hfn : Tryz.pinned.checked.prog.funcs[f]? = some fn) :
    false = Tryz.pinned.checked.prog.looks [] ∧ ∀ (j : Nat) t, fn.params[j]? = some t → Tryz.pinned.checked.prog.wantsStandIn t = false := by
  obtain rfl : f = 3 := Option.some.inj ((show Tryz.prog.funcNamed Rows.printsRow.func = some 3 by kernel_rfl).symm.trans hf) |>.symm
  obtain rfl : fn = Tryz.f3 := (Option.some.inj (Tryz.func3.symm.trans hfn)).symm
  refine ⟨by kernel_rfl, fun j t ht => ?_⟩
  rw [Tryz.params3] at ht
  obtain rfl : t = 22 := by simpa using Array.mem_of_getElem? ht
  exact (show Tryz.prog.wantsStandIn 22 = false by kernel_rfl)
theorem prints_card (hP : PrintOk) : Rows.PrintsCardSaid :=
  Claim7.holds_tied_plain_at .later [] _ _ _ _ (prints_said hP) (fun _ h => by cases h) (by kernel_rfl) (fun _ h => by cases h) prints_row_tie rfl ⟨rfl, rfl⟩ (by kernel_rfl) rfl prints_plain (by kernel_rfl)
end Go.Proofs.YtidakhhekofkoaaGreatDoor
