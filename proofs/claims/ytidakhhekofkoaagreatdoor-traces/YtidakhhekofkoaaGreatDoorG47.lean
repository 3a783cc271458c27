/- The row of Traces, lifted, and its card: for every script each answer of the program's Holds is the document's, with lists that the caller writes into; no condition. -/
import Derived.Test.YtidakhhekofkoaaGreatDoorG46
set_option linter.unusedSimpArgs false
set_option maxRecDepth 100000
namespace Go.Proofs.YtidakhhekofkoaaGreatDoor
open Go.ChangeShapes Go.WideShapes Go.ChangeAt Go.RowKit Go.Deep
theorem traces_gv {W : World} (h : laidMetH Tryz.prog Rows.tracesRow.laid W) : GV W :=
 gv_of (laid := Rows.tracesRow.laid) h Rows.tracesRow.laid[3] Rows.tracesRow.laid[4] Rows.tracesRow.laid[5] (List.getElem_mem _) (List.getElem_mem _) (List.getElem_mem _) (by kernel_rfl) (by kernel_rfl) (by kernel_rfl) rfl rfl rfl
theorem traces_tab {W : World} (h : laidMetH Tryz.prog Rows.tracesRow.laid W) : Lib.TabIs Tryz.prog W "internal/strconv.uint64pow10" .u64 Lib.pow10Tab :=
 tab_of (laid := Rows.tracesRow.laid) h Rows.tracesRow.laid[2] (List.getElem_mem _) rfl rfl
theorem traces_contract (H : Type) (enc : TypeId × Value → H) (W : World) (base : Nat) (args : Array Value) (ds gs : List (DataW H)) (before : List MemPlace)
  (hval : ∀ (j : Nat) t v, Tryz.f4.params[j]? = some t → args[j]? = some v → Value.okWide Tryz.prog W .any base t v)
  (hW : DataW.Whole enc Tryz.prog Tryz.f4.params.toList Rows.tracesSpec.vars false W args.toList ds gs before) (hL : laidMetH Tryz.prog Rows.tracesRow.laid W) (hZ : (DataW.weightsEach Tryz.prog (Tryz.f4.params.toList ++ (OpenSpec.ofChange Rows.tracesSpec).bare.plain.varTypes Tryz.prog) (ds ++ gs)).all (· ≤ reachBytes) = true) :
  Calls Tryz.prog 4 args W fun e W' => ∃ v, e = .returned v ∧ Rows.tracesSpec.post enc Tryz.prog Tryz.f4 false true false false W args v W' := by
 have hW' := hW
 obtain ⟨p, q, hA0, hV, rfl, hfz, hnd⟩ := hW
 have hA : DataW.TrodAll enc Tryz.prog W 0 (fun _ => true) true Tryz.f4.params.toList args.toList ds p := hA0
 rw [Tryz.params4] at hA hval hZ
 obtain ⟨v0, d0, rfl, rfl, h0⟩ := trodAll_one hA
 obtain ⟨rfl, rfl⟩ := trodVars_none hV
 have h0k := h0
 obtain ⟨fuel, hf⟩ := h0
 clear hA0
 simp only [List.append_nil] at hW'
 have hlt : ∀ x ∈ p, x.block < W.heap.size := fun x hx => by simpa using hW'.lt x hx
 obtain ⟨a0, len, cap, rfl⟩ := okWide_slice Tryz.underlying22 (hval 0 22 v0 rfl rfl)
 have hw : ∀ y ∈ d0.weights Tryz.prog 22, y ≤ reachBytes := fun y hy => by
  have := List.all_eq_true.1 hZ y (List.mem_append_left _ hy)
  simpa using this
 obtain ⟨o, n, k, hv, hS, hn⟩ := script_open2 (v := .slice a0 len cap) (x := (d0, p)) hf hlt hw
 cases hv
 refine (Traces_any W _ _ _ hS (traces_gv hL) (traces_tab hL) hn).mono fun e W' ⟨he, hb⟩ => ?_
 subst he
 exact ⟨_, rfl, ⟨_, _, _, [], _, [], hW', trodAll_mk1 (shut_bool Tryz.underlying4 true), trodAll_mk1 (Below.trod laidOut1 (by kernel_rfl) (of_decide_eq_true (by kernel_rfl)) h0k hb hlt), rfl, hb.frame _, fun h => by cases h⟩⟩
theorem traces_witness (os : Os) : ∃ w0 : World, w0.os = os ∧ (w0.forCall (fun _ _ => 0) ⟨#[], #[.slice none 0 0], []⟩).variablesB Tryz.prog = true ∧
  (((w0.forCall (fun _ _ => 0) ⟨#[], #[.slice none 0 0], []⟩).heap.toList.drop Tryz.prog.globals.size).take ((begin Tryz.prog (fun _ _ => 0) default).world.heap.size - Tryz.prog.globals.size) = (begin Tryz.prog (fun _ _ => 0) default).world.heap.toList.drop Tryz.prog.globals.size) ∧
  Input.okWideB Tryz.prog (w0.forCall (fun _ _ => 0) ⟨#[], #[.slice none 0 0], []⟩) 4 ⟨#[], #[.slice none 0 0], []⟩ = true ∧
  laidMet Tryz.prog Rows.tracesRow.laid (w0.forCall (fun _ _ => 0) ⟨#[], #[.slice none 0 0], []⟩).memory ∧
  (∀ (H : Type) (enc : TypeId × Value → H), ∃ places, DataW.whole enc Tryz.prog (w0.forCall (fun _ _ => 0) ⟨#[], #[.slice none 0 0], []⟩).memory Tryz.f4.params.toList Rows.tracesSpec.vars false #[Value.slice none 0 0].toList 8 = some ([.nil], [], places)) ∧
  (∀ (H : Type) (enc : TypeId × Value → H), (OpenSpec.ofChange Rows.tracesSpec).bare.sizedB enc Tryz.prog Tryz.f4 false (w0.forCall (fun _ _ => 0) ⟨#[], #[.slice none 0 0], []⟩).memory #[.slice none 0 0] 8 = true) :=
 ⟨{ World.holding Tryz.prog os ⟨#[], #[], []⟩ with heap := Rows.tracesRow.laid.foldl (layH Tryz.prog) (World.holding Tryz.prog os ⟨#[], #[], []⟩).heap },
  rfl, by as_aux_lemma => kernel_rfl, by as_aux_lemma => kernel_rfl, by as_aux_lemma => kernel_rfl, laidMet_lin 8 (by as_aux_lemma => kernel_rfl) (by as_aux_lemma => kernel_rfl), fun H enc => ⟨[], by as_aux_lemma => kernel_rfl⟩, fun H enc => by as_aux_lemma => kernel_rfl⟩
theorem traces_lifted (os : Os) (started : os.Started) (H : Type) (enc : TypeId × Value → H) (F : Stop.Interp) :
  ReturnsInHanded {} Tryz.checked os 4 .any ((OpenSpec.ofChange Rows.tracesSpec).preRow enc Tryz.prog Tryz.f4 Rows.tracesRow.domain false Rows.tracesRow.laid) (((OpenSpec.ofChange Rows.tracesSpec).at F).post enc Tryz.prog Tryz.f4 false true false false) := by
 obtain ⟨w0, hos, hv, hr, hok, hlaid, hx, hsz⟩ := traces_witness os
 obtain ⟨places, hx⟩ := hx H enc
 refine returnsInHanded_of_row (C := Tryz.checked) (s := OpenSpec.ofChange Rows.tracesSpec) own1 started (by kernel_rfl) Tryz.func4
  (witness_row_at (enc := enc) (C := Tryz.checked) false w0 #[.slice none 0 0] hos hv hr hok
   (OpenSpec.preRow_of_cond 8 hx (by kernel_rfl) (fun k hk => by cases hk) (hsz H enc) hlaid)) ?_
 intro W base args ds gs before hval hW _ _ hZ hL _ _
 exact traces_contract H enc W base args ds gs before hval hW hL hZ
set_option maxHeartbeats 20000000 in
theorem traces_closed : joinedFacts Tryz.pinned.checked.prog 4 Tryz.f4 (OpenSpec.ofChange Rows.tracesSpec).bare Rows.tracesRow = true := by
 unfold joinedFacts
 simp only [Bool.and_eq_true]
 repeat' (refine And.intro ?_ ?_)
 all_goals (as_aux_lemma => kernel_rfl)
theorem traces_said : Rows.TracesSaid :=
 OpenClaim.holds_of_cond 4 Tryz.f4 rfl rfl rfl rfl rfl rfl rfl ⟨rfl, rfl, rfl, rfl, rfl⟩ rfl rfl rfl rfl rfl (by as_aux_lemma => kernel_rfl) Tryz.func4 traces_closed
  (of_decide_eq_true (by as_aux_lemma => kernel_rfl)) (by unfold Func.isWrapper; first | (rw [if_pos (by decide +kernel)]; kernel_rfl) | (rw [if_neg (by decide +kernel)]; exact ⟨rfl, rfl⟩))
  (fun os started H enc _ F => by rw [OpenClaim.pre_eq_preRow]; exact traces_lifted os started H enc F)
theorem traces_plain (f : FuncId) (fn : Func) (hf : Tryz.pinned.checked.prog.funcNamed Rows.tracesRow.func = some f) (hfn : Tryz.pinned.checked.prog.funcs[f]? = some fn) :
  false = Tryz.pinned.checked.prog.looks [] ∧ ∀ (j : Nat) t, fn.params[j]? = some t → Tryz.pinned.checked.prog.wantsStandIn t = false := by
 obtain rfl : f = 4 := Option.some.inj ((show Tryz.prog.funcNamed Rows.tracesRow.func = some 4 by kernel_rfl).symm.trans hf) |>.symm
 obtain rfl : fn = Tryz.f4 := (Option.some.inj (Tryz.func4.symm.trans hfn)).symm
 refine ⟨by kernel_rfl, fun j t ht => ?_⟩
 rw [Tryz.params4] at ht
 obtain rfl : t = 22 := by simpa using Array.mem_of_getElem? ht
 exact (show Tryz.prog.wantsStandIn 22 = false by kernel_rfl)
theorem traces : Rows.TracesCardSaid :=
 Claim7.holds_tied_plain_at .later [] _ _ _ _ traces_said (fun _ h => by cases h) (by kernel_rfl) (fun _ h => by cases h) traces_row_tie rfl ⟨rfl, rfl⟩ (by kernel_rfl) rfl traces_plain (by kernel_rfl)
end Go.Proofs.YtidakhhekofkoaaGreatDoor
