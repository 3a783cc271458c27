/- The row of Watched, lifted, and its card, in the second form: for every text and every list of numbers (of bulk 1048576 at most) Watched answers true. -/
import Derived.Test.YtidakhhekofkoaaGreatDoorK44
import Derived.Test.YtidakhhekofkoaaGreatDoorK45
set_option linter.unusedSimpArgs false
set_option maxRecDepth 100000
namespace Go.Proofs.YtidakhhekofkoaaGreatDoor
open Go.ChangeShapes Go.WideShapes Go.ChangeAt Go.RowKit Go.Deep
theorem watched_gv {W : World} (h : laidMetH Tryz.prog Rows.watchedUptoRow.laid W) : GVF W :=
 gv_of (laid := Rows.watchedUptoRow.laid) h Rows.watchedUptoRow.laid[0] Rows.watchedUptoRow.laid[1] Rows.watchedUptoRow.laid[2] (List.getElem_mem _) (List.getElem_mem _) (List.getElem_mem _) (by kernel_rfl) (by kernel_rfl) (by kernel_rfl) rfl rfl rfl
theorem watched_contract (H : Type) (enc : TypeId × Value → H) (W : World) (base : Nat) (args : Array Value) (ds gs : List (DataW H)) (before : List MemPlace)
  (hval : ∀ (j : Nat) t v, Tryz.f11.params[j]? = some t → args[j]? = some v → Value.okWide Tryz.prog W .any base t v)
  (hW : DataW.Whole enc Tryz.prog Tryz.f11.params.toList Rows.watchedSpec.vars false W args.toList ds gs before) (hL : laidMetH Tryz.prog Rows.watchedUptoRow.laid W) (hk : Rows.uptoSmall H (ds ++ gs) = true) :
  Calls Tryz.prog 11 args W fun e W' => ∃ v, e = .returned v ∧ Rows.watchedSpec.post enc Tryz.prog Tryz.f11 false true false false W args v W' := by
 have hW' := hW
 obtain ⟨p, q, hA0, hV, rfl, hfz, hnd⟩ := hW
 have hA : DataW.TrodAll enc Tryz.prog W 0 (fun _ => true) true Tryz.f11.params.toList args.toList ds p := hA0
 rw [Tryz.params11] at hA hval
 obtain ⟨v0, v1, d0, d1, p0, p1, rfl, rfl, rfl, h0, h1⟩ := trodAll_two hA
 obtain ⟨rfl, rfl⟩ := trodVars_none hV
 have h0k := h0
 have h1k := h1
 clear hA0
 simp only [List.append_nil] at hW'
 have hlt : ∀ x ∈ p0 ++ p1, x.block < W.heap.size := fun x hx => by simpa using hW'.lt x hx
 obtain ⟨s, rfl⟩ := okWide_string Tryz.underlying9 (hval 0 9 v0 rfl rfl)
 obtain ⟨a1, len, cap, rfl⟩ := okWide_slice Tryz.underlying33 (hval 1 33 v1 rfl rfl)
 obtain ⟨fuel, hf⟩ := h1
 obtain ⟨o, k, l, hv, hI, hr, hb⟩ := ints_open hf
 cases hv
 have hk2 : Rows.uptoBulkAll ([d0, d1] ++ ([] : List (DataW H))) ≤ 1048576 := of_decide_eq_true hk
 simp only [List.append_nil, Rows.uptoBulkAll] at hk2
 have hb' : l.length ≤ Rows.uptoBulk d1 := hb
 refine (Watched_any s l W a1 cap (watched_gv hL) hI hr (by omega)).mono fun e W' ⟨he, hb⟩ => ?_
 subst he
 exact ⟨_, rfl, ⟨_, _, _, [], _, [], hW', trodAll_mk1 (shut_bool Tryz.underlying4 true), trodAll_mk2 (Below.trod laidOut1 (by kernel_rfl) (of_decide_eq_true (by kernel_rfl)) h0k hb (fun x hx => hlt x (List.mem_append_left _ hx))) (Below.trod laidOut1 (by kernel_rfl) (of_decide_eq_true (by kernel_rfl)) h1k hb (fun x hx => hlt x (List.mem_append_right _ hx))), rfl, hb.frame _, fun h => by cases h⟩⟩
theorem watched_witness (os : Os) : ∃ w0 : World, w0.os = os ∧ (w0.forCall (fun _ _ => 0) ⟨#[], #[.string ⟨#[]⟩, .slice none 0 0], []⟩).variablesB Tryz.prog = true ∧
  (((w0.forCall (fun _ _ => 0) ⟨#[], #[.string ⟨#[]⟩, .slice none 0 0], []⟩).heap.toList.drop Tryz.prog.globals.size).take ((begin Tryz.prog (fun _ _ => 0) default).world.heap.size - Tryz.prog.globals.size) = (begin Tryz.prog (fun _ _ => 0) default).world.heap.toList.drop Tryz.prog.globals.size) ∧
  Input.okWideB Tryz.prog (w0.forCall (fun _ _ => 0) ⟨#[], #[.string ⟨#[]⟩, .slice none 0 0], []⟩) 11 ⟨#[], #[.string ⟨#[]⟩, .slice none 0 0], []⟩ = true ∧
  laidMet Tryz.prog Rows.watchedUptoRow.laid (w0.forCall (fun _ _ => 0) ⟨#[], #[.string ⟨#[]⟩, .slice none 0 0], []⟩).memory ∧
  (∀ (H : Type) (enc : TypeId × Value → H), ∃ places, DataW.whole enc Tryz.prog (w0.forCall (fun _ _ => 0) ⟨#[], #[.string ⟨#[]⟩, .slice none 0 0], []⟩).memory Tryz.f11.params.toList Rows.watchedSpec.vars false #[Value.string ⟨#[]⟩, Value.slice none 0 0].toList 8 = some ([.lit (.string []), .nil], [], places)) ∧
  (∀ (H : Type) (enc : TypeId × Value → H), (Rows.OpenSpec.upto Rows.watchedSpec).bare.sizedB enc Tryz.prog Tryz.f11 false (w0.forCall (fun _ _ => 0) ⟨#[], #[.string ⟨#[]⟩, .slice none 0 0], []⟩).memory #[.string ⟨#[]⟩, .slice none 0 0] 8 = true) :=
 ⟨{ World.holding Tryz.prog os ⟨#[], #[], []⟩ with heap := Rows.watchedUptoRow.laid.foldl (layH Tryz.prog) (World.holding Tryz.prog os ⟨#[], #[], []⟩).heap },
  rfl, by as_aux_lemma => kernel_rfl, by as_aux_lemma => kernel_rfl, by as_aux_lemma => kernel_rfl, laidMet_lin 8 (by as_aux_lemma => kernel_rfl) (by as_aux_lemma => kernel_rfl), fun H enc => ⟨[], by as_aux_lemma => kernel_rfl⟩, fun H enc => by as_aux_lemma => kernel_rfl⟩
theorem watched_lifted (os : Os) (started : os.Started) (H : Type) (enc : TypeId × Value → H) (F : Stop.Interp) :
  ReturnsInHanded {} Tryz.checked os 11 .any ((Rows.OpenSpec.upto Rows.watchedSpec).preRow enc Tryz.prog Tryz.f11 Rows.watchedUptoRow.domain false Rows.watchedUptoRow.laid) (((Rows.OpenSpec.upto Rows.watchedSpec).at F).post enc Tryz.prog Tryz.f11 false true false false) := by
 obtain ⟨w0, hos, hv, hr, hok, hlaid, hx, hsz⟩ := watched_witness os
 obtain ⟨places, hx⟩ := hx H enc
 refine returnsInHanded_of_row (C := Tryz.checked) (s := Rows.OpenSpec.upto Rows.watchedSpec) own1 started (by kernel_rfl) Tryz.func11
  (witness_row_at (enc := enc) (C := Tryz.checked) false w0 #[.string ⟨#[]⟩, .slice none 0 0] hos hv hr hok
   (OpenSpec.preRow_of_cond 8 hx (by kernel_rfl) (fun k hk => by cases hk; kernel_rfl) (hsz H enc) hlaid)) ?_
 intro W base args ds gs before hval hW _ hcond hZ hL _ _
 exact watched_contract H enc W base args ds gs before hval hW hL (hcond _ rfl)
set_option maxHeartbeats 20000000 in
theorem watched_closed : joinedFacts Tryz.pinned.checked.prog 11 Tryz.f11 (Rows.OpenSpec.upto Rows.watchedSpec).bare Rows.watchedUptoRow = true := by
 unfold joinedFacts
 simp only [Bool.and_eq_true]
 repeat' (refine And.intro ?_ ?_)
 all_goals (as_aux_lemma => kernel_rfl)
theorem watched_said : Rows.WatchedUptoSaid :=
 OpenClaim.holds_of_cond 11 Tryz.f11 rfl rfl rfl rfl rfl rfl rfl ⟨rfl, rfl, rfl, rfl, rfl⟩ rfl rfl rfl rfl rfl (by as_aux_lemma => kernel_rfl) Tryz.func11 watched_closed
  (of_decide_eq_true (by as_aux_lemma => kernel_rfl)) (by unfold Func.isWrapper; first | (rw [if_pos (by decide +kernel)]; kernel_rfl) | (rw [if_neg (by decide +kernel)]; exact ⟨rfl, rfl⟩))
  (fun os started H enc _ F => by rw [OpenClaim.pre_eq_preRow]; exact watched_lifted os started H enc F)
theorem watched_plain (f : FuncId) (fn : Func) (hf : Tryz.pinned.checked.prog.funcNamed Rows.watchedUptoRow.func = some f) (hfn : Tryz.pinned.checked.prog.funcs[f]? = some fn) :
  false = Tryz.pinned.checked.prog.looks [] ∧ ∀ (j : Nat) t, fn.params[j]? = some t → Tryz.pinned.checked.prog.wantsStandIn t = false := by
 obtain rfl : f = 11 := Option.some.inj ((show Tryz.prog.funcNamed Rows.watchedUptoRow.func = some 11 by kernel_rfl).symm.trans hf) |>.symm
 obtain rfl : fn = Tryz.f11 := (Option.some.inj (Tryz.func11.symm.trans hfn)).symm
 refine ⟨by kernel_rfl, fun j t ht => ?_⟩
 rw [Tryz.params11] at ht
 have ht' : t = 9 ∨ t = 33 := by simpa using Array.mem_of_getElem? ht
 rcases ht' with rfl | rfl
 ·exact (show Tryz.prog.wantsStandIn 9 = false by kernel_rfl)
 ·exact (show Tryz.prog.wantsStandIn 33 = false by kernel_rfl)
theorem watchedUpto : Rows.WatchedUptoCardSaid :=
 Claim7.holds_tied_plain_at .later [] _ _ _ _ watched_said (fun _ h => by cases h) (by kernel_rfl) (fun _ h => by cases h) watchedUpto_row_tie rfl ⟨rfl, rfl⟩ (by kernel_rfl) rfl watched_plain (by kernel_rfl)
end Go.Proofs.YtidakhhekofkoaaGreatDoor
