/- The row of Least, lifted, and its card, in the second form: for every text and every list of numbers (of bulk 1048576 at most) Least answers true. -/
import Derived.Test.YtidakhhekofkoaaGreatDoorU51
import Derived.Test.YtidakhhekofkoaaGreatDoorU50
set_option linter.unusedSimpArgs false
set_option maxRecDepth 100000
namespace Go.Proofs.YtidakhhekofkoaaGreatDoor
open Go.ChangeShapes Go.WideShapes Go.ChangeAt Go.RowKit Go.Deep
theorem least_gv {W : World} (h : laidMetH Tryz.prog Rows.leastUptoRow.laid W) : GVF W :=
 gv_of (laid := Rows.leastUptoRow.laid) h Rows.leastUptoRow.laid[0] Rows.leastUptoRow.laid[1] Rows.leastUptoRow.laid[2] (List.getElem_mem _) (List.getElem_mem _) (List.getElem_mem _) (by kernel_rfl) (by kernel_rfl) (by kernel_rfl) rfl rfl rfl
theorem cellsI1 : Tryz.prog.cellsOf 3 = 1 := by kernel_rfl
theorem bulk_one {H : Type} (d : DataW H) : 1 ≤ Rows.uptoBulk d := by
 cases d with
 | lit l => cases l <;> simp [Rows.uptoBulk]
 | nil => simp [Rows.uptoBulk]
 | ptr d => simp [Rows.uptoBulk]
 | slice elems spare => simp [Rows.uptoBulk]
 | agg parts => simp [Rows.uptoBulk]
 | iface t d => simp [Rows.uptoBulk]
 | map entries => simp [Rows.uptoBulk]
 | held h => simp [Rows.uptoBulk]
theorem bulk_len {H : Type} (l : List (DataW H)) : l.length ≤ Rows.uptoBulkAll l := by
 induction l with
 | nil => simp [Rows.uptoBulkAll]
 | cons x r ih => have := bulk_one x; simp only [Rows.uptoBulkAll, List.length_cons]; omega
theorem ints_open {H : Type} {enc : TypeId × Value → H} {w : World} {fuel : Nat} {v : Value} {x : DataW H × List MemPlace} (h : DataW.trod enc Tryz.prog w 0 (fun _ => true) true fuel 33 [v] = some x) :
  ∃ (o : Option Addr) (k : Nat) (l : List Int), v = .slice o l.length k ∧ InS w o l ∧ (∀ y ∈ l, -9223372036854775808 ≤ y ∧ y ≤ 9223372036854775807) ∧ l.length ≤ Rows.uptoBulk x.1 := by
 rcases open_ints Tryz.underlying33 Tryz.underlying3 cellsI1 h with ⟨hc, hx⟩ | ⟨a, len, cap, zs, hc, _, hl, hm, hz, hx, hel, hwf⟩
 ·cases hc
  exact ⟨none, 0, [], rfl, fun j x h => by simp at h, fun y hy => (List.not_mem_nil hy).elim, Nat.zero_le _⟩
 ·cases hc
  simp only [if_true] at hz
  have hlz : len ≤ zs.length := by omega
  refine ⟨some a, cap, zs.take len, by rw [List.length_take, Nat.min_eq_left hlz], fun j y hj => ?_, fun y hy => ?_, ?_⟩
  ·have hjl : j < len := by
    have := (List.getElem?_eq_some_iff.1 hj).1
    rw [List.length_take] at this
    omega
   have hcell := hel j (by omega)
   obtain ⟨b, off, spot⟩ := a
   have hspot : spot = none := by simpa [Addr.add] using World.cell?_spot (hel 0 (by omega))
   subst hspot
   rw [Addr.add_lit] at hcell
   refine ⟨b, off, rfl, block_lt_of_cell hcell, ?_⟩
   rw [hcell]
   rw [List.getElem?_take_of_lt hjl] at hj
   rw [List.getD_eq_getElem?_getD, hj]
   rfl
  ·have h2 := hwf y (List.mem_of_mem_take hy)
   rw [Lit.wf_int_iff] at h2
   have h3 : IntKind.i64.min = -9223372036854775808 := by decide
   have h4 : IntKind.i64.max = 9223372036854775807 := by decide
   rw [h3, h4] at h2
   exact h2
  ·rw [hx]
   have h1 := bulk_len (lits (H := H) .i64 (zs.take len))
   have h2 : (lits (H := H) .i64 (zs.take len)).length = (zs.take len).length := by unfold lits; rw [List.length_map]
   simp only [Rows.uptoBulk]
   omega
theorem least_contract (H : Type) (enc : TypeId × Value → H) (W : World) (base : Nat) (args : Array Value) (ds gs : List (DataW H)) (before : List MemPlace)
  (hval : ∀ (j : Nat) t v, Tryz.f7.params[j]? = some t → args[j]? = some v → Value.okWide Tryz.prog W .any base t v)
  (hW : DataW.Whole enc Tryz.prog Tryz.f7.params.toList Rows.leastSpec.vars false W args.toList ds gs before) (hL : laidMetH Tryz.prog Rows.leastUptoRow.laid W) (hk : Rows.uptoSmall H (ds ++ gs) = true) :
  Calls Tryz.prog 7 args W fun e W' => ∃ v, e = .returned v ∧ Rows.leastSpec.post enc Tryz.prog Tryz.f7 false true false false W args v W' := by
 have hW' := hW
 obtain ⟨p, q, hA0, hV, rfl, hfz, hnd⟩ := hW
 have hA : DataW.TrodAll enc Tryz.prog W 0 (fun _ => true) true Tryz.f7.params.toList args.toList ds p := hA0
 rw [Tryz.params7] at hA hval
 obtain ⟨v0, v1, d0, d1, p0, p1, rfl, rfl, rfl, h0, h1⟩ := trodAll_two hA
 obtain ⟨rfl, rfl⟩ := trodVars_none hV
 have h0k := h0
 have h1k := h1
 clear hA0
 simp only [List.append_nil] at hW'
 have hlt : ∀ x ∈ p0 ++ p1, x.block < W.heap.size := fun x hx => by simpa using hW'.lt x hx
 obtain ⟨s, rfl⟩ := okWide_string Tryz.underlying9 (hval 0 9 v0 rfl rfl)
 obtain ⟨a1, len, cap, rfl⟩ := okWide_slice Tryz.underlying33 (hval 1 33 v1 rfl rfl)
 obtain ⟨fuel, hf⟩ := h1
 obtain ⟨o, k, l, hv, hI, hr, hb⟩ := ints_open hf
 cases hv
 have hk2 : Rows.uptoBulkAll ([d0, d1] ++ ([] : List (DataW H))) ≤ 1048576 := of_decide_eq_true hk
 simp only [List.append_nil, Rows.uptoBulkAll] at hk2
 have hb' : l.length ≤ Rows.uptoBulk d1 := hb
 refine (Least_any s l W a1 cap (least_gv hL) hI hr (by omega)).mono fun e W' ⟨he, hb⟩ => ?_
 subst he
 exact ⟨_, rfl, ⟨_, _, _, [], _, [], hW', trodAll_mk1 (shut_bool Tryz.underlying4 true), trodAll_mk2 (Below.trod laidOut1 (by kernel_rfl) (of_decide_eq_true (by kernel_rfl)) h0k hb (fun x hx => hlt x (List.mem_append_left _ hx))) (Below.trod laidOut1 (by kernel_rfl) (of_decide_eq_true (by kernel_rfl)) h1k hb (fun x hx => hlt x (List.mem_append_right _ hx))), rfl, hb.frame _, fun h => by cases h⟩⟩
theorem least_witness (os : Os) : ∃ w0 : World, w0.os = os ∧ (w0.forCall (fun _ _ => 0) ⟨#[], #[.string ⟨#[]⟩, .slice none 0 0], []⟩).variablesB Tryz.prog = true ∧
  (((w0.forCall (fun _ _ => 0) ⟨#[], #[.string ⟨#[]⟩, .slice none 0 0], []⟩).heap.toList.drop Tryz.prog.globals.size).take ((begin Tryz.prog (fun _ _ => 0) default).world.heap.size - Tryz.prog.globals.size) = (begin Tryz.prog (fun _ _ => 0) default).world.heap.toList.drop Tryz.prog.globals.size) ∧
  Input.okWideB Tryz.prog (w0.forCall (fun _ _ => 0) ⟨#[], #[.string ⟨#[]⟩, .slice none 0 0], []⟩) 7 ⟨#[], #[.string ⟨#[]⟩, .slice none 0 0], []⟩ = true ∧
  laidMet Tryz.prog Rows.leastUptoRow.laid (w0.forCall (fun _ _ => 0) ⟨#[], #[.string ⟨#[]⟩, .slice none 0 0], []⟩).memory ∧
  (∀ (H : Type) (enc : TypeId × Value → H), ∃ places, DataW.whole enc Tryz.prog (w0.forCall (fun _ _ => 0) ⟨#[], #[.string ⟨#[]⟩, .slice none 0 0], []⟩).memory Tryz.f7.params.toList Rows.leastSpec.vars false #[Value.string ⟨#[]⟩, Value.slice none 0 0].toList 8 = some ([.lit (.string []), .nil], [], places)) ∧
  (∀ (H : Type) (enc : TypeId × Value → H), (Rows.OpenSpec.upto Rows.leastSpec).bare.sizedB enc Tryz.prog Tryz.f7 false (w0.forCall (fun _ _ => 0) ⟨#[], #[.string ⟨#[]⟩, .slice none 0 0], []⟩).memory #[.string ⟨#[]⟩, .slice none 0 0] 8 = true) :=
 ⟨{ World.holding Tryz.prog os ⟨#[], #[], []⟩ with heap := Rows.leastUptoRow.laid.foldl (layH Tryz.prog) (World.holding Tryz.prog os ⟨#[], #[], []⟩).heap },
  rfl, by as_aux_lemma => kernel_rfl, by as_aux_lemma => kernel_rfl, by as_aux_lemma => kernel_rfl, laidMet_lin 8 (by as_aux_lemma => kernel_rfl) (by as_aux_lemma => kernel_rfl), fun H enc => ⟨[], by as_aux_lemma => kernel_rfl⟩, fun H enc => by as_aux_lemma => kernel_rfl⟩
theorem least_lifted (os : Os) (started : os.Started) (H : Type) (enc : TypeId × Value → H) (F : Stop.Interp) :
  ReturnsInHanded {} Tryz.checked os 7 .any ((Rows.OpenSpec.upto Rows.leastSpec).preRow enc Tryz.prog Tryz.f7 Rows.leastUptoRow.domain false Rows.leastUptoRow.laid) (((Rows.OpenSpec.upto Rows.leastSpec).at F).post enc Tryz.prog Tryz.f7 false true false false) := by
 obtain ⟨w0, hos, hv, hr, hok, hlaid, hx, hsz⟩ := least_witness os
 obtain ⟨places, hx⟩ := hx H enc
 refine returnsInHanded_of_row (C := Tryz.checked) (s := Rows.OpenSpec.upto Rows.leastSpec) own1 started (by kernel_rfl) Tryz.func7
  (witness_row_at (enc := enc) (C := Tryz.checked) false w0 #[.string ⟨#[]⟩, .slice none 0 0] hos hv hr hok
   (OpenSpec.preRow_of_cond 8 hx (by kernel_rfl) (fun k hk => by cases hk; kernel_rfl) (hsz H enc) hlaid)) ?_
 intro W base args ds gs before hval hW _ hcond hZ hL _ _
 exact least_contract H enc W base args ds gs before hval hW hL (hcond _ rfl)
set_option maxHeartbeats 20000000 in
theorem least_closed : joinedFacts Tryz.pinned.checked.prog 7 Tryz.f7 (Rows.OpenSpec.upto Rows.leastSpec).bare Rows.leastUptoRow = true := by
 unfold joinedFacts
 simp only [Bool.and_eq_true]
 repeat' (refine And.intro ?_ ?_)
 all_goals (as_aux_lemma => kernel_rfl)
theorem least_said : Rows.LeastUptoSaid :=
 OpenClaim.holds_of_cond 7 Tryz.f7 rfl rfl rfl rfl rfl rfl rfl ⟨rfl, rfl, rfl, rfl, rfl⟩ rfl rfl rfl rfl rfl (by as_aux_lemma => kernel_rfl) Tryz.func7 least_closed
  (of_decide_eq_true (by as_aux_lemma => kernel_rfl)) (by unfold Func.isWrapper; first | (rw [if_pos (by decide +kernel)]; kernel_rfl) | (rw [if_neg (by decide +kernel)]; exact ⟨rfl, rfl⟩))
  (fun os started H enc _ F => by rw [OpenClaim.pre_eq_preRow]; exact least_lifted os started H enc F)
theorem least_plain (f : FuncId) (fn : Func) (hf : Tryz.pinned.checked.prog.funcNamed Rows.leastUptoRow.func = some f) (hfn : Tryz.pinned.checked.prog.funcs[f]? = some fn) :
  false = Tryz.pinned.checked.prog.looks [] ∧ ∀ (j : Nat) t, fn.params[j]? = some t → Tryz.pinned.checked.prog.wantsStandIn t = false := by
 obtain rfl : f = 7 := Option.some.inj ((show Tryz.prog.funcNamed Rows.leastUptoRow.func = some 7 by kernel_rfl).symm.trans hf) |>.symm
 obtain rfl : fn = Tryz.f7 := (Option.some.inj (Tryz.func7.symm.trans hfn)).symm
 refine ⟨by kernel_rfl, fun j t ht => ?_⟩
 rw [Tryz.params7] at ht
 have ht' : t = 9 ∨ t = 33 := by simpa using Array.mem_of_getElem? ht
 rcases ht' with rfl | rfl
 ·exact (show Tryz.prog.wantsStandIn 9 = false by kernel_rfl)
 ·exact (show Tryz.prog.wantsStandIn 33 = false by kernel_rfl)
theorem leastUpto : Rows.LeastUptoCardSaid :=
 Claim7.holds_tied_plain_at .later [] _ _ _ _ least_said (fun _ h => by cases h) (by kernel_rfl) (fun _ h => by cases h) leastUpto_row_tie rfl ⟨rfl, rfl⟩ (by kernel_rfl) rfl least_plain (by kernel_rfl)
end Go.Proofs.YtidakhhekofkoaaGreatDoor
