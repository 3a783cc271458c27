/- The program's checker: contains, tell, checkLength, checkKnown. -/
import Derived.Test.YtidakhhekofkoaaGreatDoorX25
import Derived.BigQuiet
import Derived.Test.YtidakhhekofkoaaGreatDoorX19
set_option linter.unusedSimpArgs false
open List renaming setIfInBounds_toArray → zA, set_cons_zero → zB, set_cons_succ → zC, getElem_toArray → zD, getElem_cons_succ → zE, getElem_cons_zero → zF
namespace Go.Proofs.YtidakhhekofkoaaGreatDoor
open Go.RowKit Go.Deep
def strC (A : List Tk) : List Value := A.map (fun t => .string t.s)
theorem strC_snoc (A : List Tk) (t : Tk) : strC (A ++ [t]) = strC A ++ [.string t.s] := by simp [strC]
theorem strC_at {A : List Tk} {k : Nat} {t : Tk} {r : List Tk} (h : A.drop k = t :: r) : (strC A)[k]? = some (.string t.s) := by
 unfold strC
 rw [List.getElem?_map]
 have : A[k]? = some t := by
  have := congrArg (fun l => l[0]?) h
  simpa using this
 rw [this]; rfl
theorem row_str {w : World} {B : Nat} {v : Value} {A : List Tk} (h : w.ownsRow B 9 1 v A.length (strC A)) : (v = .slice none 0 0 ∧ A = []) ∨ ∃ g cap, v = .slice (some ⟨g, 0, none⟩) A.length cap ∧ g < w.heap.size ∧ A.length ≤ cap ∧ cap ≤ maxLen ∧ ∀ k t r, A.drop k = t :: r → w.cell? ⟨g, k, none⟩ = some (.string t.s) := by
 obtain ⟨_, h2 | ⟨g, cap, cur, hv, _, hh, hle, hcap, _, htake⟩⟩ := h
 ·exact Or.inl ⟨h2.1, List.length_eq_zero_iff.1 h2.2⟩
 ·refine Or.inr ⟨g, cap, hv, lt_of_blk hh, hle, hcap, fun k t r hk => ?_⟩
  have hj : k < A.length := by
   rcases Nat.lt_or_ge k A.length with h | h
   ·exact h
   ·rw [List.drop_eq_nil_of_le h] at hk; cases hk
  have := strC_at hk
  rw [← htake, List.getElem?_take, if_pos (by omega)] at this
  rw [cell_of_blk hh, ← Array.getElem?_toList]
  exact this
theorem hasN_at {A : List Tk} {s : ByteArray} {k : Nat} {t : Tk} {r : List Tk} (h : A.drop k = t :: r) : hasN (A.drop k) s = if t.s.toList = s.toList then true else hasN (A.drop (k + 1)) s := by
 rw [h, dropTl h, hasN]
set_option maxHeartbeats 1000000 in
theorem index_any (A : List Tk) (s : ByteArray) (v : Value) (B : Nat) (w : World) (h : w.ownsRow B 9 1 v A.length (strC A)) :
  Calls Tryz.prog 123 #[v, .string s] w fun e w' => ∃ z : Int, e = .returned (.int .i64 z) ∧ decide (0 ≤ z) = hasN A s ∧ w' = w := by
 rcases row_str h with ⟨rfl, rfl⟩ | ⟨g, cap, rfl, hg, hle, hcap, hc⟩
 ·clear h
  go_enter Tryz.func123, Tryz.ntmps123
  go_wp2_with fail
  go_loop [8] (fun x => x = .int .i64 0) (fun x => 0)
  case atStart => rfl
  case round =>
   subst hrel
   go_wp2_with fail
   go_ret
   exact ⟨-1, rfl, rfl, rfl⟩
 ·unfold maxLen at hcap
  have HC := hide hc
  clear h hc
  go_enter Tryz.func123, Tryz.ntmps123
  go_wp2_with fail
  go_loop [8] (fun x => ∃ k : Nat, k ≤ A.length ∧ x = .int .i64 (k : Int) ∧ Hid (hasN A s = hasN (A.drop k) s)) (fun x => A.length - (intOf x).toNat)
  case atStart => exact ⟨0, Nat.zero_le _, rfl, rfl⟩
  case round =>
   obtain ⟨k, hk, rfl, H⟩ := hrel
   by_cases hlt : k < A.length
   ·obtain ⟨t, r, ht⟩ : ∃ t r, A.drop k = t :: r := by
     cases hd : A.drop k with
     | nil => have := congrArg List.length hd; simp at this; omega
     | cons t r => exact ⟨t, r, rfl⟩
    have hc := unhide HC k t r ht
    have HA := hide (hasN_at (s := s) ht)
    clear ht
    go_wp2_with fail
    ·have he : t.s.toList = s.toList := by simp_all
     go_ret
     exact ⟨k, rfl, by rw [H.out, unhide HA, if_pos he]; simp, rfl⟩
    ·have he : ¬ t.s.toList = s.toList := by intro e; simp_all
     go_round
     case rel => exact ⟨k + 1, by omega, by go_num, by show _ = _; rw [H.out, unhide HA, if_neg he]⟩
     case measure => simp [intOf]; omega
   ·go_wp2_with fail
    go_ret
    refine ⟨-1, rfl, ?_, rfl⟩
    rw [H.out, List.drop_eq_nil_of_le (by omega)]; rfl
set_option maxHeartbeats 1000000 in
theorem contains_any (A : List Tk) (s : ByteArray) (v : Value) (B : Nat) (w : World) (h : w.ownsRow B 9 1 v A.length (strC A)) :
  Calls Tryz.prog 77 #[v, .string s] w fun e w' => e = .returned (.bool (hasN A s)) ∧ w' = w := by
 have HI := hide (index_any A s v B w h)
 clear h
 go_enter Tryz.func77, Tryz.ntmps77
 go_wp2_with fail
 refine (unhide HI).mono ?_
 rintro e w1 ⟨z, rfl, hz, rfl⟩
 have HZ := hide hz
 clear hz
 go_wp2_with fail
 go_ret
 exact ⟨ret_bool (unhide HZ), rfl⟩
structure CK (w : World) (cb B : Nat) (A : List Tk) (x : Nat × Nat) : Prop where
 blk : ∃ ao an ac, w.heap[cb]? = some (.cells #[.slice ao an ac, .int .i64 x.1, .int .i64 x.2] 198 (0, 0)) ∧ w.ownsRow B 9 1 (.slice ao an ac) A.length (strC A)
 hB : B ≤ cb
theorem CK.lt {w : World} {cb B : Nat} {A : List Tk} {x : Nat × Nat} (h : CK w cb B A x) : cb < w.heap.size := by
 obtain ⟨_, _, _, h1, _⟩ := h.blk; exact lt_of_blk h1
theorem CK.later {w w' : World} {cb B : Nat} {A : List Tk} {x : Nat × Nat} (h : CK w cb B A x) (hb : Below w.heap.size w w') : CK w' cb B A x := by
 obtain ⟨ao, an, ac, h1, h2⟩ := h.blk
 exact ⟨⟨ao, an, ac, (hb.block _ (lt_of_blk h1)).trans h1, owns_later h2 hb⟩, h.hB⟩
theorem CK.alloc {w : World} {cb B : Nat} {A : List Tk} {x : Nat × Nat} (h : CK w cb B A x) (o : Obj) : CK (w.alloc o) cb B A x := h.later ((Below.refl _ _).alloc (Nat.le_refl _) _)
structure CF (cb B : Nat) (w w' : World) : Prop where
 os : w'.os = w.os
 tape : w'.tape = w.tape
 output : w'.output = w.output
 size : w.heap.size ≤ w'.heap.size
 keep : ∀ k, k < w.heap.size → k ≠ cb → (k < B ∨ ¬ TyAt w k 9) → w'.heap[k]? = w.heap[k]?
theorem CF.refl (cb B : Nat) (w : World) : CF cb B w w := ⟨rfl, rfl, rfl, Nat.le_refl _, fun _ _ _ _ => rfl⟩
theorem CF.trans {cb B : Nat} {w w1 w2 : World} (h : CF cb B w w1) (h' : CF cb B w1 w2) : CF cb B w w2 :=
 ⟨h'.os.trans h.os, h'.tape.trans h.tape, h'.output.trans h.output, Nat.le_trans h.size h'.size, fun k hk hp hc => by
  have e := h.keep k hk hp hc
  refine (h'.keep k (Nat.lt_of_lt_of_le hk h.size) hp ?_).trans e
  rcases hc with hc | hc
  ·exact Or.inl hc
  ·refine Or.inr ?_
   rintro ⟨c, m, hh⟩
   exact hc ⟨c, m, by rw [← e]; exact hh⟩⟩
theorem CF.grown {cb B : Nat} {w w' : World} (h : w.grownBy w' (some cb)) : CF cb B w w' := ⟨h.os, h.tape, h.output, h.size, fun k hk hp _ => h.block k hk (by intro e; cases e; exact hp rfl)⟩
theorem CF.below {cb B : Nat} {w w' : World} (h : Below w.heap.size w w') : CF cb B w w' := CF.grown (grown_below h _)
theorem CF.row {cb B : Nat} {w w' : World} {v : Value} {n : Nat} {xs : List Value} (hown : w.ownsRow B 9 1 v n xs) (h : w.grownBy w' v.ownBlock) : CF cb B w w' :=
 ⟨h.os, h.tape, h.output, h.size, fun k hk _ hc => h.block k hk (by
  intro e
  have := own_is hown e.symm
  rcases hc with hc | hc
  ·omega
  ·exact hc this.2)⟩
theorem CF.low {cb B : Nat} {w w' : World} (h : CF cb B w w') (hc : B ≤ cb) (hB : B ≤ w.heap.size) : Below B w w' := ⟨h.os, h.tape, h.output, h.size, fun k hk => h.keep k (by omega) (by omega) (Or.inl hk)⟩
theorem CK.told {w w' : World} {cb B : Nat} {A : List Tk} {x y : Nat × Nat} (h : CK w cb B A x) (hg : w.grownBy w' (some cb)) (hb : ∀ ao an ac, w.heap[cb]? = some (.cells #[.slice ao an ac, .int .i64 x.1, .int .i64 x.2] 198 (0, 0)) → w'.heap[cb]? = some (.cells #[.slice ao an ac, .int .i64 y.1, .int .i64 y.2] 198 (0, 0))) : CK w' cb B A y := by
 obtain ⟨ao, an, ac, h1, h2⟩ := h.blk
 exact ⟨⟨ao, an, ac, hb _ _ _ h1, owns_keep h2 hg (Or.inr (fun e => own_ty h2 e h1 (by decide)))⟩, h.hB⟩
set_option maxHeartbeats 1000000 in
theorem tell_any (w : World) (cb B : Nat) (A : List Tk) (x : Nat × Nat) (p e : Nat) (h : CK w cb B A x) :
  Calls Tryz.prog 158 #[.pointer (some ⟨cb, 0, none⟩), .int .i64 (p : Int), .int .i64 (e : Int)] w fun r w' => r = .returned (.tuple #[]) ∧ CK w' cb B A (tell x p e) ∧ w.grownBy w' (some cb) := by
 obtain ⟨ao, an, ac, h1, _⟩ := h.blk
 have bc := fun o => cell_of_blk h1 o
 have bf := fun o => frozen_of_blk h1 o
 have hlt := h.lt
 have HC := hide h
 clear h h1
 by_cases h0 : x.2 = 0
 ·have e0 : ((x.2 : Int) == 0) = true := beqT (c := 0) h0
  have HT : Hid (tell x p e = (p, e)) := if_pos (Or.inl h0)
  clear h0
  go_enter Tryz.func158, Tryz.ntmps158
  go_wp2_with fail
  go_end0
  rw [unhide HT]
  exact ⟨rfl, (unhide HC).told ((grown_set _ _ _ _).trans (grown_set _ _ _ _)) (fun _ _ _ h => blk_set (blk_set h 1 _) 2 _), (grown_set _ _ _ _).trans (grown_set _ _ _ _)⟩
 ·have e0 : ((x.2 : Int) == 0) = false := beqF (c := 0) h0
  by_cases hp : p < x.1
  ·have hp' : (p : Int) < (x.1 : Int) := by omega
   have HT : Hid (tell x p e = (p, e)) := if_pos (Or.inr hp)
   clear h0 hp
   go_enter Tryz.func158, Tryz.ntmps158
   go_wp2_with fail
   go_end0
   rw [unhide HT]
   exact ⟨rfl, (unhide HC).told ((grown_set _ _ _ _).trans (grown_set _ _ _ _)) (fun _ _ _ h => blk_set (blk_set h 1 _) 2 _), (grown_set _ _ _ _).trans (grown_set _ _ _ _)⟩
  ·have hp' : ¬ (p : Int) < (x.1 : Int) := by omega
   have HT : Hid (tell x p e = x) := if_neg (by omega)
   clear h0 hp
   go_enter Tryz.func158, Tryz.ntmps158
   go_wp2_with fail
   go_end0
   rw [unhide HT]
   exact ⟨rfl, unhide HC, World.grownBy.refl _ _⟩
theorem tells_one (x : Nat × Nat) (p e : Nat) : tells x [(p, e)] = tell x p e := rfl
theorem tells_nil (x : Nat × Nat) : tells x [] = x := rfl
set_option maxHeartbeats 1000000 in
theorem checkLength_any (w : World) (cb B : Nat) (A : List Tk) (x : Nat × Nat) (t : Tk) (h : CK w cb B A x) :
  Calls Tryz.prog 157 #[.pointer (some ⟨cb, 0, none⟩), tkP t] w fun r w' => r = .returned (.tuple #[]) ∧ CK w' cb B A (tells x (fLong t)) ∧ CF cb B w w' := by
 have HC := hide h
 clear h
 unfold tkP
 by_cases hl : 8 < t.s.size
 ·have hl' : (8 : Int) < (t.s.size : Int) := by omega
  have HT : Hid (tells x (fLong t) = tell x t.p 1) := by show _ = _; unfold fLong; rw [if_pos hl]; rfl
  clear hl
  go_enter Tryz.func157, Tryz.ntmps157
  go_wp2_with fail
  refine (tell_any _ cb B A x t.p 1 ((unhide HC).alloc _)).mono ?_
  rintro e w1 ⟨rfl, hc1, hg1⟩
  have HC1 := hide hc1
  have HG1 := hide hg1
  clear hc1 hg1
  go_wp2_with fail
  go_end0
  rw [unhide HT]
  exact ⟨rfl, unhide HC1, (CF.below ((Below.refl _ _).alloc (Nat.le_refl _) _)).trans (CF.grown (unhide HG1))⟩
 ·have hl' : ¬ (8 : Int) < (t.s.size : Int) := by omega
  have HT : Hid (tells x (fLong t) = x) := by show _ = _; unfold fLong; rw [if_neg hl]; rfl
  clear hl
  go_enter Tryz.func157, Tryz.ntmps157
  go_wp2_with fail
  go_end0
  rw [unhide HT]
  exact ⟨rfl, (unhide HC).alloc _, CF.below ((Below.refl _ _).alloc (Nat.le_refl _) _)⟩
theorem box_cf {w w' : World} {cb B b ty : Nat} {c : Array Value} {m : Nat × Nat} (hf : CF cb B w w') (hb : w.heap[b]? = some (.cells c ty m)) (h1 : ty ≠ 9) (h2 : b ≠ cb) : w'.heap[b]? = some (.cells c ty m) :=
 (hf.keep b (lt_of_blk hb) h2 (Or.inr (ty_ne hb h1))).trans hb
theorem Tryz.infoStr : (Tryz.prog.info? 9).map (fun i => (i.zero, i.size, i.bytes)) = some (some (.string ⟨#[]⟩), 1, 16) := by kernel_rfl
set_option maxHeartbeats 2000000 in
theorem checkKnown_any (w : World) (cb B : Nat) (A : List Tk) (x : Nat × Nat) (t : Tk) (h : CK w cb B A x) :
  Calls Tryz.prog 159 #[.pointer (some ⟨cb, 0, none⟩), tkP t] w fun r w' => r = .returned (.tuple #[]) ∧ CK w' cb B A (tells x (fName A t.s t.p)) ∧ CF cb B w w' := by
 have HC := hide h
 have hcl := h.lt
 clear h
 unfold tkP
 go_enter Tryz.func159, Tryz.ntmps159
 go_wp2_with fail
 refine (checkLength_any _ cb B A x t ((unhide HC).alloc _)).mono ?_
 rintro e w1 ⟨rfl, hc1, hf1⟩
 have hbx := box_cf hf1 (blk_alloc w (.cells #[.int .i64 t.k, .string t.s, .int .i64 t.p] 201)) (by decide) (by omega)
 have xc := fun o => cell_of_blk hbx o
 have hxl : w.heap.size < w1.heap.size := lt_of_blk hbx
 obtain ⟨ao, an, ac, hb1, ho1⟩ := hc1.blk
 have bc := fun o => cell_of_blk hb1 o
 have hcl1 := hc1.lt
 have HC1 := hide hc1
 have HO1 := hide ho1
 have HF1 := hide ((CF.below (cb := cb) (B := B) ((Below.refl w.heap.size w).alloc (Nat.le_refl _) _)).trans hf1)
 clear hc1 hf1 hbx hb1 ho1
 go_wp2_with fail
 go_quiet (first | (go_at_call 77; refine Calls.quiet_of_same (contains_any A t.s (.slice ao an ac) B _ (owns_later (unhide HO1) (bdn _ _)))))
 cases hh : hasN A t.s with
 | true =>
  have HT : Hid (tells (tells x (fLong t)) [] = tells x (fName A t.s t.p)) := by show _ = _; unfold fName fLong; rw [hh, tells_append]; rfl
  clear hh
  go_wp2_with fail
  go_end0
  rw [← unhide HT]
  exact ⟨rfl, (unhide HC1).later (bdn _ _), (unhide HF1).trans (CF.below (bdn _ _))⟩
 | false =>
  have HT : Hid (tell (tells x (fLong t)) t.p 3 = tells x (fName A t.s t.p)) := by show _ = _; unfold fName fLong; rw [hh, tells_append]; rfl
  clear hh
  go_wp2_with fail
  refine (tell_any _ cb B A _ t.p 3 ((unhide HC1).later (bdn _ _))).mono ?_
  rintro e w2 ⟨rfl, hc2, hg2⟩
  have HC2 := hide hc2
  have HG2 := hide hg2
  clear hc2 hg2
  go_wp2_with fail
  go_end0
  rw [← unhide HT]
  exact ⟨rfl, unhide HC2, ((unhide HF1).trans (CF.below (bdn _ _))).trans (CF.grown (unhide HG2))⟩
set_option maxHeartbeats 4000000 in
set_option maxRecDepth 100000 in
theorem checkAct_any (w : World) (cb B : Nat) (A : List Tk) (x : Nat × Nat) (i : Nat) (t : Tk) (h : CK w cb B A x) (hA : A.length ≤ 401) (hBw : B ≤ w.heap.size) :
  Calls Tryz.prog 115 #[.pointer (some ⟨cb, 0, none⟩), .int .i64 (i : Int), tkP t] w fun r w' => r = .returned (.tuple #[]) ∧ CK w' cb B (A ++ [t]) (tells x (pAct A i t)) ∧ CF cb B w w' := by
 obtain ⟨i0, hi, hz0, hz1, hz2⟩ := info_parts Tryz.infoStr
 have HC := hide h
 have hcl := h.lt
 have hBc := h.hB
 clear h
 unfold tkP
 go_enter Tryz.func115, Tryz.ntmps115
 go_wp2_with fail
 refine (checkLength_any _ cb B A x t ((unhide HC).alloc _)).mono ?_
 rintro e w1 ⟨rfl, hc1, hf1⟩
 have hbx := box_cf hf1 (blk_alloc w (.cells #[.int .i64 t.k, .string t.s, .int .i64 t.p] 201)) (by decide) (by omega)
 have HBX := hide hbx
 have xc := fun o => cell_of_blk hbx o
 have hxl : w.heap.size < w1.heap.size := lt_of_blk hbx
 obtain ⟨ao, an, ac, hb1, ho1⟩ := hc1.blk
 have bc := fun o => cell_of_blk hb1 o
 have hcl1 := hc1.lt
 have HC1 := hide hc1
 have HO1 := hide ho1
 have HF1 := hide ((CF.below (cb := cb) (B := B) ((Below.refl w.heap.size w).alloc (Nat.le_refl _) _)).trans hf1)
 clear hc1 hf1 hbx hb1 ho1
 go_wp2_with fail
 go_quiet (first | (go_at_call 77; refine Calls.quiet_of_same (contains_any A t.s (.slice ao an ac) B _ (owns_later (unhide HO1) (bdn _ _)))))
 clear bc xc
 go_upto_if 15 with fail
 go_cut [] (fun wc => CK wc cb B A (tells (tells x (fLong t)) (if hasN A t.s = true then [(t.p, 3)] else [])) ∧ CF cb B w wc ∧ wc.heap[w.heap.size]? = some (.cells #[.int .i64 t.k, .string t.s, .int .i64 t.p] 201 (0, 0)))
 case first =>
  have hbx2 := ((bdn w1 nq).block _ hxl).trans (unhide HBX)
  have xc := fun o => cell_of_blk hbx2 o
  cases hh : hasN A t.s with
  | true =>
   have HT : Hid (tells (tells x (fLong t)) (if hasN A t.s = true then [(t.p, 3)] else []) = tell (tells x (fLong t)) t.p 3) := by show _ = _; rw [hh]; rfl
   go_wp2_with fail
   refine (tell_any _ cb B A _ t.p 3 ((unhide HC1).later (bdn _ _))).mono ?_
   rintro e w2 ⟨rfl, hc2, hg2⟩
   have HC2 := hide hc2
   have HG2 := hide hg2
   clear hc2 hg2
   go_wp2_with fail
   go_meet
   rw [unhide HT]
   exact ⟨unhide HC2, ((unhide HF1).trans (CF.below (bdn _ _))).trans (CF.grown (unhide HG2)), ((unhide HG2).block _ (lt_of_blk hbx2) (by simp; omega)).trans hbx2⟩
  | false =>
   have HT : Hid (tells (tells x (fLong t)) (if hasN A t.s = true then [(t.p, 3)] else []) = tells x (fLong t)) := by show _ = _; rw [hh]; rfl
   go_wp2_with fail
   go_meet
   rw [unhide HT]
   exact ⟨(unhide HC1).later (bdn _ _), (unhide HF1).trans (CF.below (bdn _ _)), hbx2⟩
 case rest =>
  obtain ⟨hc2, hf2, hbx2⟩ := hcut
  have HC2 := hide hc2
  have HF2 := hide hf2
  have HBX2 := hide hbx2
  have hxl2 : w.heap.size < wc.heap.size := lt_of_blk hbx2
  clear hc2 hf2 hbx2 HC1 HO1 HF1 HBX
  go_upto_if 21 with fail
  go_cut [] (fun wc => CK wc cb B A (tells x (pAct A i t)) ∧ CF cb B w wc ∧ wc.heap[w.heap.size]? = some (.cells #[.int .i64 t.k, .string t.s, .int .i64 t.p] 201 (0, 0)))
  case first =>
   have xc := fun o => cell_of_blk (unhide HBX2) o
   by_cases h6 : 6 ≤ i
   ·have h6' : (6 : Int) ≤ (i : Int) := by omega
    have HT : Hid (tell (tells (tells x (fLong t)) (if hasN A t.s = true then [(t.p, 3)] else [])) t.p 4 = tells x (pAct A i t)) := by show _ = _; unfold pAct; rw [if_pos h6, tells_append, tells_append]; rfl
    clear h6
    go_wp2_with fail
    refine (tell_any _ cb B A _ t.p 4 (unhide HC2)).mono ?_
    rintro e w2 ⟨rfl, hc3, hg3⟩
    have HC3 := hide hc3
    have HG3 := hide hg3
    clear hc3 hg3
    go_wp2_with fail
    go_meet
    rw [← unhide HT]
    exact ⟨unhide HC3, (unhide HF2).trans (CF.grown (unhide HG3)), ((unhide HG3).block _ hxl2 (by simp; omega)).trans (unhide HBX2)⟩
   ·have h6' : ¬ (6 : Int) ≤ (i : Int) := by omega
    have HT : Hid (tells (tells x (fLong t)) (if hasN A t.s = true then [(t.p, 3)] else []) = tells x (pAct A i t)) := by show _ = _; unfold pAct; rw [if_neg h6, tells_append, List.append_nil]
    clear h6
    go_wp2_with fail
    go_meet
    rw [← unhide HT]
    exact ⟨unhide HC2, unhide HF2, unhide HBX2⟩
  case rest =>
   obtain ⟨hc3, hf3, hbx3⟩ := hcut
   obtain ⟨bo, bn, bk, hb3, ho3⟩ := hc3.blk
   have bc := fun o => cell_of_blk hb3 o
   have bf := fun o => frozen_of_blk hb3 o
   have hcl3 := hc3.lt
   have hxl3 : w.heap.size < wc.heap.size := lt_of_blk hbx3
   have hnc3 : (Value.slice bo bn bk).ownBlock ≠ some cb := fun e => own_ty ho3 e hb3 (by decide)
   have hnx3 : (Value.slice bo bn bk).ownBlock ≠ some w.heap.size := fun e => own_ty ho3 e hbx3 (by decide)
   have HF3 := hide hf3
   have HO3 := hide ho3
   have HB3 := hide hb3
   have HBX3 := hide hbx3
   clear hc3 hf3 hbx3 hb3 ho3 HC2 HF2 HBX2
   generalize wc = w3 at *
   go_wp2_with fail
   refine wp_region_held_drew (S := fun w' => w'.cell? ⟨w.heap.size, 1, none⟩ = some (.string t.s)) (by kernel_rfl) ?_ (fun hHeld => ?_)
   ·show w3.drew.cell? _ = _
    exact cell_of_blk (unhide HBX3) 1
   refine wpAnyH_take (i := 0) (v := .pointer (some ⟨cb, 0, none⟩)) rfl (by kernel_rfl) (by kernel_rfl) (by kernel_rfl) (fun _ _ _ h => h) (Or.inl ⟨by kernel_rfl, fun w hw => by have s0 := hw; go_simp⟩) hHeld ?_
   try simp only [Act.put, zA, zB, zC, zD, zE, zF]
   refine wpAnyH_take (i := 1) (v := .pointer (some ⟨cb, 0, none⟩)) rfl (by kernel_rfl) (by kernel_rfl) (by kernel_rfl) (fun _ _ _ h => h) (Or.inl ⟨by kernel_rfl, fun w hw => by have s0 := hw; go_simp⟩) hHeld ?_
   try simp only [Act.put, zA, zB, zC, zD, zE, zF]
   refine wpAnyH_take (i := 2) (v := .pointer (some ⟨cb, 0, none⟩)) rfl (by kernel_rfl) (by kernel_rfl) (by kernel_rfl) (fun _ _ _ h => h) (Or.inl ⟨by kernel_rfl, fun w hw => by have s0 := hw; go_simp⟩) hHeld ?_
   try simp only [Act.put, zA, zB, zC, zD, zE, zF]
   refine wpAnyH_take (i := 3) (v := .pointer (some ⟨cb, 0, none⟩)) rfl (by kernel_rfl) (by kernel_rfl) (by kernel_rfl) (fun _ _ _ h => h) (Or.inl ⟨by kernel_rfl, fun w hw => by have s0 := hw; go_simp⟩) hHeld ?_
   try simp only [Act.put, zA, zB, zC, zD, zE, zF]
   refine wpAnyH_take (i := 5) (v := .pointer (some ⟨w.heap.size, 1, none⟩)) rfl (by kernel_rfl) (by kernel_rfl) (by kernel_rfl) (fun _ _ _ h => h) (Or.inl ⟨by kernel_rfl, fun w hw => by have s0 := hw; go_simp⟩) hHeld ?_
   try simp only [Act.put, zA, zB, zC, zD, zE, zF]
   refine wpAnyH_take (i := 6) (v := .string t.s) rfl (by kernel_rfl) (by kernel_rfl) (by kernel_rfl) (fun _ _ _ h => h) (Or.inl ⟨by kernel_rfl, fun w hw => by have s0 := hw; go_simp⟩) hHeld ?_
   try simp only [Act.put, zA, zB, zC, zD, zE, zF]
   refine wpAnyH_ready (rs := [4, 7]) (by kernel_rfl) (by simp) ?_
   refine AllReadyH.cons rfl (fun K hK => ?_) (AllReadyH.cons rfl (fun K hK => ?_) AllReadyH.nil)
   ·go_simp
    refine hK.out _ _ hHeld (fun hHeld => ?_)
    clear hK K
    refine wpAnyH_ready (rs := [7]) (by kernel_rfl) (by simp) ?_
    refine AllReadyH.cons rfl (fun K hK => ?_) AllReadyH.nil
    go_simp
    refine hK.out _ _ (by first | exact hHeld | (show (World.alloc _ _).cell? _ = _; rw [World.cell?_alloc_lt _ _ _ hxl3]; exact cell_of_blk (unhide HBX3) 1)) (fun hHeld => ?_)
    clear hK K
    refine wpAnyH_ready (rs := [8]) (by kernel_rfl) (by simp) ?_
    refine AllReadyH.cons rfl (fun K hK => ?_) AllReadyH.nil
    refine step_append_lies _ (by rfl) _ _ 25 (by rfl) B 9 i0 (.string ⟨#[]⟩) 1 16 Tryz.underlying25 hi hz0 hz1 hz2 rfl (by decide) (.slice bo bn bk) A.length (strC A) (by rfl) ?c0 ⟨w3.heap.size, 0, none⟩ 1 1 [.string t.s] (by rfl) rfl ?c1 ?c2 (by decide) ?c3 ?c4 ?c5 (w3.heap.size + 1) (by simp) ?_
    case c0 => exact owns_later (unhide HO3) ((Below.refl _ _).alloc (Nat.le_refl _) _).drew
    case c1 =>
     intro j u hj
     match j, hj with
     | 0, hj => simp at hj; subst hj; simp [Addr.add]
     | j + 1, hj => simp at hj
    case c2 => intro u hu; simp at hu; subst hu; rfl
    case c3 => unfold maxLen; omega
    case c4 => omega
    case c5 => have := (unhide HF3).size; simp; omega
    intro g4 cap4 w4 hown4 hgrow4 hat4 hlt4
    have hb4 := (hgrow4.block cb (by simp; omega) (fun e => hnc3 e.symm)).trans ((Below.heap_alloc _ _ _ hcl3).trans (unhide HB3))
    have hbx4 := (hgrow4.block w.heap.size (by simp; omega) (fun e => hnx3 e.symm)).trans ((Below.heap_alloc _ _ _ hxl3).trans (unhide HBX3))
    have hf4 : CF cb B w w4 := ((unhide HF3).trans (CF.below ((Below.refl w3.heap.size w3).alloc (Nat.le_refl _) (.cells #[.string t.s] 9)).drew)).trans (CF.row (owns_later (unhide HO3) ((Below.refl _ _).alloc (Nat.le_refl _) _).drew) hgrow4)
    refine hK.out _ _ (cell_of_blk hbx4 1) (fun hHeld => ?_)
    clear hK K bc bf
    have bc := fun o => cell_of_blk hb4 o
    have bf := fun o => frozen_of_blk hb4 o
    have hcl4 := lt_of_blk hb4
    have HB4 := hide hb4
    have HF4 := hide hf4
    have HO4 := hide hown4
    clear hb4 hf4 hown4 hgrow4 hbx4
    refine wpAnyH_take (i := 9) (v := .pointer (some ⟨cb, 0, none⟩)) rfl (by kernel_rfl) (by kernel_rfl) (by kernel_rfl) (fun _ _ _ h => h) (Or.inl ⟨by kernel_rfl, fun w hw => by have s0 := hw; go_simp⟩) hHeld ?_
    try simp only [Act.put, zA, zB, zC, zD, zE, zF]
    refine wpAnyH_take (i := 10) (v := .pointer (some ⟨cb, 0, none⟩)) rfl (by kernel_rfl) (by kernel_rfl) (by kernel_rfl) (fun _ _ _ h => h) (Or.inl ⟨by kernel_rfl, fun w hw => by have s0 := hw; go_simp⟩) hHeld ?_
    try simp only [Act.put, zA, zB, zC, zD, zE, zF]
    refine wpAnyH_ready (rs := [11]) (by kernel_rfl) (by simp) ?_
    refine AllReadyH.cons rfl (fun K hK => ?_) AllReadyH.nil
    go_simp
    refine hK.out _ _ (by show (World.setCell _ _ _).cell? _ = _; rw [World.cell?_setCell_far _ _ _ _ (by show cb ≠ w.heap.size; omega)]; exact hHeld) (fun hHeld => ?_)
    clear hK K
    refine wpAnyH_done (by kernel_rfl) ?_ _
    clear hHeld bc bf
    go_wp2_with fail
    go_end0
    refine ⟨rfl, ⟨⟨some ⟨g4, 0, none⟩, A.length + 1, cap4, blk_set (unhide HB4) 0 _, ?_⟩, hBc⟩, (unhide HF4).trans (CF.grown (grown_set _ _ _ _))⟩
    rw [strC_snoc, List.length_append]
    exact owns_keep (unhide HO4) (grown_set _ _ _ _) (Or.inr (fun e => own_ty (unhide HO4) e (unhide HB4) (by decide)))
   ·go_simp
    refine hK.out _ _ (by first | exact hHeld | (show (World.alloc _ _).cell? _ = _; rw [World.cell?_alloc_lt _ _ _ hxl3]; exact cell_of_blk (unhide HBX3) 1)) (fun hHeld => ?_)
    clear hK K
    refine wpAnyH_ready (rs := [4]) (by kernel_rfl) (by simp) ?_
    refine AllReadyH.cons rfl (fun K hK => ?_) AllReadyH.nil
    go_simp
    refine hK.out _ _ hHeld (fun hHeld => ?_)
    clear hK K
    refine wpAnyH_ready (rs := [8]) (by kernel_rfl) (by simp) ?_
    refine AllReadyH.cons rfl (fun K hK => ?_) AllReadyH.nil
    refine step_append_lies _ (by rfl) _ _ 25 (by rfl) B 9 i0 (.string ⟨#[]⟩) 1 16 Tryz.underlying25 hi hz0 hz1 hz2 rfl (by decide) (.slice bo bn bk) A.length (strC A) (by rfl) ?c0 ⟨w3.heap.size, 0, none⟩ 1 1 [.string t.s] (by rfl) rfl ?c1 ?c2 (by decide) ?c3 ?c4 ?c5 (w3.heap.size + 1) (by simp) ?_
    case c0 => exact owns_later (unhide HO3) ((Below.refl _ _).alloc (Nat.le_refl _) _).drew
    case c1 =>
     intro j u hj
     match j, hj with
     | 0, hj => simp at hj; subst hj; simp [Addr.add]
     | j + 1, hj => simp at hj
    case c2 => intro u hu; simp at hu; subst hu; rfl
    case c3 => unfold maxLen; omega
    case c4 => omega
    case c5 => have := (unhide HF3).size; simp; omega
    intro g4 cap4 w4 hown4 hgrow4 hat4 hlt4
    have hb4 := (hgrow4.block cb (by simp; omega) (fun e => hnc3 e.symm)).trans ((Below.heap_alloc _ _ _ hcl3).trans (unhide HB3))
    have hbx4 := (hgrow4.block w.heap.size (by simp; omega) (fun e => hnx3 e.symm)).trans ((Below.heap_alloc _ _ _ hxl3).trans (unhide HBX3))
    have hf4 : CF cb B w w4 := ((unhide HF3).trans (CF.below ((Below.refl w3.heap.size w3).alloc (Nat.le_refl _) (.cells #[.string t.s] 9)).drew)).trans (CF.row (owns_later (unhide HO3) ((Below.refl _ _).alloc (Nat.le_refl _) _).drew) hgrow4)
    refine hK.out _ _ (cell_of_blk hbx4 1) (fun hHeld => ?_)
    clear hK K bc bf
    have bc := fun o => cell_of_blk hb4 o
    have bf := fun o => frozen_of_blk hb4 o
    have hcl4 := lt_of_blk hb4
    have HB4 := hide hb4
    have HF4 := hide hf4
    have HO4 := hide hown4
    clear hb4 hf4 hown4 hgrow4 hbx4
    refine wpAnyH_take (i := 9) (v := .pointer (some ⟨cb, 0, none⟩)) rfl (by kernel_rfl) (by kernel_rfl) (by kernel_rfl) (fun _ _ _ h => h) (Or.inl ⟨by kernel_rfl, fun w hw => by have s0 := hw; go_simp⟩) hHeld ?_
    try simp only [Act.put, zA, zB, zC, zD, zE, zF]
    refine wpAnyH_take (i := 10) (v := .pointer (some ⟨cb, 0, none⟩)) rfl (by kernel_rfl) (by kernel_rfl) (by kernel_rfl) (fun _ _ _ h => h) (Or.inl ⟨by kernel_rfl, fun w hw => by have s0 := hw; go_simp⟩) hHeld ?_
    try simp only [Act.put, zA, zB, zC, zD, zE, zF]
    refine wpAnyH_ready (rs := [11]) (by kernel_rfl) (by simp) ?_
    refine AllReadyH.cons rfl (fun K hK => ?_) AllReadyH.nil
    go_simp
    refine hK.out _ _ (by show (World.setCell _ _ _).cell? _ = _; rw [World.cell?_setCell_far _ _ _ _ (by show cb ≠ w.heap.size; omega)]; exact hHeld) (fun hHeld => ?_)
    clear hK K
    refine wpAnyH_done (by kernel_rfl) ?_ _
    clear hHeld bc bf
    go_wp2_with fail
    go_end0
    refine ⟨rfl, ⟨⟨some ⟨g4, 0, none⟩, A.length + 1, cap4, blk_set (unhide HB4) 0 _, ?_⟩, hBc⟩, (unhide HF4).trans (CF.grown (grown_set _ _ _ _))⟩
    rw [strC_snoc, List.length_append]
    exact owns_keep (unhide HO4) (grown_set _ _ _ _) (Or.inr (fun e => own_ty (unhide HO4) e (unhide HB4) (by decide)))
end Go.Proofs.YtidakhhekofkoaaGreatDoor
