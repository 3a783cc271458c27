/- knows answers true. -/
import Derived.Test.YtidakhhekofkoaaGreatDoorK27
import Derived.Test.YtidakhhekofkoaaGreatDoorK44
import Derived.Test.YtidakhhekofkoaaGreatDoorK39
set_option linter.unusedSimpArgs false
set_option maxRecDepth 100000
namespace Go.Proofs.YtidakhhekofkoaaGreatDoor
open Go.ChangeShapes Go.WideShapes Go.ChangeAt Go.RowKit Go.Deep
theorem txs_fresh (w : World) (ty : Nat) (l : List ByteArray) (cs : Array Value) (hc : ∀ (j : Nat) (x : ByteArray), l[j]? = some x → cs[j]? = some (Value.string x)) : TxS (w.alloc (.cells cs ty)) (some ⟨w.heap.size, 0, none⟩) l := fun j x hx => by
  refine ⟨w.heap.size, 0, rfl, by simp, ?_⟩
  unfold World.cell?
  rw [blk_alloc]
  simpa using hc j x hx
theorem firstT_list : firstT.toList = [97, 99, 116, 115, 32, 97, 44, 32, 98, 59, 10, 114, 117, 108, 101, 32, 114, 101, 115, 112, 111, 110, 115, 101, 40, 97, 44, 32, 98, 41, 59, 10] := by decide +kernel
theorem knows_any (w : World) (hG : GV w) : Calls Tryz.prog 14 #[] w fun e w' => e = .returned (.bool true) ∧ Below w.heap.size w w' := by
  have HG := hide hG
  clear hG
  have HP := hide (print_ok firstB w (unhide HG))
  go_enter Tryz.func14, Tryz.ntmps14
  go_wp2_with fail
  refine (unhide HP).mono ?_
  rintro e w1 ⟨he, hb1⟩
  rw [first_print] at he
  subst he
  have HB1 := hide (hb1.alloc hb1.size (.cells #[.string ⟨#[97]⟩, .string ⟨#[98]⟩] 9))
  clear hb1
  go_wp2_with fail
  refine (Holds_any firstB [⟨#[97]⟩, ⟨#[98]⟩] _ _ 2 ((unhide HG).later (unhide HB1)) (txs_fresh _ _ _ _ fun j x hx => by
    rcases j with _ | _ | j
    · cases hx; rfl
    · cases hx; rfl
    · simp at hx) (by simp)).mono ?_
  rintro e w2 ⟨he, hb2⟩
  rw [first_ab] at he
  subst he
  have hb3 := (unhide HB1).trans (hb2.mono (unhide HB1).size)
  have HB3 := hide (hb3.alloc hb3.size (.cells #[.string ⟨#[97]⟩] 9))
  clear hb2 hb3
  go_wp2_with fail
  refine (Holds_any firstB [⟨#[97]⟩] _ _ 1 ((unhide HG).later (unhide HB3)) (txs_fresh _ _ _ _ fun j x hx => by
    rcases j with _ | j
    · cases hx; rfl
    · simp at hx) (by simp)).mono ?_
  rintro e w4 ⟨he, hb4⟩
  rw [first_a] at he
  subst he
  have HB := hide ((unhide HB3).trans (hb4.mono (unhide HB3).size))
  clear hb4
  go_wp2_with fail
  · refine bodyPost_ret (v := .bool true) (by simp [results, Tryz.results14, go_sem]) rfl ?_
    exact ⟨rfl, unhide HB⟩
  · rename_i h
    exact absurd firstT_list h
end Go.Proofs.YtidakhhekofkoaaGreatDoor
namespace Go.Proofs.YtidakhhekofkoaaGreatDoor
open Rt
open Go.ChangeShapes Go.WideShapes Go.ChangeAt Go.RowKit Go.Deep
theorem Again_any (s : ByteArray) (tr : List ByteArray) (w : World) (tt : Option Addr) (tc : Nat) (hG : GV w) (hT : TxS w tt tr) (hn : tr.length ≤ 10000000000000) :
    Calls Tryz.prog 5 #[.string s, .slice tt tr.length tc] w fun e w' => e = .returned (.bool true) ∧ Below w.heap.size w w' := by
  have HT := hide hT
  have HG := hide hG
  have HK := hide (knows_any w hG)
  have HN := hide hn
  clear hT hG hn
  go_enter Tryz.func5, Tryz.ntmps5
  go_wp2_with fail
  refine (unhide HK).mono ?_
  rintro e w1 ⟨rfl, hb1⟩
  have HB1 := hide hb1
  clear hb1
  go_wp2_with fail
  refine (print_ok s w1 ((unhide HG).later (unhide HB1))).mono ?_
  rintro e w2 ⟨rfl, hb2⟩
  have HB2 := hide ((unhide HB1).trans (hb2.mono (unhide HB1).size))
  clear hb2
  go_wp2_with fail
  refine (Holds_any s tr w2 tt tc ((unhide HG).later (unhide HB2)) ((unhide HT).later (unhide HB2)) (unhide HN)).mono ?_
  rintro e w3 ⟨rfl, hb3⟩
  have HB3 := hide ((unhide HB2).trans (hb3.mono (unhide HB2).size))
  clear hb3
  cases hr : readM s with
  | error x =>
    have hne := readM_err hr
    have hpl := readM_place hr
    have e1 : printM s = (⟨#[]⟩, x.1, x.2) := by unfold printM; rw [hr]
    have e2 : holdsM s tr = (false, x.2) := by unfold holdsM; rw [hr]
    rw [e1, e2]
    obtain ⟨xp, xe⟩ := x
    have hne' : ¬ ((xe : Nat) : Int) = 0 := by have : xe ≠ 0 := hne; omega
    have hp0 : (0 : Int) ≤ ((xp : Nat) : Int) := by omega
    have hp1 : ((xp : Nat) : Int) ≤ ((s.size : Nat) : Int) := by have : xp ≤ s.size := hpl; omega
    clear hne hpl e1 e2 hr
    dsimp only
    go_wp2_with fail
    refine bodyPost_ret (v := .bool true) (by simp [results, Tryz.results5, go_sem]) rfl ?_
    exact ⟨rfl, unhide HB3⟩
  | ok m =>
    obtain ⟨al, rs⟩ := m
    have e1 : printM s = (txtM al rs, 0, 0) := by unfold printM; rw [hr]
    rw [e1]
    have HE := hide hr
    clear e1 hr
    dsimp only
    go_wp2_with fail
    refine (print_ok (txtM al rs) w3 ((unhide HG).later (unhide HB3))).mono ?_
    rintro e w4 ⟨rfl, hb4⟩
    have HB4 := hide ((unhide HB3).trans (hb4.mono (unhide HB3).size))
    clear hb4
    by_cases hz : (txtM al rs).size ≤ 400
    · obtain ⟨al', rs', r1, r2, r3⟩ := again_ok (unhide HE) hz
      have e1 : printM (txtM al rs) = (txtM al rs, 0, 0) := by unfold printM; rw [r1, ← r2]
      rw [e1]
      have HR3 := hide (r3 tr)
      have hz' : ¬ (400 : Int) < (((txtM al rs).size : Nat) : Int) := by omega
      clear r1 r2 r3 e1 hz
      generalize txtM al rs = t at *
      dsimp only
      go_wp2_with fail
      refine (Holds_any t tr w4 tt tc ((unhide HG).later (unhide HB4)) ((unhide HT).later (unhide HB4)) (unhide HN)).mono ?_
      rintro e w5 ⟨rfl, hb5⟩
      have HB5 := hide ((unhide HB4).trans (hb5.mono (unhide HB4).size))
      clear hb5
      rw [unhide HR3]
      generalize holdsM s tr = y
      obtain ⟨y1, y2⟩ := y
      dsimp only
      go_wp2_with fail
      refine bodyPost_ret (v := .bool true) (by simp [results, Tryz.results5, go_sem]) rfl ?_
      exact ⟨rfl, unhide HB5⟩
    · have e1 : printM (txtM al rs) = (⟨#[]⟩, 0, 1) := by unfold printM readM; rw [if_pos (by omega)]
      rw [e1]
      have hz' : (400 : Int) < (((txtM al rs).size : Nat) : Int) := by omega
      clear e1 hz
      dsimp only
      go_wp2_with fail
      refine bodyPost_ret (v := .bool true) (by simp [results, Tryz.results5, go_sem]) rfl ?_
      exact ⟨rfl, unhide HB4⟩
end Go.Proofs.YtidakhhekofkoaaGreatDoor
