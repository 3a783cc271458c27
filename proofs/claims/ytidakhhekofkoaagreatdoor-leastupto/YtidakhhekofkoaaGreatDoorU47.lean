/- knows answers true. -/
import Derived.Test.YtidakhhekofkoaaGreatDoorU25
import Derived.Test.YtidakhhekofkoaaGreatDoorU45
import Derived.Test.YtidakhhekofkoaaGreatDoorU35
set_option linter.unusedSimpArgs false
set_option maxRecDepth 100000
namespace Go.Proofs.YtidakhhekofkoaaGreatDoor
open Go.ChangeShapes Go.WideShapes Go.ChangeAt Go.RowKit Go.Deep
theorem txs_fresh (w : World) (ty : Nat) (l : List ByteArray) (cs : Array Value) (hc : ∀ (j : Nat) (x : ByteArray), l[j]? = some x → cs[j]? = some (Value.string x)) : TxS (w.alloc (.cells cs ty)) (some ⟨w.heap.size, 0, none⟩) l := fun j x hx => by
 refine ⟨w.heap.size, 0, rfl, by simp, ?_⟩
 unfold World.cell?
 rw [blk_alloc]
 simpa using hc j x hx
theorem firstT_list : firstT.toList = [97, 99, 116, 115, 32, 97, 44, 32, 98, 59, 10, 114, 117, 108, 101, 32, 114, 101, 115, 112, 111, 110, 115, 101, 40, 97, 44, 32, 98, 41, 59, 10] := by decide +kernel
theorem knows_any (w : World) (hG : GVF w) : Calls Tryz.prog 14 #[] w fun e w' => e = .returned (.bool true) ∧ Below w.heap.size w w' := by
 have HG := hide hG
 clear hG
 have HP := hide (print_ok firstB w (unhide HG))
 go_enter Tryz.func14, Tryz.ntmps14
 go_wp2_with fail
 refine (unhide HP).mono ?_
 rintro e w1 ⟨he, hb1⟩
 rw [first_print] at he
 subst he
 have HB1 := hide (hb1.alloc hb1.size (.cells #[.string ⟨#[97]⟩, .string ⟨#[98]⟩] 9))
 clear hb1
 go_wp2_with fail
 refine (Holds_any firstB [⟨#[97]⟩, ⟨#[98]⟩] _ _ 2 ((unhide HG).later (unhide HB1)).g (txs_fresh _ _ _ _ fun j x hx => by
  rcases j with _ | _ | j
  ·cases hx; rfl
  ·cases hx; rfl
  ·simp at hx) (by simp)).mono ?_
 rintro e w2 ⟨he, hb2⟩
 rw [first_ab] at he
 subst he
 have hb3 := (unhide HB1).trans (hb2.mono (unhide HB1).size)
 have HB3 := hide (hb3.alloc hb3.size (.cells #[.string ⟨#[97]⟩] 9))
 clear hb2 hb3
 go_wp2_with fail
 refine (Holds_any firstB [⟨#[97]⟩] _ _ 1 ((unhide HG).later (unhide HB3)).g (txs_fresh _ _ _ _ fun j x hx => by
  rcases j with _ | j
  ·cases hx; rfl
  ·simp at hx) (by simp)).mono ?_
 rintro e w4 ⟨he, hb4⟩
 rw [first_a] at he
 subst he
 have HB := hide ((unhide HB3).trans (hb4.mono (unhide HB3).size))
 clear hb4
 go_wp2_with fail
 ·refine bodyPost_ret (v := .bool true) (by simp [results, Tryz.results14, go_sem]) rfl ?_
  exact ⟨rfl, unhide HB⟩
 ·rename_i h
  exact absurd firstT_list h
end Go.Proofs.YtidakhhekofkoaaGreatDoor
