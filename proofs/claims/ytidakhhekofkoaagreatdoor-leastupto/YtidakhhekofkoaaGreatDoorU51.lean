/- Least answers true, of any text and any numbers (not more than two million). -/
import Derived.Test.YtidakhhekofkoaaGreatDoorU49
import Derived.Test.YtidakhhekofkoaaGreatDoorU48
import Derived.Test.YtidakhhekofkoaaGreatDoorU47
import Derived.Lib.QuietBelow
set_option linter.unusedSimpArgs false
set_option linter.unusedVariables false
namespace Go.Proofs.YtidakhhekofkoaaGreatDoor
open Rt
open Go.RowKit Go.Deep
theorem comp_all {s : ByteArray} {al : List Tk} {rs : List Rl} {t : Tb} (hr : readM s = .ok (al, rs)) (hc : CompP al rs (some t)) :
  RightT t ∧ metAll t.nx.length 0 1 t.nx ∧ (∀ i j, i < t.nx.length → j < t.nx.length → i ≠ j → ∃ v : List Nat, (∀ a ∈ v, a < t.acts.length) ∧ accT t (runT t i v) ≠ accT t (runT t j v)) ∧
   ∀ v : List Nat, (∀ a ∈ v, a < t.acts.length) → holdsM s (v.map (nmT t)) = (accT t (runT t 0 v), 0) := by
 refine ⟨comp_right hr hc, cmp_met hc, ?_, fun v hv => ?_⟩
 ·obtain ⟨e, l, tw, m, hT⟩ := CmpR.some hc
  exact fun i j hi hj hij => hT.differ hi hj hij
 ·obtain ⟨e, l, tw, m, hT⟩ := CmpR.some hc
  rw [hT.keeps hv, ← keepP_holds hr v (fun a ha => by have := hv a ha; rw [e, List.length_map] at this; exact this)]
  congr 1
  refine List.map_congr_left fun a ha => ?_
  unfold nmT nmA
  rw [e, List.getElem?_map]
def CmpB (s : ByteArray) (w w' : World) (e : Ending) : Prop :=
 (∃ x : Nat × Nat, readM s = .error x ∧ x.2 ≠ 0 ∧ e = .returned (.tuple #[.agg #[.slice none 0 0, .slice none 0 0, .slice none 0 0], .int .i64 x.2]) ∧ Below w.heap.size w w') ∨
 (∃ al rs, readM s = .ok (al, rs) ∧ e = .returned (.tuple #[.agg #[.slice none 0 0, .slice none 0 0, .slice none 0 0], .int .i64 5]) ∧ Below w.heap.size w w') ∨
 ∃ al rs t, readM s = .ok (al, rs) ∧ CompP al rs (some t) ∧ DecT t w w' e
theorem CmpP.three {s : ByteArray} {w w' : World} {e : Ending} (h : CmpP s w w' e) : CmpB s w w' e := by
 unfold CmpP at h
 cases hr : readM s with
 | error x =>
  rw [hr] at h
  exact Or.inl ⟨x, hr, readM_err hr, h.2, h.1⟩
 | ok m =>
  obtain ⟨al, rs⟩ := m
  rw [hr] at h
  obtain ⟨o, ho, hd⟩ := h
  cases o with
  | none => exact Or.inr (Or.inl ⟨al, rs, hr, hd.2, hd.1⟩)
  | some t => exact Or.inr (Or.inr ⟨al, rs, t, hr, ho, DecT.of rfl (comp_right hr ho) hd⟩)
set_option maxHeartbeats 8000000 in
set_option maxRecDepth 100000 in
theorem Least_any (s : ByteArray) (raw : List Int) (w : World) (ro : Option Addr) (rc : Nat) (hG : GVF w) (hI : InS w ro raw) (hr : ∀ x ∈ raw, -9223372036854775808 ≤ x ∧ x ≤ 9223372036854775807) (hmax : raw.length ≤ 2000000) :
  Calls Tryz.prog 7 #[.string s, .slice ro raw.length rc] w fun e w' => e = .returned (.bool true) ∧ Below w.heap.size w w' := by
 obtain ⟨R, hR⟩ : ∃ R, raw.length = R := ⟨_, rfl⟩
 rw [hR] at hmax ⊢
 have HRL := hide hR
 have HI := hide hI
 have HRR := hide hr
 have HG := hide hG
 have HK := hide (knows_any w hG)
 clear hI hr hG hR
 go_enter Tryz.func7, Tryz.ntmps7
 go_wp2_with fail
 refine (unhide HK).mono ?_
 rintro e w1 ⟨rfl, hb1⟩
 have HB1 := hide hb1
 have HCM := hide (Compile_any s w1 ((unhide HG).later hb1).g)
 clear hb1 HK
 go_wp2_with fail
 refine (unhide HCM).mono ?_
 clear HCM
 rintro e w2 hm
 rcases hm.three with ⟨x, hx, hx0, rfl, hb2⟩ | ⟨al, rs, hx, rfl, hb2⟩ | ⟨al, rs, t, hx, hc, ao, fo, no, ac, fc, nc, rv, rfl, hT, hR, hb2⟩
 ·have HB2 := hide ((unhide HB1).trans (hb2.mono (unhide HB1).size))
  have HB3 := hide ((unhide HB2).trans (((Below.refl _ _).alloc (Nat.le_refl _) (.cells #[.slice none 0 0, .slice none 0 0, .slice none 0 0] 36)).mono (unhide HB2).size))
  have HPR := hide (print_ok s _ ((unhide HG).later (unhide HB3)))
  have hp : printM s = (⟨#[]⟩, x.1, x.2) := by unfold printM; rw [hx]
  rw [hp] at HPR
  have hx0' : ¬ ((x.2 : Nat) : Int) = 0 := by omega
  clear hm hb2 hp hx
  go_wp2_with fail
  refine (unhide HPR).mono ?_
  clear HPR
  generalize w2.alloc (.cells #[.slice none 0 0, .slice none 0 0, .slice none 0 0] 36) = w3 at *
  rintro e w4 ⟨rfl, hb4⟩
  have HB4 := hide ((unhide HB3).trans (hb4.mono (unhide HB3).size))
  clear hb4
  go_wp2_with fail
  refine bodyPost_ret (v := .bool true) (by simp [results, Tryz.results7, go_sem]) rfl ?_
  exact ⟨rfl, unhide HB4⟩
 ·have HB2 := hide ((unhide HB1).trans (hb2.mono (unhide HB1).size))
  have HB3 := hide ((unhide HB2).trans (((Below.refl _ _).alloc (Nat.le_refl _) (.cells #[.slice none 0 0, .slice none 0 0, .slice none 0 0] 36)).mono (unhide HB2).size))
  have HPR := hide (print_ok s _ ((unhide HG).later (unhide HB3)))
  have hp : printM s = (txtM al rs, 0, 0) := by unfold printM; rw [hx]
  rw [hp] at HPR
  clear hm hb2 hp hx
  go_wp2_with fail
  refine (unhide HPR).mono ?_
  clear HPR
  generalize w2.alloc (.cells #[.slice none 0 0, .slice none 0 0, .slice none 0 0] 36) = w3 at *
  rintro e w4 ⟨rfl, hb4⟩
  have HB4 := hide ((unhide HB3).trans (hb4.mono (unhide HB3).size))
  clear hb4
  go_wp2_with fail
  refine bodyPost_ret (v := .bool true) (by simp [results, Tryz.results7, go_sem]) rfl ?_
  exact ⟨rfl, unhide HB4⟩
 ·have hba : Below w2.heap.size w2 (w2.alloc (.cells #[.slice ao t.acts.length ac, .slice fo t.fl.length fc, .slice no t.nx.length nc] 36)) := (Below.refl _ _).alloc (Nat.le_refl _) _
  have HB2 := hide ((unhide HB1).trans (hb2.mono (unhide HB1).size))
  have HB3 := hide ((unhide HB2).trans (hba.mono (unhide HB2).size))
  have HBL := hide (blk_alloc w2 (.cells #[.slice ao t.acts.length ac, .slice fo t.fl.length fc, .slice no t.nx.length nc] 36))
  have HPR := hide (print_ok s _ ((unhide HG).later (unhide HB3)))
  have hp : printM s = (txtM al rs, 0, 0) := by unfold printM; rw [hx]
  rw [hp] at HPR
  obtain ⟨ab, a0, fb, f0, nb, n0, rb, ro', rc', rfl, rfl, rfl, hL⟩ := tbl_of ((hT.later hba).read hR.small).1 hR
  rw [hR.fl] at HBL HPR HB3 hL ⊢
  have HL := hide hL
  have HALL := hide (comp_all hx hc)
  clear hm hb2 hp hba hT hL hR
  generalize t.acts.length = A at *
  generalize t.nx.length = n at *
  go_wp2_with fail
  refine (unhide HPR).mono ?_
  clear HPR
  generalize w2.alloc (.cells #[.slice (some ⟨ab, a0, none⟩) A ac, .slice (some ⟨fb, f0, none⟩) n fc, .slice (some ⟨nb, n0, none⟩) n nc] 36) = w3 at *
  generalize w2.heap.size = tb at *
  rintro e w4 ⟨rfl, hb4⟩
  have HB4 := hide ((unhide HB3).trans (hb4.mono (unhide HB3).size))
  have HBL4 := hide ((hb4.block _ (lt_of_blk (unhide HBL))).trans (unhide HBL))
  have HL4 := hide ((unhide HL).later hb4)
  clear hb4 HB3 HBL HL
  have c0 := cell_of_blk (unhide HBL4) 0
  have c1 := cell_of_blk (unhide HBL4) 1
  have c2 := cell_of_blk (unhide HBL4) 2
  have l0 := lt_of_blk (unhide HBL4)
  go_wp2_with fail
  refine (shaped_any w4 t A n ab a0 fb f0 nb n0 ac fc nc rb ro' rc' (unhide HL4)).mono ?_
  clear c0 c1 c2 l0
  rintro e w5 ⟨rfl, hb5⟩
  have HB5 := hide ((unhide HB4).trans (hb5.mono (unhide HB4).size))
  have HBL5 := hide ((hb5.block _ (lt_of_blk (unhide HBL4))).trans (unhide HBL4))
  have HL5 := hide ((unhide HL4).later hb5)
  clear hb5 HB4 HBL4 HL4
  have c0 := cell_of_blk (unhide HBL5) 0
  have c1 := cell_of_blk (unhide HBL5) 1
  have c2 := cell_of_blk (unhide HBL5) 2
  have l0 := lt_of_blk (unhide HBL5)
  go_wp2_with fail
  refine (events_any w5 t A n ab a0 fb f0 nb n0 ac fc nc rb ro' rc' (unhide HL5) ro rc R raw (unhide HRL) ((unhide HI).later (unhide HB5)) (unhide HRR) hmax).mono ?_
  clear c0 c1 c2 l0
  rintro e w6 ⟨v, lo, ko, lc, kc, rfl, hvl, hva, htx, hin, hb6⟩
  have HB6 := hide ((unhide HB5).trans (hb6.mono (unhide HB5).size))
  have HBL6 := hide ((hb6.block _ (lt_of_blk (unhide HBL5))).trans (unhide HBL5))
  have HL6 := hide ((unhide HL5).later hb6)
  have HHO := hide (Holds_any s (v.map (nmT t)) w6 lo lc ((unhide HG).later (unhide HB6)).g htx (by rw [List.length_map]; omega))
  rw [List.length_map, hvl, (unhide HALL).2.2.2 v hva] at HHO
  have HIN := hide hin
  have HVA := hide hva
  have HVL := hide hvl
  clear hb6 htx hin hva hvl HB5 HBL5 HL5
  go_wp2_with fail
  refine (unhide HHO).mono ?_
  clear HHO
  rintro e w7 ⟨rfl, hb7⟩
  have HB7 := hide ((unhide HB6).trans (hb7.mono (unhide HB6).size))
  have HBL7 := hide ((hb7.block _ (lt_of_blk (unhide HBL6))).trans (unhide HBL6))
  have HL7 := hide ((unhide HL6).later hb7)
  have HIN7 := hide ((unhide HIN).later hb7)
  clear hb7 HB6 HBL6 HL6 HIN
  have c0 := fun d os => cell_regrown (cell_of_blk (unhide HBL7) 0) d os
  have c1 := fun d os => cell_regrown (cell_of_blk (unhide HBL7) 1) d os
  have c2 := fun d os => cell_regrown (cell_of_blk (unhide HBL7) 2) d os
  have l0 : ∀ d os, tb < (Go.Sort.grow (redrawn w7 d) os).heap.size := fun d os => Nat.lt_of_lt_of_le (lt_of_blk (unhide HBL7)) (below_regrown w7 d os).size
  have HWK := hide (fun d os => walk_any (Go.Sort.grow (redrawn w7 d) os) t A n ab a0 fb f0 nb n0 ac fc nc rb ro' rc' ((unhide HL7).later (below_regrown w7 d os)) ko kc R v (unhide HVL) ((unhide HIN7).later (below_regrown w7 d os)) (unhide HVA) (by omega))
  have hxn : runT t 0 v < n := by
   have h1 := (unhide HL7).hA
   have h2 := (unhide HL7).hn
   have h3 := (unhide HL7).n1
   have := run_lt (unhide HL7).rt v 0 (fun a ha => by have := unhide HVA a ha; omega) (by omega)
   omega
  have hfl := fun d os => cell_regrown ((unhide HL7).fla _ hxn) d os
  have lf : ∀ d os, fb < (Go.Sort.grow (redrawn w7 d) os).heap.size := fun d os => Nat.lt_of_lt_of_le (unhide HL7).lf (below_regrown w7 d os).size
  have hxi : (runT t 0 v : Int) < (n : Int) := by omega
  have hm1 := acc_mod t (runT t 0 v)
  generalize runT t 0 v = x at *
  have hm2 : (flT t x : Int) % 2 = if accT t x = true then 1 else 0 := by rw [← hm1, Int.tmod_eq_emod_of_nonneg (by omega)]
  cases hacc : accT t x
  all_goals (
   rw [hacc] at hm1 hm2
   simp only [if_true, Bool.false_eq_true, if_false] at hm1 hm2
   go_wp2_with fail
   refine wp_region_quiet_below (by kernel_rfl) (by kernel_rfl) ?_
   repeat (quiet_step (first | (go_at_call 20; exact Calls.regrown_of (unhide HWK _ _))))
   refine wpQuiet_nil ?_
   intro w8 hw'
   obtain ⟨⟨dq, osq⟩, hw''⟩ := hw'
   have hb8 : Below w7.heap.size w7 w8 := by rw [hw'']; exact below_regrown w7 dq osq
   have HB8 := hide ((unhide HB7).trans (hb8.mono (unhide HB7).size))
   have HBL8 := hide ((hb8.block _ (lt_of_blk (unhide HBL7))).trans (unhide HBL7))
   have HL8 := hide ((unhide HL7).later hb8)
   clear hw'' hb8 c0 c1 c2 l0 lf hfl HWK hxn hxi hm1 hm2 hacc HB7 HBL7 HL7
   have c0 := cell_of_blk (unhide HBL8) 0
   have c1 := cell_of_blk (unhide HBL8) 1
   have c2 := cell_of_blk (unhide HBL8) 2
   have l0 := lt_of_blk (unhide HBL8)
   go_wp2_with fail
   refine (least_any w8 t A n ab a0 fb f0 nb n0 ac fc nc rb ro' rc' (unhide HL8) (unhide HALL).2.1 (unhide HALL).2.2.1).mono ?_
   clear c0 c1 c2 l0
   rintro e w9 ⟨rfl, hb9⟩
   have HB9 := hide ((unhide HB8).trans (hb9.mono (unhide HB8).size))
   have HBL9 := hide ((hb9.block _ (lt_of_blk (unhide HBL8))).trans (unhide HBL8))
   have HL9 := hide ((unhide HL8).later hb9)
   clear hb9 HB8 HBL8 HL8
   have c0 := cell_of_blk (unhide HBL9) 0
   have c1 := cell_of_blk (unhide HBL9) 1
   have c2 := cell_of_blk (unhide HBL9) 2
   have l0 := lt_of_blk (unhide HBL9)
   go_wp2_with fail
   refine (living_any w9 t A n ab a0 fb f0 nb n0 ac fc nc rb ro' rc' (unhide HL9)).mono ?_
   clear c0 c1 c2 l0
   rintro e w10 ⟨rfl, hb10⟩
   have HB10 := hide ((unhide HB9).trans (hb10.mono (unhide HB9).size))
   clear hb10
   go_wp2_with fail
   refine bodyPost_ret (v := .bool true) (by simp [results, Tryz.results7, go_sem]) rfl ?_
   exact ⟨rfl, unhide HB10⟩)
end Go.Proofs.YtidakhhekofkoaaGreatDoor
