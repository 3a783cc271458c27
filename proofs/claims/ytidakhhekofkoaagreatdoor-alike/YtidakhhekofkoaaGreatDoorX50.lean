/- Least answers true, of any text and any numbers (not more than two million). -/
import Derived.Test.YtidakhhekofkoaaGreatDoorX49
import Derived.Test.YtidakhhekofkoaaGreatDoorX48
import Derived.Test.YtidakhhekofkoaaGreatDoorX46
import Derived.Lib.QuietBelow
set_option linter.unusedSimpArgs false
set_option linter.unusedVariables false
open List renaming setIfInBounds_toArray → zA, set_cons_zero → zB, set_cons_succ → zC, getElem_toArray → zD, getElem_cons_succ → zE, getElem_cons_zero → zF
namespace Go.Proofs.YtidakhhekofkoaaGreatDoor
open Rt
open Go.RowKit Go.Deep
theorem comp_all {s : ByteArray} {al : List Tk} {rs : List Rl} {t : Tb} (hr : readM s = .ok (al, rs)) (hc : CompP al rs (some t)) :
  RightT t ∧ metAll t.nx.length 0 1 t.nx ∧ (∀ i j, i < t.nx.length → j < t.nx.length → i ≠ j → ∃ v : List Nat, (∀ a ∈ v, a < t.acts.length) ∧ accT t (runT t i v) ≠ accT t (runT t j v)) ∧
   ∀ v : List Nat, (∀ a ∈ v, a < t.acts.length) → holdsM s (v.map (nmT t)) = (accT t (runT t 0 v), 0) := by
 refine ⟨comp_right hr hc, cmp_met hc, ?_, fun v hv => ?_⟩
 ·obtain ⟨e, l, tw, m, hT⟩ := CmpR.some hc
  exact fun i j hi hj hij => hT.differ hi hj hij
 ·obtain ⟨e, l, tw, m, hT⟩ := CmpR.some hc
  rw [hT.keeps hv, ← keepP_holds hr v (fun a ha => by have := hv a ha; rw [e, List.length_map] at this; exact this)]
  congr 1
  refine List.map_congr_left fun a ha => ?_
  unfold nmT nmA
  rw [e, List.getElem?_map]
def CmpB (s : ByteArray) (w w' : World) (e : Ending) : Prop :=
 (∃ x : Nat × Nat, readM s = .error x ∧ x.2 ≠ 0 ∧ e = .returned (.tuple #[.agg #[.slice none 0 0, .slice none 0 0, .slice none 0 0], .int .i64 x.2]) ∧ Below w.heap.size w w') ∨
 (∃ al rs, readM s = .ok (al, rs) ∧ e = .returned (.tuple #[.agg #[.slice none 0 0, .slice none 0 0, .slice none 0 0], .int .i64 5]) ∧ Below w.heap.size w w') ∨
 ∃ al rs t, readM s = .ok (al, rs) ∧ CompP al rs (some t) ∧ DecT t w w' e
theorem CmpP.three {s : ByteArray} {w w' : World} {e : Ending} (h : CmpP s w w' e) : CmpB s w w' e := by
 unfold CmpP at h
 cases hr : readM s with
 | error x =>
  rw [hr] at h
  exact Or.inl ⟨x, hr, readM_err hr, h.2, h.1⟩
 | ok m =>
  obtain ⟨al, rs⟩ := m
  rw [hr] at h
  obtain ⟨o, ho, hd⟩ := h
  cases o with
  | none => exact Or.inr (Or.inl ⟨al, rs, hr, hd.2, hd.1⟩)
  | some t => exact Or.inr (Or.inr ⟨al, rs, t, hr, ho, DecT.of rfl (comp_right hr ho) hd⟩)
end Go.Proofs.YtidakhhekofkoaaGreatDoor
namespace Go.Proofs.YtidakhhekofkoaaGreatDoor
open Go.RowKit Go.Deep
theorem tab_alike {al al' : List Tk} {rs rs' : List Rl} {t u : Tb} (hc : CompP al rs (some t)) (hc' : CompP al' rs' (some u)) (ha : t.acts = u.acts)
  (hs : ∀ v : List Nat, (∀ a ∈ v, a < t.acts.length) → accT t (runT t 0 v) = accT u (runT u 0 v)) : t = u := by
 obtain ⟨e, l, tw, m, hT⟩ := CmpR.some hc
 obtain ⟨e', l', tw', m', hU⟩ := CmpR.some hc'
 have hn : al'.map (·.s) = al.map (·.s) := by rw [← e, ← e', ha]
 have hc2 := hc'
 unfold CompP at hc2
 rw [hn] at hc2
 have := CmpR.alike hc hc2 (fun v hv => by
  rw [← e] at hv
  rw [← hT.keeps hv, ← hU.keeps (fun a h => by rw [← ha]; exact hv a h)]
  exact hs v hv)
 exact Option.some.inj this
def CmpD (s : ByteArray) (w w' : World) (e : Ending) : Prop :=
 (∃ x : Nat, x ≠ 0 ∧ e = .returned (.tuple #[.agg #[.slice none 0 0, .slice none 0 0, .slice none 0 0], .int .i64 x]) ∧ Below w.heap.size w w') ∨
 ∃ al rs t, readM s = .ok (al, rs) ∧ CompP al rs (some t) ∧ DecT t w w' e
theorem CmpB.two {s : ByteArray} {w w' : World} {e : Ending} (h : CmpB s w w' e) : CmpD s w w' e := by
 rcases h with ⟨x, hx, hx0, rfl, hb2⟩ | ⟨al, rs, hx, rfl, hb2⟩ | h
 ·exact Or.inl ⟨x.2, hx0, rfl, hb2⟩
 ·exact Or.inl ⟨5, by decide, rfl, hb2⟩
 ·exact Or.inr h
set_option maxHeartbeats 4000000 in
set_option maxRecDepth 100000 in
theorem shaped_nil (w : World) :
  Calls Tryz.prog 18 #[.agg #[.slice none 0 0, .slice none 0 0, .slice none 0 0]] w fun e w' => e = .returned (.bool false) ∧ Below w.heap.size w w' := by
 have H0 := hide (OnB.start w #[.slice none 0 0, .slice none 0 0, .slice none 0 0])
 have c00 := cell_of_blk (unhide H0).b0 0
 have c01 := cell_of_blk (unhide H0).b0 1
 have c02 := cell_of_blk (unhide H0).b0 2
 have l0 := lt_of_blk (unhide H0).b0
 go_enter Tryz.func18, Tryz.ntmps18
 go_wp2_with fail
 refine bodyPost_ret (v := .bool false) (by simp [results, Tryz.results18, go_sem]) rfl ?_
 exact ⟨rfl, (unhide H0).bel⟩
end Go.Proofs.YtidakhhekofkoaaGreatDoor
namespace Go.Proofs.YtidakhhekofkoaaGreatDoor
open Rt
open Go.RowKit Go.Deep
set_option maxHeartbeats 16000000 in
set_option maxRecDepth 100000 in
theorem Alike_any (s r : ByteArray) (w : World) (hG : GVF w) :
  Calls Tryz.prog 8 #[.string s, .string r] w fun e w' => e = .returned (.bool true) ∧ Below w.heap.size w w' := by
 obtain ⟨i0, hi0, hz0, hz1, hz2⟩ := info_parts Tryz.infoStr
 have HG := hide hG
 have HK := hide (knows_any w hG)
 clear hG
 go_enter Tryz.func8, Tryz.ntmps8
 go_wp2_with fail
 refine (unhide HK).mono ?_
 rintro e w1 ⟨rfl, hb1⟩
 have HB1 := hide hb1
 have HCM := hide (Compile_any s w1 ((unhide HG).later hb1).g)
 clear hb1 HK
 go_wp2_with fail
 refine (unhide HCM).mono ?_
 clear HCM
 rintro e w2 hm
 rcases hm.three.two with ⟨x, hx0, rfl, hb2⟩ | ⟨al, rs, t, hx, hc, ao, fo, no, ac, fc, nc, rv, rfl, hT, hR, hb2⟩
 ·have hba : Below w2.heap.size w2 (w2.alloc (.cells #[.slice none 0 0, .slice none 0 0, .slice none 0 0] 36)) := (Below.refl _ _).alloc (Nat.le_refl _) _
  have HB2 := hide ((unhide HB1).trans (hb2.mono (unhide HB1).size))
  have HB3 := hide ((unhide HB2).trans (hba.mono (unhide HB2).size))
  have HBL := hide (blk_alloc w2 (.cells #[.slice none 0 0, .slice none 0 0, .slice none 0 0] 36))
  have HC2 := hide (Compile_any r _ ((unhide HG).later (unhide HB3)).g)
  have hx1 : ¬ ((x : Nat) : Int) = 0 := by omega
  clear hm hb2 hba hx0
  go_wp2_with fail
  refine (unhide HC2).mono ?_
  clear HC2
  generalize w2.alloc (.cells #[.slice none 0 0, .slice none 0 0, .slice none 0 0] 36) = w3 at *
  generalize w2.heap.size = tb at *
  rintro e w4 hm2
  rcases hm2.three.two with ⟨y, hy0, rfl, hb4⟩ | ⟨al', rs', u, hxu, hcu, bo, go, ho, bc, gc, hc, rv', rfl, hU, hQ, hb4⟩
  ·have hbb : Below w4.heap.size w4 (w4.alloc (.cells #[.slice none 0 0, .slice none 0 0, .slice none 0 0] 36)) := (Below.refl _ _).alloc (Nat.le_refl _) _
   have HB4 := hide ((unhide HB3).trans (hb4.mono (unhide HB3).size))
   have HB5 := hide ((unhide HB4).trans (hbb.mono (unhide HB4).size))
   have HUL := hide (blk_alloc w4 (.cells #[.slice none 0 0, .slice none 0 0, .slice none 0 0] 36))
   have hy1 : ¬ ((y : Nat) : Int) = 0 := by omega
   have h4b := (hb4.block _ (lt_of_blk (unhide HBL))).trans (unhide HBL)
   have HBL5 := hide ((hbb.block _ (lt_of_blk h4b)).trans h4b)
   have c0 := cell_of_blk h4b 0
   have c1 := cell_of_blk h4b 1
   have c2 := cell_of_blk h4b 2
   have l0 := lt_of_blk h4b
   clear hm2 hb4 hbb h4b hy0
   go_wp2_with fail
   refine (shaped_nil _).mono ?_
   generalize w4.alloc (.cells #[.slice none 0 0, .slice none 0 0, .slice none 0 0] 36) = w5 at *
   generalize w4.heap.size = ub at *
   clear c0 c1 c2 l0
   rintro e w6 ⟨rfl, hb6⟩
   have HB6 := hide ((unhide HB5).trans (hb6.mono (unhide HB5).size))
   have HBL6 := hide ((hb6.block _ (lt_of_blk (unhide HBL5))).trans (unhide HBL5))
   have HUL6 := hide ((hb6.block _ (lt_of_blk (unhide HUL))).trans (unhide HUL))
   clear hb6 HB5 HBL5 HUL
   have d0 := cell_of_blk (unhide HUL6) 0
   have d1 := cell_of_blk (unhide HUL6) 1
   have d2 := cell_of_blk (unhide HUL6) 2
   have l1 := lt_of_blk (unhide HUL6)
   go_wp2_with fail
   refine (shaped_nil _).mono ?_
   clear d0 d1 d2 l1
   rintro e w7 ⟨rfl, hb7⟩
   have HB7 := hide ((unhide HB6).trans (hb7.mono (unhide HB6).size))
   have HBL7 := hide ((hb7.block _ (lt_of_blk (unhide HBL6))).trans (unhide HBL6))
   have HUL7 := hide ((hb7.block _ (lt_of_blk (unhide HUL6))).trans (unhide HUL6))
   clear hb7 HB6 HBL6 HUL6
   have HSM := hide (same_any w7 none none 0 0 [] [] (fun j x h => by simp at h) (fun j x h => by simp at h) (by simp) (by simp))
   have c0 := cell_of_blk (unhide HBL7) 0
   have l0 := lt_of_blk (unhide HBL7)
   have d0 := cell_of_blk (unhide HUL7) 0
   have l1 := lt_of_blk (unhide HUL7)
   go_wp2_with fail
   refine (unhide HSM).mono ?_
   clear HSM c0 l0 d0 l1
   rintro e w8 ⟨⟨b, rfl, hbt⟩, hb8⟩
   have HB8 := hide ((unhide HB7).trans (hb8.mono (unhide HB7).size))
   clear hb8 hbt
   go_wp2_with fail
   refine bodyPost_ret (v := .bool true) (by simp [results, Tryz.results8, go_sem]) rfl ?_
   exact ⟨rfl, unhide HB8⟩
  ·have hbb : Below w4.heap.size w4 (w4.alloc (.cells #[.slice bo u.acts.length bc, .slice go u.fl.length gc, .slice ho u.nx.length hc] 36)) := (Below.refl _ _).alloc (Nat.le_refl _) _
   have HB4 := hide ((unhide HB3).trans (hb4.mono (unhide HB3).size))
   have HB5 := hide ((unhide HB4).trans (hbb.mono (unhide HB4).size))
   have HUL := hide (blk_alloc w4 (.cells #[.slice bo u.acts.length bc, .slice go u.fl.length gc, .slice ho u.nx.length hc] 36))
   have hUI := ((hU.later hbb).read hQ.small).1
   obtain ⟨bb, b0, gb, g0, hb, h0, qb, qo, qc, rfl, rfl, rfl, hLu⟩ := tbl_of hUI hQ
   have h4b := (hb4.block _ (lt_of_blk (unhide HBL))).trans (unhide HBL)
   have HBL5 := hide ((hbb.block _ (lt_of_blk h4b)).trans h4b)
   have c0 := cell_of_blk h4b 0
   have c1 := cell_of_blk h4b 1
   have c2 := cell_of_blk h4b 2
   have l0 := lt_of_blk h4b
   rw [hQ.fl] at HUL HB5 hLu hUI  HBL5 ⊢
   have HLu := hide hLu
   have HUI := hide hUI
   have HALU := hide (comp_all hxu hcu)
   have HCu := hide hcu
   have HFLu := hide hQ.fl
   clear hm2 hb4 hbb hU hLu hQ hUI hxu hcu h4b
   generalize u.acts.length = B at *
   generalize u.nx.length = m at *
   go_wp2_with fail
   refine (shaped_nil _).mono ?_
   generalize w4.alloc (.cells #[.slice (some ⟨bb, b0, none⟩) B bc, .slice (some ⟨gb, g0, none⟩) m gc, .slice (some ⟨hb, h0, none⟩) m hc] 36) = w5 at *
   generalize w4.heap.size = ub at *
   clear c0 c1 c2 l0
   rintro e w6 ⟨rfl, hb6⟩
   have HB6 := hide ((unhide HB5).trans (hb6.mono (unhide HB5).size))
   have HBL6 := hide ((hb6.block _ (lt_of_blk (unhide HBL5))).trans (unhide HBL5))
   have HUL6 := hide ((hb6.block _ (lt_of_blk (unhide HUL))).trans (unhide HUL))
   have HLu6 := hide ((unhide HLu).later hb6)
   have HUI6 := hide ((unhide HUI).later hb6)
   clear HLu HUI
   clear hb6 HB5 HBL5 HUL
   have d0 := cell_of_blk (unhide HUL6) 0
   have d1 := cell_of_blk (unhide HUL6) 1
   have d2 := cell_of_blk (unhide HUL6) 2
   have l1 := lt_of_blk (unhide HUL6)
   go_wp2_with fail
   refine (shaped_any _ u B m bb b0 gb g0 hb h0 bc gc hc qb qo qc (unhide HLu6)).mono ?_
   clear d0 d1 d2 l1
   rintro e w7 ⟨rfl, hb7⟩
   have HB7 := hide ((unhide HB6).trans (hb7.mono (unhide HB6).size))
   have HBL7 := hide ((hb7.block _ (lt_of_blk (unhide HBL6))).trans (unhide HBL6))
   have HUL7 := hide ((hb7.block _ (lt_of_blk (unhide HUL6))).trans (unhide HUL6))
   have HLu7 := hide ((unhide HLu6).later hb7)
   have HUI7 := hide ((unhide HUI6).later hb7)
   clear HLu6 HUI6
   clear hb7 HB6 HBL6 HUL6
   have HSM := hide (same_any w7 none (some ⟨bb, b0, none⟩) 0 bc [] u.acts (fun j x h => by simp at h) (unhide HUI7).acts (by simp) (unhide HUI7).al)
   rw [(unhide HLu7).hA] at HSM
   have c0 := cell_of_blk (unhide HBL7) 0
   have l0 := lt_of_blk (unhide HBL7)
   have d0 := cell_of_blk (unhide HUL7) 0
   have l1 := lt_of_blk (unhide HUL7)
   go_wp2_with fail
   refine (unhide HSM).mono ?_
   clear HSM c0 l0 d0 l1
   rintro e w8 ⟨⟨b, rfl, hbt⟩, hb8⟩
   have HB8 := hide ((unhide HB7).trans (hb8.mono (unhide HB7).size))
   clear hb8 hbt
   go_wp2_with fail
   refine bodyPost_ret (v := .bool true) (by simp [results, Tryz.results8, go_sem]) rfl ?_
   exact ⟨rfl, unhide HB8⟩
 ·have hba : Below w2.heap.size w2 (w2.alloc (.cells #[.slice ao t.acts.length ac, .slice fo t.fl.length fc, .slice no t.nx.length nc] 36)) := (Below.refl _ _).alloc (Nat.le_refl _) _
  have HB2 := hide ((unhide HB1).trans (hb2.mono (unhide HB1).size))
  have HB3 := hide ((unhide HB2).trans (hba.mono (unhide HB2).size))
  have HBL := hide (blk_alloc w2 (.cells #[.slice ao t.acts.length ac, .slice fo t.fl.length fc, .slice no t.nx.length nc] 36))
  have hTI := ((hT.later hba).read hR.small).1
  obtain ⟨ab, a0, fb, f0, nb, n0, rb, ro, rc, rfl, rfl, rfl, hL⟩ := tbl_of hTI hR
  have HC2 := hide (Compile_any r _ ((unhide HG).later (unhide HB3)).g)
  rw [hR.fl] at HBL HB3 hL hTI HC2 ⊢
  have HL := hide hL
  have HTI := hide hTI
  have HALL := hide (comp_all hx hc)
  have HC := hide hc
  have HFL := hide hR.fl
  clear hm hb2 hba hT hL hR hTI hx hc
  generalize t.acts.length = A at *
  generalize t.nx.length = n at *
  go_wp2_with fail
  refine (unhide HC2).mono ?_
  clear HC2
  generalize w2.alloc (.cells #[.slice (some ⟨ab, a0, none⟩) A ac, .slice (some ⟨fb, f0, none⟩) n fc, .slice (some ⟨nb, n0, none⟩) n nc] 36) = w3 at *
  generalize w2.heap.size = tb at *
  rintro e w4 hm2
  rcases hm2.three.two with ⟨y, hy0, rfl, hb4⟩ | ⟨al', rs', u, hxu, hcu, bo, go, ho, bc, gc, hc, rv', rfl, hU, hQ, hb4⟩
  ·have hbb : Below w4.heap.size w4 (w4.alloc (.cells #[.slice none 0 0, .slice none 0 0, .slice none 0 0] 36)) := (Below.refl _ _).alloc (Nat.le_refl _) _
   have HB4 := hide ((unhide HB3).trans (hb4.mono (unhide HB3).size))
   have HB5 := hide ((unhide HB4).trans (hbb.mono (unhide HB4).size))
   have HUL := hide (blk_alloc w4 (.cells #[.slice none 0 0, .slice none 0 0, .slice none 0 0] 36))
   have hy1 : ¬ ((y : Nat) : Int) = 0 := by omega
   have h4b := (hb4.block _ (lt_of_blk (unhide HBL))).trans (unhide HBL)
   have HBL5 := hide ((hbb.block _ (lt_of_blk h4b)).trans h4b)
   have c0 := cell_of_blk h4b 0
   have c1 := cell_of_blk h4b 1
   have c2 := cell_of_blk h4b 2
   have l0 := lt_of_blk h4b
   have HL5 := hide (((unhide HL).later hb4).later hbb)
   have HTI5 := hide (((unhide HTI).later hb4).later hbb)
   clear hm2 hb4 hbb h4b hy0
   go_wp2_with fail
   refine (shaped_any _ t A n ab a0 fb f0 nb n0 ac fc nc rb ro rc (unhide HL5)).mono ?_
   generalize w4.alloc (.cells #[.slice none 0 0, .slice none 0 0, .slice none 0 0] 36) = w5 at *
   generalize w4.heap.size = ub at *
   clear c0 c1 c2 l0
   rintro e w6 ⟨rfl, hb6⟩
   have HB6 := hide ((unhide HB5).trans (hb6.mono (unhide HB5).size))
   have HBL6 := hide ((hb6.block _ (lt_of_blk (unhide HBL5))).trans (unhide HBL5))
   have HUL6 := hide ((hb6.block _ (lt_of_blk (unhide HUL))).trans (unhide HUL))
   have HL6 := hide ((unhide HL5).later hb6)
   have HTI6 := hide ((unhide HTI5).later hb6)
   clear HL5 HTI5
   clear hb6 HB5 HBL5 HUL
   have d0 := cell_of_blk (unhide HUL6) 0
   have d1 := cell_of_blk (unhide HUL6) 1
   have d2 := cell_of_blk (unhide HUL6) 2
   have l1 := lt_of_blk (unhide HUL6)
   go_wp2_with fail
   refine (shaped_nil _).mono ?_
   clear d0 d1 d2 l1
   rintro e w7 ⟨rfl, hb7⟩
   have HB7 := hide ((unhide HB6).trans (hb7.mono (unhide HB6).size))
   have HBL7 := hide ((hb7.block _ (lt_of_blk (unhide HBL6))).trans (unhide HBL6))
   have HUL7 := hide ((hb7.block _ (lt_of_blk (unhide HUL6))).trans (unhide HUL6))
   have HL7 := hide ((unhide HL6).later hb7)
   have HTI7 := hide ((unhide HTI6).later hb7)
   clear HL6 HTI6
   clear hb7 HB6 HBL6 HUL6
   have HSM := hide (same_any w7 (some ⟨ab, a0, none⟩) none ac 0 t.acts [] (unhide HTI7).acts (fun j x h => by simp at h) (unhide HTI7).al (by simp))
   rw [(unhide HL7).hA] at HSM
   have c0 := cell_of_blk (unhide HBL7) 0
   have l0 := lt_of_blk (unhide HBL7)
   have d0 := cell_of_blk (unhide HUL7) 0
   have l1 := lt_of_blk (unhide HUL7)
   go_wp2_with fail
   refine (unhide HSM).mono ?_
   clear HSM c0 l0 d0 l1
   rintro e w8 ⟨⟨b, rfl, hbt⟩, hb8⟩
   have HB8 := hide ((unhide HB7).trans (hb8.mono (unhide HB7).size))
   clear hb8 hbt
   go_wp2_with fail
   refine bodyPost_ret (v := .bool true) (by simp [results, Tryz.results8, go_sem]) rfl ?_
   exact ⟨rfl, unhide HB8⟩
  ·have hbb : Below w4.heap.size w4 (w4.alloc (.cells #[.slice bo u.acts.length bc, .slice go u.fl.length gc, .slice ho u.nx.length hc] 36)) := (Below.refl _ _).alloc (Nat.le_refl _) _
   have HB4 := hide ((unhide HB3).trans (hb4.mono (unhide HB3).size))
   have HB5 := hide ((unhide HB4).trans (hbb.mono (unhide HB4).size))
   have HUL := hide (blk_alloc w4 (.cells #[.slice bo u.acts.length bc, .slice go u.fl.length gc, .slice ho u.nx.length hc] 36))
   have hUI := ((hU.later hbb).read hQ.small).1
   obtain ⟨bb, b0, gb, g0, hb, h0, qb, qo, qc, rfl, rfl, rfl, hLu⟩ := tbl_of hUI hQ
   have h4b := (hb4.block _ (lt_of_blk (unhide HBL))).trans (unhide HBL)
   have HBL5 := hide ((hbb.block _ (lt_of_blk h4b)).trans h4b)
   have c0 := cell_of_blk h4b 0
   have c1 := cell_of_blk h4b 1
   have c2 := cell_of_blk h4b 2
   have l0 := lt_of_blk h4b
   have HL5 := hide (((unhide HL).later hb4).later hbb)
   have HTI5 := hide (((unhide HTI).later hb4).later hbb)
   rw [hQ.fl] at HUL HB5 hLu hUI HL5 HTI5 HBL5 ⊢
   have HLu := hide hLu
   have HUI := hide hUI
   have HALU := hide (comp_all hxu hcu)
   have HCu := hide hcu
   have HFLu := hide hQ.fl
   clear hm2 hb4 hbb hU hLu hQ hUI hxu hcu h4b
   generalize u.acts.length = B at *
   generalize u.nx.length = m at *
   go_wp2_with fail
   refine (shaped_any _ t A n ab a0 fb f0 nb n0 ac fc nc rb ro rc (unhide HL5)).mono ?_
   generalize w4.alloc (.cells #[.slice (some ⟨bb, b0, none⟩) B bc, .slice (some ⟨gb, g0, none⟩) m gc, .slice (some ⟨hb, h0, none⟩) m hc] 36) = w5 at *
   generalize w4.heap.size = ub at *
   clear c0 c1 c2 l0
   rintro e w6 ⟨rfl, hb6⟩
   have HB6 := hide ((unhide HB5).trans (hb6.mono (unhide HB5).size))
   have HBL6 := hide ((hb6.block _ (lt_of_blk (unhide HBL5))).trans (unhide HBL5))
   have HUL6 := hide ((hb6.block _ (lt_of_blk (unhide HUL))).trans (unhide HUL))
   have HL6 := hide ((unhide HL5).later hb6)
   have HTI6 := hide ((unhide HTI5).later hb6)
   clear HL5 HTI5
   have HLu6 := hide ((unhide HLu).later hb6)
   have HUI6 := hide ((unhide HUI).later hb6)
   clear HLu HUI
   clear hb6 HB5 HBL5 HUL
   have d0 := cell_of_blk (unhide HUL6) 0
   have d1 := cell_of_blk (unhide HUL6) 1
   have d2 := cell_of_blk (unhide HUL6) 2
   have l1 := lt_of_blk (unhide HUL6)
   go_wp2_with fail
   refine (shaped_any _ u B m bb b0 gb g0 hb h0 bc gc hc qb qo qc (unhide HLu6)).mono ?_
   clear d0 d1 d2 l1
   rintro e w7 ⟨rfl, hb7⟩
   have HB7 := hide ((unhide HB6).trans (hb7.mono (unhide HB6).size))
   have HBL7 := hide ((hb7.block _ (lt_of_blk (unhide HBL6))).trans (unhide HBL6))
   have HUL7 := hide ((hb7.block _ (lt_of_blk (unhide HUL6))).trans (unhide HUL6))
   have HL7 := hide ((unhide HL6).later hb7)
   have HTI7 := hide ((unhide HTI6).later hb7)
   clear HL6 HTI6
   have HLu7 := hide ((unhide HLu6).later hb7)
   have HUI7 := hide ((unhide HUI6).later hb7)
   clear HLu6 HUI6
   clear hb7 HB6 HBL6 HUL6
   have HSM := hide (same_any w7 (some ⟨ab, a0, none⟩) (some ⟨bb, b0, none⟩) ac bc t.acts u.acts (unhide HTI7).acts (unhide HUI7).acts (unhide HTI7).al (unhide HUI7).al)
   rw [(unhide HL7).hA] at HSM
   rw [(unhide HLu7).hA] at HSM
   have c0 := cell_of_blk (unhide HBL7) 0
   have l0 := lt_of_blk (unhide HBL7)
   have d0 := cell_of_blk (unhide HUL7) 0
   have l1 := lt_of_blk (unhide HUL7)
   go_wp2_with fail
   refine (unhide HSM).mono ?_
   clear HSM c0 l0 d0 l1
   rintro e w8 ⟨⟨b, rfl, hbt⟩, hb8⟩
   have HB8 := hide ((unhide HB7).trans (hb8.mono (unhide HB7).size))
   cases b with
   | false =>
    clear hb8 hbt
    go_wp2_with fail
    refine bodyPost_ret (v := .bool true) (by simp [results, Tryz.results8, go_sem]) rfl ?_
    exact ⟨rfl, unhide HB8⟩
   | true =>
    have hac := hbt.1 rfl
    have HBL8 := hide ((hb8.block _ (lt_of_blk (unhide HBL7))).trans (unhide HBL7))
    have HUL8 := hide ((hb8.block _ (lt_of_blk (unhide HUL7))).trans (unhide HUL7))
    have HL8 := hide ((unhide HL7).later hb8)
    have HTI8 := hide ((unhide HTI7).later hb8)
    have HLu8 := hide ((unhide HLu7).later hb8)
    have HUI8 := hide ((unhide HUI7).later hb8)
    have hBA : B = A := by have h1 := (unhide HLu8).hA; have h2 := (unhide HL8).hA; rw [← h1, ← hac]; exact h2
    subst hBA
    have HUA := hide (unhide HLu8).hA
    have HUN := hide (unhide HLu8).hn
    clear hb8 hbt HB7 HBL7 HUL7 HL7 HTI7 HLu7 HUI7
    have HAP : Hid (Calls Tryz.prog 24 #[.agg #[.slice (some ⟨ab, a0, none⟩) B ac, .slice (some ⟨fb, f0, none⟩) n fc, .slice (some ⟨nb, n0, none⟩) n nc], .agg #[.slice (some ⟨bb, b0, none⟩) B bc, .slice (some ⟨gb, g0, none⟩) m gc, .slice (some ⟨hb, h0, none⟩) m hc], .int .i64 0, .int .i64 0] w8 fun e w' => ApP t u B 0 0 w8 w' e ∧ Below w8.heap.size w8 w') :=
     apart_any w8 t u B n m ab a0 fb f0 nb n0 ac fc nc bb b0 gb g0 hb h0 bc gc hc rb ro rc qb qo qc (unhide HL8) (unhide HLu8) 0 0 (unhide HL8).n1 (unhide HLu8).n1
    have HAC := hide hac
    clear hac
    have c0 := cell_of_blk (unhide HBL8) 0
    have c1 := cell_of_blk (unhide HBL8) 1
    have c2 := cell_of_blk (unhide HBL8) 2
    have l0 := lt_of_blk (unhide HBL8)
    have d0 := cell_of_blk (unhide HUL8) 0
    have d1 := cell_of_blk (unhide HUL8) 1
    have d2 := cell_of_blk (unhide HUL8) 2
    have l1 := lt_of_blk (unhide HUL8)
    go_wp2_with fail
    refine (unhide HAP).mono ?_
    clear HAP c0 c1 c2 l0 d0 d1 d2 l1
    rintro e w9 ⟨hap, hb9⟩
    have HB9 := hide ((unhide HB8).trans (hb9.mono (unhide HB8).size))
    have HBL9 := hide ((hb9.block _ (lt_of_blk (unhide HBL8))).trans (unhide HBL8))
    have HUL9 := hide ((hb9.block _ (lt_of_blk (unhide HUL8))).trans (unhide HUL8))
    have HL9 := hide ((unhide HL8).later hb9)
    have HTI9 := hide ((unhide HTI8).later hb9)
    have HUI9 := hide ((unhide HUI8).later hb9)
    clear hb9 HBL8 HUL8 HL8 HTI8 HLu8 HUI8 HB8
    rcases hap with ⟨v, val, rfl, hv, hva, hvl, hne⟩ | ⟨rfl, hall⟩
    ·obtain ⟨lo, lc, rfl, hvi⟩ := hv.ins
     have HVI := hide hvi
     have HVA := hide hva
     have HH1 := hide ((unhide HALL).2.2.2 v hva)
     have hnm : v.map (nmT u) = v.map (nmT t) := List.map_congr_left fun a _ => by unfold nmT; rw [unhide HAC]
     have HH2 : Hid (holdsM r (v.map (nmT t)) = (accT u (runT u 0 v), 0)) := by
      have := (unhide HALU).2.2.2 v hva
      rw [hnm] at this
      exact this
     have HNE := hide hne
     clear hv hvi hva hne hnm
     obtain ⟨V, hV⟩ : ∃ V, v.length = V := ⟨_, rfl⟩
     rw [hV] at hvl ⊢
     have HV := hide hV
     clear hV
     go_wp2_with fail
     go_loopw [15, 16] (fun tv x wr => ∃ (i : Nat) (mo : Option Addr) (mc : Nat), i ≤ V ∧ x = .int .i64 i ∧ tv = .slice mo i mc ∧ Hid (Below w9.heap.size w9 wr) ∧ Hid (wr.ownsRow w9.heap.size 9 1 (.slice mo i mc) i (strsC ((v.take i).map (nmT t))))) (fun _ x _ => V - (intOf x).toNat)
     case atStart => exact ⟨0, none, 0, Nat.zero_le _, rfl, rfl, Below.refl _ _, ⟨rfl, Or.inl ⟨rfl, rfl⟩⟩⟩
     case round =>
      obtain ⟨i, mo, mc, hi, rfl, rfl, HBW, HOW⟩ := hrel
      by_cases hil : i < V
      ·have hin : (i : Int) < (V : Int) := by omega
       have hivl : i < v.length := by rw [unhide HV]; exact hil
       have haB := unhide HVA v[i] (List.getElem_mem hivl)
       have hvi : v[i]? = some v[i] := List.getElem?_eq_getElem hivl
       obtain ⟨lb, l1, rfl, hll, hlc⟩ := (unhide HVI).later (unhide HBW) i (v[i] : Int) (by unfold zI; rw [List.getElem?_map, hvi]; rfl)
       have HNX : Hid (v.take (i + 1) = v.take i ++ [v[i]]) := by show _ = _; rw [List.take_add_one, hvi]; rfl
       have HZI : Hid ((zI v)[i]? = some (v[i] : Int)) := by show _ = _; unfold zI; rw [List.getElem?_map, hvi]; rfl
       clear hvi
       generalize v[i] = a at *
       have haB' : a < t.acts.length := by rw [(unhide HL9).hA]; exact haB
       have hact := ((unhide HL9).later (unhide HBW)).act a t.acts[a] (List.getElem?_eq_getElem haB')
       have hla := ((unhide HL9).later (unhide HBW)).la
       have hnm : nmT t a = t.acts[a] := by unfold nmT; rw [List.getElem?_eq_getElem haB']; rfl
       rw [← hnm] at hact
       have hai : (a : Int) < (B : Int) := by omega
       have HAT0 : t.acts[a]? = some (nmT t a) := by rw [hnm]; exact List.getElem?_eq_getElem haB'
       clear hnm
       obtain ⟨sn, hs⟩ : ∃ sn, sn = nmT t a := ⟨_, rfl⟩
       rw [← hs] at hact HAT0
       have HAT := hide HAT0
       clear HAT0
       have HSN := hide hs
       clear hs
       have hBLr := ((unhide HBW).block _ (lt_of_blk (unhide HBL9))).trans (unhide HBL9)
       have c0 := cell_of_blk hBLr 0
       have l0 := lt_of_blk hBLr
       clear hBLr
       go_wp2_with fail
       refine wp_region_held_drew (S := fun w' => w'.cell? ⟨tb, 0, none⟩ = some (.slice (some ⟨ab, a0, none⟩) B ac) ∧ w'.cell? ⟨lb, l1 + i, none⟩ = some (.int .i64 (a : Int)) ∧ w'.cell? ⟨ab, a0 + a, none⟩ = some (.string sn)) (by kernel_rfl) ?_ (fun hHeld => ?_)
       ·exact ⟨c0, hlc, hact⟩
       refine wpAnyH_take (i := 0) (v := .slice mo i mc) rfl (by kernel_rfl) (by kernel_rfl) (by kernel_rfl) (fun _ _ _ h => h) (Or.inl ⟨by kernel_rfl, fun w hw => by obtain ⟨s0, s1, s2⟩ := hw; go_simp⟩) hHeld ?_
       try simp only [Act.put, zA, zB, zC, zD, zE, zF]
       refine wpAnyH_take (i := 1) (v := .pointer (some ⟨tb, 0, none⟩)) rfl (by kernel_rfl) (by kernel_rfl) (by kernel_rfl) (fun _ _ _ h => h) (Or.inl ⟨by kernel_rfl, fun w hw => by obtain ⟨s0, s1, s2⟩ := hw; go_simp⟩) hHeld ?_
       try simp only [Act.put, zA, zB, zC, zD, zE, zF]
       refine wpAnyH_take (i := 2) (v := .slice (some ⟨ab, a0, none⟩) B ac) rfl (by kernel_rfl) (by kernel_rfl) (by kernel_rfl) (fun _ _ _ h => h) (Or.inl ⟨by kernel_rfl, fun w hw => by obtain ⟨s0, s1, s2⟩ := hw; go_simp⟩) hHeld ?_
       try simp only [Act.put, zA, zB, zC, zD, zE, zF]
       refine wpAnyH_take (i := 3) (v := .slice (some ⟨lb, l1, none⟩) V lc) rfl (by kernel_rfl) (by kernel_rfl) (by kernel_rfl) (fun _ _ _ h => h) (Or.inl ⟨by kernel_rfl, fun w hw => by obtain ⟨s0, s1, s2⟩ := hw; go_simp⟩) hHeld ?_
       try simp only [Act.put, zA, zB, zC, zD, zE, zF]
       refine wpAnyH_take (i := 4) (v := .int .i64 (i : Int)) rfl (by kernel_rfl) (by kernel_rfl) (by kernel_rfl) (fun _ _ _ h => h) (Or.inl ⟨by kernel_rfl, fun w hw => by obtain ⟨s0, s1, s2⟩ := hw; go_simp⟩) hHeld ?_
       try simp only [Act.put, zA, zB, zC, zD, zE, zF]
       refine wpAnyH_take (i := 5) (v := .pointer (some ⟨lb, l1 + i, none⟩)) rfl (by kernel_rfl) (by kernel_rfl) (by kernel_rfl) (fun _ _ _ h => h) (Or.inl ⟨by kernel_rfl, fun w hw => by obtain ⟨s0, s1, s2⟩ := hw; go_simp⟩) hHeld ?_
       try simp only [Act.put, zA, zB, zC, zD, zE, zF]
       refine wpAnyH_take (i := 6) (v := .int .i64 (a : Int)) rfl (by kernel_rfl) (by kernel_rfl) (by kernel_rfl) (fun _ _ _ h => h) (Or.inl ⟨by kernel_rfl, fun w hw => by obtain ⟨s0, s1, s2⟩ := hw; go_simp⟩) hHeld ?_
       try simp only [Act.put, zA, zB, zC, zD, zE, zF]
       refine wpAnyH_take (i := 7) (v := .pointer (some ⟨ab, a0 + a, none⟩)) rfl (by kernel_rfl) (by kernel_rfl) (by kernel_rfl) (fun _ _ _ h => h) (Or.inl ⟨by kernel_rfl, fun w hw => by obtain ⟨s0, s1, s2⟩ := hw; go_simp⟩) hHeld ?_
       try simp only [Act.put, zA, zB, zC, zD, zE, zF]
       refine wpAnyH_take (i := 8) (v := .string sn) rfl (by kernel_rfl) (by kernel_rfl) (by kernel_rfl) (fun _ _ _ h => h) (Or.inl ⟨by kernel_rfl, fun w hw => by obtain ⟨s0, s1, s2⟩ := hw; go_simp⟩) hHeld ?_
       try simp only [Act.put, zA, zB, zC, zD, zE, zF]
       refine wpAnyH_ready (rs := [9]) (by kernel_rfl) (by simp) ?_
       refine AllReadyH.cons rfl (fun K hK => ?_) AllReadyH.nil
       go_simp
       refine hK.out _ _ ⟨(World.cell?_alloc_lt _ _ _ l0).trans c0, (World.cell?_alloc_lt _ _ _ hll).trans hlc, (World.cell?_alloc_lt _ _ _ hla).trans hact⟩ (fun hHeld => ?_)
       clear hK K
       refine wpAnyH_ready (rs := [10]) (by kernel_rfl) (by simp) ?_
       refine AllReadyH.cons rfl (fun K hK => ?_) AllReadyH.nil
       have hba : Below wr.heap.size wr (wr.alloc (.cells #[.string sn] 9)).drew := ((Below.refl _ _).alloc (Nat.le_refl _) _).drew
       refine step_append_lies _ (by rfl) _ _ 25 (by rfl) w9.heap.size 9 i0 (.string ⟨#[]⟩) 1 16 Tryz.underlying25 hi0 hz0 hz1 hz2 rfl (by decide) (.slice mo i mc) i (strsC ((v.take i).map (nmT t))) (by rfl) ?c0 ⟨wr.heap.size, 0, none⟩ 1 1 [.string sn] (by rfl) rfl ?c1 ?c2 (by decide) ?c3 ?c4 ?c5 (wr.heap.size + 1) (by simp) ?_
       case c0 => exact owns_later (unhide HOW) hba
       case c1 =>
        intro j u hj
        match j, hj with
        | 0, hj => simp at hj; subst hj; simp [Addr.add]
        | j + 1, hj => simp at hj
       case c2 => intro u hu; simp at hu; subst hu; rfl
       case c3 => unfold maxLen; omega
       case c4 => omega
       case c5 => have := (unhide HBW).size; simp; omega
       intro g4 cap4 w4' hown4 hgrow4 hat4 hlt4
       have hbw4 : Below w9.heap.size w9 w4' := ((unhide HBW).trans (hba.mono (unhide HBW).size)).grown hgrow4 (Nat.le_trans (unhide HBW).size hba.size) (fun b hb => own_base (owns_later (unhide HOW) hba) hb)
       refine hK.out _ _ ?keep (fun hHeld => ?_)
       case keep =>
        have k0 := (hbw4.block _ (lt_of_blk (unhide HBL9))).trans (unhide HBL9)
        obtain ⟨lb', l1', e1, _, k1⟩ := (unhide HVI).later hbw4 i (a : Int) (unhide HZI)
        cases e1
        have k2 := ((unhide HL9).later hbw4).act a sn (unhide HAT)
        exact ⟨cell_of_blk k0 0, k1, k2⟩
       clear hK K
       have HBW4 := hide hbw4
       have HOW4 : Hid (w4'.ownsRow w9.heap.size 9 1 (.slice (some ⟨g4, 0, none⟩) (i + 1) cap4) (i + 1) (strsC ((v.take (i + 1)).map (nmT t)))) := by
        have e : strsC ((v.take (i + 1)).map (nmT t)) = strsC ((v.take i).map (nmT t)) ++ [.string sn] := by
         rw [unhide HNX, List.map_append]
         unfold strsC
         rw [List.map_append, unhide HSN]
         rfl
        show World.ownsRow _ _ _ _ _ _ _
        rw [e]
        exact hown4
       clear hba hown4 hgrow4 hbw4 hlc hact hll hla c0 l0
       refine wpAnyH_take (i := 11) (v := .slice (some ⟨g4, 0, none⟩) (i + 1) cap4) rfl (by kernel_rfl) (by kernel_rfl) (by kernel_rfl) (fun _ _ _ h => h) (Or.inl ⟨by kernel_rfl, fun w hw => by obtain ⟨s0, s1, s2⟩ := hw; go_simp⟩) hHeld ?_
       try simp only [Act.put, zA, zB, zC, zD, zE, zF]
       refine wpAnyH_done (by kernel_rfl) ?_ _
       clear hHeld
       go_wp2_with fail
       go_roundw
       case rel => exact ⟨i + 1, some ⟨g4, 0, none⟩, cap4, by omega, by go_num, rfl, HBW4, HOW4⟩
       case measure => simp [intOf]; omega
      ·have hin : ¬ (i : Int) < (V : Int) := by omega
       obtain rfl : i = V := by omega
       have hta : v.take i = v := List.take_of_length_le (by rw [unhide HV]; exact Nat.le_refl _)
       have hol := unhide HOW
       rw [hta] at hol
       have HTX := hide (owns_txs hol (by rw [List.length_map]; exact unhide HV))
       have HBR := hide ((unhide HB9).trans ((unhide HBW).mono (unhide HB9).size))
       have HO1 := hide (Holds_any s (v.map (nmT t)) wr mo mc ((unhide HG).later (unhide HBR)).g (unhide HTX) (by rw [List.length_map, unhide HV]; omega))
       rw [List.length_map, unhide HV, unhide HH1] at HO1
       clear hol hta HOW
       go_wp2_with fail
       refine (unhide HO1).mono ?_
       rintro e w11 ⟨rfl, hb11⟩
       have HB11 := hide ((unhide HBR).trans (hb11.mono (unhide HBR).size))
       have HO2 := hide (Holds_any r (v.map (nmT t)) w11 mo mc ((unhide HG).later (unhide HB11)).g ((unhide HTX).later hb11) (by rw [List.length_map, unhide HV]; omega))
       rw [List.length_map, unhide HV, unhide HH2] at HO2
       have hne := unhide HNE
       clear hb11 HO1
       generalize accT t (runT t 0 v) = p1 at *
       generalize accT u (runT u 0 v) = p2 at *
       go_wp2_with fail
       refine (unhide HO2).mono ?_
       rintro e w12 ⟨rfl, hb12⟩
       have HB12 := hide ((unhide HB11).trans (hb12.mono (unhide HB11).size))
       clear hb12 HO2
       cases p1 <;> cases p2
       ·exact absurd rfl hne
       ·go_wp2_with fail
        refine bodyPost_ret (v := .bool true) (by simp [results, Tryz.results8, go_sem]) rfl ?_
        exact ⟨rfl, unhide HB12⟩
       ·go_wp2_with fail
        refine bodyPost_ret (v := .bool true) (by simp [results, Tryz.results8, go_sem]) rfl ?_
        exact ⟨rfl, unhide HB12⟩
       ·exact absurd rfl hne
    ·have heq : t = u := tab_alike (unhide HC) (unhide HCu) (unhide HAC) (fun v hv => hall v (fun a ha => by have := hv a ha; rw [(unhide HL9).hA] at this; exact this))
     have HAK := hide (kalike_any w9 (some ⟨ab, a0, none⟩) (some ⟨fb, f0, none⟩) (some ⟨nb, n0, none⟩) ac fc nc B n n (some ⟨bb, b0, none⟩) (some ⟨gb, g0, none⟩) (some ⟨hb, h0, none⟩) bc gc hc B m m t.z u.z (unhide HTI9) (unhide HUI9)
      (unhide HL9).hA.symm (by show n = (zI t.fl).length; unfold zI; rw [List.length_map, unhide HFL]) (by show n = (t.nx.map zI).length; rw [List.length_map]; exact (unhide HL9).hn.symm) (unhide HUA).symm (by show m = (zI u.fl).length; unfold zI; rw [List.length_map, unhide HFLu]) (by show m = (u.nx.map zI).length; rw [List.length_map]; exact (unhide HUN).symm))
     have c0 := cell_of_blk (unhide HBL9) 0
     have c1 := cell_of_blk (unhide HBL9) 1
     have c2 := cell_of_blk (unhide HBL9) 2
     have l0 := lt_of_blk (unhide HBL9)
     have d0 := cell_of_blk (unhide HUL9) 0
     have d1 := cell_of_blk (unhide HUL9) 1
     have d2 := cell_of_blk (unhide HUL9) 2
     have l1 := lt_of_blk (unhide HUL9)
     have HEQ := hide heq
     clear heq hall
     go_wp2_with fail
     refine (unhide HAK).mono ?_
     clear HAK c0 c1 c2 l0 d0 d1 d2 l1
     rintro e w10 ⟨⟨b, rfl, hbt⟩, hb10⟩
     have hb : b = true := hbt.2 (by rw [unhide HEQ])
     subst hb
     have HB10 := hide ((unhide HB9).trans (hb10.mono (unhide HB9).size))
     clear hbt hb10
     go_wp2_with fail
     refine bodyPost_ret (v := .bool true) (by simp [results, Tryz.results8, go_sem]) rfl ?_
     exact ⟨rfl, unhide HB10⟩
end Go.Proofs.YtidakhhekofkoaaGreatDoor
