/- The program's model: its walk. -/
import Derived.Test.YtidakhhekofkoaaGreatDoorX24
set_option linter.unusedSimpArgs false
open List renaming setIfInBounds_toArray → zA, set_cons_zero → zB, set_cons_succ → zC, getElem_toArray → zD, getElem_cons_succ → zE, getElem_cons_zero → zF
namespace Go.Proofs.YtidakhhekofkoaaGreatDoor
open Go.RowKit Go.Deep
set_option maxHeartbeats 8000000 in
set_option maxRecDepth 100000 in
theorem pmodel_any (w : World) (pb g cap B : Nat) (L : List Tk) (NM : List Tk) (h : PP w pb g cap B L 0 false 0 NM) :
  Calls Tryz.prog 114 #[.pointer (some ⟨pb, 0, none⟩)] w fun e w' => MoPost L pb g cap w w' e := by
 obtain ⟨i0, hi, hz0, hz1, hz2⟩ := info_parts Tryz.infoTokP
 obtain ⟨m0, hm0, hmz0, hmz1, hmz2⟩ := info_parts Tryz.infoRs
 have hp0 := h.pLt
 have hnm0 : NM.length ≤ 0 := h.nm rfl
 have hlen := h.len
 obtain ⟨t0, r0, ht0⟩ := PL_some h.fe h.lt
 obtain ⟨j0, b0, q0, hs0⟩ := Stp_ex (t0.k = 4) t0 L.length 0 false 0
 have hj0 : j0 < L.length := hs0.lt h.fe ht0 (fun e => by omega)
 obtain ⟨v, r1, hv⟩ := PL_some h.fe hj0
 obtain ⟨j1, b1, q1, hs1⟩ := Stp_ex (v.k = 2) v L.length j0 b0 q0
 have hj1 : j1 < L.length := hs1.lt h.fe hv (fun e => by omega)
 have HACT := hide (acts_first h.fe hlen ht0 hs0 hv hs1)
 have HP := hide h
 have HT0 := hide ht0
 have HS0 := hide hs0
 have HV := hide hv
 have HS1 := hide hs1
 have HFE := hide h.fe
 clear h ht0 hs0 hv hs1
 go_enter Tryz.func114, Tryz.ntmps114
 go_wp2_with fail
 refine (ptake_any 4 _ pb g cap B L 0 false 0 NM t0 r0 (((unhide HP).alloc _).alloc _) (unhide HT0) (by decide) j0 b0 q0 (unhide HS0)).mono ?_
 rintro e W2 ⟨rfl, hm2⟩
 have HM2 := hide ((((Mv.refl w pb g cap L.length 0 false 0).alloc _).alloc _).trans hm2)
 have HP2 := hide ((unhide HP).move (unhide HM2) hj0 (fun _ => by omega))
 have hsb : W2.heap[w.heap.size + 1]? = some (sbl none 0 0 none 0 0) := (hm2.gr.block (w.heap.size + 1) (by simp) (by simp; omega)).trans (blk_alloc' _ _ _ (by simp))
 have hrb : W2.heap[w.heap.size]? = some (sbl none 0 0 none 0 0) := (hm2.gr.block w.heap.size (by simp; omega) (by simp; omega)).trans ((Below.heap_alloc _ _ _ (by simp)).trans (blk_alloc _ _))
 have hsbl : w.heap.size + 1 < W2.heap.size := lt_of_blk hsb
 have HSB := hide hsb
 have HRB := hide hrb
 unfold sbl at hsb
 have bc := fun o => cell_of_blk hsb o
 have bf := fun o => frozen_of_blk hsb o
 have HOWN : Hid (W2.ownsRow w.heap.size 201 3 (.slice none 0 0) 0 (tkCellsP [])) := World.ownsRow_nil _ _ _ _
 have hnp : (Value.slice none 0 0).ownBlock ≠ some pb := by intro e; cases e
 clear hm2 hsb hrb
 simp only [tkP]
 go_upto_region 3 with fail
 go_cut [] (fun wc => MA w wc pb g cap L [v] j1 b1 q1 ∧ ActsAt L ((PL L 0).length - 1) [v] j1 b1 q1)
 case first =>
  refine wp_region_any (by kernel_rfl) ?_
  change wpAny _ _ _ _ _ _ _ (World.drew _)
  refine wpAny_take (i := 0) (v := .pointer (some ⟨w.heap.size + 1, 0, none⟩)) rfl (by kernel_rfl) (by kernel_rfl) (by kernel_rfl) (fun _ _ _ h => h) (Or.inl ⟨by kernel_rfl, fun w => by go_simp⟩) ?_
  try simp only [Act.put, zA, zB, zC, zD, zE, zF]
  refine wpAny_take (i := 2) (v := .pointer (some ⟨pb, 0, none⟩)) rfl (by kernel_rfl) (by kernel_rfl) (by kernel_rfl) (fun _ _ _ h => h) (Or.inl ⟨by kernel_rfl, fun w => by go_simp⟩) ?_
  try simp only [Act.put, zA, zB, zC, zD, zE, zF]
  refine wpAny_ready (rs := [1, 3]) (by kernel_rfl) (by simp) ?_
  refine AllReady.cons rfl (fun K hK => ?_) (AllReady.cons rfl (fun K hK => ?_) AllReady.nil)
  ·go_simp
   refine hK _ _ ?_
   clear hK K
   refine wpAny_ready (rs := [3]) (by kernel_rfl) (by simp) ?_
   refine AllReady.cons rfl (fun K hK => ?_) AllReady.nil
   go_simp
   go_wp2_with (go_at_call 153; refine (ptake_any 2 _ pb g cap B L j0 b0 q0 NM v r1 ((unhide HP2).later (Below.refl _ _).drew) (unhide HV) (by decide) j1 b1 q1 (unhide HS1)).mono ?_; rintro e w3 ⟨rfl, hm3⟩)
   have HM3 := hide hm3.from_drew
   have hsb3 := (hm3.gr.block (w.heap.size + 1) hsbl (by simp; omega)).trans (unhide HSB)
   have hrb3 := (hm3.gr.block w.heap.size (by show w.heap.size < W2.heap.size; omega) (by simp; omega)).trans (unhide HRB)
   have hown3 := owns_keep (unhide HOWN) hm3.from_drew.gr (Or.inr hnp)
   have hsz3 := hm3.gr.size
   have hsb3l : w.heap.size + 1 < w3.heap.size := lt_of_blk hsb3
   have HSB3 := hide hsb3
   have HRB3 := hide hrb3
   have HOWN3 := hide hown3
   unfold sbl at hsb3
   have bc3 := fun o => cell_of_blk hsb3 o
   have bf3 := fun o => frozen_of_blk hsb3 o
   clear hm3 hsb3 hown3 hrb3 bc bf
   simp only [tkP]
   refine wpAny_ready (rs := [4]) (by kernel_rfl) (by simp) ?_
   refine AllReady.cons rfl (fun K hK => ?_) AllReady.nil
   go_simp
   refine hK _ _ ?_
   clear hK K
   refine wpAny_ready (rs := [5]) (by kernel_rfl) (by simp) ?_
   refine AllReady.cons rfl (fun K hK => ?_) AllReady.nil
   refine step_append_lies _ (by rfl) _ _ 125 (by rfl) w.heap.size 201 i0 (.agg #[.int .i64 0, .string ⟨#[]⟩, .int .i64 0]) 3 32 Tryz.underlying125 hi hz0 hz1 hz2 rfl (by decide) (.slice none 0 0) 0 (tkCellsP []) (by rfl) ?c0 ⟨w3.heap.size, 0, none⟩ 1 1 [.int .i64 v.k, .string v.s, .int .i64 v.p] (by rfl) rfl ?c1 ?c2 (by decide) ?c3 ?c4 ?c5 (w3.heap.size + 1) (by simp) ?_
   case c0 => exact (unhide HOWN3).alloc _
   case c1 =>
    intro j u hj
    match j, hj with
    | 0, hj => simp at hj; subst hj; simp [Addr.add]
    | 1, hj => simp at hj; subst hj; simp [Addr.add]
    | 2, hj => simp at hj; subst hj; simp [Addr.add]
    | j + 3, hj => simp at hj
   case c2 => intro u hu; simp at hu; rcases hu with rfl | rfl | rfl <;> rfl
   case c3 => unfold maxLen; omega
   case c4 => omega
   case c5 => simp; omega
   intro g4 cap4 w4 hown4 hgrow4 hat4 hlt4
   have hsb4 := (hgrow4.block (w.heap.size + 1) (by simp; omega) (fun e => own_ty (unhide HOWN3) e.symm (unhide HSB3) (by decide))).trans ((Below.heap_alloc _ _ _ hsb3l).trans (unhide HSB3))
   have hrb4 := (hgrow4.block w.heap.size (by simp; omega) (fun e => own_ty (unhide HOWN3) e.symm (unhide HRB3) (by decide))).trans ((Below.heap_alloc _ _ _ (by omega)).trans (unhide HRB3))
   have HG4 := hide hgrow4
   have HOWN4 := hide hown4
   have HSB4 := hide hsb4
   have HRB4 := hide hrb4
   unfold sbl at hsb4
   have bc4 := fun o => cell_of_blk hsb4 o
   have bf4 := fun o => frozen_of_blk hsb4 o
   have hsb4l : w.heap.size + 1 < w4.heap.size := lt_of_blk hsb4
   refine hK _ _ ?_
   clear hK K hgrow4 hown4 hsb4 hrb4 bc3 bf3
   refine wpAny_take (i := 6) (v := .pointer (some ⟨w.heap.size + 1, 0, none⟩)) rfl (by kernel_rfl) (by kernel_rfl) (by kernel_rfl) (fun _ _ _ h => h) (Or.inl ⟨by kernel_rfl, fun w => by go_simp⟩) ?_
   try simp only [Act.put, zA, zB, zC, zD, zE, zF]
   refine wpAny_ready (rs := [7]) (by kernel_rfl) (by simp) ?_
   refine AllReady.cons rfl (fun K hK => ?_) AllReady.nil
   go_simp
   refine hK _ _ ?_
   clear hK K
   refine wpAny_done (by kernel_rfl) ?_ _
   go_wp2_with fail
   go_meet
   refine ⟨?_, unhide HACT⟩
   exact ⟨(Below.heap_setCell _ _ _ _ (by show w.heap.size ≠ w.heap.size + 1; omega)).trans (unhide HRB4), ⟨some ⟨g4, 0, none⟩, 0 + 1, cap4, blk_set (unhide HSB4) 0 _, owns_keep (unhide HOWN4) (grown_set _ _ _ _) (Or.inr (fun e => own_ty (unhide HOWN4) e (unhide HSB4) (by decide)))⟩, ((((unhide HM2).trans (unhide HM3)).alloc _).row (unhide HG4) (fun k e => (own_lt (unhide HOWN3) k e).1) hp0).setNew (by omega) hp0 _ _, hj1⟩
  ·go_simp
   go_wp2_with (go_at_call 153; refine (ptake_any 2 _ pb g cap B L j0 b0 q0 NM v r1 ((unhide HP2).later (Below.refl _ _).drew) (unhide HV) (by decide) j1 b1 q1 (unhide HS1)).mono ?_; rintro e w3 ⟨rfl, hm3⟩)
   have HM3 := hide hm3.from_drew
   have hsb3 := (hm3.gr.block (w.heap.size + 1) hsbl (by simp; omega)).trans (unhide HSB)
   have hrb3 := (hm3.gr.block w.heap.size (by show w.heap.size < W2.heap.size; omega) (by simp; omega)).trans (unhide HRB)
   have hown3 := owns_keep (unhide HOWN) hm3.from_drew.gr (Or.inr hnp)
   have hsz3 := hm3.gr.size
   have hsb3l : w.heap.size + 1 < w3.heap.size := lt_of_blk hsb3
   have HSB3 := hide hsb3
   have HRB3 := hide hrb3
   have HOWN3 := hide hown3
   unfold sbl at hsb3
   have bc3 := fun o => cell_of_blk hsb3 o
   have bf3 := fun o => frozen_of_blk hsb3 o
   clear hm3 hsb3 hown3 hrb3 bc bf
   simp only [tkP]
   refine wpAny_ready (rs := [1, 4]) (by kernel_rfl) (by simp) ?_
   refine AllReady.cons rfl (fun K hK => ?_) (AllReady.cons rfl (fun K hK => ?_) AllReady.nil)
   ·go_simp
    refine hK _ _ ?_
    clear hK K
    refine wpAny_ready (rs := [4]) (by kernel_rfl) (by simp) ?_
    refine AllReady.cons rfl (fun K hK => ?_) AllReady.nil
    go_simp
    refine hK _ _ ?_
    clear hK K
    refine wpAny_ready (rs := [5]) (by kernel_rfl) (by simp) ?_
    refine AllReady.cons rfl (fun K hK => ?_) AllReady.nil
    refine step_append_lies _ (by rfl) _ _ 125 (by rfl) w.heap.size 201 i0 (.agg #[.int .i64 0, .string ⟨#[]⟩, .int .i64 0]) 3 32 Tryz.underlying125 hi hz0 hz1 hz2 rfl (by decide) (.slice none 0 0) 0 (tkCellsP []) (by rfl) ?c0 ⟨w3.heap.size, 0, none⟩ 1 1 [.int .i64 v.k, .string v.s, .int .i64 v.p] (by rfl) rfl ?c1 ?c2 (by decide) ?c3 ?c4 ?c5 (w3.heap.size + 1) (by simp) ?_
    case c0 => exact (unhide HOWN3).alloc _
    case c1 =>
     intro j u hj
     match j, hj with
     | 0, hj => simp at hj; subst hj; simp [Addr.add]
     | 1, hj => simp at hj; subst hj; simp [Addr.add]
     | 2, hj => simp at hj; subst hj; simp [Addr.add]
     | j + 3, hj => simp at hj
    case c2 => intro u hu; simp at hu; rcases hu with rfl | rfl | rfl <;> rfl
    case c3 => unfold maxLen; omega
    case c4 => omega
    case c5 => simp; omega
    intro g4 cap4 w4 hown4 hgrow4 hat4 hlt4
    have hsb4 := (hgrow4.block (w.heap.size + 1) (by simp; omega) (fun e => own_ty (unhide HOWN3) e.symm (unhide HSB3) (by decide))).trans ((Below.heap_alloc _ _ _ hsb3l).trans (unhide HSB3))
    have hrb4 := (hgrow4.block w.heap.size (by simp; omega) (fun e => own_ty (unhide HOWN3) e.symm (unhide HRB3) (by decide))).trans ((Below.heap_alloc _ _ _ (by omega)).trans (unhide HRB3))
    have HG4 := hide hgrow4
    have HOWN4 := hide hown4
    have HSB4 := hide hsb4
    have HRB4 := hide hrb4
    unfold sbl at hsb4
    have bc4 := fun o => cell_of_blk hsb4 o
    have bf4 := fun o => frozen_of_blk hsb4 o
    have hsb4l : w.heap.size + 1 < w4.heap.size := lt_of_blk hsb4
    refine hK _ _ ?_
    clear hK K hgrow4 hown4 hsb4 hrb4 bc3 bf3
    refine wpAny_take (i := 6) (v := .pointer (some ⟨w.heap.size + 1, 0, none⟩)) rfl (by kernel_rfl) (by kernel_rfl) (by kernel_rfl) (fun _ _ _ h => h) (Or.inl ⟨by kernel_rfl, fun w => by go_simp⟩) ?_
    try simp only [Act.put, zA, zB, zC, zD, zE, zF]
    refine wpAny_ready (rs := [7]) (by kernel_rfl) (by simp) ?_
    refine AllReady.cons rfl (fun K hK => ?_) AllReady.nil
    go_simp
    refine hK _ _ ?_
    clear hK K
    refine wpAny_done (by kernel_rfl) ?_ _
    go_wp2_with fail
    go_meet
    refine ⟨?_, unhide HACT⟩
    exact ⟨(Below.heap_setCell _ _ _ _ (by show w.heap.size ≠ w.heap.size + 1; omega)).trans (unhide HRB4), ⟨some ⟨g4, 0, none⟩, 0 + 1, cap4, blk_set (unhide HSB4) 0 _, owns_keep (unhide HOWN4) (grown_set _ _ _ _) (Or.inr (fun e => own_ty (unhide HOWN4) e (unhide HSB4) (by decide)))⟩, ((((unhide HM2).trans (unhide HM3)).alloc _).row (unhide HG4) (fun k e => (own_lt (unhide HOWN3) k e).1) hp0).setNew (by omega) hp0 _ _, hj1⟩
   ·go_simp
    refine hK _ _ ?_
    clear hK K
    refine wpAny_ready (rs := [1]) (by kernel_rfl) (by simp) ?_
    refine AllReady.cons rfl (fun K hK => ?_) AllReady.nil
    go_simp
    refine hK _ _ ?_
    clear hK K
    refine wpAny_ready (rs := [5]) (by kernel_rfl) (by simp) ?_
    refine AllReady.cons rfl (fun K hK => ?_) AllReady.nil
    refine step_append_lies _ (by rfl) _ _ 125 (by rfl) w.heap.size 201 i0 (.agg #[.int .i64 0, .string ⟨#[]⟩, .int .i64 0]) 3 32 Tryz.underlying125 hi hz0 hz1 hz2 rfl (by decide) (.slice none 0 0) 0 (tkCellsP []) (by rfl) ?c0 ⟨w3.heap.size, 0, none⟩ 1 1 [.int .i64 v.k, .string v.s, .int .i64 v.p] (by rfl) rfl ?c1 ?c2 (by decide) ?c3 ?c4 ?c5 (w3.heap.size + 1) (by simp) ?_
    case c0 => exact (unhide HOWN3).alloc _
    case c1 =>
     intro j u hj
     match j, hj with
     | 0, hj => simp at hj; subst hj; simp [Addr.add]
     | 1, hj => simp at hj; subst hj; simp [Addr.add]
     | 2, hj => simp at hj; subst hj; simp [Addr.add]
     | j + 3, hj => simp at hj
    case c2 => intro u hu; simp at hu; rcases hu with rfl | rfl | rfl <;> rfl
    case c3 => unfold maxLen; omega
    case c4 => omega
    case c5 => simp; omega
    intro g4 cap4 w4 hown4 hgrow4 hat4 hlt4
    have hsb4 := (hgrow4.block (w.heap.size + 1) (by simp; omega) (fun e => own_ty (unhide HOWN3) e.symm (unhide HSB3) (by decide))).trans ((Below.heap_alloc _ _ _ hsb3l).trans (unhide HSB3))
    have hrb4 := (hgrow4.block w.heap.size (by simp; omega) (fun e => own_ty (unhide HOWN3) e.symm (unhide HRB3) (by decide))).trans ((Below.heap_alloc _ _ _ (by omega)).trans (unhide HRB3))
    have HG4 := hide hgrow4
    have HOWN4 := hide hown4
    have HSB4 := hide hsb4
    have HRB4 := hide hrb4
    unfold sbl at hsb4
    have bc4 := fun o => cell_of_blk hsb4 o
    have bf4 := fun o => frozen_of_blk hsb4 o
    have hsb4l : w.heap.size + 1 < w4.heap.size := lt_of_blk hsb4
    refine hK _ _ ?_
    clear hK K hgrow4 hown4 hsb4 hrb4 bc3 bf3
    refine wpAny_take (i := 6) (v := .pointer (some ⟨w.heap.size + 1, 0, none⟩)) rfl (by kernel_rfl) (by kernel_rfl) (by kernel_rfl) (fun _ _ _ h => h) (Or.inl ⟨by kernel_rfl, fun w => by go_simp⟩) ?_
    try simp only [Act.put, zA, zB, zC, zD, zE, zF]
    refine wpAny_ready (rs := [7]) (by kernel_rfl) (by simp) ?_
    refine AllReady.cons rfl (fun K hK => ?_) AllReady.nil
    go_simp
    refine hK _ _ ?_
    clear hK K
    refine wpAny_done (by kernel_rfl) ?_ _
    go_wp2_with fail
    go_meet
    refine ⟨?_, unhide HACT⟩
    exact ⟨(Below.heap_setCell _ _ _ _ (by show w.heap.size ≠ w.heap.size + 1; omega)).trans (unhide HRB4), ⟨some ⟨g4, 0, none⟩, 0 + 1, cap4, blk_set (unhide HSB4) 0 _, owns_keep (unhide HOWN4) (grown_set _ _ _ _) (Or.inr (fun e => own_ty (unhide HOWN4) e (unhide HSB4) (by decide)))⟩, ((((unhide HM2).trans (unhide HM3)).alloc _).row (unhide HG4) (fun k e => (own_lt (unhide HOWN3) k e).1) hp0).setNew (by omega) hp0 _ _, hj1⟩
 case rest =>
  have HCUT := hide hcut
  clear hcut bc bf HOWN hnp HSB HRB HM2 HP2 hsbl
  go_wp2_with fail
  go_loopg [] ((PL L 0).length - 1) (fun m wr => ∃ A j b q, MA w wr pb g cap L A j b q ∧ ActsAt L m A j b q)
  case atStart => exact ⟨_, _, _, _, unhide HCUT⟩
  case round =>
   clear HCUT
   obtain ⟨A, j, b, q, hma, hact⟩ := hrel
   obtain ⟨y, r2, hy⟩ := PL_some (unhide HFE) hma.lt
   have HPJ := hide ((unhide HP).move hma.mv hma.lt (fun _ => by omega))
   have HMA := hide hma
   have HY := hide hy
   have hjlt := hma.lt
   by_cases h20 : y.k = 20
   ·have hj11 : j + 1 < L.length := (unhide HFE).nextLt hy (by omega)
    obtain ⟨v, r3, hv⟩ := PL_some (unhide HFE) hj11
    obtain ⟨j2, b2, q2, hs2⟩ := Stp_ex (v.k = 2) v L.length (j + 1) b q
    have hj2 : j2 < L.length := hs2.lt (unhide HFE) hv (fun e => by omega)
    obtain ⟨hgk, hA, hact2⟩ := acts_round (unhide HFE) hact hy h20 hv hs2
    have HACT2 := hide hact2
    have HV := hide hv
    have HS2 := hide hs2
    have H20 := hide h20
    clear hma hact hy h20 hv hs2 hact2
    go_wp2_with fail
    refine (pskip_yes 20 _ _ _ _ _ _ _ _ _ _ _ _ (unhide HPJ) (unhide HY) (unhide H20) (by decide)).mono ?_
    rintro e W2 ⟨rfl, hm2⟩
    have HM2 := hide ((unhide HMA).mv.trans hm2)
    have HP2 := hide ((unhide HP).move (unhide HM2) hj11 (fun _ => by omega))
    obtain ⟨o1, n1, k1, hsb0, hown0⟩ := (unhide HMA).sbx
    have hsb := (hm2.gr.block (w.heap.size + 1) (lt_of_blk hsb0) (by simp; omega)).trans hsb0
    have hrb := (hm2.gr.block w.heap.size (lt_of_blk (unhide HMA).rbx) (by simp; omega)).trans (unhide HMA).rbx
    have hnp : (Value.slice o1 n1 k1).ownBlock ≠ some pb := own_ne hown0 hp0
    have HOWN := hide (owns_keep hown0 hm2.gr (Or.inr hnp))
    have hsbl : w.heap.size + 1 < W2.heap.size := lt_of_blk hsb
    have HSB := hide hsb
    have HRB := hide hrb
    unfold sbl at hsb
    have bc := fun o => cell_of_blk hsb o
    have bf := fun o => frozen_of_blk hsb o
    clear hm2 hsb hrb hsb0 hown0
    go_upto_region 5 with fail
    refine wp_region_any (by kernel_rfl) ?_
    change wpAny _ _ _ _ _ _ _ (World.drew _)
    refine wpAny_take (i := 0) (v := .pointer (some ⟨w.heap.size + 1, 0, none⟩)) rfl (by kernel_rfl) (by kernel_rfl) (by kernel_rfl) (fun _ _ _ h => h) (Or.inl ⟨by kernel_rfl, fun w => by go_simp⟩) ?_
    try simp only [Act.put, zA, zB, zC, zD, zE, zF]
    refine wpAny_take (i := 2) (v := .pointer (some ⟨pb, 0, none⟩)) rfl (by kernel_rfl) (by kernel_rfl) (by kernel_rfl) (fun _ _ _ h => h) (Or.inl ⟨by kernel_rfl, fun w => by go_simp⟩) ?_
    try simp only [Act.put, zA, zB, zC, zD, zE, zF]
    refine wpAny_ready (rs := [1, 3]) (by kernel_rfl) (by simp) ?_
    refine AllReady.cons rfl (fun K hK => ?_) (AllReady.cons rfl (fun K hK => ?_) AllReady.nil)
    ·go_simp
     refine hK _ _ ?_
     clear hK K
     refine wpAny_ready (rs := [3]) (by kernel_rfl) (by simp) ?_
     refine AllReady.cons rfl (fun K hK => ?_) AllReady.nil
     go_simp
     go_wp2_with (go_at_call 153; refine (ptake_any 2 _ pb g cap B L (j + 1) b q NM v r3 ((unhide HP2).later (Below.refl _ _).drew) (unhide HV) (by decide) j2 b2 q2 (unhide HS2)).mono ?_; rintro e w3 ⟨rfl, hm3⟩)
     have HM3 := hide hm3.from_drew
     have hsb3 := (hm3.gr.block (w.heap.size + 1) hsbl (by simp; omega)).trans (unhide HSB)
     have hrb3 := (hm3.gr.block w.heap.size (by show w.heap.size < W2.heap.size; omega) (by simp; omega)).trans (unhide HRB)
     have hown3 := owns_keep (unhide HOWN) hm3.from_drew.gr (Or.inr hnp)
     have hsz3 := hm3.gr.size
     have hsb3l : w.heap.size + 1 < w3.heap.size := lt_of_blk hsb3
     have HSB3 := hide hsb3
     have HRB3 := hide hrb3
     have HOWN3 := hide hown3
     unfold sbl at hsb3
     have bc3 := fun o => cell_of_blk hsb3 o
     have bf3 := fun o => frozen_of_blk hsb3 o
     clear hm3 hsb3 hown3 hrb3 bc bf
     simp only [tkP]
     refine wpAny_ready (rs := [4]) (by kernel_rfl) (by simp) ?_
     refine AllReady.cons rfl (fun K hK => ?_) AllReady.nil
     go_simp
     refine hK _ _ ?_
     clear hK K
     refine wpAny_ready (rs := [5]) (by kernel_rfl) (by simp) ?_
     refine AllReady.cons rfl (fun K hK => ?_) AllReady.nil
     refine step_append_lies _ (by rfl) _ _ 125 (by rfl) w.heap.size 201 i0 (.agg #[.int .i64 0, .string ⟨#[]⟩, .int .i64 0]) 3 32 Tryz.underlying125 hi hz0 hz1 hz2 rfl (by decide) (.slice o1 n1 k1) A.length (tkCellsP A) (by rfl) ?c0 ⟨w3.heap.size, 0, none⟩ 1 1 [.int .i64 v.k, .string v.s, .int .i64 v.p] (by rfl) rfl ?c1 ?c2 (by decide) ?c3 ?c4 ?c5 (w3.heap.size + 1) (by simp) ?_
     case c0 => exact (unhide HOWN3).alloc _
     case c1 =>
      intro j u hj
      match j, hj with
      | 0, hj => simp at hj; subst hj; simp [Addr.add]
      | 1, hj => simp at hj; subst hj; simp [Addr.add]
      | 2, hj => simp at hj; subst hj; simp [Addr.add]
      | j + 3, hj => simp at hj
     case c2 => intro u hu; simp at hu; rcases hu with rfl | rfl | rfl <;> rfl
     case c3 => unfold maxLen; omega
     case c4 => omega
     case c5 => simp; omega
     intro g4 cap4 w4 hown4 hgrow4 hat4 hlt4
     have hsb4 := (hgrow4.block (w.heap.size + 1) (by simp; omega) (fun e => own_ty (unhide HOWN3) e.symm (unhide HSB3) (by decide))).trans ((Below.heap_alloc _ _ _ hsb3l).trans (unhide HSB3))
     have hrb4 := (hgrow4.block w.heap.size (by simp; omega) (fun e => own_ty (unhide HOWN3) e.symm (unhide HRB3) (by decide))).trans ((Below.heap_alloc _ _ _ (by omega)).trans (unhide HRB3))
     have HG4 := hide hgrow4
     have HOWN4 := hide hown4
     have HSB4 := hide hsb4
     have HRB4 := hide hrb4
     unfold sbl at hsb4
     have bc4 := fun o => cell_of_blk hsb4 o
     have bf4 := fun o => frozen_of_blk hsb4 o
     have hsb4l : w.heap.size + 1 < w4.heap.size := lt_of_blk hsb4
     refine hK _ _ ?_
     clear hK K hgrow4 hown4 hsb4 hrb4 bc3 bf3
     refine wpAny_take (i := 6) (v := .pointer (some ⟨w.heap.size + 1, 0, none⟩)) rfl (by kernel_rfl) (by kernel_rfl) (by kernel_rfl) (fun _ _ _ h => h) (Or.inl ⟨by kernel_rfl, fun w => by go_simp⟩) ?_
     try simp only [Act.put, zA, zB, zC, zD, zE, zF]
     refine wpAny_ready (rs := [7]) (by kernel_rfl) (by simp) ?_
     refine AllReady.cons rfl (fun K hK => ?_) AllReady.nil
     go_simp
     refine hK _ _ ?_
     clear hK K
     refine wpAny_done (by kernel_rfl) ?_ _
     go_wp2_with fail
     go_roundg (gk - 1)
     case measure => omega
     case rel =>
      refine ⟨A ++ [v], j2, b2, q2, ?_, unhide HACT2⟩
      refine ⟨(Below.heap_setCell _ _ _ _ (by show w.heap.size ≠ w.heap.size + 1; omega)).trans (unhide HRB4), ⟨some ⟨g4, 0, none⟩, A.length + 1, cap4, blk_set (unhide HSB4) 0 _, ?_⟩, ((((unhide HM2).trans (unhide HM3)).alloc _).row (unhide HG4) (fun k e => (own_lt (unhide HOWN3) k e).1) hp0).setNew (by omega) hp0 _ _, hj2⟩
      rw [tkCellsP_snoc, List.length_append]
      exact owns_keep (unhide HOWN4) (grown_set _ _ _ _) (Or.inr (fun e => own_ty (unhide HOWN4) e (unhide HSB4) (by decide)))
    ·go_simp
     go_wp2_with (go_at_call 153; refine (ptake_any 2 _ pb g cap B L (j + 1) b q NM v r3 ((unhide HP2).later (Below.refl _ _).drew) (unhide HV) (by decide) j2 b2 q2 (unhide HS2)).mono ?_; rintro e w3 ⟨rfl, hm3⟩)
     have HM3 := hide hm3.from_drew
     have hsb3 := (hm3.gr.block (w.heap.size + 1) hsbl (by simp; omega)).trans (unhide HSB)
     have hrb3 := (hm3.gr.block w.heap.size (by show w.heap.size < W2.heap.size; omega) (by simp; omega)).trans (unhide HRB)
     have hown3 := owns_keep (unhide HOWN) hm3.from_drew.gr (Or.inr hnp)
     have hsz3 := hm3.gr.size
     have hsb3l : w.heap.size + 1 < w3.heap.size := lt_of_blk hsb3
     have HSB3 := hide hsb3
     have HRB3 := hide hrb3
     have HOWN3 := hide hown3
     unfold sbl at hsb3
     have bc3 := fun o => cell_of_blk hsb3 o
     have bf3 := fun o => frozen_of_blk hsb3 o
     clear hm3 hsb3 hown3 hrb3 bc bf
     simp only [tkP]
     refine wpAny_ready (rs := [1, 4]) (by kernel_rfl) (by simp) ?_
     refine AllReady.cons rfl (fun K hK => ?_) (AllReady.cons rfl (fun K hK => ?_) AllReady.nil)
     ·go_simp
      refine hK _ _ ?_
      clear hK K
      refine wpAny_ready (rs := [4]) (by kernel_rfl) (by simp) ?_
      refine AllReady.cons rfl (fun K hK => ?_) AllReady.nil
      go_simp
      refine hK _ _ ?_
      clear hK K
      refine wpAny_ready (rs := [5]) (by kernel_rfl) (by simp) ?_
      refine AllReady.cons rfl (fun K hK => ?_) AllReady.nil
      refine step_append_lies _ (by rfl) _ _ 125 (by rfl) w.heap.size 201 i0 (.agg #[.int .i64 0, .string ⟨#[]⟩, .int .i64 0]) 3 32 Tryz.underlying125 hi hz0 hz1 hz2 rfl (by decide) (.slice o1 n1 k1) A.length (tkCellsP A) (by rfl) ?c0 ⟨w3.heap.size, 0, none⟩ 1 1 [.int .i64 v.k, .string v.s, .int .i64 v.p] (by rfl) rfl ?c1 ?c2 (by decide) ?c3 ?c4 ?c5 (w3.heap.size + 1) (by simp) ?_
      case c0 => exact (unhide HOWN3).alloc _
      case c1 =>
       intro j u hj
       match j, hj with
       | 0, hj => simp at hj; subst hj; simp [Addr.add]
       | 1, hj => simp at hj; subst hj; simp [Addr.add]
       | 2, hj => simp at hj; subst hj; simp [Addr.add]
       | j + 3, hj => simp at hj
      case c2 => intro u hu; simp at hu; rcases hu with rfl | rfl | rfl <;> rfl
      case c3 => unfold maxLen; omega
      case c4 => omega
      case c5 => simp; omega
      intro g4 cap4 w4 hown4 hgrow4 hat4 hlt4
      have hsb4 := (hgrow4.block (w.heap.size + 1) (by simp; omega) (fun e => own_ty (unhide HOWN3) e.symm (unhide HSB3) (by decide))).trans ((Below.heap_alloc _ _ _ hsb3l).trans (unhide HSB3))
      have hrb4 := (hgrow4.block w.heap.size (by simp; omega) (fun e => own_ty (unhide HOWN3) e.symm (unhide HRB3) (by decide))).trans ((Below.heap_alloc _ _ _ (by omega)).trans (unhide HRB3))
      have HG4 := hide hgrow4
      have HOWN4 := hide hown4
      have HSB4 := hide hsb4
      have HRB4 := hide hrb4
      unfold sbl at hsb4
      have bc4 := fun o => cell_of_blk hsb4 o
      have bf4 := fun o => frozen_of_blk hsb4 o
      have hsb4l : w.heap.size + 1 < w4.heap.size := lt_of_blk hsb4
      refine hK _ _ ?_
      clear hK K hgrow4 hown4 hsb4 hrb4 bc3 bf3
      refine wpAny_take (i := 6) (v := .pointer (some ⟨w.heap.size + 1, 0, none⟩)) rfl (by kernel_rfl) (by kernel_rfl) (by kernel_rfl) (fun _ _ _ h => h) (Or.inl ⟨by kernel_rfl, fun w => by go_simp⟩) ?_
      try simp only [Act.put, zA, zB, zC, zD, zE, zF]
      refine wpAny_ready (rs := [7]) (by kernel_rfl) (by simp) ?_
      refine AllReady.cons rfl (fun K hK => ?_) AllReady.nil
      go_simp
      refine hK _ _ ?_
      clear hK K
      refine wpAny_done (by kernel_rfl) ?_ _
      go_wp2_with fail
      go_roundg (gk - 1)
      case measure => omega
      case rel =>
       refine ⟨A ++ [v], j2, b2, q2, ?_, unhide HACT2⟩
       refine ⟨(Below.heap_setCell _ _ _ _ (by show w.heap.size ≠ w.heap.size + 1; omega)).trans (unhide HRB4), ⟨some ⟨g4, 0, none⟩, A.length + 1, cap4, blk_set (unhide HSB4) 0 _, ?_⟩, ((((unhide HM2).trans (unhide HM3)).alloc _).row (unhide HG4) (fun k e => (own_lt (unhide HOWN3) k e).1) hp0).setNew (by omega) hp0 _ _, hj2⟩
       rw [tkCellsP_snoc, List.length_append]
       exact owns_keep (unhide HOWN4) (grown_set _ _ _ _) (Or.inr (fun e => own_ty (unhide HOWN4) e (unhide HSB4) (by decide)))
     ·go_simp
      refine hK _ _ ?_
      clear hK K
      refine wpAny_ready (rs := [1]) (by kernel_rfl) (by simp) ?_
      refine AllReady.cons rfl (fun K hK => ?_) AllReady.nil
      go_simp
      refine hK _ _ ?_
      clear hK K
      refine wpAny_ready (rs := [5]) (by kernel_rfl) (by simp) ?_
      refine AllReady.cons rfl (fun K hK => ?_) AllReady.nil
      refine step_append_lies _ (by rfl) _ _ 125 (by rfl) w.heap.size 201 i0 (.agg #[.int .i64 0, .string ⟨#[]⟩, .int .i64 0]) 3 32 Tryz.underlying125 hi hz0 hz1 hz2 rfl (by decide) (.slice o1 n1 k1) A.length (tkCellsP A) (by rfl) ?c0 ⟨w3.heap.size, 0, none⟩ 1 1 [.int .i64 v.k, .string v.s, .int .i64 v.p] (by rfl) rfl ?c1 ?c2 (by decide) ?c3 ?c4 ?c5 (w3.heap.size + 1) (by simp) ?_
      case c0 => exact (unhide HOWN3).alloc _
      case c1 =>
       intro j u hj
       match j, hj with
       | 0, hj => simp at hj; subst hj; simp [Addr.add]
       | 1, hj => simp at hj; subst hj; simp [Addr.add]
       | 2, hj => simp at hj; subst hj; simp [Addr.add]
       | j + 3, hj => simp at hj
      case c2 => intro u hu; simp at hu; rcases hu with rfl | rfl | rfl <;> rfl
      case c3 => unfold maxLen; omega
      case c4 => omega
      case c5 => simp; omega
      intro g4 cap4 w4 hown4 hgrow4 hat4 hlt4
      have hsb4 := (hgrow4.block (w.heap.size + 1) (by simp; omega) (fun e => own_ty (unhide HOWN3) e.symm (unhide HSB3) (by decide))).trans ((Below.heap_alloc _ _ _ hsb3l).trans (unhide HSB3))
      have hrb4 := (hgrow4.block w.heap.size (by simp; omega) (fun e => own_ty (unhide HOWN3) e.symm (unhide HRB3) (by decide))).trans ((Below.heap_alloc _ _ _ (by omega)).trans (unhide HRB3))
      have HG4 := hide hgrow4
      have HOWN4 := hide hown4
      have HSB4 := hide hsb4
      have HRB4 := hide hrb4
      unfold sbl at hsb4
      have bc4 := fun o => cell_of_blk hsb4 o
      have bf4 := fun o => frozen_of_blk hsb4 o
      have hsb4l : w.heap.size + 1 < w4.heap.size := lt_of_blk hsb4
      refine hK _ _ ?_
      clear hK K hgrow4 hown4 hsb4 hrb4 bc3 bf3
      refine wpAny_take (i := 6) (v := .pointer (some ⟨w.heap.size + 1, 0, none⟩)) rfl (by kernel_rfl) (by kernel_rfl) (by kernel_rfl) (fun _ _ _ h => h) (Or.inl ⟨by kernel_rfl, fun w => by go_simp⟩) ?_
      try simp only [Act.put, zA, zB, zC, zD, zE, zF]
      refine wpAny_ready (rs := [7]) (by kernel_rfl) (by simp) ?_
      refine AllReady.cons rfl (fun K hK => ?_) AllReady.nil
      go_simp
      refine hK _ _ ?_
      clear hK K
      refine wpAny_done (by kernel_rfl) ?_ _
      go_wp2_with fail
      go_roundg (gk - 1)
      case measure => omega
      case rel =>
       refine ⟨A ++ [v], j2, b2, q2, ?_, unhide HACT2⟩
       refine ⟨(Below.heap_setCell _ _ _ _ (by show w.heap.size ≠ w.heap.size + 1; omega)).trans (unhide HRB4), ⟨some ⟨g4, 0, none⟩, A.length + 1, cap4, blk_set (unhide HSB4) 0 _, ?_⟩, ((((unhide HM2).trans (unhide HM3)).alloc _).row (unhide HG4) (fun k e => (own_lt (unhide HOWN3) k e).1) hp0).setNew (by omega) hp0 _ _, hj2⟩
       rw [tkCellsP_snoc, List.length_append]
       exact owns_keep (unhide HOWN4) (grown_set _ _ _ _) (Or.inr (fun e => own_ty (unhide HOWN4) e (unhide HSB4) (by decide)))
   ·have HEND := hide (acts_end hact hy h20)
    have H20 := hide h20
    obtain ⟨j2, b2, q2, hs2⟩ := Stp_ex (y.k = 21) y L.length j b q
    have hj2 : j2 < L.length := hs2.lt (unhide HFE) hy (fun e => by omega)
    have HMOD := hide (mod_first (unhide HFE) hlen (unhide HEND) hy hs2)
    have HS2 := hide hs2
    clear hma hact hy h20 hs2
    go_wp2_with fail
    refine (pskip_no 20 _ _ _ _ _ _ _ _ _ _ _ _ (unhide HPJ) (unhide HY) (unhide H20)).mono ?_
    rintro e w2 ⟨rfl, hw2⟩
    have hw3 := hw2.symm
    clear hw2
    subst hw3
    go_wp2_with fail
    refine (ptake_any 21 _ pb g cap B L j b q NM y r2 (unhide HPJ) (unhide HY) (by decide) j2 b2 q2 (unhide HS2)).mono ?_
    rintro e w5 ⟨rfl, hm5⟩
    have hstart : MB w w5 pb g cap L A [] j2 b2 q2 := by
     obtain ⟨o1, n1, k1, hsb0, hown0⟩ := (unhide HMA).sbx
     exact ⟨(hm5.gr.block w.heap.size (lt_of_blk (unhide HMA).rbx) (by simp; omega)).trans (unhide HMA).rbx, ⟨o1, n1, k1, none, 0, 0, 0, [], (hm5.gr.block (w.heap.size + 1) (lt_of_blk hsb0) (by simp; omega)).trans hsb0, World.ownsRow_nil _ _ _ _, fun _ => ⟨owns_keep hown0 hm5.gr (Or.inr (own_ne hown0 hp0)), rfl, rfl⟩⟩, (unhide HMA).mv.gr.trans hm5.gr, B, NM, (unhide HP).move ((unhide HMA).mv.trans hm5) hj2 (fun _ => by omega)⟩
    have HST := hide hstart
    clear hstart hm5
    simp only [tkP]
    go_wp2_with fail
    go_loopg [] (PL L j).length (fun m wr => ∃ al rs j b q, MB w wr pb g cap L al rs j b q ∧ ModAt L m al rs j b q)
    case atStart => exact ⟨_, _, _, _, _, unhide HST, unhide HMOD⟩
    case round =>
     clear HST HMOD HMA HPJ HY HEND H20 HS2 hjlt hj2
     obtain ⟨al, rs, j, b, q, hmb, hmod⟩ := hrel
     obtain ⟨B2, NM2, hpp⟩ := hmb.pp
     obtain ⟨t, r, ht⟩ := PL_some (unhide HFE) hpp.lt
     have HPP := hide hpp
     have HT2 := hide ht
     have HGR := hide hmb.gr
     by_cases h5 : t.k = 5
     ·obtain ⟨hb, hq, hrl, m', hmm, hlr, hlm, hmr⟩ := mod_good (unhide HFE) hmod ht h5
      subst hb hq
      obtain ⟨o1, n1, k1, o2, n2, k2, nR, cells, hsb, hown, hgood⟩ := hmb.sbx
      obtain ⟨hacts, hnR, hru⟩ := hgood rfl
      subst hnR
      have hrb := hmb.rbx
      have hnp : (Value.slice o2 n2 k2).ownBlock ≠ some pb := own_ne hown hp0
      have hnpa : (Value.slice o1 n1 k1).ownBlock ≠ some pb := own_ne hacts hp0
      have e5 : ((t.k : Int) == 5) = true := beqT (c := 5) h5
      have hmm' : gk - 1 = m' := by omega
      have hgk : 1 ≤ gk := by omega
      have HOWN := hide hown
      have HACTS := hide hacts
      have HRU := hide hru
      have HMR := hide hmr
      have H5 := hide h5
      have HSB := hide hsb
      have HRB := hide hrb
      have hsbl := lt_of_blk hsb
      unfold sbl at hsb
      have bc := fun o => cell_of_blk hsb o
      have bf := fun o => frozen_of_blk hsb o
      have hmm := hmm'
      clear hmb hmod hpp ht h5 hown hacts hru hmr hsb hrb hgood hmm'
      go_wp2_with (go_at_call 155; refine (pnext_any _ _ _ _ _ _ _ _ _ _ _ _ (unhide HPP) (unhide HT2)).mono ?_; rintro e W2 ⟨rfl, hW2⟩; have hW3 := hW2.symm; clear hW2; subst hW3)
      generalize wr = W2 at *
      refine wp_region_any (by kernel_rfl) ?_
      change wpAny _ _ _ _ _ _ _ (World.drew _)
      refine wpAny_take (i := 0) (v := .pointer (some ⟨w.heap.size + 1, 1, none⟩)) rfl (by kernel_rfl) (by kernel_rfl) (by kernel_rfl) (fun _ _ _ h => h) (Or.inl ⟨by kernel_rfl, fun w => by go_simp⟩) ?_
      try simp only [Act.put, zA, zB, zC, zD, zE, zF]
      refine wpAny_take (i := 2) (v := .pointer (some ⟨pb, 0, none⟩)) rfl (by kernel_rfl) (by kernel_rfl) (by kernel_rfl) (fun _ _ _ h => h) (Or.inl ⟨by kernel_rfl, fun w => by go_simp⟩) ?_
      try simp only [Act.put, zA, zB, zC, zD, zE, zF]
      refine wpAny_ready (rs := [1, 3]) (by kernel_rfl) (by simp) ?_
      refine AllReady.cons rfl (fun K hK => ?_) (AllReady.cons rfl (fun K hK => ?_) AllReady.nil)
      ·go_simp
       refine hK _ _ ?_
       clear hK K
       refine wpAny_ready (rs := [3]) (by kernel_rfl) (by simp) ?_
       refine AllReady.cons rfl (fun K hK => ?_) AllReady.nil
       go_simp
       go_wp2_with (go_at_call 156; refine (prule_any _ pb g cap B2 L j NM2 t r ((unhide HPP).later (Below.refl _ _).drew) (unhide HT2) (unhide H5)).mono ?_; rintro e w3 ⟨hg3, fp, no, nn, nc, cp, rfl, hx3⟩)
       have hg3' := grownBy_from_drew hg3
       have HG3 := hide hg3'
       have HX3 := hide hx3
       have hsb3 := (hg3.block (w.heap.size + 1) hsbl (by simp; omega)).trans (unhide HSB)
       have hrb3 := (hg3.block w.heap.size (by show w.heap.size < W2.heap.size; omega) (by simp; omega)).trans (unhide HRB)
       have hown3 := owns_keep (unhide HOWN) hg3' (Or.inr hnp)
       have HACT3 := hide (owns_keep (unhide HACTS) hg3' (Or.inr hnpa))
       have HRU3 := hide ((unhide HRU).keep ((unhide HPP).kq hg3'))
       have hsz3 := hg3.size
       have hsb3l : w.heap.size + 1 < w3.heap.size := lt_of_blk hsb3
       have HSB3 := hide hsb3
       have HRB3 := hide hrb3
       have HOWN3 := hide hown3
       unfold sbl at hsb3
       have bc3 := fun o => cell_of_blk hsb3 o
       have bf3 := fun o => frozen_of_blk hsb3 o
       clear hg3 hg3' hsb3 hown3 hrb3 bc bf hx3
       refine wpAny_ready (rs := [4]) (by kernel_rfl) (by simp) ?_
       refine AllReady.cons rfl (fun K hK => ?_) AllReady.nil
       go_simp
       refine hK _ _ ?_
       clear hK K
       refine wpAny_ready (rs := [5]) (by kernel_rfl) (by simp) ?_
       refine AllReady.cons rfl (fun K hK => ?_) AllReady.nil
       refine step_append_lies _ (by rfl) _ _ 126 (by rfl) w.heap.size 205 m0 (.agg #[.int .i64 0, .string ⟨#[]⟩, .int .i64 0, .pointer none, .slice none 0 0, .pointer none]) 6 72 Tryz.underlying126 hm0 hmz0 hmz1 hmz2 rfl (by decide) (.slice o2 n2 k2) rs.length cells (by rfl) ?c0 ⟨w3.heap.size, 0, none⟩ 1 1 [.int .i64 t.k, .string t.s, .int .i64 t.p, .pointer fp, .slice no nn nc, .pointer cp] (by rfl) rfl ?c1 ?c2 (by decide) ?c3 ?c4 ?c5 (w3.heap.size + 1) (by simp) ?_
       case c0 => exact (unhide HOWN3).alloc _
       case c1 =>
        intro j u hj
        match j, hj with
        | 0, hj => simp at hj; subst hj; simp [Addr.add]
        | 1, hj => simp at hj; subst hj; simp [Addr.add]
        | 2, hj => simp at hj; subst hj; simp [Addr.add]
        | 3, hj => simp at hj; subst hj; simp [Addr.add]
        | 4, hj => simp at hj; subst hj; simp [Addr.add]
        | 5, hj => simp at hj; subst hj; simp [Addr.add]
        | j + 6, hj => simp at hj
       case c2 => intro u hu; simp at hu; rcases hu with rfl | rfl | rfl | rfl | rfl | rfl <;> rfl
       case c3 => unfold maxLen; omega
       case c4 => omega
       case c5 => simp; omega
       intro g4 cap4 w4 hown4 hgrow4 hat4 hlt4
       have hsb4 := (hgrow4.block (w.heap.size + 1) (by simp; omega) (fun e => own_ty (unhide HOWN3) e.symm (unhide HSB3) (by decide))).trans ((Below.heap_alloc _ _ _ hsb3l).trans (unhide HSB3))
       have hrb4 := (hgrow4.block w.heap.size (by simp; omega) (fun e => own_ty (unhide HOWN3) e.symm (unhide HRB3) (by decide))).trans ((Below.heap_alloc _ _ _ (by omega)).trans (unhide HRB3))
       have hkq4 : KQ w3 w4 := (KQ.below ((Below.refl _ _).alloc (Nat.le_refl _) _)).trans (KQ.row ((unhide HOWN3).alloc _) hgrow4)
       have HPR := hide (fun (B : Nat) (j : Nat) (b : Bool) (q : Nat) (NM : List Tk) (h : PP w3 pb g cap B L j b q NM) => PP.row' (h.alloc _) ((unhide HOWN3).alloc _) hgrow4)
       have HKQ4 := hide hkq4
       have HG4 := hide (grown_row (grown_alloc ((unhide HGR).trans (unhide HG3)) _) hgrow4 (fun k e => (own_lt (unhide HOWN3) k e).1))
       have HOWN4 := hide hown4
       have HSB4 := hide hsb4
       have HRB4 := hide hrb4
       unfold sbl at hsb4
       have bc4 := fun o => cell_of_blk hsb4 o
       have bf4 := fun o => frozen_of_blk hsb4 o
       have hsb4l : w.heap.size + 1 < w4.heap.size := lt_of_blk hsb4
       refine hK _ _ ?_
       clear hK K hgrow4 hown4 hsb4 hrb4 bc3 bf3 hkq4
       refine wpAny_take (i := 6) (v := .pointer (some ⟨w.heap.size + 1, 1, none⟩)) rfl (by kernel_rfl) (by kernel_rfl) (by kernel_rfl) (fun _ _ _ h => h) (Or.inl ⟨by kernel_rfl, fun w => by go_simp⟩) ?_
       try simp only [Act.put, zA, zB, zC, zD, zE, zF]
       refine wpAny_ready (rs := [7]) (by kernel_rfl) (by simp) ?_
       refine AllReady.cons rfl (fun K hK => ?_) AllReady.nil
       go_simp
       refine hK _ _ ?_
       clear hK K
       refine wpAny_done (by kernel_rfl) ?_ _
       go_wp2_with fail
       go_roundg (gk - 1)
       case measure => omega
       case rel =>
        have hks : KQ w4 (w4.setCell ⟨w.heap.size + 1, 1, none⟩ (.slice (some ⟨g4, 0, none⟩) (rs.length + 1) cap4)) := KQ.set (unhide HSB4) (by decide) (by decide) (by decide) _ _
        have hkk := (unhide HKQ4).trans hks
        have hro := owns_keep (unhide HOWN4) (grown_set w4 (w.heap.size + 1) 1 (.slice (some ⟨g4, 0, none⟩) (rs.length + 1) cap4)) (Or.inr (fun e => own_ty (unhide HOWN4) e (unhide HSB4) (by decide)))
        have hgg := grown_setNew (unhide HG4) (show w.heap.size ≤ w.heap.size + 1 by omega) 1 (.slice (some ⟨g4, 0, none⟩) (rs.length + 1) cap4)
        have hrb5 := (Below.heap_setCell w4 ⟨w.heap.size + 1, 1, none⟩ (.slice (some ⟨g4, 0, none⟩) (rs.length + 1) cap4) w.heap.size (by show w.heap.size ≠ w.heap.size + 1; omega)).trans (unhide HRB4)
        have hpp5 := fun B j b q NM h => (unhide HPR B j b q NM h).setTy (unhide HSB4) (by decide) (by decide) 1 (.slice (some ⟨g4, 0, none⟩) (rs.length + 1) cap4)
        rcases unhide HX3 with ⟨rl, l1, hx, h21, hrs, B3, j3, NM3, hl3, hp3⟩ | ⟨rl, l1, hx, h21, B3, NM3, hp3⟩ | ⟨q3, hx, B3, NM3, hp3⟩
        ·have := mod_ok (unhide H5) hlr hlm (unhide HMR) hx h21 hl3
         refine ⟨al, rs ++ [{ rl with pl := t.p }], j3, false, 0, ⟨hrb5, ⟨o1, n1, k1, some ⟨g4, 0, none⟩, rs.length + 1, cap4, rs.length + 1, _, blk_set (unhide HSB4) 1 _, hro, fun _ => ⟨hkk.owns (unhide HACT3), by simp, ?_⟩⟩, hgg, B3, NM3, hpp5 _ _ _ _ _ hp3⟩, by rw [hmm]; exact this⟩
         exact RulesP.snoc (r := { rl with pl := t.p }) ((unhide HRU3).keep hkk) ((hrs.pl t.p).keep hkk)
        ·exact ⟨al, rs, _, _, _, ⟨hrb5, ⟨o1, n1, k1, some ⟨g4, 0, none⟩, rs.length + 1, cap4, rs.length + 1, _, blk_set (unhide HSB4) 1 _, hro, fun e => by cases e⟩, hgg, B3, NM3, hpp5 _ _ _ _ _ hp3⟩, by rw [hmm]; exact mod_no (unhide H5) (unhide HMR) (Or.inl ⟨rl, l1, hx, h21, rfl⟩)⟩
        ·exact ⟨al, rs, _, _, _, ⟨hrb5, ⟨o1, n1, k1, some ⟨g4, 0, none⟩, rs.length + 1, cap4, rs.length + 1, _, blk_set (unhide HSB4) 1 _, hro, fun e => by cases e⟩, hgg, B3, NM3, hpp5 _ _ _ _ _ hp3⟩, by rw [hmm]; exact mod_no (unhide H5) (unhide HMR) (Or.inr hx)⟩
      ·go_simp
       go_wp2_with (go_at_call 156; refine (prule_any _ pb g cap B2 L j NM2 t r ((unhide HPP).later (Below.refl _ _).drew) (unhide HT2) (unhide H5)).mono ?_; rintro e w3 ⟨hg3, fp, no, nn, nc, cp, rfl, hx3⟩)
       have hg3' := grownBy_from_drew hg3
       have HG3 := hide hg3'
       have HX3 := hide hx3
       have hsb3 := (hg3.block (w.heap.size + 1) hsbl (by simp; omega)).trans (unhide HSB)
       have hrb3 := (hg3.block w.heap.size (by show w.heap.size < W2.heap.size; omega) (by simp; omega)).trans (unhide HRB)
       have hown3 := owns_keep (unhide HOWN) hg3' (Or.inr hnp)
       have HACT3 := hide (owns_keep (unhide HACTS) hg3' (Or.inr hnpa))
       have HRU3 := hide ((unhide HRU).keep ((unhide HPP).kq hg3'))
       have hsz3 := hg3.size
       have hsb3l : w.heap.size + 1 < w3.heap.size := lt_of_blk hsb3
       have HSB3 := hide hsb3
       have HRB3 := hide hrb3
       have HOWN3 := hide hown3
       unfold sbl at hsb3
       have bc3 := fun o => cell_of_blk hsb3 o
       have bf3 := fun o => frozen_of_blk hsb3 o
       clear hg3 hg3' hsb3 hown3 hrb3 bc bf hx3
       refine wpAny_ready (rs := [1, 4]) (by kernel_rfl) (by simp) ?_
       refine AllReady.cons rfl (fun K hK => ?_) (AllReady.cons rfl (fun K hK => ?_) AllReady.nil)
       ·go_simp
        refine hK _ _ ?_
        clear hK K
        refine wpAny_ready (rs := [4]) (by kernel_rfl) (by simp) ?_
        refine AllReady.cons rfl (fun K hK => ?_) AllReady.nil
        go_simp
        refine hK _ _ ?_
        clear hK K
        refine wpAny_ready (rs := [5]) (by kernel_rfl) (by simp) ?_
        refine AllReady.cons rfl (fun K hK => ?_) AllReady.nil
        refine step_append_lies _ (by rfl) _ _ 126 (by rfl) w.heap.size 205 m0 (.agg #[.int .i64 0, .string ⟨#[]⟩, .int .i64 0, .pointer none, .slice none 0 0, .pointer none]) 6 72 Tryz.underlying126 hm0 hmz0 hmz1 hmz2 rfl (by decide) (.slice o2 n2 k2) rs.length cells (by rfl) ?c0 ⟨w3.heap.size, 0, none⟩ 1 1 [.int .i64 t.k, .string t.s, .int .i64 t.p, .pointer fp, .slice no nn nc, .pointer cp] (by rfl) rfl ?c1 ?c2 (by decide) ?c3 ?c4 ?c5 (w3.heap.size + 1) (by simp) ?_
        case c0 => exact (unhide HOWN3).alloc _
        case c1 =>
         intro j u hj
         match j, hj with
         | 0, hj => simp at hj; subst hj; simp [Addr.add]
         | 1, hj => simp at hj; subst hj; simp [Addr.add]
         | 2, hj => simp at hj; subst hj; simp [Addr.add]
         | 3, hj => simp at hj; subst hj; simp [Addr.add]
         | 4, hj => simp at hj; subst hj; simp [Addr.add]
         | 5, hj => simp at hj; subst hj; simp [Addr.add]
         | j + 6, hj => simp at hj
        case c2 => intro u hu; simp at hu; rcases hu with rfl | rfl | rfl | rfl | rfl | rfl <;> rfl
        case c3 => unfold maxLen; omega
        case c4 => omega
        case c5 => simp; omega
        intro g4 cap4 w4 hown4 hgrow4 hat4 hlt4
        have hsb4 := (hgrow4.block (w.heap.size + 1) (by simp; omega) (fun e => own_ty (unhide HOWN3) e.symm (unhide HSB3) (by decide))).trans ((Below.heap_alloc _ _ _ hsb3l).trans (unhide HSB3))
        have hrb4 := (hgrow4.block w.heap.size (by simp; omega) (fun e => own_ty (unhide HOWN3) e.symm (unhide HRB3) (by decide))).trans ((Below.heap_alloc _ _ _ (by omega)).trans (unhide HRB3))
        have hkq4 : KQ w3 w4 := (KQ.below ((Below.refl _ _).alloc (Nat.le_refl _) _)).trans (KQ.row ((unhide HOWN3).alloc _) hgrow4)
        have HPR := hide (fun (B : Nat) (j : Nat) (b : Bool) (q : Nat) (NM : List Tk) (h : PP w3 pb g cap B L j b q NM) => PP.row' (h.alloc _) ((unhide HOWN3).alloc _) hgrow4)
        have HKQ4 := hide hkq4
        have HG4 := hide (grown_row (grown_alloc ((unhide HGR).trans (unhide HG3)) _) hgrow4 (fun k e => (own_lt (unhide HOWN3) k e).1))
        have HOWN4 := hide hown4
        have HSB4 := hide hsb4
        have HRB4 := hide hrb4
        unfold sbl at hsb4
        have bc4 := fun o => cell_of_blk hsb4 o
        have bf4 := fun o => frozen_of_blk hsb4 o
        have hsb4l : w.heap.size + 1 < w4.heap.size := lt_of_blk hsb4
        refine hK _ _ ?_
        clear hK K hgrow4 hown4 hsb4 hrb4 bc3 bf3 hkq4
        refine wpAny_take (i := 6) (v := .pointer (some ⟨w.heap.size + 1, 1, none⟩)) rfl (by kernel_rfl) (by kernel_rfl) (by kernel_rfl) (fun _ _ _ h => h) (Or.inl ⟨by kernel_rfl, fun w => by go_simp⟩) ?_
        try simp only [Act.put, zA, zB, zC, zD, zE, zF]
        refine wpAny_ready (rs := [7]) (by kernel_rfl) (by simp) ?_
        refine AllReady.cons rfl (fun K hK => ?_) AllReady.nil
        go_simp
        refine hK _ _ ?_
        clear hK K
        refine wpAny_done (by kernel_rfl) ?_ _
        go_wp2_with fail
        go_roundg (gk - 1)
        case measure => omega
        case rel =>
         have hks : KQ w4 (w4.setCell ⟨w.heap.size + 1, 1, none⟩ (.slice (some ⟨g4, 0, none⟩) (rs.length + 1) cap4)) := KQ.set (unhide HSB4) (by decide) (by decide) (by decide) _ _
         have hkk := (unhide HKQ4).trans hks
         have hro := owns_keep (unhide HOWN4) (grown_set w4 (w.heap.size + 1) 1 (.slice (some ⟨g4, 0, none⟩) (rs.length + 1) cap4)) (Or.inr (fun e => own_ty (unhide HOWN4) e (unhide HSB4) (by decide)))
         have hgg := grown_setNew (unhide HG4) (show w.heap.size ≤ w.heap.size + 1 by omega) 1 (.slice (some ⟨g4, 0, none⟩) (rs.length + 1) cap4)
         have hrb5 := (Below.heap_setCell w4 ⟨w.heap.size + 1, 1, none⟩ (.slice (some ⟨g4, 0, none⟩) (rs.length + 1) cap4) w.heap.size (by show w.heap.size ≠ w.heap.size + 1; omega)).trans (unhide HRB4)
         have hpp5 := fun B j b q NM h => (unhide HPR B j b q NM h).setTy (unhide HSB4) (by decide) (by decide) 1 (.slice (some ⟨g4, 0, none⟩) (rs.length + 1) cap4)
         rcases unhide HX3 with ⟨rl, l1, hx, h21, hrs, B3, j3, NM3, hl3, hp3⟩ | ⟨rl, l1, hx, h21, B3, NM3, hp3⟩ | ⟨q3, hx, B3, NM3, hp3⟩
         ·have := mod_ok (unhide H5) hlr hlm (unhide HMR) hx h21 hl3
          refine ⟨al, rs ++ [{ rl with pl := t.p }], j3, false, 0, ⟨hrb5, ⟨o1, n1, k1, some ⟨g4, 0, none⟩, rs.length + 1, cap4, rs.length + 1, _, blk_set (unhide HSB4) 1 _, hro, fun _ => ⟨hkk.owns (unhide HACT3), by simp, ?_⟩⟩, hgg, B3, NM3, hpp5 _ _ _ _ _ hp3⟩, by rw [hmm]; exact this⟩
          exact RulesP.snoc (r := { rl with pl := t.p }) ((unhide HRU3).keep hkk) ((hrs.pl t.p).keep hkk)
         ·exact ⟨al, rs, _, _, _, ⟨hrb5, ⟨o1, n1, k1, some ⟨g4, 0, none⟩, rs.length + 1, cap4, rs.length + 1, _, blk_set (unhide HSB4) 1 _, hro, fun e => by cases e⟩, hgg, B3, NM3, hpp5 _ _ _ _ _ hp3⟩, by rw [hmm]; exact mod_no (unhide H5) (unhide HMR) (Or.inl ⟨rl, l1, hx, h21, rfl⟩)⟩
         ·exact ⟨al, rs, _, _, _, ⟨hrb5, ⟨o1, n1, k1, some ⟨g4, 0, none⟩, rs.length + 1, cap4, rs.length + 1, _, blk_set (unhide HSB4) 1 _, hro, fun e => by cases e⟩, hgg, B3, NM3, hpp5 _ _ _ _ _ hp3⟩, by rw [hmm]; exact mod_no (unhide H5) (unhide HMR) (Or.inr hx)⟩
       ·go_simp
        refine hK _ _ ?_
        clear hK K
        refine wpAny_ready (rs := [1]) (by kernel_rfl) (by simp) ?_
        refine AllReady.cons rfl (fun K hK => ?_) AllReady.nil
        go_simp
        refine hK _ _ ?_
        clear hK K
        refine wpAny_ready (rs := [5]) (by kernel_rfl) (by simp) ?_
        refine AllReady.cons rfl (fun K hK => ?_) AllReady.nil
        refine step_append_lies _ (by rfl) _ _ 126 (by rfl) w.heap.size 205 m0 (.agg #[.int .i64 0, .string ⟨#[]⟩, .int .i64 0, .pointer none, .slice none 0 0, .pointer none]) 6 72 Tryz.underlying126 hm0 hmz0 hmz1 hmz2 rfl (by decide) (.slice o2 n2 k2) rs.length cells (by rfl) ?c0 ⟨w3.heap.size, 0, none⟩ 1 1 [.int .i64 t.k, .string t.s, .int .i64 t.p, .pointer fp, .slice no nn nc, .pointer cp] (by rfl) rfl ?c1 ?c2 (by decide) ?c3 ?c4 ?c5 (w3.heap.size + 1) (by simp) ?_
        case c0 => exact (unhide HOWN3).alloc _
        case c1 =>
         intro j u hj
         match j, hj with
         | 0, hj => simp at hj; subst hj; simp [Addr.add]
         | 1, hj => simp at hj; subst hj; simp [Addr.add]
         | 2, hj => simp at hj; subst hj; simp [Addr.add]
         | 3, hj => simp at hj; subst hj; simp [Addr.add]
         | 4, hj => simp at hj; subst hj; simp [Addr.add]
         | 5, hj => simp at hj; subst hj; simp [Addr.add]
         | j + 6, hj => simp at hj
        case c2 => intro u hu; simp at hu; rcases hu with rfl | rfl | rfl | rfl | rfl | rfl <;> rfl
        case c3 => unfold maxLen; omega
        case c4 => omega
        case c5 => simp; omega
        intro g4 cap4 w4 hown4 hgrow4 hat4 hlt4
        have hsb4 := (hgrow4.block (w.heap.size + 1) (by simp; omega) (fun e => own_ty (unhide HOWN3) e.symm (unhide HSB3) (by decide))).trans ((Below.heap_alloc _ _ _ hsb3l).trans (unhide HSB3))
        have hrb4 := (hgrow4.block w.heap.size (by simp; omega) (fun e => own_ty (unhide HOWN3) e.symm (unhide HRB3) (by decide))).trans ((Below.heap_alloc _ _ _ (by omega)).trans (unhide HRB3))
        have hkq4 : KQ w3 w4 := (KQ.below ((Below.refl _ _).alloc (Nat.le_refl _) _)).trans (KQ.row ((unhide HOWN3).alloc _) hgrow4)
        have HPR := hide (fun (B : Nat) (j : Nat) (b : Bool) (q : Nat) (NM : List Tk) (h : PP w3 pb g cap B L j b q NM) => PP.row' (h.alloc _) ((unhide HOWN3).alloc _) hgrow4)
        have HKQ4 := hide hkq4
        have HG4 := hide (grown_row (grown_alloc ((unhide HGR).trans (unhide HG3)) _) hgrow4 (fun k e => (own_lt (unhide HOWN3) k e).1))
        have HOWN4 := hide hown4
        have HSB4 := hide hsb4
        have HRB4 := hide hrb4
        unfold sbl at hsb4
        have bc4 := fun o => cell_of_blk hsb4 o
        have bf4 := fun o => frozen_of_blk hsb4 o
        have hsb4l : w.heap.size + 1 < w4.heap.size := lt_of_blk hsb4
        refine hK _ _ ?_
        clear hK K hgrow4 hown4 hsb4 hrb4 bc3 bf3 hkq4
        refine wpAny_take (i := 6) (v := .pointer (some ⟨w.heap.size + 1, 1, none⟩)) rfl (by kernel_rfl) (by kernel_rfl) (by kernel_rfl) (fun _ _ _ h => h) (Or.inl ⟨by kernel_rfl, fun w => by go_simp⟩) ?_
        try simp only [Act.put, zA, zB, zC, zD, zE, zF]
        refine wpAny_ready (rs := [7]) (by kernel_rfl) (by simp) ?_
        refine AllReady.cons rfl (fun K hK => ?_) AllReady.nil
        go_simp
        refine hK _ _ ?_
        clear hK K
        refine wpAny_done (by kernel_rfl) ?_ _
        go_wp2_with fail
        go_roundg (gk - 1)
        case measure => omega
        case rel =>
         have hks : KQ w4 (w4.setCell ⟨w.heap.size + 1, 1, none⟩ (.slice (some ⟨g4, 0, none⟩) (rs.length + 1) cap4)) := KQ.set (unhide HSB4) (by decide) (by decide) (by decide) _ _
         have hkk := (unhide HKQ4).trans hks
         have hro := owns_keep (unhide HOWN4) (grown_set w4 (w.heap.size + 1) 1 (.slice (some ⟨g4, 0, none⟩) (rs.length + 1) cap4)) (Or.inr (fun e => own_ty (unhide HOWN4) e (unhide HSB4) (by decide)))
         have hgg := grown_setNew (unhide HG4) (show w.heap.size ≤ w.heap.size + 1 by omega) 1 (.slice (some ⟨g4, 0, none⟩) (rs.length + 1) cap4)
         have hrb5 := (Below.heap_setCell w4 ⟨w.heap.size + 1, 1, none⟩ (.slice (some ⟨g4, 0, none⟩) (rs.length + 1) cap4) w.heap.size (by show w.heap.size ≠ w.heap.size + 1; omega)).trans (unhide HRB4)
         have hpp5 := fun B j b q NM h => (unhide HPR B j b q NM h).setTy (unhide HSB4) (by decide) (by decide) 1 (.slice (some ⟨g4, 0, none⟩) (rs.length + 1) cap4)
         rcases unhide HX3 with ⟨rl, l1, hx, h21, hrs, B3, j3, NM3, hl3, hp3⟩ | ⟨rl, l1, hx, h21, B3, NM3, hp3⟩ | ⟨q3, hx, B3, NM3, hp3⟩
         ·have := mod_ok (unhide H5) hlr hlm (unhide HMR) hx h21 hl3
          refine ⟨al, rs ++ [{ rl with pl := t.p }], j3, false, 0, ⟨hrb5, ⟨o1, n1, k1, some ⟨g4, 0, none⟩, rs.length + 1, cap4, rs.length + 1, _, blk_set (unhide HSB4) 1 _, hro, fun _ => ⟨hkk.owns (unhide HACT3), by simp, ?_⟩⟩, hgg, B3, NM3, hpp5 _ _ _ _ _ hp3⟩, by rw [hmm]; exact this⟩
          exact RulesP.snoc (r := { rl with pl := t.p }) ((unhide HRU3).keep hkk) ((hrs.pl t.p).keep hkk)
         ·exact ⟨al, rs, _, _, _, ⟨hrb5, ⟨o1, n1, k1, some ⟨g4, 0, none⟩, rs.length + 1, cap4, rs.length + 1, _, blk_set (unhide HSB4) 1 _, hro, fun e => by cases e⟩, hgg, B3, NM3, hpp5 _ _ _ _ _ hp3⟩, by rw [hmm]; exact mod_no (unhide H5) (unhide HMR) (Or.inl ⟨rl, l1, hx, h21, rfl⟩)⟩
         ·exact ⟨al, rs, _, _, _, ⟨hrb5, ⟨o1, n1, k1, some ⟨g4, 0, none⟩, rs.length + 1, cap4, rs.length + 1, _, blk_set (unhide HSB4) 1 _, hro, fun e => by cases e⟩, hgg, B3, NM3, hpp5 _ _ _ _ _ hp3⟩, by rw [hmm]; exact mod_no (unhide H5) (unhide HMR) (Or.inr hx)⟩
     ·have e5 : ((t.k : Int) == 5) = false := beqF (c := 5) h5
      have hend := mod_end (unhide HFE) hmod ht h5
      obtain ⟨j', b', q', hT, hj', hn', hgd, hbd⟩ : ∃ j' b' q', (Calls Tryz.prog 153 #[.pointer (some ⟨pb, 0, none⟩), .int .i64 0] wr fun e w' => e = .returned (tkP t) ∧ Mv wr w' pb g cap L.length j b q j' b' q') ∧ j' < L.length ∧ (b' = false → NM2.length ≤ j') ∧ (b' = false → b = false ∧ modelRead (PL L 0) = .ok (al, rs)) ∧ (b' = true → modelRead (PL L 0) = .error q') := by
       rcases hend with ⟨h0, hb, hx⟩ | ⟨h0, hb, hq, hx⟩ | ⟨h0, hb, hx⟩
       ·exact ⟨j, b, q, ptake_end wr pb g cap B2 L j b q NM2 t r hpp ht h0, hpp.lt, fun e => hpp.nm e, fun e => ⟨hb, hx⟩, fun e => by rw [hb] at e; cases e⟩
       ·subst hb hq
        exact ⟨L.length - 1, true, t.p, ptake_no 0 wr pb g cap B2 L j false 0 NM2 t r hpp ht h0, by have := hpp.lt; omega, fun e => (by cases e), fun e => (by cases e), fun _ => hx⟩
       ·exact ⟨j, b, q, ptake_end wr pb g cap B2 L j b q NM2 t r hpp ht h0, hpp.lt, fun e => hpp.nm e, fun e => (by rw [hb] at e; cases e), fun _ => hx⟩
      obtain ⟨o1, n1, k1, o2, n2, k2, nR, cells, hsb, hown, hgood⟩ := hmb.sbx
      have hrb := hmb.rbx
      have HTT := hide hT
      have HN' := hide hn'
      have HGD := hide hgd
      have HBD := hide hbd
      have HSB := hide hsb
      have HRB := hide hrb
      have HOWN := hide hown
      have HGOOD := hide hgood
      clear hmb hmod hpp ht h5 hend hT hn' hgd hbd hsb hrb hown hgood
      go_wp2_with (go_at_call 155; refine (pnext_any _ _ _ _ _ _ _ _ _ _ _ _ (unhide HPP) (unhide HT2)).mono ?_; rintro e W2 ⟨rfl, hW2⟩; have hW3 := hW2.symm; clear hW2; subst hW3)
      refine (unhide HTT).mono ?_
      rintro e w6 ⟨rfl, hm6⟩
      have hsb6 := (hm6.gr.block (w.heap.size + 1) (lt_of_blk (unhide HSB)) (by simp; omega)).trans (unhide HSB)
      have hrb6 := (hm6.gr.block w.heap.size (lt_of_blk (unhide HRB)) (by simp; omega)).trans (unhide HRB)
      have HM6 := hide hm6
      have HSB6 := hide hsb6
      have HRB6 := hide hrb6
      unfold sbl at hsb6 hrb6
      have sc := fun o => cell_of_blk hsb6 o
      have rc := fun o => cell_of_blk hrb6 o
      have rf := fun o => frozen_of_blk hrb6 o
      have hsl6 : w.heap.size + 1 < w6.heap.size := lt_of_blk hsb6
      have hrl6 : w.heap.size < w6.heap.size := by omega
      clear hm6 hsb6 hrb6 HTT
      simp only [tkP]
      go_wp2_with fail
      have hfin : ((w6.setCell ⟨w.heap.size, 0, none⟩ (.slice o1 n1 k1)).setCell ⟨w.heap.size, 1, none⟩ (.slice o2 n2 k2)).heap[w.heap.size]? = some (sbl o1 n1 k1 o2 n2 k2) := blk_set (blk_set (unhide HRB6) 0 _) 1 _
      unfold sbl at hfin
      have rc2 := fun o => cell_of_blk hfin o
      clear rc
      refine bodyPost_ret (v := .agg #[.slice o1 n1 k1, .slice o2 n2 k2]) (by simp [results, Tryz.results114, go_sem, rc2]) rfl ?_
      have hpp6 := (unhide HPP).move (unhide HM6) hj' (unhide HN')
      have hpp7 := (hpp6.setTy (unhide HRB6) (by decide) (by decide) 0 (.slice o1 n1 k1)).setTy (blk_set (unhide HRB6) 0 (.slice o1 n1 k1)) (by decide) (by decide) 1 (.slice o2 n2 k2)
      have hkq := ((unhide HPP).kq (unhide HM6).gr).trans ((KQ.set (unhide HRB6) (by decide) (by decide) (by decide) 0 (.slice o1 n1 k1)).trans (KQ.set (blk_set (unhide HRB6) 0 (.slice o1 n1 k1)) (by decide) (by decide) (by decide) 1 (.slice o2 n2 k2)))
      have hro6 := owns_keep (unhide HOWN) (unhide HM6).gr (Or.inr (own_ne (unhide HOWN) hp0))
      have hnr : (Value.slice o2 n2 k2).ownBlock ≠ some w.heap.size := fun e => own_ty hro6 e (unhide HRB6) (by decide)
      have hro7 := owns_keep (owns_keep hro6 (grown_set w6 w.heap.size 0 (.slice o1 n1 k1)) (Or.inr hnr)) (grown_set _ w.heap.size 1 (.slice o2 n2 k2)) (Or.inr hnr)
      refine ⟨grown_setNew (grown_setNew ((unhide HGR).trans (unhide HM6).gr) (Nat.le_refl _) _ _) (Nat.le_refl _) _ _, o1, n1, k1, o2, n2, k2, b', q', rfl, ⟨B2, j', NM2, hpp7⟩, ?_⟩
      cases hb' : b' with
      | true => exact Or.inr ⟨rfl, unhide HBD hb'⟩
      | false =>
       obtain ⟨hb, hx⟩ := unhide HGD hb'
       obtain ⟨ha, hnR, hru⟩ := unhide HGOOD hb
       subst hnR
       exact Or.inl ⟨rfl, al, rs, cells, hx, owns_mono (hkq.owns ha) (Nat.zero_le _), owns_mono hro7 (Nat.zero_le _), hru.keep hkq⟩
def PaPost (l : List Tk) (w w' : World) (e : Ending) : Prop :=
  Below w.heap.size w w' ∧ ∃ o1 n1 k1 o2 n2 k2,
    ((∃ al rs cells q, e = .returned (.tuple #[.agg #[.slice o1 n1 k1, .slice o2 n2 k2], .int .i64 q, .bool true]) ∧ modelRead l = .ok (al, rs) ∧ w'.ownsRow 0 201 3 (.slice o1 n1 k1) al.length (tkCellsP al) ∧ w'.ownsRow 0 205 6 (.slice o2 n2 k2) rs.length cells ∧ RulesP w' rs cells) ∨
     (∃ q : Nat, e = .returned (.tuple #[.agg #[.slice o1 n1 k1, .slice o2 n2 k2], .int .i64 q, .bool false]) ∧ modelRead l = .error q))
set_option maxHeartbeats 2000000 in
set_option maxRecDepth 100000 in
theorem parse_any (s : ByteArray) (w : World) (hs : s.size ≤ 400) (hG : GV w) :
  Calls Tryz.prog 69 #[.string s] w fun e w' => PaPost (lexR s (s.size + 1) 0) w w' e := by
 have hfe := lexP_fe s (s.size + 1) 0 (Nat.zero_le _) (by omega)
 have hin := lexP_in s (s.size + 1) 0 (Nat.zero_le _)
 have hlen := lexP_len s (s.size + 1) 0 (Nat.zero_le _)
 have hcut := cut_lexP s (s.size + 1) 0
 have HSC := hide (fun w hG => scan_any s w hs hG)
 generalize lexP s (s.size + 1) 0 = L at *
 rw [← hcut]
 have hpl : cut L = PL L 0 := rfl
 rw [hpl]
 clear hpl hcut
 have HFE := hide hfe
 have HIN := hide hin
 have HG := hide hG
 clear hfe hin hG
 go_enter Tryz.func69, Tryz.ntmps69
 go_wp2_with fail
 refine (unhide HSC _ ((unhide HG).alloc _)).mono ?_
 rintro e w1 ⟨v1, rfl, hown1, hb1⟩
 obtain ⟨hl1, h1 | ⟨g, cap, cur, hv1, hgb, hrow, hle, hcap, hcs, htake⟩⟩ := hown1
 ·exact absurd h1.2 (by intro e; have := (unhide HFE).ne; rw [List.length_eq_zero_iff] at e; exact this e)
 subst hv1
 have hgl := lt_of_blk hrow
 have HPP : Hid (PP (w1.alloc (.cells #[.slice (some ⟨g, 0, none⟩) L.length cap, .bool false, .int .i64 0, .slice none 0 0] 194)) w1.heap.size g cap (w1.heap.size + 1) L 0 false 0 []) := by
  have hL : 0 < L.length := List.length_pos_iff.2 (unhide HFE).ne
  refine ⟨⟨none, 0, 0, ?_, World.ownsRow_nil _ _ _ _⟩, ⟨cur, (Below.heap_alloc _ _ _ hgl).trans hrow, htake⟩, hle, hcap, by omega, hL, unhide HFE, fun t ht => ?_, by omega, by omega, by simp, fun _ => Nat.le_refl _⟩
  ·rw [blk_alloc]; simp
  ·obtain ⟨h1, h2, h3⟩ := unhide HIN t ht; exact ⟨h1, by omega, by omega⟩
 have hz1 : w.heap.size < w1.heap.size := by have := hb1.size; simp at this; omega
 have HR1 := hide (show w1.heap[w.heap.size]? = some (sbl none 0 0 none 0 0) from (hb1.block _ (by simp)).trans (blk_alloc _ _))
 have HB1 := hide (((Below.refl w.heap.size w).alloc (Nat.le_refl _) (sbl none 0 0 none 0 0)).trans (hb1.mono (by simp)))
 clear hb1 hrow htake hcs hle hcap hl1 hgb
 go_wp2_with fail
 refine (pmodel_any _ _ _ _ _ _ _ (unhide HPP)).mono ?_
 rintro e w2 ⟨hg2, o1, n1, k1, o2, n2, k2, b, q, rfl, ⟨B, j, NM, hp2⟩, hx2⟩
 have HX2 := hide hx2
 have HB2 := hide (below_grown ((unhide HB1).alloc (by omega) _) hg2 (by omega))
 have hr2 := (hg2.block w.heap.size (by simp; omega) (by simp; omega)).trans ((Below.heap_alloc _ _ _ hz1).trans (unhide HR1))
 have HR2 := hide hr2
 have hz2 : w1.heap.size < w2.heap.size := by have := hg2.size; simp at this; omega
 obtain ⟨no, nn, nc, hpb2, _⟩ := hp2.blk
 have bc := fun o => cell_of_blk hpb2 o
 have HP2 := hide hp2
 have hz3 : w.heap.size < w2.heap.size := by omega
 unfold sbl at hr2
 have rc := fun o => cell_of_blk hr2 o
 have rf := fun o => frozen_of_blk hr2 o
 clear hg2 hx2 hp2 hpb2 hr2
 go_wp2_with fail
 go_region
 go_wp2_with fail
 have hfin : ((w2.setCell ⟨w.heap.size, 0, none⟩ (.slice o1 n1 k1)).setCell ⟨w.heap.size, 1, none⟩ (.slice o2 n2 k2)).heap[w.heap.size]? = some (sbl o1 n1 k1 o2 n2 k2) := blk_set (blk_set (unhide HR2) 0 _) 1 _
 unfold sbl at hfin
 have rc2 := fun o => cell_of_blk hfin o
 clear rc
 refine bodyPost_ret (v := .tuple #[.agg #[.slice o1 n1 k1, .slice o2 n2 k2], .int .i64 q, .bool !b]) (by simp [results, Tryz.results69, go_sem, rc2, hz3]) rfl ?_
 refine ⟨((((unhide HB2).setCell (Nat.le_refl _) _).setCell (Nat.le_refl _) _).alloc (by simp [World.setCell]; omega) _).drew, o1, n1, k1, o2, n2, k2, ?_⟩
 have hk := ((KQ.set (unhide HR2) (by decide) (by decide) (by decide) 0 (.slice o1 n1 k1)).trans (KQ.set (blk_set (unhide HR2) 0 (.slice o1 n1 k1)) (by decide) (by decide) (by decide) 1 (.slice o2 n2 k2))).trans (KQ.below ((Below.refl _ _).alloc (Nat.le_refl _) (.cells #[.slice o1 n1 k1, .slice o2 n2 k2] 128)).drew)
 rcases unhide HX2 with ⟨rfl, al, rs, cells, hx, ha, hr, hru⟩ | ⟨rfl, hx⟩
 ·have hnr : (Value.slice o2 n2 k2).ownBlock ≠ some w.heap.size := fun e => own_ty hr e (unhide HR2) (by decide)
  exact Or.inl ⟨al, rs, cells, q, rfl, hx, hk.owns ha, owns_later (owns_keep (owns_keep hr (grown_set w2 w.heap.size 0 (.slice o1 n1 k1)) (Or.inr hnr)) (grown_set _ w.heap.size 1 (.slice o2 n2 k2)) (Or.inr hnr)) ((Below.refl _ _).alloc (Nat.le_refl _) _).drew, hru.keep hk⟩
 ·exact Or.inr ⟨q, rfl, hx⟩
end Go.Proofs.YtidakhhekofkoaaGreatDoor
