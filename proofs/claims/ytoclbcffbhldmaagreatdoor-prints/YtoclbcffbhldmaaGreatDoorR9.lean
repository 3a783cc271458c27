/- The reference's Parse. -/
import Derived.Test.YtoclbcffbhldmaaGreatDoorR8
import Derived.Deep.RegionHeld
set_option linter.unusedSimpArgs false
namespace Go.Proofs.YtoclbcffbhldmaaGreatDoor
open Go.RowKit Go.Deep

/-- What Parse leaves. -/
def PLeft (l : List Tk) (w w' : World) (e : Ending) : Prop :=
  Below w.heap.size w w' ∧ ∃ o1 n1 k1 o2 n2 k2, (match modelRead l with
    | .ok (al, rs) => e = .returned (.tuple #[.agg #[.slice o1 n1 k1, .slice o2 n2 k2], .int .i64 (-1)]) ∧ w'.ownsRow 0 122 3 (.slice o1 n1 k1) al.length (tkCellsR al) ∧ (∃ cells, w'.ownsRow 0 125 7 (.slice o2 n2 k2) rs.length cells ∧ RulesAre w' rs cells)
    | .error q => e = .returned (.tuple #[.agg #[.slice o1 n1 k1, .slice o2 n2 k2], .int .i64 q]))

theorem bcell3 {W w1 : World} (hb : Below W.heap.size W w1) : ∀ b o, b < W.heap.size → w1.cell? ⟨b, o, none⟩ = W.cell? ⟨b, o, none⟩ := fun b o h => hb.cell (p := ⟨b, o, none⟩) h
theorem bfroz3 {W w1 : World} (hb : Below W.heap.size W w1) : ∀ b o, b < W.heap.size → w1.frozen? ⟨b, o, none⟩ = W.frozen? ⟨b, o, none⟩ := fun b o h => hb.frozen (p := ⟨b, o, none⟩) h
theorem below_grown {w a b : World} {pb : Nat} (h : Below w.heap.size w a) (hg : a.grownBy b (some pb)) (hp : w.heap.size ≤ pb) : Below w.heap.size w b := h.grown hg h.size (fun k hk => by cases hk; exact hp)

set_option maxHeartbeats 2000000 in
set_option maxRecDepth 100000 in
theorem Parse_any (s : ByteArray) (w : World) (hs : s.size ≤ 400) :
    Calls Tryz.prog 82 #[.string s] w fun e w' => PLeft (lexR s (s.size + 1) 0) w w' e := by
  have hends := lexR_ends s (s.size + 1) 0 (Nat.zero_le _) (by omega)
  have hok := lexR_ok s (s.size + 1) 0
  have hlen := lexR_len s (s.size + 1) 0 (Nat.zero_le _)
  have HTK := hide (fun w => Tokens_any s w hs)
  generalize lexR s (s.size + 1) 0 = L at *
  have HE := hide hends
  have HOK := hide hok
  clear hends hok
  have fl2 := field2
  go_enter Tryz.func82, Tryz.ntmps82
  go_wp2_with (go_at_call 109; refine ((unhide HTK) _).mono ?_)
  rintro e w1 ⟨v1, rfl, hown1, hb1⟩
  obtain ⟨hl1, h1 | ⟨g, cap, cur, hv1, hgb, hrow, hle, hcap, hcs, htake⟩⟩ := hown1
  · exact absurd h1.2 (by intro e; have := (unhide HE).ne; rw [List.length_eq_zero_iff] at e; exact this e)
  subst hv1
  have HPS : Hid (PS (w1.alloc (.cells #[.slice (some ⟨g, 0, none⟩) L.length cap, .int .i64 ((0 : Nat) : Int), .bool false] 214)) w1.heap.size g cap L 0 false) :=
    ⟨blk_alloc _ _, ⟨cur, (Below.heap_alloc _ _ _ (lt_of_blk hrow)).trans hrow, htake⟩, hle, hcap, by omega, by have := (unhide HE).ne; exact List.length_pos_iff.2 this, unhide HE, unhide HOK⟩
  have hz1 : w.heap.size < w1.heap.size := by have := hb1.size; simp at this; omega
  have HR1 := hide (show w1.heap[w.heap.size]? = some (.cells #[.slice none 0 0, .slice none 0 0] 118 (0, 0)) from (hb1.block _ (by simp)).trans (blk_alloc _ _))
  have HB1 := hide (((Below.refl w.heap.size w).alloc (Nat.le_refl _) (.cells #[.slice none 0 0, .slice none 0 0] 118)).trans (hb1.mono (by simp)))
  clear hb1 hrow htake hcs hle hcap hl1 hgb
  go_wp2_with (go_at_call 110; refine (model_any _ _ _ _ _ (unhide HPS)).mono ?_)
  rintro e w2 ⟨hg2, o1, n1, k1, o2, n2, k2, rfl, hx2⟩
  have HX2 := hide hx2
  have HB2 := hide (below_grown ((unhide HB1).alloc (by omega) _) hg2 (by omega))
  have HR2 := hide ((hg2.block w.heap.size (by simp; omega) (by simp; omega)).trans ((Below.heap_alloc _ _ _ hz1).trans (unhide HR1)))
  have hz2 : w1.heap.size < w2.heap.size := by have := hg2.size; simp at this; omega
  clear hg2 hx2
  rw [List.drop_zero] at HX2
  cases hmr : modelRead L with
  | error q =>
    have hx := unhide HX2
    rw [hmr] at hx
    obtain ⟨j, hq, hp⟩ := hx
    obtain ⟨y, r1, hy⟩ := drop_ne hp.lt
    have HP := hide hp
    have HY := hide hy
    have hyq : y.p = q := by rw [hy] at hq; exact hq
    subst hyq
    have HMR := hide hmr
    obtain ⟨c0, c1, c2⟩ := hp.cells
    clear hmr hp hy hq HX2
    have rc := fun o => cell_of_blk (unhide HR2) o
    have rf := fun o => frozen_of_blk (unhide HR2) o
    have hpb := lt_of_blk (unhide HP).blk
    go_wp2_with fail
    clear c0 c1 c2
    refine wp_region_held_drew (S := fun w' => w'.cell? ⟨w2.heap.size, 0, none⟩ = some (.slice o1 n1 k1) ∧ w'.cell? ⟨w2.heap.size, 1, none⟩ = some (.slice o2 n2 k2)) (by kernel_rfl) ?_ (fun hHeld => ?_)
    · constructor <;> simp
    refine wpAnyH_take (i := 0) (v := .agg #[.slice o1 n1 k1, .slice o2 n2 k2]) rfl (by kernel_rfl) (by kernel_rfl) (by kernel_rfl) (fun _ _ _ h => h) (Or.inl ⟨by kernel_rfl, fun w hw => by obtain ⟨s0, s1⟩ := hw; go_simp⟩) hHeld ?_
    try simp only [Act.put, List.setIfInBounds_toArray, List.set_cons_zero, List.set_cons_succ, List.getElem_toArray, List.getElem_cons_succ, List.getElem_cons_zero]
    refine wpAnyH_take (i := 1) (v := .pointer (some ⟨w1.heap.size, 0, none⟩)) rfl (by kernel_rfl) (by kernel_rfl) (by kernel_rfl) (fun _ _ _ h => h) (Or.inl ⟨by kernel_rfl, fun w hw => by obtain ⟨s0, s1⟩ := hw; go_simp⟩) hHeld ?_
    try simp only [Act.put, List.setIfInBounds_toArray, List.set_cons_zero, List.set_cons_succ, List.getElem_toArray, List.getElem_cons_succ, List.getElem_cons_zero]
    refine wpAnyH_ready (rs := [2]) (by kernel_rfl) (by simp) ?_
    refine AllReadyH.cons rfl (fun K hK => ?_) AllReadyH.nil
    go_simp
    go_wp2_with (go_at_call 111; refine (now_any _ _ _ _ _ _ _ _ _ ((unhide HP).later (by exact ((Below.refl _ _).alloc (Nat.le_refl _) _).drew)) (unhide HY)).mono ?_; rintro e w3 ⟨rfl, hb3⟩; simp only [tkR])
    have hS3 : w3.cell? ⟨w2.heap.size, 0, none⟩ = some (.slice o1 n1 k1) ∧ w3.cell? ⟨w2.heap.size, 1, none⟩ = some (.slice o2 n2 k2) := by
      constructor
      · rw [bcell3 hb3 _ _ (by simp)]; simp
      · rw [bcell3 hb3 _ _ (by simp)]; simp
    refine hK.out _ _ hS3 (fun hS3' => ?_)
    clear hK K
    have HR3 := hide ((hb3.block w.heap.size (by simp; omega)).trans ((Below.heap_alloc _ _ _ (by omega)).trans (unhide HR2)))
    have hz3 : w2.heap.size < w3.heap.size := by have := hb3.size; simp at this; omega
    have HB3 := hide (((unhide HB2).alloc (by omega) _).drew.trans (hb3.mono (by simp; omega)))
    clear rc rf hb3
    have rc := fun o => cell_of_blk (unhide HR3) o
    have rf := fun o => frozen_of_blk (unhide HR3) o
    refine wpAnyH_take (i := 3) (v := .int .i64 (y.p : Int)) rfl (by kernel_rfl) (by kernel_rfl) (by kernel_rfl) (fun _ _ _ h => h) (Or.inl ⟨by kernel_rfl, fun w hw => by obtain ⟨s0, s1⟩ := hw; go_simp⟩) hS3' ?_
    try simp only [Act.put, List.setIfInBounds_toArray, List.set_cons_zero, List.set_cons_succ, List.getElem_toArray, List.getElem_cons_succ, List.getElem_cons_zero]
    refine wpAnyH_ready (rs := [4]) (by kernel_rfl) (by simp) ?_
    refine AllReadyH.cons rfl (fun K hK => ?_) AllReadyH.nil
    go_simp
    have hS4 : ((w3.setCell ⟨w.heap.size, 0, none⟩ (.slice o1 n1 k1)).setCell ⟨w.heap.size, 1, none⟩ (.slice o2 n2 k2)).cell? ⟨w2.heap.size, 0, none⟩ = some (.slice o1 n1 k1) ∧ ((w3.setCell ⟨w.heap.size, 0, none⟩ (.slice o1 n1 k1)).setCell ⟨w.heap.size, 1, none⟩ (.slice o2 n2 k2)).cell? ⟨w2.heap.size, 1, none⟩ = some (.slice o2 n2 k2) := by
      constructor
      · rw [World.cell?_of_block (w := w3) ((Below.heap_setCell _ _ _ _ (by show w2.heap.size ≠ w.heap.size; omega)).trans (Below.heap_setCell _ _ _ _ (by show w2.heap.size ≠ w.heap.size; omega)))]; exact hS3.1
      · rw [World.cell?_of_block (w := w3) ((Below.heap_setCell _ _ _ _ (by show w2.heap.size ≠ w.heap.size; omega)).trans (Below.heap_setCell _ _ _ _ (by show w2.heap.size ≠ w.heap.size; omega)))]; exact hS3.2
    refine hK.out _ _ hS4 (fun hS4' => ?_)
    clear hK K
    refine wpAnyH_take (i := 5) (v := .int .i64 (y.p : Int)) rfl (by kernel_rfl) (by kernel_rfl) (by kernel_rfl) (fun _ _ _ h => h) (Or.inl ⟨by kernel_rfl, fun w hw => by obtain ⟨s0, s1⟩ := hw; go_simp⟩) hS4' ?_
    try simp only [Act.put, List.setIfInBounds_toArray, List.set_cons_zero, List.set_cons_succ, List.getElem_toArray, List.getElem_cons_succ, List.getElem_cons_zero]
    refine wpAnyH_done (by kernel_rfl) ?_ _
    clear hS3 hS3' hS4 hS4' hHeld
    go_wp2_with fail
    refine bodyPost_ret (v := .tuple #[.agg #[.slice o1 n1 k1, .slice o2 n2 k2], .int .i64 y.p]) ?_ rfl ?_
    · simp [results, Tryz.results82, go_sem, rc]
    refine ⟨((unhide HB3).setCell (Nat.le_refl _) _).setCell (Nat.le_refl _) _, o1, n1, k1, o2, n2, k2, ?_⟩
    rw [unhide HMR]
  | ok x =>
    obtain ⟨al, rs⟩ := x
    have hx := unhide HX2
    rw [hmr] at hx
    obtain ⟨ha, ⟨cells, hr, hrs⟩, j, hp⟩ := hx
    have HP := hide hp
    have HMR := hide hmr
    have HA := hide ha
    have HRR := hide hr
    have HRS := hide hrs
    obtain ⟨c0, c1, c2⟩ := hp.cells
    have hpb := lt_of_blk hp.blk
    have hzz : w.heap.size < w2.heap.size := by omega
    clear hmr hp ha hr hrs HX2
    have rc := fun o => cell_of_blk (unhide HR2) o
    have rf := fun o => frozen_of_blk (unhide HR2) o
    go_wp2_with fail
    refine bodyPost_ret (v := .tuple #[.agg #[.slice o1 n1 k1, .slice o2 n2 k2], .int .i64 (-1)]) ?_ rfl ?_
    · simp [results, Tryz.results82, go_sem, rc, hzz]
    have tR : TyAt w2 w.heap.size 118 := ⟨_, _, unhide HR2⟩
    have hkt := (((KT.set 0 (.slice o1 n1 k1) tR (by decide) (by decide)).trans (KT.set 1 (.slice o2 n2 k2) (tR.set _ _) (by decide) (by decide)))).trans (KT.alloc _ (.cells #[.slice o1 n1 k1, .slice o2 n2 k2] 118))
    have hne : (Value.slice o2 n2 k2).ownBlock ≠ some w.heap.size := fun e => own_ty (unhide HRR) e (unhide HR2) (by decide)
    refine ⟨(((unhide HB2).setCell (Nat.le_refl _) _).setCell (Nat.le_refl _) _).alloc (by simp [World.setCell]; omega) _, o1, n1, k1, o2, n2, k2, ?_⟩
    rw [unhide HMR]
    exact ⟨rfl, hkt.owns (unhide HA), cells, (owns_keep (owns_keep (unhide HRR) (grown_set _ _ _ _) (Or.inr hne)) (grown_set _ _ _ _) (Or.inr hne)).alloc _, hkt.rules (unhide HRS)⟩
end Go.Proofs.YtoclbcffbhldmaaGreatDoor
