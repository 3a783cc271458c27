/- Formulas of the program in memory; the program's makers of formulas; names kept by the parser. -/
import Derived.Test.YtekfjoapinolgaaGreatDoorG16
import Derived.Deep.RegionHeld
import Derived.Deep.AppendLies
import Derived.Test.YtekfjoapinolgaaGreatDoorG10
import Derived.Deep.DeepCutAuto
set_option linter.unusedSimpArgs false
open List renaming setIfInBounds_toArray → zA, set_cons_zero → zB, set_cons_succ → zC, getElem_toArray → zD, getElem_cons_succ → zE, getElem_cons_zero → zF
namespace Go.Proofs.YtekfjoapinolgaaGreatDoor
open Go.RowKit Go.Deep
def IsG (w : World) : Fm → Option Addr → Prop
  | .nil, p => p = none
  | .node _ _ a l r, p => ∃ b pl pr, p = some ⟨b, 0, none⟩ ∧ w.heap[b]? = some (.cells #[.int .i64 a.1, .string a.2.1, .pointer pl, .pointer pr] 255 (0, 0)) ∧ IsG w l pl ∧ IsG w r pr
theorem IsG.keep {w w' : World} (hk : ∀ (b : Nat) (c : Array Value) (m : Nat × Nat), w.heap[b]? = some (.cells c 255 m) → w'.heap[b]? = w.heap[b]?) : ∀ {f : Fm} {v : Option Addr}, IsG w f v → IsG w' f v
  | .nil, _, h => h
  | .node _ _ _ _ _, _, ⟨b, vl, vr, hv, hb, hl, hr'⟩ => ⟨b, vl, vr, hv, (hk b _ _ hb).trans hb, IsG.keep hk hl, IsG.keep hk hr'⟩
theorem IsG.later {w w' : World} (hb : Below w.heap.size w w') {f : Fm} {v : Option Addr} (hf : IsG w f v) : IsG w' f v :=
  hf.keep (fun b _ _ h => hb.block b (lt_of_blk h))
set_option maxHeartbeats 400000 in
theorem fTwo_any (k : Nat) (f g : Fm) (vf vg : Option Addr) (w : World) :
    Calls Tryz.prog 204 #[.int .i64 (k : Int), .pointer vf, .pointer vg] w fun e w' => ∃ v, e = .returned (.pointer v) ∧ (IsG w f vf → IsG w g vg → IsG w' (two k f g) v) ∧ Below w.heap.size w w' := by
  go_enter Tryz.func204, Tryz.ntmps204
  go_wp2_with fail
  go_ret
  have hb : Below w.heap.size w (w.alloc (.cells #[.int .i64 (k : Int), .string ⟨#[]⟩, .pointer vf, .pointer vg] 255)) := (Below.refl _ _).alloc (Nat.le_refl _) _
  exact ⟨_, rfl, fun hf hg => ⟨w.heap.size, vf, vg, rfl, blk_alloc _ _, hf.later hb, hg.later hb⟩, hb⟩
set_option maxHeartbeats 400000 in
theorem fOne_any (k : Nat) (f : Fm) (vf : Option Addr) (w : World) :
    Calls Tryz.prog 241 #[.int .i64 (k : Int), .pointer vf] w fun e w' => ∃ v, e = .returned (.pointer v) ∧ (IsG w f vf → IsG w' (one k f) v) ∧ Below w.heap.size w w' := by
  go_enter Tryz.func241, Tryz.ntmps241
  go_wp2_with fail
  go_ret
  have hb : Below w.heap.size w (w.alloc (.cells #[.int .i64 (k : Int), .string ⟨#[]⟩, .pointer vf, .pointer none] 255)) := (Below.refl _ _).alloc (Nat.le_refl _) _
  exact ⟨_, rfl, fun hf => ⟨w.heap.size, vf, none, rfl, blk_alloc _ _, hf.later hb, rfl⟩, hb⟩
set_option maxHeartbeats 400000 in
theorem fWord_any (k : Nat) (w : World) :
    Calls Tryz.prog 240 #[.int .i64 (k : Int)] w fun e w' => ∃ v, e = .returned (.pointer v) ∧ IsG w' (leaf k ByteArray.empty 0) v ∧ Below w.heap.size w w' := by
  go_enter Tryz.func240, Tryz.ntmps240
  go_wp2_with fail
  go_ret
  have hb : Below w.heap.size w (w.alloc (.cells #[.int .i64 (k : Int), .string ⟨#[]⟩, .pointer none, .pointer none] 255)) := (Below.refl _ _).alloc (Nat.le_refl _) _
  exact ⟨_, rfl, ⟨w.heap.size, none, none, rfl, blk_alloc _ _, rfl, rfl⟩, hb⟩
set_option maxHeartbeats 400000 in
theorem fActivity_any (s : ByteArray) (w : World) :
    Calls Tryz.prog 151 #[.string s] w fun e w' => ∃ v, e = .returned (.pointer v) ∧ (∀ p, IsG w' (leaf 0 s p) v) ∧ Below w.heap.size w w' := by
  go_enter Tryz.func151, Tryz.ntmps151
  go_wp2_with fail
  go_ret
  have hb : Below w.heap.size w (w.alloc (.cells #[.int .i64 0, .string s, .pointer none, .pointer none] 255)) := (Below.refl _ _).alloc (Nat.le_refl _) _
  exact ⟨_, rfl, fun _ => ⟨w.heap.size, none, none, rfl, blk_alloc _ _, rfl, rfl⟩, hb⟩
structure PF (pb B : Nat) (w w' : World) : Prop where
  os : w'.os = w.os
  tape : w'.tape = w.tape
  output : w'.output = w.output
  size : w.heap.size ≤ w'.heap.size
  keep : ∀ k, k < w.heap.size → k ≠ pb → (k < B ∨ ¬ TyAt w k 185) → w'.heap[k]? = w.heap[k]?
theorem PF.trans {pb B : Nat} {w w1 w2 : World} (h : PF pb B w w1) (h' : PF pb B w1 w2) : PF pb B w w2 :=
  ⟨h'.os.trans h.os, h'.tape.trans h.tape, h'.output.trans h.output, Nat.le_trans h.size h'.size, fun k hk hp hc => by
    have e := h.keep k hk hp hc
    refine (h'.keep k (Nat.lt_of_lt_of_le hk h.size) hp ?_).trans e
    rcases hc with hc | hc
    · exact Or.inl hc
    · refine Or.inr ?_
      rintro ⟨c, m, hh⟩
      exact hc ⟨c, m, by rw [← e]; exact hh⟩⟩
theorem PF.grown {pb B : Nat} {w w' : World} (h : w.grownBy w' (some pb)) : PF pb B w w' := ⟨h.os, h.tape, h.output, h.size, fun k hk hp _ => h.block k hk (by intro e; cases e; exact hp rfl)⟩
theorem PF.below {pb B : Nat} {w w' : World} (h : Below w.heap.size w w') : PF pb B w w' := PF.grown (grown_below h _)
theorem own_is {w : World} {base e size n : Nat} {v : Value} {xs : List Value} (h : w.ownsRow base e size v n xs) {k : Nat} (hk : v.ownBlock = some k) : base ≤ k ∧ TyAt w k e := by
  obtain ⟨_, h2 | ⟨g, cap, cur, hv, hg, hh, _⟩⟩ := h
  · rw [h2.1] at hk; cases hk
  · rw [hv] at hk; cases hk; exact ⟨hg, cur, _, hh⟩
theorem PF.row {pb B : Nat} {w w' : World} {v : Value} {n : Nat} {xs : List Value} (hown : w.ownsRow B 185 3 v n xs) (h : w.grownBy w' v.ownBlock) : PF pb B w w' :=
  ⟨h.os, h.tape, h.output, h.size, fun k hk _ hc => h.block k hk (by
    intro e
    have := own_is hown e.symm
    rcases hc with hc | hc
    · omega
    · exact hc this.2)⟩
theorem PF.isG {w w' : World} {pb g cap B : Nat} {L : List Tk} {i : Nat} {bad : Bool} {q : Nat} {NM : List Tk} (hp : PP w pb g cap B L i bad q NM) (h : PF pb B w w') {f : Fm} {v : Option Addr} (hf : IsG w f v) : IsG w' f v :=
  hf.keep (fun b c m hb => h.keep b (lt_of_blk hb) (by
    rintro rfl
    obtain ⟨_, _, _, h1, _⟩ := hp.blk
    rw [h1] at hb; simp at hb) (Or.inr (by rintro ⟨c', m', h'⟩; rw [hb] at h'; simp at h')))
set_option maxHeartbeats 2000000 in
set_option maxRecDepth 100000 in
theorem activity_of (w : World) (pb g cap B : Nat) (L : List Tk) (i : Nat) (NM : List Tk) (t : Tk) (h : PP w pb g cap B L i false 0 NM) (j : Nat) (bad' : Bool) (q' : Nat) (hj : j < L.length) (hn : bad' = false → NM.length + 1 ≤ j)
    (hT : Calls Tryz.prog 141 #[.pointer (some ⟨pb, 0, none⟩), .int .i64 2] w fun e w' => e = .returned (tkP t) ∧ Mv w w' pb g cap L.length i false 0 j bad' q') :
    Calls Tryz.prog 266 #[.pointer (some ⟨pb, 0, none⟩)] w fun e w' => ∃ p, e = .returned (.pointer p) ∧ IsG w' (leaf 0 t.s t.p) p ∧ PP w' pb g cap B L j bad' q' (NM ++ [t]) ∧ PF pb B w w' := by
  obtain ⟨i0, hi, hz0, hz1, hz2⟩ := info_parts Tryz.infoTokP
  have hnm : NM.length ≤ 401 := by have := h.nm rfl; have := h.lt; have := h.len; omega
  have HP := hide h
  have HT := hide hT
  clear h hT
  go_enter Tryz.func266, Tryz.ntmps266
  go_wp2_with fail
  refine (unhide HT).mono ?_
  rintro e w1 ⟨rfl, hm⟩
  have hp1 := (unhide HP).move hm hj (fun e => by have := hn e; omega)
  have hf1 : PF pb B w w1 := PF.grown hm.gr
  have HP1 := hide hp1
  have HF1 := hide hf1
  obtain ⟨no, nn, nc, h1, hown⟩ := hp1.blk
  have hpb := hp1.pLt
  have hBw := hp1.hB
  have hgB := hp1.gB
  have hpB := hp1.pB
  have bc := fun o => cell_of_blk h1 o
  have bf := fun o => frozen_of_blk h1 o
  have HO := hide hown
  have H1 := hide h1
  have hpn : (Value.slice no nn nc).ownBlock ≠ some pb := by intro e; have := own_is hown e; omega
  have hxn : (Value.slice no nn nc).ownBlock ≠ some w1.heap.size := by intro e; have := own_lt hown _ e; omega
  clear hp1 hf1 hm hown h1 HT
  simp only [tkP]
  go_wp2_with fail
  refine wp_region_held_drew (S := fun w' => w'.cell? ⟨w1.heap.size, 0, none⟩ = some (.int .i64 t.k) ∧ w'.cell? ⟨w1.heap.size, 1, none⟩ = some (.string t.s) ∧ w'.cell? ⟨w1.heap.size, 2, none⟩ = some (.int .i64 t.p)) (by kernel_rfl) ?_ (fun hHeld => ?_)
  · refine ⟨?_, ?_, ?_⟩ <;> simp
  refine wpAnyH_take (i := 0) (v := .pointer (some ⟨pb, 0, none⟩)) rfl (by kernel_rfl) (by kernel_rfl) (by kernel_rfl) (fun _ _ _ h => h) (Or.inl ⟨by kernel_rfl, fun w hw => by obtain ⟨s0, s1, s2⟩ := hw; go_simp⟩) hHeld ?_
  try simp only [Act.put, zA, zB, zC, zD, zE, zF]
  refine wpAnyH_take (i := 1) (v := .pointer (some ⟨pb, 0, none⟩)) rfl (by kernel_rfl) (by kernel_rfl) (by kernel_rfl) (fun _ _ _ h => h) (Or.inl ⟨by kernel_rfl, fun w hw => by obtain ⟨s0, s1, s2⟩ := hw; go_simp⟩) hHeld ?_
  try simp only [Act.put, zA, zB, zC, zD, zE, zF]
  refine wpAnyH_take (i := 2) (v := .pointer (some ⟨pb, 0, none⟩)) rfl (by kernel_rfl) (by kernel_rfl) (by kernel_rfl) (fun _ _ _ h => h) (Or.inl ⟨by kernel_rfl, fun w hw => by obtain ⟨s0, s1, s2⟩ := hw; go_simp⟩) hHeld ?_
  try simp only [Act.put, zA, zB, zC, zD, zE, zF]
  refine wpAnyH_take (i := 3) (v := .pointer (some ⟨pb, 3, none⟩)) rfl (by kernel_rfl) (by kernel_rfl) (by kernel_rfl) (fun _ _ _ h => h) (Or.inl ⟨by kernel_rfl, fun w hw => by obtain ⟨s0, s1, s2⟩ := hw; go_simp⟩) hHeld ?_
  try simp only [Act.put, zA, zB, zC, zD, zE, zF]
  refine wpAnyH_take (i := 5) (v := .agg #[.int .i64 t.k, .string t.s, .int .i64 t.p]) rfl (by kernel_rfl) (by kernel_rfl) (by kernel_rfl) (fun _ _ _ h => h) (Or.inl ⟨by kernel_rfl, fun w hw => by obtain ⟨s0, s1, s2⟩ := hw; go_simp⟩) hHeld ?_
  try simp only [Act.put, zA, zB, zC, zD, zE, zF]
  refine wpAnyH_ready (rs := [4, 6]) (by kernel_rfl) (by simp) ?_
  refine AllReadyH.cons rfl (fun K hK => ?_) (AllReadyH.cons rfl (fun K hK => ?_) AllReadyH.nil)
  · go_simp
    refine hK.out _ _ hHeld (fun hHeld => ?_)
    clear hK K
    refine wpAnyH_ready (rs := [6]) (by kernel_rfl) (by simp) ?_
    refine AllReadyH.cons rfl (fun K hK => ?_) AllReadyH.nil
    go_simp
    refine hK.out _ _ (by refine ⟨?_, ?_, ?_⟩ <;> simp) (fun hHeld => ?_)
    clear hK K
    refine wpAnyH_ready (rs := [7]) (by kernel_rfl) (by simp) ?_
    refine AllReadyH.cons rfl (fun K hK => ?_) AllReadyH.nil
    refine step_append_lies _ (by rfl) _ _ 101 (by rfl) B 185 i0 (.agg #[.int .i64 0, .string ⟨#[]⟩, .int .i64 0]) 3 32 Tryz.underlying101 hi hz0 hz1 hz2 rfl (by decide) (.slice no nn nc) NM.length (tkCellsP NM) (by rfl) ?c0 ⟨w1.heap.size + 1, 0, none⟩ 1 1 [.int .i64 t.k, .string t.s, .int .i64 t.p] (by rfl) rfl ?c1 ?c2 (by decide) ?c3 ?c4 ?c5 (w1.heap.size + 2) (by simp) ?_
    case c0 => exact owns_later (unhide HO) (((Below.refl _ _).alloc (Nat.le_refl _) _).alloc (by simp) _).drew
    case c1 =>
      intro j u hj
      match j, hj with
      | 0, hj => simp at hj; subst hj; simp [Addr.add]
      | 1, hj => simp at hj; subst hj; simp [Addr.add]
      | 2, hj => simp at hj; subst hj; simp [Addr.add]
      | j + 3, hj => simp at hj
    case c2 => intro u hu; simp at hu; rcases hu with rfl | rfl | rfl <;> rfl
    case c3 => unfold maxLen; omega
    case c4 => omega
    case c5 => simp; omega
    intro g2 cap2 w2 hown2 hgrow hat hlt2
    have hbx2 : w2.heap[w1.heap.size]? = some (.cells #[.int .i64 t.k, .string t.s, .int .i64 t.p] 185 (0, 0)) := (hgrow.block _ (by simp; omega) (fun e => hxn e.symm)).trans ((Below.heap_alloc _ _ _ (by simp)).trans (blk_alloc _ _))
    have hpb2 := (hgrow.block pb (by simp; omega) (fun e => hpn e.symm)).trans ((Below.heap_alloc _ _ _ (by simp; omega)).trans ((Below.heap_alloc _ _ _ hpb).trans (unhide H1)))
    have hz2 : w1.heap.size < w2.heap.size := lt_of_blk hbx2
    have hzp2 : pb < w2.heap.size := lt_of_blk hpb2
    have hs2 : w2.cell? ⟨w1.heap.size, 0, none⟩ = some (.int .i64 t.k) ∧ w2.cell? ⟨w1.heap.size, 1, none⟩ = some (.string t.s) ∧ w2.cell? ⟨w1.heap.size, 2, none⟩ = some (.int .i64 t.p) := ⟨cell_of_blk hbx2 0, cell_of_blk hbx2 1, cell_of_blk hbx2 2⟩
    refine hK.out _ _ hs2 (fun hHeld => ?_)
    clear hK K bc bf
    have bc := fun o => cell_of_blk hpb2 o
    have bf := fun o => frozen_of_blk hpb2 o
    have HX2 := hide hbx2
    have HB2 := hide hpb2
    have HF2 := hide (((unhide HF1).trans (PF.below (pb := pb) (B := B) (((Below.refl w1.heap.size w1).alloc (Nat.le_refl _) (.cells #[.int .i64 t.k, .string t.s, .int .i64 t.p] 185)).alloc (by simp) (.cells #[.int .i64 t.k, .string t.s, .int .i64 t.p] 185)).drew)).trans (PF.row (owns_later (unhide HO) (((Below.refl _ _).alloc (Nat.le_refl _) _).alloc (by simp) _).drew) hgrow))
    have HOW := hide hown2
    have hrow2 : ∃ cur, w2.heap[g]? = some (.cells cur 185 (0, 0)) ∧ cur.toList.take (L.length * 3) = tkCellsP L := by
      obtain ⟨cur, h3, h4⟩ := (unhide HP1).row
      exact ⟨cur, (hgrow.block g (by have := lt_of_blk h3; simp; omega) (by intro e; have := own_is (unhide HO) e.symm; omega)).trans ((Below.heap_alloc _ _ _ (by have := lt_of_blk h3; simp; omega)).trans ((Below.heap_alloc _ _ _ (lt_of_blk h3)).trans h3)), h4⟩
    have HROW := hide hrow2
    have hg2n : g2 ≠ pb := by
      rintro rfl
      rcases hat with e | e
      · exact hpn e
      · omega
    clear hgrow hbx2 hpb2 hown2 hrow2 hs2
    refine wpAnyH_take (i := 8) (v := .pointer (some ⟨pb, 0, none⟩)) rfl (by kernel_rfl) (by kernel_rfl) (by kernel_rfl) (fun _ _ _ h => h) (Or.inl ⟨by kernel_rfl, fun w hw => by obtain ⟨s0, s1, s2⟩ := hw; go_simp⟩) hHeld ?_
    try simp only [Act.put, zA, zB, zC, zD, zE, zF]
    refine wpAnyH_take (i := 9) (v := .pointer (some ⟨pb, 3, none⟩)) rfl (by kernel_rfl) (by kernel_rfl) (by kernel_rfl) (fun _ _ _ h => h) (Or.inl ⟨by kernel_rfl, fun w hw => by obtain ⟨s0, s1, s2⟩ := hw; go_simp⟩) hHeld ?_
    try simp only [Act.put, zA, zB, zC, zD, zE, zF]
    refine wpAnyH_ready (rs := [10]) (by kernel_rfl) (by simp) ?_
    refine AllReadyH.cons rfl (fun K hK => ?_) AllReadyH.nil
    go_simp
    refine hK.out _ _ (by obtain ⟨s0, s1, s2⟩ := hHeld; refine ⟨?_, ?_, ?_⟩ <;> (rw [World.cell?_setCell_far _ _ _ _ (by show pb ≠ w1.heap.size; omega)]; assumption)) (fun hHeld => ?_)
    clear hK K
    refine wpAnyH_done (by kernel_rfl) ?_ _
    obtain ⟨s0, s1, s2⟩ := hHeld
    clear bc bf
    go_wp2_with fail
    refine (fActivity_any t.s _).mono ?_
    rintro e w4 ⟨v, rfl, hv, hb4⟩
    have HV := hide hv
    have HB4 := hide hb4
    clear hv hb4
    go_wp2_with fail
    go_ret
    have hPP3 : PP (w2.setCell ⟨pb, 3, none⟩ (.slice (some ⟨g2, 0, none⟩) (NM.length + 1) cap2)) pb g cap B L j bad' q' (NM ++ [t]) := by
      obtain ⟨cur, h3, h4⟩ := unhide HROW
      refine ⟨⟨some ⟨g2, 0, none⟩, NM.length + 1, cap2, blk_set (unhide HB2) 3 _, ?_⟩, ⟨cur, (Below.heap_setCell _ _ _ _ (by show g ≠ pb; exact (unhide HP1).ne)).trans h3, h4⟩, (unhide HP1).le, (unhide HP1).capLe, (unhide HP1).len, (unhide HP1).lt, (unhide HP1).fe, (unhide HP1).ok, hgB, hpB, by simp [World.setCell]; omega, fun e => by simp; exact hn e⟩
      rw [tkCellsP_snoc, List.length_append]
      exact owns_keep (unhide HOW) (grown_set _ _ _ _) (Or.inr (by intro e; cases e; exact hg2n rfl))
    have hF3 : PF pb B w (w2.setCell ⟨pb, 3, none⟩ (.slice (some ⟨g2, 0, none⟩) (NM.length + 1) cap2)) := (unhide HF2).trans (PF.grown (grown_set _ _ _ _))
    exact ⟨v, rfl, unhide HV t.p, hPP3.later (unhide HB4), hF3.trans (PF.below (unhide HB4))⟩
  · go_simp
    refine hK.out _ _ (by refine ⟨?_, ?_, ?_⟩ <;> simp) (fun hHeld => ?_)
    clear hK K
    refine wpAnyH_ready (rs := [4]) (by kernel_rfl) (by simp) ?_
    refine AllReadyH.cons rfl (fun K hK => ?_) AllReadyH.nil
    go_simp
    refine hK.out _ _ hHeld (fun hHeld => ?_)
    clear hK K
    refine wpAnyH_ready (rs := [7]) (by kernel_rfl) (by simp) ?_
    refine AllReadyH.cons rfl (fun K hK => ?_) AllReadyH.nil
    refine step_append_lies _ (by rfl) _ _ 101 (by rfl) B 185 i0 (.agg #[.int .i64 0, .string ⟨#[]⟩, .int .i64 0]) 3 32 Tryz.underlying101 hi hz0 hz1 hz2 rfl (by decide) (.slice no nn nc) NM.length (tkCellsP NM) (by rfl) ?c0 ⟨w1.heap.size + 1, 0, none⟩ 1 1 [.int .i64 t.k, .string t.s, .int .i64 t.p] (by rfl) rfl ?c1 ?c2 (by decide) ?c3 ?c4 ?c5 (w1.heap.size + 2) (by simp) ?_
    case c0 => exact owns_later (unhide HO) (((Below.refl _ _).alloc (Nat.le_refl _) _).alloc (by simp) _).drew
    case c1 =>
      intro j u hj
      match j, hj with
      | 0, hj => simp at hj; subst hj; simp [Addr.add]
      | 1, hj => simp at hj; subst hj; simp [Addr.add]
      | 2, hj => simp at hj; subst hj; simp [Addr.add]
      | j + 3, hj => simp at hj
    case c2 => intro u hu; simp at hu; rcases hu with rfl | rfl | rfl <;> rfl
    case c3 => unfold maxLen; omega
    case c4 => omega
    case c5 => simp; omega
    intro g2 cap2 w2 hown2 hgrow hat hlt2
    have hbx2 : w2.heap[w1.heap.size]? = some (.cells #[.int .i64 t.k, .string t.s, .int .i64 t.p] 185 (0, 0)) := (hgrow.block _ (by simp; omega) (fun e => hxn e.symm)).trans ((Below.heap_alloc _ _ _ (by simp)).trans (blk_alloc _ _))
    have hpb2 := (hgrow.block pb (by simp; omega) (fun e => hpn e.symm)).trans ((Below.heap_alloc _ _ _ (by simp; omega)).trans ((Below.heap_alloc _ _ _ hpb).trans (unhide H1)))
    have hz2 : w1.heap.size < w2.heap.size := lt_of_blk hbx2
    have hzp2 : pb < w2.heap.size := lt_of_blk hpb2
    have hs2 : w2.cell? ⟨w1.heap.size, 0, none⟩ = some (.int .i64 t.k) ∧ w2.cell? ⟨w1.heap.size, 1, none⟩ = some (.string t.s) ∧ w2.cell? ⟨w1.heap.size, 2, none⟩ = some (.int .i64 t.p) := ⟨cell_of_blk hbx2 0, cell_of_blk hbx2 1, cell_of_blk hbx2 2⟩
    refine hK.out _ _ hs2 (fun hHeld => ?_)
    clear hK K bc bf
    have bc := fun o => cell_of_blk hpb2 o
    have bf := fun o => frozen_of_blk hpb2 o
    have HX2 := hide hbx2
    have HB2 := hide hpb2
    have HF2 := hide (((unhide HF1).trans (PF.below (pb := pb) (B := B) (((Below.refl w1.heap.size w1).alloc (Nat.le_refl _) (.cells #[.int .i64 t.k, .string t.s, .int .i64 t.p] 185)).alloc (by simp) (.cells #[.int .i64 t.k, .string t.s, .int .i64 t.p] 185)).drew)).trans (PF.row (owns_later (unhide HO) (((Below.refl _ _).alloc (Nat.le_refl _) _).alloc (by simp) _).drew) hgrow))
    have HOW := hide hown2
    have hrow2 : ∃ cur, w2.heap[g]? = some (.cells cur 185 (0, 0)) ∧ cur.toList.take (L.length * 3) = tkCellsP L := by
      obtain ⟨cur, h3, h4⟩ := (unhide HP1).row
      exact ⟨cur, (hgrow.block g (by have := lt_of_blk h3; simp; omega) (by intro e; have := own_is (unhide HO) e.symm; omega)).trans ((Below.heap_alloc _ _ _ (by have := lt_of_blk h3; simp; omega)).trans ((Below.heap_alloc _ _ _ (lt_of_blk h3)).trans h3)), h4⟩
    have HROW := hide hrow2
    have hg2n : g2 ≠ pb := by
      rintro rfl
      rcases hat with e | e
      · exact hpn e
      · omega
    clear hgrow hbx2 hpb2 hown2 hrow2 hs2
    refine wpAnyH_take (i := 8) (v := .pointer (some ⟨pb, 0, none⟩)) rfl (by kernel_rfl) (by kernel_rfl) (by kernel_rfl) (fun _ _ _ h => h) (Or.inl ⟨by kernel_rfl, fun w hw => by obtain ⟨s0, s1, s2⟩ := hw; go_simp⟩) hHeld ?_
    try simp only [Act.put, zA, zB, zC, zD, zE, zF]
    refine wpAnyH_take (i := 9) (v := .pointer (some ⟨pb, 3, none⟩)) rfl (by kernel_rfl) (by kernel_rfl) (by kernel_rfl) (fun _ _ _ h => h) (Or.inl ⟨by kernel_rfl, fun w hw => by obtain ⟨s0, s1, s2⟩ := hw; go_simp⟩) hHeld ?_
    try simp only [Act.put, zA, zB, zC, zD, zE, zF]
    refine wpAnyH_ready (rs := [10]) (by kernel_rfl) (by simp) ?_
    refine AllReadyH.cons rfl (fun K hK => ?_) AllReadyH.nil
    go_simp
    refine hK.out _ _ (by obtain ⟨s0, s1, s2⟩ := hHeld; refine ⟨?_, ?_, ?_⟩ <;> (rw [World.cell?_setCell_far _ _ _ _ (by show pb ≠ w1.heap.size; omega)]; assumption)) (fun hHeld => ?_)
    clear hK K
    refine wpAnyH_done (by kernel_rfl) ?_ _
    obtain ⟨s0, s1, s2⟩ := hHeld
    clear bc bf
    go_wp2_with fail
    refine (fActivity_any t.s _).mono ?_
    rintro e w4 ⟨v, rfl, hv, hb4⟩
    have HV := hide hv
    have HB4 := hide hb4
    clear hv hb4
    go_wp2_with fail
    go_ret
    have hPP3 : PP (w2.setCell ⟨pb, 3, none⟩ (.slice (some ⟨g2, 0, none⟩) (NM.length + 1) cap2)) pb g cap B L j bad' q' (NM ++ [t]) := by
      obtain ⟨cur, h3, h4⟩ := unhide HROW
      refine ⟨⟨some ⟨g2, 0, none⟩, NM.length + 1, cap2, blk_set (unhide HB2) 3 _, ?_⟩, ⟨cur, (Below.heap_setCell _ _ _ _ (by show g ≠ pb; exact (unhide HP1).ne)).trans h3, h4⟩, (unhide HP1).le, (unhide HP1).capLe, (unhide HP1).len, (unhide HP1).lt, (unhide HP1).fe, (unhide HP1).ok, hgB, hpB, by simp [World.setCell]; omega, fun e => by simp; exact hn e⟩
      rw [tkCellsP_snoc, List.length_append]
      exact owns_keep (unhide HOW) (grown_set _ _ _ _) (Or.inr (by intro e; cases e; exact hg2n rfl))
    have hF3 : PF pb B w (w2.setCell ⟨pb, 3, none⟩ (.slice (some ⟨g2, 0, none⟩) (NM.length + 1) cap2)) := (unhide HF2).trans (PF.grown (grown_set _ _ _ _))
    exact ⟨v, rfl, unhide HV t.p, hPP3.later (unhide HB4), hF3.trans (PF.below (unhide HB4))⟩
def stC (d : Sp) : List Value := [.int .i64 (d.k : Int), .string d.s, .int .i64 (d.a : Int), .int .i64 (d.b : Int)]
def spC (S : List Sp) : List Value := S.flatMap stC
theorem spC_snoc (S : List Sp) (d : Sp) : spC (S ++ [d]) = spC S ++ stC d := by simp [spC]
theorem spC_at : ∀ {S : List Sp} {k : Nat} {d : Sp}, S[k]? = some d → ∀ j, j < 4 → (spC S)[k * 4 + j]? = (stC d)[j]?
  | [], k, d, h, j, hj => by simp at h
  | x :: r, 0, d, h, j, hj => by
    simp at h; subst h
    show (stC x ++ spC r)[0 * 4 + j]? = _
    rw [Nat.zero_mul, Nat.zero_add, List.getElem?_append_left (by show j < 4; exact hj)]
  | x :: r, k + 1, d, h, j, hj => by
    show (stC x ++ spC r)[(k + 1) * 4 + j]? = _
    rw [List.getElem?_append_right (by show 4 ≤ _; omega), show (k + 1) * 4 + j - (stC x).length = k * 4 + j by show (k + 1) * 4 + j - 4 = _; omega]
    exact spC_at (by simpa using h) j hj
theorem Tryz.infoSp : (Tryz.prog.info? 302).map (fun i => (i.zero, i.size, i.bytes)) = some (some (.agg #[.int .i64 0, .string ⟨#[]⟩, .int .i64 0, .int .i64 0]), 4, 40) := by kernel_rfl
theorem isG_grown {w w' : World} {base n : Nat} {v : Value} {xs : List Value} {f : Fm} {p : Option Addr} (ho : w.ownsRow base 302 4 v n xs) (hg : w.grownBy w' v.ownBlock) (hf : IsG w f p) : IsG w' f p :=
  hf.keep (fun b _ _ hb => hg.block b (lt_of_blk hb) (fun e => own_ty ho e.symm hb (by decide)))
def ApPost (base : Nat) (S' : List Sp) (v : Value) (w w' : World) (e : Ending) : Prop :=
  ∃ o' c', e = .returned (.slice o' S'.length c') ∧ w'.ownsRow base 302 4 (.slice o' S'.length c') S'.length (spC S') ∧ w.grownBy w' v.ownBlock ∧ ((Value.slice o' S'.length c').ownBlock = v.ownBlock ∨ ∃ g, (Value.slice o' S'.length c').ownBlock = some g ∧ w.heap.size ≤ g)
theorem grown_more {a b c : World} {k1 k2 : Option Nat} (h1 : a.grownBy b k1) (h2 : b.grownBy c k2) (h : k2 = k1 ∨ ∃ g, k2 = some g ∧ a.heap.size ≤ g) : a.grownBy c k1 := by
  refine ⟨h2.os.trans h1.os, h2.tape.trans h1.tape, h2.output.trans h1.output, Nat.le_trans h1.size h2.size, fun x hx hn => ?_⟩
  refine (h2.block x (Nat.lt_of_lt_of_le hx h1.size) ?_).trans (h1.block x hx hn)
  rcases h with h | ⟨g, h, hg⟩
  · rw [h]; exact hn
  · rw [h]; intro e; cases e; omega
structure ASt (w W : World) (base : Nat) (v : Value) (o : Option Addr) (c : Nat) (T : List Sp) (k : Nat) (s : ByteArray) (x y : Nat) : Prop where
  sb : W.heap[w.heap.size]? = some (.cells #[.int .i64 (k : Int), .string s, .int .i64 (x : Int), .int .i64 (y : Int)] 302 (0, 0))
  own : W.ownsRow base 302 4 (.slice o T.length c) T.length (spC T)
  gr : w.grownBy W v.ownBlock
  at_ : (Value.slice o T.length c).ownBlock = v.ownBlock ∨ ∃ g, (Value.slice o T.length c).ownBlock = some g ∧ w.heap.size < g
  vlt : ∀ k, v.ownBlock = some k → k < w.heap.size
theorem ASt.ne {w W : World} {base : Nat} {v : Value} {o : Option Addr} {c : Nat} {T : List Sp} {k : Nat} {s : ByteArray} {x y : Nat} (h : ASt w W base v o c T k s x y) : (Value.slice o T.length c).ownBlock ≠ some w.heap.size := by
  rcases h.at_ with e | ⟨g, e, hg⟩
  · rw [e]; intro e'; have := h.vlt _ e'; omega
  · rw [e]; intro e'; cases e'; omega
theorem ASt.call {w W w2 : World} {base : Nat} {v : Value} {o : Option Addr} {c : Nat} {T T' : List Sp} {k : Nat} {s : ByteArray} {x y : Nat} {e : Ending} (h : ASt w W base v o c T k s x y) (hp : ApPost base T' (.slice o T.length c) W w2 e) : ∃ o' c', e = .returned (.slice o' T'.length c') ∧ ASt w w2 base v o' c' T' k s x y := by
  obtain ⟨o', c', he, ho, hg, hat⟩ := hp
  have hlt := lt_of_blk h.sb
  refine ⟨o', c', he, (hg.block _ hlt (fun e => h.ne e.symm)).trans h.sb, ho, grown_more h.gr hg ?_, ?_, h.vlt⟩
  · rcases h.at_ with e | ⟨g, e, hgg⟩
    · exact Or.inl e
    · exact Or.inr ⟨g, e, by omega⟩
  · rcases hat with e | ⟨g, e, hgg⟩
    · rw [e]; exact h.at_
    · exact Or.inr ⟨g, e, by omega⟩
theorem ASt.setA {w W : World} {base : Nat} {v : Value} {o : Option Addr} {c : Nat} {T : List Sp} {k : Nat} {s : ByteArray} {x y : Nat} (h : ASt w W base v o c T k s x y) (z : Int) (x' : Nat) (hz : z = (x' : Int)) : ASt w (W.setCell ⟨w.heap.size, 2, none⟩ (.int .i64 z)) base v o c T k s x' y := by
  subst hz
  refine ⟨blk_set h.sb 2 _, owns_keep h.own (grown_set _ _ _ _) (Or.inr h.ne), grown_more h.gr (grown_set _ _ _ _) (Or.inr ⟨_, rfl, Nat.le_refl _⟩), h.at_, h.vlt⟩
theorem ASt.setB {w W : World} {base : Nat} {v : Value} {o : Option Addr} {c : Nat} {T : List Sp} {k : Nat} {s : ByteArray} {x y : Nat} (h : ASt w W base v o c T k s x y) (z : Int) (y' : Nat) (hz : z = (y' : Int)) : ASt w (W.setCell ⟨w.heap.size, 3, none⟩ (.int .i64 z)) base v o c T k s x y' := by
  subst hz
  refine ⟨blk_set h.sb 3 _, owns_keep h.own (grown_set _ _ _ _) (Or.inr h.ne), grown_more h.gr (grown_set _ _ _ _) (Or.inr ⟨_, rfl, Nat.le_refl _⟩), h.at_, h.vlt⟩
set_option maxHeartbeats 1000000 in
set_option maxRecDepth 100000 in
theorem appendSteps_any : ∀ (f : Fm) (S : List Sp) (w : World) (p : Option Addr) (base : Nat) (vo : Option Addr) (vc : Nat), f ≠ .nil → IsG w f p → w.ownsRow base 302 4 (.slice vo S.length vc) S.length (spC S) → base ≤ w.heap.size → S.length + sizeF f ≤ 100000 →
    Calls Tryz.prog 155 #[.slice vo S.length vc, .pointer p] w fun e w' => ApPost base (appS f S) (.slice vo S.length vc) w w' e
  | .nil, _, _, _, _, _, _, h, _, _, _, _ => absurd rfl h
  | .node u v0 a .nil .nil, S, w, p, base, vo, vc, _, h, ho, hbase, hsz => by
    obtain ⟨i0, hi0, hz0, hz1, hz2⟩ := info_parts Tryz.infoSp
    obtain ⟨b, pl, pr, rfl, hb, hl, hr⟩ := h
    have HADD : Hid (appS (.node u v0 a .nil .nil) S = appS .nil (appS .nil S) ++ [⟨a.1, a.2.1, 0, 0⟩]) := rfl
    have hs : sizeF (.node u v0 a .nil .nil) = 1 + sizeF (.nil : Fm) + sizeF (.nil : Fm) := rfl
    have el0 : (appS .nil S).length = S.length + sizeF (.nil : Fm) := appS_len _ _
    have el1 := Nat.le_of_eq el0
    have el2 := Nat.le_of_eq el0.symm
    clear el0
    have er0 : (appS .nil (appS .nil S)).length = (appS .nil S).length + sizeF (.nil : Fm) := appS_len _ _
    have er1 := Nat.le_of_eq er0
    have er2 := Nat.le_of_eq er0.symm
    clear er0
    cases (show pl = none from hl)
    have ezl : sizeF (.nil : Fm) = 0 := rfl
    cases (show pr = none from hr)
    have ezr : sizeF (.nil : Fm) = 0 := rfl
    have bc := fun o => cell_of_blk hb o
    have hlt := lt_of_blk hb
    have hol := own_lt ho
    have HL := hide hl
    have HR := hide hr
    have HO := hide ho
    have HB := hide hb
    have c0 : w.cell? ⟨b, 0, none⟩ = some (.int .i64 (a.1 : Int)) := bc 0
    have c1 : w.cell? ⟨b, 1, none⟩ = some (.string a.2.1) := bc 1
    have c2 := bc 2
    have c3 := bc 3
    clear hl hr ho hb bc
    go_enter Tryz.func155, Tryz.ntmps155
    go_wp2_with fail
    refine wp_region_held_drew (S := fun w' => w'.cell? ⟨b, 0, none⟩ = some (.int .i64 (a.1 : Int)) ∧ w'.cell? ⟨b, 1, none⟩ = some (.string a.2.1)) (by kernel_rfl) ?_ (fun hHeld => ?_)
    · exact ⟨c0, c1⟩
    refine wpAnyH_take (i := 0) (v := .pointer (some ⟨b, 0, none⟩)) rfl (by kernel_rfl) (by kernel_rfl) (by kernel_rfl) (fun _ _ _ h => h) (Or.inl ⟨by kernel_rfl, fun w hw => by obtain ⟨s0, s1⟩ := hw; go_simp⟩) hHeld ?_
    try simp only [Act.put, zA, zB, zC, zD, zE, zF]
    refine wpAnyH_take (i := 1) (v := .pointer (some ⟨b, 0, none⟩)) rfl (by kernel_rfl) (by kernel_rfl) (by kernel_rfl) (fun _ _ _ h => h) (Or.inl ⟨by kernel_rfl, fun w hw => by obtain ⟨s0, s1⟩ := hw; go_simp⟩) hHeld ?_
    try simp only [Act.put, zA, zB, zC, zD, zE, zF]
    refine wpAnyH_take (i := 2) (v := .pointer (some ⟨b, 0, none⟩)) rfl (by kernel_rfl) (by kernel_rfl) (by kernel_rfl) (fun _ _ _ h => h) (Or.inl ⟨by kernel_rfl, fun w hw => by obtain ⟨s0, s1⟩ := hw; go_simp⟩) hHeld ?_
    try simp only [Act.put, zA, zB, zC, zD, zE, zF]
    refine wpAnyH_take (i := 3) (v := .int .i64 (a.1 : Int)) rfl (by kernel_rfl) (by kernel_rfl) (by kernel_rfl) (fun _ _ _ h => h) (Or.inl ⟨by kernel_rfl, fun w hw => by obtain ⟨s0, s1⟩ := hw; go_simp⟩) hHeld ?_
    try simp only [Act.put, zA, zB, zC, zD, zE, zF]
    refine wpAnyH_take (i := 4) (v := .pointer (some ⟨b, 0, none⟩)) rfl (by kernel_rfl) (by kernel_rfl) (by kernel_rfl) (fun _ _ _ h => h) (Or.inl ⟨by kernel_rfl, fun w hw => by obtain ⟨s0, s1⟩ := hw; go_simp⟩) hHeld ?_
    try simp only [Act.put, zA, zB, zC, zD, zE, zF]
    refine wpAnyH_take (i := 5) (v := .pointer (some ⟨b, 0, none⟩)) rfl (by kernel_rfl) (by kernel_rfl) (by kernel_rfl) (fun _ _ _ h => h) (Or.inl ⟨by kernel_rfl, fun w hw => by obtain ⟨s0, s1⟩ := hw; go_simp⟩) hHeld ?_
    try simp only [Act.put, zA, zB, zC, zD, zE, zF]
    refine wpAnyH_take (i := 6) (v := .pointer (some ⟨b, 1, none⟩)) rfl (by kernel_rfl) (by kernel_rfl) (by kernel_rfl) (fun _ _ _ h => h) (Or.inl ⟨by kernel_rfl, fun w hw => by obtain ⟨s0, s1⟩ := hw; go_simp⟩) hHeld ?_
    try simp only [Act.put, zA, zB, zC, zD, zE, zF]
    refine wpAnyH_take (i := 7) (v := .string a.2.1) rfl (by kernel_rfl) (by kernel_rfl) (by kernel_rfl) (fun _ _ _ h => h) (Or.inl ⟨by kernel_rfl, fun w hw => by obtain ⟨s0, s1⟩ := hw; go_simp⟩) hHeld ?_
    try simp only [Act.put, zA, zB, zC, zD, zE, zF]
    refine wpAnyH_take (i := 8) (v := .agg #[.int .i64 (a.1 : Int), .string a.2.1, .int .i64 0, .int .i64 0]) rfl (by kernel_rfl) (by kernel_rfl) (by kernel_rfl) (fun _ _ _ h => h) (Or.inl ⟨by kernel_rfl, fun w hw => by obtain ⟨s0, s1⟩ := hw; go_simp⟩) hHeld ?_
    try simp only [Act.put, zA, zB, zC, zD, zE, zF]
    refine wpAnyH_ready (rs := [9]) (by kernel_rfl) (by simp) ?_
    refine AllReadyH.cons rfl (fun K hK => ?_) AllReadyH.nil
    go_simp
    refine hK.out _ _ ⟨by show (World.alloc _ _).cell? _ = _; rw [World.cell?_alloc_lt _ _ _ (by simpa using hlt)]; exact hHeld.1, by show (World.alloc _ _).cell? _ = _; rw [World.cell?_alloc_lt _ _ _ (by simpa using hlt)]; exact hHeld.2⟩ (fun hHeld => ?_)
    clear hK K
    refine wpAnyH_ready (rs := [10]) (by kernel_rfl) (by simp) ?_
    refine AllReadyH.cons rfl (fun K hK => ?_) AllReadyH.nil
    go_simp
    refine hK.out _ _ ⟨by show (World.alloc _ _).cell? _ = _; rw [World.cell?_alloc_lt _ _ _ (by simpa using hlt)]; exact c0, by show (World.alloc _ _).cell? _ = _; rw [World.cell?_alloc_lt _ _ _ (by simpa using hlt)]; exact c1⟩ (fun hHeld => ?_)
    clear hK K
    refine wpAnyH_done (by kernel_rfl) ?_ _
    clear hHeld
    have hBW : Below w.heap.size w ((w.alloc (.cells #[.int .i64 (a.1 : Int), .string a.2.1, .int .i64 0, .int .i64 0] 302)).drew) := ((Below.refl _ _).alloc (Nat.le_refl _) _).drew
    have hA : ASt w ((w.alloc (.cells #[.int .i64 (a.1 : Int), .string a.2.1, .int .i64 0, .int .i64 0] 302)).drew) base (.slice vo S.length vc) vo vc S a.1 a.2.1 0 0 := ⟨blk_alloc _ _, owns_later (unhide HO) hBW, ⟨hBW.os, hBW.tape, hBW.output, hBW.size, fun x hx _ => hBW.block x hx⟩, Or.inl rfl, fun x hx => (hol x hx).2⟩
    generalize (w.alloc (.cells #[.int .i64 (a.1 : Int), .string a.2.1, .int .i64 0, .int .i64 0] 302)).drew = W1 at *
    have HA1 := hide hA
    have hbz := hA.gr.size
    clear hA hBW hol c0 c1
    have HKEEP : Hid (∀ W : World, w.grownBy W (Value.slice vo S.length vc).ownBlock → W.heap[b]? = w.heap[b]?) := fun W hW => hW.block b hlt (fun e => own_ty (unhide HO) e.symm (unhide HB) (by decide))
    clear c2 c3
    have bc := fun o => cell_of_blk ((unhide HKEEP _ (unhide HA1).gr).trans (unhide HB)) o
    have sc := fun o => cell_of_blk (unhide HA1).sb o
    have sf := fun o => frozen_of_blk (unhide HA1).sb o
    have hls := lt_of_blk (unhide HA1).sb
    have hlb : b < W1.heap.size := by omega
    have HAF := hide (unhide HA1)
    have hTl : S.length ≤ 100000 := by omega
    have hbs : base ≤ W1.heap.size := by omega
    go_wp2_with (at_builtin; go_must (refine wpList_append_lies _ rfl _ _ 121 rfl base 302 i0 (.agg #[.int .i64 0, .string ⟨#[]⟩, .int .i64 0, .int .i64 0]) 4 40 Tryz.underlying121 hi0 hz0 hz1 hz2 rfl (by decide) _ S.length (spC S) rfl ?c0 ⟨W1.heap.size, 0, none⟩ 1 1 [.int .i64 (a.1 : Int), .string a.2.1, .int .i64 0, .int .i64 0] rfl rfl ?c1 ?c2 (by decide) ?c3 ?c4 ?c5 (W1.heap.size + 1) ?c6 ?_))
    case c0 => exact owns_later (unhide HAF).own ((Below.refl _ _).alloc (Nat.le_refl _) _)
    case c1 =>
      intro j u hj
      match j, hj with
      | 0, hj => simp at hj; subst hj; exact cell_of_blk (blk_alloc' _ _ _ (by first | rfl | simp [World.setCell])) 0
      | 1, hj => simp at hj; subst hj; exact cell_of_blk (blk_alloc' _ _ _ (by first | rfl | simp [World.setCell])) 1
      | 2, hj => simp at hj; subst hj; exact cell_of_blk (blk_alloc' _ _ _ (by first | rfl | simp [World.setCell])) 2
      | 3, hj => simp at hj; subst hj; exact cell_of_blk (blk_alloc' _ _ _ (by first | rfl | simp [World.setCell])) 3
      | j + 4, hj => simp at hj
    case c2 => intro u hu; simp at hu; rcases hu with rfl | rfl | rfl | rfl <;> rfl
    case c3 => unfold maxLen; omega
    case c4 => omega
    case c5 => simp; omega
    case c6 => simp
    intro g8 cap8 q8 hown hgrow hat _
    have HG8 := hide (grown_more (unhide HAF).gr (grown_more (World.grownBy_alloc _ _ _) hgrow (Or.inl rfl)) (by rcases (unhide HAF).at_ with e | ⟨g, e, hg⟩; exact Or.inl e; exact Or.inr ⟨g, e, by omega⟩))
    have HO8 : Hid (q8.ownsRow base 302 4 (.slice (some ⟨g8, 0, none⟩) (S.length + 1) cap8) (S.length + 1) (spC (S ++ [⟨a.1, a.2.1, 0, 0⟩]))) := by
      have := hown
      show q8.ownsRow _ _ _ _ _ _
      rw [spC_snoc]
      exact this
    have HAT : Hid ((Value.slice vo S.length vc).ownBlock = some g8 ∨ w.heap.size ≤ g8) := by
      rcases hat with e | e
      · rcases (unhide HAF).at_ with e2 | ⟨g, e2, hg⟩
        · exact Or.inl (e2.symm.trans e)
        · rw [e2] at e; cases e; exact Or.inr (by omega)
      · exact Or.inr (by first | omega | (simp at e; omega))
    clear hown hgrow hat
    go_wp2_with fail
    go_ret
    have hfin : appS (.node u v0 a .nil .nil) S = S ++ [⟨a.1, a.2.1, 0, 0⟩] := unhide HADD
    rw [hfin]
    have hlen : (S ++ [(⟨a.1, a.2.1, 0, 0⟩ : Sp)]).length = S.length + 1 := by simp
    refine ⟨some ⟨g8, 0, none⟩, cap8, ?_, ?_, unhide HG8, ?_⟩
    · rw [hlen]; rfl
    · rw [hlen]; exact unhide HO8
    · rcases unhide HAT with e | e
      · exact Or.inl e.symm
      · exact Or.inr ⟨g8, rfl, e⟩
  | .node u v0 a (.node lu lv la ll lr) .nil, S, w, p, base, vo, vc, _, h, ho, hbase, hsz => by
    obtain ⟨i0, hi0, hz0, hz1, hz2⟩ := info_parts Tryz.infoSp
    obtain ⟨b, pl, pr, rfl, hb, hl, hr⟩ := h
    have HADD : Hid (appS (.node u v0 a (.node lu lv la ll lr) .nil) S = appS .nil (appS (.node lu lv la ll lr) S) ++ [⟨a.1, a.2.1, (appS (.node lu lv la ll lr) S).length - 1, 0⟩]) := rfl
    have hs : sizeF (.node u v0 a (.node lu lv la ll lr) .nil) = 1 + sizeF ((.node lu lv la ll lr) : Fm) + sizeF (.nil : Fm) := rfl
    have el0 : (appS (.node lu lv la ll lr) S).length = S.length + sizeF ((.node lu lv la ll lr) : Fm) := appS_len _ _
    have el1 := Nat.le_of_eq el0
    have el2 := Nat.le_of_eq el0.symm
    clear el0
    have er0 : (appS .nil (appS (.node lu lv la ll lr) S)).length = (appS (.node lu lv la ll lr) S).length + sizeF (.nil : Fm) := appS_len _ _
    have er1 := Nat.le_of_eq er0
    have er2 := Nat.le_of_eq er0.symm
    clear er0
    have IHL := hide (fun W h1 h2 h3 h4 => appendSteps_any (.node lu lv la ll lr) S W pl base vo vc (by intro e; cases e) h1 h2 h3 h4)
    have ezl : 1 ≤ sizeF (.node lu lv la ll lr) := by show 1 ≤ 1 + _ + _; omega
    cases (show pr = none from hr)
    have ezr : sizeF (.nil : Fm) = 0 := rfl
    generalize hsl : sizeF ((.node lu lv la ll lr) : Fm) = zl at *
    generalize hsr : sizeF (.nil : Fm) = zr at *
    obtain ⟨bl, pll, plr, hpl, hbl, _, _⟩ := id hl
    subst hpl
    have bc := fun o => cell_of_blk hb o
    have hlt := lt_of_blk hb
    have hol := own_lt ho
    have HL := hide hl
    have HR := hide hr
    have HO := hide ho
    have HB := hide hb
    have c0 : w.cell? ⟨b, 0, none⟩ = some (.int .i64 (a.1 : Int)) := bc 0
    have c1 : w.cell? ⟨b, 1, none⟩ = some (.string a.2.1) := bc 1
    have c2 := bc 2
    have c3 := bc 3
    clear hl hr ho hb bc
    go_enter Tryz.func155, Tryz.ntmps155
    go_wp2_with fail
    refine wp_region_held_drew (S := fun w' => w'.cell? ⟨b, 0, none⟩ = some (.int .i64 (a.1 : Int)) ∧ w'.cell? ⟨b, 1, none⟩ = some (.string a.2.1)) (by kernel_rfl) ?_ (fun hHeld => ?_)
    · exact ⟨c0, c1⟩
    refine wpAnyH_take (i := 0) (v := .pointer (some ⟨b, 0, none⟩)) rfl (by kernel_rfl) (by kernel_rfl) (by kernel_rfl) (fun _ _ _ h => h) (Or.inl ⟨by kernel_rfl, fun w hw => by obtain ⟨s0, s1⟩ := hw; go_simp⟩) hHeld ?_
    try simp only [Act.put, zA, zB, zC, zD, zE, zF]
    refine wpAnyH_take (i := 1) (v := .pointer (some ⟨b, 0, none⟩)) rfl (by kernel_rfl) (by kernel_rfl) (by kernel_rfl) (fun _ _ _ h => h) (Or.inl ⟨by kernel_rfl, fun w hw => by obtain ⟨s0, s1⟩ := hw; go_simp⟩) hHeld ?_
    try simp only [Act.put, zA, zB, zC, zD, zE, zF]
    refine wpAnyH_take (i := 2) (v := .pointer (some ⟨b, 0, none⟩)) rfl (by kernel_rfl) (by kernel_rfl) (by kernel_rfl) (fun _ _ _ h => h) (Or.inl ⟨by kernel_rfl, fun w hw => by obtain ⟨s0, s1⟩ := hw; go_simp⟩) hHeld ?_
    try simp only [Act.put, zA, zB, zC, zD, zE, zF]
    refine wpAnyH_take (i := 3) (v := .int .i64 (a.1 : Int)) rfl (by kernel_rfl) (by kernel_rfl) (by kernel_rfl) (fun _ _ _ h => h) (Or.inl ⟨by kernel_rfl, fun w hw => by obtain ⟨s0, s1⟩ := hw; go_simp⟩) hHeld ?_
    try simp only [Act.put, zA, zB, zC, zD, zE, zF]
    refine wpAnyH_take (i := 4) (v := .pointer (some ⟨b, 0, none⟩)) rfl (by kernel_rfl) (by kernel_rfl) (by kernel_rfl) (fun _ _ _ h => h) (Or.inl ⟨by kernel_rfl, fun w hw => by obtain ⟨s0, s1⟩ := hw; go_simp⟩) hHeld ?_
    try simp only [Act.put, zA, zB, zC, zD, zE, zF]
    refine wpAnyH_take (i := 5) (v := .pointer (some ⟨b, 0, none⟩)) rfl (by kernel_rfl) (by kernel_rfl) (by kernel_rfl) (fun _ _ _ h => h) (Or.inl ⟨by kernel_rfl, fun w hw => by obtain ⟨s0, s1⟩ := hw; go_simp⟩) hHeld ?_
    try simp only [Act.put, zA, zB, zC, zD, zE, zF]
    refine wpAnyH_take (i := 6) (v := .pointer (some ⟨b, 1, none⟩)) rfl (by kernel_rfl) (by kernel_rfl) (by kernel_rfl) (fun _ _ _ h => h) (Or.inl ⟨by kernel_rfl, fun w hw => by obtain ⟨s0, s1⟩ := hw; go_simp⟩) hHeld ?_
    try simp only [Act.put, zA, zB, zC, zD, zE, zF]
    refine wpAnyH_take (i := 7) (v := .string a.2.1) rfl (by kernel_rfl) (by kernel_rfl) (by kernel_rfl) (fun _ _ _ h => h) (Or.inl ⟨by kernel_rfl, fun w hw => by obtain ⟨s0, s1⟩ := hw; go_simp⟩) hHeld ?_
    try simp only [Act.put, zA, zB, zC, zD, zE, zF]
    refine wpAnyH_take (i := 8) (v := .agg #[.int .i64 (a.1 : Int), .string a.2.1, .int .i64 0, .int .i64 0]) rfl (by kernel_rfl) (by kernel_rfl) (by kernel_rfl) (fun _ _ _ h => h) (Or.inl ⟨by kernel_rfl, fun w hw => by obtain ⟨s0, s1⟩ := hw; go_simp⟩) hHeld ?_
    try simp only [Act.put, zA, zB, zC, zD, zE, zF]
    refine wpAnyH_ready (rs := [9]) (by kernel_rfl) (by simp) ?_
    refine AllReadyH.cons rfl (fun K hK => ?_) AllReadyH.nil
    go_simp
    refine hK.out _ _ ⟨by show (World.alloc _ _).cell? _ = _; rw [World.cell?_alloc_lt _ _ _ (by simpa using hlt)]; exact hHeld.1, by show (World.alloc _ _).cell? _ = _; rw [World.cell?_alloc_lt _ _ _ (by simpa using hlt)]; exact hHeld.2⟩ (fun hHeld => ?_)
    clear hK K
    refine wpAnyH_ready (rs := [10]) (by kernel_rfl) (by simp) ?_
    refine AllReadyH.cons rfl (fun K hK => ?_) AllReadyH.nil
    go_simp
    refine hK.out _ _ ⟨by show (World.alloc _ _).cell? _ = _; rw [World.cell?_alloc_lt _ _ _ (by simpa using hlt)]; exact c0, by show (World.alloc _ _).cell? _ = _; rw [World.cell?_alloc_lt _ _ _ (by simpa using hlt)]; exact c1⟩ (fun hHeld => ?_)
    clear hK K
    refine wpAnyH_done (by kernel_rfl) ?_ _
    clear hHeld
    have hBW : Below w.heap.size w ((w.alloc (.cells #[.int .i64 (a.1 : Int), .string a.2.1, .int .i64 0, .int .i64 0] 302)).drew) := ((Below.refl _ _).alloc (Nat.le_refl _) _).drew
    have hA : ASt w ((w.alloc (.cells #[.int .i64 (a.1 : Int), .string a.2.1, .int .i64 0, .int .i64 0] 302)).drew) base (.slice vo S.length vc) vo vc S a.1 a.2.1 0 0 := ⟨blk_alloc _ _, owns_later (unhide HO) hBW, ⟨hBW.os, hBW.tape, hBW.output, hBW.size, fun x hx _ => hBW.block x hx⟩, Or.inl rfl, fun x hx => (hol x hx).2⟩
    generalize (w.alloc (.cells #[.int .i64 (a.1 : Int), .string a.2.1, .int .i64 0, .int .i64 0] 302)).drew = W1 at *
    have HA1 := hide hA
    have hbz := hA.gr.size
    clear hA hBW hol c0 c1
    have HKEEP : Hid (∀ W : World, w.grownBy W (Value.slice vo S.length vc).ownBlock → W.heap[b]? = w.heap[b]?) := fun W hW => hW.block b hlt (fun e => own_ty (unhide HO) e.symm (unhide HB) (by decide))
    clear c2 c3
    have bc := fun o => cell_of_blk ((unhide HKEEP _ (unhide HA1).gr).trans (unhide HB)) o
    have sc := fun o => cell_of_blk (unhide HA1).sb o
    have sf := fun o => frozen_of_blk (unhide HA1).sb o
    have hls := lt_of_blk (unhide HA1).sb
    have hlb : b < W1.heap.size := by omega
    go_wp2_with fail
    refine (unhide IHL _ (isG_grown (unhide HO) (unhide HA1).gr (unhide HL)) (unhide HA1).own (by omega) (by omega)).mono ?_
    intro e w2 hp2
    obtain ⟨o2, k2, he2, hA2⟩ := (unhide HA1).call hp2
    subst he2
    have HA2 := hide hA2
    have hz2' := hA2.gr.size
    clear hp2 hA2 bc sc sf hls hlb IHL
    generalize hT2 : appS (.node lu lv la ll lr) S = T2 at *
    have bc := fun o => cell_of_blk ((unhide HKEEP _ (unhide HA2).gr).trans (unhide HB)) o
    have sc := fun o => cell_of_blk (unhide HA2).sb o
    have sf := fun o => frozen_of_blk (unhide HA2).sb o
    have hls := lt_of_blk (unhide HA2).sb
    have hlb : b < w2.heap.size := by omega
    have HAF := hide ((unhide HA2).setA (((T2.length : Nat) : Int) - 1) (T2.length - 1) (by omega))
    have hTl : T2.length ≤ 100000 := by omega
    have hbs : base ≤ w2.heap.size := by omega
    go_wp2_with (at_builtin; go_must (refine wpList_append_lies _ rfl _ _ 121 rfl base 302 i0 (.agg #[.int .i64 0, .string ⟨#[]⟩, .int .i64 0, .int .i64 0]) 4 40 Tryz.underlying121 hi0 hz0 hz1 hz2 rfl (by decide) _ T2.length (spC T2) rfl ?c0 ⟨w2.heap.size, 0, none⟩ 1 1 [.int .i64 (a.1 : Int), .string a.2.1, .int .i64 (((T2.length : Nat) : Int) - 1), .int .i64 0] rfl rfl ?c1 ?c2 (by decide) ?c3 ?c4 ?c5 (w2.heap.size + 1) ?c6 ?_))
    case c0 => exact owns_later (unhide HAF).own ((Below.refl _ _).alloc (Nat.le_refl _) _)
    case c1 =>
      intro j u hj
      match j, hj with
      | 0, hj => simp at hj; subst hj; exact cell_of_blk (blk_alloc' _ _ _ (by first | rfl | simp [World.setCell])) 0
      | 1, hj => simp at hj; subst hj; exact cell_of_blk (blk_alloc' _ _ _ (by first | rfl | simp [World.setCell])) 1
      | 2, hj => simp at hj; subst hj; exact cell_of_blk (blk_alloc' _ _ _ (by first | rfl | simp [World.setCell])) 2
      | 3, hj => simp at hj; subst hj; exact cell_of_blk (blk_alloc' _ _ _ (by first | rfl | simp [World.setCell])) 3
      | j + 4, hj => simp at hj
    case c2 => intro u hu; simp at hu; rcases hu with rfl | rfl | rfl | rfl <;> rfl
    case c3 => unfold maxLen; omega
    case c4 => omega
    case c5 => simp; omega
    case c6 => simp
    intro g8 cap8 q8 hown hgrow hat _
    have HG8 := hide (grown_more (unhide HAF).gr (grown_more (World.grownBy_alloc _ _ _) hgrow (Or.inl rfl)) (by rcases (unhide HAF).at_ with e | ⟨g, e, hg⟩; exact Or.inl e; exact Or.inr ⟨g, e, by omega⟩))
    have HO8 : Hid (q8.ownsRow base 302 4 (.slice (some ⟨g8, 0, none⟩) (T2.length + 1) cap8) (T2.length + 1) (spC (T2 ++ [⟨a.1, a.2.1, T2.length - 1, 0⟩]))) := by
      have := hown
      show q8.ownsRow _ _ _ _ _ _
      rw [spC_snoc]
      rw [show (((T2.length : Nat) : Int) - 1) = ((T2.length - 1 : Nat) : Int) by omega] at this
      exact this
    have HAT : Hid ((Value.slice vo S.length vc).ownBlock = some g8 ∨ w.heap.size ≤ g8) := by
      rcases hat with e | e
      · rcases (unhide HAF).at_ with e2 | ⟨g, e2, hg⟩
        · exact Or.inl (e2.symm.trans e)
        · rw [e2] at e; cases e; exact Or.inr (by omega)
      · exact Or.inr (by first | omega | (simp at e; omega))
    clear hown hgrow hat
    go_wp2_with fail
    go_ret
    have hfin : appS (.node u v0 a (.node lu lv la ll lr) .nil) S = T2 ++ [⟨a.1, a.2.1, T2.length - 1, 0⟩] := unhide HADD
    rw [hfin]
    have hlen : (T2 ++ [(⟨a.1, a.2.1, T2.length - 1, 0⟩ : Sp)]).length = T2.length + 1 := by simp
    refine ⟨some ⟨g8, 0, none⟩, cap8, ?_, ?_, unhide HG8, ?_⟩
    · rw [hlen]; rfl
    · rw [hlen]; exact unhide HO8
    · rcases unhide HAT with e | e
      · exact Or.inl e.symm
      · exact Or.inr ⟨g8, rfl, e⟩
  | .node u v0 a .nil (.node ru rv ra rl rr), S, w, p, base, vo, vc, _, h, ho, hbase, hsz => by
    obtain ⟨i0, hi0, hz0, hz1, hz2⟩ := info_parts Tryz.infoSp
    obtain ⟨b, pl, pr, rfl, hb, hl, hr⟩ := h
    have HADD : Hid (appS (.node u v0 a .nil (.node ru rv ra rl rr)) S = appS (.node ru rv ra rl rr) S ++ [⟨a.1, a.2.1, 0, (appS (.node ru rv ra rl rr) S).length - 1⟩]) := rfl
    have hs : sizeF (.node u v0 a .nil (.node ru rv ra rl rr)) = 1 + sizeF (.nil : Fm) + sizeF ((.node ru rv ra rl rr) : Fm) := rfl
    have el0 : (appS .nil S).length = S.length + sizeF (.nil : Fm) := appS_len _ _
    have el1 := Nat.le_of_eq el0
    have el2 := Nat.le_of_eq el0.symm
    clear el0
    have er0 : (appS (.node ru rv ra rl rr) S).length = S.length + sizeF ((.node ru rv ra rl rr) : Fm) := appS_len _ _
    have er1 := Nat.le_of_eq er0
    have er2 := Nat.le_of_eq er0.symm
    clear er0
    cases (show pl = none from hl)
    have ezl : sizeF (.nil : Fm) = 0 := rfl
    have IHR := hide (fun S2 W o2 c2 h1 h2 h3 h4 => appendSteps_any (.node ru rv ra rl rr) S2 W pr base o2 c2 (by intro e; cases e) h1 h2 h3 h4)
    have ezr : 1 ≤ sizeF (.node ru rv ra rl rr) := by show 1 ≤ 1 + _ + _; omega
    generalize hsl : sizeF (.nil : Fm) = zl at *
    generalize hsr : sizeF ((.node ru rv ra rl rr) : Fm) = zr at *
    obtain ⟨br, prl, prr, hpr, hbr, _, _⟩ := id hr
    subst hpr
    have bc := fun o => cell_of_blk hb o
    have hlt := lt_of_blk hb
    have hol := own_lt ho
    have HL := hide hl
    have HR := hide hr
    have HO := hide ho
    have HB := hide hb
    have c0 : w.cell? ⟨b, 0, none⟩ = some (.int .i64 (a.1 : Int)) := bc 0
    have c1 : w.cell? ⟨b, 1, none⟩ = some (.string a.2.1) := bc 1
    have c2 := bc 2
    have c3 := bc 3
    clear hl hr ho hb bc
    go_enter Tryz.func155, Tryz.ntmps155
    go_wp2_with fail
    refine wp_region_held_drew (S := fun w' => w'.cell? ⟨b, 0, none⟩ = some (.int .i64 (a.1 : Int)) ∧ w'.cell? ⟨b, 1, none⟩ = some (.string a.2.1)) (by kernel_rfl) ?_ (fun hHeld => ?_)
    · exact ⟨c0, c1⟩
    refine wpAnyH_take (i := 0) (v := .pointer (some ⟨b, 0, none⟩)) rfl (by kernel_rfl) (by kernel_rfl) (by kernel_rfl) (fun _ _ _ h => h) (Or.inl ⟨by kernel_rfl, fun w hw => by obtain ⟨s0, s1⟩ := hw; go_simp⟩) hHeld ?_
    try simp only [Act.put, zA, zB, zC, zD, zE, zF]
    refine wpAnyH_take (i := 1) (v := .pointer (some ⟨b, 0, none⟩)) rfl (by kernel_rfl) (by kernel_rfl) (by kernel_rfl) (fun _ _ _ h => h) (Or.inl ⟨by kernel_rfl, fun w hw => by obtain ⟨s0, s1⟩ := hw; go_simp⟩) hHeld ?_
    try simp only [Act.put, zA, zB, zC, zD, zE, zF]
    refine wpAnyH_take (i := 2) (v := .pointer (some ⟨b, 0, none⟩)) rfl (by kernel_rfl) (by kernel_rfl) (by kernel_rfl) (fun _ _ _ h => h) (Or.inl ⟨by kernel_rfl, fun w hw => by obtain ⟨s0, s1⟩ := hw; go_simp⟩) hHeld ?_
    try simp only [Act.put, zA, zB, zC, zD, zE, zF]
    refine wpAnyH_take (i := 3) (v := .int .i64 (a.1 : Int)) rfl (by kernel_rfl) (by kernel_rfl) (by kernel_rfl) (fun _ _ _ h => h) (Or.inl ⟨by kernel_rfl, fun w hw => by obtain ⟨s0, s1⟩ := hw; go_simp⟩) hHeld ?_
    try simp only [Act.put, zA, zB, zC, zD, zE, zF]
    refine wpAnyH_take (i := 4) (v := .pointer (some ⟨b, 0, none⟩)) rfl (by kernel_rfl) (by kernel_rfl) (by kernel_rfl) (fun _ _ _ h => h) (Or.inl ⟨by kernel_rfl, fun w hw => by obtain ⟨s0, s1⟩ := hw; go_simp⟩) hHeld ?_
    try simp only [Act.put, zA, zB, zC, zD, zE, zF]
    refine wpAnyH_take (i := 5) (v := .pointer (some ⟨b, 0, none⟩)) rfl (by kernel_rfl) (by kernel_rfl) (by kernel_rfl) (fun _ _ _ h => h) (Or.inl ⟨by kernel_rfl, fun w hw => by obtain ⟨s0, s1⟩ := hw; go_simp⟩) hHeld ?_
    try simp only [Act.put, zA, zB, zC, zD, zE, zF]
    refine wpAnyH_take (i := 6) (v := .pointer (some ⟨b, 1, none⟩)) rfl (by kernel_rfl) (by kernel_rfl) (by kernel_rfl) (fun _ _ _ h => h) (Or.inl ⟨by kernel_rfl, fun w hw => by obtain ⟨s0, s1⟩ := hw; go_simp⟩) hHeld ?_
    try simp only [Act.put, zA, zB, zC, zD, zE, zF]
    refine wpAnyH_take (i := 7) (v := .string a.2.1) rfl (by kernel_rfl) (by kernel_rfl) (by kernel_rfl) (fun _ _ _ h => h) (Or.inl ⟨by kernel_rfl, fun w hw => by obtain ⟨s0, s1⟩ := hw; go_simp⟩) hHeld ?_
    try simp only [Act.put, zA, zB, zC, zD, zE, zF]
    refine wpAnyH_take (i := 8) (v := .agg #[.int .i64 (a.1 : Int), .string a.2.1, .int .i64 0, .int .i64 0]) rfl (by kernel_rfl) (by kernel_rfl) (by kernel_rfl) (fun _ _ _ h => h) (Or.inl ⟨by kernel_rfl, fun w hw => by obtain ⟨s0, s1⟩ := hw; go_simp⟩) hHeld ?_
    try simp only [Act.put, zA, zB, zC, zD, zE, zF]
    refine wpAnyH_ready (rs := [9]) (by kernel_rfl) (by simp) ?_
    refine AllReadyH.cons rfl (fun K hK => ?_) AllReadyH.nil
    go_simp
    refine hK.out _ _ ⟨by show (World.alloc _ _).cell? _ = _; rw [World.cell?_alloc_lt _ _ _ (by simpa using hlt)]; exact hHeld.1, by show (World.alloc _ _).cell? _ = _; rw [World.cell?_alloc_lt _ _ _ (by simpa using hlt)]; exact hHeld.2⟩ (fun hHeld => ?_)
    clear hK K
    refine wpAnyH_ready (rs := [10]) (by kernel_rfl) (by simp) ?_
    refine AllReadyH.cons rfl (fun K hK => ?_) AllReadyH.nil
    go_simp
    refine hK.out _ _ ⟨by show (World.alloc _ _).cell? _ = _; rw [World.cell?_alloc_lt _ _ _ (by simpa using hlt)]; exact c0, by show (World.alloc _ _).cell? _ = _; rw [World.cell?_alloc_lt _ _ _ (by simpa using hlt)]; exact c1⟩ (fun hHeld => ?_)
    clear hK K
    refine wpAnyH_done (by kernel_rfl) ?_ _
    clear hHeld
    have hBW : Below w.heap.size w ((w.alloc (.cells #[.int .i64 (a.1 : Int), .string a.2.1, .int .i64 0, .int .i64 0] 302)).drew) := ((Below.refl _ _).alloc (Nat.le_refl _) _).drew
    have hA : ASt w ((w.alloc (.cells #[.int .i64 (a.1 : Int), .string a.2.1, .int .i64 0, .int .i64 0] 302)).drew) base (.slice vo S.length vc) vo vc S a.1 a.2.1 0 0 := ⟨blk_alloc _ _, owns_later (unhide HO) hBW, ⟨hBW.os, hBW.tape, hBW.output, hBW.size, fun x hx _ => hBW.block x hx⟩, Or.inl rfl, fun x hx => (hol x hx).2⟩
    generalize (w.alloc (.cells #[.int .i64 (a.1 : Int), .string a.2.1, .int .i64 0, .int .i64 0] 302)).drew = W1 at *
    have HA1 := hide hA
    have hbz := hA.gr.size
    clear hA hBW hol c0 c1
    have HKEEP : Hid (∀ W : World, w.grownBy W (Value.slice vo S.length vc).ownBlock → W.heap[b]? = w.heap[b]?) := fun W hW => hW.block b hlt (fun e => own_ty (unhide HO) e.symm (unhide HB) (by decide))
    clear c2 c3
    have bc := fun o => cell_of_blk ((unhide HKEEP _ (unhide HA1).gr).trans (unhide HB)) o
    have sc := fun o => cell_of_blk (unhide HA1).sb o
    have sf := fun o => frozen_of_blk (unhide HA1).sb o
    have hls := lt_of_blk (unhide HA1).sb
    have hlb : b < W1.heap.size := by omega
    go_wp2_with fail
    refine (unhide IHR _ _ _ _ (isG_grown (unhide HO) (unhide HA1).gr (unhide HR)) (unhide HA1).own (by omega) (by omega)).mono ?_
    intro e w4 hp4
    obtain ⟨o4, k4, he4, hA4⟩ := (unhide HA1).call hp4
    subst he4
    have HA4 := hide hA4
    have hz4' := hA4.gr.size
    clear hp4 hA4 IHR
    generalize hT4 : appS (.node ru rv ra rl rr) S = T4 at *
    clear bc sc sf hls hlb
    have bc := fun o => cell_of_blk ((unhide HKEEP _ (unhide HA4).gr).trans (unhide HB)) o
    have sc := fun o => cell_of_blk (unhide HA4).sb o
    have sf := fun o => frozen_of_blk (unhide HA4).sb o
    have hls := lt_of_blk (unhide HA4).sb
    have hlb : b < w4.heap.size := by omega
    have HAF := hide ((unhide HA4).setB (((T4.length : Nat) : Int) - 1) (T4.length - 1) (by omega))
    have hTl : T4.length ≤ 100000 := by omega
    have hbs : base ≤ w4.heap.size := by omega
    go_wp2_with (at_builtin; go_must (refine wpList_append_lies _ rfl _ _ 121 rfl base 302 i0 (.agg #[.int .i64 0, .string ⟨#[]⟩, .int .i64 0, .int .i64 0]) 4 40 Tryz.underlying121 hi0 hz0 hz1 hz2 rfl (by decide) _ T4.length (spC T4) rfl ?c0 ⟨w4.heap.size, 0, none⟩ 1 1 [.int .i64 (a.1 : Int), .string a.2.1, .int .i64 0, .int .i64 (((T4.length : Nat) : Int) - 1)] rfl rfl ?c1 ?c2 (by decide) ?c3 ?c4 ?c5 (w4.heap.size + 1) ?c6 ?_))
    case c0 => exact owns_later (unhide HAF).own ((Below.refl _ _).alloc (Nat.le_refl _) _)
    case c1 =>
      intro j u hj
      match j, hj with
      | 0, hj => simp at hj; subst hj; exact cell_of_blk (blk_alloc' _ _ _ (by first | rfl | simp [World.setCell])) 0
      | 1, hj => simp at hj; subst hj; exact cell_of_blk (blk_alloc' _ _ _ (by first | rfl | simp [World.setCell])) 1
      | 2, hj => simp at hj; subst hj; exact cell_of_blk (blk_alloc' _ _ _ (by first | rfl | simp [World.setCell])) 2
      | 3, hj => simp at hj; subst hj; exact cell_of_blk (blk_alloc' _ _ _ (by first | rfl | simp [World.setCell])) 3
      | j + 4, hj => simp at hj
    case c2 => intro u hu; simp at hu; rcases hu with rfl | rfl | rfl | rfl <;> rfl
    case c3 => unfold maxLen; omega
    case c4 => omega
    case c5 => simp; omega
    case c6 => simp
    intro g8 cap8 q8 hown hgrow hat _
    have HG8 := hide (grown_more (unhide HAF).gr (grown_more (World.grownBy_alloc _ _ _) hgrow (Or.inl rfl)) (by rcases (unhide HAF).at_ with e | ⟨g, e, hg⟩; exact Or.inl e; exact Or.inr ⟨g, e, by omega⟩))
    have HO8 : Hid (q8.ownsRow base 302 4 (.slice (some ⟨g8, 0, none⟩) (T4.length + 1) cap8) (T4.length + 1) (spC (T4 ++ [⟨a.1, a.2.1, 0, T4.length - 1⟩]))) := by
      have := hown
      show q8.ownsRow _ _ _ _ _ _
      rw [spC_snoc]
      rw [show (((T4.length : Nat) : Int) - 1) = ((T4.length - 1 : Nat) : Int) by omega] at this
      exact this
    have HAT : Hid ((Value.slice vo S.length vc).ownBlock = some g8 ∨ w.heap.size ≤ g8) := by
      rcases hat with e | e
      · rcases (unhide HAF).at_ with e2 | ⟨g, e2, hg⟩
        · exact Or.inl (e2.symm.trans e)
        · rw [e2] at e; cases e; exact Or.inr (by omega)
      · exact Or.inr (by first | omega | (simp at e; omega))
    clear hown hgrow hat
    go_wp2_with fail
    go_ret
    have hfin : appS (.node u v0 a .nil (.node ru rv ra rl rr)) S = T4 ++ [⟨a.1, a.2.1, 0, T4.length - 1⟩] := unhide HADD
    rw [hfin]
    have hlen : (T4 ++ [(⟨a.1, a.2.1, 0, T4.length - 1⟩ : Sp)]).length = T4.length + 1 := by simp
    refine ⟨some ⟨g8, 0, none⟩, cap8, ?_, ?_, unhide HG8, ?_⟩
    · rw [hlen]; rfl
    · rw [hlen]; exact unhide HO8
    · rcases unhide HAT with e | e
      · exact Or.inl e.symm
      · exact Or.inr ⟨g8, rfl, e⟩
  | .node u v0 a (.node lu lv la ll lr) (.node ru rv ra rl rr), S, w, p, base, vo, vc, _, h, ho, hbase, hsz => by
    obtain ⟨i0, hi0, hz0, hz1, hz2⟩ := info_parts Tryz.infoSp
    obtain ⟨b, pl, pr, rfl, hb, hl, hr⟩ := h
    have HADD : Hid (appS (.node u v0 a (.node lu lv la ll lr) (.node ru rv ra rl rr)) S = appS (.node ru rv ra rl rr) (appS (.node lu lv la ll lr) S) ++ [⟨a.1, a.2.1, (appS (.node lu lv la ll lr) S).length - 1, (appS (.node ru rv ra rl rr) (appS (.node lu lv la ll lr) S)).length - 1⟩]) := rfl
    have hs : sizeF (.node u v0 a (.node lu lv la ll lr) (.node ru rv ra rl rr)) = 1 + sizeF ((.node lu lv la ll lr) : Fm) + sizeF ((.node ru rv ra rl rr) : Fm) := rfl
    have el0 : (appS (.node lu lv la ll lr) S).length = S.length + sizeF ((.node lu lv la ll lr) : Fm) := appS_len _ _
    have el1 := Nat.le_of_eq el0
    have el2 := Nat.le_of_eq el0.symm
    clear el0
    have er0 : (appS (.node ru rv ra rl rr) (appS (.node lu lv la ll lr) S)).length = (appS (.node lu lv la ll lr) S).length + sizeF ((.node ru rv ra rl rr) : Fm) := appS_len _ _
    have er1 := Nat.le_of_eq er0
    have er2 := Nat.le_of_eq er0.symm
    clear er0
    have IHL := hide (fun W h1 h2 h3 h4 => appendSteps_any (.node lu lv la ll lr) S W pl base vo vc (by intro e; cases e) h1 h2 h3 h4)
    have ezl : 1 ≤ sizeF (.node lu lv la ll lr) := by show 1 ≤ 1 + _ + _; omega
    have IHR := hide (fun S2 W o2 c2 h1 h2 h3 h4 => appendSteps_any (.node ru rv ra rl rr) S2 W pr base o2 c2 (by intro e; cases e) h1 h2 h3 h4)
    have ezr : 1 ≤ sizeF (.node ru rv ra rl rr) := by show 1 ≤ 1 + _ + _; omega
    generalize hsl : sizeF ((.node lu lv la ll lr) : Fm) = zl at *
    generalize hsr : sizeF ((.node ru rv ra rl rr) : Fm) = zr at *
    obtain ⟨bl, pll, plr, hpl, hbl, _, _⟩ := id hl
    subst hpl
    obtain ⟨br, prl, prr, hpr, hbr, _, _⟩ := id hr
    subst hpr
    have bc := fun o => cell_of_blk hb o
    have hlt := lt_of_blk hb
    have hol := own_lt ho
    have HL := hide hl
    have HR := hide hr
    have HO := hide ho
    have HB := hide hb
    have c0 : w.cell? ⟨b, 0, none⟩ = some (.int .i64 (a.1 : Int)) := bc 0
    have c1 : w.cell? ⟨b, 1, none⟩ = some (.string a.2.1) := bc 1
    have c2 := bc 2
    have c3 := bc 3
    clear hl hr ho hb bc
    go_enter Tryz.func155, Tryz.ntmps155
    go_wp2_with fail
    refine wp_region_held_drew (S := fun w' => w'.cell? ⟨b, 0, none⟩ = some (.int .i64 (a.1 : Int)) ∧ w'.cell? ⟨b, 1, none⟩ = some (.string a.2.1)) (by kernel_rfl) ?_ (fun hHeld => ?_)
    · exact ⟨c0, c1⟩
    refine wpAnyH_take (i := 0) (v := .pointer (some ⟨b, 0, none⟩)) rfl (by kernel_rfl) (by kernel_rfl) (by kernel_rfl) (fun _ _ _ h => h) (Or.inl ⟨by kernel_rfl, fun w hw => by obtain ⟨s0, s1⟩ := hw; go_simp⟩) hHeld ?_
    try simp only [Act.put, zA, zB, zC, zD, zE, zF]
    refine wpAnyH_take (i := 1) (v := .pointer (some ⟨b, 0, none⟩)) rfl (by kernel_rfl) (by kernel_rfl) (by kernel_rfl) (fun _ _ _ h => h) (Or.inl ⟨by kernel_rfl, fun w hw => by obtain ⟨s0, s1⟩ := hw; go_simp⟩) hHeld ?_
    try simp only [Act.put, zA, zB, zC, zD, zE, zF]
    refine wpAnyH_take (i := 2) (v := .pointer (some ⟨b, 0, none⟩)) rfl (by kernel_rfl) (by kernel_rfl) (by kernel_rfl) (fun _ _ _ h => h) (Or.inl ⟨by kernel_rfl, fun w hw => by obtain ⟨s0, s1⟩ := hw; go_simp⟩) hHeld ?_
    try simp only [Act.put, zA, zB, zC, zD, zE, zF]
    refine wpAnyH_take (i := 3) (v := .int .i64 (a.1 : Int)) rfl (by kernel_rfl) (by kernel_rfl) (by kernel_rfl) (fun _ _ _ h => h) (Or.inl ⟨by kernel_rfl, fun w hw => by obtain ⟨s0, s1⟩ := hw; go_simp⟩) hHeld ?_
    try simp only [Act.put, zA, zB, zC, zD, zE, zF]
    refine wpAnyH_take (i := 4) (v := .pointer (some ⟨b, 0, none⟩)) rfl (by kernel_rfl) (by kernel_rfl) (by kernel_rfl) (fun _ _ _ h => h) (Or.inl ⟨by kernel_rfl, fun w hw => by obtain ⟨s0, s1⟩ := hw; go_simp⟩) hHeld ?_
    try simp only [Act.put, zA, zB, zC, zD, zE, zF]
    refine wpAnyH_take (i := 5) (v := .pointer (some ⟨b, 0, none⟩)) rfl (by kernel_rfl) (by kernel_rfl) (by kernel_rfl) (fun _ _ _ h => h) (Or.inl ⟨by kernel_rfl, fun w hw => by obtain ⟨s0, s1⟩ := hw; go_simp⟩) hHeld ?_
    try simp only [Act.put, zA, zB, zC, zD, zE, zF]
    refine wpAnyH_take (i := 6) (v := .pointer (some ⟨b, 1, none⟩)) rfl (by kernel_rfl) (by kernel_rfl) (by kernel_rfl) (fun _ _ _ h => h) (Or.inl ⟨by kernel_rfl, fun w hw => by obtain ⟨s0, s1⟩ := hw; go_simp⟩) hHeld ?_
    try simp only [Act.put, zA, zB, zC, zD, zE, zF]
    refine wpAnyH_take (i := 7) (v := .string a.2.1) rfl (by kernel_rfl) (by kernel_rfl) (by kernel_rfl) (fun _ _ _ h => h) (Or.inl ⟨by kernel_rfl, fun w hw => by obtain ⟨s0, s1⟩ := hw; go_simp⟩) hHeld ?_
    try simp only [Act.put, zA, zB, zC, zD, zE, zF]
    refine wpAnyH_take (i := 8) (v := .agg #[.int .i64 (a.1 : Int), .string a.2.1, .int .i64 0, .int .i64 0]) rfl (by kernel_rfl) (by kernel_rfl) (by kernel_rfl) (fun _ _ _ h => h) (Or.inl ⟨by kernel_rfl, fun w hw => by obtain ⟨s0, s1⟩ := hw; go_simp⟩) hHeld ?_
    try simp only [Act.put, zA, zB, zC, zD, zE, zF]
    refine wpAnyH_ready (rs := [9]) (by kernel_rfl) (by simp) ?_
    refine AllReadyH.cons rfl (fun K hK => ?_) AllReadyH.nil
    go_simp
    refine hK.out _ _ ⟨by show (World.alloc _ _).cell? _ = _; rw [World.cell?_alloc_lt _ _ _ (by simpa using hlt)]; exact hHeld.1, by show (World.alloc _ _).cell? _ = _; rw [World.cell?_alloc_lt _ _ _ (by simpa using hlt)]; exact hHeld.2⟩ (fun hHeld => ?_)
    clear hK K
    refine wpAnyH_ready (rs := [10]) (by kernel_rfl) (by simp) ?_
    refine AllReadyH.cons rfl (fun K hK => ?_) AllReadyH.nil
    go_simp
    refine hK.out _ _ ⟨by show (World.alloc _ _).cell? _ = _; rw [World.cell?_alloc_lt _ _ _ (by simpa using hlt)]; exact c0, by show (World.alloc _ _).cell? _ = _; rw [World.cell?_alloc_lt _ _ _ (by simpa using hlt)]; exact c1⟩ (fun hHeld => ?_)
    clear hK K
    refine wpAnyH_done (by kernel_rfl) ?_ _
    clear hHeld
    have hBW : Below w.heap.size w ((w.alloc (.cells #[.int .i64 (a.1 : Int), .string a.2.1, .int .i64 0, .int .i64 0] 302)).drew) := ((Below.refl _ _).alloc (Nat.le_refl _) _).drew
    have hA : ASt w ((w.alloc (.cells #[.int .i64 (a.1 : Int), .string a.2.1, .int .i64 0, .int .i64 0] 302)).drew) base (.slice vo S.length vc) vo vc S a.1 a.2.1 0 0 := ⟨blk_alloc _ _, owns_later (unhide HO) hBW, ⟨hBW.os, hBW.tape, hBW.output, hBW.size, fun x hx _ => hBW.block x hx⟩, Or.inl rfl, fun x hx => (hol x hx).2⟩
    generalize (w.alloc (.cells #[.int .i64 (a.1 : Int), .string a.2.1, .int .i64 0, .int .i64 0] 302)).drew = W1 at *
    have HA1 := hide hA
    have hbz := hA.gr.size
    clear hA hBW hol c0 c1
    have HKEEP : Hid (∀ W : World, w.grownBy W (Value.slice vo S.length vc).ownBlock → W.heap[b]? = w.heap[b]?) := fun W hW => hW.block b hlt (fun e => own_ty (unhide HO) e.symm (unhide HB) (by decide))
    clear c2 c3
    have bc := fun o => cell_of_blk ((unhide HKEEP _ (unhide HA1).gr).trans (unhide HB)) o
    have sc := fun o => cell_of_blk (unhide HA1).sb o
    have sf := fun o => frozen_of_blk (unhide HA1).sb o
    have hls := lt_of_blk (unhide HA1).sb
    have hlb : b < W1.heap.size := by omega
    go_wp2_with fail
    refine (unhide IHL _ (isG_grown (unhide HO) (unhide HA1).gr (unhide HL)) (unhide HA1).own (by omega) (by omega)).mono ?_
    intro e w2 hp2
    obtain ⟨o2, k2, he2, hA2⟩ := (unhide HA1).call hp2
    subst he2
    have HA2 := hide hA2
    have hz2' := hA2.gr.size
    clear hp2 hA2 bc sc sf hls hlb IHL
    generalize hT2 : appS (.node lu lv la ll lr) S = T2 at *
    have bc := fun o => cell_of_blk ((unhide HKEEP _ (unhide HA2).gr).trans (unhide HB)) o
    have sc := fun o => cell_of_blk (unhide HA2).sb o
    have sf := fun o => frozen_of_blk (unhide HA2).sb o
    have hls := lt_of_blk (unhide HA2).sb
    have hlb : b < w2.heap.size := by omega
    go_wp2_with fail
    have hA3 := ((unhide HA2).setA (((T2.length : Nat) : Int) - 1) (T2.length - 1) (by omega))
    generalize (w2.setCell ⟨w.heap.size, 2, none⟩ (.int .i64 (((T2.length : Nat) : Int) - 1))) = w3 at *
    have HA3 := hide hA3
    have hz3' := hA3.gr.size
    clear hA3 bc sc sf hls hlb
    refine (unhide IHR _ _ _ _ (isG_grown (unhide HO) (unhide HA3).gr (unhide HR)) (unhide HA3).own (by omega) (by omega)).mono ?_
    intro e w4 hp4
    obtain ⟨o4, k4, he4, hA4⟩ := (unhide HA3).call hp4
    subst he4
    have HA4 := hide hA4
    have hz4' := hA4.gr.size
    clear hp4 hA4 IHR
    generalize hT4 : appS (.node ru rv ra rl rr) T2 = T4 at *
    have bc := fun o => cell_of_blk ((unhide HKEEP _ (unhide HA4).gr).trans (unhide HB)) o
    have sc := fun o => cell_of_blk (unhide HA4).sb o
    have sf := fun o => frozen_of_blk (unhide HA4).sb o
    have hls := lt_of_blk (unhide HA4).sb
    have hlb : b < w4.heap.size := by omega
    have HAF := hide ((unhide HA4).setB (((T4.length : Nat) : Int) - 1) (T4.length - 1) (by omega))
    have hTl : T4.length ≤ 100000 := by omega
    have hbs : base ≤ w4.heap.size := by omega
    go_wp2_with (at_builtin; go_must (refine wpList_append_lies _ rfl _ _ 121 rfl base 302 i0 (.agg #[.int .i64 0, .string ⟨#[]⟩, .int .i64 0, .int .i64 0]) 4 40 Tryz.underlying121 hi0 hz0 hz1 hz2 rfl (by decide) _ T4.length (spC T4) rfl ?c0 ⟨w4.heap.size, 0, none⟩ 1 1 [.int .i64 (a.1 : Int), .string a.2.1, .int .i64 ((T2.length - 1 : Nat) : Int), .int .i64 (((T4.length : Nat) : Int) - 1)] rfl rfl ?c1 ?c2 (by decide) ?c3 ?c4 ?c5 (w4.heap.size + 1) ?c6 ?_))
    case c0 => exact owns_later (unhide HAF).own ((Below.refl _ _).alloc (Nat.le_refl _) _)
    case c1 =>
      intro j u hj
      match j, hj with
      | 0, hj => simp at hj; subst hj; exact cell_of_blk (blk_alloc' _ _ _ (by first | rfl | simp [World.setCell])) 0
      | 1, hj => simp at hj; subst hj; exact cell_of_blk (blk_alloc' _ _ _ (by first | rfl | simp [World.setCell])) 1
      | 2, hj => simp at hj; subst hj; exact cell_of_blk (blk_alloc' _ _ _ (by first | rfl | simp [World.setCell])) 2
      | 3, hj => simp at hj; subst hj; exact cell_of_blk (blk_alloc' _ _ _ (by first | rfl | simp [World.setCell])) 3
      | j + 4, hj => simp at hj
    case c2 => intro u hu; simp at hu; rcases hu with rfl | rfl | rfl | rfl <;> rfl
    case c3 => unfold maxLen; omega
    case c4 => omega
    case c5 => simp; omega
    case c6 => simp
    intro g8 cap8 q8 hown hgrow hat _
    have HG8 := hide (grown_more (unhide HAF).gr (grown_more (World.grownBy_alloc _ _ _) hgrow (Or.inl rfl)) (by rcases (unhide HAF).at_ with e | ⟨g, e, hg⟩; exact Or.inl e; exact Or.inr ⟨g, e, by omega⟩))
    have HO8 : Hid (q8.ownsRow base 302 4 (.slice (some ⟨g8, 0, none⟩) (T4.length + 1) cap8) (T4.length + 1) (spC (T4 ++ [⟨a.1, a.2.1, T2.length - 1, T4.length - 1⟩]))) := by
      have := hown
      show q8.ownsRow _ _ _ _ _ _
      rw [spC_snoc]
      rw [show (((T4.length : Nat) : Int) - 1) = ((T4.length - 1 : Nat) : Int) by omega] at this
      exact this
    have HAT : Hid ((Value.slice vo S.length vc).ownBlock = some g8 ∨ w.heap.size ≤ g8) := by
      rcases hat with e | e
      · rcases (unhide HAF).at_ with e2 | ⟨g, e2, hg⟩
        · exact Or.inl (e2.symm.trans e)
        · rw [e2] at e; cases e; exact Or.inr (by omega)
      · exact Or.inr (by first | omega | (simp at e; omega))
    clear hown hgrow hat
    go_wp2_with fail
    go_ret
    have hfin : appS (.node u v0 a (.node lu lv la ll lr) (.node ru rv ra rl rr)) S = T4 ++ [⟨a.1, a.2.1, T2.length - 1, T4.length - 1⟩] := unhide HADD
    rw [hfin]
    have hlen : (T4 ++ [(⟨a.1, a.2.1, T2.length - 1, T4.length - 1⟩ : Sp)]).length = T4.length + 1 := by simp
    refine ⟨some ⟨g8, 0, none⟩, cap8, ?_, ?_, unhide HG8, ?_⟩
    · rw [hlen]; rfl
    · rw [hlen]; exact unhide HO8
    · rcases unhide HAT with e | e
      · exact Or.inl e.symm
      · exact Or.inr ⟨g8, rfl, e⟩
def GLeft (L : List Tk) (pb g cap B : Nat) (NM : List Tk) (w w' : World) (e : Ending) (x : Rd) : Prop :=
  PF pb B w w' ∧ ∃ p, e = .returned (.pointer p) ∧ (match x with
    | .ok (f, l) => IsG w' f p ∧ ∃ i, PL L i = l ∧ PP w' pb g cap B L i false 0 (NM ++ lvs f)
    | .error q => ∃ NM', PP w' pb g cap B L (L.length - 1) true q NM')
def GU (n : Nat) : Prop := ∀ (w : World) (pb g cap B : Nat) (L : List Tk) (i : Nat) (NM : List Tk), PP w pb g cap B L i false 0 NM → 6 * (PL L i).length + 1 ≤ n →
  Calls Tryz.prog 261 #[.pointer (some ⟨pb, 0, none⟩)] w fun e w' => GLeft L pb g cap B NM w w' e (pf n 4 .nil (PL L i))
def GT (n : Nat) : Prop := ∀ (w : World) (pb g cap B : Nat) (L : List Tk) (i : Nat) (NM : List Tk), PP w pb g cap B L i false 0 NM → 6 * (PL L i).length + 2 ≤ n →
  Calls Tryz.prog 257 #[.pointer (some ⟨pb, 0, none⟩)] w fun e w' => GLeft L pb g cap B NM w w' e (pf n 3 .nil (PL L i))
def GA (n : Nat) : Prop := ∀ (w : World) (pb g cap B : Nat) (L : List Tk) (i : Nat) (NM : List Tk), PP w pb g cap B L i false 0 NM → 6 * (PL L i).length + 3 ≤ n →
  Calls Tryz.prog 236 #[.pointer (some ⟨pb, 0, none⟩)] w fun e w' => GLeft L pb g cap B NM w w' e (pf n 2 .nil (PL L i))
def GO (n : Nat) : Prop := ∀ (w : World) (pb g cap B : Nat) (L : List Tk) (i : Nat) (NM : List Tk), PP w pb g cap B L i false 0 NM → 6 * (PL L i).length + 4 ≤ n →
  Calls Tryz.prog 203 #[.pointer (some ⟨pb, 0, none⟩)] w fun e w' => GLeft L pb g cap B NM w w' e (pf n 1 .nil (PL L i))
def GF (n : Nat) : Prop := ∀ (w : World) (pb g cap B : Nat) (L : List Tk) (i : Nat) (NM : List Tk), PP w pb g cap B L i false 0 NM → 6 * (PL L i).length + 5 ≤ n →
  Calls Tryz.prog 180 #[.pointer (some ⟨pb, 0, none⟩)] w fun e w' => GLeft L pb g cap B NM w w' e (pf n 0 .nil (PL L i))
def mapOne (k : Nat) : Rd → Rd
  | .error q => .error q
  | .ok (a, l) => .ok (one k a, l)
def brk : Rd → Rd
  | .error q => .error q
  | .ok (a, l) => if headK l = 19 then .ok (a, l.tail) else .error (headP l)
theorem PP.step {w w' : World} {pb g cap B : Nat} {L : List Tk} {i : Nat} {NM : List Tk} (h : PP w pb g cap B L i false 0 NM) (hm : Mv w w' pb g cap L.length i false 0 (i + 1) false 0) {t : Tk} {r : List Tk} (ht : PL L i = t :: r) (hk : 2 ≤ t.k) : PP w' pb g cap B L (i + 1) false 0 NM :=
  h.move hm (h.fe.nextLt ht (by omega)) (fun _ => by have := h.nm rfl; omega)
theorem PP.lost {w w' : World} {pb g cap B : Nat} {L : List Tk} {i : Nat} {bad : Bool} {q q' : Nat} {NM : List Tk} (h : PP w pb g cap B L i bad q NM) (hm : Mv w w' pb g cap L.length i bad q (L.length - 1) true q') : PP w' pb g cap B L (L.length - 1) true q' NM :=
  h.move hm (by have := h.lt; omega) (fun e => by cases e)
set_option maxHeartbeats 1000000 in
theorem pword_any (k : Nat) (w : World) (pb g cap B : Nat) (L : List Tk) (i : Nat) (NM : List Tk) (t : Tk) (r : List Tk) (h : PP w pb g cap B L i false 0 NM) (ht : PL L i = t :: r) (hk : 2 ≤ t.k) (hk0 : k ≠ 0) :
    Calls Tryz.prog 265 #[.pointer (some ⟨pb, 0, none⟩), .int .i64 (k : Int)] w fun e w' => GLeft L pb g cap B NM w w' e (.ok (leaf k ByteArray.empty 0, r)) := by
  have HP := hide h
  have HT := hide ht
  have HK0 := hide hk0
  clear h ht hk0
  go_enter Tryz.func265, Tryz.ntmps265
  go_wp2_with fail
  refine (pnext_any _ _ _ _ _ _ _ _ _ _ _ _ (unhide HP) (unhide HT)).mono ?_
  rintro e w1 ⟨rfl, rfl⟩
  go_wp2_with fail
  refine (ptake_yes t.k _ _ _ _ _ _ _ _ _ _ _ _ (unhide HP) (unhide HT) rfl hk).mono ?_
  rintro e w2 ⟨rfl, hm⟩
  have HP2 := hide ((unhide HP).step hm (unhide HT) hk)
  have HF2 := hide (PF.grown (B := B) hm.gr)
  clear hm
  simp only [tkP]
  go_wp2_with fail
  refine (fWord_any k _).mono ?_
  rintro e w3 ⟨v, rfl, hv, hb⟩
  have HV := hide hv
  have HB := hide hb
  clear hv hb
  go_wp2_with fail
  go_ret
  exact ⟨(unhide HF2).trans (PF.below (unhide HB)), v, rfl, unhide HV, i + 1, PL_next (unhide HT) hk, by rw [lvs_leaf (unhide HK0), List.append_nil]; exact (unhide HP2).later (unhide HB)⟩
set_option maxHeartbeats 1000000 in
theorem poperator_any (n : Nat) (hU : GU n) (k : Nat) (w : World) (pb g cap B : Nat) (L : List Tk) (i : Nat) (NM : List Tk) (t : Tk) (r : List Tk) (h : PP w pb g cap B L i false 0 NM) (ht : PL L i = t :: r) (hk : 2 ≤ t.k) (hk0 : k ≠ 0) (hn : 6 * r.length + 1 ≤ n) :
    Calls Tryz.prog 263 #[.pointer (some ⟨pb, 0, none⟩), .int .i64 (k : Int)] w fun e w' => GLeft L pb g cap B NM w w' e (mapOne k (pf n 4 .nil r)) := by
  have HU := hide hU
  have HP := hide h
  have HT := hide ht
  have HK0 := hide hk0
  have hr := PL_next ht hk
  have HR := hide hr
  clear h ht hk0 hU hr
  go_enter Tryz.func263, Tryz.ntmps263
  go_wp2_with fail
  refine (pnext_any _ _ _ _ _ _ _ _ _ _ _ _ (unhide HP) (unhide HT)).mono ?_
  rintro e w1 ⟨rfl, rfl⟩
  go_wp2_with fail
  refine (ptake_yes t.k _ _ _ _ _ _ _ _ _ _ _ _ (unhide HP) (unhide HT) rfl hk).mono ?_
  rintro e w2 ⟨rfl, hm⟩
  have HP2 := hide ((unhide HP).step hm (unhide HT) hk)
  have HF2 := hide (PF.grown (B := B) hm.gr)
  clear hm
  simp only [tkP]
  go_wp2_with fail
  refine ((unhide HU) _ _ _ _ _ _ _ _ (unhide HP2) (by rw [unhide HR]; exact hn)).mono ?_
  rw [unhide HR]
  rintro e w3 ⟨hf3, p3, rfl, hx3⟩
  have HF3 := hide hf3
  have HX3 := hide hx3
  clear hf3 hx3
  go_wp2_with fail
  cases hpf : pf n 4 .nil r with
  | error q =>
    obtain ⟨NM3, hp3⟩ : ∃ NM', PP w3 pb g cap B L (L.length - 1) true q NM' := by have := unhide HX3; rw [hpf] at this; exact this
    have HP3 := hide hp3
    have HX : Hid (mapOne k (pf n 4 .nil r) = .error q) := by show _ = _; rw [hpf]; rfl
    clear hp3 hpf HX3
    refine (fOne_any k .nil p3 _).mono ?_
    rintro e w4 ⟨v, rfl, -, hb⟩
    have HB := hide hb
    clear hb
    go_wp2_with fail
    go_ret
    rw [unhide HX]
    exact ⟨((unhide HF2).trans (unhide HF3)).trans (PF.below (unhide HB)), v, rfl, NM3, (unhide HP3).later (unhide HB)⟩
  | ok x =>
    obtain ⟨a, l1⟩ := x
    obtain ⟨hg3, i3, hl3, hp3⟩ : IsG w3 a p3 ∧ ∃ i, PL L i = l1 ∧ PP w3 pb g cap B L i false 0 (NM ++ lvs a) := by have := unhide HX3; rw [hpf] at this; exact this
    have HP3 := hide hp3
    have HG3 := hide hg3
    have HL3 := hide hl3
    have HX : Hid (mapOne k (pf n 4 .nil r) = .ok (one k a, l1)) := by show _ = _; rw [hpf]; rfl
    clear hp3 hpf HX3 hg3 hl3
    refine (fOne_any k a p3 _).mono ?_
    rintro e w4 ⟨v, rfl, hv, hb⟩
    have HB := hide hb
    have HV := hide (hv (unhide HG3))
    clear hb hv
    go_wp2_with fail
    go_ret
    rw [unhide HX]
    exact ⟨((unhide HF2).trans (unhide HF3)).trans (PF.below (unhide HB)), v, rfl, unhide HV, i3, unhide HL3, by rw [lvs_one (unhide HK0)]; exact (unhide HP3).later (unhide HB)⟩
set_option maxHeartbeats 1000000 in
theorem pbracket_any (n : Nat) (hU : GF n) (w : World) (pb g cap B : Nat) (L : List Tk) (i : Nat) (NM : List Tk) (t : Tk) (r : List Tk) (h : PP w pb g cap B L i false 0 NM) (ht : PL L i = t :: r) (hk : t.k = 18) (hn : 6 * r.length + 5 ≤ n) :
    Calls Tryz.prog 264 #[.pointer (some ⟨pb, 0, none⟩)] w fun e w' => GLeft L pb g cap B NM w w' e (brk (pf n 0 .nil r)) := by
  have HU := hide hU
  have HP := hide h
  have HT := hide ht
  have hr := PL_next ht (by omega)
  have HR := hide hr
  have HK := hide hk
  clear h ht hU hr hk
  go_enter Tryz.func264, Tryz.ntmps264
  go_wp2_with fail
  refine (ptake_yes 18 _ _ _ _ _ _ _ _ _ _ _ _ (unhide HP) (unhide HT) (unhide HK) (by decide)).mono ?_
  rintro e w2 ⟨rfl, hm⟩
  have HP2 := hide ((unhide HP).step hm (unhide HT) (by have := unhide HK; omega))
  have HF2 := hide (PF.grown (B := B) hm.gr)
  clear hm
  simp only [tkP]
  go_wp2_with fail
  refine ((unhide HU) _ _ _ _ _ _ _ _ (unhide HP2) (by rw [unhide HR]; exact hn)).mono ?_
  rw [unhide HR]
  rintro e w3 ⟨hf3, p3, rfl, hx3⟩
  have HF3 := hide hf3
  have HX3 := hide hx3
  clear hf3 hx3
  go_wp2_with fail
  cases hpf : pf n 0 .nil r with
  | error q =>
    obtain ⟨NM3, hp3⟩ : ∃ NM', PP w3 pb g cap B L (L.length - 1) true q NM' := by have := unhide HX3; rw [hpf] at this; exact this
    obtain ⟨t3, ht3, hk3⟩ := PL_last hp3.fe
    have HP3 := hide hp3
    have HT3 := hide ht3
    have hk19 : t3.k ≠ 19 := by omega
    have HK19 := hide hk19
    have HX : Hid (brk (pf n 0 .nil r) = .error q) := by show _ = _; rw [hpf]; rfl
    clear hp3 hpf HX3 ht3 hk3 hk19
    refine (ptake_no 19 _ _ _ _ _ _ _ _ _ _ _ _ (unhide HP3) (unhide HT3) (unhide HK19)).mono ?_
    rintro e w4 ⟨rfl, hm⟩
    have HP4 := hide ((unhide HP3).lost hm)
    have HF4 := hide (PF.grown (B := B) hm.gr)
    clear hm
    simp only [tkP]
    go_wp2_with fail
    go_ret
    rw [unhide HX]
    exact ⟨((unhide HF2).trans (unhide HF3)).trans (unhide HF4), p3, rfl, NM3, unhide HP4⟩
  | ok x =>
    obtain ⟨a, l1⟩ := x
    obtain ⟨hg3, i3, hl3, hp3⟩ : IsG w3 a p3 ∧ ∃ i, PL L i = l1 ∧ PP w3 pb g cap B L i false 0 (NM ++ lvs a) := by have := unhide HX3; rw [hpf] at this; exact this
    subst hl3
    have HP3 := hide hp3
    have HG3 := hide hg3
    by_cases h19 : headK (PL L i3) = 19
    · obtain ⟨t3, u3, r3, ht3, hk3⟩ := head_yes (PL_ends hp3.fe hp3.lt) (by decide) h19
      have HX : Hid (brk (pf n 0 .nil r) = .ok (a, u3 :: r3)) := by show _ = _; rw [hpf]; show (if headK (PL L i3) = 19 then (.ok (a, (PL L i3).tail) : Rd) else .error (headP (PL L i3))) = _; rw [if_pos h19, ht3]; rfl
      have HT3 := hide ht3
      have HK3 := hide hk3
      clear hp3 hpf HX3 hg3 ht3 hk3 h19
      refine (ptake_yes 19 _ _ _ _ _ _ _ _ _ _ _ _ (unhide HP3) (unhide HT3) (unhide HK3) (by decide)).mono ?_
      rintro e w4 ⟨rfl, hm⟩
      have HP4 := hide ((unhide HP3).step hm (unhide HT3) (by have := unhide HK3; omega))
      have HF4 := hide (PF.grown (B := B) hm.gr)
      clear hm
      simp only [tkP]
      go_wp2_with fail
      go_ret
      rw [unhide HX]
      exact ⟨((unhide HF2).trans (unhide HF3)).trans (unhide HF4), p3, rfl, (unhide HF4).isG (unhide HP3) (unhide HG3), i3 + 1, PL_next (unhide HT3) (by have := unhide HK3; omega), unhide HP4⟩
    · obtain ⟨t3, r3, ht3, hk3⟩ := head_no (PL_ends hp3.fe hp3.lt) h19
      have HX : Hid (brk (pf n 0 .nil r) = .error t3.p) := by show _ = _; rw [hpf]; show (if headK (PL L i3) = 19 then (.ok (a, (PL L i3).tail) : Rd) else .error (headP (PL L i3))) = _; rw [if_neg h19, ht3]; rfl
      have HT3 := hide ht3
      have HK3 := hide hk3
      clear hp3 hpf HX3 hg3 ht3 hk3 h19
      refine (ptake_no 19 _ _ _ _ _ _ _ _ _ _ _ _ (unhide HP3) (unhide HT3) (unhide HK3)).mono ?_
      rintro e w4 ⟨rfl, hm⟩
      have HP4 := hide ((unhide HP3).lost hm)
      have HF4 := hide (PF.grown (B := B) hm.gr)
      clear hm
      simp only [tkP]
      go_wp2_with fail
      go_ret
      rw [unhide HX]
      exact ⟨((unhide HF2).trans (unhide HF3)).trans (unhide HF4), p3, rfl, _, unhide HP4⟩
set_option maxHeartbeats 1000000 in
theorem puntil_step (n : Nat) (hU : GU n) (hV : GU n) : GT (n + 1) := by
  intro w pb g cap B L i NM h hn
  have HU := hide hU
  have HV2 := hide hV
  have HP := hide h
  clear hU hV h
  go_enter Tryz.func257, Tryz.ntmps257
  go_wp2_with fail
  refine ((unhide HU) _ _ _ _ _ _ _ _ (unhide HP) (by omega)).mono ?_
  rintro e w1 ⟨hf1, p, rfl, hx⟩
  have HF1 := hide hf1
  cases hpf : pf n 4 .nil (PL L i) with
  | error q =>
    have HX : Hid (pf (n + 1) 3 .nil (PL L i) = .error q) := by show _ = _; rw [pf, hpf]
    rw [hpf] at hx
    obtain ⟨NM1, hp1⟩ := hx
    obtain ⟨t, ht, hk⟩ := PL_last hp1.fe
    have HP1 := hide hp1
    have HT := hide ht
    have HK := hide (show t.k ≠ 13 by omega)
    clear hp1 hf1 ht hpf hk
    go_wp2_with fail
    refine (pskip_no 13 _ _ _ _ _ _ _ _ _ _ _ _ (unhide HP1) (unhide HT) (unhide HK)).mono ?_
    rintro e w2 ⟨rfl, rfl⟩
    go_wp2_with fail
    go_ret
    rw [unhide HX]
    exact ⟨unhide HF1, _, rfl, NM1, unhide HP1⟩
  | ok x =>
    obtain ⟨a, l1⟩ := x
    have hlen := pf_len _ _ _ _ _ _ hpf
    rw [hpf] at hx
    obtain ⟨hg1, i1, hl1, hp1⟩ := hx
    subst hl1
    by_cases h13 : headK (PL L i1) = 13
    · obtain ⟨t, u, r, ht, hk⟩ := head_yes (PL_ends hp1.fe hp1.lt) (by decide) h13
      have ht2 := PL_next ht (by omega)
      have hX : pf (n + 1) 3 .nil (PL L i) = (match pf n 4 .nil (PL L (i1 + 1)) with | .error q => .error q | .ok (b, l2) => .ok (two 9 a b, l2)) := by
        rw [pf, hpf]; simp only [h13, if_true]; rw [ht, ht2]; rfl
      have HX := hide hX
      have hlt2 : 6 * (PL L (i1 + 1)).length + 1 ≤ n := by rw [ht2]; rw [ht] at hlen; simp only [List.length_cons] at hlen ⊢; omega
      have HL := hide hlt2
      have HG1 := hide hg1
      have HP1 := hide hp1
      have HT := hide ht
      have HK := hide hk
      clear hp1 hf1 ht hpf hX h13 hk hg1 ht2 hlt2
      go_wp2_with fail
      refine (pskip_yes 13 _ _ _ _ _ _ _ _ _ _ _ _ (unhide HP1) (unhide HT) (unhide HK) (by decide)).mono ?_
      rintro e w2 ⟨rfl, hm⟩
      have HP2 := hide ((unhide HP1).step hm (unhide HT) (by have := unhide HK; omega))
      have HF2 := hide (PF.grown (B := B) hm.gr)
      clear hm
      go_wp2_with fail
      refine ((unhide HV2) _ _ _ _ _ _ _ _ (unhide HP2) (unhide HL)).mono ?_
      rintro e w3 ⟨hf3, p3, rfl, hx3⟩
      have HGA := hide (hf3.isG (unhide HP2) ((unhide HF2).isG (unhide HP1) (unhide HG1)))
      have HF3 := hide hf3
      clear hf3
      go_wp2_with fail
      cases hpf3 : pf n 4 .nil (PL L (i1 + 1)) with
      | error q =>
        rw [hpf3] at hx3
        have HX3 : Hid (pf (n + 1) 3 .nil (PL L i) = .error q) := by show _ = _; rw [unhide HX, hpf3]
        obtain ⟨NM3, hp3⟩ := hx3
        have HP3 := hide hp3
        clear hp3 hpf3
        refine (fTwo_any 9 .nil .nil p p3 _).mono ?_
        rintro e w4 ⟨v, rfl, -, hb4⟩
        have HB4 := hide hb4
        clear hb4
        go_wp2_with fail
        go_ret
        rw [unhide HX3]
        exact ⟨(((unhide HF1).trans (unhide HF2)).trans (unhide HF3)).trans (PF.below (unhide HB4)), _, rfl, NM3, (unhide HP3).later (unhide HB4)⟩
      | ok x =>
        obtain ⟨b, l2⟩ := x
        rw [hpf3] at hx3
        have HX3 : Hid (pf (n + 1) 3 .nil (PL L i) = .ok (two 9 a b, l2)) := by show _ = _; rw [unhide HX, hpf3]
        obtain ⟨hg3, i3, hl3, hp3⟩ := hx3
        have HP3 := hide hp3
        have HQ3 := hide hl3
        have HGB := hide hg3
        clear hp3 hl3 hpf3 hg3
        refine (fTwo_any 9 a b p p3 _).mono ?_
        rintro e w4 ⟨v, rfl, hv, hb4⟩
        have HB4 := hide hb4
        have HV := hide (hv (unhide HGA) (unhide HGB))
        clear hb4 hv
        go_wp2_with fail
        go_ret
        rw [unhide HX3]
        exact ⟨(((unhide HF1).trans (unhide HF2)).trans (unhide HF3)).trans (PF.below (unhide HB4)), _, rfl, unhide HV, i3, unhide HQ3, by rw [lvs_two (by decide), ← List.append_assoc]; exact (unhide HP3).later (unhide HB4)⟩
    · obtain ⟨t, r, ht, hk⟩ := head_no (PL_ends hp1.fe hp1.lt) h13
      have HX : Hid (pf (n + 1) 3 .nil (PL L i) = .ok (a, PL L i1)) := by show _ = _; rw [pf, hpf]; simp only [h13, if_false]
      have HG1 := hide hg1
      have HP1 := hide hp1
      have HT := hide ht
      have HK := hide hk
      clear hp1 hf1 ht hpf h13 hk hg1
      go_wp2_with fail
      refine (pskip_no 13 _ _ _ _ _ _ _ _ _ _ _ _ (unhide HP1) (unhide HT) (unhide HK)).mono ?_
      rintro e w2 ⟨rfl, rfl⟩
      go_wp2_with fail
      go_ret
      rw [unhide HX]
      exact ⟨unhide HF1, _, rfl, unhide HG1, i1, rfl, unhide HP1⟩
set_option maxHeartbeats 1000000 in
theorem pformula_step (n : Nat) (hU : GO n) (hV : GF n) : GF (n + 1) := by
  intro w pb g cap B L i NM h hn
  have HU := hide hU
  have HV2 := hide hV
  have HP := hide h
  clear hU hV h
  go_enter Tryz.func180, Tryz.ntmps180
  go_wp2_with fail
  refine ((unhide HU) _ _ _ _ _ _ _ _ (unhide HP) (by omega)).mono ?_
  rintro e w1 ⟨hf1, p, rfl, hx⟩
  have HF1 := hide hf1
  cases hpf : pf n 1 .nil (PL L i) with
  | error q =>
    have HX : Hid (pf (n + 1) 0 .nil (PL L i) = .error q) := by show _ = _; rw [pf, hpf]
    rw [hpf] at hx
    obtain ⟨NM1, hp1⟩ := hx
    obtain ⟨t, ht, hk⟩ := PL_last hp1.fe
    have HP1 := hide hp1
    have HT := hide ht
    have HK := hide (show t.k ≠ 14 by omega)
    clear hp1 hf1 ht hpf hk
    go_wp2_with fail
    refine (pskip_no 14 _ _ _ _ _ _ _ _ _ _ _ _ (unhide HP1) (unhide HT) (unhide HK)).mono ?_
    rintro e w2 ⟨rfl, rfl⟩
    go_wp2_with fail
    go_ret
    rw [unhide HX]
    exact ⟨unhide HF1, _, rfl, NM1, unhide HP1⟩
  | ok x =>
    obtain ⟨a, l1⟩ := x
    have hlen := pf_len _ _ _ _ _ _ hpf
    rw [hpf] at hx
    obtain ⟨hg1, i1, hl1, hp1⟩ := hx
    subst hl1
    by_cases h13 : headK (PL L i1) = 14
    · obtain ⟨t, u, r, ht, hk⟩ := head_yes (PL_ends hp1.fe hp1.lt) (by decide) h13
      have ht2 := PL_next ht (by omega)
      have hX : pf (n + 1) 0 .nil (PL L i) = (match pf n 0 .nil (PL L (i1 + 1)) with | .error q => .error q | .ok (b, l2) => .ok (two 12 a b, l2)) := by
        rw [pf, hpf]; simp only [h13, if_true]; rw [ht, ht2]; rfl
      have HX := hide hX
      have hlt2 : 6 * (PL L (i1 + 1)).length + 5 ≤ n := by rw [ht2]; rw [ht] at hlen; simp only [List.length_cons] at hlen ⊢; omega
      have HL := hide hlt2
      have HG1 := hide hg1
      have HP1 := hide hp1
      have HT := hide ht
      have HK := hide hk
      clear hp1 hf1 ht hpf hX h13 hk hg1 ht2 hlt2
      go_wp2_with fail
      refine (pskip_yes 14 _ _ _ _ _ _ _ _ _ _ _ _ (unhide HP1) (unhide HT) (unhide HK) (by decide)).mono ?_
      rintro e w2 ⟨rfl, hm⟩
      have HP2 := hide ((unhide HP1).step hm (unhide HT) (by have := unhide HK; omega))
      have HF2 := hide (PF.grown (B := B) hm.gr)
      clear hm
      go_wp2_with fail
      refine ((unhide HV2) _ _ _ _ _ _ _ _ (unhide HP2) (unhide HL)).mono ?_
      rintro e w3 ⟨hf3, p3, rfl, hx3⟩
      have HGA := hide (hf3.isG (unhide HP2) ((unhide HF2).isG (unhide HP1) (unhide HG1)))
      have HF3 := hide hf3
      clear hf3
      go_wp2_with fail
      cases hpf3 : pf n 0 .nil (PL L (i1 + 1)) with
      | error q =>
        rw [hpf3] at hx3
        have HX3 : Hid (pf (n + 1) 0 .nil (PL L i) = .error q) := by show _ = _; rw [unhide HX, hpf3]
        obtain ⟨NM3, hp3⟩ := hx3
        have HP3 := hide hp3
        clear hp3 hpf3
        refine (fTwo_any 12 .nil .nil p p3 _).mono ?_
        rintro e w4 ⟨v, rfl, -, hb4⟩
        have HB4 := hide hb4
        clear hb4
        go_wp2_with fail
        go_ret
        rw [unhide HX3]
        exact ⟨(((unhide HF1).trans (unhide HF2)).trans (unhide HF3)).trans (PF.below (unhide HB4)), _, rfl, NM3, (unhide HP3).later (unhide HB4)⟩
      | ok x =>
        obtain ⟨b, l2⟩ := x
        rw [hpf3] at hx3
        have HX3 : Hid (pf (n + 1) 0 .nil (PL L i) = .ok (two 12 a b, l2)) := by show _ = _; rw [unhide HX, hpf3]
        obtain ⟨hg3, i3, hl3, hp3⟩ := hx3
        have HP3 := hide hp3
        have HQ3 := hide hl3
        have HGB := hide hg3
        clear hp3 hl3 hpf3 hg3
        refine (fTwo_any 12 a b p p3 _).mono ?_
        rintro e w4 ⟨v, rfl, hv, hb4⟩
        have HB4 := hide hb4
        have HV := hide (hv (unhide HGA) (unhide HGB))
        clear hb4 hv
        go_wp2_with fail
        go_ret
        rw [unhide HX3]
        exact ⟨(((unhide HF1).trans (unhide HF2)).trans (unhide HF3)).trans (PF.below (unhide HB4)), _, rfl, unhide HV, i3, unhide HQ3, by rw [lvs_two (by decide), ← List.append_assoc]; exact (unhide HP3).later (unhide HB4)⟩
    · obtain ⟨t, r, ht, hk⟩ := head_no (PL_ends hp1.fe hp1.lt) h13
      have HX : Hid (pf (n + 1) 0 .nil (PL L i) = .ok (a, PL L i1)) := by show _ = _; rw [pf, hpf]; simp only [h13, if_false]
      have HG1 := hide hg1
      have HP1 := hide hp1
      have HT := hide ht
      have HK := hide hk
      clear hp1 hf1 ht hpf h13 hk hg1
      go_wp2_with fail
      refine (pskip_no 14 _ _ _ _ _ _ _ _ _ _ _ _ (unhide HP1) (unhide HT) (unhide HK)).mono ?_
      rintro e w2 ⟨rfl, rfl⟩
      go_wp2_with fail
      go_ret
      rw [unhide HX]
      exact ⟨unhide HF1, _, rfl, unhide HG1, i1, rfl, unhide HP1⟩
set_option maxHeartbeats 1000000 in
theorem pand_step (n : Nat) (hU : ∀ m, m ≤ n → GT m) : GA (n + 1) := by
  intro w pb g cap B L i NM h hn
  have HU := hide hU
  have HP := hide h
  clear hU h
  go_enter Tryz.func236, Tryz.ntmps236
  go_wp2_with fail
  refine ((unhide HU) n (Nat.le_refl _) _ _ _ _ _ _ _ _ (unhide HP) (by omega)).mono ?_
  rintro e w1 ⟨hf1, p, rfl, hx⟩
  have hstart : ∃ pa, (Value.pointer p = .pointer pa) ∧ PF pb B w w1 ∧
      ((∃ acc j, n ≤ n ∧ 6 * (PL L j).length + 1 ≤ n ∧ IsG w1 acc pa ∧ PP w1 pb g cap B L j false 0 (NM ++ lvs acc) ∧ Hid (pf (n + 1) 2 .nil (PL L i) = pf n 6 acc (PL L j))) ∨
       (∃ q NM', PP w1 pb g cap B L (L.length - 1) true q NM' ∧ Hid (pf (n + 1) 2 .nil (PL L i) = .error q))) := by
    refine ⟨p, rfl, hf1, ?_⟩
    cases hpf : pf n 3 .nil (PL L i) with
    | error q =>
      rw [hpf] at hx
      obtain ⟨NM1, hp1⟩ := hx
      exact Or.inr ⟨q, NM1, hp1, by show _ = _; rw [pf, hpf]⟩
    | ok x =>
      obtain ⟨a, l1⟩ := x
      have hlen := pf_len _ _ _ _ _ _ hpf
      rw [hpf] at hx
      obtain ⟨hg1, i1, hl1, hp1⟩ := hx
      exact Or.inl ⟨a, i1, Nat.le_refl _, by rw [hl1]; omega, hg1, hp1, by show _ = _; rw [pf, hpf, hl1]⟩
  have HS := hide hstart
  clear hstart hx hf1
  go_wp2_with fail
  go_loopg [3] n (fun m v wr => ∃ pa, v = .pointer pa ∧ PF pb B w wr ∧
      ((∃ acc j, m ≤ n ∧ 6 * (PL L j).length + 1 ≤ m ∧ IsG wr acc pa ∧ PP wr pb g cap B L j false 0 (NM ++ lvs acc) ∧ Hid (pf (n + 1) 2 .nil (PL L i) = pf m 6 acc (PL L j))) ∨
       (∃ q NM', PP wr pb g cap B L (L.length - 1) true q NM' ∧ Hid (pf (n + 1) 2 .nil (PL L i) = .error q))))
  case atStart => exact unhide HS
  case round =>
    clear HS
    obtain ⟨pa, rfl, hgj, hcase⟩ := hrel
    have HFJ := hide hgj
    clear hgj
    rcases hcase with ⟨acc, j, hm, hmj, hga, hpj, hxj⟩ | ⟨q, NMj, hpj, hxj⟩
    · obtain ⟨m, rfl⟩ : ∃ m, gk = m + 1 := ⟨gk - 1, by omega⟩
      by_cases h16 : headK (PL L j) = 16
      · obtain ⟨t, u, r, ht, hk⟩ := head_yes (PL_ends hpj.fe hpj.lt) (by decide) h16
        have ht2 := PL_next ht (by omega)
        have HXJ : Hid (pf (n + 1) 2 .nil (PL L i) = (match pf m 3 .nil (PL L (j + 1)) with | .error q => .error q | .ok (b, l2) => pf m 6 (two 10 acc b) l2)) := by
          show _ = _
          rw [hxj.out, pf]; simp only [h16, if_true]; rw [ht, ht2]; rfl
        have hlt2 : 6 * (PL L (j + 1)).length + 2 ≤ m := by rw [ht2]; rw [ht] at hmj; simp only [List.length_cons] at hmj ⊢; omega
        have HL := hide hlt2
        have HGA := hide hga
        have HPJ := hide hpj
        have HT := hide ht
        have HK := hide hk
        clear hpj ht h16 hk hga ht2 hlt2 hxj
        go_wp2_with fail
        refine (pskip_yes 16 _ _ _ _ _ _ _ _ _ _ _ _ (unhide HPJ) (unhide HT) (unhide HK) (by decide)).mono ?_
        rintro e w2 ⟨rfl, hmv⟩
        have HP2 := hide ((unhide HPJ).step hmv (unhide HT) (by have := unhide HK; omega))
        have HF2 := hide (PF.grown (B := B) hmv.gr)
        clear hmv
        go_wp2_with fail
        refine ((unhide HU) m (by omega) _ _ _ _ _ _ _ _ (unhide HP2) (unhide HL)).mono ?_
        rintro e w3 ⟨hf3, p3, rfl, hx3⟩
        have HG3 := hide (hf3.isG (unhide HP2) ((unhide HF2).isG (unhide HPJ) (unhide HGA)))
        have HF3 := hide hf3
        clear hf3
        go_wp2_with fail
        cases hpf3 : pf m 3 .nil (PL L (j + 1)) with
        | error q =>
          rw [hpf3] at hx3
          obtain ⟨NM3, hp3⟩ := hx3
          have HX3 : Hid (pf (n + 1) 2 .nil (PL L i) = .error q) := by show _ = _; rw [unhide HXJ, hpf3]
          have HP3 := hide hp3
          clear hp3 hpf3
          refine (fTwo_any 10 .nil .nil pa p3 _).mono ?_
          rintro e w4 ⟨v, rfl, -, hb4⟩
          have HB4 := hide hb4
          clear hb4
          go_wp2_with fail
          go_roundg m
          case measure => omega
          case rel => exact ⟨_, rfl, (((unhide HFJ).trans (unhide HF2)).trans (unhide HF3)).trans (PF.below (unhide HB4)), Or.inr ⟨q, NM3, (unhide HP3).later (unhide HB4), unhide HX3⟩⟩
        | ok x =>
          obtain ⟨b, l2⟩ := x
          have hlen3 := pf_len _ _ _ _ _ _ hpf3
          rw [hpf3] at hx3
          obtain ⟨hg3, i3, hl3, hp3⟩ := hx3
          subst hl3
          have HX3 : Hid (pf (n + 1) 2 .nil (PL L i) = pf m 6 (two 10 acc b) (PL L i3)) := by show _ = _; rw [unhide HXJ, hpf3]
          have HP3 := hide hp3
          have HGB := hide hg3
          have hl3 : 6 * (PL L i3).length + 1 ≤ m := by have := unhide HL; omega
          clear hp3 hpf3 hg3 hlen3
          refine (fTwo_any 10 acc b pa p3 _).mono ?_
          rintro e w4 ⟨v, rfl, hv, hb4⟩
          have HB4 := hide hb4
          have HV := hide (hv (unhide HG3) (unhide HGB))
          clear hb4 hv
          go_wp2_with fail
          go_roundg m
          case measure => omega
          case rel => exact ⟨_, rfl, (((unhide HFJ).trans (unhide HF2)).trans (unhide HF3)).trans (PF.below (unhide HB4)), Or.inl ⟨_, i3, by omega, hl3, unhide HV, by rw [lvs_two (by decide), ← List.append_assoc]; exact (unhide HP3).later (unhide HB4), unhide HX3⟩⟩
      · obtain ⟨t, r, ht, hk⟩ := head_no (PL_ends hpj.fe hpj.lt) h16
        have HX : Hid (pf (n + 1) 2 .nil (PL L i) = .ok (acc, PL L j)) := by show _ = _; rw [hxj.out, pf]; simp only [h16, if_false]
        have HGA := hide hga
        have HPJ := hide hpj
        have HT := hide ht
        have HK := hide hk
        clear hpj ht h16 hk hga hxj
        go_wp2_with fail
        refine (pskip_no 16 _ _ _ _ _ _ _ _ _ _ _ _ (unhide HPJ) (unhide HT) (unhide HK)).mono ?_
        rintro e w2 ⟨rfl, rfl⟩
        go_wp2_with fail
        go_ret
        rw [unhide HX]
        exact ⟨unhide HFJ, _, rfl, unhide HGA, j, rfl, unhide HPJ⟩
    · obtain ⟨t, ht, hk⟩ := PL_last hpj.fe
      have HPJ := hide hpj
      have HT := hide ht
      have HK := hide (show t.k ≠ 16 by omega)
      have HXJ := hide hxj.out
      clear hpj ht hxj hk
      go_wp2_with fail
      refine (pskip_no 16 _ _ _ _ _ _ _ _ _ _ _ _ (unhide HPJ) (unhide HT) (unhide HK)).mono ?_
      rintro e w2 ⟨rfl, rfl⟩
      go_wp2_with fail
      go_ret
      rw [unhide HXJ]
      exact ⟨unhide HFJ, _, rfl, NMj, unhide HPJ⟩
set_option maxHeartbeats 1000000 in
theorem por_step (n : Nat) (hU : ∀ m, m ≤ n → GA m) : GO (n + 1) := by
  intro w pb g cap B L i NM h hn
  have HU := hide hU
  have HP := hide h
  clear hU h
  go_enter Tryz.func203, Tryz.ntmps203
  go_wp2_with fail
  refine ((unhide HU) n (Nat.le_refl _) _ _ _ _ _ _ _ _ (unhide HP) (by omega)).mono ?_
  rintro e w1 ⟨hf1, p, rfl, hx⟩
  have hstart : ∃ pa, (Value.pointer p = .pointer pa) ∧ PF pb B w w1 ∧
      ((∃ acc j, n ≤ n ∧ 6 * (PL L j).length + 1 ≤ n ∧ IsG w1 acc pa ∧ PP w1 pb g cap B L j false 0 (NM ++ lvs acc) ∧ Hid (pf (n + 1) 1 .nil (PL L i) = pf n 5 acc (PL L j))) ∨
       (∃ q NM', PP w1 pb g cap B L (L.length - 1) true q NM' ∧ Hid (pf (n + 1) 1 .nil (PL L i) = .error q))) := by
    refine ⟨p, rfl, hf1, ?_⟩
    cases hpf : pf n 2 .nil (PL L i) with
    | error q =>
      rw [hpf] at hx
      obtain ⟨NM1, hp1⟩ := hx
      exact Or.inr ⟨q, NM1, hp1, by show _ = _; rw [pf, hpf]⟩
    | ok x =>
      obtain ⟨a, l1⟩ := x
      have hlen := pf_len _ _ _ _ _ _ hpf
      rw [hpf] at hx
      obtain ⟨hg1, i1, hl1, hp1⟩ := hx
      exact Or.inl ⟨a, i1, Nat.le_refl _, by rw [hl1]; omega, hg1, hp1, by show _ = _; rw [pf, hpf, hl1]⟩
  have HS := hide hstart
  clear hstart hx hf1
  go_wp2_with fail
  go_loopg [3] n (fun m v wr => ∃ pa, v = .pointer pa ∧ PF pb B w wr ∧
      ((∃ acc j, m ≤ n ∧ 6 * (PL L j).length + 1 ≤ m ∧ IsG wr acc pa ∧ PP wr pb g cap B L j false 0 (NM ++ lvs acc) ∧ Hid (pf (n + 1) 1 .nil (PL L i) = pf m 5 acc (PL L j))) ∨
       (∃ q NM', PP wr pb g cap B L (L.length - 1) true q NM' ∧ Hid (pf (n + 1) 1 .nil (PL L i) = .error q))))
  case atStart => exact unhide HS
  case round =>
    clear HS
    obtain ⟨pa, rfl, hgj, hcase⟩ := hrel
    have HFJ := hide hgj
    clear hgj
    rcases hcase with ⟨acc, j, hm, hmj, hga, hpj, hxj⟩ | ⟨q, NMj, hpj, hxj⟩
    · obtain ⟨m, rfl⟩ : ∃ m, gk = m + 1 := ⟨gk - 1, by omega⟩
      by_cases h16 : headK (PL L j) = 15
      · obtain ⟨t, u, r, ht, hk⟩ := head_yes (PL_ends hpj.fe hpj.lt) (by decide) h16
        have ht2 := PL_next ht (by omega)
        have HXJ : Hid (pf (n + 1) 1 .nil (PL L i) = (match pf m 2 .nil (PL L (j + 1)) with | .error q => .error q | .ok (b, l2) => pf m 5 (two 11 acc b) l2)) := by
          show _ = _
          rw [hxj.out, pf]; simp only [h16, if_true]; rw [ht, ht2]; rfl
        have hlt2 : 6 * (PL L (j + 1)).length + 3 ≤ m := by rw [ht2]; rw [ht] at hmj; simp only [List.length_cons] at hmj ⊢; omega
        have HL := hide hlt2
        have HGA := hide hga
        have HPJ := hide hpj
        have HT := hide ht
        have HK := hide hk
        clear hpj ht h16 hk hga ht2 hlt2 hxj
        go_wp2_with fail
        refine (pskip_yes 15 _ _ _ _ _ _ _ _ _ _ _ _ (unhide HPJ) (unhide HT) (unhide HK) (by decide)).mono ?_
        rintro e w2 ⟨rfl, hmv⟩
        have HP2 := hide ((unhide HPJ).step hmv (unhide HT) (by have := unhide HK; omega))
        have HF2 := hide (PF.grown (B := B) hmv.gr)
        clear hmv
        go_wp2_with fail
        refine ((unhide HU) m (by omega) _ _ _ _ _ _ _ _ (unhide HP2) (unhide HL)).mono ?_
        rintro e w3 ⟨hf3, p3, rfl, hx3⟩
        have HG3 := hide (hf3.isG (unhide HP2) ((unhide HF2).isG (unhide HPJ) (unhide HGA)))
        have HF3 := hide hf3
        clear hf3
        go_wp2_with fail
        cases hpf3 : pf m 2 .nil (PL L (j + 1)) with
        | error q =>
          rw [hpf3] at hx3
          obtain ⟨NM3, hp3⟩ := hx3
          have HX3 : Hid (pf (n + 1) 1 .nil (PL L i) = .error q) := by show _ = _; rw [unhide HXJ, hpf3]
          have HP3 := hide hp3
          clear hp3 hpf3
          refine (fTwo_any 11 .nil .nil pa p3 _).mono ?_
          rintro e w4 ⟨v, rfl, -, hb4⟩
          have HB4 := hide hb4
          clear hb4
          go_wp2_with fail
          go_roundg m
          case measure => omega
          case rel => exact ⟨_, rfl, (((unhide HFJ).trans (unhide HF2)).trans (unhide HF3)).trans (PF.below (unhide HB4)), Or.inr ⟨q, NM3, (unhide HP3).later (unhide HB4), unhide HX3⟩⟩
        | ok x =>
          obtain ⟨b, l2⟩ := x
          have hlen3 := pf_len _ _ _ _ _ _ hpf3
          rw [hpf3] at hx3
          obtain ⟨hg3, i3, hl3, hp3⟩ := hx3
          subst hl3
          have HX3 : Hid (pf (n + 1) 1 .nil (PL L i) = pf m 5 (two 11 acc b) (PL L i3)) := by show _ = _; rw [unhide HXJ, hpf3]
          have HP3 := hide hp3
          have HGB := hide hg3
          have hl3 : 6 * (PL L i3).length + 1 ≤ m := by have := unhide HL; omega
          clear hp3 hpf3 hg3 hlen3
          refine (fTwo_any 11 acc b pa p3 _).mono ?_
          rintro e w4 ⟨v, rfl, hv, hb4⟩
          have HB4 := hide hb4
          have HV := hide (hv (unhide HG3) (unhide HGB))
          clear hb4 hv
          go_wp2_with fail
          go_roundg m
          case measure => omega
          case rel => exact ⟨_, rfl, (((unhide HFJ).trans (unhide HF2)).trans (unhide HF3)).trans (PF.below (unhide HB4)), Or.inl ⟨_, i3, by omega, hl3, unhide HV, by rw [lvs_two (by decide), ← List.append_assoc]; exact (unhide HP3).later (unhide HB4), unhide HX3⟩⟩
      · obtain ⟨t, r, ht, hk⟩ := head_no (PL_ends hpj.fe hpj.lt) h16
        have HX : Hid (pf (n + 1) 1 .nil (PL L i) = .ok (acc, PL L j)) := by show _ = _; rw [hxj.out, pf]; simp only [h16, if_false]
        have HGA := hide hga
        have HPJ := hide hpj
        have HT := hide ht
        have HK := hide hk
        clear hpj ht h16 hk hga hxj
        go_wp2_with fail
        refine (pskip_no 15 _ _ _ _ _ _ _ _ _ _ _ _ (unhide HPJ) (unhide HT) (unhide HK)).mono ?_
        rintro e w2 ⟨rfl, rfl⟩
        go_wp2_with fail
        go_ret
        rw [unhide HX]
        exact ⟨unhide HFJ, _, rfl, unhide HGA, j, rfl, unhide HPJ⟩
    · obtain ⟨t, ht, hk⟩ := PL_last hpj.fe
      have HPJ := hide hpj
      have HT := hide ht
      have HK := hide (show t.k ≠ 15 by omega)
      have HXJ := hide hxj.out
      clear hpj ht hxj hk
      go_wp2_with fail
      refine (pskip_no 15 _ _ _ _ _ _ _ _ _ _ _ _ (unhide HPJ) (unhide HT) (unhide HK)).mono ?_
      rintro e w2 ⟨rfl, rfl⟩
      go_wp2_with fail
      go_ret
      rw [unhide HXJ]
      exact ⟨unhide HFJ, _, rfl, NMj, unhide HPJ⟩
theorem beqF {k c : Nat} (h : k ≠ c) : ((k : Int) == (c : Int)) = false := by simp; omega
theorem beqT {k c : Nat} (h : k = c) : ((k : Int) == (c : Int)) = true := by simp; omega
set_option maxHeartbeats 1000000 in
theorem unary_k17 (n : Nat) (hU : GU n) (w : World) (pb g cap B : Nat) (L : List Tk) (i : Nat) (NM : List Tk) (t : Tk) (r : List Tk) (h : PP w pb g cap B L i false 0 NM) (ht : PL L i = t :: r) (hk : t.k = 17) (hn : 6 * r.length + 1 ≤ n) :
    Calls Tryz.prog 261 #[.pointer (some ⟨pb, 0, none⟩)] w fun e w' => GLeft L pb g cap B NM w w' e (mapOne 4 (pf n 4 .nil r)) := by
  have HP := hide h
  have HT := hide ht
  have e17 : ((t.k : Int) == 17) = true := beqT (c := 17) hk
  have HK := hide hk
  have HU := hide hU
  clear h ht hk hU
  go_enter Tryz.func261, Tryz.ntmps261
  go_wp2_with fail
  refine (pnext_any _ _ _ _ _ _ _ _ _ _ _ _ (unhide HP) (unhide HT)).mono ?_
  rintro e w1 ⟨rfl, rfl⟩
  go_wp2_with fail
  refine (poperator_any n (unhide HU) 4 _ _ _ _ _ _ _ _ _ _ (unhide HP) (unhide HT) (by have := unhide HK; omega) (by decide) hn).mono ?_
  rintro e w2 ⟨hf, p, rfl, hx⟩
  have HF := hide hf
  have HX := hide hx
  clear hf hx
  go_wp2_with fail
  go_ret
  exact ⟨unhide HF, p, rfl, unhide HX⟩
set_option maxHeartbeats 1000000 in
theorem unary_k9 (n : Nat) (hU : GU n) (w : World) (pb g cap B : Nat) (L : List Tk) (i : Nat) (NM : List Tk) (t : Tk) (r : List Tk) (h : PP w pb g cap B L i false 0 NM) (ht : PL L i = t :: r) (hk : t.k = 9) (hn : 6 * r.length + 1 ≤ n) :
    Calls Tryz.prog 261 #[.pointer (some ⟨pb, 0, none⟩)] w fun e w' => GLeft L pb g cap B NM w w' e (mapOne 5 (pf n 4 .nil r)) := by
  have HP := hide h
  have HT := hide ht
  have e17 : ((t.k : Int) == 17) = false := beqF (c := 17) (by omega)
  have e9 : ((t.k : Int) == 9) = true := beqT (c := 9) hk
  have HK := hide hk
  have HU := hide hU
  clear h ht hk hU
  go_enter Tryz.func261, Tryz.ntmps261
  go_wp2_with fail
  refine (pnext_any _ _ _ _ _ _ _ _ _ _ _ _ (unhide HP) (unhide HT)).mono ?_
  rintro e w1 ⟨rfl, rfl⟩
  go_wp2_with fail
  refine (poperator_any n (unhide HU) 5 _ _ _ _ _ _ _ _ _ _ (unhide HP) (unhide HT) (by have := unhide HK; omega) (by decide) hn).mono ?_
  rintro e w2 ⟨hf, p, rfl, hx⟩
  have HF := hide hf
  have HX := hide hx
  clear hf hx
  go_wp2_with fail
  go_ret
  exact ⟨unhide HF, p, rfl, unhide HX⟩
set_option maxHeartbeats 1000000 in
theorem unary_k10 (n : Nat) (hU : GU n) (w : World) (pb g cap B : Nat) (L : List Tk) (i : Nat) (NM : List Tk) (t : Tk) (r : List Tk) (h : PP w pb g cap B L i false 0 NM) (ht : PL L i = t :: r) (hk : t.k = 10) (hn : 6 * r.length + 1 ≤ n) :
    Calls Tryz.prog 261 #[.pointer (some ⟨pb, 0, none⟩)] w fun e w' => GLeft L pb g cap B NM w w' e (mapOne 6 (pf n 4 .nil r)) := by
  have HP := hide h
  have HT := hide ht
  have e17 : ((t.k : Int) == 17) = false := beqF (c := 17) (by omega)
  have e9 : ((t.k : Int) == 9) = false := beqF (c := 9) (by omega)
  have e10 : ((t.k : Int) == 10) = true := beqT (c := 10) hk
  have HK := hide hk
  have HU := hide hU
  clear h ht hk hU
  go_enter Tryz.func261, Tryz.ntmps261
  go_wp2_with fail
  refine (pnext_any _ _ _ _ _ _ _ _ _ _ _ _ (unhide HP) (unhide HT)).mono ?_
  rintro e w1 ⟨rfl, rfl⟩
  go_wp2_with fail
  refine (poperator_any n (unhide HU) 6 _ _ _ _ _ _ _ _ _ _ (unhide HP) (unhide HT) (by have := unhide HK; omega) (by decide) hn).mono ?_
  rintro e w2 ⟨hf, p, rfl, hx⟩
  have HF := hide hf
  have HX := hide hx
  clear hf hx
  go_wp2_with fail
  go_ret
  exact ⟨unhide HF, p, rfl, unhide HX⟩
set_option maxHeartbeats 1000000 in
theorem unary_k11 (n : Nat) (hU : GU n) (w : World) (pb g cap B : Nat) (L : List Tk) (i : Nat) (NM : List Tk) (t : Tk) (r : List Tk) (h : PP w pb g cap B L i false 0 NM) (ht : PL L i = t :: r) (hk : t.k = 11) (hn : 6 * r.length + 1 ≤ n) :
    Calls Tryz.prog 261 #[.pointer (some ⟨pb, 0, none⟩)] w fun e w' => GLeft L pb g cap B NM w w' e (mapOne 7 (pf n 4 .nil r)) := by
  have HP := hide h
  have HT := hide ht
  have e17 : ((t.k : Int) == 17) = false := beqF (c := 17) (by omega)
  have e9 : ((t.k : Int) == 9) = false := beqF (c := 9) (by omega)
  have e10 : ((t.k : Int) == 10) = false := beqF (c := 10) (by omega)
  have e11 : ((t.k : Int) == 11) = true := beqT (c := 11) hk
  have HK := hide hk
  have HU := hide hU
  clear h ht hk hU
  go_enter Tryz.func261, Tryz.ntmps261
  go_wp2_with fail
  refine (pnext_any _ _ _ _ _ _ _ _ _ _ _ _ (unhide HP) (unhide HT)).mono ?_
  rintro e w1 ⟨rfl, rfl⟩
  go_wp2_with fail
  refine (poperator_any n (unhide HU) 7 _ _ _ _ _ _ _ _ _ _ (unhide HP) (unhide HT) (by have := unhide HK; omega) (by decide) hn).mono ?_
  rintro e w2 ⟨hf, p, rfl, hx⟩
  have HF := hide hf
  have HX := hide hx
  clear hf hx
  go_wp2_with fail
  go_ret
  exact ⟨unhide HF, p, rfl, unhide HX⟩
set_option maxHeartbeats 1000000 in
theorem unary_k12 (n : Nat) (hU : GU n) (w : World) (pb g cap B : Nat) (L : List Tk) (i : Nat) (NM : List Tk) (t : Tk) (r : List Tk) (h : PP w pb g cap B L i false 0 NM) (ht : PL L i = t :: r) (hk : t.k = 12) (hn : 6 * r.length + 1 ≤ n) :
    Calls Tryz.prog 261 #[.pointer (some ⟨pb, 0, none⟩)] w fun e w' => GLeft L pb g cap B NM w w' e (mapOne 8 (pf n 4 .nil r)) := by
  have HP := hide h
  have HT := hide ht
  have e17 : ((t.k : Int) == 17) = false := beqF (c := 17) (by omega)
  have e9 : ((t.k : Int) == 9) = false := beqF (c := 9) (by omega)
  have e10 : ((t.k : Int) == 10) = false := beqF (c := 10) (by omega)
  have e11 : ((t.k : Int) == 11) = false := beqF (c := 11) (by omega)
  have e12 : ((t.k : Int) == 12) = true := beqT (c := 12) hk
  have HK := hide hk
  have HU := hide hU
  clear h ht hk hU
  go_enter Tryz.func261, Tryz.ntmps261
  go_wp2_with fail
  refine (pnext_any _ _ _ _ _ _ _ _ _ _ _ _ (unhide HP) (unhide HT)).mono ?_
  rintro e w1 ⟨rfl, rfl⟩
  go_wp2_with fail
  refine (poperator_any n (unhide HU) 8 _ _ _ _ _ _ _ _ _ _ (unhide HP) (unhide HT) (by have := unhide HK; omega) (by decide) hn).mono ?_
  rintro e w2 ⟨hf, p, rfl, hx⟩
  have HF := hide hf
  have HX := hide hx
  clear hf hx
  go_wp2_with fail
  go_ret
  exact ⟨unhide HF, p, rfl, unhide HX⟩
set_option maxHeartbeats 1000000 in
theorem unary_k18 (n : Nat) (hU : GF n) (w : World) (pb g cap B : Nat) (L : List Tk) (i : Nat) (NM : List Tk) (t : Tk) (r : List Tk) (h : PP w pb g cap B L i false 0 NM) (ht : PL L i = t :: r) (hk : t.k = 18) (hn : 6 * r.length + 5 ≤ n) :
    Calls Tryz.prog 261 #[.pointer (some ⟨pb, 0, none⟩)] w fun e w' => GLeft L pb g cap B NM w w' e (brk (pf n 0 .nil r)) := by
  have HP := hide h
  have HT := hide ht
  have e17 : ((t.k : Int) == 17) = false := beqF (c := 17) (by omega)
  have e9 : ((t.k : Int) == 9) = false := beqF (c := 9) (by omega)
  have e10 : ((t.k : Int) == 10) = false := beqF (c := 10) (by omega)
  have e11 : ((t.k : Int) == 11) = false := beqF (c := 11) (by omega)
  have e12 : ((t.k : Int) == 12) = false := beqF (c := 12) (by omega)
  have e18 : ((t.k : Int) == 18) = true := beqT (c := 18) hk
  have HK := hide hk
  have HU := hide hU
  clear h ht hk hU
  go_enter Tryz.func261, Tryz.ntmps261
  go_wp2_with fail
  refine (pnext_any _ _ _ _ _ _ _ _ _ _ _ _ (unhide HP) (unhide HT)).mono ?_
  rintro e w1 ⟨rfl, rfl⟩
  go_wp2_with fail
  refine (pbracket_any n (unhide HU) _ _ _ _ _ _ _ _ _ _ (unhide HP) (unhide HT) (unhide HK) hn).mono ?_
  rintro e w2 ⟨hf, p, rfl, hx⟩
  have HF := hide hf
  have HX := hide hx
  clear hf hx
  go_wp2_with fail
  go_ret
  exact ⟨unhide HF, p, rfl, unhide HX⟩
set_option maxHeartbeats 1000000 in
theorem unary_k6 (w : World) (pb g cap B : Nat) (L : List Tk) (i : Nat) (NM : List Tk) (t : Tk) (r : List Tk) (h : PP w pb g cap B L i false 0 NM) (ht : PL L i = t :: r) (hk : t.k = 6) :
    Calls Tryz.prog 261 #[.pointer (some ⟨pb, 0, none⟩)] w fun e w' => GLeft L pb g cap B NM w w' e (.ok (leaf 1 ByteArray.empty 0, r)) := by
  have HP := hide h
  have HT := hide ht
  have e17 : ((t.k : Int) == 17) = false := beqF (c := 17) (by omega)
  have e9 : ((t.k : Int) == 9) = false := beqF (c := 9) (by omega)
  have e10 : ((t.k : Int) == 10) = false := beqF (c := 10) (by omega)
  have e11 : ((t.k : Int) == 11) = false := beqF (c := 11) (by omega)
  have e12 : ((t.k : Int) == 12) = false := beqF (c := 12) (by omega)
  have e18 : ((t.k : Int) == 18) = false := beqF (c := 18) (by omega)
  have e6 : ((t.k : Int) == 6) = true := beqT (c := 6) hk
  have HK := hide hk
  clear h ht hk
  go_enter Tryz.func261, Tryz.ntmps261
  go_wp2_with fail
  refine (pnext_any _ _ _ _ _ _ _ _ _ _ _ _ (unhide HP) (unhide HT)).mono ?_
  rintro e w1 ⟨rfl, rfl⟩
  go_wp2_with fail
  refine (pword_any 1 _ _ _ _ _ _ _ _ _ _ (unhide HP) (unhide HT) (by have := unhide HK; omega) (by decide)).mono ?_
  rintro e w2 ⟨hf, p, rfl, hx⟩
  have HF := hide hf
  have HX := hide hx
  clear hf hx
  go_wp2_with fail
  go_ret
  exact ⟨unhide HF, p, rfl, unhide HX⟩
set_option maxHeartbeats 1000000 in
theorem unary_k7 (w : World) (pb g cap B : Nat) (L : List Tk) (i : Nat) (NM : List Tk) (t : Tk) (r : List Tk) (h : PP w pb g cap B L i false 0 NM) (ht : PL L i = t :: r) (hk : t.k = 7) :
    Calls Tryz.prog 261 #[.pointer (some ⟨pb, 0, none⟩)] w fun e w' => GLeft L pb g cap B NM w w' e (.ok (leaf 2 ByteArray.empty 0, r)) := by
  have HP := hide h
  have HT := hide ht
  have e17 : ((t.k : Int) == 17) = false := beqF (c := 17) (by omega)
  have e9 : ((t.k : Int) == 9) = false := beqF (c := 9) (by omega)
  have e10 : ((t.k : Int) == 10) = false := beqF (c := 10) (by omega)
  have e11 : ((t.k : Int) == 11) = false := beqF (c := 11) (by omega)
  have e12 : ((t.k : Int) == 12) = false := beqF (c := 12) (by omega)
  have e18 : ((t.k : Int) == 18) = false := beqF (c := 18) (by omega)
  have e6 : ((t.k : Int) == 6) = false := beqF (c := 6) (by omega)
  have e7 : ((t.k : Int) == 7) = true := beqT (c := 7) hk
  have HK := hide hk
  clear h ht hk
  go_enter Tryz.func261, Tryz.ntmps261
  go_wp2_with fail
  refine (pnext_any _ _ _ _ _ _ _ _ _ _ _ _ (unhide HP) (unhide HT)).mono ?_
  rintro e w1 ⟨rfl, rfl⟩
  go_wp2_with fail
  refine (pword_any 2 _ _ _ _ _ _ _ _ _ _ (unhide HP) (unhide HT) (by have := unhide HK; omega) (by decide)).mono ?_
  rintro e w2 ⟨hf, p, rfl, hx⟩
  have HF := hide hf
  have HX := hide hx
  clear hf hx
  go_wp2_with fail
  go_ret
  exact ⟨unhide HF, p, rfl, unhide HX⟩
set_option maxHeartbeats 1000000 in
theorem unary_k8 (w : World) (pb g cap B : Nat) (L : List Tk) (i : Nat) (NM : List Tk) (t : Tk) (r : List Tk) (h : PP w pb g cap B L i false 0 NM) (ht : PL L i = t :: r) (hk : t.k = 8) :
    Calls Tryz.prog 261 #[.pointer (some ⟨pb, 0, none⟩)] w fun e w' => GLeft L pb g cap B NM w w' e (.ok (leaf 3 ByteArray.empty 0, r)) := by
  have HP := hide h
  have HT := hide ht
  have e17 : ((t.k : Int) == 17) = false := beqF (c := 17) (by omega)
  have e9 : ((t.k : Int) == 9) = false := beqF (c := 9) (by omega)
  have e10 : ((t.k : Int) == 10) = false := beqF (c := 10) (by omega)
  have e11 : ((t.k : Int) == 11) = false := beqF (c := 11) (by omega)
  have e12 : ((t.k : Int) == 12) = false := beqF (c := 12) (by omega)
  have e18 : ((t.k : Int) == 18) = false := beqF (c := 18) (by omega)
  have e6 : ((t.k : Int) == 6) = false := beqF (c := 6) (by omega)
  have e7 : ((t.k : Int) == 7) = false := beqF (c := 7) (by omega)
  have e8 : ((t.k : Int) == 8) = true := beqT (c := 8) hk
  have HK := hide hk
  clear h ht hk
  go_enter Tryz.func261, Tryz.ntmps261
  go_wp2_with fail
  refine (pnext_any _ _ _ _ _ _ _ _ _ _ _ _ (unhide HP) (unhide HT)).mono ?_
  rintro e w1 ⟨rfl, rfl⟩
  go_wp2_with fail
  refine (pword_any 3 _ _ _ _ _ _ _ _ _ _ (unhide HP) (unhide HT) (by have := unhide HK; omega) (by decide)).mono ?_
  rintro e w2 ⟨hf, p, rfl, hx⟩
  have HF := hide hf
  have HX := hide hx
  clear hf hx
  go_wp2_with fail
  go_ret
  exact ⟨unhide HF, p, rfl, unhide HX⟩
set_option maxHeartbeats 1000000 in
theorem unary_act (w : World) (pb g cap B : Nat) (L : List Tk) (i : Nat) (NM : List Tk) (t : Tk) (r : List Tk) (h : PP w pb g cap B L i false 0 NM) (ht : PL L i = t :: r) (x : Rd)
    (hk : t.k ≠ 17 ∧ t.k ≠ 9 ∧ t.k ≠ 10 ∧ t.k ≠ 11 ∧ t.k ≠ 12 ∧ t.k ≠ 18 ∧ t.k ≠ 6 ∧ t.k ≠ 7 ∧ t.k ≠ 8)
    (hx : if t.k = 2 then x = .ok (leaf 0 t.s t.p, r) else x = .error t.p) :
    Calls Tryz.prog 261 #[.pointer (some ⟨pb, 0, none⟩)] w fun e w' => GLeft L pb g cap B NM w w' e x := by
  have HP := hide h
  have HT := hide ht
  obtain ⟨h1, h2, h3, h4, h5, h6, h7, h8, h9⟩ := hk
  have e17 : ((t.k : Int) == 17) = false := beqF (c := 17) h1
  have e9 : ((t.k : Int) == 9) = false := beqF (c := 9) h2
  have e10 : ((t.k : Int) == 10) = false := beqF (c := 10) h3
  have e11 : ((t.k : Int) == 11) = false := beqF (c := 11) h4
  have e12 : ((t.k : Int) == 12) = false := beqF (c := 12) h5
  have e18 : ((t.k : Int) == 18) = false := beqF (c := 18) h6
  have e6 : ((t.k : Int) == 6) = false := beqF (c := 6) h7
  have e7 : ((t.k : Int) == 7) = false := beqF (c := 7) h8
  have e8 : ((t.k : Int) == 8) = false := beqF (c := 8) h9
  clear h1 h2 h3 h4 h5 h6 h7 h8 h9
  have hact : Calls Tryz.prog 266 #[.pointer (some ⟨pb, 0, none⟩)] w fun e w' => GLeft L pb g cap B NM w w' e x := by
    by_cases h2 : t.k = 2
    · rw [if_pos h2] at hx
      subst hx
      refine (activity_of w pb g cap B L i NM t h (i + 1) false 0 (h.fe.nextLt ht (by omega)) (fun _ => by have := h.nm rfl; omega) (ptake_yes 2 _ _ _ _ _ _ _ _ _ _ _ _ h ht h2 (by decide))).mono ?_
      rintro e w1 ⟨p, rfl, hg, hp, hf⟩
      have e1 : (⟨2, t.s, t.p⟩ : Tk) = t := by cases t; cases h2; rfl
      exact ⟨hf, p, rfl, hg, i + 1, PL_next ht (by omega), by rw [lvs_name, e1]; exact hp⟩
    · rw [if_neg h2] at hx
      subst hx
      refine (activity_of w pb g cap B L i NM t h (L.length - 1) true t.p (by have := h.lt; omega) (fun e => by cases e) (ptake_no 2 _ _ _ _ _ _ _ _ _ _ _ _ h ht h2)).mono ?_
      rintro e w1 ⟨p, rfl, hg, hp, hf⟩
      exact ⟨hf, p, rfl, _, hp⟩
  have HA := hide hact
  clear hact h ht hx
  go_enter Tryz.func261, Tryz.ntmps261
  go_wp2_with fail
  refine (pnext_any _ _ _ _ _ _ _ _ _ _ _ _ (unhide HP) (unhide HT)).mono ?_
  rintro e w1 ⟨rfl, rfl⟩
  go_wp2_with fail
  refine (unhide HA).mono ?_
  rintro e w2 ⟨hf, p, rfl, hx⟩
  have HF := hide hf
  have HX := hide hx
  clear hf hx
  go_wp2_with fail
  go_ret
  exact ⟨unhide HF, p, rfl, unhide HX⟩
theorem punary_step (n : Nat) (hU : GU n) (hF : GF n) : GU (n + 1) := by
  intro w pb g cap B L i NM h hn
  obtain ⟨t, r, ht⟩ := PL_some h.fe h.lt
  have hn2 : 6 * r.length + 5 ≤ n := by rw [ht] at hn; simp only [List.length_cons] at hn; omega
  have hh : headK (PL L i) = t.k := by rw [ht]; rfl
  have hhp : headP (PL L i) = t.p := by rw [ht]; rfl
  have hhs : headS (PL L i) = t.s := by rw [ht]; rfl
  have htl : (PL L i).tail = r := by rw [ht]; rfl
  by_cases h17 : t.k = 17
  · have e : pf (n + 1) 4 .nil (PL L i) = mapOne 4 (pf n 4 .nil r) := by
      rw [pf, hh, htl, h17]
      cases pf n 4 .nil r <;> rfl
    rw [e]
    exact unary_k17 n hU w pb g cap B L i NM t r h ht h17 (by omega)
  by_cases h9 : t.k = 9
  · have e : pf (n + 1) 4 .nil (PL L i) = mapOne 5 (pf n 4 .nil r) := by
      rw [pf, hh, htl, h9]
      cases pf n 4 .nil r <;> rfl
    rw [e]
    exact unary_k9 n hU w pb g cap B L i NM t r h ht h9 (by omega)
  by_cases h10 : t.k = 10
  · have e : pf (n + 1) 4 .nil (PL L i) = mapOne 6 (pf n 4 .nil r) := by
      rw [pf, hh, htl, h10]
      cases pf n 4 .nil r <;> rfl
    rw [e]
    exact unary_k10 n hU w pb g cap B L i NM t r h ht h10 (by omega)
  by_cases h11 : t.k = 11
  · have e : pf (n + 1) 4 .nil (PL L i) = mapOne 7 (pf n 4 .nil r) := by
      rw [pf, hh, htl, h11]
      cases pf n 4 .nil r <;> rfl
    rw [e]
    exact unary_k11 n hU w pb g cap B L i NM t r h ht h11 (by omega)
  by_cases h12 : t.k = 12
  · have e : pf (n + 1) 4 .nil (PL L i) = mapOne 8 (pf n 4 .nil r) := by
      rw [pf, hh, htl, h12]
      cases pf n 4 .nil r <;> rfl
    rw [e]
    exact unary_k12 n hU w pb g cap B L i NM t r h ht h12 (by omega)
  by_cases h18 : t.k = 18
  · have e : pf (n + 1) 4 .nil (PL L i) = brk (pf n 0 .nil r) := by
      rw [pf, hh, htl, h18]
      cases pf n 0 .nil r <;> rfl
    rw [e]
    exact unary_k18 n hF w pb g cap B L i NM t r h ht h18 hn2
  by_cases h6 : t.k = 6
  · have e : pf (n + 1) 4 .nil (PL L i) = .ok (leaf 1 ByteArray.empty 0, r) := by
      rw [pf, hh, htl, h6]; rfl
    rw [e]
    exact unary_k6 w pb g cap B L i NM t r h ht h6
  by_cases h7 : t.k = 7
  · have e : pf (n + 1) 4 .nil (PL L i) = .ok (leaf 2 ByteArray.empty 0, r) := by
      rw [pf, hh, htl, h7]; rfl
    rw [e]
    exact unary_k7 w pb g cap B L i NM t r h ht h7
  by_cases h8 : t.k = 8
  · have e : pf (n + 1) 4 .nil (PL L i) = .ok (leaf 3 ByteArray.empty 0, r) := by
      rw [pf, hh, htl, h8]; rfl
    rw [e]
    exact unary_k8 w pb g cap B L i NM t r h ht h8
  refine unary_act w pb g cap B L i NM t r h ht _ ⟨h17, h9, h10, h11, h12, h18, h6, h7, h8⟩ ?_
  have hop : opOf t.k = 0 := by unfold opOf; rw [if_neg h17, if_neg h9, if_neg h10, if_neg h11, if_neg h12]
  rw [pf, hh, htl, hhp, hhs]
  simp only [hop, ne_eq, not_true_eq_false, if_false, h18, h6, h7, h8, or_self]
  by_cases h2 : t.k = 2
  · simp only [h2, if_true]
  · simp only [h2, if_false]
theorem greads_all : ∀ n m, m ≤ n → GU m ∧ GT m ∧ GA m ∧ GO m ∧ GF m
  | 0, m, hm => by
    have : m = 0 := by omega
    subst this
    exact ⟨fun _ _ _ _ _ _ _ _ _ h => by omega, fun _ _ _ _ _ _ _ _ _ h => by omega, fun _ _ _ _ _ _ _ _ _ h => by omega, fun _ _ _ _ _ _ _ _ _ h => by omega, fun _ _ _ _ _ _ _ _ _ h => by omega⟩
  | n + 1, m, hm => by
    by_cases hlt : m ≤ n
    · exact greads_all n m hlt
    · have : m = n + 1 := by omega
      subst this
      have ih := greads_all n
      have hn := ih n (Nat.le_refl _)
      exact ⟨punary_step n hn.1 hn.2.2.2.2, puntil_step n hn.1 hn.1, pand_step n (fun m hm => (ih m hm).2.1), por_step n (fun m hm => (ih m hm).2.2.1), pformula_step n hn.2.2.2.1 hn.2.2.2.2⟩
theorem pformula_any (n : Nat) : GF n := (greads_all n n (Nat.le_refl _)).2.2.2.2
def Stp (ok : Prop) (t : Tk) (n i : Nat) (b : Bool) (q j : Nat) (b' : Bool) (q' : Nat) : Prop := (ok ∧ j = i + 1 ∧ b' = b ∧ q' = q) ∨ (¬ ok ∧ j = n - 1 ∧ b' = true ∧ q' = fq b q t.p)
theorem ptake_any (k : Nat) (w : World) (pb g cap B : Nat) (L : List Tk) (i : Nat) (bad : Bool) (q : Nat) (NM : List Tk) (t : Tk) (r : List Tk) (h : PP w pb g cap B L i bad q NM) (ht : PL L i = t :: r) (hk2 : 2 ≤ k) (j : Nat) (b' : Bool) (q' : Nat) (hs : Stp (t.k = k) t L.length i bad q j b' q') :
    Calls Tryz.prog 141 #[.pointer (some ⟨pb, 0, none⟩), .int .i64 (k : Int)] w fun e w' => e = .returned (tkP t) ∧ Mv w w' pb g cap L.length i bad q j b' q' := by
  rcases hs with ⟨hk, rfl, rfl, rfl⟩ | ⟨hk, rfl, rfl, rfl⟩
  · exact ptake_yes k w pb g cap B L i b' q' NM t r h ht hk hk2
  · exact ptake_no k w pb g cap B L i bad q NM t r h ht hk
theorem PP.stp {w w' : World} {pb g cap B : Nat} {L : List Tk} {i : Nat} {bad : Bool} {q : Nat} {NM : List Tk} (h : PP w pb g cap B L i bad q NM) {t : Tk} {r : List Tk} (ht : PL L i = t :: r) {ok : Prop} (hok : ok → 2 ≤ t.k) {j q' : Nat} {b' : Bool} (hs : Stp ok t L.length i bad q j b' q')
    (hm : Mv w w' pb g cap L.length i bad q j b' q') : PP w' pb g cap B L j b' q' NM := by
  have hlt := h.lt
  rcases hs with ⟨hk, rfl, rfl, rfl⟩ | ⟨hk, rfl, rfl, rfl⟩
  · exact h.move hm (h.fe.nextLt ht (by have := hok hk; omega)) (fun e => by have := h.nm e; omega)
  · exact h.move hm (by omega) (fun e => by cases e)
theorem Stp.lt {ok : Prop} {t : Tk} {L : List Tk} {i : Nat} {b : Bool} {q j : Nat} {b' : Bool} {q' : Nat} (hs : Stp ok t L.length i b q j b' q') (hfe : FE L) {r : List Tk} (ht : PL L i = t :: r) (hok : ok → 2 ≤ t.k) : j < L.length := by
  have hlt := PL_lt ht
  rcases hs with ⟨hk, rfl, _, _⟩ | ⟨_, rfl, _, _⟩
  · exact hfe.nextLt ht (by have := hok hk; omega)
  · omega
set_option maxHeartbeats 1000000 in
theorem pnod_any (w : World) (pb g cap B : Nat) (L : List Tk) (i : Nat) (bad : Bool) (q : Nat) (NM : List Tk) (t : Tk) (r : List Tk) (h : PP w pb g cap B L i bad q NM) (ht : PL L i = t :: r) (j : Nat) (b' : Bool) (q' : Nat) (hs : Stp (t.k = 2 ∨ t.k = 3) t L.length i bad q j b' q') :
    Calls Tryz.prog 202 #[.pointer (some ⟨pb, 0, none⟩)] w fun e w' => e = .returned (tkP t) ∧ Mv w w' pb g cap L.length i bad q j b' q' := by
  have hp := h.pLt
  have HP := hide h
  have HT := hide ht
  by_cases h3 : t.k = 3
  · have hs3 : Stp (t.k = 3) t L.length i bad q j b' q' := by
      rcases hs with ⟨_, e⟩ | ⟨hk, e⟩
      · exact Or.inl ⟨h3, e⟩
      · exact absurd (Or.inr h3) hk
    have hTT := ptake_any 3 (w.alloc (.cells #[.int .i64 0, .string ⟨#[]⟩, .int .i64 0] 185)) pb g cap B L i bad q NM t r (h.alloc _) ht (by decide) j b' q' hs3
    have HTT := hide hTT
    have e3 : ((t.k : Int) == 3) = true := beqT (c := 3) h3
    clear h ht h3 hs hs3 hTT
    go_enter Tryz.func202, Tryz.ntmps202
    go_wp2_with fail
    refine (pnext_any _ _ _ _ _ _ _ _ _ _ _ _ ((unhide HP).alloc _) (unhide HT)).mono ?_
    rintro e w1 ⟨rfl, rfl⟩
    go_wp2_with fail
    refine (unhide HTT).mono ?_
    rintro e w1 ⟨rfl, hm1⟩
    have hrb := (hm1.gr.block w.heap.size (by simp) (by simp; omega)).trans (blk_alloc _ _)
    have HM := hide (((Mv.refl w pb g cap L.length i bad q).alloc (.cells #[.int .i64 0, .string ⟨#[]⟩, .int .i64 0] 185)).trans hm1)
    have rc := fun o => cell_of_blk hrb o
    have rf := fun o => frozen_of_blk hrb o
    have hz : w.heap.size < w1.heap.size := lt_of_blk hrb
    have HRB := hide hrb
    clear hm1 hrb
    simp only [tkP]
    go_wp2_with fail
    clear rc
    have hfin : (((w1.setCell ⟨w.heap.size, 0, none⟩ (.int .i64 t.k)).setCell ⟨w.heap.size, 1, none⟩ (.string t.s)).setCell ⟨w.heap.size, 2, none⟩ (.int .i64 t.p)).heap[w.heap.size]? = some (.cells #[.int .i64 t.k, .string t.s, .int .i64 t.p] 185 (0, 0)) := blk_set (blk_set (blk_set (unhide HRB) 0 _) 1 _) 2 _
    have rc := fun o => cell_of_blk hfin o
    exact bodyPost_ret (v := tkP t) (by simp [results, Tryz.results202, go_sem, rc, tkP]) rfl ⟨rfl, (unhide HM).setNew3 (Nat.le_refl _) hp _ _ _⟩
  · have hs3 : Stp (t.k = 2) t L.length i bad q j b' q' := by
      rcases hs with ⟨hk, e⟩ | ⟨hk, e⟩
      · exact Or.inl ⟨by omega, e⟩
      · exact Or.inr ⟨fun e2 => hk (Or.inl e2), e⟩
    have hTT := ptake_any 2 (w.alloc (.cells #[.int .i64 0, .string ⟨#[]⟩, .int .i64 0] 185)) pb g cap B L i bad q NM t r (h.alloc _) ht (by decide) j b' q' hs3
    have HTT := hide hTT
    have e3 : ((t.k : Int) == 3) = false := beqF (c := 3) h3
    clear h ht h3 hs hs3 hTT
    go_enter Tryz.func202, Tryz.ntmps202
    go_wp2_with fail
    refine (pnext_any _ _ _ _ _ _ _ _ _ _ _ _ ((unhide HP).alloc _) (unhide HT)).mono ?_
    rintro e w1 ⟨rfl, rfl⟩
    go_wp2_with fail
    refine (unhide HTT).mono ?_
    rintro e w1 ⟨rfl, hm1⟩
    have hrb := (hm1.gr.block w.heap.size (by simp) (by simp; omega)).trans (blk_alloc _ _)
    have HM := hide (((Mv.refl w pb g cap L.length i bad q).alloc (.cells #[.int .i64 0, .string ⟨#[]⟩, .int .i64 0] 185)).trans hm1)
    have rc := fun o => cell_of_blk hrb o
    have rf := fun o => frozen_of_blk hrb o
    have hz : w.heap.size < w1.heap.size := lt_of_blk hrb
    have HRB := hide hrb
    clear hm1 hrb
    simp only [tkP]
    go_wp2_with fail
    clear rc
    have hfin : (((w1.setCell ⟨w.heap.size, 0, none⟩ (.int .i64 t.k)).setCell ⟨w.heap.size, 1, none⟩ (.string t.s)).setCell ⟨w.heap.size, 2, none⟩ (.int .i64 t.p)).heap[w.heap.size]? = some (.cells #[.int .i64 t.k, .string t.s, .int .i64 t.p] 185 (0, 0)) := blk_set (blk_set (blk_set (unhide HRB) 0 _) 1 _) 2 _
    have rc := fun o => cell_of_blk hfin o
    exact bodyPost_ret (v := tkP t) (by simp [results, Tryz.results202, go_sem, rc, tkP]) rfl ⟨rfl, (unhide HM).setNew3 (Nat.le_refl _) hp _ _ _⟩
theorem Stp_ex (ok : Prop) (t : Tk) (n i : Nat) (b : Bool) (q : Nat) : ∃ j b' q', Stp ok t n i b q j b' q' := by
  by_cases h : ok
  · exact ⟨_, _, _, Or.inl ⟨h, rfl, rfl, rfl⟩⟩
  · exact ⟨_, _, _, Or.inr ⟨h, rfl, rfl, rfl⟩⟩
theorem Stp.nm {ok : Prop} {t : Tk} {n i : Nat} {b : Bool} {q j : Nat} {b' : Bool} {q' : Nat} (hs : Stp ok t n i b q j b' q') {m : Nat} (h : b = false → m ≤ i) : b' = false → m ≤ j := by
  rcases hs with ⟨_, rfl, rfl, _⟩ | ⟨_, _, rfl, _⟩
  · intro e; have := h e; omega
  · intro e; cases e
def CallOut (L : List Tk) (i : Nat) (t : Tk) (args : List Tk) (x : Tk) (j : Nat) (b : Bool) (q : Nat) : Prop :=
  (b = false ∧ q = 0 ∧ (j < L.length ∧ i ≤ j) ∧ ruleRead (PL L i) = .ok (⟨0, true, t, args, x.p, .nil⟩, PL L j)) ∨ (b = true ∧ j = L.length - 1 ∧ ruleRead (PL L i) = .error q)
theorem callOut_one {L : List Tk} {i : Nat} {t u v y : Tk} {r r1 : List Tk} (hfe : FE L) (ht : PL L i = t :: u :: v :: r) (hk : t.k = 2) (hu : u.k = 18) {j1 : Nat} {b1 : Bool} {q1 : Nat} (hs1 : Stp (v.k = 2) v L.length (i + 1 + 1) false 0 j1 b1 q1)
    (hy : PL L j1 = y :: r1) (hy20 : y.k ≠ 20) {j2 : Nat} {b2 : Bool} {q2 : Nat} (hs2 : Stp (y.k = 19) y L.length j1 b1 q1 j2 b2 q2) : CallOut L i t [v] y j2 b2 q2 := by
  have ht2 := PL_next (PL_next ht (by omega)) (by omega)
  rcases hs1 with ⟨hv, rfl, rfl, rfl⟩ | ⟨hv, rfl, rfl, rfl⟩
  · have ht3 := PL_next ht2 (by omega)
    have hr : r = y :: r1 := by rw [← ht3]; exact hy
    subst hr
    rcases hs2 with ⟨h19, rfl, rfl, rfl⟩ | ⟨h19, rfl, rfl, rfl⟩
    · refine Or.inl ⟨rfl, rfl, ⟨hfe.nextLt hy (by omega), by omega⟩, ?_⟩
      rw [PL_next hy (by omega), ht]
      simp [ruleRead, headK, headT, headP, hk, hu, hv, h19]
    · refine Or.inr ⟨rfl, rfl, ?_⟩
      rw [ht]
      simp [ruleRead, headK, headT, headP, hk, hu, hv, h19, hy20, fq]
  · obtain ⟨e, he, hek⟩ := PL_last hfe
    rw [hy] at he
    have hye : y = e := (List.cons.inj he).1
    subst hye
    rcases hs2 with ⟨h19, _⟩ | ⟨h19, rfl, rfl, rfl⟩
    · omega
    · refine Or.inr ⟨rfl, rfl, ?_⟩
      rw [ht]
      simp [ruleRead, headK, headT, headP, hk, hu, hv, fq]
theorem callOut_two {L : List Tk} {i : Nat} {t u v y z x : Tk} {r r1 r2 r3 : List Tk} (hfe : FE L) (ht : PL L i = t :: u :: v :: r) (hk : t.k = 2) (hu : u.k = 18) {j1 : Nat} {b1 : Bool} {q1 : Nat} (hs1 : Stp (v.k = 2) v L.length (i + 1 + 1) false 0 j1 b1 q1)
    (hy : PL L j1 = y :: r1) (hy20 : y.k = 20) (hz : PL L (j1 + 1) = z :: r2) {j2 : Nat} {b2 : Bool} {q2 : Nat} (hs2 : Stp (z.k = 2 ∨ z.k = 3) z L.length (j1 + 1) b1 q1 j2 b2 q2)
    (hx : PL L j2 = x :: r3) {j3 : Nat} {b3 : Bool} {q3 : Nat} (hs3 : Stp (x.k = 19) x L.length j2 b2 q2 j3 b3 q3) : CallOut L i t [v, z] x j3 b3 q3 := by
  have ht2 := PL_next (PL_next ht (by omega)) (by omega)
  obtain ⟨e, he, hek⟩ := PL_last hfe
  rcases hs1 with ⟨hv, rfl, rfl, rfl⟩ | ⟨hv, rfl, rfl, rfl⟩
  · have ht3 := PL_next ht2 (by omega)
    have hr : r = y :: r1 := by rw [← ht3]; exact hy
    subst hr
    have ht4 := PL_next hy (by omega)
    have hr1 : r1 = z :: r2 := by rw [← ht4]; exact hz
    subst hr1
    rcases hs2 with ⟨hzk, rfl, rfl, rfl⟩ | ⟨hzk, rfl, rfl, rfl⟩
    · have ht5 := PL_next hz (by omega)
      have hr2 : r2 = x :: r3 := by rw [← ht5]; exact hx
      subst hr2
      rcases hs3 with ⟨h19, rfl, rfl, rfl⟩ | ⟨h19, rfl, rfl, rfl⟩
      · refine Or.inl ⟨rfl, rfl, ⟨hfe.nextLt hx (by omega), by omega⟩, ?_⟩
        rw [PL_next hx (by omega), ht]
        simp [ruleRead, headK, headT, headP, hk, hu, hv, hy20, hzk, h19]
      · refine Or.inr ⟨rfl, rfl, ?_⟩
        rw [ht]
        simp [ruleRead, headK, headT, headP, hk, hu, hv, hy20, hzk, h19, fq]
    · rw [hx] at he
      have hxe : x = e := (List.cons.inj he).1
      subst hxe
      rcases hs3 with ⟨h19, _⟩ | ⟨h19, rfl, rfl, rfl⟩
      · omega
      · refine Or.inr ⟨rfl, rfl, ?_⟩
        rw [ht]
        simp [ruleRead, headK, headT, headP, hk, hu, hv, hy20, hzk, fq]
  · rw [hy] at he
    have hye : y = e := (List.cons.inj he).1
    subst hye
    omega
def cbl (word : Tk) (ao : Option Addr) (an ac : Nat) (x : Tk) : Obj :=
  .cells #[.int .i64 word.k, .string word.s, .int .i64 word.p, .slice ao an ac, .int .i64 x.k, .string x.s, .int .i64 x.p] 244 (0, 0)
def CS (w wc : World) (cb : Nat) (word : Tk) (args : List Tk) : Prop :=
  w.heap.size ≤ cb ∧ ∃ ao an ac, wc.heap[cb]? = some (cbl word ao an ac tk0) ∧ wc.ownsRow w.heap.size 185 3 (.slice ao an ac) args.length (tkCellsP args)
theorem grownBy_from_drew {w w' : World} {row : Option Nat} (h : w.drew.grownBy w' row) : w.grownBy w' row := ⟨h.os, h.tape, h.output, h.size, h.block⟩
theorem Mv.from_drew {w w1 : World} {pb g cap n i q j q1 : Nat} {b b1 : Bool} (h : Mv w.drew w1 pb g cap n i b q j b1 q1) : Mv w w1 pb g cap n i b q j b1 q1 := ⟨grownBy_from_drew h.gr, h.onto⟩
theorem Mv.row {w w1 w2 : World} {pb g cap n i q j q1 : Nat} {b b1 : Bool} (h : Mv w w1 pb g cap n i b q j b1 q1) {row : Option Nat} (hg : w1.grownBy w2 row) (hr : ∀ k, row = some k → w.heap.size ≤ k) (hp : pb < w.heap.size) : Mv w w2 pb g cap n i b q j b1 q1 :=
  ⟨⟨hg.os.trans h.gr.os, hg.tape.trans h.gr.tape, hg.output.trans h.gr.output, Nat.le_trans h.gr.size hg.size, fun k hk hne => (hg.block k (Nat.lt_of_lt_of_le hk h.gr.size) (fun e => by have := hr k e.symm; omega)).trans (h.gr.block k hk hne)⟩,
   fun no nn nc e => by
    have := h.onto no nn nc e
    exact (hg.block pb (lt_of_blk this) (fun e => by have := hr pb e.symm; omega)).trans this⟩
def CallPost (w w' : World) (pb g cap : Nat) (L : List Tk) (i : Nat) (t : Tk) (e : Ending) : Prop := ∃ cb args x j b q, e = .returned (.pointer (some ⟨cb, 0, none⟩)) ∧ w.heap.size ≤ cb ∧
  (∃ ao an ac, w'.heap[cb]? = some (cbl t ao an ac x) ∧ w'.ownsRow w.heap.size 185 3 (.slice ao an ac) args.length (tkCellsP args)) ∧ Mv w w' pb g cap L.length i false 0 j b q ∧ CallOut L i t args x j b q
set_option maxHeartbeats 4000000 in
set_option maxRecDepth 100000 in
theorem pcall_any (w : World) (pb g cap B : Nat) (L : List Tk) (i : Nat) (NM : List Tk) (t u v : Tk) (r : List Tk) (h : PP w pb g cap B L i false 0 NM) (ht : PL L i = t :: u :: v :: r) (hk : t.k = 2) (hu : u.k = 18) :
    Calls Tryz.prog 179 #[.pointer (some ⟨pb, 0, none⟩)] w fun e w' => CallPost w w' pb g cap L i t e := by
  obtain ⟨i0, hi, hz0, hz1, hz2⟩ := info_parts Tryz.infoTokP
  have hp0 := h.pLt
  have ht1 := PL_next ht (by omega)
  have ht2 := PL_next ht1 (by omega)
  obtain ⟨j1, b1, q1, hs1⟩ := Stp_ex (v.k = 2) v L.length (i + 1 + 1) false 0
  have hj1 : j1 < L.length := hs1.lt h.fe ht2 (fun e => by omega)
  have hnm1 : b1 = false → NM.length ≤ j1 := hs1.nm (fun _ => by have := h.nm rfl; omega)
  obtain ⟨y, r1, hy⟩ := PL_some h.fe hj1
  have HP := hide h
  have HT := hide ht
  have HT1 := hide ht1
  have HT2 := hide ht2
  have HK := hide hk
  have HKU := hide hu
  have HS1 := hide hs1
  have HY := hide hy
  have HNM1 := hide hnm1
  clear h ht ht1 ht2 hk hu hs1 hy hnm1
  go_enter Tryz.func179, Tryz.ntmps179
  go_wp2_with fail
  refine (ptake_yes 2 _ _ _ _ _ _ _ _ _ _ _ _ (unhide HP) (unhide HT) (unhide HK) (by decide)).mono ?_
  rintro e w1 ⟨rfl, hm1⟩
  have HM1 := hide hm1
  have HP1 := hide ((unhide HP).step hm1 (unhide HT) (by have := unhide HK; omega))
  have hzw := hm1.gr.size
  clear hm1
  simp only [tkP]
  go_wp2_with fail
  refine (ptake_yes 18 _ _ _ _ _ _ _ _ _ _ _ _ ((unhide HP1).alloc _) (unhide HT1) (unhide HKU) (by decide)).mono ?_
  rintro e w2 ⟨rfl, hm2⟩
  have HM2 := hide (((unhide HM1).alloc _).trans hm2)
  have HP2 := hide (((unhide HP1).alloc _).step hm2 (unhide HT1) (by have := unhide HKU; omega))
  have hcb := (hm2.gr.block w1.heap.size (by simp) (by simp; omega)).trans (blk_alloc _ _)
  generalize hcbe : w1.heap.size = cb at *
  have hcbl : cb < w2.heap.size := lt_of_blk hcb
  have bc := fun o => cell_of_blk hcb o
  have bf := fun o => frozen_of_blk hcb o
  have HCB := hide hcb
  have HOWN : Hid (w2.ownsRow w.heap.size 185 3 (.slice none 0 0) 0 (tkCellsP [])) := World.ownsRow_nil _ _ _ _
  have hnp : (Value.slice none 0 0).ownBlock ≠ some pb := by intro e; cases e
  clear hm2 hcb hcbe
  simp only [tkP]
  go_upto_region 3 with fail
  go_cut [] (fun wc => CS w wc cb t [v] ∧ Mv w wc pb g cap L.length i false 0 j1 b1 q1)
  case first =>
    refine wp_region_any (by kernel_rfl) ?_
    change wpAny _ _ _ _ _ _ _ (World.drew _)
    refine wpAny_take (i := 0) (v := .pointer (some ⟨cb, 0, none⟩)) rfl (by kernel_rfl) (by kernel_rfl) (by kernel_rfl) (fun _ _ _ h => h) (Or.inl ⟨by kernel_rfl, fun w => by go_simp⟩) ?_
    try simp only [Act.put, zA, zB, zC, zD, zE, zF]
    refine wpAny_take (i := 1) (v := .pointer (some ⟨cb, 0, none⟩)) rfl (by kernel_rfl) (by kernel_rfl) (by kernel_rfl) (fun _ _ _ h => h) (Or.inl ⟨by kernel_rfl, fun w => by go_simp⟩) ?_
    try simp only [Act.put, zA, zB, zC, zD, zE, zF]
    refine wpAny_take (i := 2) (v := .pointer (some ⟨cb, 0, none⟩)) rfl (by kernel_rfl) (by kernel_rfl) (by kernel_rfl) (fun _ _ _ h => h) (Or.inl ⟨by kernel_rfl, fun w => by go_simp⟩) ?_
    try simp only [Act.put, zA, zB, zC, zD, zE, zF]
    refine wpAny_take (i := 3) (v := .pointer (some ⟨cb, 3, none⟩)) rfl (by kernel_rfl) (by kernel_rfl) (by kernel_rfl) (fun _ _ _ h => h) (Or.inl ⟨by kernel_rfl, fun w => by go_simp⟩) ?_
    try simp only [Act.put, zA, zB, zC, zD, zE, zF]
    refine wpAny_take (i := 5) (v := .pointer (some ⟨pb, 0, none⟩)) rfl (by kernel_rfl) (by kernel_rfl) (by kernel_rfl) (fun _ _ _ h => h) (Or.inl ⟨by kernel_rfl, fun w => by go_simp⟩) ?_
    try simp only [Act.put, zA, zB, zC, zD, zE, zF]
    refine wpAny_ready (rs := [4, 6]) (by kernel_rfl) (by simp) ?_
    refine AllReady.cons rfl (fun K hK => ?_) (AllReady.cons rfl (fun K hK => ?_) AllReady.nil)
    · go_simp
      refine hK _ _ ?_
      clear hK K
      refine wpAny_ready (rs := [6]) (by kernel_rfl) (by simp) ?_
      refine AllReady.cons rfl (fun K hK => ?_) AllReady.nil
      go_simp
      go_wp2_with (go_at_call 141; refine (ptake_any 2 _ pb g cap B L (i + 1 + 1) false 0 NM v r ((unhide HP2).later (Below.refl _ _).drew) (unhide HT2) (by decide) j1 b1 q1 (unhide HS1)).mono ?_; rintro e w3 ⟨rfl, hm3⟩)
      have HM3 := hide hm3.from_drew
      have hcb3 := (hm3.gr.block cb hcbl (by simp; omega)).trans (unhide HCB)
      have hown3 := owns_keep (unhide HOWN) hm3.from_drew.gr (Or.inr hnp)
      have hsz3 := hm3.gr.size
      have hcb3l : cb < w3.heap.size := lt_of_blk hcb3
      have bc3 := fun o => cell_of_blk hcb3 o
      have bf3 := fun o => frozen_of_blk hcb3 o
      have HCB3 := hide hcb3
      have HOWN3 := hide hown3
      clear hm3 hcb3 hown3 bc bf
      simp only [tkP]
      refine wpAny_ready (rs := [7]) (by kernel_rfl) (by simp) ?_
      refine AllReady.cons rfl (fun K hK => ?_) AllReady.nil
      go_simp
      refine hK _ _ ?_
      clear hK K
      refine wpAny_ready (rs := [8]) (by kernel_rfl) (by simp) ?_
      refine AllReady.cons rfl (fun K hK => ?_) AllReady.nil
      refine step_append_lies _ (by rfl) _ _ 101 (by rfl) w.heap.size 185 i0 (.agg #[.int .i64 0, .string ⟨#[]⟩, .int .i64 0]) 3 32 Tryz.underlying101 hi hz0 hz1 hz2 rfl (by decide) (.slice none 0 0) 0 (tkCellsP []) (by rfl) ?c0 ⟨w3.heap.size, 0, none⟩ 1 1 [.int .i64 v.k, .string v.s, .int .i64 v.p] (by rfl) rfl ?c1 ?c2 (by decide) ?c3 ?c4 ?c5 (w3.heap.size + 1) (by simp) ?_
      case c0 => exact (unhide HOWN3).alloc _
      case c1 =>
        intro j u hj
        match j, hj with
        | 0, hj => simp at hj; subst hj; simp [Addr.add]
        | 1, hj => simp at hj; subst hj; simp [Addr.add]
        | 2, hj => simp at hj; subst hj; simp [Addr.add]
        | j + 3, hj => simp at hj
      case c2 => intro u hu; simp at hu; rcases hu with rfl | rfl | rfl <;> rfl
      case c3 => unfold maxLen; simp
      case c4 => simp
      case c5 => simp; simp at hsz3; omega
      intro g4 cap4 w4 hown4 hgrow4 hat4 hlt4
      have hcb4 := (hgrow4.block cb (by simp; omega) (fun e => own_ty (unhide HOWN3) e.symm (unhide HCB3) (by decide))).trans ((Below.heap_alloc _ _ _ hcb3l).trans (unhide HCB3))
      have hpg4 : some pb ≠ (Value.slice none 0 0).ownBlock := by
        intro e
        have := own_lt (unhide HOWN3) pb e.symm
        omega
      have HG4 := hide hgrow4
      have HOWN4 := hide hown4
      have HCB4 := hide hcb4
      have bc4 := fun o => cell_of_blk hcb4 o
      have bf4 := fun o => frozen_of_blk hcb4 o
      have hcb4l : cb < w4.heap.size := lt_of_blk hcb4
      refine hK _ _ ?_
      clear hK K hgrow4 hown4 hcb4 bc3 bf3
      refine wpAny_take (i := 9) (v := .pointer (some ⟨cb, 0, none⟩)) rfl (by kernel_rfl) (by kernel_rfl) (by kernel_rfl) (fun _ _ _ h => h) (Or.inl ⟨by kernel_rfl, fun w => by go_simp⟩) ?_
      try simp only [Act.put, zA, zB, zC, zD, zE, zF]
      refine wpAny_take (i := 10) (v := .pointer (some ⟨cb, 3, none⟩)) rfl (by kernel_rfl) (by kernel_rfl) (by kernel_rfl) (fun _ _ _ h => h) (Or.inl ⟨by kernel_rfl, fun w => by go_simp⟩) ?_
      try simp only [Act.put, zA, zB, zC, zD, zE, zF]
      refine wpAny_ready (rs := [11]) (by kernel_rfl) (by simp) ?_
      refine AllReady.cons rfl (fun K hK => ?_) AllReady.nil
      go_simp
      refine hK _ _ ?_
      clear hK K
      refine wpAny_done (by kernel_rfl) ?_ _
      go_wp2_with fail
      go_meet
      have hg4 : (Value.slice (some ⟨g4, 0, none⟩) (0 + 1) cap4).ownBlock ≠ some cb := fun e => own_ty (unhide HOWN4) e (unhide HCB4) (by decide)
      refine ⟨⟨hzw, some ⟨g4, 0, none⟩, 0 + 1, cap4, blk_set (unhide HCB4) 3 _, owns_keep (unhide HOWN4) (grown_set _ _ _ _) (Or.inr hg4)⟩, ?_⟩
      exact ((((unhide HM2).trans (unhide HM3)).alloc _).row (unhide HG4) (fun k e => (own_lt (unhide HOWN3) k e).1) hp0).setNew hzw hp0 _ _
    · go_simp
      go_wp2_with (go_at_call 141; refine (ptake_any 2 _ pb g cap B L (i + 1 + 1) false 0 NM v r ((unhide HP2).later (Below.refl _ _).drew) (unhide HT2) (by decide) j1 b1 q1 (unhide HS1)).mono ?_; rintro e w3 ⟨rfl, hm3⟩)
      have HM3 := hide hm3.from_drew
      have hcb3 := (hm3.gr.block cb hcbl (by simp; omega)).trans (unhide HCB)
      have hown3 := owns_keep (unhide HOWN) hm3.from_drew.gr (Or.inr hnp)
      have hsz3 := hm3.gr.size
      have hcb3l : cb < w3.heap.size := lt_of_blk hcb3
      have bc3 := fun o => cell_of_blk hcb3 o
      have bf3 := fun o => frozen_of_blk hcb3 o
      have HCB3 := hide hcb3
      have HOWN3 := hide hown3
      clear hm3 hcb3 hown3 bc bf
      simp only [tkP]
      refine wpAny_ready (rs := [4, 7]) (by kernel_rfl) (by simp) ?_
      refine AllReady.cons rfl (fun K hK => ?_) (AllReady.cons rfl (fun K hK => ?_) AllReady.nil)
      · go_simp
        refine hK _ _ ?_
        clear hK K
        refine wpAny_ready (rs := [7]) (by kernel_rfl) (by simp) ?_
        refine AllReady.cons rfl (fun K hK => ?_) AllReady.nil
        go_simp
        refine hK _ _ ?_
        clear hK K
        refine wpAny_ready (rs := [8]) (by kernel_rfl) (by simp) ?_
        refine AllReady.cons rfl (fun K hK => ?_) AllReady.nil
        refine step_append_lies _ (by rfl) _ _ 101 (by rfl) w.heap.size 185 i0 (.agg #[.int .i64 0, .string ⟨#[]⟩, .int .i64 0]) 3 32 Tryz.underlying101 hi hz0 hz1 hz2 rfl (by decide) (.slice none 0 0) 0 (tkCellsP []) (by rfl) ?c0 ⟨w3.heap.size, 0, none⟩ 1 1 [.int .i64 v.k, .string v.s, .int .i64 v.p] (by rfl) rfl ?c1 ?c2 (by decide) ?c3 ?c4 ?c5 (w3.heap.size + 1) (by simp) ?_
        case c0 => exact (unhide HOWN3).alloc _
        case c1 =>
          intro j u hj
          match j, hj with
          | 0, hj => simp at hj; subst hj; simp [Addr.add]
          | 1, hj => simp at hj; subst hj; simp [Addr.add]
          | 2, hj => simp at hj; subst hj; simp [Addr.add]
          | j + 3, hj => simp at hj
        case c2 => intro u hu; simp at hu; rcases hu with rfl | rfl | rfl <;> rfl
        case c3 => unfold maxLen; simp
        case c4 => simp
        case c5 => simp; simp at hsz3; omega
        intro g4 cap4 w4 hown4 hgrow4 hat4 hlt4
        have hcb4 := (hgrow4.block cb (by simp; omega) (fun e => own_ty (unhide HOWN3) e.symm (unhide HCB3) (by decide))).trans ((Below.heap_alloc _ _ _ hcb3l).trans (unhide HCB3))
        have hpg4 : some pb ≠ (Value.slice none 0 0).ownBlock := by
          intro e
          have := own_lt (unhide HOWN3) pb e.symm
          omega
        have HG4 := hide hgrow4
        have HOWN4 := hide hown4
        have HCB4 := hide hcb4
        have bc4 := fun o => cell_of_blk hcb4 o
        have bf4 := fun o => frozen_of_blk hcb4 o
        have hcb4l : cb < w4.heap.size := lt_of_blk hcb4
        refine hK _ _ ?_
        clear hK K hgrow4 hown4 hcb4 bc3 bf3
        refine wpAny_take (i := 9) (v := .pointer (some ⟨cb, 0, none⟩)) rfl (by kernel_rfl) (by kernel_rfl) (by kernel_rfl) (fun _ _ _ h => h) (Or.inl ⟨by kernel_rfl, fun w => by go_simp⟩) ?_
        try simp only [Act.put, zA, zB, zC, zD, zE, zF]
        refine wpAny_take (i := 10) (v := .pointer (some ⟨cb, 3, none⟩)) rfl (by kernel_rfl) (by kernel_rfl) (by kernel_rfl) (fun _ _ _ h => h) (Or.inl ⟨by kernel_rfl, fun w => by go_simp⟩) ?_
        try simp only [Act.put, zA, zB, zC, zD, zE, zF]
        refine wpAny_ready (rs := [11]) (by kernel_rfl) (by simp) ?_
        refine AllReady.cons rfl (fun K hK => ?_) AllReady.nil
        go_simp
        refine hK _ _ ?_
        clear hK K
        refine wpAny_done (by kernel_rfl) ?_ _
        go_wp2_with fail
        go_meet
        have hg4 : (Value.slice (some ⟨g4, 0, none⟩) (0 + 1) cap4).ownBlock ≠ some cb := fun e => own_ty (unhide HOWN4) e (unhide HCB4) (by decide)
        refine ⟨⟨hzw, some ⟨g4, 0, none⟩, 0 + 1, cap4, blk_set (unhide HCB4) 3 _, owns_keep (unhide HOWN4) (grown_set _ _ _ _) (Or.inr hg4)⟩, ?_⟩
        exact ((((unhide HM2).trans (unhide HM3)).alloc _).row (unhide HG4) (fun k e => (own_lt (unhide HOWN3) k e).1) hp0).setNew hzw hp0 _ _
      · go_simp
        refine hK _ _ ?_
        clear hK K
        refine wpAny_ready (rs := [4]) (by kernel_rfl) (by simp) ?_
        refine AllReady.cons rfl (fun K hK => ?_) AllReady.nil
        go_simp
        refine hK _ _ ?_
        clear hK K
        refine wpAny_ready (rs := [8]) (by kernel_rfl) (by simp) ?_
        refine AllReady.cons rfl (fun K hK => ?_) AllReady.nil
        refine step_append_lies _ (by rfl) _ _ 101 (by rfl) w.heap.size 185 i0 (.agg #[.int .i64 0, .string ⟨#[]⟩, .int .i64 0]) 3 32 Tryz.underlying101 hi hz0 hz1 hz2 rfl (by decide) (.slice none 0 0) 0 (tkCellsP []) (by rfl) ?c0 ⟨w3.heap.size, 0, none⟩ 1 1 [.int .i64 v.k, .string v.s, .int .i64 v.p] (by rfl) rfl ?c1 ?c2 (by decide) ?c3 ?c4 ?c5 (w3.heap.size + 1) (by simp) ?_
        case c0 => exact (unhide HOWN3).alloc _
        case c1 =>
          intro j u hj
          match j, hj with
          | 0, hj => simp at hj; subst hj; simp [Addr.add]
          | 1, hj => simp at hj; subst hj; simp [Addr.add]
          | 2, hj => simp at hj; subst hj; simp [Addr.add]
          | j + 3, hj => simp at hj
        case c2 => intro u hu; simp at hu; rcases hu with rfl | rfl | rfl <;> rfl
        case c3 => unfold maxLen; simp
        case c4 => simp
        case c5 => simp; simp at hsz3; omega
        intro g4 cap4 w4 hown4 hgrow4 hat4 hlt4
        have hcb4 := (hgrow4.block cb (by simp; omega) (fun e => own_ty (unhide HOWN3) e.symm (unhide HCB3) (by decide))).trans ((Below.heap_alloc _ _ _ hcb3l).trans (unhide HCB3))
        have hpg4 : some pb ≠ (Value.slice none 0 0).ownBlock := by
          intro e
          have := own_lt (unhide HOWN3) pb e.symm
          omega
        have HG4 := hide hgrow4
        have HOWN4 := hide hown4
        have HCB4 := hide hcb4
        have bc4 := fun o => cell_of_blk hcb4 o
        have bf4 := fun o => frozen_of_blk hcb4 o
        have hcb4l : cb < w4.heap.size := lt_of_blk hcb4
        refine hK _ _ ?_
        clear hK K hgrow4 hown4 hcb4 bc3 bf3
        refine wpAny_take (i := 9) (v := .pointer (some ⟨cb, 0, none⟩)) rfl (by kernel_rfl) (by kernel_rfl) (by kernel_rfl) (fun _ _ _ h => h) (Or.inl ⟨by kernel_rfl, fun w => by go_simp⟩) ?_
        try simp only [Act.put, zA, zB, zC, zD, zE, zF]
        refine wpAny_take (i := 10) (v := .pointer (some ⟨cb, 3, none⟩)) rfl (by kernel_rfl) (by kernel_rfl) (by kernel_rfl) (fun _ _ _ h => h) (Or.inl ⟨by kernel_rfl, fun w => by go_simp⟩) ?_
        try simp only [Act.put, zA, zB, zC, zD, zE, zF]
        refine wpAny_ready (rs := [11]) (by kernel_rfl) (by simp) ?_
        refine AllReady.cons rfl (fun K hK => ?_) AllReady.nil
        go_simp
        refine hK _ _ ?_
        clear hK K
        refine wpAny_done (by kernel_rfl) ?_ _
        go_wp2_with fail
        go_meet
        have hg4 : (Value.slice (some ⟨g4, 0, none⟩) (0 + 1) cap4).ownBlock ≠ some cb := fun e => own_ty (unhide HOWN4) e (unhide HCB4) (by decide)
        refine ⟨⟨hzw, some ⟨g4, 0, none⟩, 0 + 1, cap4, blk_set (unhide HCB4) 3 _, owns_keep (unhide HOWN4) (grown_set _ _ _ _) (Or.inr hg4)⟩, ?_⟩
        exact ((((unhide HM2).trans (unhide HM3)).alloc _).row (unhide HG4) (fun k e => (own_lt (unhide HOWN3) k e).1) hp0).setNew hzw hp0 _ _
  case rest =>
    obtain ⟨⟨-, ao, an, ac, hcb5, hown5⟩, hm5⟩ := hcut
    have HP5 := hide ((unhide HP).move hm5 hj1 (unhide HNM1))
    have HM5 := hide hm5
    have HCB5 := hide hcb5
    have HOWN5 := hide hown5
    have hcb5l : cb < wc.heap.size := lt_of_blk hcb5
    clear hm5 hcb5 hown5 bc bf HCB HOWN HP1 HM1 HP2 HM2
    by_cases hy20 : y.k = 20
    · have hj11 : j1 + 1 < L.length := (unhide HP).fe.nextLt (unhide HY) (by omega)
      obtain ⟨z, r2, hz⟩ := PL_some (unhide HP).fe hj11
      obtain ⟨j2, b2, q2, hs2⟩ := Stp_ex (z.k = 2 ∨ z.k = 3) z L.length (j1 + 1) b1 q1
      have hj2 : j2 < L.length := hs2.lt (unhide HP).fe hz (fun e => by omega)
      have hnm2 : b2 = false → NM.length ≤ j2 := hs2.nm (fun e => by have := unhide HNM1 e; omega)
      obtain ⟨x, r3, hx⟩ := PL_some (unhide HP).fe hj2
      obtain ⟨j3, b3, q3, hs3⟩ := Stp_ex (x.k = 19) x L.length j2 b2 q2
      have HOUT := hide (callOut_two (unhide HP).fe (unhide HT) (unhide HK) (unhide HKU) (unhide HS1) (unhide HY) hy20 hz hs2 hx hs3)
      have HZ := hide hz
      have HX := hide hx
      have HS2 := hide hs2
      have HS3 := hide hs3
      have HNM2 := hide hnm2
      have HY20 := hide hy20
      clear hz hx hs2 hs3 hnm2 hy20
      go_wp2_with fail
      refine (pskip_yes 20 _ _ _ _ _ _ _ _ _ _ _ _ (unhide HP5) (unhide HY) (unhide HY20) (by decide)).mono ?_
      rintro e w2 ⟨rfl, hm6⟩
      have HP6 := hide ((unhide HP5).move hm6 hj11 (fun e => by have := unhide HNM1 e; omega))
      have HM6 := hide ((unhide HM5).trans hm6)
      have hcb := (hm6.gr.block cb hcb5l (by simp; omega)).trans (unhide HCB5)
      unfold cbl tk0 at hcb
      have hnp5 : (Value.slice ao an ac).ownBlock ≠ some pb := by
        intro e
        have := own_lt (unhide HOWN5) pb e
        omega
      have HOWN := hide (owns_keep (unhide HOWN5) hm6.gr (Or.inr hnp5))
      have hnp := hnp5
      have hcbl : cb < w2.heap.size := lt_of_blk hcb
      have bc := fun o => cell_of_blk hcb o
      have bf := fun o => frozen_of_blk hcb o
      have HCB := hide hcb
      clear hm6 hcb hnp5
      go_upto_region 5 with fail
      go_cut [] (fun wc => CS w wc cb t [v, z] ∧ Mv w wc pb g cap L.length i false 0 j2 b2 q2)
      case first =>
        refine wp_region_any (by kernel_rfl) ?_
        change wpAny _ _ _ _ _ _ _ (World.drew _)
        refine wpAny_take (i := 0) (v := .pointer (some ⟨cb, 0, none⟩)) rfl (by kernel_rfl) (by kernel_rfl) (by kernel_rfl) (fun _ _ _ h => h) (Or.inl ⟨by kernel_rfl, fun w => by go_simp⟩) ?_
        try simp only [Act.put, zA, zB, zC, zD, zE, zF]
        refine wpAny_take (i := 1) (v := .pointer (some ⟨cb, 0, none⟩)) rfl (by kernel_rfl) (by kernel_rfl) (by kernel_rfl) (fun _ _ _ h => h) (Or.inl ⟨by kernel_rfl, fun w => by go_simp⟩) ?_
        try simp only [Act.put, zA, zB, zC, zD, zE, zF]
        refine wpAny_take (i := 2) (v := .pointer (some ⟨cb, 0, none⟩)) rfl (by kernel_rfl) (by kernel_rfl) (by kernel_rfl) (fun _ _ _ h => h) (Or.inl ⟨by kernel_rfl, fun w => by go_simp⟩) ?_
        try simp only [Act.put, zA, zB, zC, zD, zE, zF]
        refine wpAny_take (i := 3) (v := .pointer (some ⟨cb, 3, none⟩)) rfl (by kernel_rfl) (by kernel_rfl) (by kernel_rfl) (fun _ _ _ h => h) (Or.inl ⟨by kernel_rfl, fun w => by go_simp⟩) ?_
        try simp only [Act.put, zA, zB, zC, zD, zE, zF]
        refine wpAny_take (i := 5) (v := .pointer (some ⟨pb, 0, none⟩)) rfl (by kernel_rfl) (by kernel_rfl) (by kernel_rfl) (fun _ _ _ h => h) (Or.inl ⟨by kernel_rfl, fun w => by go_simp⟩) ?_
        try simp only [Act.put, zA, zB, zC, zD, zE, zF]
        refine wpAny_ready (rs := [4, 6]) (by kernel_rfl) (by simp) ?_
        refine AllReady.cons rfl (fun K hK => ?_) (AllReady.cons rfl (fun K hK => ?_) AllReady.nil)
        · go_simp
          refine hK _ _ ?_
          clear hK K
          refine wpAny_ready (rs := [6]) (by kernel_rfl) (by simp) ?_
          refine AllReady.cons rfl (fun K hK => ?_) AllReady.nil
          go_simp
          go_wp2_with (go_at_call 202; refine (pnod_any _ pb g cap B L (j1 + 1) b1 q1 NM z r2 ((unhide HP6).later (Below.refl _ _).drew) (unhide HZ) j2 b2 q2 (unhide HS2)).mono ?_; rintro e w3 ⟨rfl, hm3⟩)
          have HM3 := hide hm3.from_drew
          have hcb3 := (hm3.gr.block cb hcbl (by simp; omega)).trans (unhide HCB)
          have hown3 := owns_keep (unhide HOWN) hm3.from_drew.gr (Or.inr hnp)
          have hsz3 := hm3.gr.size
          have hcb3l : cb < w3.heap.size := lt_of_blk hcb3
          have bc3 := fun o => cell_of_blk hcb3 o
          have bf3 := fun o => frozen_of_blk hcb3 o
          have HCB3 := hide hcb3
          have HOWN3 := hide hown3
          clear hm3 hcb3 hown3 bc bf
          simp only [tkP]
          refine wpAny_ready (rs := [7]) (by kernel_rfl) (by simp) ?_
          refine AllReady.cons rfl (fun K hK => ?_) AllReady.nil
          go_simp
          refine hK _ _ ?_
          clear hK K
          refine wpAny_ready (rs := [8]) (by kernel_rfl) (by simp) ?_
          refine AllReady.cons rfl (fun K hK => ?_) AllReady.nil
          refine step_append_lies _ (by rfl) _ _ 101 (by rfl) w.heap.size 185 i0 (.agg #[.int .i64 0, .string ⟨#[]⟩, .int .i64 0]) 3 32 Tryz.underlying101 hi hz0 hz1 hz2 rfl (by decide) (.slice ao an ac) 1 (tkCellsP [v]) (by rfl) ?c0 ⟨w3.heap.size, 0, none⟩ 1 1 [.int .i64 z.k, .string z.s, .int .i64 z.p] (by rfl) rfl ?c1 ?c2 (by decide) ?c3 ?c4 ?c5 (w3.heap.size + 1) (by simp) ?_
          case c0 => exact (unhide HOWN3).alloc _
          case c1 =>
            intro j u hj
            match j, hj with
            | 0, hj => simp at hj; subst hj; simp [Addr.add]
            | 1, hj => simp at hj; subst hj; simp [Addr.add]
            | 2, hj => simp at hj; subst hj; simp [Addr.add]
            | j + 3, hj => simp at hj
          case c2 => intro u hu; simp at hu; rcases hu with rfl | rfl | rfl <;> rfl
          case c3 => unfold maxLen; simp
          case c4 => simp
          case c5 => simp; simp at hsz3; omega
          intro g4 cap4 w4 hown4 hgrow4 hat4 hlt4
          have hcb4 := (hgrow4.block cb (by simp; omega) (fun e => own_ty (unhide HOWN3) e.symm (unhide HCB3) (by decide))).trans ((Below.heap_alloc _ _ _ hcb3l).trans (unhide HCB3))
          have hpg4 : some pb ≠ (Value.slice ao an ac).ownBlock := by
            intro e
            have := own_lt (unhide HOWN3) pb e.symm
            omega
          have HG4 := hide hgrow4
          have HOWN4 := hide hown4
          have HCB4 := hide hcb4
          have bc4 := fun o => cell_of_blk hcb4 o
          have bf4 := fun o => frozen_of_blk hcb4 o
          have hcb4l : cb < w4.heap.size := lt_of_blk hcb4
          refine hK _ _ ?_
          clear hK K hgrow4 hown4 hcb4 bc3 bf3
          refine wpAny_take (i := 9) (v := .pointer (some ⟨cb, 0, none⟩)) rfl (by kernel_rfl) (by kernel_rfl) (by kernel_rfl) (fun _ _ _ h => h) (Or.inl ⟨by kernel_rfl, fun w => by go_simp⟩) ?_
          try simp only [Act.put, zA, zB, zC, zD, zE, zF]
          refine wpAny_take (i := 10) (v := .pointer (some ⟨cb, 3, none⟩)) rfl (by kernel_rfl) (by kernel_rfl) (by kernel_rfl) (fun _ _ _ h => h) (Or.inl ⟨by kernel_rfl, fun w => by go_simp⟩) ?_
          try simp only [Act.put, zA, zB, zC, zD, zE, zF]
          refine wpAny_ready (rs := [11]) (by kernel_rfl) (by simp) ?_
          refine AllReady.cons rfl (fun K hK => ?_) AllReady.nil
          go_simp
          refine hK _ _ ?_
          clear hK K
          refine wpAny_done (by kernel_rfl) ?_ _
          go_wp2_with fail
          go_meet
          have hg4 : (Value.slice (some ⟨g4, 0, none⟩) (1 + 1) cap4).ownBlock ≠ some cb := fun e => own_ty (unhide HOWN4) e (unhide HCB4) (by decide)
          refine ⟨⟨hzw, some ⟨g4, 0, none⟩, 1 + 1, cap4, blk_set (unhide HCB4) 3 _, owns_keep (unhide HOWN4) (grown_set _ _ _ _) (Or.inr hg4)⟩, ?_⟩
          exact ((((unhide HM6).trans (unhide HM3)).alloc _).row (unhide HG4) (fun k e => (own_lt (unhide HOWN3) k e).1) hp0).setNew hzw hp0 _ _
        · go_simp
          go_wp2_with (go_at_call 202; refine (pnod_any _ pb g cap B L (j1 + 1) b1 q1 NM z r2 ((unhide HP6).later (Below.refl _ _).drew) (unhide HZ) j2 b2 q2 (unhide HS2)).mono ?_; rintro e w3 ⟨rfl, hm3⟩)
          have HM3 := hide hm3.from_drew
          have hcb3 := (hm3.gr.block cb hcbl (by simp; omega)).trans (unhide HCB)
          have hown3 := owns_keep (unhide HOWN) hm3.from_drew.gr (Or.inr hnp)
          have hsz3 := hm3.gr.size
          have hcb3l : cb < w3.heap.size := lt_of_blk hcb3
          have bc3 := fun o => cell_of_blk hcb3 o
          have bf3 := fun o => frozen_of_blk hcb3 o
          have HCB3 := hide hcb3
          have HOWN3 := hide hown3
          clear hm3 hcb3 hown3 bc bf
          simp only [tkP]
          refine wpAny_ready (rs := [4, 7]) (by kernel_rfl) (by simp) ?_
          refine AllReady.cons rfl (fun K hK => ?_) (AllReady.cons rfl (fun K hK => ?_) AllReady.nil)
          · go_simp
            refine hK _ _ ?_
            clear hK K
            refine wpAny_ready (rs := [7]) (by kernel_rfl) (by simp) ?_
            refine AllReady.cons rfl (fun K hK => ?_) AllReady.nil
            go_simp
            refine hK _ _ ?_
            clear hK K
            refine wpAny_ready (rs := [8]) (by kernel_rfl) (by simp) ?_
            refine AllReady.cons rfl (fun K hK => ?_) AllReady.nil
            refine step_append_lies _ (by rfl) _ _ 101 (by rfl) w.heap.size 185 i0 (.agg #[.int .i64 0, .string ⟨#[]⟩, .int .i64 0]) 3 32 Tryz.underlying101 hi hz0 hz1 hz2 rfl (by decide) (.slice ao an ac) 1 (tkCellsP [v]) (by rfl) ?c0 ⟨w3.heap.size, 0, none⟩ 1 1 [.int .i64 z.k, .string z.s, .int .i64 z.p] (by rfl) rfl ?c1 ?c2 (by decide) ?c3 ?c4 ?c5 (w3.heap.size + 1) (by simp) ?_
            case c0 => exact (unhide HOWN3).alloc _
            case c1 =>
              intro j u hj
              match j, hj with
              | 0, hj => simp at hj; subst hj; simp [Addr.add]
              | 1, hj => simp at hj; subst hj; simp [Addr.add]
              | 2, hj => simp at hj; subst hj; simp [Addr.add]
              | j + 3, hj => simp at hj
            case c2 => intro u hu; simp at hu; rcases hu with rfl | rfl | rfl <;> rfl
            case c3 => unfold maxLen; simp
            case c4 => simp
            case c5 => simp; simp at hsz3; omega
            intro g4 cap4 w4 hown4 hgrow4 hat4 hlt4
            have hcb4 := (hgrow4.block cb (by simp; omega) (fun e => own_ty (unhide HOWN3) e.symm (unhide HCB3) (by decide))).trans ((Below.heap_alloc _ _ _ hcb3l).trans (unhide HCB3))
            have hpg4 : some pb ≠ (Value.slice ao an ac).ownBlock := by
              intro e
              have := own_lt (unhide HOWN3) pb e.symm
              omega
            have HG4 := hide hgrow4
            have HOWN4 := hide hown4
            have HCB4 := hide hcb4
            have bc4 := fun o => cell_of_blk hcb4 o
            have bf4 := fun o => frozen_of_blk hcb4 o
            have hcb4l : cb < w4.heap.size := lt_of_blk hcb4
            refine hK _ _ ?_
            clear hK K hgrow4 hown4 hcb4 bc3 bf3
            refine wpAny_take (i := 9) (v := .pointer (some ⟨cb, 0, none⟩)) rfl (by kernel_rfl) (by kernel_rfl) (by kernel_rfl) (fun _ _ _ h => h) (Or.inl ⟨by kernel_rfl, fun w => by go_simp⟩) ?_
            try simp only [Act.put, zA, zB, zC, zD, zE, zF]
            refine wpAny_take (i := 10) (v := .pointer (some ⟨cb, 3, none⟩)) rfl (by kernel_rfl) (by kernel_rfl) (by kernel_rfl) (fun _ _ _ h => h) (Or.inl ⟨by kernel_rfl, fun w => by go_simp⟩) ?_
            try simp only [Act.put, zA, zB, zC, zD, zE, zF]
            refine wpAny_ready (rs := [11]) (by kernel_rfl) (by simp) ?_
            refine AllReady.cons rfl (fun K hK => ?_) AllReady.nil
            go_simp
            refine hK _ _ ?_
            clear hK K
            refine wpAny_done (by kernel_rfl) ?_ _
            go_wp2_with fail
            go_meet
            have hg4 : (Value.slice (some ⟨g4, 0, none⟩) (1 + 1) cap4).ownBlock ≠ some cb := fun e => own_ty (unhide HOWN4) e (unhide HCB4) (by decide)
            refine ⟨⟨hzw, some ⟨g4, 0, none⟩, 1 + 1, cap4, blk_set (unhide HCB4) 3 _, owns_keep (unhide HOWN4) (grown_set _ _ _ _) (Or.inr hg4)⟩, ?_⟩
            exact ((((unhide HM6).trans (unhide HM3)).alloc _).row (unhide HG4) (fun k e => (own_lt (unhide HOWN3) k e).1) hp0).setNew hzw hp0 _ _
          · go_simp
            refine hK _ _ ?_
            clear hK K
            refine wpAny_ready (rs := [4]) (by kernel_rfl) (by simp) ?_
            refine AllReady.cons rfl (fun K hK => ?_) AllReady.nil
            go_simp
            refine hK _ _ ?_
            clear hK K
            refine wpAny_ready (rs := [8]) (by kernel_rfl) (by simp) ?_
            refine AllReady.cons rfl (fun K hK => ?_) AllReady.nil
            refine step_append_lies _ (by rfl) _ _ 101 (by rfl) w.heap.size 185 i0 (.agg #[.int .i64 0, .string ⟨#[]⟩, .int .i64 0]) 3 32 Tryz.underlying101 hi hz0 hz1 hz2 rfl (by decide) (.slice ao an ac) 1 (tkCellsP [v]) (by rfl) ?c0 ⟨w3.heap.size, 0, none⟩ 1 1 [.int .i64 z.k, .string z.s, .int .i64 z.p] (by rfl) rfl ?c1 ?c2 (by decide) ?c3 ?c4 ?c5 (w3.heap.size + 1) (by simp) ?_
            case c0 => exact (unhide HOWN3).alloc _
            case c1 =>
              intro j u hj
              match j, hj with
              | 0, hj => simp at hj; subst hj; simp [Addr.add]
              | 1, hj => simp at hj; subst hj; simp [Addr.add]
              | 2, hj => simp at hj; subst hj; simp [Addr.add]
              | j + 3, hj => simp at hj
            case c2 => intro u hu; simp at hu; rcases hu with rfl | rfl | rfl <;> rfl
            case c3 => unfold maxLen; simp
            case c4 => simp
            case c5 => simp; simp at hsz3; omega
            intro g4 cap4 w4 hown4 hgrow4 hat4 hlt4
            have hcb4 := (hgrow4.block cb (by simp; omega) (fun e => own_ty (unhide HOWN3) e.symm (unhide HCB3) (by decide))).trans ((Below.heap_alloc _ _ _ hcb3l).trans (unhide HCB3))
            have hpg4 : some pb ≠ (Value.slice ao an ac).ownBlock := by
              intro e
              have := own_lt (unhide HOWN3) pb e.symm
              omega
            have HG4 := hide hgrow4
            have HOWN4 := hide hown4
            have HCB4 := hide hcb4
            have bc4 := fun o => cell_of_blk hcb4 o
            have bf4 := fun o => frozen_of_blk hcb4 o
            have hcb4l : cb < w4.heap.size := lt_of_blk hcb4
            refine hK _ _ ?_
            clear hK K hgrow4 hown4 hcb4 bc3 bf3
            refine wpAny_take (i := 9) (v := .pointer (some ⟨cb, 0, none⟩)) rfl (by kernel_rfl) (by kernel_rfl) (by kernel_rfl) (fun _ _ _ h => h) (Or.inl ⟨by kernel_rfl, fun w => by go_simp⟩) ?_
            try simp only [Act.put, zA, zB, zC, zD, zE, zF]
            refine wpAny_take (i := 10) (v := .pointer (some ⟨cb, 3, none⟩)) rfl (by kernel_rfl) (by kernel_rfl) (by kernel_rfl) (fun _ _ _ h => h) (Or.inl ⟨by kernel_rfl, fun w => by go_simp⟩) ?_
            try simp only [Act.put, zA, zB, zC, zD, zE, zF]
            refine wpAny_ready (rs := [11]) (by kernel_rfl) (by simp) ?_
            refine AllReady.cons rfl (fun K hK => ?_) AllReady.nil
            go_simp
            refine hK _ _ ?_
            clear hK K
            refine wpAny_done (by kernel_rfl) ?_ _
            go_wp2_with fail
            go_meet
            have hg4 : (Value.slice (some ⟨g4, 0, none⟩) (1 + 1) cap4).ownBlock ≠ some cb := fun e => own_ty (unhide HOWN4) e (unhide HCB4) (by decide)
            refine ⟨⟨hzw, some ⟨g4, 0, none⟩, 1 + 1, cap4, blk_set (unhide HCB4) 3 _, owns_keep (unhide HOWN4) (grown_set _ _ _ _) (Or.inr hg4)⟩, ?_⟩
            exact ((((unhide HM6).trans (unhide HM3)).alloc _).row (unhide HG4) (fun k e => (own_lt (unhide HOWN3) k e).1) hp0).setNew hzw hp0 _ _
      case rest =>
        obtain ⟨⟨-, ao2, an2, ac2, hcb7, hown7⟩, hm7⟩ := hcut
        have HP7 := hide ((unhide HP).move hm7 hj2 (unhide HNM2))
        have HM7 := hide hm7
        have HCB7 := hide hcb7
        have HOWN7 := hide hown7
        have hcb7l : cb < wc.heap.size := lt_of_blk hcb7
        clear hm7 hcb7 hown7 bc bf
        go_wp2_with fail
        refine (ptake_any 19 _ pb g cap B L j2 b2 q2 NM x r3 (unhide HP7) (unhide HX) (by decide) j3 b3 q3 (unhide HS3)).mono ?_
        rintro e w8 ⟨rfl, hm8⟩
        have HM8 := hide ((unhide HM7).trans hm8)
        have hcb8 := (hm8.gr.block cb hcb7l (by simp; omega)).trans (unhide HCB7)
        unfold cbl tk0 at hcb8
        have hnp8 : (Value.slice ao2 an2 ac2).ownBlock ≠ some pb := by
          intro e
          have := own_lt (unhide HOWN7) pb e
          omega
        have HOWN8 := hide (owns_keep (unhide HOWN7) hm8.gr (Or.inr hnp8))
        have hcbl8 : cb < w8.heap.size := lt_of_blk hcb8
        have bc := fun o => cell_of_blk hcb8 o
        have bf := fun o => frozen_of_blk hcb8 o
        have HCB8 := hide hcb8
        have hnc8 : (Value.slice ao2 an2 ac2).ownBlock ≠ some cb := fun e => own_ty (unhide HOWN8) e hcb8 (by decide)
        clear hm8 hcb8 hnp8
        simp only [tkP]
        go_wp2_with fail
        go_ret
        exact ⟨cb, [v, z], x, j3, b3, q3, rfl, hzw, ⟨ao2, an2, ac2, blk_set (blk_set (blk_set (unhide HCB8) 4 _) 5 _) 6 _, owns_keep (owns_keep (owns_keep (unhide HOWN8) (grown_set _ _ _ _) (Or.inr hnc8)) (grown_set _ _ _ _) (Or.inr hnc8)) (grown_set _ _ _ _) (Or.inr hnc8)⟩, (((unhide HM8).setNew hzw hp0 _ _).setNew hzw hp0 _ _).setNew hzw hp0 _ _, unhide HOUT⟩
    · obtain ⟨j2, b2, q2, hs2⟩ := Stp_ex (y.k = 19) y L.length j1 b1 q1
      have HOUT := hide (callOut_one (unhide HP).fe (unhide HT) (unhide HK) (unhide HKU) (unhide HS1) (unhide HY) hy20 hs2)
      have HS2 := hide hs2
      have HY20 := hide hy20
      clear hs2 hy20
      go_wp2_with fail
      refine (pskip_no 20 _ _ _ _ _ _ _ _ _ _ _ _ (unhide HP5) (unhide HY) (unhide HY20)).mono ?_
      rintro e w2 ⟨rfl, hw2⟩
      have hw3 := hw2.symm
      clear hw2
      subst hw3
      go_wp2_with fail
      refine (ptake_any 19 _ pb g cap B L j1 b1 q1 NM y r1 (unhide HP5) (unhide HY) (by decide) j2 b2 q2 (unhide HS2)).mono ?_
      rintro e w8 ⟨rfl, hm8⟩
      have HM8 := hide ((unhide HM5).trans hm8)
      have hcb8 := (hm8.gr.block cb hcb5l (by simp; omega)).trans (unhide HCB5)
      unfold cbl tk0 at hcb8
      have hnp8 : (Value.slice ao an ac).ownBlock ≠ some pb := by
        intro e
        have := own_lt (unhide HOWN5) pb e
        omega
      have HOWN8 := hide (owns_keep (unhide HOWN5) hm8.gr (Or.inr hnp8))
      have hcbl8 : cb < w8.heap.size := lt_of_blk hcb8
      have bc := fun o => cell_of_blk hcb8 o
      have bf := fun o => frozen_of_blk hcb8 o
      have HCB8 := hide hcb8
      have hnc8 : (Value.slice ao an ac).ownBlock ≠ some cb := fun e => own_ty (unhide HOWN8) e hcb8 (by decide)
      clear hm8 hcb8 hnp8
      simp only [tkP]
      go_wp2_with fail
      go_ret
      exact ⟨cb, [v], y, j2, b2, q2, rfl, hzw, ⟨ao, an, ac, blk_set (blk_set (blk_set (unhide HCB8) 4 _) 5 _) 6 _, owns_keep (owns_keep (owns_keep (unhide HOWN8) (grown_set _ _ _ _) (Or.inr hnc8)) (grown_set _ _ _ _) (Or.inr hnc8)) (grown_set _ _ _ _) (Or.inr hnc8)⟩, (((unhide HM8).setNew hzw hp0 _ _).setNew hzw hp0 _ _).setNew hzw hp0 _ _, unhide HOUT⟩
def KQ (w w' : World) : Prop := ∀ (b : Nat) (c : Array Value) (ty : Nat) (m : Nat × Nat), w.heap[b]? = some (.cells c ty m) → (ty = 185 ∨ ty = 244 ∨ ty = 255) → w'.heap[b]? = some (.cells c ty m)
theorem KQ.trans {w w1 w2 : World} (h : KQ w w1) (h' : KQ w1 w2) : KQ w w2 := fun b c ty m hb ht => h' b c ty m (h b c ty m hb ht) ht
theorem KQ.below {w w' : World} (h : Below w.heap.size w w') : KQ w w' := fun b _ _ _ hb _ => (h.block b (lt_of_blk hb)).trans hb
theorem KQ.grown {w w' : World} {row : Option Nat} (h : w.grownBy w' row) (hr : ∀ k, row = some k → ¬ TyAt w k 185 ∧ ¬ TyAt w k 244 ∧ ¬ TyAt w k 255) : KQ w w' := fun b c ty m hb ht =>
  (h.block b (lt_of_blk hb) (by
    intro e
    obtain ⟨h1, h2, h3⟩ := hr b e.symm
    rcases ht with rfl | rfl | rfl
    · exact h1 ⟨c, m, hb⟩
    · exact h2 ⟨c, m, hb⟩
    · exact h3 ⟨c, m, hb⟩)).trans hb
theorem ty_ne {w : World} {b ty ty' : Nat} {c : Array Value} {m : Nat × Nat} (h : w.heap[b]? = some (.cells c ty m)) (hne : ty ≠ ty') : ¬ TyAt w b ty' := by
  rintro ⟨c', m', h'⟩
  rw [h] at h'
  injection h' with h'
  injection h' with _ e _
  exact hne e
theorem KQ.set {w : World} {b ty : Nat} {c : Array Value} {m : Nat × Nat} (hb : w.heap[b]? = some (.cells c ty m)) (h1 : ty ≠ 185) (h2 : ty ≠ 244) (h3 : ty ≠ 255) (o : Nat) (v : Value) : KQ w (w.setCell ⟨b, o, none⟩ v) :=
  KQ.grown (grown_set w b o v) (fun k e => by cases e; exact ⟨ty_ne hb h1, ty_ne hb h2, ty_ne hb h3⟩)
theorem KQ.owns {w w' : World} (h : KQ w w') {base size n : Nat} {v : Value} {xs : List Value} (ho : w.ownsRow base 185 size v n xs) : w'.ownsRow base 185 size v n xs := by
  obtain ⟨h1, h2⟩ := ho
  refine ⟨h1, ?_⟩
  rcases h2 with h2 | ⟨g, cap, cur, hv, hg, hh, r⟩
  · exact Or.inl h2
  · exact Or.inr ⟨g, cap, cur, hv, hg, h _ _ _ _ hh (Or.inl rfl), r⟩
theorem KQ.isG {w w' : World} (h : KQ w w') {f : Fm} {v : Option Addr} (hf : IsG w f v) : IsG w' f v :=
  hf.keep (fun b c m hb => (h b c _ m hb (Or.inr (Or.inr rfl))).trans hb.symm)
def RsIs (w : World) (r : Rl) (fp no : Option Addr) (nn nc : Nat) (cp : Option Addr) : Prop :=
  if r.call = true then (∃ cb ao an ac x, cp = some ⟨cb, 0, none⟩ ∧ w.heap[cb]? = some (cbl r.word ao an ac x) ∧ x.p = r.fin ∧ w.ownsRow 0 185 3 (.slice ao an ac) r.args.length (tkCellsP r.args)) ∧ no = none ∧ nn = 0 ∧ nc = 0 ∧ fp = none
  else cp = none ∧ IsG w r.f fp ∧ w.ownsRow 0 185 3 (.slice no nn nc) (lvs r.f).length (tkCellsP (lvs r.f))
theorem RsIs.keep {w w' : World} (h : KQ w w') {r : Rl} {fp no : Option Addr} {nn nc : Nat} {cp : Option Addr} (hr : RsIs w r fp no nn nc cp) : RsIs w' r fp no nn nc cp := by
  unfold RsIs at hr ⊢
  by_cases hc : r.call = true
  · rw [if_pos hc] at hr ⊢
    obtain ⟨⟨cb, ao, an, ac, x, h1, h2, h3, h4⟩, h5⟩ := hr
    exact ⟨⟨cb, ao, an, ac, x, h1, h _ _ _ _ h2 (Or.inr (Or.inl rfl)), h3, h.owns h4⟩, h5⟩
  · rw [if_neg hc] at hr ⊢
    exact ⟨hr.1, h.isG hr.2.1, h.owns hr.2.2⟩
def rbl (t : Tk) (fp no : Option Addr) (nn nc : Nat) (cp : Option Addr) : Obj :=
  .cells #[.int .i64 t.k, .string t.s, .int .i64 t.p, .pointer fp, .slice no nn nc, .pointer cp] 189 (0, 0)
def RuPost (L : List Tk) (pb g cap : Nat) (w w' : World) (t : Tk) (e : Ending) (x : Except Nat (Rl × List Tk)) : Prop :=
  w.grownBy w' (some pb) ∧ ∃ fp no nn nc cp, e = .returned (.agg #[.int .i64 t.k, .string t.s, .int .i64 t.p, .pointer fp, .slice no nn nc, .pointer cp]) ∧
    ((∃ rl l1, x = .ok (rl, l1) ∧ headK l1 = 21 ∧ RsIs w' rl fp no nn nc cp ∧ ∃ B j NM, PL L j = l1.tail ∧ PP w' pb g cap B L j false 0 NM) ∨
     (∃ rl l1, x = .ok (rl, l1) ∧ headK l1 ≠ 21 ∧ ∃ B NM, PP w' pb g cap B L (L.length - 1) true (headP l1) NM) ∨
     (∃ q, x = .error q ∧ ∃ B NM, PP w' pb g cap B L (L.length - 1) true q NM))
theorem PP.clear {w : World} {pb g cap B : Nat} {L : List Tk} {i : Nat} {bad : Bool} {q : Nat} {NM : List Tk} (h : PP w pb g cap B L i bad q NM) : PP (w.setCell ⟨pb, 3, none⟩ (.slice none 0 0)) pb g cap w.heap.size L i bad q [] := by
  obtain ⟨no, nn, nc, h1, h2⟩ := h.blk
  obtain ⟨cur, h3, h4⟩ := h.row
  exact ⟨⟨none, 0, 0, blk_set h1 3 _, World.ownsRow_nil _ _ _ _⟩, ⟨cur, (Below.heap_setCell _ _ _ _ h.ne).trans h3, h4⟩, h.le, h.capLe, h.len, h.lt, h.fe, h.ok, h.gLt, h.pLt, by simp [World.setCell], fun _ => Nat.zero_le _⟩
theorem PP.ty {w : World} {pb g cap B : Nat} {L : List Tk} {i : Nat} {bad : Bool} {q : Nat} {NM : List Tk} (h : PP w pb g cap B L i bad q NM) : ∃ c m, w.heap[pb]? = some (.cells c 178 m) := by
  obtain ⟨no, nn, nc, h1, h2⟩ := h.blk
  exact ⟨_, _, h1⟩
theorem PP.kq {w w' : World} {pb g cap B : Nat} {L : List Tk} {i : Nat} {bad : Bool} {q : Nat} {NM : List Tk} (h : PP w pb g cap B L i bad q NM) (hg : w.grownBy w' (some pb)) : KQ w w' := by
  obtain ⟨c, m, hb⟩ := h.ty
  exact KQ.grown hg (fun k e => by cases e; exact ⟨ty_ne hb (by decide), ty_ne hb (by decide), ty_ne hb (by decide)⟩)
theorem PP.setTy {w : World} {pb g cap B : Nat} {L : List Tk} {i : Nat} {bad : Bool} {q : Nat} {NM : List Tk} (h : PP w pb g cap B L i bad q NM) {c ty : Nat} {cs : Array Value} {m : Nat × Nat} (hc : w.heap[c]? = some (.cells cs ty m)) (h1 : ty ≠ 185) (h2 : ty ≠ 178) (o : Nat) (v : Value) : PP (w.setCell ⟨c, o, none⟩ v) pb g cap B L i bad q NM := by
  obtain ⟨no, nn, nc, hb, ho⟩ := h.blk
  obtain ⟨cur, h3, h4⟩ := h.row
  have hcp : pb ≠ c := by rintro rfl; rw [hb] at hc; injection hc with hc; injection hc with _ e _; exact h2 e.symm
  have hcg : g ≠ c := by rintro rfl; rw [h3] at hc; injection hc with hc; injection hc with _ e _; exact h1 e.symm
  exact ⟨⟨no, nn, nc, (Below.heap_setCell _ _ _ _ hcp).trans hb, owns_keep ho (grown_set _ _ _ _) (Or.inr (fun e => own_ty ho e hc h1))⟩, ⟨cur, (Below.heap_setCell _ _ _ _ hcg).trans h3, h4⟩, h.le, h.capLe, h.len, h.lt, h.fe, h.ok, h.gB, h.pB, by simp [World.setCell]; exact h.hB, h.nm⟩
def set6 (w : World) (b : Nat) (v0 v1 v2 v3 v4 v5 : Value) : World := (((((w.setCell ⟨b, 0, none⟩ v0).setCell ⟨b, 1, none⟩ v1).setCell ⟨b, 2, none⟩ v2).setCell ⟨b, 3, none⟩ v3).setCell ⟨b, 4, none⟩ v4).setCell ⟨b, 5, none⟩ v5
theorem PP.set6 {w : World} {pb g cap B : Nat} {L : List Tk} {i : Nat} {bad : Bool} {q : Nat} {NM : List Tk} (h : PP w pb g cap B L i bad q NM) {c ty : Nat} {cs : Array Value} {m : Nat × Nat} (hc : w.heap[c]? = some (.cells cs ty m)) (h1 : ty ≠ 185) (h2 : ty ≠ 178) (v0 v1 v2 v3 v4 v5 : Value) : PP (set6 w c v0 v1 v2 v3 v4 v5) pb g cap B L i bad q NM :=
  (((((h.setTy hc h1 h2 0 v0).setTy (blk_set hc 0 v0) h1 h2 1 v1).setTy (blk_set (blk_set hc 0 v0) 1 v1) h1 h2 2 v2).setTy (blk_set (blk_set (blk_set hc 0 v0) 1 v1) 2 v2) h1 h2 3 v3).setTy (blk_set (blk_set (blk_set (blk_set hc 0 v0) 1 v1) 2 v2) 3 v3) h1 h2 4 v4).setTy (blk_set (blk_set (blk_set (blk_set (blk_set hc 0 v0) 1 v1) 2 v2) 3 v3) 4 v4) h1 h2 5 v5
theorem KQ.set6 {w : World} {b ty : Nat} {c : Array Value} {m : Nat × Nat} (hb : w.heap[b]? = some (.cells c ty m)) (h1 : ty ≠ 185) (h2 : ty ≠ 244) (h3 : ty ≠ 255) (v0 v1 v2 v3 v4 v5 : Value) : KQ w (set6 w b v0 v1 v2 v3 v4 v5) :=
  (((((KQ.set hb h1 h2 h3 0 v0).trans (KQ.set (blk_set hb 0 v0) h1 h2 h3 1 v1)).trans (KQ.set (blk_set (blk_set hb 0 v0) 1 v1) h1 h2 h3 2 v2)).trans (KQ.set (blk_set (blk_set (blk_set hb 0 v0) 1 v1) 2 v2) h1 h2 h3 3 v3)).trans (KQ.set (blk_set (blk_set (blk_set (blk_set hb 0 v0) 1 v1) 2 v2) 3 v3) h1 h2 h3 4 v4)).trans (KQ.set (blk_set (blk_set (blk_set (blk_set (blk_set hb 0 v0) 1 v1) 2 v2) 3 v3) 4 v4) h1 h2 h3 5 v5)
theorem grown_set6 {w w' : World} {row : Option Nat} (h : w.grownBy w' row) {b : Nat} (hb : w.heap.size ≤ b) (v0 v1 v2 v3 v4 v5 : Value) : w.grownBy (set6 w' b v0 v1 v2 v3 v4 v5) row :=
  grown_setNew (grown_setNew (grown_setNew (grown_setNew (grown_setNew (grown_setNew h hb 0 v0) hb 1 v1) hb 2 v2) hb 3 v3) hb 4 v4) hb 5 v5
theorem blk_set6 {w : World} {b ty : Nat} {a0 a1 a2 a3 a4 a5 : Value} {m : Nat × Nat} (hb : w.heap[b]? = some (.cells #[a0, a1, a2, a3, a4, a5] ty m)) (v0 v1 v2 v3 v4 v5 : Value) : (set6 w b v0 v1 v2 v3 v4 v5).heap[b]? = some (.cells #[v0, v1, v2, v3, v4, v5] ty m) :=
  blk_set (blk_set (blk_set (blk_set (blk_set (blk_set hb 0 v0) 1 v1) 2 v2) 3 v3) 4 v4) 5 v5
theorem PF.from {w W w3 : World} {pb B : Nat} (hg : w.grownBy W (some pb)) (hf : PF pb B W w3) (hB : w.heap.size ≤ B) : w.grownBy w3 (some pb) :=
  ⟨hf.os.trans hg.os, hf.tape.trans hg.tape, hf.output.trans hg.output, Nat.le_trans hg.size hf.size, fun k hk hne => (hf.keep k (Nat.lt_of_lt_of_le hk hg.size) (fun e => hne (by rw [e])) (Or.inl (by omega))).trans (hg.block k hk hne)⟩
theorem ruleRead_form {l : List Tk} (h : ¬ (headK l = 2 ∧ headK l.tail = 18)) : ruleRead l = (match pf (6 * l.length + 5) 0 .nil l with | .error q => .error q | .ok (f, l1) => .ok (⟨0, false, tk0, [], 0, f⟩, l1)) := by
  unfold ruleRead; rw [if_neg h]
  cases pf (6 * l.length + 5) 0 .nil l <;> rfl
structure RuMid (L : List Tk) (pb g cap : Nat) (w wc : World) (rb vb : Nat) (t : Tk) (x : Except Nat (Rl × List Tk)) : Prop where
  gr : w.grownBy wc (some pb)
  rbx : wc.heap[rb]? = some (rbl tk0 none none 0 0 none)
  ex : ∃ fp no nn nc cp B j b q NM, wc.heap[vb]? = some (rbl t fp no nn nc cp) ∧ PP wc pb g cap B L j b q NM ∧
    ((b = false ∧ q = 0 ∧ ∃ rl, x = .ok (rl, PL L j) ∧ RsIs wc rl fp no nn nc cp) ∨ (b = true ∧ j = L.length - 1 ∧ x = .error q))
set_option maxHeartbeats 4000000 in
set_option maxRecDepth 100000 in
theorem prule_any (w : World) (pb g cap B : Nat) (L : List Tk) (i : Nat) (NM : List Tk) (t : Tk) (r : List Tk) (h : PP w pb g cap B L i false 0 NM) (ht : PL L i = t :: r) (hk : t.k = 5) :
    Calls Tryz.prog 144 #[.pointer (some ⟨pb, 0, none⟩)] w fun e w' => RuPost L pb g cap w w' t e (ruleRead r) := by
  have hp0 := h.pLt
  have hr := PL_next ht (by omega)
  have hlt1 := h.fe.nextLt ht (by omega)
  obtain ⟨t1, r1, ht1⟩ := PL_some h.fe hlt1
  have hr1 : r = t1 :: r1 := by rw [← hr]; exact ht1
  have HP := hide h
  have HT := hide ht
  have HT1 := hide ht1
  have HK := hide hk
  have HR := hide hr
  have HR1 := hide hr1
  clear h ht hk ht1 hr hr1
  go_enter Tryz.func144, Tryz.ntmps144
  go_wp2_with fail
  refine (ptake_yes 5 _ _ _ _ _ _ _ _ _ _ _ _ ((unhide HP).alloc _) (unhide HT) (unhide HK) (by decide)).mono ?_
  rintro e w1 ⟨rfl, hm1⟩
  have HM1 := hide (((Mv.refl w pb g cap L.length i false 0).alloc _).trans hm1)
  have HP1 := hide (((unhide HP).alloc _).step hm1 (unhide HT) (by have := unhide HK; omega))
  have hrb1 : w1.heap[w.heap.size]? = some (rbl tk0 none none 0 0 none) := (hm1.gr.block w.heap.size (by simp) (by simp; omega)).trans (blk_alloc _ _)
  have HRB1 := hide hrb1
  have hz1 : w.heap.size < w1.heap.size := lt_of_blk hrb1
  clear hm1 hrb1
  simp only [tkP]
  go_upto_region 2 with fail
  obtain ⟨cc, hcc⟩ : ∃ cc, cc = decide (headK r = 2 ∧ headK r.tail = 18) := ⟨_, rfl⟩
  have HCC := hide hcc
  clear hcc
  go_cut [19] (fun c wc => c = .bool cc ∧ wc = w1.alloc (.cells #[.int .i64 t.k, .string t.s, .int .i64 t.p, .pointer none, .slice none 0 0, .pointer none] 189))
  case first =>
    obtain ⟨no, nn, nc, hb1, _⟩ := (unhide HP1).blk
    have bc := fun o => cell_of_blk hb1 o
    have hpb1 := (unhide HP1).pLt
    have hg1 := (unhide HP1).gLt
    have hlen := (unhide HP1).len
    clear hb1
    by_cases hn : t1.k = 2
    · have hlt2 := (unhide HP).fe.nextLt (unhide HT1) (by omega)
      have hnn := PL_next (unhide HT1) (by omega)
      obtain ⟨u, r2, hu⟩ := PL_some (unhide HP).fe hlt2
      have hr2 : r1 = u :: r2 := by rw [← hnn]; exact hu
      obtain ⟨r3, hr3⟩ := PL_head hu
      obtain ⟨c0, c1, c2⟩ := row_tok (unhide HP1).row hr3
      have e2 : ((t1.k : Int) == 2) = true := beqT (c := 2) hn
      have c0' : w1.cell? ⟨g, (i + 1) * 3 + 3, none⟩ = some (.int .i64 u.k) := by rw [← c0]; congr 2; omega
      have hh : headK r = 2 := by rw [unhide HR1]; exact hn
      have hh2 : headK r.tail = u.k := by rw [unhide HR1, hr2]; rfl
      have HH := hide hh
      have HH2 := hide hh2
      clear hn hnn hu hr2 hr3 hh hh2 c0 c1 c2
      go_wp2_with (go_at_call 143; refine (pnext_any _ _ _ _ _ _ _ _ _ _ _ _ ((unhide HP1).alloc _) (unhide HT1)).mono ?_; rintro e w' ⟨rfl, rfl⟩)
      go_meet
      refine ⟨?_, rfl⟩
      congr 1
      rw [unhide HCC, unhide HH, unhide HH2]
      simp only [true_and]
      rw [Bool.eq_iff_iff]
      simp
      omega
    · have e2 : ((t1.k : Int) == 2) = false := beqF (c := 2) hn
      have hh : ¬ headK r = 2 := by rw [unhide HR1]; exact hn
      have HH := hide hh
      clear hn hh
      go_wp2_with (go_at_call 143; refine (pnext_any _ _ _ _ _ _ _ _ _ _ _ _ ((unhide HP1).alloc _) (unhide HT1)).mono ?_; rintro e w' ⟨rfl, rfl⟩)
      go_meet
      exact ⟨by rw [unhide HCC, decide_eq_false (fun e => unhide HH e.1)], rfl⟩
  case rest =>
    obtain ⟨rfl, rfl⟩ := hcut
    go_upto_if 19 with fail
    go_cut [] (fun wc => RuMid L pb g cap w wc w.heap.size w1.heap.size t (ruleRead r))
    case first =>
      by_cases hcall : headK r = 2 ∧ headK r.tail = 18
      · have hd : cc = true := (unhide HCC).trans (decide_eq_true hcall)
        subst hd
        obtain ⟨u, v, r2, hr2, hku⟩ : ∃ u v r2, r = t1 :: u :: v :: r2 ∧ u.k = 18 := by
          have hen := PL_ends (unhide HP).fe hlt1
          rw [unhide HT1] at hen
          have h1 : t1.k = 2 := by have := hcall.1; rw [unhide HR1] at this; exact this
          obtain ⟨u, r2, hr2⟩ := Ends.more hen (by omega)
          subst hr2
          have h2 : u.k = 18 := by have := hcall.2; rw [unhide HR1] at this; exact this
          obtain ⟨v, r3, hr3⟩ := Ends.more (hen.tail (by omega)) (by omega)
          subst hr3
          exact ⟨u, v, r3, unhide HR1, h2⟩
        have hk1 : t1.k = 2 := by have := hcall.1; rw [unhide HR1] at this; exact this
        have hpl : PL L (i + 1) = t1 :: u :: v :: r2 := by rw [unhide HR]; exact hr2
        have HPL := hide hpl
        have HK1 := hide hk1
        have HKU := hide hku
        clear hcall hr2 hku hpl hk1
        go_wp2_with fail
        refine (pcall_any _ pb g cap B L (i + 1) NM t1 u v r2 ((unhide HP1).alloc _) (unhide HPL) (unhide HK1) (unhide HKU)).mono ?_
        rintro e w2 ⟨cb, args, x, j, b, q, rfl, hcbw, ⟨ao, an, ac, hcb, hown⟩, hm2, hout⟩
        have hvb2 : w2.heap[w1.heap.size]? = some (rbl t none none 0 0 none) := (hm2.gr.block w1.heap.size (by simp) (by have := (unhide HP1).pLt; simp; omega)).trans (blk_alloc _ _)
        have hrb2 : w2.heap[w.heap.size]? = some (rbl tk0 none none 0 0 none) := (hm2.gr.block w.heap.size (by simp; omega) (by simp; omega)).trans ((Below.heap_alloc _ _ _ hz1).trans (unhide HRB1))
        have HM2 := hide hm2
        have HVB2 := hide hvb2
        have HRB2 := hide hrb2
        have HCB := hide hcb
        have HOWN := hide hown
        have HOUT := hide hout
        unfold rbl at hvb2
        have vc := fun o => cell_of_blk hvb2 o
        have vf := fun o => frozen_of_blk hvb2 o
        have hvl : w1.heap.size < w2.heap.size := lt_of_blk hvb2
        clear hm2 hvb2 hrb2 hcb hown hout
        go_wp2_with fail
        go_meet
        have hj : j < L.length := by
          rcases unhide HOUT with ⟨_, _, h, _⟩ | ⟨_, h, _⟩
          · exact h.1
          · omega
        have hcbv : cb ≠ w1.heap.size := by simp at hcbw; omega
        have hgr : w1.grownBy w2 (some pb) := (((Mv.refl w1 pb g cap L.length (i + 1) false 0).alloc _).trans (unhide HM2)).gr
        have hkq : KQ w2 (w2.setCell ⟨w1.heap.size, 5, none⟩ (.pointer (some ⟨cb, 0, none⟩))) := KQ.set (unhide HVB2) (by decide) (by decide) (by decide) _ _
        refine ⟨grown_setNew ((unhide HM1).gr.trans hgr) (by omega) _ _, (Below.heap_setCell _ _ _ _ (by show w.heap.size ≠ w1.heap.size; omega)).trans (unhide HRB2), none, none, 0, 0, some ⟨cb, 0, none⟩, B, j, b, q, NM, blk_set (unhide HVB2) 5 _, ?_, ?_⟩
        · refine ((unhide HP1).move (((Mv.refl w1 pb g cap L.length (i + 1) false 0).alloc _).trans (unhide HM2)) hj ?_).setTy (unhide HVB2) (by decide) (by decide) _ _
          intro e
          rcases unhide HOUT with ⟨_, _, h, _⟩ | ⟨h, _, _⟩
          · have h1 := (unhide HP1).nm rfl
            omega
          · rw [h] at e; cases e
        · rcases unhide HOUT with ⟨h1, h2, _, h4⟩ | ⟨h1, h2, h3⟩
          · refine Or.inl ⟨h1, h2, _, by rw [← unhide HR]; exact h4, ?_⟩
            refine RsIs.keep hkq ?_
            unfold RsIs
            rw [if_pos rfl]
            exact ⟨⟨cb, ao, an, ac, x, rfl, unhide HCB, rfl, owns_mono (unhide HOWN) (Nat.zero_le _)⟩, rfl, rfl, rfl, rfl⟩
          · exact Or.inr ⟨h1, h2, by rw [← unhide HR]; exact h3⟩
      · have hd : cc = false := (unhide HCC).trans (decide_eq_false hcall)
        subst hd
        have HRR := hide (ruleRead_form hcall)
        have hpc := (unhide HP1).clear.alloc (rbl t none none 0 0 none)
        have HPC := hide hpc
        obtain ⟨no1, nn1, nc1, hb1, _⟩ := (unhide HP1).blk
        have bc := fun o => cell_of_blk hb1 o
        have bf := fun o => frozen_of_blk hb1 o
        have hpb1 := (unhide HP1).pLt
        clear hcall hpc hb1
        go_wp2_with fail
        refine (pformula_any (6 * (PL L (i + 1)).length + 5) _ _ _ _ _ _ _ _ (unhide HPC) (Nat.le_refl _)).mono ?_
        rintro e w3 ⟨hf3, p3, rfl, hx3⟩
        rw [unhide HR] at hx3
        clear bc bf
        have hsz : (w1.setCell ⟨pb, 3, none⟩ (.slice none 0 0)).heap.size = w1.heap.size := by simp [World.setCell]
        have hvb3 : w3.heap[w1.heap.size]? = some (rbl t none none 0 0 none) := (hf3.keep w1.heap.size (by simp [World.setCell]) (by omega) (Or.inr (ty_ne (blk_alloc' _ (rbl t none none 0 0 none) _ hsz.symm) (by decide)))).trans (blk_alloc' _ _ _ hsz.symm)
        have hrb3 : w3.heap[w.heap.size]? = some (rbl tk0 none none 0 0 none) := (hf3.keep w.heap.size (by simp [World.setCell]; omega) (by omega) (Or.inl hz1)).trans ((Below.heap_alloc _ _ _ (by rw [hsz]; exact hz1)).trans ((Below.heap_setCell _ _ _ _ (by show w.heap.size ≠ pb; omega)).trans (unhide HRB1)))
        have hgr3 : w.grownBy w3 (some pb) := PF.from (grown_alloc ((unhide HM1).gr.trans (grown_set _ _ _ _)) _) hf3 (by omega)
        have hmid : ∃ j b q NM3, PP w3 pb g cap w1.heap.size L j b q NM3 ∧ ((b = false ∧ q = 0 ∧ ∃ f, ruleRead r = .ok (⟨0, false, tk0, [], 0, f⟩, PL L j) ∧ IsG w3 f p3 ∧ NM3 = lvs f) ∨ (b = true ∧ j = L.length - 1 ∧ ruleRead r = .error q)) := by
          rw [unhide HRR]
          cases hpf : pf (6 * r.length + 5) 0 .nil r with
          | error q =>
            rw [hpf] at hx3
            obtain ⟨NM3, hp3⟩ := hx3
            exact ⟨_, _, q, NM3, hp3, Or.inr ⟨rfl, rfl, rfl⟩⟩
          | ok x =>
            obtain ⟨f, l1⟩ := x
            rw [hpf] at hx3
            obtain ⟨hg3, j, hl3, hp3⟩ := hx3
            subst hl3
            exact ⟨j, false, 0, _, hp3, Or.inl ⟨rfl, rfl, f, rfl, hg3, rfl⟩⟩
        obtain ⟨j, b, q, NM3, hp3, hout⟩ := hmid
        obtain ⟨no, nn, nc, hb3, hown3⟩ := hp3.blk
        have bc := fun o => cell_of_blk hb3 o
        have hpb3 := hp3.pLt
        have HP3 := hide hp3
        have HOWN3 := hide hown3
        have HOUT := hide hout
        have HVB3 := hide hvb3
        have HRB3 := hide hrb3
        have HGR3 := hide hgr3
        unfold rbl at hvb3
        have vc := fun o => cell_of_blk hvb3 o
        have vf := fun o => frozen_of_blk hvb3 o
        have hvl : w1.heap.size < w3.heap.size := lt_of_blk hvb3
        have hnev : pb ≠ w1.heap.size := by omega
        clear hf3 hx3 hvb3 hrb3 hgr3 hout hp3 hb3 hown3 hsz
        go_wp2_with fail
        go_meet
        have hk1 := (KQ.set (unhide HVB3) (by decide) (by decide) (by decide) 3 (.pointer p3)).trans (KQ.set (blk_set (unhide HVB3) 3 (.pointer p3)) (by decide) (by decide) (by decide) 4 (.slice no nn nc))
        refine ⟨grown_setNew (grown_setNew (unhide HGR3) (by omega) _ _) (by omega) _ _, (Below.heap_setCell _ _ _ _ (by show w.heap.size ≠ w1.heap.size; omega)).trans ((Below.heap_setCell _ _ _ _ (by show w.heap.size ≠ w1.heap.size; omega)).trans (unhide HRB3)), p3, no, nn, nc, none, w1.heap.size, j, b, q, NM3, blk_set (blk_set (unhide HVB3) 3 _) 4 _, ?_, ?_⟩
        · exact ((unhide HP3).setTy (unhide HVB3) (by decide) (by decide) _ _).setTy (blk_set (unhide HVB3) 3 _) (by decide) (by decide) _ _
        · rcases unhide HOUT with ⟨h1, h2, f, h4, h5, h6⟩ | h
          · refine Or.inl ⟨h1, h2, _, h4, ?_⟩
            refine RsIs.keep hk1 ?_
            unfold RsIs
            rw [if_neg (by intro e; cases e)]
            subst h6
            exact ⟨rfl, h5, owns_mono (unhide HOWN3) (Nat.zero_le _)⟩
          · exact Or.inr h
    case rest =>
      obtain ⟨hgr, hrb, fp, no, nn, nc, cp, B2, j, b, q, NM2, hvb, hpp, hout⟩ := hcut
      obtain ⟨y, r5, hy⟩ := PL_some hpp.fe hpp.lt
      obtain ⟨j2, b2, q2, hs⟩ := Stp_ex (y.k = 21) y L.length j b q
      have HY := hide hy
      have HS := hide hs
      have HPP := hide hpp
      have HGR := hide hgr
      have HRB := hide hrb
      have HVB := hide hvb
      have HOUT := hide hout
      clear hy hs hpp hgr hrb hvb hout
      go_wp2_with fail
      refine (ptake_any 21 _ pb g cap B2 L j b q NM2 y r5 (unhide HPP) (unhide HY) (by decide) j2 b2 q2 (unhide HS)).mono ?_
      rintro e w4 ⟨rfl, hm4⟩
      have hvb4 := (hm4.gr.block w1.heap.size (lt_of_blk (unhide HVB)) (by have := (unhide HP1).pLt; simp; omega)).trans (unhide HVB)
      have hrb4 := (hm4.gr.block w.heap.size (lt_of_blk (unhide HRB)) (by simp; omega)).trans (unhide HRB)
      have HM4 := hide hm4
      have HVB4 := hide hvb4
      have HRB4 := hide hrb4
      unfold rbl at hvb4 hrb4
      unfold tk0 at hrb4
      have vc := fun o => cell_of_blk hvb4 o
      have rc := fun o => cell_of_blk hrb4 o
      have rf := fun o => frozen_of_blk hrb4 o
      have hvl : w1.heap.size < w4.heap.size := lt_of_blk hvb4
      have hrl : w.heap.size < w4.heap.size := lt_of_blk hrb4
      clear hm4 hvb4 hrb4
      simp only [tkP]
      go_wp2_with fail
      have hfin := blk_set6 (unhide HRB4) (.int .i64 t.k) (.string t.s) (.int .i64 t.p) (.pointer fp) (.slice no nn nc) (.pointer cp)
      have rc2 := fun o => cell_of_blk hfin o
      clear rc
      unfold set6 at rc2
      refine bodyPost_ret (v := .agg #[.int .i64 t.k, .string t.s, .int .i64 t.p, .pointer fp, .slice no nn nc, .pointer cp]) (by simp [results, Tryz.results144, go_sem, rc2]) rfl ?_
      have hpp4 := (unhide HPP).stp (unhide HY) (fun e => by omega) (unhide HS) (unhide HM4)
      have hpp5 := hpp4.set6 (unhide HRB4) (by decide) (by decide) (.int .i64 t.k) (.string t.s) (.int .i64 t.p) (.pointer fp) (.slice no nn nc) (.pointer cp)
      have hkq := ((unhide HPP).kq (unhide HM4).gr).trans (KQ.set6 (unhide HRB4) (by decide) (by decide) (by decide) (.int .i64 t.k) (.string t.s) (.int .i64 t.p) (.pointer fp) (.slice no nn nc) (.pointer cp))
      refine ⟨grown_set6 ((unhide HGR).trans (unhide HM4).gr) (Nat.le_refl _) _ _ _ _ _ _, fp, no, nn, nc, cp, rfl, ?_⟩
      have hyk : headK (PL L j) = y.k := by rw [unhide HY]; rfl
      have hyp : headP (PL L j) = y.p := by rw [unhide HY]; rfl
      rcases unhide HOUT with ⟨rfl, rfl, rl, hx, hrs⟩ | ⟨rfl, rfl, hx⟩
      · rcases unhide HS with ⟨hk, rfl, rfl, rfl⟩ | ⟨hk, rfl, rfl, rfl⟩
        · exact Or.inl ⟨rl, _, hx, by rw [hyk]; exact hk, hrs.keep hkq, B2, j + 1, NM2, by rw [unhide HY]; exact PL_next (unhide HY) (by omega), hpp5⟩
        · exact Or.inr (Or.inl ⟨rl, _, hx, by rw [hyk]; exact hk, B2, NM2, by rw [hyp]; exact hpp5⟩)
      · obtain ⟨e0, he0, hek⟩ := PL_last (unhide HPP).fe
        rw [unhide HY] at he0
        have hye : y = e0 := (List.cons.inj he0).1
        rcases unhide HS with ⟨hk, _⟩ | ⟨hk, rfl, rfl, rfl⟩
        · rw [hye] at hk; omega
        · exact Or.inr (Or.inr ⟨_, hx, B2, NM2, hpp5⟩)
theorem cut_len : ∀ l : List Tk, (cut l).length ≤ l.length
  | [] => Nat.le_refl _
  | t :: r => by
    rw [cut]
    split
    · simp
    · simp; exact cut_len r
theorem PL_len (L : List Tk) (i : Nat) : (PL L i).length ≤ L.length := by
  unfold PL; have := cut_len (L.drop i); rw [List.length_drop] at this; omega
def actsC (m : Nat) (A : List Tk) (l : List Tk) : Except Nat (List Tk × List Tk) := if headK l = 20 then plusA A (actsRead m l.tail) else .ok (A, l)
theorem actsRead_C (m : Nat) (v : Tk) (r : List Tk) (A : List Tk) (hv : v.k = 2) : plusA A (actsRead (m + 1) (v :: r)) = actsC m (A ++ [v]) r := by
  have h1 : headK (v :: r) = 2 := hv
  rw [actsRead, if_pos h1]
  unfold actsC
  by_cases h : headK r = 20
  · rw [if_pos (show headK (v :: r).tail = 20 from h), if_pos h]
    show plusA A (match actsRead m r.tail with | .error q => .error q | .ok (ts, l1) => .ok (v :: ts, l1)) = _
    cases actsRead m r.tail with
    | error q => rfl
    | ok x => show Except.ok _ = Except.ok _; simp
  · rw [if_neg (show ¬ headK (v :: r).tail = 20 from h), if_neg h]; rfl
theorem actsRead_E (m : Nat) (v : Tk) (r : List Tk) (A : List Tk) (hv : v.k ≠ 2) : plusA A (actsRead m (v :: r)) = .error v.p := by
  cases m with
  | zero => rfl
  | succ m => rw [actsRead, if_neg (show ¬ headK (v :: r) = 2 from hv)]; rfl
def ActsAt (L : List Tk) (m : Nat) (A : List Tk) (j : Nat) (b : Bool) (q : Nat) : Prop :=
  (b = false ∧ q = 0 ∧ A.length + (PL L j).length ≤ 401 ∧ (PL L j).length ≤ m ∧ actsX (PL L 0) = actsC m A (PL L j)) ∨ (b = true ∧ j = L.length - 1 ∧ actsX (PL L 0) = .error q)
theorem last_of {L : List Tk} (hfe : FE L) {y : Tk} {r : List Tk} (hy : PL L (L.length - 1) = y :: r) : y.k = 0 := by
  obtain ⟨e, he, hek⟩ := PL_last hfe
  rw [hy] at he
  rw [(List.cons.inj he).1]; exact hek
theorem acts_first {L : List Tk} (hfe : FE L) (hlen : L.length ≤ 401) {t v : Tk} {r r1 : List Tk} (ht : PL L 0 = t :: r) {j0 : Nat} {b0 : Bool} {q0 : Nat} (hs0 : Stp (t.k = 4) t L.length 0 false 0 j0 b0 q0) (hv : PL L j0 = v :: r1)
    {j1 : Nat} {b1 : Bool} {q1 : Nat} (hs1 : Stp (v.k = 2) v L.length j0 b0 q0 j1 b1 q1) : ActsAt L ((PL L 0).length - 1) [v] j1 b1 q1 := by
  have h0 := PL_len L 0
  rcases hs0 with ⟨h4, rfl, rfl, rfl⟩ | ⟨h4, rfl, rfl, rfl⟩
  · have hr : r = v :: r1 := by rw [← PL_next ht (by omega)]; exact hv
    subst hr
    have hx : actsX (PL L 0) = plusA [] (actsRead (r1.length + 1 + 1) (v :: r1)) := by
      unfold actsX
      rw [ht, if_pos (show headK (t :: v :: r1) = 4 from h4)]
      show actsRead (r1.length + 1 + 1) (v :: r1) = _
      cases actsRead (r1.length + 1 + 1) (v :: r1) <;> rfl
    rcases hs1 with ⟨hk, rfl, rfl, rfl⟩ | ⟨hk, rfl, rfl, rfl⟩
    · have hr1 := PL_next hv (by omega)
      refine Or.inl ⟨rfl, rfl, ?_, ?_, ?_⟩
      · rw [hr1]; rw [ht] at h0; simp at h0 ⊢; omega
      · rw [hr1, ht]; simp
      · rw [hx, ht, hr1]
        show _ = actsC (r1.length + 1) [v] r1
        rw [actsRead_C _ _ _ _ hk]; rfl
    · exact Or.inr ⟨rfl, rfl, by rw [hx, actsRead_E _ _ _ _ hk]; rfl⟩
  · have := last_of hfe hv
    rcases hs1 with ⟨hk, _⟩ | ⟨hk, rfl, rfl, rfl⟩
    · omega
    · refine Or.inr ⟨rfl, rfl, ?_⟩
      unfold actsX
      rw [ht, if_neg (show ¬ headK (t :: r) = 4 from h4)]; rfl
theorem acts_round {L : List Tk} (hfe : FE L) {m : Nat} {A : List Tk} {j : Nat} {b : Bool} {q : Nat} (h : ActsAt L m A j b q) {y v : Tk} {r r1 : List Tk} (hy : PL L j = y :: r) (h20 : y.k = 20) (hv : PL L (j + 1) = v :: r1)
    {j2 : Nat} {b2 : Bool} {q2 : Nat} (hs : Stp (v.k = 2) v L.length (j + 1) b q j2 b2 q2) : 1 ≤ m ∧ A.length ≤ 400 ∧ ActsAt L (m - 1) (A ++ [v]) j2 b2 q2 := by
  rcases h with ⟨rfl, rfl, h3, h4, h5⟩ | ⟨rfl, rfl, _⟩
  · have hr : r = v :: r1 := by rw [← PL_next hy (by omega)]; exact hv
    subst hr
    rw [hy] at h3 h4 h5
    simp at h3 h4
    obtain ⟨m', rfl⟩ : ∃ m', m = m' + 1 := ⟨m - 1, by omega⟩
    have hx : actsX (PL L 0) = plusA A (actsRead (m' + 1) (v :: r1)) := by
      rw [h5]; unfold actsC; rw [if_pos (show headK (y :: v :: r1) = 20 from h20)]; rfl
    refine ⟨by omega, by omega, ?_⟩
    rcases hs with ⟨hk, rfl, rfl, rfl⟩ | ⟨hk, rfl, rfl, rfl⟩
    · have hr1 := PL_next hv (by omega)
      refine Or.inl ⟨rfl, rfl, ?_, ?_, ?_⟩
      · rw [hr1]; simp; omega
      · rw [hr1]; simp; omega
      · rw [hx, hr1]
        exact actsRead_C _ _ _ _ hk
    · exact Or.inr ⟨rfl, rfl, by rw [hx, actsRead_E _ _ _ _ hk]; rfl⟩
  · have := last_of hfe hy; omega
theorem acts_end {L : List Tk} {m : Nat} {A : List Tk} {j : Nat} {b : Bool} {q : Nat} (h : ActsAt L m A j b q) {y : Tk} {r : List Tk} (hy : PL L j = y :: r) (h20 : y.k ≠ 20) :
    (b = false ∧ q = 0 ∧ A.length ≤ 401 ∧ actsX (PL L 0) = .ok (A, PL L j)) ∨ (b = true ∧ j = L.length - 1 ∧ actsX (PL L 0) = .error q) := by
  rcases h with ⟨h1, h2, h3, h4, h5⟩ | h
  · refine Or.inl ⟨h1, h2, by omega, ?_⟩
    rw [h5]; unfold actsC; rw [hy, if_neg (show ¬ headK (y :: r) = 20 from h20)]
  · exact Or.inr h
def ModAt (L : List Tk) (m : Nat) (al : List Tk) (rs : List Rl) (j : Nat) (b : Bool) (q : Nat) : Prop :=
  (b = false ∧ q = 0 ∧ rs.length + (PL L j).length ≤ 401 ∧ (PL L j).length ≤ m ∧ modelRead (PL L 0) = plusR al rs (rulesRead m (PL L j))) ∨ (b = true ∧ j = L.length - 1 ∧ modelRead (PL L 0) = .error q)
theorem mod_first {L : List Tk} (hfe : FE L) (hlen : L.length ≤ 401) {A : List Tk} {j : Nat} {b : Bool} {q : Nat} (h : (b = false ∧ q = 0 ∧ A.length ≤ 401 ∧ actsX (PL L 0) = .ok (A, PL L j)) ∨ (b = true ∧ j = L.length - 1 ∧ actsX (PL L 0) = .error q))
    {y : Tk} {r : List Tk} (hy : PL L j = y :: r) {j2 : Nat} {b2 : Bool} {q2 : Nat} (hs : Stp (y.k = 21) y L.length j b q j2 b2 q2) : ModAt L (PL L j).length A [] j2 b2 q2 := by
  have hl := PL_len L j2
  rcases h with ⟨rfl, rfl, _, h4⟩ | ⟨rfl, rfl, h3⟩
  · have hm : modelRead (PL L 0) = if headK (PL L j) = 21 then plusR A [] (rulesRead (PL L j).length (PL L j).tail) else .error (headP (PL L j)) := by rw [modelRead_eq, h4]
    rcases hs with ⟨hk, rfl, rfl, rfl⟩ | ⟨hk, rfl, rfl, rfl⟩
    · have hr := PL_next hy (by omega)
      refine Or.inl ⟨rfl, rfl, ?_, ?_, ?_⟩
      · simp; omega
      · rw [hr, hy]; simp
      · rw [hm, hr, hy, if_pos (show headK (y :: r) = 21 from hk)]; rfl
    · refine Or.inr ⟨rfl, rfl, ?_⟩
      rw [hm, hy, if_neg (show ¬ headK (y :: r) = 21 from hk)]; rfl
  · have := last_of hfe hy
    rcases hs with ⟨hk, _⟩ | ⟨hk, rfl, rfl, rfl⟩
    · omega
    · exact Or.inr ⟨rfl, rfl, by rw [modelRead_eq, h3]⟩
theorem rulesRead_5 (m : Nat) (t : Tk) (r : List Tk) (h5 : t.k = 5) : rulesRead (m + 1) (t :: r) = (match ruleRead r with
      | .error q => .error q
      | .ok (rl, l1) => if headK l1 = 21 then (match rulesRead m l1.tail with | .error q => .error q | .ok rs => .ok ({ rl with pl := t.p } :: rs)) else .error (headP l1)) := by
  rw [rulesRead, if_neg (show ¬ headK (t :: r) = 0 by show ¬ t.k = 0; omega), if_pos (show headK (t :: r) = 5 from h5)]
  simp only [List.tail_cons]
  cases ruleRead r with
  | error q => rfl
  | ok x => rfl
theorem mod_good {L : List Tk} {m : Nat} {al : List Tk} {rs : List Rl} {j : Nat} {b : Bool} {q : Nat} (hfe : FE L) (h : ModAt L m al rs j b q) {t : Tk} {r : List Tk} (ht : PL L j = t :: r) (h5 : t.k = 5) :
    b = false ∧ q = 0 ∧ rs.length ≤ 400 ∧ ∃ m', m = m' + 1 ∧ rs.length + r.length ≤ 400 ∧ r.length ≤ m' ∧ modelRead (PL L 0) = plusR al rs (rulesRead (m' + 1) (t :: r)) := by
  rcases h with ⟨rfl, rfl, h3, h4, h6⟩ | ⟨rfl, rfl, _⟩
  · rw [ht] at h3 h4 h6
    simp at h3 h4
    exact ⟨rfl, rfl, by omega, m - 1, by omega, by omega, by omega, by rw [h6]; congr 2; omega⟩
  · have := last_of hfe ht; omega
theorem mod_ok {L : List Tk} {m' : Nat} {al : List Tk} {rs : List Rl} {t : Tk} {r : List Tk} (h5 : t.k = 5) (hl : rs.length + r.length ≤ 400) (hl2 : r.length ≤ m') (h : modelRead (PL L 0) = plusR al rs (rulesRead (m' + 1) (t :: r)))
    {rl : Rl} {l1 : List Tk} (hr : ruleRead r = .ok (rl, l1)) (h21 : headK l1 = 21) {j2 : Nat} (hj : PL L j2 = l1.tail) : ModAt L m' al (rs ++ [{ rl with pl := t.p }]) j2 false 0 := by
  have hlen := ruleRead_len r rl l1 hr
  have hl1 : l1.tail.length + 1 = l1.length := headK_len (by omega)
  refine Or.inl ⟨rfl, rfl, ?_, ?_, ?_⟩
  · rw [hj]; simp; simp at hl1; omega
  · rw [hj]; omega
  · rw [h, rulesRead_5 _ _ _ h5, hr, hj]
    show plusR al rs (if headK l1 = 21 then _ else _) = _
    rw [if_pos h21]
    cases rulesRead m' l1.tail with
    | error q => rfl
    | ok x => show Except.ok _ = Except.ok _; simp
theorem mod_no {L : List Tk} {m' : Nat} {al : List Tk} {rs rs' : List Rl} {t : Tk} {r : List Tk} (h5 : t.k = 5) (h : modelRead (PL L 0) = plusR al rs (rulesRead (m' + 1) (t :: r)))
    {q : Nat} (hr : (∃ rl l1, ruleRead r = .ok (rl, l1) ∧ headK l1 ≠ 21 ∧ q = headP l1) ∨ ruleRead r = .error q) : ModAt L m' al rs' (L.length - 1) true q := by
  refine Or.inr ⟨rfl, rfl, ?_⟩
  rw [h, rulesRead_5 _ _ _ h5]
  rcases hr with ⟨rl, l1, hr, hk, rfl⟩ | hr
  · rw [hr]
    show plusR al rs (if headK l1 = 21 then _ else _) = _
    rw [if_neg hk]; rfl
  · rw [hr]; rfl
theorem mod_end {L : List Tk} (hfe : FE L) {m : Nat} {al : List Tk} {rs : List Rl} {j : Nat} {b : Bool} {q : Nat} (h : ModAt L m al rs j b q) {t : Tk} {r : List Tk} (ht : PL L j = t :: r) (h5 : t.k ≠ 5) :
    (t.k = 0 ∧ b = false ∧ modelRead (PL L 0) = .ok (al, rs)) ∨ (t.k ≠ 0 ∧ b = false ∧ q = 0 ∧ modelRead (PL L 0) = .error t.p) ∨ (t.k = 0 ∧ b = true ∧ modelRead (PL L 0) = .error q) := by
  rcases h with ⟨rfl, rfl, h3, h4, h6⟩ | ⟨rfl, rfl, h3⟩
  · rw [ht] at h4 h6
    obtain ⟨m', rfl⟩ : ∃ m', m = m' + 1 := ⟨m - 1, by simp at h4; omega⟩
    by_cases h0 : t.k = 0
    · refine Or.inl ⟨h0, rfl, ?_⟩
      rw [h6, rulesRead, if_pos (show headK (t :: r) = 0 from h0)]
      simp [plusR]
    · refine Or.inr (Or.inl ⟨h0, rfl, rfl, ?_⟩)
      rw [h6, rulesRead, if_neg (show ¬ headK (t :: r) = 0 from h0), if_neg (show ¬ headK (t :: r) = 5 from h5)]; rfl
  · exact Or.inr (Or.inr ⟨last_of hfe ht, rfl, h3⟩)
def RulesP (w : World) : List Rl → List Value → Prop
  | [], cs => cs = []
  | r :: rs, cs => ∃ k s fp no nn nc cp rest, cs = .int .i64 k :: .string s :: .int .i64 r.pl :: .pointer fp :: .slice no nn nc :: .pointer cp :: rest ∧ RsIs w r fp no nn nc cp ∧ RulesP w rs rest
theorem RulesP.keep {w w' : World} (h : KQ w w') : ∀ {rs : List Rl} {cs : List Value}, RulesP w rs cs → RulesP w' rs cs
  | [], _, h1 => h1
  | _ :: _, _, ⟨k, s, fp, no, nn, nc, cp, rest, e, hr, hrs⟩ => ⟨k, s, fp, no, nn, nc, cp, rest, e, hr.keep h, RulesP.keep h hrs⟩
theorem RulesP.snoc {w : World} : ∀ {rs : List Rl} {cs : List Value} {r : Rl} {k : Int} {s : ByteArray} {fp no : Option Addr} {nn nc : Nat} {cp : Option Addr}, RulesP w rs cs → RsIs w r fp no nn nc cp →
    RulesP w (rs ++ [r]) (cs ++ [.int .i64 k, .string s, .int .i64 r.pl, .pointer fp, .slice no nn nc, .pointer cp])
  | [], _, _, k, s, fp, no, nn, nc, cp, h, hr => by cases h; exact ⟨k, s, fp, no, nn, nc, cp, [], rfl, hr, rfl⟩
  | _ :: _, _, r, k', s', fp', no', nn', nc', cp', ⟨k, s, fp, no, nn, nc, cp, rest, e, h1, h2⟩, hr => ⟨k, s, fp, no, nn, nc, cp, rest ++ [.int .i64 k', .string s', .int .i64 r.pl, .pointer fp', .slice no' nn' nc', .pointer cp'], by subst e; rfl, h1, RulesP.snoc h2 hr⟩
theorem RsIs.pl {w : World} {r : Rl} {fp no : Option Addr} {nn nc : Nat} {cp : Option Addr} (h : RsIs w r fp no nn nc cp) (p : Nat) : RsIs w { r with pl := p } fp no nn nc cp := h
def sbl (o1 : Option Addr) (n1 k1 : Nat) (o2 : Option Addr) (n2 k2 : Nat) : Obj := .cells #[.slice o1 n1 k1, .slice o2 n2 k2] 104 (0, 0)
structure MA (w wc : World) (pb g cap : Nat) (L A : List Tk) (j : Nat) (b : Bool) (q : Nat) : Prop where
  rbx : wc.heap[w.heap.size]? = some (sbl none 0 0 none 0 0)
  sbx : ∃ o1 n1 k1, wc.heap[w.heap.size + 1]? = some (sbl o1 n1 k1 none 0 0) ∧ wc.ownsRow w.heap.size 185 3 (.slice o1 n1 k1) A.length (tkCellsP A)
  mv : Mv w wc pb g cap L.length 0 false 0 j b q
  lt : j < L.length
structure MB (w wc : World) (pb g cap : Nat) (L al : List Tk) (rs : List Rl) (j : Nat) (b : Bool) (q : Nat) : Prop where
  rbx : wc.heap[w.heap.size]? = some (sbl none 0 0 none 0 0)
  sbx : ∃ o1 n1 k1 o2 n2 k2 nR cells, wc.heap[w.heap.size + 1]? = some (sbl o1 n1 k1 o2 n2 k2) ∧ wc.ownsRow w.heap.size 189 6 (.slice o2 n2 k2) nR cells ∧
    (b = false → wc.ownsRow w.heap.size 185 3 (.slice o1 n1 k1) al.length (tkCellsP al) ∧ nR = rs.length ∧ RulesP wc rs cells)
  gr : w.grownBy wc (some pb)
  pp : ∃ B NM, PP wc pb g cap B L j b q NM
def MoPost (L : List Tk) (pb g cap : Nat) (w w' : World) (e : Ending) : Prop :=
  w.grownBy w' (some pb) ∧ ∃ o1 n1 k1 o2 n2 k2 b q, e = .returned (.agg #[.slice o1 n1 k1, .slice o2 n2 k2]) ∧ (∃ B j NM, PP w' pb g cap B L j b q NM) ∧
    ((b = false ∧ ∃ al rs cells, modelRead (PL L 0) = .ok (al, rs) ∧ w'.ownsRow 0 185 3 (.slice o1 n1 k1) al.length (tkCellsP al) ∧ w'.ownsRow 0 189 6 (.slice o2 n2 k2) rs.length cells ∧ RulesP w' rs cells) ∨ (b = true ∧ modelRead (PL L 0) = .error q))
theorem Tryz.infoRs : (Tryz.prog.info? 189).map (fun i => (i.zero, i.size, i.bytes)) = some (some (.agg #[.int .i64 0, .string ⟨#[]⟩, .int .i64 0, .pointer none, .slice none 0 0, .pointer none]), 6, 72) := by kernel_rfl
theorem PP.row' {w w' : World} {pb g cap B : Nat} {L : List Tk} {i : Nat} {bad : Bool} {q : Nat} {NM : List Tk} (h : PP w pb g cap B L i bad q NM) {base n : Nat} {v : Value} {xs : List Value} (ho : w.ownsRow base 189 6 v n xs) (hg : w.grownBy w' v.ownBlock) : PP w' pb g cap B L i bad q NM := by
  obtain ⟨no, nn, nc, hb, hn⟩ := h.blk
  obtain ⟨cur, h3, h4⟩ := h.row
  refine ⟨⟨no, nn, nc, (hg.block pb (lt_of_blk hb) (fun e => own_ty ho e.symm hb (by decide))).trans hb, owns_keep hn hg ?_⟩, ⟨cur, (hg.block g (lt_of_blk h3) (fun e => own_ty ho e.symm h3 (by decide))).trans h3, h4⟩, h.le, h.capLe, h.len, h.lt, h.fe, h.ok, h.gB, h.pB, Nat.le_trans h.hB hg.size, h.nm⟩
  cases hob : (Value.slice no nn nc).ownBlock with
  | none => exact Or.inl rfl
  | some k =>
    refine Or.inr (fun e => ?_)
    obtain ⟨_, c, m, hk⟩ := own_is hn hob
    exact own_ty ho e.symm hk (by decide)
theorem KQ.row {w w' : World} {base n : Nat} {v : Value} {xs : List Value} (ho : w.ownsRow base 189 6 v n xs) (hg : w.grownBy w' v.ownBlock) : KQ w w' :=
  KQ.grown hg (fun k e => by
    obtain ⟨_, c, m, hk⟩ := own_is ho e
    exact ⟨ty_ne hk (by decide), ty_ne hk (by decide), ty_ne hk (by decide)⟩)
theorem grown_row {w w1 w2 : World} {pb : Nat} (h : w.grownBy w1 (some pb)) {row : Option Nat} (hg : w1.grownBy w2 row) (hr : ∀ k, row = some k → w.heap.size ≤ k) : w.grownBy w2 (some pb) :=
  ⟨hg.os.trans h.os, hg.tape.trans h.tape, hg.output.trans h.output, Nat.le_trans h.size hg.size, fun k hk hne => (hg.block k (Nat.lt_of_lt_of_le hk h.size) (fun e => by have := hr k e.symm; omega)).trans (h.block k hk hne)⟩
end Go.Proofs.YtekfjoapinolgaaGreatDoor
