/- Formulas of the program in memory; the program's makers of formulas; names kept by the parser. -/
import Derived.Test.YtoclbcffbhldmaaGreatDoorQ1
import Derived.Test.YtoclbcffbhldmaaGreatDoorOrd
import Derived.Deep.RegionHeld
import Derived.Deep.AppendLies
set_option linter.unusedSimpArgs false
namespace Go.Proofs.YtoclbcffbhldmaaGreatDoor
open Go.RowKit Go.Deep

/-- p leads to the formula f, in the program's memory. -/
def IsG (w : World) : Fm → Option Addr → Prop
  | .nil, p => p = none
  | .node _ _ a l r, p => ∃ b pl pr, p = some ⟨b, 0, none⟩ ∧ w.heap[b]? = some (.cells #[.int .i64 a.1, .string a.2.1, .pointer pl, .pointer pr] 259 (0, 0)) ∧ IsG w l pl ∧ IsG w r pr
theorem IsG.keep {w w' : World} (hk : ∀ (b : Nat) (c : Array Value) (m : Nat × Nat), w.heap[b]? = some (.cells c 259 m) → w'.heap[b]? = w.heap[b]?) : ∀ {f : Fm} {v : Option Addr}, IsG w f v → IsG w' f v
  | .nil, _, h => h
  | .node _ _ _ _ _, _, ⟨b, vl, vr, hv, hb, hl, hr'⟩ => ⟨b, vl, vr, hv, (hk b _ _ hb).trans hb, IsG.keep hk hl, IsG.keep hk hr'⟩
theorem IsG.later {w w' : World} (hb : Below w.heap.size w w') {f : Fm} {v : Option Addr} (hf : IsG w f v) : IsG w' f v :=
  hf.keep (fun b _ _ h => hb.block b (lt_of_blk h))

set_option maxHeartbeats 400000 in
theorem fTwo_any (k : Nat) (f g : Fm) (vf vg : Option Addr) (w : World) :
    Calls Tryz.prog 176 #[.int .i64 (k : Int), .pointer vf, .pointer vg] w fun e w' => ∃ v, e = .returned (.pointer v) ∧ (IsG w f vf → IsG w g vg → IsG w' (two k f g) v) ∧ Below w.heap.size w w' := by
  go_enter Tryz.func176, Tryz.ntmps176
  go_wp2_with fail
  go_ret
  have hb : Below w.heap.size w (w.alloc (.cells #[.int .i64 (k : Int), .string ⟨#[]⟩, .pointer vf, .pointer vg] 259)) := (Below.refl _ _).alloc (Nat.le_refl _) _
  exact ⟨_, rfl, fun hf hg => ⟨w.heap.size, vf, vg, rfl, blk_alloc _ _, hf.later hb, hg.later hb⟩, hb⟩
set_option maxHeartbeats 400000 in
theorem fOne_any (k : Nat) (f : Fm) (vf : Option Addr) (w : World) :
    Calls Tryz.prog 197 #[.int .i64 (k : Int), .pointer vf] w fun e w' => ∃ v, e = .returned (.pointer v) ∧ (IsG w f vf → IsG w' (one k f) v) ∧ Below w.heap.size w w' := by
  go_enter Tryz.func197, Tryz.ntmps197
  go_wp2_with fail
  go_ret
  have hb : Below w.heap.size w (w.alloc (.cells #[.int .i64 (k : Int), .string ⟨#[]⟩, .pointer vf, .pointer none] 259)) := (Below.refl _ _).alloc (Nat.le_refl _) _
  exact ⟨_, rfl, fun hf => ⟨w.heap.size, vf, none, rfl, blk_alloc _ _, hf.later hb, rfl⟩, hb⟩
set_option maxHeartbeats 400000 in
theorem fWord_any (k : Nat) (w : World) :
    Calls Tryz.prog 196 #[.int .i64 (k : Int)] w fun e w' => ∃ v, e = .returned (.pointer v) ∧ IsG w' (leaf k ByteArray.empty 0) v ∧ Below w.heap.size w w' := by
  go_enter Tryz.func196, Tryz.ntmps196
  go_wp2_with fail
  go_ret
  have hb : Below w.heap.size w (w.alloc (.cells #[.int .i64 (k : Int), .string ⟨#[]⟩, .pointer none, .pointer none] 259)) := (Below.refl _ _).alloc (Nat.le_refl _) _
  exact ⟨_, rfl, ⟨w.heap.size, none, none, rfl, blk_alloc _ _, rfl, rfl⟩, hb⟩
set_option maxHeartbeats 400000 in
theorem fActivity_any (s : ByteArray) (w : World) :
    Calls Tryz.prog 137 #[.string s] w fun e w' => ∃ v, e = .returned (.pointer v) ∧ (∀ p, IsG w' (leaf 0 s p) v) ∧ Below w.heap.size w w' := by
  go_enter Tryz.func137, Tryz.ntmps137
  go_wp2_with fail
  go_ret
  have hb : Below w.heap.size w (w.alloc (.cells #[.int .i64 0, .string s, .pointer none, .pointer none] 259)) := (Below.refl _ _).alloc (Nat.le_refl _) _
  exact ⟨_, rfl, fun _ => ⟨w.heap.size, none, none, rfl, blk_alloc _ _, rfl, rfl⟩, hb⟩

/-- What a reader of formulas may write: the parser's block, and rows of tokens from block B on. -/
structure PF (pb B : Nat) (w w' : World) : Prop where
  os : w'.os = w.os
  tape : w'.tape = w.tape
  output : w'.output = w.output
  size : w.heap.size ≤ w'.heap.size
  keep : ∀ k, k < w.heap.size → k ≠ pb → (k < B ∨ ¬ TyAt w k 201) → w'.heap[k]? = w.heap[k]?
theorem PF.refl (pb B : Nat) (w : World) : PF pb B w w := ⟨rfl, rfl, rfl, Nat.le_refl _, fun _ _ _ _ => rfl⟩
theorem PF.trans {pb B : Nat} {w w1 w2 : World} (h : PF pb B w w1) (h' : PF pb B w1 w2) : PF pb B w w2 :=
  ⟨h'.os.trans h.os, h'.tape.trans h.tape, h'.output.trans h.output, Nat.le_trans h.size h'.size, fun k hk hp hc => by
    have e := h.keep k hk hp hc
    refine (h'.keep k (Nat.lt_of_lt_of_le hk h.size) hp ?_).trans e
    rcases hc with hc | hc
    · exact Or.inl hc
    · refine Or.inr ?_
      rintro ⟨c, m, hh⟩
      exact hc ⟨c, m, by rw [← e]; exact hh⟩⟩
theorem PF.grown {pb B : Nat} {w w' : World} (h : w.grownBy w' (some pb)) : PF pb B w w' := ⟨h.os, h.tape, h.output, h.size, fun k hk hp _ => h.block k hk (by intro e; cases e; exact hp rfl)⟩
theorem PF.below {pb B : Nat} {w w' : World} (h : Below w.heap.size w w') : PF pb B w w' := PF.grown (grown_below h _)
theorem own_is {w : World} {base e size n : Nat} {v : Value} {xs : List Value} (h : w.ownsRow base e size v n xs) {k : Nat} (hk : v.ownBlock = some k) : base ≤ k ∧ TyAt w k e := by
  obtain ⟨_, h2 | ⟨g, cap, cur, hv, hg, hh, _⟩⟩ := h
  · rw [h2.1] at hk; cases hk
  · rw [hv] at hk; cases hk; exact ⟨hg, cur, _, hh⟩
theorem PF.row {pb B : Nat} {w w' : World} {v : Value} {n : Nat} {xs : List Value} (hown : w.ownsRow B 201 3 v n xs) (h : w.grownBy w' v.ownBlock) : PF pb B w w' :=
  ⟨h.os, h.tape, h.output, h.size, fun k hk _ hc => h.block k hk (by
    intro e
    have := own_is hown e.symm
    rcases hc with hc | hc
    · omega
    · exact hc this.2)⟩
theorem PF.isG {w w' : World} {pb g cap B : Nat} {L : List Tk} {i : Nat} {bad : Bool} {q : Nat} {NM : List Tk} (hp : PP w pb g cap B L i bad q NM) (h : PF pb B w w') {f : Fm} {v : Option Addr} (hf : IsG w f v) : IsG w' f v :=
  hf.keep (fun b c m hb => h.keep b (lt_of_blk hb) (by
    rintro rfl
    obtain ⟨_, _, _, h1, _⟩ := hp.blk
    rw [h1] at hb; simp at hb) (Or.inr (by rintro ⟨c', m', h'⟩; rw [hb] at h'; simp at h')))
theorem PF.toGrown {pb : Nat} {w w' : World} {B : Nat} (h : PF pb B w w') (hB : w.heap.size ≤ B) : w.grownBy w' (some pb) :=
  ⟨h.os, h.tape, h.output, h.size, fun k hk hp => h.keep k hk (fun e => hp (by rw [e])) (Or.inl (by omega))⟩

set_option maxHeartbeats 2000000 in
set_option maxRecDepth 100000 in
theorem activity_of (w : World) (pb g cap B : Nat) (L : List Tk) (i : Nat) (NM : List Tk) (t : Tk) (h : PP w pb g cap B L i false 0 NM) (j : Nat) (bad' : Bool) (q' : Nat) (hj : j < L.length) (hn : bad' = false → NM.length + 1 ≤ j)
    (hT : Calls Tryz.prog 128 #[.pointer (some ⟨pb, 0, none⟩), .int .i64 2] w fun e w' => e = .returned (tkP t) ∧ Mv w w' pb g cap L.length i false 0 j bad' q') :
    Calls Tryz.prog 211 #[.pointer (some ⟨pb, 0, none⟩)] w fun e w' => ∃ p, e = .returned (.pointer p) ∧ IsG w' (leaf 0 t.s t.p) p ∧ PP w' pb g cap B L j bad' q' (NM ++ [t]) ∧ PF pb B w w' := by
  obtain ⟨i0, hi, hz0, hz1, hz2⟩ := info_parts Tryz.infoTokP
  have hnm : NM.length ≤ 401 := by have := h.nm rfl; have := h.lt; have := h.len; omega
  have HP := hide h
  have HT := hide hT
  clear h hT
  go_enter Tryz.func211, Tryz.ntmps211
  go_wp2_with fail
  refine (unhide HT).mono ?_
  rintro e w1 ⟨rfl, hm⟩
  have hp1 := (unhide HP).move hm hj (fun e => by have := hn e; omega)
  have hf1 : PF pb B w w1 := PF.grown hm.gr
  have HP1 := hide hp1
  have HF1 := hide hf1
  obtain ⟨no, nn, nc, h1, hown⟩ := hp1.blk
  have hpb := hp1.pLt
  have hBw := hp1.hB
  have hgB := hp1.gB
  have hpB := hp1.pB
  have bc := fun o => cell_of_blk h1 o
  have bf := fun o => frozen_of_blk h1 o
  have HO := hide hown
  have H1 := hide h1
  have hpn : (Value.slice no nn nc).ownBlock ≠ some pb := by intro e; have := own_is hown e; omega
  have hxn : (Value.slice no nn nc).ownBlock ≠ some w1.heap.size := by intro e; have := own_lt hown _ e; omega
  clear hp1 hf1 hm hown h1 HT
  simp only [tkP]
  go_wp2_with fail
  refine wp_region_held_drew (S := fun w' => w'.cell? ⟨w1.heap.size, 0, none⟩ = some (.int .i64 t.k) ∧ w'.cell? ⟨w1.heap.size, 1, none⟩ = some (.string t.s) ∧ w'.cell? ⟨w1.heap.size, 2, none⟩ = some (.int .i64 t.p)) (by kernel_rfl) ?_ (fun hHeld => ?_)
  · refine ⟨?_, ?_, ?_⟩ <;> simp
  refine wpAnyH_take (i := 0) (v := .pointer (some ⟨pb, 0, none⟩)) rfl (by kernel_rfl) (by kernel_rfl) (by kernel_rfl) (fun _ _ _ h => h) (Or.inl ⟨by kernel_rfl, fun w hw => by obtain ⟨s0, s1, s2⟩ := hw; go_simp⟩) hHeld ?_
  try simp only [Act.put, List.setIfInBounds_toArray, List.set_cons_zero, List.set_cons_succ, List.getElem_toArray, List.getElem_cons_succ, List.getElem_cons_zero]
  refine wpAnyH_take (i := 1) (v := .pointer (some ⟨pb, 0, none⟩)) rfl (by kernel_rfl) (by kernel_rfl) (by kernel_rfl) (fun _ _ _ h => h) (Or.inl ⟨by kernel_rfl, fun w hw => by obtain ⟨s0, s1, s2⟩ := hw; go_simp⟩) hHeld ?_
  try simp only [Act.put, List.setIfInBounds_toArray, List.set_cons_zero, List.set_cons_succ, List.getElem_toArray, List.getElem_cons_succ, List.getElem_cons_zero]
  refine wpAnyH_take (i := 2) (v := .pointer (some ⟨pb, 0, none⟩)) rfl (by kernel_rfl) (by kernel_rfl) (by kernel_rfl) (fun _ _ _ h => h) (Or.inl ⟨by kernel_rfl, fun w hw => by obtain ⟨s0, s1, s2⟩ := hw; go_simp⟩) hHeld ?_
  try simp only [Act.put, List.setIfInBounds_toArray, List.set_cons_zero, List.set_cons_succ, List.getElem_toArray, List.getElem_cons_succ, List.getElem_cons_zero]
  refine wpAnyH_take (i := 3) (v := .pointer (some ⟨pb, 3, none⟩)) rfl (by kernel_rfl) (by kernel_rfl) (by kernel_rfl) (fun _ _ _ h => h) (Or.inl ⟨by kernel_rfl, fun w hw => by obtain ⟨s0, s1, s2⟩ := hw; go_simp⟩) hHeld ?_
  try simp only [Act.put, List.setIfInBounds_toArray, List.set_cons_zero, List.set_cons_succ, List.getElem_toArray, List.getElem_cons_succ, List.getElem_cons_zero]
  refine wpAnyH_take (i := 5) (v := .agg #[.int .i64 t.k, .string t.s, .int .i64 t.p]) rfl (by kernel_rfl) (by kernel_rfl) (by kernel_rfl) (fun _ _ _ h => h) (Or.inl ⟨by kernel_rfl, fun w hw => by obtain ⟨s0, s1, s2⟩ := hw; go_simp⟩) hHeld ?_
  try simp only [Act.put, List.setIfInBounds_toArray, List.set_cons_zero, List.set_cons_succ, List.getElem_toArray, List.getElem_cons_succ, List.getElem_cons_zero]
  refine wpAnyH_ready (rs := [4, 6]) (by kernel_rfl) (by simp) ?_
  refine AllReadyH.cons rfl (fun K hK => ?_) (AllReadyH.cons rfl (fun K hK => ?_) AllReadyH.nil)
  · go_simp
    refine hK.out _ _ hHeld (fun hHeld => ?_)
    clear hK K
    refine wpAnyH_ready (rs := [6]) (by kernel_rfl) (by simp) ?_
    refine AllReadyH.cons rfl (fun K hK => ?_) AllReadyH.nil
    go_simp
    refine hK.out _ _ (by refine ⟨?_, ?_, ?_⟩ <;> simp) (fun hHeld => ?_)
    clear hK K
    refine wpAnyH_ready (rs := [7]) (by kernel_rfl) (by simp) ?_
    refine AllReadyH.cons rfl (fun K hK => ?_) AllReadyH.nil
    refine step_append_lies _ (by rfl) _ _ 143 (by rfl) B 201 i0 (.agg #[.int .i64 0, .string ⟨#[]⟩, .int .i64 0]) 3 32 Tryz.underlying143 hi hz0 hz1 hz2 rfl (by decide) (.slice no nn nc) NM.length (tkCellsP NM) (by rfl) ?c0 ⟨w1.heap.size + 1, 0, none⟩ 1 1 [.int .i64 t.k, .string t.s, .int .i64 t.p] (by rfl) rfl ?c1 ?c2 (by decide) ?c3 ?c4 ?c5 (w1.heap.size + 2) (by simp) ?_
    case c0 => exact owns_later (unhide HO) (((Below.refl _ _).alloc (Nat.le_refl _) _).alloc (by simp) _).drew
    case c1 =>
      intro j u hj
      match j, hj with
      | 0, hj => simp at hj; subst hj; simp [Addr.add]
      | 1, hj => simp at hj; subst hj; simp [Addr.add]
      | 2, hj => simp at hj; subst hj; simp [Addr.add]
      | j + 3, hj => simp at hj
    case c2 => intro u hu; simp at hu; rcases hu with rfl | rfl | rfl <;> rfl
    case c3 => unfold maxLen; omega
    case c4 => omega
    case c5 => simp; omega
    intro g2 cap2 w2 hown2 hgrow hat hlt2
    have hbx2 : w2.heap[w1.heap.size]? = some (.cells #[.int .i64 t.k, .string t.s, .int .i64 t.p] 201 (0, 0)) := (hgrow.block _ (by simp; omega) (fun e => hxn e.symm)).trans ((Below.heap_alloc _ _ _ (by simp)).trans (blk_alloc _ _))
    have hpb2 := (hgrow.block pb (by simp; omega) (fun e => hpn e.symm)).trans ((Below.heap_alloc _ _ _ (by simp; omega)).trans ((Below.heap_alloc _ _ _ hpb).trans (unhide H1)))
    have hz2 : w1.heap.size < w2.heap.size := lt_of_blk hbx2
    have hzp2 : pb < w2.heap.size := lt_of_blk hpb2
    have hs2 : w2.cell? ⟨w1.heap.size, 0, none⟩ = some (.int .i64 t.k) ∧ w2.cell? ⟨w1.heap.size, 1, none⟩ = some (.string t.s) ∧ w2.cell? ⟨w1.heap.size, 2, none⟩ = some (.int .i64 t.p) := ⟨cell_of_blk hbx2 0, cell_of_blk hbx2 1, cell_of_blk hbx2 2⟩
    refine hK.out _ _ hs2 (fun hHeld => ?_)
    clear hK K bc bf
    have bc := fun o => cell_of_blk hpb2 o
    have bf := fun o => frozen_of_blk hpb2 o
    have HX2 := hide hbx2
    have HB2 := hide hpb2
    have HF2 := hide (((unhide HF1).trans (PF.below (pb := pb) (B := B) (((Below.refl w1.heap.size w1).alloc (Nat.le_refl _) (.cells #[.int .i64 t.k, .string t.s, .int .i64 t.p] 201)).alloc (by simp) (.cells #[.int .i64 t.k, .string t.s, .int .i64 t.p] 201)).drew)).trans (PF.row (owns_later (unhide HO) (((Below.refl _ _).alloc (Nat.le_refl _) _).alloc (by simp) _).drew) hgrow))
    have HOW := hide hown2
    have hrow2 : ∃ cur, w2.heap[g]? = some (.cells cur 201 (0, 0)) ∧ cur.toList.take (L.length * 3) = tkCellsP L := by
      obtain ⟨cur, h3, h4⟩ := (unhide HP1).row
      exact ⟨cur, (hgrow.block g (by have := lt_of_blk h3; simp; omega) (by intro e; have := own_is (unhide HO) e.symm; omega)).trans ((Below.heap_alloc _ _ _ (by have := lt_of_blk h3; simp; omega)).trans ((Below.heap_alloc _ _ _ (lt_of_blk h3)).trans h3)), h4⟩
    have HROW := hide hrow2
    have hg2n : g2 ≠ pb := by
      rintro rfl
      rcases hat with e | e
      · exact hpn e
      · omega
    clear hgrow hbx2 hpb2 hown2 hrow2 hs2
    refine wpAnyH_take (i := 8) (v := .pointer (some ⟨pb, 0, none⟩)) rfl (by kernel_rfl) (by kernel_rfl) (by kernel_rfl) (fun _ _ _ h => h) (Or.inl ⟨by kernel_rfl, fun w hw => by obtain ⟨s0, s1, s2⟩ := hw; go_simp⟩) hHeld ?_
    try simp only [Act.put, List.setIfInBounds_toArray, List.set_cons_zero, List.set_cons_succ, List.getElem_toArray, List.getElem_cons_succ, List.getElem_cons_zero]
    refine wpAnyH_take (i := 9) (v := .pointer (some ⟨pb, 3, none⟩)) rfl (by kernel_rfl) (by kernel_rfl) (by kernel_rfl) (fun _ _ _ h => h) (Or.inl ⟨by kernel_rfl, fun w hw => by obtain ⟨s0, s1, s2⟩ := hw; go_simp⟩) hHeld ?_
    try simp only [Act.put, List.setIfInBounds_toArray, List.set_cons_zero, List.set_cons_succ, List.getElem_toArray, List.getElem_cons_succ, List.getElem_cons_zero]
    refine wpAnyH_ready (rs := [10]) (by kernel_rfl) (by simp) ?_
    refine AllReadyH.cons rfl (fun K hK => ?_) AllReadyH.nil
    go_simp
    refine hK.out _ _ (by obtain ⟨s0, s1, s2⟩ := hHeld; refine ⟨?_, ?_, ?_⟩ <;> (rw [World.cell?_setCell_far _ _ _ _ (by show pb ≠ w1.heap.size; omega)]; assumption)) (fun hHeld => ?_)
    clear hK K
    refine wpAnyH_done (by kernel_rfl) ?_ _
    obtain ⟨s0, s1, s2⟩ := hHeld
    clear bc bf
    go_wp2_with fail
    refine (fActivity_any t.s _).mono ?_
    rintro e w4 ⟨v, rfl, hv, hb4⟩
    have HV := hide hv
    have HB4 := hide hb4
    clear hv hb4
    go_wp2_with fail
    go_ret
    have hPP3 : PP (w2.setCell ⟨pb, 3, none⟩ (.slice (some ⟨g2, 0, none⟩) (NM.length + 1) cap2)) pb g cap B L j bad' q' (NM ++ [t]) := by
      obtain ⟨cur, h3, h4⟩ := unhide HROW
      refine ⟨⟨some ⟨g2, 0, none⟩, NM.length + 1, cap2, blk_set (unhide HB2) 3 _, ?_⟩, ⟨cur, (Below.heap_setCell _ _ _ _ (by show g ≠ pb; exact (unhide HP1).ne)).trans h3, h4⟩, (unhide HP1).le, (unhide HP1).capLe, (unhide HP1).len, (unhide HP1).lt, (unhide HP1).fe, (unhide HP1).ok, hgB, hpB, by simp [World.setCell]; omega, fun e => by simp; exact hn e⟩
      rw [tkCellsP_snoc, List.length_append]
      exact owns_keep (unhide HOW) (grown_set _ _ _ _) (Or.inr (by intro e; cases e; exact hg2n rfl))
    have hF3 : PF pb B w (w2.setCell ⟨pb, 3, none⟩ (.slice (some ⟨g2, 0, none⟩) (NM.length + 1) cap2)) := (unhide HF2).trans (PF.grown (grown_set _ _ _ _))
    exact ⟨v, rfl, unhide HV t.p, hPP3.later (unhide HB4), hF3.trans (PF.below (unhide HB4))⟩
  · go_simp
    refine hK.out _ _ (by refine ⟨?_, ?_, ?_⟩ <;> simp) (fun hHeld => ?_)
    clear hK K
    refine wpAnyH_ready (rs := [4]) (by kernel_rfl) (by simp) ?_
    refine AllReadyH.cons rfl (fun K hK => ?_) AllReadyH.nil
    go_simp
    refine hK.out _ _ hHeld (fun hHeld => ?_)
    clear hK K
    refine wpAnyH_ready (rs := [7]) (by kernel_rfl) (by simp) ?_
    refine AllReadyH.cons rfl (fun K hK => ?_) AllReadyH.nil
    refine step_append_lies _ (by rfl) _ _ 143 (by rfl) B 201 i0 (.agg #[.int .i64 0, .string ⟨#[]⟩, .int .i64 0]) 3 32 Tryz.underlying143 hi hz0 hz1 hz2 rfl (by decide) (.slice no nn nc) NM.length (tkCellsP NM) (by rfl) ?c0 ⟨w1.heap.size + 1, 0, none⟩ 1 1 [.int .i64 t.k, .string t.s, .int .i64 t.p] (by rfl) rfl ?c1 ?c2 (by decide) ?c3 ?c4 ?c5 (w1.heap.size + 2) (by simp) ?_
    case c0 => exact owns_later (unhide HO) (((Below.refl _ _).alloc (Nat.le_refl _) _).alloc (by simp) _).drew
    case c1 =>
      intro j u hj
      match j, hj with
      | 0, hj => simp at hj; subst hj; simp [Addr.add]
      | 1, hj => simp at hj; subst hj; simp [Addr.add]
      | 2, hj => simp at hj; subst hj; simp [Addr.add]
      | j + 3, hj => simp at hj
    case c2 => intro u hu; simp at hu; rcases hu with rfl | rfl | rfl <;> rfl
    case c3 => unfold maxLen; omega
    case c4 => omega
    case c5 => simp; omega
    intro g2 cap2 w2 hown2 hgrow hat hlt2
    have hbx2 : w2.heap[w1.heap.size]? = some (.cells #[.int .i64 t.k, .string t.s, .int .i64 t.p] 201 (0, 0)) := (hgrow.block _ (by simp; omega) (fun e => hxn e.symm)).trans ((Below.heap_alloc _ _ _ (by simp)).trans (blk_alloc _ _))
    have hpb2 := (hgrow.block pb (by simp; omega) (fun e => hpn e.symm)).trans ((Below.heap_alloc _ _ _ (by simp; omega)).trans ((Below.heap_alloc _ _ _ hpb).trans (unhide H1)))
    have hz2 : w1.heap.size < w2.heap.size := lt_of_blk hbx2
    have hzp2 : pb < w2.heap.size := lt_of_blk hpb2
    have hs2 : w2.cell? ⟨w1.heap.size, 0, none⟩ = some (.int .i64 t.k) ∧ w2.cell? ⟨w1.heap.size, 1, none⟩ = some (.string t.s) ∧ w2.cell? ⟨w1.heap.size, 2, none⟩ = some (.int .i64 t.p) := ⟨cell_of_blk hbx2 0, cell_of_blk hbx2 1, cell_of_blk hbx2 2⟩
    refine hK.out _ _ hs2 (fun hHeld => ?_)
    clear hK K bc bf
    have bc := fun o => cell_of_blk hpb2 o
    have bf := fun o => frozen_of_blk hpb2 o
    have HX2 := hide hbx2
    have HB2 := hide hpb2
    have HF2 := hide (((unhide HF1).trans (PF.below (pb := pb) (B := B) (((Below.refl w1.heap.size w1).alloc (Nat.le_refl _) (.cells #[.int .i64 t.k, .string t.s, .int .i64 t.p] 201)).alloc (by simp) (.cells #[.int .i64 t.k, .string t.s, .int .i64 t.p] 201)).drew)).trans (PF.row (owns_later (unhide HO) (((Below.refl _ _).alloc (Nat.le_refl _) _).alloc (by simp) _).drew) hgrow))
    have HOW := hide hown2
    have hrow2 : ∃ cur, w2.heap[g]? = some (.cells cur 201 (0, 0)) ∧ cur.toList.take (L.length * 3) = tkCellsP L := by
      obtain ⟨cur, h3, h4⟩ := (unhide HP1).row
      exact ⟨cur, (hgrow.block g (by have := lt_of_blk h3; simp; omega) (by intro e; have := own_is (unhide HO) e.symm; omega)).trans ((Below.heap_alloc _ _ _ (by have := lt_of_blk h3; simp; omega)).trans ((Below.heap_alloc _ _ _ (lt_of_blk h3)).trans h3)), h4⟩
    have HROW := hide hrow2
    have hg2n : g2 ≠ pb := by
      rintro rfl
      rcases hat with e | e
      · exact hpn e
      · omega
    clear hgrow hbx2 hpb2 hown2 hrow2 hs2
    refine wpAnyH_take (i := 8) (v := .pointer (some ⟨pb, 0, none⟩)) rfl (by kernel_rfl) (by kernel_rfl) (by kernel_rfl) (fun _ _ _ h => h) (Or.inl ⟨by kernel_rfl, fun w hw => by obtain ⟨s0, s1, s2⟩ := hw; go_simp⟩) hHeld ?_
    try simp only [Act.put, List.setIfInBounds_toArray, List.set_cons_zero, List.set_cons_succ, List.getElem_toArray, List.getElem_cons_succ, List.getElem_cons_zero]
    refine wpAnyH_take (i := 9) (v := .pointer (some ⟨pb, 3, none⟩)) rfl (by kernel_rfl) (by kernel_rfl) (by kernel_rfl) (fun _ _ _ h => h) (Or.inl ⟨by kernel_rfl, fun w hw => by obtain ⟨s0, s1, s2⟩ := hw; go_simp⟩) hHeld ?_
    try simp only [Act.put, List.setIfInBounds_toArray, List.set_cons_zero, List.set_cons_succ, List.getElem_toArray, List.getElem_cons_succ, List.getElem_cons_zero]
    refine wpAnyH_ready (rs := [10]) (by kernel_rfl) (by simp) ?_
    refine AllReadyH.cons rfl (fun K hK => ?_) AllReadyH.nil
    go_simp
    refine hK.out _ _ (by obtain ⟨s0, s1, s2⟩ := hHeld; refine ⟨?_, ?_, ?_⟩ <;> (rw [World.cell?_setCell_far _ _ _ _ (by show pb ≠ w1.heap.size; omega)]; assumption)) (fun hHeld => ?_)
    clear hK K
    refine wpAnyH_done (by kernel_rfl) ?_ _
    obtain ⟨s0, s1, s2⟩ := hHeld
    clear bc bf
    go_wp2_with fail
    refine (fActivity_any t.s _).mono ?_
    rintro e w4 ⟨v, rfl, hv, hb4⟩
    have HV := hide hv
    have HB4 := hide hb4
    clear hv hb4
    go_wp2_with fail
    go_ret
    have hPP3 : PP (w2.setCell ⟨pb, 3, none⟩ (.slice (some ⟨g2, 0, none⟩) (NM.length + 1) cap2)) pb g cap B L j bad' q' (NM ++ [t]) := by
      obtain ⟨cur, h3, h4⟩ := unhide HROW
      refine ⟨⟨some ⟨g2, 0, none⟩, NM.length + 1, cap2, blk_set (unhide HB2) 3 _, ?_⟩, ⟨cur, (Below.heap_setCell _ _ _ _ (by show g ≠ pb; exact (unhide HP1).ne)).trans h3, h4⟩, (unhide HP1).le, (unhide HP1).capLe, (unhide HP1).len, (unhide HP1).lt, (unhide HP1).fe, (unhide HP1).ok, hgB, hpB, by simp [World.setCell]; omega, fun e => by simp; exact hn e⟩
      rw [tkCellsP_snoc, List.length_append]
      exact owns_keep (unhide HOW) (grown_set _ _ _ _) (Or.inr (by intro e; cases e; exact hg2n rfl))
    have hF3 : PF pb B w (w2.setCell ⟨pb, 3, none⟩ (.slice (some ⟨g2, 0, none⟩) (NM.length + 1) cap2)) := (unhide HF2).trans (PF.grown (grown_set _ _ _ _))
    exact ⟨v, rfl, unhide HV t.p, hPP3.later (unhide HB4), hF3.trans (PF.below (unhide HB4))⟩
end Go.Proofs.YtoclbcffbhldmaaGreatDoor
