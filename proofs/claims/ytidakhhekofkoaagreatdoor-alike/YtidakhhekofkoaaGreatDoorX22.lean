/- Formulas of the program in memory; the program's makers of formulas; names kept by the parser. -/
import Derived.Test.YtidakhhekofkoaaGreatDoorX20
import Derived.Deep.RegionHeld
import Derived.Deep.AppendLies
set_option linter.unusedSimpArgs false
open List renaming setIfInBounds_toArray → zA, set_cons_zero → zB, set_cons_succ → zC, getElem_toArray → zD, getElem_cons_succ → zE, getElem_cons_zero → zF
namespace Go.Proofs.YtidakhhekofkoaaGreatDoor
open Go.RowKit Go.Deep
def IsG (w : World) : Fm → Option Addr → Prop
 | .nil, p => p = none
 | .node _ _ a l r, p => ∃ b pl pr, p = some ⟨b, 0, none⟩ ∧ w.heap[b]? = some (.cells #[.int .i64 a.1, .string a.2.1, .pointer pl, .pointer pr] 270 (0, 0)) ∧ IsG w l pl ∧ IsG w r pr
theorem IsG.keep {w w' : World} (hk : ∀ (b : Nat) (c : Array Value) (m : Nat × Nat), w.heap[b]? = some (.cells c 270 m) → w'.heap[b]? = w.heap[b]?) : ∀ {f : Fm} {v : Option Addr}, IsG w f v → IsG w' f v
 | .nil, _, h => h
 | .node _ _ _ _ _, _, ⟨b, vl, vr, hv, hb, hl, hr'⟩ => ⟨b, vl, vr, hv, (hk b _ _ hb).trans hb, IsG.keep hk hl, IsG.keep hk hr'⟩
theorem IsG.later {w w' : World} (hb : Below w.heap.size w w') {f : Fm} {v : Option Addr} (hf : IsG w f v) : IsG w' f v :=
 hf.keep (fun b _ _ h => hb.block b (lt_of_blk h))
set_option maxHeartbeats 400000 in
theorem fTwo_any (k : Nat) (f g : Fm) (vf vg : Option Addr) (w : World) :
  Calls Tryz.prog 227 #[.int .i64 (k : Int), .pointer vf, .pointer vg] w fun e w' => ∃ v, e = .returned (.pointer v) ∧ (IsG w f vf → IsG w g vg → IsG w' (two k f g) v) ∧ Below w.heap.size w w' := by
 go_enter Tryz.func227, Tryz.ntmps227
 go_wp2_with fail
 go_ret
 have hb : Below w.heap.size w (w.alloc (.cells #[.int .i64 (k : Int), .string ⟨#[]⟩, .pointer vf, .pointer vg] 270)) := (Below.refl _ _).alloc (Nat.le_refl _) _
 exact ⟨_, rfl, fun hf hg => ⟨w.heap.size, vf, vg, rfl, blk_alloc _ _, hf.later hb, hg.later hb⟩, hb⟩
set_option maxHeartbeats 400000 in
theorem fOne_any (k : Nat) (f : Fm) (vf : Option Addr) (w : World) :
  Calls Tryz.prog 269 #[.int .i64 (k : Int), .pointer vf] w fun e w' => ∃ v, e = .returned (.pointer v) ∧ (IsG w f vf → IsG w' (one k f) v) ∧ Below w.heap.size w w' := by
 go_enter Tryz.func269, Tryz.ntmps269
 go_wp2_with fail
 go_ret
 have hb : Below w.heap.size w (w.alloc (.cells #[.int .i64 (k : Int), .string ⟨#[]⟩, .pointer vf, .pointer none] 270)) := (Below.refl _ _).alloc (Nat.le_refl _) _
 exact ⟨_, rfl, fun hf => ⟨w.heap.size, vf, none, rfl, blk_alloc _ _, hf.later hb, rfl⟩, hb⟩
set_option maxHeartbeats 400000 in
theorem fWord_any (k : Nat) (w : World) :
  Calls Tryz.prog 268 #[.int .i64 (k : Int)] w fun e w' => ∃ v, e = .returned (.pointer v) ∧ IsG w' (leaf k ByteArray.empty 0) v ∧ Below w.heap.size w w' := by
 go_enter Tryz.func268, Tryz.ntmps268
 go_wp2_with fail
 go_ret
 have hb : Below w.heap.size w (w.alloc (.cells #[.int .i64 (k : Int), .string ⟨#[]⟩, .pointer none, .pointer none] 270)) := (Below.refl _ _).alloc (Nat.le_refl _) _
 exact ⟨_, rfl, ⟨w.heap.size, none, none, rfl, blk_alloc _ _, rfl, rfl⟩, hb⟩
set_option maxHeartbeats 400000 in
theorem fActivity_any (s : ByteArray) (w : World) :
  Calls Tryz.prog 162 #[.string s] w fun e w' => ∃ v, e = .returned (.pointer v) ∧ (∀ p, IsG w' (leaf 0 s p) v) ∧ Below w.heap.size w w' := by
 go_enter Tryz.func162, Tryz.ntmps162
 go_wp2_with fail
 go_ret
 have hb : Below w.heap.size w (w.alloc (.cells #[.int .i64 0, .string s, .pointer none, .pointer none] 270)) := (Below.refl _ _).alloc (Nat.le_refl _) _
 exact ⟨_, rfl, fun _ => ⟨w.heap.size, none, none, rfl, blk_alloc _ _, rfl, rfl⟩, hb⟩
structure PF (pb B : Nat) (w w' : World) : Prop where
 os : w'.os = w.os
 tape : w'.tape = w.tape
 output : w'.output = w.output
 size : w.heap.size ≤ w'.heap.size
 keep : ∀ k, k < w.heap.size → k ≠ pb → (k < B ∨ ¬ TyAt w k 201) → w'.heap[k]? = w.heap[k]?
theorem PF.trans {pb B : Nat} {w w1 w2 : World} (h : PF pb B w w1) (h' : PF pb B w1 w2) : PF pb B w w2 :=
 ⟨h'.os.trans h.os, h'.tape.trans h.tape, h'.output.trans h.output, Nat.le_trans h.size h'.size, fun k hk hp hc => by
  have e := h.keep k hk hp hc
  refine (h'.keep k (Nat.lt_of_lt_of_le hk h.size) hp ?_).trans e
  rcases hc with hc | hc
  ·exact Or.inl hc
  ·refine Or.inr ?_
   rintro ⟨c, m, hh⟩
   exact hc ⟨c, m, by rw [← e]; exact hh⟩⟩
theorem PF.grown {pb B : Nat} {w w' : World} (h : w.grownBy w' (some pb)) : PF pb B w w' := ⟨h.os, h.tape, h.output, h.size, fun k hk hp _ => h.block k hk (by intro e; cases e; exact hp rfl)⟩
theorem PF.below {pb B : Nat} {w w' : World} (h : Below w.heap.size w w') : PF pb B w w' := PF.grown (grown_below h _)
theorem own_is {w : World} {base e size n : Nat} {v : Value} {xs : List Value} (h : w.ownsRow base e size v n xs) {k : Nat} (hk : v.ownBlock = some k) : base ≤ k ∧ TyAt w k e := by
 obtain ⟨_, h2 | ⟨g, cap, cur, hv, hg, hh, _⟩⟩ := h
 ·rw [h2.1] at hk; cases hk
 ·rw [hv] at hk; cases hk; exact ⟨hg, cur, _, hh⟩
theorem PF.row {pb B : Nat} {w w' : World} {v : Value} {n : Nat} {xs : List Value} (hown : w.ownsRow B 201 3 v n xs) (h : w.grownBy w' v.ownBlock) : PF pb B w w' :=
 ⟨h.os, h.tape, h.output, h.size, fun k hk _ hc => h.block k hk (by
  intro e
  have := own_is hown e.symm
  rcases hc with hc | hc
  ·omega
  ·exact hc this.2)⟩
theorem PF.isG {w w' : World} {pb g cap B : Nat} {L : List Tk} {i : Nat} {bad : Bool} {q : Nat} {NM : List Tk} (hp : PP w pb g cap B L i bad q NM) (h : PF pb B w w') {f : Fm} {v : Option Addr} (hf : IsG w f v) : IsG w' f v :=
 hf.keep (fun b c m hb => h.keep b (lt_of_blk hb) (by
  rintro rfl
  obtain ⟨_, _, _, h1, _⟩ := hp.blk
  rw [h1] at hb; simp at hb) (Or.inr (by rintro ⟨c', m', h'⟩; rw [hb] at h'; simp at h')))
set_option maxHeartbeats 2000000 in
set_option maxRecDepth 100000 in
theorem activity_of (w : World) (pb g cap B : Nat) (L : List Tk) (i : Nat) (NM : List Tk) (t : Tk) (h : PP w pb g cap B L i false 0 NM) (j : Nat) (bad' : Bool) (q' : Nat) (hj : j < L.length) (hn : bad' = false → NM.length + 1 ≤ j)
  (hT : Calls Tryz.prog 153 #[.pointer (some ⟨pb, 0, none⟩), .int .i64 2] w fun e w' => e = .returned (tkP t) ∧ Mv w w' pb g cap L.length i false 0 j bad' q') :
  Calls Tryz.prog 295 #[.pointer (some ⟨pb, 0, none⟩)] w fun e w' => ∃ p, e = .returned (.pointer p) ∧ IsG w' (leaf 0 t.s t.p) p ∧ PP w' pb g cap B L j bad' q' (NM ++ [t]) ∧ PF pb B w w' := by
 obtain ⟨i0, hi, hz0, hz1, hz2⟩ := info_parts Tryz.infoTokP
 have hnm : NM.length ≤ 401 := by have := h.nm rfl; have := h.lt; have := h.len; omega
 have HP := hide h
 have HT := hide hT
 clear h hT
 go_enter Tryz.func295, Tryz.ntmps295
 go_wp2_with fail
 refine (unhide HT).mono ?_
 rintro e w1 ⟨rfl, hm⟩
 have hp1 := (unhide HP).move hm hj (fun e => by have := hn e; omega)
 have hf1 : PF pb B w w1 := PF.grown hm.gr
 have HP1 := hide hp1
 have HF1 := hide hf1
 obtain ⟨no, nn, nc, h1, hown⟩ := hp1.blk
 have hpb := hp1.pLt
 have hBw := hp1.hB
 have hgB := hp1.gB
 have hpB := hp1.pB
 have bc := fun o => cell_of_blk h1 o
 have bf := fun o => frozen_of_blk h1 o
 have HO := hide hown
 have H1 := hide h1
 have hpn : (Value.slice no nn nc).ownBlock ≠ some pb := by intro e; have := own_is hown e; omega
 have hxn : (Value.slice no nn nc).ownBlock ≠ some w1.heap.size := by intro e; have := own_lt hown _ e; omega
 clear hp1 hf1 hm hown h1 HT
 simp only [tkP]
 go_wp2_with fail
 refine wp_region_held_drew (S := fun w' => w'.cell? ⟨w1.heap.size, 0, none⟩ = some (.int .i64 t.k) ∧ w'.cell? ⟨w1.heap.size, 1, none⟩ = some (.string t.s) ∧ w'.cell? ⟨w1.heap.size, 2, none⟩ = some (.int .i64 t.p)) (by kernel_rfl) ?_ (fun hHeld => ?_)
 ·refine ⟨?_, ?_, ?_⟩ <;> simp
 refine wpAnyH_take (i := 0) (v := .pointer (some ⟨pb, 0, none⟩)) rfl (by kernel_rfl) (by kernel_rfl) (by kernel_rfl) (fun _ _ _ h => h) (Or.inl ⟨by kernel_rfl, fun w hw => by obtain ⟨s0, s1, s2⟩ := hw; go_simp⟩) hHeld ?_
 try simp only [Act.put, zA, zB, zC, zD, zE, zF]
 refine wpAnyH_take (i := 1) (v := .pointer (some ⟨pb, 0, none⟩)) rfl (by kernel_rfl) (by kernel_rfl) (by kernel_rfl) (fun _ _ _ h => h) (Or.inl ⟨by kernel_rfl, fun w hw => by obtain ⟨s0, s1, s2⟩ := hw; go_simp⟩) hHeld ?_
 try simp only [Act.put, zA, zB, zC, zD, zE, zF]
 refine wpAnyH_take (i := 2) (v := .pointer (some ⟨pb, 0, none⟩)) rfl (by kernel_rfl) (by kernel_rfl) (by kernel_rfl) (fun _ _ _ h => h) (Or.inl ⟨by kernel_rfl, fun w hw => by obtain ⟨s0, s1, s2⟩ := hw; go_simp⟩) hHeld ?_
 try simp only [Act.put, zA, zB, zC, zD, zE, zF]
 refine wpAnyH_take (i := 3) (v := .pointer (some ⟨pb, 3, none⟩)) rfl (by kernel_rfl) (by kernel_rfl) (by kernel_rfl) (fun _ _ _ h => h) (Or.inl ⟨by kernel_rfl, fun w hw => by obtain ⟨s0, s1, s2⟩ := hw; go_simp⟩) hHeld ?_
 try simp only [Act.put, zA, zB, zC, zD, zE, zF]
 refine wpAnyH_take (i := 5) (v := .agg #[.int .i64 t.k, .string t.s, .int .i64 t.p]) rfl (by kernel_rfl) (by kernel_rfl) (by kernel_rfl) (fun _ _ _ h => h) (Or.inl ⟨by kernel_rfl, fun w hw => by obtain ⟨s0, s1, s2⟩ := hw; go_simp⟩) hHeld ?_
 try simp only [Act.put, zA, zB, zC, zD, zE, zF]
 refine wpAnyH_ready (rs := [4, 6]) (by kernel_rfl) (by simp) ?_
 refine AllReadyH.cons rfl (fun K hK => ?_) (AllReadyH.cons rfl (fun K hK => ?_) AllReadyH.nil)
 ·go_simp
  refine hK.out _ _ hHeld (fun hHeld => ?_)
  clear hK K
  refine wpAnyH_ready (rs := [6]) (by kernel_rfl) (by simp) ?_
  refine AllReadyH.cons rfl (fun K hK => ?_) AllReadyH.nil
  go_simp
  refine hK.out _ _ (by refine ⟨?_, ?_, ?_⟩ <;> simp) (fun hHeld => ?_)
  clear hK K
  refine wpAnyH_ready (rs := [7]) (by kernel_rfl) (by simp) ?_
  refine AllReadyH.cons rfl (fun K hK => ?_) AllReadyH.nil
  refine step_append_lies _ (by rfl) _ _ 125 (by rfl) B 201 i0 (.agg #[.int .i64 0, .string ⟨#[]⟩, .int .i64 0]) 3 32 Tryz.underlying125 hi hz0 hz1 hz2 rfl (by decide) (.slice no nn nc) NM.length (tkCellsP NM) (by rfl) ?c0 ⟨w1.heap.size + 1, 0, none⟩ 1 1 [.int .i64 t.k, .string t.s, .int .i64 t.p] (by rfl) rfl ?c1 ?c2 (by decide) ?c3 ?c4 ?c5 (w1.heap.size + 2) (by simp) ?_
  case c0 => exact owns_later (unhide HO) (((Below.refl _ _).alloc (Nat.le_refl _) _).alloc (by simp) _).drew
  case c1 =>
   intro j u hj
   match j, hj with
   | 0, hj => simp at hj; subst hj; simp [Addr.add]
   | 1, hj => simp at hj; subst hj; simp [Addr.add]
   | 2, hj => simp at hj; subst hj; simp [Addr.add]
   | j + 3, hj => simp at hj
  case c2 => intro u hu; simp at hu; rcases hu with rfl | rfl | rfl <;> rfl
  case c3 => unfold maxLen; omega
  case c4 => omega
  case c5 => simp; omega
  intro g2 cap2 w2 hown2 hgrow hat hlt2
  have hbx2 : w2.heap[w1.heap.size]? = some (.cells #[.int .i64 t.k, .string t.s, .int .i64 t.p] 201 (0, 0)) := (hgrow.block _ (by simp; omega) (fun e => hxn e.symm)).trans ((Below.heap_alloc _ _ _ (by simp)).trans (blk_alloc _ _))
  have hpb2 := (hgrow.block pb (by simp; omega) (fun e => hpn e.symm)).trans ((Below.heap_alloc _ _ _ (by simp; omega)).trans ((Below.heap_alloc _ _ _ hpb).trans (unhide H1)))
  have hz2 : w1.heap.size < w2.heap.size := lt_of_blk hbx2
  have hzp2 : pb < w2.heap.size := lt_of_blk hpb2
  have hs2 : w2.cell? ⟨w1.heap.size, 0, none⟩ = some (.int .i64 t.k) ∧ w2.cell? ⟨w1.heap.size, 1, none⟩ = some (.string t.s) ∧ w2.cell? ⟨w1.heap.size, 2, none⟩ = some (.int .i64 t.p) := ⟨cell_of_blk hbx2 0, cell_of_blk hbx2 1, cell_of_blk hbx2 2⟩
  refine hK.out _ _ hs2 (fun hHeld => ?_)
  clear hK K bc bf
  have bc := fun o => cell_of_blk hpb2 o
  have bf := fun o => frozen_of_blk hpb2 o
  have HX2 := hide hbx2
  have HB2 := hide hpb2
  have HF2 := hide (((unhide HF1).trans (PF.below (pb := pb) (B := B) (((Below.refl w1.heap.size w1).alloc (Nat.le_refl _) (.cells #[.int .i64 t.k, .string t.s, .int .i64 t.p] 201)).alloc (by simp) (.cells #[.int .i64 t.k, .string t.s, .int .i64 t.p] 201)).drew)).trans (PF.row (owns_later (unhide HO) (((Below.refl _ _).alloc (Nat.le_refl _) _).alloc (by simp) _).drew) hgrow))
  have HOW := hide hown2
  have hrow2 : ∃ cur, w2.heap[g]? = some (.cells cur 201 (0, 0)) ∧ cur.toList.take (L.length * 3) = tkCellsP L := by
   obtain ⟨cur, h3, h4⟩ := (unhide HP1).row
   exact ⟨cur, (hgrow.block g (by have := lt_of_blk h3; simp; omega) (by intro e; have := own_is (unhide HO) e.symm; omega)).trans ((Below.heap_alloc _ _ _ (by have := lt_of_blk h3; simp; omega)).trans ((Below.heap_alloc _ _ _ (lt_of_blk h3)).trans h3)), h4⟩
  have HROW := hide hrow2
  have hg2n : g2 ≠ pb := by
   rintro rfl
   rcases hat with e | e
   ·exact hpn e
   ·omega
  clear hgrow hbx2 hpb2 hown2 hrow2 hs2
  refine wpAnyH_take (i := 8) (v := .pointer (some ⟨pb, 0, none⟩)) rfl (by kernel_rfl) (by kernel_rfl) (by kernel_rfl) (fun _ _ _ h => h) (Or.inl ⟨by kernel_rfl, fun w hw => by obtain ⟨s0, s1, s2⟩ := hw; go_simp⟩) hHeld ?_
  try simp only [Act.put, zA, zB, zC, zD, zE, zF]
  refine wpAnyH_take (i := 9) (v := .pointer (some ⟨pb, 3, none⟩)) rfl (by kernel_rfl) (by kernel_rfl) (by kernel_rfl) (fun _ _ _ h => h) (Or.inl ⟨by kernel_rfl, fun w hw => by obtain ⟨s0, s1, s2⟩ := hw; go_simp⟩) hHeld ?_
  try simp only [Act.put, zA, zB, zC, zD, zE, zF]
  refine wpAnyH_ready (rs := [10]) (by kernel_rfl) (by simp) ?_
  refine AllReadyH.cons rfl (fun K hK => ?_) AllReadyH.nil
  go_simp
  refine hK.out _ _ (by obtain ⟨s0, s1, s2⟩ := hHeld; refine ⟨?_, ?_, ?_⟩ <;> (rw [World.cell?_setCell_far _ _ _ _ (by show pb ≠ w1.heap.size; omega)]; assumption)) (fun hHeld => ?_)
  clear hK K
  refine wpAnyH_done (by kernel_rfl) ?_ _
  obtain ⟨s0, s1, s2⟩ := hHeld
  clear bc bf
  go_wp2_with fail
  refine (fActivity_any t.s _).mono ?_
  rintro e w4 ⟨v, rfl, hv, hb4⟩
  have HV := hide hv
  have HB4 := hide hb4
  clear hv hb4
  go_wp2_with fail
  go_ret
  have hPP3 : PP (w2.setCell ⟨pb, 3, none⟩ (.slice (some ⟨g2, 0, none⟩) (NM.length + 1) cap2)) pb g cap B L j bad' q' (NM ++ [t]) := by
   obtain ⟨cur, h3, h4⟩ := unhide HROW
   refine ⟨⟨some ⟨g2, 0, none⟩, NM.length + 1, cap2, blk_set (unhide HB2) 3 _, ?_⟩, ⟨cur, (Below.heap_setCell _ _ _ _ (by show g ≠ pb; exact (unhide HP1).ne)).trans h3, h4⟩, (unhide HP1).le, (unhide HP1).capLe, (unhide HP1).len, (unhide HP1).lt, (unhide HP1).fe, (unhide HP1).ok, hgB, hpB, by simp [World.setCell]; omega, fun e => by simp; exact hn e⟩
   rw [tkCellsP_snoc, List.length_append]
   exact owns_keep (unhide HOW) (grown_set _ _ _ _) (Or.inr (by intro e; cases e; exact hg2n rfl))
  have hF3 : PF pb B w (w2.setCell ⟨pb, 3, none⟩ (.slice (some ⟨g2, 0, none⟩) (NM.length + 1) cap2)) := (unhide HF2).trans (PF.grown (grown_set _ _ _ _))
  exact ⟨v, rfl, unhide HV t.p, hPP3.later (unhide HB4), hF3.trans (PF.below (unhide HB4))⟩
 ·go_simp
  refine hK.out _ _ (by refine ⟨?_, ?_, ?_⟩ <;> simp) (fun hHeld => ?_)
  clear hK K
  refine wpAnyH_ready (rs := [4]) (by kernel_rfl) (by simp) ?_
  refine AllReadyH.cons rfl (fun K hK => ?_) AllReadyH.nil
  go_simp
  refine hK.out _ _ hHeld (fun hHeld => ?_)
  clear hK K
  refine wpAnyH_ready (rs := [7]) (by kernel_rfl) (by simp) ?_
  refine AllReadyH.cons rfl (fun K hK => ?_) AllReadyH.nil
  refine step_append_lies _ (by rfl) _ _ 125 (by rfl) B 201 i0 (.agg #[.int .i64 0, .string ⟨#[]⟩, .int .i64 0]) 3 32 Tryz.underlying125 hi hz0 hz1 hz2 rfl (by decide) (.slice no nn nc) NM.length (tkCellsP NM) (by rfl) ?c0 ⟨w1.heap.size + 1, 0, none⟩ 1 1 [.int .i64 t.k, .string t.s, .int .i64 t.p] (by rfl) rfl ?c1 ?c2 (by decide) ?c3 ?c4 ?c5 (w1.heap.size + 2) (by simp) ?_
  case c0 => exact owns_later (unhide HO) (((Below.refl _ _).alloc (Nat.le_refl _) _).alloc (by simp) _).drew
  case c1 =>
   intro j u hj
   match j, hj with
   | 0, hj => simp at hj; subst hj; simp [Addr.add]
   | 1, hj => simp at hj; subst hj; simp [Addr.add]
   | 2, hj => simp at hj; subst hj; simp [Addr.add]
   | j + 3, hj => simp at hj
  case c2 => intro u hu; simp at hu; rcases hu with rfl | rfl | rfl <;> rfl
  case c3 => unfold maxLen; omega
  case c4 => omega
  case c5 => simp; omega
  intro g2 cap2 w2 hown2 hgrow hat hlt2
  have hbx2 : w2.heap[w1.heap.size]? = some (.cells #[.int .i64 t.k, .string t.s, .int .i64 t.p] 201 (0, 0)) := (hgrow.block _ (by simp; omega) (fun e => hxn e.symm)).trans ((Below.heap_alloc _ _ _ (by simp)).trans (blk_alloc _ _))
  have hpb2 := (hgrow.block pb (by simp; omega) (fun e => hpn e.symm)).trans ((Below.heap_alloc _ _ _ (by simp; omega)).trans ((Below.heap_alloc _ _ _ hpb).trans (unhide H1)))
  have hz2 : w1.heap.size < w2.heap.size := lt_of_blk hbx2
  have hzp2 : pb < w2.heap.size := lt_of_blk hpb2
  have hs2 : w2.cell? ⟨w1.heap.size, 0, none⟩ = some (.int .i64 t.k) ∧ w2.cell? ⟨w1.heap.size, 1, none⟩ = some (.string t.s) ∧ w2.cell? ⟨w1.heap.size, 2, none⟩ = some (.int .i64 t.p) := ⟨cell_of_blk hbx2 0, cell_of_blk hbx2 1, cell_of_blk hbx2 2⟩
  refine hK.out _ _ hs2 (fun hHeld => ?_)
  clear hK K bc bf
  have bc := fun o => cell_of_blk hpb2 o
  have bf := fun o => frozen_of_blk hpb2 o
  have HX2 := hide hbx2
  have HB2 := hide hpb2
  have HF2 := hide (((unhide HF1).trans (PF.below (pb := pb) (B := B) (((Below.refl w1.heap.size w1).alloc (Nat.le_refl _) (.cells #[.int .i64 t.k, .string t.s, .int .i64 t.p] 201)).alloc (by simp) (.cells #[.int .i64 t.k, .string t.s, .int .i64 t.p] 201)).drew)).trans (PF.row (owns_later (unhide HO) (((Below.refl _ _).alloc (Nat.le_refl _) _).alloc (by simp) _).drew) hgrow))
  have HOW := hide hown2
  have hrow2 : ∃ cur, w2.heap[g]? = some (.cells cur 201 (0, 0)) ∧ cur.toList.take (L.length * 3) = tkCellsP L := by
   obtain ⟨cur, h3, h4⟩ := (unhide HP1).row
   exact ⟨cur, (hgrow.block g (by have := lt_of_blk h3; simp; omega) (by intro e; have := own_is (unhide HO) e.symm; omega)).trans ((Below.heap_alloc _ _ _ (by have := lt_of_blk h3; simp; omega)).trans ((Below.heap_alloc _ _ _ (lt_of_blk h3)).trans h3)), h4⟩
  have HROW := hide hrow2
  have hg2n : g2 ≠ pb := by
   rintro rfl
   rcases hat with e | e
   ·exact hpn e
   ·omega
  clear hgrow hbx2 hpb2 hown2 hrow2 hs2
  refine wpAnyH_take (i := 8) (v := .pointer (some ⟨pb, 0, none⟩)) rfl (by kernel_rfl) (by kernel_rfl) (by kernel_rfl) (fun _ _ _ h => h) (Or.inl ⟨by kernel_rfl, fun w hw => by obtain ⟨s0, s1, s2⟩ := hw; go_simp⟩) hHeld ?_
  try simp only [Act.put, zA, zB, zC, zD, zE, zF]
  refine wpAnyH_take (i := 9) (v := .pointer (some ⟨pb, 3, none⟩)) rfl (by kernel_rfl) (by kernel_rfl) (by kernel_rfl) (fun _ _ _ h => h) (Or.inl ⟨by kernel_rfl, fun w hw => by obtain ⟨s0, s1, s2⟩ := hw; go_simp⟩) hHeld ?_
  try simp only [Act.put, zA, zB, zC, zD, zE, zF]
  refine wpAnyH_ready (rs := [10]) (by kernel_rfl) (by simp) ?_
  refine AllReadyH.cons rfl (fun K hK => ?_) AllReadyH.nil
  go_simp
  refine hK.out _ _ (by obtain ⟨s0, s1, s2⟩ := hHeld; refine ⟨?_, ?_, ?_⟩ <;> (rw [World.cell?_setCell_far _ _ _ _ (by show pb ≠ w1.heap.size; omega)]; assumption)) (fun hHeld => ?_)
  clear hK K
  refine wpAnyH_done (by kernel_rfl) ?_ _
  obtain ⟨s0, s1, s2⟩ := hHeld
  clear bc bf
  go_wp2_with fail
  refine (fActivity_any t.s _).mono ?_
  rintro e w4 ⟨v, rfl, hv, hb4⟩
  have HV := hide hv
  have HB4 := hide hb4
  clear hv hb4
  go_wp2_with fail
  go_ret
  have hPP3 : PP (w2.setCell ⟨pb, 3, none⟩ (.slice (some ⟨g2, 0, none⟩) (NM.length + 1) cap2)) pb g cap B L j bad' q' (NM ++ [t]) := by
   obtain ⟨cur, h3, h4⟩ := unhide HROW
   refine ⟨⟨some ⟨g2, 0, none⟩, NM.length + 1, cap2, blk_set (unhide HB2) 3 _, ?_⟩, ⟨cur, (Below.heap_setCell _ _ _ _ (by show g ≠ pb; exact (unhide HP1).ne)).trans h3, h4⟩, (unhide HP1).le, (unhide HP1).capLe, (unhide HP1).len, (unhide HP1).lt, (unhide HP1).fe, (unhide HP1).ok, hgB, hpB, by simp [World.setCell]; omega, fun e => by simp; exact hn e⟩
   rw [tkCellsP_snoc, List.length_append]
   exact owns_keep (unhide HOW) (grown_set _ _ _ _) (Or.inr (by intro e; cases e; exact hg2n rfl))
  have hF3 : PF pb B w (w2.setCell ⟨pb, 3, none⟩ (.slice (some ⟨g2, 0, none⟩) (NM.length + 1) cap2)) := (unhide HF2).trans (PF.grown (grown_set _ _ _ _))
  exact ⟨v, rfl, unhide HV t.p, hPP3.later (unhide HB4), hF3.trans (PF.below (unhide HB4))⟩
def GLeft (L : List Tk) (pb g cap B : Nat) (NM : List Tk) (w w' : World) (e : Ending) (x : Rd) : Prop :=
 PF pb B w w' ∧ ∃ p, e = .returned (.pointer p) ∧ (match x with
  | .ok (f, l) => IsG w' f p ∧ ∃ i, PL L i = l ∧ PP w' pb g cap B L i false 0 (NM ++ lvs f)
  | .error q => ∃ NM', PP w' pb g cap B L (L.length - 1) true q NM')
def GU (n : Nat) : Prop := ∀ (w : World) (pb g cap B : Nat) (L : List Tk) (i : Nat) (NM : List Tk), PP w pb g cap B L i false 0 NM → 6 * (PL L i).length + 1 ≤ n →
 Calls Tryz.prog 290 #[.pointer (some ⟨pb, 0, none⟩)] w fun e w' => GLeft L pb g cap B NM w w' e (pf n 4 .nil (PL L i))
def GT (n : Nat) : Prop := ∀ (w : World) (pb g cap B : Nat) (L : List Tk) (i : Nat) (NM : List Tk), PP w pb g cap B L i false 0 NM → 6 * (PL L i).length + 2 ≤ n →
 Calls Tryz.prog 286 #[.pointer (some ⟨pb, 0, none⟩)] w fun e w' => GLeft L pb g cap B NM w w' e (pf n 3 .nil (PL L i))
def GA (n : Nat) : Prop := ∀ (w : World) (pb g cap B : Nat) (L : List Tk) (i : Nat) (NM : List Tk), PP w pb g cap B L i false 0 NM → 6 * (PL L i).length + 3 ≤ n →
 Calls Tryz.prog 264 #[.pointer (some ⟨pb, 0, none⟩)] w fun e w' => GLeft L pb g cap B NM w w' e (pf n 2 .nil (PL L i))
def GO (n : Nat) : Prop := ∀ (w : World) (pb g cap B : Nat) (L : List Tk) (i : Nat) (NM : List Tk), PP w pb g cap B L i false 0 NM → 6 * (PL L i).length + 4 ≤ n →
 Calls Tryz.prog 226 #[.pointer (some ⟨pb, 0, none⟩)] w fun e w' => GLeft L pb g cap B NM w w' e (pf n 1 .nil (PL L i))
def GF (n : Nat) : Prop := ∀ (w : World) (pb g cap B : Nat) (L : List Tk) (i : Nat) (NM : List Tk), PP w pb g cap B L i false 0 NM → 6 * (PL L i).length + 5 ≤ n →
 Calls Tryz.prog 193 #[.pointer (some ⟨pb, 0, none⟩)] w fun e w' => GLeft L pb g cap B NM w w' e (pf n 0 .nil (PL L i))
def mapOne (k : Nat) : Rd → Rd
 | .error q => .error q
 | .ok (a, l) => .ok (one k a, l)
def brk : Rd → Rd
 | .error q => .error q
 | .ok (a, l) => if headK l = 19 then .ok (a, l.tail) else .error (headP l)
theorem PP.step {w w' : World} {pb g cap B : Nat} {L : List Tk} {i : Nat} {NM : List Tk} (h : PP w pb g cap B L i false 0 NM) (hm : Mv w w' pb g cap L.length i false 0 (i + 1) false 0) {t : Tk} {r : List Tk} (ht : PL L i = t :: r) (hk : 2 ≤ t.k) : PP w' pb g cap B L (i + 1) false 0 NM :=
 h.move hm (h.fe.nextLt ht (by omega)) (fun _ => by have := h.nm rfl; omega)
theorem PP.lost {w w' : World} {pb g cap B : Nat} {L : List Tk} {i : Nat} {bad : Bool} {q q' : Nat} {NM : List Tk} (h : PP w pb g cap B L i bad q NM) (hm : Mv w w' pb g cap L.length i bad q (L.length - 1) true q') : PP w' pb g cap B L (L.length - 1) true q' NM :=
 h.move hm (by have := h.lt; omega) (fun e => by cases e)
set_option maxHeartbeats 1000000 in
theorem pword_any (k : Nat) (w : World) (pb g cap B : Nat) (L : List Tk) (i : Nat) (NM : List Tk) (t : Tk) (r : List Tk) (h : PP w pb g cap B L i false 0 NM) (ht : PL L i = t :: r) (hk : 2 ≤ t.k) (hk0 : k ≠ 0) :
  Calls Tryz.prog 294 #[.pointer (some ⟨pb, 0, none⟩), .int .i64 (k : Int)] w fun e w' => GLeft L pb g cap B NM w w' e (.ok (leaf k ByteArray.empty 0, r)) := by
 have HP := hide h
 have HT := hide ht
 have HK0 := hide hk0
 clear h ht hk0
 go_enter Tryz.func294, Tryz.ntmps294
 go_wp2_with fail
 refine (pnext_any _ _ _ _ _ _ _ _ _ _ _ _ (unhide HP) (unhide HT)).mono ?_
 rintro e w1 ⟨rfl, rfl⟩
 go_wp2_with fail
 refine (ptake_yes t.k _ _ _ _ _ _ _ _ _ _ _ _ (unhide HP) (unhide HT) rfl hk).mono ?_
 rintro e w2 ⟨rfl, hm⟩
 have HP2 := hide ((unhide HP).step hm (unhide HT) hk)
 have HF2 := hide (PF.grown (B := B) hm.gr)
 clear hm
 simp only [tkP]
 go_wp2_with fail
 refine (fWord_any k _).mono ?_
 rintro e w3 ⟨v, rfl, hv, hb⟩
 have HV := hide hv
 have HB := hide hb
 clear hv hb
 go_wp2_with fail
 go_ret
 exact ⟨(unhide HF2).trans (PF.below (unhide HB)), v, rfl, unhide HV, i + 1, PL_next (unhide HT) hk, by rw [lvs_leaf (unhide HK0), List.append_nil]; exact (unhide HP2).later (unhide HB)⟩
set_option maxHeartbeats 1000000 in
theorem poperator_any (n : Nat) (hU : GU n) (k : Nat) (w : World) (pb g cap B : Nat) (L : List Tk) (i : Nat) (NM : List Tk) (t : Tk) (r : List Tk) (h : PP w pb g cap B L i false 0 NM) (ht : PL L i = t :: r) (hk : 2 ≤ t.k) (hk0 : k ≠ 0) (hn : 6 * r.length + 1 ≤ n) :
  Calls Tryz.prog 292 #[.pointer (some ⟨pb, 0, none⟩), .int .i64 (k : Int)] w fun e w' => GLeft L pb g cap B NM w w' e (mapOne k (pf n 4 .nil r)) := by
 have HU := hide hU
 have HP := hide h
 have HT := hide ht
 have HK0 := hide hk0
 have hr := PL_next ht hk
 have HR := hide hr
 clear h ht hk0 hU hr
 go_enter Tryz.func292, Tryz.ntmps292
 go_wp2_with fail
 refine (pnext_any _ _ _ _ _ _ _ _ _ _ _ _ (unhide HP) (unhide HT)).mono ?_
 rintro e w1 ⟨rfl, rfl⟩
 go_wp2_with fail
 refine (ptake_yes t.k _ _ _ _ _ _ _ _ _ _ _ _ (unhide HP) (unhide HT) rfl hk).mono ?_
 rintro e w2 ⟨rfl, hm⟩
 have HP2 := hide ((unhide HP).step hm (unhide HT) hk)
 have HF2 := hide (PF.grown (B := B) hm.gr)
 clear hm
 simp only [tkP]
 go_wp2_with fail
 refine ((unhide HU) _ _ _ _ _ _ _ _ (unhide HP2) (by rw [unhide HR]; exact hn)).mono ?_
 rw [unhide HR]
 rintro e w3 ⟨hf3, p3, rfl, hx3⟩
 have HF3 := hide hf3
 have HX3 := hide hx3
 clear hf3 hx3
 go_wp2_with fail
 cases hpf : pf n 4 .nil r with
 | error q =>
  obtain ⟨NM3, hp3⟩ : ∃ NM', PP w3 pb g cap B L (L.length - 1) true q NM' := by have := unhide HX3; rw [hpf] at this; exact this
  have HP3 := hide hp3
  have HX : Hid (mapOne k (pf n 4 .nil r) = .error q) := by show _ = _; rw [hpf]; rfl
  clear hp3 hpf HX3
  refine (fOne_any k .nil p3 _).mono ?_
  rintro e w4 ⟨v, rfl, -, hb⟩
  have HB := hide hb
  clear hb
  go_wp2_with fail
  go_ret
  rw [unhide HX]
  exact ⟨((unhide HF2).trans (unhide HF3)).trans (PF.below (unhide HB)), v, rfl, NM3, (unhide HP3).later (unhide HB)⟩
 | ok x =>
  obtain ⟨a, l1⟩ := x
  obtain ⟨hg3, i3, hl3, hp3⟩ : IsG w3 a p3 ∧ ∃ i, PL L i = l1 ∧ PP w3 pb g cap B L i false 0 (NM ++ lvs a) := by have := unhide HX3; rw [hpf] at this; exact this
  have HP3 := hide hp3
  have HG3 := hide hg3
  have HL3 := hide hl3
  have HX : Hid (mapOne k (pf n 4 .nil r) = .ok (one k a, l1)) := by show _ = _; rw [hpf]; rfl
  clear hp3 hpf HX3 hg3 hl3
  refine (fOne_any k a p3 _).mono ?_
  rintro e w4 ⟨v, rfl, hv, hb⟩
  have HB := hide hb
  have HV := hide (hv (unhide HG3))
  clear hb hv
  go_wp2_with fail
  go_ret
  rw [unhide HX]
  exact ⟨((unhide HF2).trans (unhide HF3)).trans (PF.below (unhide HB)), v, rfl, unhide HV, i3, unhide HL3, by rw [lvs_one (unhide HK0)]; exact (unhide HP3).later (unhide HB)⟩
set_option maxHeartbeats 1000000 in
theorem pbracket_any (n : Nat) (hU : GF n) (w : World) (pb g cap B : Nat) (L : List Tk) (i : Nat) (NM : List Tk) (t : Tk) (r : List Tk) (h : PP w pb g cap B L i false 0 NM) (ht : PL L i = t :: r) (hk : t.k = 18) (hn : 6 * r.length + 5 ≤ n) :
  Calls Tryz.prog 293 #[.pointer (some ⟨pb, 0, none⟩)] w fun e w' => GLeft L pb g cap B NM w w' e (brk (pf n 0 .nil r)) := by
 have HU := hide hU
 have HP := hide h
 have HT := hide ht
 have hr := PL_next ht (by omega)
 have HR := hide hr
 have HK := hide hk
 clear h ht hU hr hk
 go_enter Tryz.func293, Tryz.ntmps293
 go_wp2_with fail
 refine (ptake_yes 18 _ _ _ _ _ _ _ _ _ _ _ _ (unhide HP) (unhide HT) (unhide HK) (by decide)).mono ?_
 rintro e w2 ⟨rfl, hm⟩
 have HP2 := hide ((unhide HP).step hm (unhide HT) (by have := unhide HK; omega))
 have HF2 := hide (PF.grown (B := B) hm.gr)
 clear hm
 simp only [tkP]
 go_wp2_with fail
 refine ((unhide HU) _ _ _ _ _ _ _ _ (unhide HP2) (by rw [unhide HR]; exact hn)).mono ?_
 rw [unhide HR]
 rintro e w3 ⟨hf3, p3, rfl, hx3⟩
 have HF3 := hide hf3
 have HX3 := hide hx3
 clear hf3 hx3
 go_wp2_with fail
 cases hpf : pf n 0 .nil r with
 | error q =>
  obtain ⟨NM3, hp3⟩ : ∃ NM', PP w3 pb g cap B L (L.length - 1) true q NM' := by have := unhide HX3; rw [hpf] at this; exact this
  obtain ⟨t3, ht3, hk3⟩ := PL_last hp3.fe
  have HP3 := hide hp3
  have HT3 := hide ht3
  have hk19 : t3.k ≠ 19 := by omega
  have HK19 := hide hk19
  have HX : Hid (brk (pf n 0 .nil r) = .error q) := by show _ = _; rw [hpf]; rfl
  clear hp3 hpf HX3 ht3 hk3 hk19
  refine (ptake_no 19 _ _ _ _ _ _ _ _ _ _ _ _ (unhide HP3) (unhide HT3) (unhide HK19)).mono ?_
  rintro e w4 ⟨rfl, hm⟩
  have HP4 := hide ((unhide HP3).lost hm)
  have HF4 := hide (PF.grown (B := B) hm.gr)
  clear hm
  simp only [tkP]
  go_wp2_with fail
  go_ret
  rw [unhide HX]
  exact ⟨((unhide HF2).trans (unhide HF3)).trans (unhide HF4), p3, rfl, NM3, unhide HP4⟩
 | ok x =>
  obtain ⟨a, l1⟩ := x
  obtain ⟨hg3, i3, hl3, hp3⟩ : IsG w3 a p3 ∧ ∃ i, PL L i = l1 ∧ PP w3 pb g cap B L i false 0 (NM ++ lvs a) := by have := unhide HX3; rw [hpf] at this; exact this
  subst hl3
  have HP3 := hide hp3
  have HG3 := hide hg3
  by_cases h19 : headK (PL L i3) = 19
  ·obtain ⟨t3, u3, r3, ht3, hk3⟩ := head_yes (PL_ends hp3.fe hp3.lt) (by decide) h19
   have HX : Hid (brk (pf n 0 .nil r) = .ok (a, u3 :: r3)) := by show _ = _; rw [hpf]; show (if headK (PL L i3) = 19 then (.ok (a, (PL L i3).tail) : Rd) else .error (headP (PL L i3))) = _; rw [if_pos h19, ht3]; rfl
   have HT3 := hide ht3
   have HK3 := hide hk3
   clear hp3 hpf HX3 hg3 ht3 hk3 h19
   refine (ptake_yes 19 _ _ _ _ _ _ _ _ _ _ _ _ (unhide HP3) (unhide HT3) (unhide HK3) (by decide)).mono ?_
   rintro e w4 ⟨rfl, hm⟩
   have HP4 := hide ((unhide HP3).step hm (unhide HT3) (by have := unhide HK3; omega))
   have HF4 := hide (PF.grown (B := B) hm.gr)
   clear hm
   simp only [tkP]
   go_wp2_with fail
   go_ret
   rw [unhide HX]
   exact ⟨((unhide HF2).trans (unhide HF3)).trans (unhide HF4), p3, rfl, (unhide HF4).isG (unhide HP3) (unhide HG3), i3 + 1, PL_next (unhide HT3) (by have := unhide HK3; omega), unhide HP4⟩
  ·obtain ⟨t3, r3, ht3, hk3⟩ := head_no (PL_ends hp3.fe hp3.lt) h19
   have HX : Hid (brk (pf n 0 .nil r) = .error t3.p) := by show _ = _; rw [hpf]; show (if headK (PL L i3) = 19 then (.ok (a, (PL L i3).tail) : Rd) else .error (headP (PL L i3))) = _; rw [if_neg h19, ht3]; rfl
   have HT3 := hide ht3
   have HK3 := hide hk3
   clear hp3 hpf HX3 hg3 ht3 hk3 h19
   refine (ptake_no 19 _ _ _ _ _ _ _ _ _ _ _ _ (unhide HP3) (unhide HT3) (unhide HK3)).mono ?_
   rintro e w4 ⟨rfl, hm⟩
   have HP4 := hide ((unhide HP3).lost hm)
   have HF4 := hide (PF.grown (B := B) hm.gr)
   clear hm
   simp only [tkP]
   go_wp2_with fail
   go_ret
   rw [unhide HX]
   exact ⟨((unhide HF2).trans (unhide HF3)).trans (unhide HF4), p3, rfl, _, unhide HP4⟩
set_option maxHeartbeats 1000000 in
theorem puntil_step (n : Nat) (hU : GU n) (hV : GU n) : GT (n + 1) := by
 intro w pb g cap B L i NM h hn
 have HU := hide hU
 have HV2 := hide hV
 have HP := hide h
 clear hU hV h
 go_enter Tryz.func286, Tryz.ntmps286
 go_wp2_with fail
 refine ((unhide HU) _ _ _ _ _ _ _ _ (unhide HP) (by omega)).mono ?_
 rintro e w1 ⟨hf1, p, rfl, hx⟩
 have HF1 := hide hf1
 cases hpf : pf n 4 .nil (PL L i) with
 | error q =>
  have HX : Hid (pf (n + 1) 3 .nil (PL L i) = .error q) := by show _ = _; rw [pf, hpf]
  rw [hpf] at hx
  obtain ⟨NM1, hp1⟩ := hx
  obtain ⟨t, ht, hk⟩ := PL_last hp1.fe
  have HP1 := hide hp1
  have HT := hide ht
  have HK := hide (show t.k ≠ 13 by omega)
  clear hp1 hf1 ht hpf hk
  go_wp2_with fail
  refine (pskip_no 13 _ _ _ _ _ _ _ _ _ _ _ _ (unhide HP1) (unhide HT) (unhide HK)).mono ?_
  rintro e w2 ⟨rfl, rfl⟩
  go_wp2_with fail
  go_ret
  rw [unhide HX]
  exact ⟨unhide HF1, _, rfl, NM1, unhide HP1⟩
 | ok x =>
  obtain ⟨a, l1⟩ := x
  have hlen := pf_len _ _ _ _ _ _ hpf
  rw [hpf] at hx
  obtain ⟨hg1, i1, hl1, hp1⟩ := hx
  subst hl1
  by_cases h13 : headK (PL L i1) = 13
  ·obtain ⟨t, u, r, ht, hk⟩ := head_yes (PL_ends hp1.fe hp1.lt) (by decide) h13
   have ht2 := PL_next ht (by omega)
   have hX : pf (n + 1) 3 .nil (PL L i) = (match pf n 4 .nil (PL L (i1 + 1)) with | .error q => .error q | .ok (b, l2) => .ok (two 9 a b, l2)) := by
    rw [pf, hpf]; simp only [h13, if_true]; rw [ht, ht2]; rfl
   have HX := hide hX
   have hlt2 : 6 * (PL L (i1 + 1)).length + 1 ≤ n := by rw [ht2]; rw [ht] at hlen; simp only [List.length_cons] at hlen ⊢; omega
   have HL := hide hlt2
   have HG1 := hide hg1
   have HP1 := hide hp1
   have HT := hide ht
   have HK := hide hk
   clear hp1 hf1 ht hpf hX h13 hk hg1 ht2 hlt2
   go_wp2_with fail
   refine (pskip_yes 13 _ _ _ _ _ _ _ _ _ _ _ _ (unhide HP1) (unhide HT) (unhide HK) (by decide)).mono ?_
   rintro e w2 ⟨rfl, hm⟩
   have HP2 := hide ((unhide HP1).step hm (unhide HT) (by have := unhide HK; omega))
   have HF2 := hide (PF.grown (B := B) hm.gr)
   clear hm
   go_wp2_with fail
   refine ((unhide HV2) _ _ _ _ _ _ _ _ (unhide HP2) (unhide HL)).mono ?_
   rintro e w3 ⟨hf3, p3, rfl, hx3⟩
   have HGA := hide (hf3.isG (unhide HP2) ((unhide HF2).isG (unhide HP1) (unhide HG1)))
   have HF3 := hide hf3
   clear hf3
   go_wp2_with fail
   cases hpf3 : pf n 4 .nil (PL L (i1 + 1)) with
   | error q =>
    rw [hpf3] at hx3
    have HX3 : Hid (pf (n + 1) 3 .nil (PL L i) = .error q) := by show _ = _; rw [unhide HX, hpf3]
    obtain ⟨NM3, hp3⟩ := hx3
    have HP3 := hide hp3
    clear hp3 hpf3
    refine (fTwo_any 9 .nil .nil p p3 _).mono ?_
    rintro e w4 ⟨v, rfl, -, hb4⟩
    have HB4 := hide hb4
    clear hb4
    go_wp2_with fail
    go_ret
    rw [unhide HX3]
    exact ⟨(((unhide HF1).trans (unhide HF2)).trans (unhide HF3)).trans (PF.below (unhide HB4)), _, rfl, NM3, (unhide HP3).later (unhide HB4)⟩
   | ok x =>
    obtain ⟨b, l2⟩ := x
    rw [hpf3] at hx3
    have HX3 : Hid (pf (n + 1) 3 .nil (PL L i) = .ok (two 9 a b, l2)) := by show _ = _; rw [unhide HX, hpf3]
    obtain ⟨hg3, i3, hl3, hp3⟩ := hx3
    have HP3 := hide hp3
    have HQ3 := hide hl3
    have HGB := hide hg3
    clear hp3 hl3 hpf3 hg3
    refine (fTwo_any 9 a b p p3 _).mono ?_
    rintro e w4 ⟨v, rfl, hv, hb4⟩
    have HB4 := hide hb4
    have HV := hide (hv (unhide HGA) (unhide HGB))
    clear hb4 hv
    go_wp2_with fail
    go_ret
    rw [unhide HX3]
    exact ⟨(((unhide HF1).trans (unhide HF2)).trans (unhide HF3)).trans (PF.below (unhide HB4)), _, rfl, unhide HV, i3, unhide HQ3, by rw [lvs_two (by decide), ← List.append_assoc]; exact (unhide HP3).later (unhide HB4)⟩
  ·obtain ⟨t, r, ht, hk⟩ := head_no (PL_ends hp1.fe hp1.lt) h13
   have HX : Hid (pf (n + 1) 3 .nil (PL L i) = .ok (a, PL L i1)) := by show _ = _; rw [pf, hpf]; simp only [h13, if_false]
   have HG1 := hide hg1
   have HP1 := hide hp1
   have HT := hide ht
   have HK := hide hk
   clear hp1 hf1 ht hpf h13 hk hg1
   go_wp2_with fail
   refine (pskip_no 13 _ _ _ _ _ _ _ _ _ _ _ _ (unhide HP1) (unhide HT) (unhide HK)).mono ?_
   rintro e w2 ⟨rfl, rfl⟩
   go_wp2_with fail
   go_ret
   rw [unhide HX]
   exact ⟨unhide HF1, _, rfl, unhide HG1, i1, rfl, unhide HP1⟩
set_option maxHeartbeats 1000000 in
theorem pformula_step (n : Nat) (hU : GO n) (hV : GF n) : GF (n + 1) := by
 intro w pb g cap B L i NM h hn
 have HU := hide hU
 have HV2 := hide hV
 have HP := hide h
 clear hU hV h
 go_enter Tryz.func193, Tryz.ntmps193
 go_wp2_with fail
 refine ((unhide HU) _ _ _ _ _ _ _ _ (unhide HP) (by omega)).mono ?_
 rintro e w1 ⟨hf1, p, rfl, hx⟩
 have HF1 := hide hf1
 cases hpf : pf n 1 .nil (PL L i) with
 | error q =>
  have HX : Hid (pf (n + 1) 0 .nil (PL L i) = .error q) := by show _ = _; rw [pf, hpf]
  rw [hpf] at hx
  obtain ⟨NM1, hp1⟩ := hx
  obtain ⟨t, ht, hk⟩ := PL_last hp1.fe
  have HP1 := hide hp1
  have HT := hide ht
  have HK := hide (show t.k ≠ 14 by omega)
  clear hp1 hf1 ht hpf hk
  go_wp2_with fail
  refine (pskip_no 14 _ _ _ _ _ _ _ _ _ _ _ _ (unhide HP1) (unhide HT) (unhide HK)).mono ?_
  rintro e w2 ⟨rfl, rfl⟩
  go_wp2_with fail
  go_ret
  rw [unhide HX]
  exact ⟨unhide HF1, _, rfl, NM1, unhide HP1⟩
 | ok x =>
  obtain ⟨a, l1⟩ := x
  have hlen := pf_len _ _ _ _ _ _ hpf
  rw [hpf] at hx
  obtain ⟨hg1, i1, hl1, hp1⟩ := hx
  subst hl1
  by_cases h13 : headK (PL L i1) = 14
  ·obtain ⟨t, u, r, ht, hk⟩ := head_yes (PL_ends hp1.fe hp1.lt) (by decide) h13
   have ht2 := PL_next ht (by omega)
   have hX : pf (n + 1) 0 .nil (PL L i) = (match pf n 0 .nil (PL L (i1 + 1)) with | .error q => .error q | .ok (b, l2) => .ok (two 12 a b, l2)) := by
    rw [pf, hpf]; simp only [h13, if_true]; rw [ht, ht2]; rfl
   have HX := hide hX
   have hlt2 : 6 * (PL L (i1 + 1)).length + 5 ≤ n := by rw [ht2]; rw [ht] at hlen; simp only [List.length_cons] at hlen ⊢; omega
   have HL := hide hlt2
   have HG1 := hide hg1
   have HP1 := hide hp1
   have HT := hide ht
   have HK := hide hk
   clear hp1 hf1 ht hpf hX h13 hk hg1 ht2 hlt2
   go_wp2_with fail
   refine (pskip_yes 14 _ _ _ _ _ _ _ _ _ _ _ _ (unhide HP1) (unhide HT) (unhide HK) (by decide)).mono ?_
   rintro e w2 ⟨rfl, hm⟩
   have HP2 := hide ((unhide HP1).step hm (unhide HT) (by have := unhide HK; omega))
   have HF2 := hide (PF.grown (B := B) hm.gr)
   clear hm
   go_wp2_with fail
   refine ((unhide HV2) _ _ _ _ _ _ _ _ (unhide HP2) (unhide HL)).mono ?_
   rintro e w3 ⟨hf3, p3, rfl, hx3⟩
   have HGA := hide (hf3.isG (unhide HP2) ((unhide HF2).isG (unhide HP1) (unhide HG1)))
   have HF3 := hide hf3
   clear hf3
   go_wp2_with fail
   cases hpf3 : pf n 0 .nil (PL L (i1 + 1)) with
   | error q =>
    rw [hpf3] at hx3
    have HX3 : Hid (pf (n + 1) 0 .nil (PL L i) = .error q) := by show _ = _; rw [unhide HX, hpf3]
    obtain ⟨NM3, hp3⟩ := hx3
    have HP3 := hide hp3
    clear hp3 hpf3
    refine (fTwo_any 12 .nil .nil p p3 _).mono ?_
    rintro e w4 ⟨v, rfl, -, hb4⟩
    have HB4 := hide hb4
    clear hb4
    go_wp2_with fail
    go_ret
    rw [unhide HX3]
    exact ⟨(((unhide HF1).trans (unhide HF2)).trans (unhide HF3)).trans (PF.below (unhide HB4)), _, rfl, NM3, (unhide HP3).later (unhide HB4)⟩
   | ok x =>
    obtain ⟨b, l2⟩ := x
    rw [hpf3] at hx3
    have HX3 : Hid (pf (n + 1) 0 .nil (PL L i) = .ok (two 12 a b, l2)) := by show _ = _; rw [unhide HX, hpf3]
    obtain ⟨hg3, i3, hl3, hp3⟩ := hx3
    have HP3 := hide hp3
    have HQ3 := hide hl3
    have HGB := hide hg3
    clear hp3 hl3 hpf3 hg3
    refine (fTwo_any 12 a b p p3 _).mono ?_
    rintro e w4 ⟨v, rfl, hv, hb4⟩
    have HB4 := hide hb4
    have HV := hide (hv (unhide HGA) (unhide HGB))
    clear hb4 hv
    go_wp2_with fail
    go_ret
    rw [unhide HX3]
    exact ⟨(((unhide HF1).trans (unhide HF2)).trans (unhide HF3)).trans (PF.below (unhide HB4)), _, rfl, unhide HV, i3, unhide HQ3, by rw [lvs_two (by decide), ← List.append_assoc]; exact (unhide HP3).later (unhide HB4)⟩
  ·obtain ⟨t, r, ht, hk⟩ := head_no (PL_ends hp1.fe hp1.lt) h13
   have HX : Hid (pf (n + 1) 0 .nil (PL L i) = .ok (a, PL L i1)) := by show _ = _; rw [pf, hpf]; simp only [h13, if_false]
   have HG1 := hide hg1
   have HP1 := hide hp1
   have HT := hide ht
   have HK := hide hk
   clear hp1 hf1 ht hpf h13 hk hg1
   go_wp2_with fail
   refine (pskip_no 14 _ _ _ _ _ _ _ _ _ _ _ _ (unhide HP1) (unhide HT) (unhide HK)).mono ?_
   rintro e w2 ⟨rfl, rfl⟩
   go_wp2_with fail
   go_ret
   rw [unhide HX]
   exact ⟨unhide HF1, _, rfl, unhide HG1, i1, rfl, unhide HP1⟩
set_option maxHeartbeats 1000000 in
theorem pand_step (n : Nat) (hU : ∀ m, m ≤ n → GT m) : GA (n + 1) := by
  intro w pb g cap B L i NM h hn
  have HU := hide hU
  have HP := hide h
  clear hU h
  go_enter Tryz.func264, Tryz.ntmps264
  go_wp2_with fail
  refine ((unhide HU) n (Nat.le_refl _) _ _ _ _ _ _ _ _ (unhide HP) (by omega)).mono ?_
  rintro e w1 ⟨hf1, p, rfl, hx⟩
  have hstart : ∃ pa, (Value.pointer p = .pointer pa) ∧ PF pb B w w1 ∧
      ((∃ acc j, n ≤ n ∧ 6 * (PL L j).length + 1 ≤ n ∧ IsG w1 acc pa ∧ PP w1 pb g cap B L j false 0 (NM ++ lvs acc) ∧ Hid (pf (n + 1) 2 .nil (PL L i) = pf n 6 acc (PL L j))) ∨
       (∃ q NM', PP w1 pb g cap B L (L.length - 1) true q NM' ∧ Hid (pf (n + 1) 2 .nil (PL L i) = .error q))) := by
    refine ⟨p, rfl, hf1, ?_⟩
    cases hpf : pf n 3 .nil (PL L i) with
    | error q =>
      rw [hpf] at hx
      obtain ⟨NM1, hp1⟩ := hx
      exact Or.inr ⟨q, NM1, hp1, by show _ = _; rw [pf, hpf]⟩
    | ok x =>
      obtain ⟨a, l1⟩ := x
      have hlen := pf_len _ _ _ _ _ _ hpf
      rw [hpf] at hx
      obtain ⟨hg1, i1, hl1, hp1⟩ := hx
      exact Or.inl ⟨a, i1, Nat.le_refl _, by rw [hl1]; omega, hg1, hp1, by show _ = _; rw [pf, hpf, hl1]⟩
  have HS := hide hstart
  clear hstart hx hf1
  go_wp2_with fail
  go_loopg [3] n (fun m v wr => ∃ pa, v = .pointer pa ∧ PF pb B w wr ∧
      ((∃ acc j, m ≤ n ∧ 6 * (PL L j).length + 1 ≤ m ∧ IsG wr acc pa ∧ PP wr pb g cap B L j false 0 (NM ++ lvs acc) ∧ Hid (pf (n + 1) 2 .nil (PL L i) = pf m 6 acc (PL L j))) ∨
       (∃ q NM', PP wr pb g cap B L (L.length - 1) true q NM' ∧ Hid (pf (n + 1) 2 .nil (PL L i) = .error q))))
  case atStart => exact unhide HS
  case round =>
    clear HS
    obtain ⟨pa, rfl, hgj, hcase⟩ := hrel
    have HFJ := hide hgj
    clear hgj
    rcases hcase with ⟨acc, j, hm, hmj, hga, hpj, hxj⟩ | ⟨q, NMj, hpj, hxj⟩
    · obtain ⟨m, rfl⟩ : ∃ m, gk = m + 1 := ⟨gk - 1, by omega⟩
      by_cases h16 : headK (PL L j) = 16
      · obtain ⟨t, u, r, ht, hk⟩ := head_yes (PL_ends hpj.fe hpj.lt) (by decide) h16
        have ht2 := PL_next ht (by omega)
        have HXJ : Hid (pf (n + 1) 2 .nil (PL L i) = (match pf m 3 .nil (PL L (j + 1)) with | .error q => .error q | .ok (b, l2) => pf m 6 (two 10 acc b) l2)) := by
          show _ = _
          rw [hxj.out, pf]; simp only [h16, if_true]; rw [ht, ht2]; rfl
        have hlt2 : 6 * (PL L (j + 1)).length + 2 ≤ m := by rw [ht2]; rw [ht] at hmj; simp only [List.length_cons] at hmj ⊢; omega
        have HL := hide hlt2
        have HGA := hide hga
        have HPJ := hide hpj
        have HT := hide ht
        have HK := hide hk
        clear hpj ht h16 hk hga ht2 hlt2 hxj
        go_wp2_with fail
        refine (pskip_yes 16 _ _ _ _ _ _ _ _ _ _ _ _ (unhide HPJ) (unhide HT) (unhide HK) (by decide)).mono ?_
        rintro e w2 ⟨rfl, hmv⟩
        have HP2 := hide ((unhide HPJ).step hmv (unhide HT) (by have := unhide HK; omega))
        have HF2 := hide (PF.grown (B := B) hmv.gr)
        clear hmv
        go_wp2_with fail
        refine ((unhide HU) m (by omega) _ _ _ _ _ _ _ _ (unhide HP2) (unhide HL)).mono ?_
        rintro e w3 ⟨hf3, p3, rfl, hx3⟩
        have HG3 := hide (hf3.isG (unhide HP2) ((unhide HF2).isG (unhide HPJ) (unhide HGA)))
        have HF3 := hide hf3
        clear hf3
        go_wp2_with fail
        cases hpf3 : pf m 3 .nil (PL L (j + 1)) with
        | error q =>
          rw [hpf3] at hx3
          obtain ⟨NM3, hp3⟩ := hx3
          have HX3 : Hid (pf (n + 1) 2 .nil (PL L i) = .error q) := by show _ = _; rw [unhide HXJ, hpf3]
          have HP3 := hide hp3
          clear hp3 hpf3
          refine (fTwo_any 10 .nil .nil pa p3 _).mono ?_
          rintro e w4 ⟨v, rfl, -, hb4⟩
          have HB4 := hide hb4
          clear hb4
          go_wp2_with fail
          go_roundg m
          case measure => omega
          case rel => exact ⟨_, rfl, (((unhide HFJ).trans (unhide HF2)).trans (unhide HF3)).trans (PF.below (unhide HB4)), Or.inr ⟨q, NM3, (unhide HP3).later (unhide HB4), unhide HX3⟩⟩
        | ok x =>
          obtain ⟨b, l2⟩ := x
          have hlen3 := pf_len _ _ _ _ _ _ hpf3
          rw [hpf3] at hx3
          obtain ⟨hg3, i3, hl3, hp3⟩ := hx3
          subst hl3
          have HX3 : Hid (pf (n + 1) 2 .nil (PL L i) = pf m 6 (two 10 acc b) (PL L i3)) := by show _ = _; rw [unhide HXJ, hpf3]
          have HP3 := hide hp3
          have HGB := hide hg3
          have hl3 : 6 * (PL L i3).length + 1 ≤ m := by have := unhide HL; omega
          clear hp3 hpf3 hg3 hlen3
          refine (fTwo_any 10 acc b pa p3 _).mono ?_
          rintro e w4 ⟨v, rfl, hv, hb4⟩
          have HB4 := hide hb4
          have HV := hide (hv (unhide HG3) (unhide HGB))
          clear hb4 hv
          go_wp2_with fail
          go_roundg m
          case measure => omega
          case rel => exact ⟨_, rfl, (((unhide HFJ).trans (unhide HF2)).trans (unhide HF3)).trans (PF.below (unhide HB4)), Or.inl ⟨_, i3, by omega, hl3, unhide HV, by rw [lvs_two (by decide), ← List.append_assoc]; exact (unhide HP3).later (unhide HB4), unhide HX3⟩⟩
      · obtain ⟨t, r, ht, hk⟩ := head_no (PL_ends hpj.fe hpj.lt) h16
        have HX : Hid (pf (n + 1) 2 .nil (PL L i) = .ok (acc, PL L j)) := by show _ = _; rw [hxj.out, pf]; simp only [h16, if_false]
        have HGA := hide hga
        have HPJ := hide hpj
        have HT := hide ht
        have HK := hide hk
        clear hpj ht h16 hk hga hxj
        go_wp2_with fail
        refine (pskip_no 16 _ _ _ _ _ _ _ _ _ _ _ _ (unhide HPJ) (unhide HT) (unhide HK)).mono ?_
        rintro e w2 ⟨rfl, rfl⟩
        go_wp2_with fail
        go_ret
        rw [unhide HX]
        exact ⟨unhide HFJ, _, rfl, unhide HGA, j, rfl, unhide HPJ⟩
    · obtain ⟨t, ht, hk⟩ := PL_last hpj.fe
      have HPJ := hide hpj
      have HT := hide ht
      have HK := hide (show t.k ≠ 16 by omega)
      have HXJ := hide hxj.out
      clear hpj ht hxj hk
      go_wp2_with fail
      refine (pskip_no 16 _ _ _ _ _ _ _ _ _ _ _ _ (unhide HPJ) (unhide HT) (unhide HK)).mono ?_
      rintro e w2 ⟨rfl, rfl⟩
      go_wp2_with fail
      go_ret
      rw [unhide HXJ]
      exact ⟨unhide HFJ, _, rfl, NMj, unhide HPJ⟩
set_option maxHeartbeats 1000000 in
theorem por_step (n : Nat) (hU : ∀ m, m ≤ n → GA m) : GO (n + 1) := by
  intro w pb g cap B L i NM h hn
  have HU := hide hU
  have HP := hide h
  clear hU h
  go_enter Tryz.func226, Tryz.ntmps226
  go_wp2_with fail
  refine ((unhide HU) n (Nat.le_refl _) _ _ _ _ _ _ _ _ (unhide HP) (by omega)).mono ?_
  rintro e w1 ⟨hf1, p, rfl, hx⟩
  have hstart : ∃ pa, (Value.pointer p = .pointer pa) ∧ PF pb B w w1 ∧
      ((∃ acc j, n ≤ n ∧ 6 * (PL L j).length + 1 ≤ n ∧ IsG w1 acc pa ∧ PP w1 pb g cap B L j false 0 (NM ++ lvs acc) ∧ Hid (pf (n + 1) 1 .nil (PL L i) = pf n 5 acc (PL L j))) ∨
       (∃ q NM', PP w1 pb g cap B L (L.length - 1) true q NM' ∧ Hid (pf (n + 1) 1 .nil (PL L i) = .error q))) := by
    refine ⟨p, rfl, hf1, ?_⟩
    cases hpf : pf n 2 .nil (PL L i) with
    | error q =>
      rw [hpf] at hx
      obtain ⟨NM1, hp1⟩ := hx
      exact Or.inr ⟨q, NM1, hp1, by show _ = _; rw [pf, hpf]⟩
    | ok x =>
      obtain ⟨a, l1⟩ := x
      have hlen := pf_len _ _ _ _ _ _ hpf
      rw [hpf] at hx
      obtain ⟨hg1, i1, hl1, hp1⟩ := hx
      exact Or.inl ⟨a, i1, Nat.le_refl _, by rw [hl1]; omega, hg1, hp1, by show _ = _; rw [pf, hpf, hl1]⟩
  have HS := hide hstart
  clear hstart hx hf1
  go_wp2_with fail
  go_loopg [3] n (fun m v wr => ∃ pa, v = .pointer pa ∧ PF pb B w wr ∧
      ((∃ acc j, m ≤ n ∧ 6 * (PL L j).length + 1 ≤ m ∧ IsG wr acc pa ∧ PP wr pb g cap B L j false 0 (NM ++ lvs acc) ∧ Hid (pf (n + 1) 1 .nil (PL L i) = pf m 5 acc (PL L j))) ∨
       (∃ q NM', PP wr pb g cap B L (L.length - 1) true q NM' ∧ Hid (pf (n + 1) 1 .nil (PL L i) = .error q))))
  case atStart => exact unhide HS
  case round =>
    clear HS
    obtain ⟨pa, rfl, hgj, hcase⟩ := hrel
    have HFJ := hide hgj
    clear hgj
    rcases hcase with ⟨acc, j, hm, hmj, hga, hpj, hxj⟩ | ⟨q, NMj, hpj, hxj⟩
    · obtain ⟨m, rfl⟩ : ∃ m, gk = m + 1 := ⟨gk - 1, by omega⟩
      by_cases h16 : headK (PL L j) = 15
      · obtain ⟨t, u, r, ht, hk⟩ := head_yes (PL_ends hpj.fe hpj.lt) (by decide) h16
        have ht2 := PL_next ht (by omega)
        have HXJ : Hid (pf (n + 1) 1 .nil (PL L i) = (match pf m 2 .nil (PL L (j + 1)) with | .error q => .error q | .ok (b, l2) => pf m 5 (two 11 acc b) l2)) := by
          show _ = _
          rw [hxj.out, pf]; simp only [h16, if_true]; rw [ht, ht2]; rfl
        have hlt2 : 6 * (PL L (j + 1)).length + 3 ≤ m := by rw [ht2]; rw [ht] at hmj; simp only [List.length_cons] at hmj ⊢; omega
        have HL := hide hlt2
        have HGA := hide hga
        have HPJ := hide hpj
        have HT := hide ht
        have HK := hide hk
        clear hpj ht h16 hk hga ht2 hlt2 hxj
        go_wp2_with fail
        refine (pskip_yes 15 _ _ _ _ _ _ _ _ _ _ _ _ (unhide HPJ) (unhide HT) (unhide HK) (by decide)).mono ?_
        rintro e w2 ⟨rfl, hmv⟩
        have HP2 := hide ((unhide HPJ).step hmv (unhide HT) (by have := unhide HK; omega))
        have HF2 := hide (PF.grown (B := B) hmv.gr)
        clear hmv
        go_wp2_with fail
        refine ((unhide HU) m (by omega) _ _ _ _ _ _ _ _ (unhide HP2) (unhide HL)).mono ?_
        rintro e w3 ⟨hf3, p3, rfl, hx3⟩
        have HG3 := hide (hf3.isG (unhide HP2) ((unhide HF2).isG (unhide HPJ) (unhide HGA)))
        have HF3 := hide hf3
        clear hf3
        go_wp2_with fail
        cases hpf3 : pf m 2 .nil (PL L (j + 1)) with
        | error q =>
          rw [hpf3] at hx3
          obtain ⟨NM3, hp3⟩ := hx3
          have HX3 : Hid (pf (n + 1) 1 .nil (PL L i) = .error q) := by show _ = _; rw [unhide HXJ, hpf3]
          have HP3 := hide hp3
          clear hp3 hpf3
          refine (fTwo_any 11 .nil .nil pa p3 _).mono ?_
          rintro e w4 ⟨v, rfl, -, hb4⟩
          have HB4 := hide hb4
          clear hb4
          go_wp2_with fail
          go_roundg m
          case measure => omega
          case rel => exact ⟨_, rfl, (((unhide HFJ).trans (unhide HF2)).trans (unhide HF3)).trans (PF.below (unhide HB4)), Or.inr ⟨q, NM3, (unhide HP3).later (unhide HB4), unhide HX3⟩⟩
        | ok x =>
          obtain ⟨b, l2⟩ := x
          have hlen3 := pf_len _ _ _ _ _ _ hpf3
          rw [hpf3] at hx3
          obtain ⟨hg3, i3, hl3, hp3⟩ := hx3
          subst hl3
          have HX3 : Hid (pf (n + 1) 1 .nil (PL L i) = pf m 5 (two 11 acc b) (PL L i3)) := by show _ = _; rw [unhide HXJ, hpf3]
          have HP3 := hide hp3
          have HGB := hide hg3
          have hl3 : 6 * (PL L i3).length + 1 ≤ m := by have := unhide HL; omega
          clear hp3 hpf3 hg3 hlen3
          refine (fTwo_any 11 acc b pa p3 _).mono ?_
          rintro e w4 ⟨v, rfl, hv, hb4⟩
          have HB4 := hide hb4
          have HV := hide (hv (unhide HG3) (unhide HGB))
          clear hb4 hv
          go_wp2_with fail
          go_roundg m
          case measure => omega
          case rel => exact ⟨_, rfl, (((unhide HFJ).trans (unhide HF2)).trans (unhide HF3)).trans (PF.below (unhide HB4)), Or.inl ⟨_, i3, by omega, hl3, unhide HV, by rw [lvs_two (by decide), ← List.append_assoc]; exact (unhide HP3).later (unhide HB4), unhide HX3⟩⟩
      · obtain ⟨t, r, ht, hk⟩ := head_no (PL_ends hpj.fe hpj.lt) h16
        have HX : Hid (pf (n + 1) 1 .nil (PL L i) = .ok (acc, PL L j)) := by show _ = _; rw [hxj.out, pf]; simp only [h16, if_false]
        have HGA := hide hga
        have HPJ := hide hpj
        have HT := hide ht
        have HK := hide hk
        clear hpj ht h16 hk hga hxj
        go_wp2_with fail
        refine (pskip_no 15 _ _ _ _ _ _ _ _ _ _ _ _ (unhide HPJ) (unhide HT) (unhide HK)).mono ?_
        rintro e w2 ⟨rfl, rfl⟩
        go_wp2_with fail
        go_ret
        rw [unhide HX]
        exact ⟨unhide HFJ, _, rfl, unhide HGA, j, rfl, unhide HPJ⟩
    · obtain ⟨t, ht, hk⟩ := PL_last hpj.fe
      have HPJ := hide hpj
      have HT := hide ht
      have HK := hide (show t.k ≠ 15 by omega)
      have HXJ := hide hxj.out
      clear hpj ht hxj hk
      go_wp2_with fail
      refine (pskip_no 15 _ _ _ _ _ _ _ _ _ _ _ _ (unhide HPJ) (unhide HT) (unhide HK)).mono ?_
      rintro e w2 ⟨rfl, rfl⟩
      go_wp2_with fail
      go_ret
      rw [unhide HXJ]
      exact ⟨unhide HFJ, _, rfl, NMj, unhide HPJ⟩
end Go.Proofs.YtidakhhekofkoaaGreatDoor
