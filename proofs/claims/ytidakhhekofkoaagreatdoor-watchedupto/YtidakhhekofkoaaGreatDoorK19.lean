/- Formulas of the program in memory; the program's makers of formulas; names kept by the parser. -/
import Derived.Test.YtidakhhekofkoaaGreatDoorK17
import Derived.Deep.RegionHeld
import Derived.Deep.AppendLies
import Derived.Deep.DeepCutAuto
set_option linter.unusedSimpArgs false
open List renaming setIfInBounds_toArray → zA, set_cons_zero → zB, set_cons_succ → zC, getElem_toArray → zD, getElem_cons_succ → zE, getElem_cons_zero → zF
namespace Go.Proofs.YtidakhhekofkoaaGreatDoor
open Go.RowKit Go.Deep
def IsG (w : World) : Fm → Option Addr → Prop
 | .nil, p => p = none
 | .node _ _ a l r, p => ∃ b pl pr, p = some ⟨b, 0, none⟩ ∧ w.heap[b]? = some (.cells #[.int .i64 a.1, .string a.2.1, .pointer pl, .pointer pr] 270 (0, 0)) ∧ IsG w l pl ∧ IsG w r pr
theorem IsG.keep {w w' : World} (hk : ∀ (b : Nat) (c : Array Value) (m : Nat × Nat), w.heap[b]? = some (.cells c 270 m) → w'.heap[b]? = w.heap[b]?) : ∀ {f : Fm} {v : Option Addr}, IsG w f v → IsG w' f v
 | .nil, _, h => h
 | .node _ _ _ _ _, _, ⟨b, vl, vr, hv, hb, hl, hr'⟩ => ⟨b, vl, vr, hv, (hk b _ _ hb).trans hb, IsG.keep hk hl, IsG.keep hk hr'⟩
theorem IsG.later {w w' : World} (hb : Below w.heap.size w w') {f : Fm} {v : Option Addr} (hf : IsG w f v) : IsG w' f v :=
 hf.keep (fun b _ _ h => hb.block b (lt_of_blk h))
set_option maxHeartbeats 400000 in
theorem fTwo_any (k : Nat) (f g : Fm) (vf vg : Option Addr) (w : World) :
  Calls Tryz.prog 227 #[.int .i64 (k : Int), .pointer vf, .pointer vg] w fun e w' => ∃ v, e = .returned (.pointer v) ∧ (IsG w f vf → IsG w g vg → IsG w' (two k f g) v) ∧ Below w.heap.size w w' := by
 go_enter Tryz.func227, Tryz.ntmps227
 go_wp2_with fail
 go_ret
 have hb : Below w.heap.size w (w.alloc (.cells #[.int .i64 (k : Int), .string ⟨#[]⟩, .pointer vf, .pointer vg] 270)) := (Below.refl _ _).alloc (Nat.le_refl _) _
 exact ⟨_, rfl, fun hf hg => ⟨w.heap.size, vf, vg, rfl, blk_alloc _ _, hf.later hb, hg.later hb⟩, hb⟩
set_option maxHeartbeats 400000 in
theorem fOne_any (k : Nat) (f : Fm) (vf : Option Addr) (w : World) :
  Calls Tryz.prog 269 #[.int .i64 (k : Int), .pointer vf] w fun e w' => ∃ v, e = .returned (.pointer v) ∧ (IsG w f vf → IsG w' (one k f) v) ∧ Below w.heap.size w w' := by
 go_enter Tryz.func269, Tryz.ntmps269
 go_wp2_with fail
 go_ret
 have hb : Below w.heap.size w (w.alloc (.cells #[.int .i64 (k : Int), .string ⟨#[]⟩, .pointer vf, .pointer none] 270)) := (Below.refl _ _).alloc (Nat.le_refl _) _
 exact ⟨_, rfl, fun hf => ⟨w.heap.size, vf, none, rfl, blk_alloc _ _, hf.later hb, rfl⟩, hb⟩
set_option maxHeartbeats 400000 in
theorem fWord_any (k : Nat) (w : World) :
  Calls Tryz.prog 268 #[.int .i64 (k : Int)] w fun e w' => ∃ v, e = .returned (.pointer v) ∧ IsG w' (leaf k ByteArray.empty 0) v ∧ Below w.heap.size w w' := by
 go_enter Tryz.func268, Tryz.ntmps268
 go_wp2_with fail
 go_ret
 have hb : Below w.heap.size w (w.alloc (.cells #[.int .i64 (k : Int), .string ⟨#[]⟩, .pointer none, .pointer none] 270)) := (Below.refl _ _).alloc (Nat.le_refl _) _
 exact ⟨_, rfl, ⟨w.heap.size, none, none, rfl, blk_alloc _ _, rfl, rfl⟩, hb⟩
set_option maxHeartbeats 400000 in
theorem fActivity_any (s : ByteArray) (w : World) :
  Calls Tryz.prog 162 #[.string s] w fun e w' => ∃ v, e = .returned (.pointer v) ∧ (∀ p, IsG w' (leaf 0 s p) v) ∧ Below w.heap.size w w' := by
 go_enter Tryz.func162, Tryz.ntmps162
 go_wp2_with fail
 go_ret
 have hb : Below w.heap.size w (w.alloc (.cells #[.int .i64 0, .string s, .pointer none, .pointer none] 270)) := (Below.refl _ _).alloc (Nat.le_refl _) _
 exact ⟨_, rfl, fun _ => ⟨w.heap.size, none, none, rfl, blk_alloc _ _, rfl, rfl⟩, hb⟩
structure PF (pb B : Nat) (w w' : World) : Prop where
 os : w'.os = w.os
 tape : w'.tape = w.tape
 output : w'.output = w.output
 size : w.heap.size ≤ w'.heap.size
 keep : ∀ k, k < w.heap.size → k ≠ pb → (k < B ∨ ¬ TyAt w k 201) → w'.heap[k]? = w.heap[k]?
theorem PF.trans {pb B : Nat} {w w1 w2 : World} (h : PF pb B w w1) (h' : PF pb B w1 w2) : PF pb B w w2 :=
 ⟨h'.os.trans h.os, h'.tape.trans h.tape, h'.output.trans h.output, Nat.le_trans h.size h'.size, fun k hk hp hc => by
  have e := h.keep k hk hp hc
  refine (h'.keep k (Nat.lt_of_lt_of_le hk h.size) hp ?_).trans e
  rcases hc with hc | hc
  ·exact Or.inl hc
  ·refine Or.inr ?_
   rintro ⟨c, m, hh⟩
   exact hc ⟨c, m, by rw [← e]; exact hh⟩⟩
theorem PF.grown {pb B : Nat} {w w' : World} (h : w.grownBy w' (some pb)) : PF pb B w w' := ⟨h.os, h.tape, h.output, h.size, fun k hk hp _ => h.block k hk (by intro e; cases e; exact hp rfl)⟩
theorem PF.below {pb B : Nat} {w w' : World} (h : Below w.heap.size w w') : PF pb B w w' := PF.grown (grown_below h _)
theorem own_is {w : World} {base e size n : Nat} {v : Value} {xs : List Value} (h : w.ownsRow base e size v n xs) {k : Nat} (hk : v.ownBlock = some k) : base ≤ k ∧ TyAt w k e := by
 obtain ⟨_, h2 | ⟨g, cap, cur, hv, hg, hh, _⟩⟩ := h
 ·rw [h2.1] at hk; cases hk
 ·rw [hv] at hk; cases hk; exact ⟨hg, cur, _, hh⟩
theorem PF.row {pb B : Nat} {w w' : World} {v : Value} {n : Nat} {xs : List Value} (hown : w.ownsRow B 201 3 v n xs) (h : w.grownBy w' v.ownBlock) : PF pb B w w' :=
 ⟨h.os, h.tape, h.output, h.size, fun k hk _ hc => h.block k hk (by
  intro e
  have := own_is hown e.symm
  rcases hc with hc | hc
  ·omega
  ·exact hc this.2)⟩
theorem PF.isG {w w' : World} {pb g cap B : Nat} {L : List Tk} {i : Nat} {bad : Bool} {q : Nat} {NM : List Tk} (hp : PP w pb g cap B L i bad q NM) (h : PF pb B w w') {f : Fm} {v : Option Addr} (hf : IsG w f v) : IsG w' f v :=
 hf.keep (fun b c m hb => h.keep b (lt_of_blk hb) (by
  rintro rfl
  obtain ⟨_, _, _, h1, _⟩ := hp.blk
  rw [h1] at hb; simp at hb) (Or.inr (by rintro ⟨c', m', h'⟩; rw [hb] at h'; simp at h')))
set_option maxHeartbeats 2000000 in
set_option maxRecDepth 100000 in
theorem activity_of (w : World) (pb g cap B : Nat) (L : List Tk) (i : Nat) (NM : List Tk) (t : Tk) (h : PP w pb g cap B L i false 0 NM) (j : Nat) (bad' : Bool) (q' : Nat) (hj : j < L.length) (hn : bad' = false → NM.length + 1 ≤ j)
  (hT : Calls Tryz.prog 153 #[.pointer (some ⟨pb, 0, none⟩), .int .i64 2] w fun e w' => e = .returned (tkP t) ∧ Mv w w' pb g cap L.length i false 0 j bad' q') :
  Calls Tryz.prog 295 #[.pointer (some ⟨pb, 0, none⟩)] w fun e w' => ∃ p, e = .returned (.pointer p) ∧ IsG w' (leaf 0 t.s t.p) p ∧ PP w' pb g cap B L j bad' q' (NM ++ [t]) ∧ PF pb B w w' := by
 obtain ⟨i0, hi, hz0, hz1, hz2⟩ := info_parts Tryz.infoTokP
 have hnm : NM.length ≤ 401 := by have := h.nm rfl; have := h.lt; have := h.len; omega
 have HP := hide h
 have HT := hide hT
 clear h hT
 go_enter Tryz.func295, Tryz.ntmps295
 go_wp2_with fail
 refine (unhide HT).mono ?_
 rintro e w1 ⟨rfl, hm⟩
 have hp1 := (unhide HP).move hm hj (fun e => by have := hn e; omega)
 have hf1 : PF pb B w w1 := PF.grown hm.gr
 have HP1 := hide hp1
 have HF1 := hide hf1
 obtain ⟨no, nn, nc, h1, hown⟩ := hp1.blk
 have hpb := hp1.pLt
 have hBw := hp1.hB
 have hgB := hp1.gB
 have hpB := hp1.pB
 have bc := fun o => cell_of_blk h1 o
 have bf := fun o => frozen_of_blk h1 o
 have HO := hide hown
 have H1 := hide h1
 have hpn : (Value.slice no nn nc).ownBlock ≠ some pb := by intro e; have := own_is hown e; omega
 have hxn : (Value.slice no nn nc).ownBlock ≠ some w1.heap.size := by intro e; have := own_lt hown _ e; omega
 clear hp1 hf1 hm hown h1 HT
 simp only [tkP]
 go_wp2_with fail
 refine wp_region_held_drew (S := fun w' => w'.cell? ⟨w1.heap.size, 0, none⟩ = some (.int .i64 t.k) ∧ w'.cell? ⟨w1.heap.size, 1, none⟩ = some (.string t.s) ∧ w'.cell? ⟨w1.heap.size, 2, none⟩ = some (.int .i64 t.p)) (by kernel_rfl) ?_ (fun hHeld => ?_)
 ·refine ⟨?_, ?_, ?_⟩ <;> simp
 refine wpAnyH_take (i := 0) (v := .pointer (some ⟨pb, 0, none⟩)) rfl (by kernel_rfl) (by kernel_rfl) (by kernel_rfl) (fun _ _ _ h => h) (Or.inl ⟨by kernel_rfl, fun w hw => by obtain ⟨s0, s1, s2⟩ := hw; go_simp⟩) hHeld ?_
 try simp only [Act.put, zA, zB, zC, zD, zE, zF]
 refine wpAnyH_take (i := 1) (v := .pointer (some ⟨pb, 0, none⟩)) rfl (by kernel_rfl) (by kernel_rfl) (by kernel_rfl) (fun _ _ _ h => h) (Or.inl ⟨by kernel_rfl, fun w hw => by obtain ⟨s0, s1, s2⟩ := hw; go_simp⟩) hHeld ?_
 try simp only [Act.put, zA, zB, zC, zD, zE, zF]
 refine wpAnyH_take (i := 2) (v := .pointer (some ⟨pb, 0, none⟩)) rfl (by kernel_rfl) (by kernel_rfl) (by kernel_rfl) (fun _ _ _ h => h) (Or.inl ⟨by kernel_rfl, fun w hw => by obtain ⟨s0, s1, s2⟩ := hw; go_simp⟩) hHeld ?_
 try simp only [Act.put, zA, zB, zC, zD, zE, zF]
 refine wpAnyH_take (i := 3) (v := .pointer (some ⟨pb, 3, none⟩)) rfl (by kernel_rfl) (by kernel_rfl) (by kernel_rfl) (fun _ _ _ h => h) (Or.inl ⟨by kernel_rfl, fun w hw => by obtain ⟨s0, s1, s2⟩ := hw; go_simp⟩) hHeld ?_
 try simp only [Act.put, zA, zB, zC, zD, zE, zF]
 refine wpAnyH_take (i := 5) (v := .agg #[.int .i64 t.k, .string t.s, .int .i64 t.p]) rfl (by kernel_rfl) (by kernel_rfl) (by kernel_rfl) (fun _ _ _ h => h) (Or.inl ⟨by kernel_rfl, fun w hw => by obtain ⟨s0, s1, s2⟩ := hw; go_simp⟩) hHeld ?_
 try simp only [Act.put, zA, zB, zC, zD, zE, zF]
 refine wpAnyH_ready (rs := [4, 6]) (by kernel_rfl) (by simp) ?_
 refine AllReadyH.cons rfl (fun K hK => ?_) (AllReadyH.cons rfl (fun K hK => ?_) AllReadyH.nil)
 ·go_simp
  refine hK.out _ _ hHeld (fun hHeld => ?_)
  clear hK K
  refine wpAnyH_ready (rs := [6]) (by kernel_rfl) (by simp) ?_
  refine AllReadyH.cons rfl (fun K hK => ?_) AllReadyH.nil
  go_simp
  refine hK.out _ _ (by refine ⟨?_, ?_, ?_⟩ <;> simp) (fun hHeld => ?_)
  clear hK K
  refine wpAnyH_ready (rs := [7]) (by kernel_rfl) (by simp) ?_
  refine AllReadyH.cons rfl (fun K hK => ?_) AllReadyH.nil
  refine step_append_lies _ (by rfl) _ _ 125 (by rfl) B 201 i0 (.agg #[.int .i64 0, .string ⟨#[]⟩, .int .i64 0]) 3 32 Tryz.underlying125 hi hz0 hz1 hz2 rfl (by decide) (.slice no nn nc) NM.length (tkCellsP NM) (by rfl) ?c0 ⟨w1.heap.size + 1, 0, none⟩ 1 1 [.int .i64 t.k, .string t.s, .int .i64 t.p] (by rfl) rfl ?c1 ?c2 (by decide) ?c3 ?c4 ?c5 (w1.heap.size + 2) (by simp) ?_
  case c0 => exact owns_later (unhide HO) (((Below.refl _ _).alloc (Nat.le_refl _) _).alloc (by simp) _).drew
  case c1 =>
   intro j u hj
   match j, hj with
   | 0, hj => simp at hj; subst hj; simp [Addr.add]
   | 1, hj => simp at hj; subst hj; simp [Addr.add]
   | 2, hj => simp at hj; subst hj; simp [Addr.add]
   | j + 3, hj => simp at hj
  case c2 => intro u hu; simp at hu; rcases hu with rfl | rfl | rfl <;> rfl
  case c3 => unfold maxLen; omega
  case c4 => omega
  case c5 => simp; omega
  intro g2 cap2 w2 hown2 hgrow hat hlt2
  have hbx2 : w2.heap[w1.heap.size]? = some (.cells #[.int .i64 t.k, .string t.s, .int .i64 t.p] 201 (0, 0)) := (hgrow.block _ (by simp; omega) (fun e => hxn e.symm)).trans ((Below.heap_alloc _ _ _ (by simp)).trans (blk_alloc _ _))
  have hpb2 := (hgrow.block pb (by simp; omega) (fun e => hpn e.symm)).trans ((Below.heap_alloc _ _ _ (by simp; omega)).trans ((Below.heap_alloc _ _ _ hpb).trans (unhide H1)))
  have hz2 : w1.heap.size < w2.heap.size := lt_of_blk hbx2
  have hzp2 : pb < w2.heap.size := lt_of_blk hpb2
  have hs2 : w2.cell? ⟨w1.heap.size, 0, none⟩ = some (.int .i64 t.k) ∧ w2.cell? ⟨w1.heap.size, 1, none⟩ = some (.string t.s) ∧ w2.cell? ⟨w1.heap.size, 2, none⟩ = some (.int .i64 t.p) := ⟨cell_of_blk hbx2 0, cell_of_blk hbx2 1, cell_of_blk hbx2 2⟩
  refine hK.out _ _ hs2 (fun hHeld => ?_)
  clear hK K bc bf
  have bc := fun o => cell_of_blk hpb2 o
  have bf := fun o => frozen_of_blk hpb2 o
  have HX2 := hide hbx2
  have HB2 := hide hpb2
  have HF2 := hide (((unhide HF1).trans (PF.below (pb := pb) (B := B) (((Below.refl w1.heap.size w1).alloc (Nat.le_refl _) (.cells #[.int .i64 t.k, .string t.s, .int .i64 t.p] 201)).alloc (by simp) (.cells #[.int .i64 t.k, .string t.s, .int .i64 t.p] 201)).drew)).trans (PF.row (owns_later (unhide HO) (((Below.refl _ _).alloc (Nat.le_refl _) _).alloc (by simp) _).drew) hgrow))
  have HOW := hide hown2
  have hrow2 : ∃ cur, w2.heap[g]? = some (.cells cur 201 (0, 0)) ∧ cur.toList.take (L.length * 3) = tkCellsP L := by
   obtain ⟨cur, h3, h4⟩ := (unhide HP1).row
   exact ⟨cur, (hgrow.block g (by have := lt_of_blk h3; simp; omega) (by intro e; have := own_is (unhide HO) e.symm; omega)).trans ((Below.heap_alloc _ _ _ (by have := lt_of_blk h3; simp; omega)).trans ((Below.heap_alloc _ _ _ (lt_of_blk h3)).trans h3)), h4⟩
  have HROW := hide hrow2
  have hg2n : g2 ≠ pb := by
   rintro rfl
   rcases hat with e | e
   ·exact hpn e
   ·omega
  clear hgrow hbx2 hpb2 hown2 hrow2 hs2
  refine wpAnyH_take (i := 8) (v := .pointer (some ⟨pb, 0, none⟩)) rfl (by kernel_rfl) (by kernel_rfl) (by kernel_rfl) (fun _ _ _ h => h) (Or.inl ⟨by kernel_rfl, fun w hw => by obtain ⟨s0, s1, s2⟩ := hw; go_simp⟩) hHeld ?_
  try simp only [Act.put, zA, zB, zC, zD, zE, zF]
  refine wpAnyH_take (i := 9) (v := .pointer (some ⟨pb, 3, none⟩)) rfl (by kernel_rfl) (by kernel_rfl) (by kernel_rfl) (fun _ _ _ h => h) (Or.inl ⟨by kernel_rfl, fun w hw => by obtain ⟨s0, s1, s2⟩ := hw; go_simp⟩) hHeld ?_
  try simp only [Act.put, zA, zB, zC, zD, zE, zF]
  refine wpAnyH_ready (rs := [10]) (by kernel_rfl) (by simp) ?_
  refine AllReadyH.cons rfl (fun K hK => ?_) AllReadyH.nil
  go_simp
  refine hK.out _ _ (by obtain ⟨s0, s1, s2⟩ := hHeld; refine ⟨?_, ?_, ?_⟩ <;> (rw [World.cell?_setCell_far _ _ _ _ (by show pb ≠ w1.heap.size; omega)]; assumption)) (fun hHeld => ?_)
  clear hK K
  refine wpAnyH_done (by kernel_rfl) ?_ _
  obtain ⟨s0, s1, s2⟩ := hHeld
  clear bc bf
  go_wp2_with fail
  refine (fActivity_any t.s _).mono ?_
  rintro e w4 ⟨v, rfl, hv, hb4⟩
  have HV := hide hv
  have HB4 := hide hb4
  clear hv hb4
  go_wp2_with fail
  go_ret
  have hPP3 : PP (w2.setCell ⟨pb, 3, none⟩ (.slice (some ⟨g2, 0, none⟩) (NM.length + 1) cap2)) pb g cap B L j bad' q' (NM ++ [t]) := by
   obtain ⟨cur, h3, h4⟩ := unhide HROW
   refine ⟨⟨some ⟨g2, 0, none⟩, NM.length + 1, cap2, blk_set (unhide HB2) 3 _, ?_⟩, ⟨cur, (Below.heap_setCell _ _ _ _ (by show g ≠ pb; exact (unhide HP1).ne)).trans h3, h4⟩, (unhide HP1).le, (unhide HP1).capLe, (unhide HP1).len, (unhide HP1).lt, (unhide HP1).fe, (unhide HP1).ok, hgB, hpB, by simp [World.setCell]; omega, fun e => by simp; exact hn e⟩
   rw [tkCellsP_snoc, List.length_append]
   exact owns_keep (unhide HOW) (grown_set _ _ _ _) (Or.inr (by intro e; cases e; exact hg2n rfl))
  have hF3 : PF pb B w (w2.setCell ⟨pb, 3, none⟩ (.slice (some ⟨g2, 0, none⟩) (NM.length + 1) cap2)) := (unhide HF2).trans (PF.grown (grown_set _ _ _ _))
  exact ⟨v, rfl, unhide HV t.p, hPP3.later (unhide HB4), hF3.trans (PF.below (unhide HB4))⟩
 ·go_simp
  refine hK.out _ _ (by refine ⟨?_, ?_, ?_⟩ <;> simp) (fun hHeld => ?_)
  clear hK K
  refine wpAnyH_ready (rs := [4]) (by kernel_rfl) (by simp) ?_
  refine AllReadyH.cons rfl (fun K hK => ?_) AllReadyH.nil
  go_simp
  refine hK.out _ _ hHeld (fun hHeld => ?_)
  clear hK K
  refine wpAnyH_ready (rs := [7]) (by kernel_rfl) (by simp) ?_
  refine AllReadyH.cons rfl (fun K hK => ?_) AllReadyH.nil
  refine step_append_lies _ (by rfl) _ _ 125 (by rfl) B 201 i0 (.agg #[.int .i64 0, .string ⟨#[]⟩, .int .i64 0]) 3 32 Tryz.underlying125 hi hz0 hz1 hz2 rfl (by decide) (.slice no nn nc) NM.length (tkCellsP NM) (by rfl) ?c0 ⟨w1.heap.size + 1, 0, none⟩ 1 1 [.int .i64 t.k, .string t.s, .int .i64 t.p] (by rfl) rfl ?c1 ?c2 (by decide) ?c3 ?c4 ?c5 (w1.heap.size + 2) (by simp) ?_
  case c0 => exact owns_later (unhide HO) (((Below.refl _ _).alloc (Nat.le_refl _) _).alloc (by simp) _).drew
  case c1 =>
   intro j u hj
   match j, hj with
   | 0, hj => simp at hj; subst hj; simp [Addr.add]
   | 1, hj => simp at hj; subst hj; simp [Addr.add]
   | 2, hj => simp at hj; subst hj; simp [Addr.add]
   | j + 3, hj => simp at hj
  case c2 => intro u hu; simp at hu; rcases hu with rfl | rfl | rfl <;> rfl
  case c3 => unfold maxLen; omega
  case c4 => omega
  case c5 => simp; omega
  intro g2 cap2 w2 hown2 hgrow hat hlt2
  have hbx2 : w2.heap[w1.heap.size]? = some (.cells #[.int .i64 t.k, .string t.s, .int .i64 t.p] 201 (0, 0)) := (hgrow.block _ (by simp; omega) (fun e => hxn e.symm)).trans ((Below.heap_alloc _ _ _ (by simp)).trans (blk_alloc _ _))
  have hpb2 := (hgrow.block pb (by simp; omega) (fun e => hpn e.symm)).trans ((Below.heap_alloc _ _ _ (by simp; omega)).trans ((Below.heap_alloc _ _ _ hpb).trans (unhide H1)))
  have hz2 : w1.heap.size < w2.heap.size := lt_of_blk hbx2
  have hzp2 : pb < w2.heap.size := lt_of_blk hpb2
  have hs2 : w2.cell? ⟨w1.heap.size, 0, none⟩ = some (.int .i64 t.k) ∧ w2.cell? ⟨w1.heap.size, 1, none⟩ = some (.string t.s) ∧ w2.cell? ⟨w1.heap.size, 2, none⟩ = some (.int .i64 t.p) := ⟨cell_of_blk hbx2 0, cell_of_blk hbx2 1, cell_of_blk hbx2 2⟩
  refine hK.out _ _ hs2 (fun hHeld => ?_)
  clear hK K bc bf
  have bc := fun o => cell_of_blk hpb2 o
  have bf := fun o => frozen_of_blk hpb2 o
  have HX2 := hide hbx2
  have HB2 := hide hpb2
  have HF2 := hide (((unhide HF1).trans (PF.below (pb := pb) (B := B) (((Below.refl w1.heap.size w1).alloc (Nat.le_refl _) (.cells #[.int .i64 t.k, .string t.s, .int .i64 t.p] 201)).alloc (by simp) (.cells #[.int .i64 t.k, .string t.s, .int .i64 t.p] 201)).drew)).trans (PF.row (owns_later (unhide HO) (((Below.refl _ _).alloc (Nat.le_refl _) _).alloc (by simp) _).drew) hgrow))
  have HOW := hide hown2
  have hrow2 : ∃ cur, w2.heap[g]? = some (.cells cur 201 (0, 0)) ∧ cur.toList.take (L.length * 3) = tkCellsP L := by
   obtain ⟨cur, h3, h4⟩ := (unhide HP1).row
   exact ⟨cur, (hgrow.block g (by have := lt_of_blk h3; simp; omega) (by intro e; have := own_is (unhide HO) e.symm; omega)).trans ((Below.heap_alloc _ _ _ (by have := lt_of_blk h3; simp; omega)).trans ((Below.heap_alloc _ _ _ (lt_of_blk h3)).trans h3)), h4⟩
  have HROW := hide hrow2
  have hg2n : g2 ≠ pb := by
   rintro rfl
   rcases hat with e | e
   ·exact hpn e
   ·omega
  clear hgrow hbx2 hpb2 hown2 hrow2 hs2
  refine wpAnyH_take (i := 8) (v := .pointer (some ⟨pb, 0, none⟩)) rfl (by kernel_rfl) (by kernel_rfl) (by kernel_rfl) (fun _ _ _ h => h) (Or.inl ⟨by kernel_rfl, fun w hw => by obtain ⟨s0, s1, s2⟩ := hw; go_simp⟩) hHeld ?_
  try simp only [Act.put, zA, zB, zC, zD, zE, zF]
  refine wpAnyH_take (i := 9) (v := .pointer (some ⟨pb, 3, none⟩)) rfl (by kernel_rfl) (by kernel_rfl) (by kernel_rfl) (fun _ _ _ h => h) (Or.inl ⟨by kernel_rfl, fun w hw => by obtain ⟨s0, s1, s2⟩ := hw; go_simp⟩) hHeld ?_
  try simp only [Act.put, zA, zB, zC, zD, zE, zF]
  refine wpAnyH_ready (rs := [10]) (by kernel_rfl) (by simp) ?_
  refine AllReadyH.cons rfl (fun K hK => ?_) AllReadyH.nil
  go_simp
  refine hK.out _ _ (by obtain ⟨s0, s1, s2⟩ := hHeld; refine ⟨?_, ?_, ?_⟩ <;> (rw [World.cell?_setCell_far _ _ _ _ (by show pb ≠ w1.heap.size; omega)]; assumption)) (fun hHeld => ?_)
  clear hK K
  refine wpAnyH_done (by kernel_rfl) ?_ _
  obtain ⟨s0, s1, s2⟩ := hHeld
  clear bc bf
  go_wp2_with fail
  refine (fActivity_any t.s _).mono ?_
  rintro e w4 ⟨v, rfl, hv, hb4⟩
  have HV := hide hv
  have HB4 := hide hb4
  clear hv hb4
  go_wp2_with fail
  go_ret
  have hPP3 : PP (w2.setCell ⟨pb, 3, none⟩ (.slice (some ⟨g2, 0, none⟩) (NM.length + 1) cap2)) pb g cap B L j bad' q' (NM ++ [t]) := by
   obtain ⟨cur, h3, h4⟩ := unhide HROW
   refine ⟨⟨some ⟨g2, 0, none⟩, NM.length + 1, cap2, blk_set (unhide HB2) 3 _, ?_⟩, ⟨cur, (Below.heap_setCell _ _ _ _ (by show g ≠ pb; exact (unhide HP1).ne)).trans h3, h4⟩, (unhide HP1).le, (unhide HP1).capLe, (unhide HP1).len, (unhide HP1).lt, (unhide HP1).fe, (unhide HP1).ok, hgB, hpB, by simp [World.setCell]; omega, fun e => by simp; exact hn e⟩
   rw [tkCellsP_snoc, List.length_append]
   exact owns_keep (unhide HOW) (grown_set _ _ _ _) (Or.inr (by intro e; cases e; exact hg2n rfl))
  have hF3 : PF pb B w (w2.setCell ⟨pb, 3, none⟩ (.slice (some ⟨g2, 0, none⟩) (NM.length + 1) cap2)) := (unhide HF2).trans (PF.grown (grown_set _ _ _ _))
  exact ⟨v, rfl, unhide HV t.p, hPP3.later (unhide HB4), hF3.trans (PF.below (unhide HB4))⟩
def GLeft (L : List Tk) (pb g cap B : Nat) (NM : List Tk) (w w' : World) (e : Ending) (x : Rd) : Prop :=
 PF pb B w w' ∧ ∃ p, e = .returned (.pointer p) ∧ (match x with
  | .ok (f, l) => IsG w' f p ∧ ∃ i, PL L i = l ∧ PP w' pb g cap B L i false 0 (NM ++ lvs f)
  | .error q => ∃ NM', PP w' pb g cap B L (L.length - 1) true q NM')
def GU (n : Nat) : Prop := ∀ (w : World) (pb g cap B : Nat) (L : List Tk) (i : Nat) (NM : List Tk), PP w pb g cap B L i false 0 NM → 6 * (PL L i).length + 1 ≤ n →
 Calls Tryz.prog 290 #[.pointer (some ⟨pb, 0, none⟩)] w fun e w' => GLeft L pb g cap B NM w w' e (pf n 4 .nil (PL L i))
def GT (n : Nat) : Prop := ∀ (w : World) (pb g cap B : Nat) (L : List Tk) (i : Nat) (NM : List Tk), PP w pb g cap B L i false 0 NM → 6 * (PL L i).length + 2 ≤ n →
 Calls Tryz.prog 286 #[.pointer (some ⟨pb, 0, none⟩)] w fun e w' => GLeft L pb g cap B NM w w' e (pf n 3 .nil (PL L i))
def GA (n : Nat) : Prop := ∀ (w : World) (pb g cap B : Nat) (L : List Tk) (i : Nat) (NM : List Tk), PP w pb g cap B L i false 0 NM → 6 * (PL L i).length + 3 ≤ n →
 Calls Tryz.prog 264 #[.pointer (some ⟨pb, 0, none⟩)] w fun e w' => GLeft L pb g cap B NM w w' e (pf n 2 .nil (PL L i))
def GO (n : Nat) : Prop := ∀ (w : World) (pb g cap B : Nat) (L : List Tk) (i : Nat) (NM : List Tk), PP w pb g cap B L i false 0 NM → 6 * (PL L i).length + 4 ≤ n →
 Calls Tryz.prog 226 #[.pointer (some ⟨pb, 0, none⟩)] w fun e w' => GLeft L pb g cap B NM w w' e (pf n 1 .nil (PL L i))
def GF (n : Nat) : Prop := ∀ (w : World) (pb g cap B : Nat) (L : List Tk) (i : Nat) (NM : List Tk), PP w pb g cap B L i false 0 NM → 6 * (PL L i).length + 5 ≤ n →
 Calls Tryz.prog 193 #[.pointer (some ⟨pb, 0, none⟩)] w fun e w' => GLeft L pb g cap B NM w w' e (pf n 0 .nil (PL L i))
def mapOne (k : Nat) : Rd → Rd
 | .error q => .error q
 | .ok (a, l) => .ok (one k a, l)
def brk : Rd → Rd
 | .error q => .error q
 | .ok (a, l) => if headK l = 19 then .ok (a, l.tail) else .error (headP l)
theorem PP.step {w w' : World} {pb g cap B : Nat} {L : List Tk} {i : Nat} {NM : List Tk} (h : PP w pb g cap B L i false 0 NM) (hm : Mv w w' pb g cap L.length i false 0 (i + 1) false 0) {t : Tk} {r : List Tk} (ht : PL L i = t :: r) (hk : 2 ≤ t.k) : PP w' pb g cap B L (i + 1) false 0 NM :=
 h.move hm (h.fe.nextLt ht (by omega)) (fun _ => by have := h.nm rfl; omega)
theorem PP.lost {w w' : World} {pb g cap B : Nat} {L : List Tk} {i : Nat} {bad : Bool} {q q' : Nat} {NM : List Tk} (h : PP w pb g cap B L i bad q NM) (hm : Mv w w' pb g cap L.length i bad q (L.length - 1) true q') : PP w' pb g cap B L (L.length - 1) true q' NM :=
 h.move hm (by have := h.lt; omega) (fun e => by cases e)
set_option maxHeartbeats 1000000 in
theorem pword_any (k : Nat) (w : World) (pb g cap B : Nat) (L : List Tk) (i : Nat) (NM : List Tk) (t : Tk) (r : List Tk) (h : PP w pb g cap B L i false 0 NM) (ht : PL L i = t :: r) (hk : 2 ≤ t.k) (hk0 : k ≠ 0) :
  Calls Tryz.prog 294 #[.pointer (some ⟨pb, 0, none⟩), .int .i64 (k : Int)] w fun e w' => GLeft L pb g cap B NM w w' e (.ok (leaf k ByteArray.empty 0, r)) := by
 have HP := hide h
 have HT := hide ht
 have HK0 := hide hk0
 clear h ht hk0
 go_enter Tryz.func294, Tryz.ntmps294
 go_wp2_with fail
 refine (pnext_any _ _ _ _ _ _ _ _ _ _ _ _ (unhide HP) (unhide HT)).mono ?_
 rintro e w1 ⟨rfl, rfl⟩
 go_wp2_with fail
 refine (ptake_yes t.k _ _ _ _ _ _ _ _ _ _ _ _ (unhide HP) (unhide HT) rfl hk).mono ?_
 rintro e w2 ⟨rfl, hm⟩
 have HP2 := hide ((unhide HP).step hm (unhide HT) hk)
 have HF2 := hide (PF.grown (B := B) hm.gr)
 clear hm
 simp only [tkP]
 go_wp2_with fail
 refine (fWord_any k _).mono ?_
 rintro e w3 ⟨v, rfl, hv, hb⟩
 have HV := hide hv
 have HB := hide hb
 clear hv hb
 go_wp2_with fail
 go_ret
 exact ⟨(unhide HF2).trans (PF.below (unhide HB)), v, rfl, unhide HV, i + 1, PL_next (unhide HT) hk, by rw [lvs_leaf (unhide HK0), List.append_nil]; exact (unhide HP2).later (unhide HB)⟩
set_option maxHeartbeats 1000000 in
theorem poperator_any (n : Nat) (hU : GU n) (k : Nat) (w : World) (pb g cap B : Nat) (L : List Tk) (i : Nat) (NM : List Tk) (t : Tk) (r : List Tk) (h : PP w pb g cap B L i false 0 NM) (ht : PL L i = t :: r) (hk : 2 ≤ t.k) (hk0 : k ≠ 0) (hn : 6 * r.length + 1 ≤ n) :
  Calls Tryz.prog 292 #[.pointer (some ⟨pb, 0, none⟩), .int .i64 (k : Int)] w fun e w' => GLeft L pb g cap B NM w w' e (mapOne k (pf n 4 .nil r)) := by
 have HU := hide hU
 have HP := hide h
 have HT := hide ht
 have HK0 := hide hk0
 have hr := PL_next ht hk
 have HR := hide hr
 clear h ht hk0 hU hr
 go_enter Tryz.func292, Tryz.ntmps292
 go_wp2_with fail
 refine (pnext_any _ _ _ _ _ _ _ _ _ _ _ _ (unhide HP) (unhide HT)).mono ?_
 rintro e w1 ⟨rfl, rfl⟩
 go_wp2_with fail
 refine (ptake_yes t.k _ _ _ _ _ _ _ _ _ _ _ _ (unhide HP) (unhide HT) rfl hk).mono ?_
 rintro e w2 ⟨rfl, hm⟩
 have HP2 := hide ((unhide HP).step hm (unhide HT) hk)
 have HF2 := hide (PF.grown (B := B) hm.gr)
 clear hm
 simp only [tkP]
 go_wp2_with fail
 refine ((unhide HU) _ _ _ _ _ _ _ _ (unhide HP2) (by rw [unhide HR]; exact hn)).mono ?_
 rw [unhide HR]
 rintro e w3 ⟨hf3, p3, rfl, hx3⟩
 have HF3 := hide hf3
 have HX3 := hide hx3
 clear hf3 hx3
 go_wp2_with fail
 cases hpf : pf n 4 .nil r with
 | error q =>
  obtain ⟨NM3, hp3⟩ : ∃ NM', PP w3 pb g cap B L (L.length - 1) true q NM' := by have := unhide HX3; rw [hpf] at this; exact this
  have HP3 := hide hp3
  have HX : Hid (mapOne k (pf n 4 .nil r) = .error q) := by show _ = _; rw [hpf]; rfl
  clear hp3 hpf HX3
  refine (fOne_any k .nil p3 _).mono ?_
  rintro e w4 ⟨v, rfl, -, hb⟩
  have HB := hide hb
  clear hb
  go_wp2_with fail
  go_ret
  rw [unhide HX]
  exact ⟨((unhide HF2).trans (unhide HF3)).trans (PF.below (unhide HB)), v, rfl, NM3, (unhide HP3).later (unhide HB)⟩
 | ok x =>
  obtain ⟨a, l1⟩ := x
  obtain ⟨hg3, i3, hl3, hp3⟩ : IsG w3 a p3 ∧ ∃ i, PL L i = l1 ∧ PP w3 pb g cap B L i false 0 (NM ++ lvs a) := by have := unhide HX3; rw [hpf] at this; exact this
  have HP3 := hide hp3
  have HG3 := hide hg3
  have HL3 := hide hl3
  have HX : Hid (mapOne k (pf n 4 .nil r) = .ok (one k a, l1)) := by show _ = _; rw [hpf]; rfl
  clear hp3 hpf HX3 hg3 hl3
  refine (fOne_any k a p3 _).mono ?_
  rintro e w4 ⟨v, rfl, hv, hb⟩
  have HB := hide hb
  have HV := hide (hv (unhide HG3))
  clear hb hv
  go_wp2_with fail
  go_ret
  rw [unhide HX]
  exact ⟨((unhide HF2).trans (unhide HF3)).trans (PF.below (unhide HB)), v, rfl, unhide HV, i3, unhide HL3, by rw [lvs_one (unhide HK0)]; exact (unhide HP3).later (unhide HB)⟩
set_option maxHeartbeats 1000000 in
theorem pbracket_any (n : Nat) (hU : GF n) (w : World) (pb g cap B : Nat) (L : List Tk) (i : Nat) (NM : List Tk) (t : Tk) (r : List Tk) (h : PP w pb g cap B L i false 0 NM) (ht : PL L i = t :: r) (hk : t.k = 18) (hn : 6 * r.length + 5 ≤ n) :
  Calls Tryz.prog 293 #[.pointer (some ⟨pb, 0, none⟩)] w fun e w' => GLeft L pb g cap B NM w w' e (brk (pf n 0 .nil r)) := by
 have HU := hide hU
 have HP := hide h
 have HT := hide ht
 have hr := PL_next ht (by omega)
 have HR := hide hr
 have HK := hide hk
 clear h ht hU hr hk
 go_enter Tryz.func293, Tryz.ntmps293
 go_wp2_with fail
 refine (ptake_yes 18 _ _ _ _ _ _ _ _ _ _ _ _ (unhide HP) (unhide HT) (unhide HK) (by decide)).mono ?_
 rintro e w2 ⟨rfl, hm⟩
 have HP2 := hide ((unhide HP).step hm (unhide HT) (by have := unhide HK; omega))
 have HF2 := hide (PF.grown (B := B) hm.gr)
 clear hm
 simp only [tkP]
 go_wp2_with fail
 refine ((unhide HU) _ _ _ _ _ _ _ _ (unhide HP2) (by rw [unhide HR]; exact hn)).mono ?_
 rw [unhide HR]
 rintro e w3 ⟨hf3, p3, rfl, hx3⟩
 have HF3 := hide hf3
 have HX3 := hide hx3
 clear hf3 hx3
 go_wp2_with fail
 cases hpf : pf n 0 .nil r with
 | error q =>
  obtain ⟨NM3, hp3⟩ : ∃ NM', PP w3 pb g cap B L (L.length - 1) true q NM' := by have := unhide HX3; rw [hpf] at this; exact this
  obtain ⟨t3, ht3, hk3⟩ := PL_last hp3.fe
  have HP3 := hide hp3
  have HT3 := hide ht3
  have hk19 : t3.k ≠ 19 := by omega
  have HK19 := hide hk19
  have HX : Hid (brk (pf n 0 .nil r) = .error q) := by show _ = _; rw [hpf]; rfl
  clear hp3 hpf HX3 ht3 hk3 hk19
  refine (ptake_no 19 _ _ _ _ _ _ _ _ _ _ _ _ (unhide HP3) (unhide HT3) (unhide HK19)).mono ?_
  rintro e w4 ⟨rfl, hm⟩
  have HP4 := hide ((unhide HP3).lost hm)
  have HF4 := hide (PF.grown (B := B) hm.gr)
  clear hm
  simp only [tkP]
  go_wp2_with fail
  go_ret
  rw [unhide HX]
  exact ⟨((unhide HF2).trans (unhide HF3)).trans (unhide HF4), p3, rfl, NM3, unhide HP4⟩
 | ok x =>
  obtain ⟨a, l1⟩ := x
  obtain ⟨hg3, i3, hl3, hp3⟩ : IsG w3 a p3 ∧ ∃ i, PL L i = l1 ∧ PP w3 pb g cap B L i false 0 (NM ++ lvs a) := by have := unhide HX3; rw [hpf] at this; exact this
  subst hl3
  have HP3 := hide hp3
  have HG3 := hide hg3
  by_cases h19 : headK (PL L i3) = 19
  ·obtain ⟨t3, u3, r3, ht3, hk3⟩ := head_yes (PL_ends hp3.fe hp3.lt) (by decide) h19
   have HX : Hid (brk (pf n 0 .nil r) = .ok (a, u3 :: r3)) := by show _ = _; rw [hpf]; show (if headK (PL L i3) = 19 then (.ok (a, (PL L i3).tail) : Rd) else .error (headP (PL L i3))) = _; rw [if_pos h19, ht3]; rfl
   have HT3 := hide ht3
   have HK3 := hide hk3
   clear hp3 hpf HX3 hg3 ht3 hk3 h19
   refine (ptake_yes 19 _ _ _ _ _ _ _ _ _ _ _ _ (unhide HP3) (unhide HT3) (unhide HK3) (by decide)).mono ?_
   rintro e w4 ⟨rfl, hm⟩
   have HP4 := hide ((unhide HP3).step hm (unhide HT3) (by have := unhide HK3; omega))
   have HF4 := hide (PF.grown (B := B) hm.gr)
   clear hm
   simp only [tkP]
   go_wp2_with fail
   go_ret
   rw [unhide HX]
   exact ⟨((unhide HF2).trans (unhide HF3)).trans (unhide HF4), p3, rfl, (unhide HF4).isG (unhide HP3) (unhide HG3), i3 + 1, PL_next (unhide HT3) (by have := unhide HK3; omega), unhide HP4⟩
  ·obtain ⟨t3, r3, ht3, hk3⟩ := head_no (PL_ends hp3.fe hp3.lt) h19
   have HX : Hid (brk (pf n 0 .nil r) = .error t3.p) := by show _ = _; rw [hpf]; show (if headK (PL L i3) = 19 then (.ok (a, (PL L i3).tail) : Rd) else .error (headP (PL L i3))) = _; rw [if_neg h19, ht3]; rfl
   have HT3 := hide ht3
   have HK3 := hide hk3
   clear hp3 hpf HX3 hg3 ht3 hk3 h19
   refine (ptake_no 19 _ _ _ _ _ _ _ _ _ _ _ _ (unhide HP3) (unhide HT3) (unhide HK3)).mono ?_
   rintro e w4 ⟨rfl, hm⟩
   have HP4 := hide ((unhide HP3).lost hm)
   have HF4 := hide (PF.grown (B := B) hm.gr)
   clear hm
   simp only [tkP]
   go_wp2_with fail
   go_ret
   rw [unhide HX]
   exact ⟨((unhide HF2).trans (unhide HF3)).trans (unhide HF4), p3, rfl, _, unhide HP4⟩
set_option maxHeartbeats 1000000 in
theorem puntil_step (n : Nat) (hU : GU n) (hV : GU n) : GT (n + 1) := by
 intro w pb g cap B L i NM h hn
 have HU := hide hU
 have HV2 := hide hV
 have HP := hide h
 clear hU hV h
 go_enter Tryz.func286, Tryz.ntmps286
 go_wp2_with fail
 refine ((unhide HU) _ _ _ _ _ _ _ _ (unhide HP) (by omega)).mono ?_
 rintro e w1 ⟨hf1, p, rfl, hx⟩
 have HF1 := hide hf1
 cases hpf : pf n 4 .nil (PL L i) with
 | error q =>
  have HX : Hid (pf (n + 1) 3 .nil (PL L i) = .error q) := by show _ = _; rw [pf, hpf]
  rw [hpf] at hx
  obtain ⟨NM1, hp1⟩ := hx
  obtain ⟨t, ht, hk⟩ := PL_last hp1.fe
  have HP1 := hide hp1
  have HT := hide ht
  have HK := hide (show t.k ≠ 13 by omega)
  clear hp1 hf1 ht hpf hk
  go_wp2_with fail
  refine (pskip_no 13 _ _ _ _ _ _ _ _ _ _ _ _ (unhide HP1) (unhide HT) (unhide HK)).mono ?_
  rintro e w2 ⟨rfl, rfl⟩
  go_wp2_with fail
  go_ret
  rw [unhide HX]
  exact ⟨unhide HF1, _, rfl, NM1, unhide HP1⟩
 | ok x =>
  obtain ⟨a, l1⟩ := x
  have hlen := pf_len _ _ _ _ _ _ hpf
  rw [hpf] at hx
  obtain ⟨hg1, i1, hl1, hp1⟩ := hx
  subst hl1
  by_cases h13 : headK (PL L i1) = 13
  ·obtain ⟨t, u, r, ht, hk⟩ := head_yes (PL_ends hp1.fe hp1.lt) (by decide) h13
   have ht2 := PL_next ht (by omega)
   have hX : pf (n + 1) 3 .nil (PL L i) = (match pf n 4 .nil (PL L (i1 + 1)) with | .error q => .error q | .ok (b, l2) => .ok (two 9 a b, l2)) := by
    rw [pf, hpf]; simp only [h13, if_true]; rw [ht, ht2]; rfl
   have HX := hide hX
   have hlt2 : 6 * (PL L (i1 + 1)).length + 1 ≤ n := by rw [ht2]; rw [ht] at hlen; simp only [List.length_cons] at hlen ⊢; omega
   have HL := hide hlt2
   have HG1 := hide hg1
   have HP1 := hide hp1
   have HT := hide ht
   have HK := hide hk
   clear hp1 hf1 ht hpf hX h13 hk hg1 ht2 hlt2
   go_wp2_with fail
   refine (pskip_yes 13 _ _ _ _ _ _ _ _ _ _ _ _ (unhide HP1) (unhide HT) (unhide HK) (by decide)).mono ?_
   rintro e w2 ⟨rfl, hm⟩
   have HP2 := hide ((unhide HP1).step hm (unhide HT) (by have := unhide HK; omega))
   have HF2 := hide (PF.grown (B := B) hm.gr)
   clear hm
   go_wp2_with fail
   refine ((unhide HV2) _ _ _ _ _ _ _ _ (unhide HP2) (unhide HL)).mono ?_
   rintro e w3 ⟨hf3, p3, rfl, hx3⟩
   have HGA := hide (hf3.isG (unhide HP2) ((unhide HF2).isG (unhide HP1) (unhide HG1)))
   have HF3 := hide hf3
   clear hf3
   go_wp2_with fail
   cases hpf3 : pf n 4 .nil (PL L (i1 + 1)) with
   | error q =>
    rw [hpf3] at hx3
    have HX3 : Hid (pf (n + 1) 3 .nil (PL L i) = .error q) := by show _ = _; rw [unhide HX, hpf3]
    obtain ⟨NM3, hp3⟩ := hx3
    have HP3 := hide hp3
    clear hp3 hpf3
    refine (fTwo_any 9 .nil .nil p p3 _).mono ?_
    rintro e w4 ⟨v, rfl, -, hb4⟩
    have HB4 := hide hb4
    clear hb4
    go_wp2_with fail
    go_ret
    rw [unhide HX3]
    exact ⟨(((unhide HF1).trans (unhide HF2)).trans (unhide HF3)).trans (PF.below (unhide HB4)), _, rfl, NM3, (unhide HP3).later (unhide HB4)⟩
   | ok x =>
    obtain ⟨b, l2⟩ := x
    rw [hpf3] at hx3
    have HX3 : Hid (pf (n + 1) 3 .nil (PL L i) = .ok (two 9 a b, l2)) := by show _ = _; rw [unhide HX, hpf3]
    obtain ⟨hg3, i3, hl3, hp3⟩ := hx3
    have HP3 := hide hp3
    have HQ3 := hide hl3
    have HGB := hide hg3
    clear hp3 hl3 hpf3 hg3
    refine (fTwo_any 9 a b p p3 _).mono ?_
    rintro e w4 ⟨v, rfl, hv, hb4⟩
    have HB4 := hide hb4
    have HV := hide (hv (unhide HGA) (unhide HGB))
    clear hb4 hv
    go_wp2_with fail
    go_ret
    rw [unhide HX3]
    exact ⟨(((unhide HF1).trans (unhide HF2)).trans (unhide HF3)).trans (PF.below (unhide HB4)), _, rfl, unhide HV, i3, unhide HQ3, by rw [lvs_two (by decide), ← List.append_assoc]; exact (unhide HP3).later (unhide HB4)⟩
  ·obtain ⟨t, r, ht, hk⟩ := head_no (PL_ends hp1.fe hp1.lt) h13
   have HX : Hid (pf (n + 1) 3 .nil (PL L i) = .ok (a, PL L i1)) := by show _ = _; rw [pf, hpf]; simp only [h13, if_false]
   have HG1 := hide hg1
   have HP1 := hide hp1
   have HT := hide ht
   have HK := hide hk
   clear hp1 hf1 ht hpf h13 hk hg1
   go_wp2_with fail
   refine (pskip_no 13 _ _ _ _ _ _ _ _ _ _ _ _ (unhide HP1) (unhide HT) (unhide HK)).mono ?_
   rintro e w2 ⟨rfl, rfl⟩
   go_wp2_with fail
   go_ret
   rw [unhide HX]
   exact ⟨unhide HF1, _, rfl, unhide HG1, i1, rfl, unhide HP1⟩
set_option maxHeartbeats 1000000 in
theorem pformula_step (n : Nat) (hU : GO n) (hV : GF n) : GF (n + 1) := by
 intro w pb g cap B L i NM h hn
 have HU := hide hU
 have HV2 := hide hV
 have HP := hide h
 clear hU hV h
 go_enter Tryz.func193, Tryz.ntmps193
 go_wp2_with fail
 refine ((unhide HU) _ _ _ _ _ _ _ _ (unhide HP) (by omega)).mono ?_
 rintro e w1 ⟨hf1, p, rfl, hx⟩
 have HF1 := hide hf1
 cases hpf : pf n 1 .nil (PL L i) with
 | error q =>
  have HX : Hid (pf (n + 1) 0 .nil (PL L i) = .error q) := by show _ = _; rw [pf, hpf]
  rw [hpf] at hx
  obtain ⟨NM1, hp1⟩ := hx
  obtain ⟨t, ht, hk⟩ := PL_last hp1.fe
  have HP1 := hide hp1
  have HT := hide ht
  have HK := hide (show t.k ≠ 14 by omega)
  clear hp1 hf1 ht hpf hk
  go_wp2_with fail
  refine (pskip_no 14 _ _ _ _ _ _ _ _ _ _ _ _ (unhide HP1) (unhide HT) (unhide HK)).mono ?_
  rintro e w2 ⟨rfl, rfl⟩
  go_wp2_with fail
  go_ret
  rw [unhide HX]
  exact ⟨unhide HF1, _, rfl, NM1, unhide HP1⟩
 | ok x =>
  obtain ⟨a, l1⟩ := x
  have hlen := pf_len _ _ _ _ _ _ hpf
  rw [hpf] at hx
  obtain ⟨hg1, i1, hl1, hp1⟩ := hx
  subst hl1
  by_cases h13 : headK (PL L i1) = 14
  ·obtain ⟨t, u, r, ht, hk⟩ := head_yes (PL_ends hp1.fe hp1.lt) (by decide) h13
   have ht2 := PL_next ht (by omega)
   have hX : pf (n + 1) 0 .nil (PL L i) = (match pf n 0 .nil (PL L (i1 + 1)) with | .error q => .error q | .ok (b, l2) => .ok (two 12 a b, l2)) := by
    rw [pf, hpf]; simp only [h13, if_true]; rw [ht, ht2]; rfl
   have HX := hide hX
   have hlt2 : 6 * (PL L (i1 + 1)).length + 5 ≤ n := by rw [ht2]; rw [ht] at hlen; simp only [List.length_cons] at hlen ⊢; omega
   have HL := hide hlt2
   have HG1 := hide hg1
   have HP1 := hide hp1
   have HT := hide ht
   have HK := hide hk
   clear hp1 hf1 ht hpf hX h13 hk hg1 ht2 hlt2
   go_wp2_with fail
   refine (pskip_yes 14 _ _ _ _ _ _ _ _ _ _ _ _ (unhide HP1) (unhide HT) (unhide HK) (by decide)).mono ?_
   rintro e w2 ⟨rfl, hm⟩
   have HP2 := hide ((unhide HP1).step hm (unhide HT) (by have := unhide HK; omega))
   have HF2 := hide (PF.grown (B := B) hm.gr)
   clear hm
   go_wp2_with fail
   refine ((unhide HV2) _ _ _ _ _ _ _ _ (unhide HP2) (unhide HL)).mono ?_
   rintro e w3 ⟨hf3, p3, rfl, hx3⟩
   have HGA := hide (hf3.isG (unhide HP2) ((unhide HF2).isG (unhide HP1) (unhide HG1)))
   have HF3 := hide hf3
   clear hf3
   go_wp2_with fail
   cases hpf3 : pf n 0 .nil (PL L (i1 + 1)) with
   | error q =>
    rw [hpf3] at hx3
    have HX3 : Hid (pf (n + 1) 0 .nil (PL L i) = .error q) := by show _ = _; rw [unhide HX, hpf3]
    obtain ⟨NM3, hp3⟩ := hx3
    have HP3 := hide hp3
    clear hp3 hpf3
    refine (fTwo_any 12 .nil .nil p p3 _).mono ?_
    rintro e w4 ⟨v, rfl, -, hb4⟩
    have HB4 := hide hb4
    clear hb4
    go_wp2_with fail
    go_ret
    rw [unhide HX3]
    exact ⟨(((unhide HF1).trans (unhide HF2)).trans (unhide HF3)).trans (PF.below (unhide HB4)), _, rfl, NM3, (unhide HP3).later (unhide HB4)⟩
   | ok x =>
    obtain ⟨b, l2⟩ := x
    rw [hpf3] at hx3
    have HX3 : Hid (pf (n + 1) 0 .nil (PL L i) = .ok (two 12 a b, l2)) := by show _ = _; rw [unhide HX, hpf3]
    obtain ⟨hg3, i3, hl3, hp3⟩ := hx3
    have HP3 := hide hp3
    have HQ3 := hide hl3
    have HGB := hide hg3
    clear hp3 hl3 hpf3 hg3
    refine (fTwo_any 12 a b p p3 _).mono ?_
    rintro e w4 ⟨v, rfl, hv, hb4⟩
    have HB4 := hide hb4
    have HV := hide (hv (unhide HGA) (unhide HGB))
    clear hb4 hv
    go_wp2_with fail
    go_ret
    rw [unhide HX3]
    exact ⟨(((unhide HF1).trans (unhide HF2)).trans (unhide HF3)).trans (PF.below (unhide HB4)), _, rfl, unhide HV, i3, unhide HQ3, by rw [lvs_two (by decide), ← List.append_assoc]; exact (unhide HP3).later (unhide HB4)⟩
  ·obtain ⟨t, r, ht, hk⟩ := head_no (PL_ends hp1.fe hp1.lt) h13
   have HX : Hid (pf (n + 1) 0 .nil (PL L i) = .ok (a, PL L i1)) := by show _ = _; rw [pf, hpf]; simp only [h13, if_false]
   have HG1 := hide hg1
   have HP1 := hide hp1
   have HT := hide ht
   have HK := hide hk
   clear hp1 hf1 ht hpf h13 hk hg1
   go_wp2_with fail
   refine (pskip_no 14 _ _ _ _ _ _ _ _ _ _ _ _ (unhide HP1) (unhide HT) (unhide HK)).mono ?_
   rintro e w2 ⟨rfl, rfl⟩
   go_wp2_with fail
   go_ret
   rw [unhide HX]
   exact ⟨unhide HF1, _, rfl, unhide HG1, i1, rfl, unhide HP1⟩
set_option maxHeartbeats 1000000 in
theorem pand_step (n : Nat) (hU : ∀ m, m ≤ n → GT m) : GA (n + 1) := by
  intro w pb g cap B L i NM h hn
  have HU := hide hU
  have HP := hide h
  clear hU h
  go_enter Tryz.func264, Tryz.ntmps264
  go_wp2_with fail
  refine ((unhide HU) n (Nat.le_refl _) _ _ _ _ _ _ _ _ (unhide HP) (by omega)).mono ?_
  rintro e w1 ⟨hf1, p, rfl, hx⟩
  have hstart : ∃ pa, (Value.pointer p = .pointer pa) ∧ PF pb B w w1 ∧
      ((∃ acc j, n ≤ n ∧ 6 * (PL L j).length + 1 ≤ n ∧ IsG w1 acc pa ∧ PP w1 pb g cap B L j false 0 (NM ++ lvs acc) ∧ Hid (pf (n + 1) 2 .nil (PL L i) = pf n 6 acc (PL L j))) ∨
       (∃ q NM', PP w1 pb g cap B L (L.length - 1) true q NM' ∧ Hid (pf (n + 1) 2 .nil (PL L i) = .error q))) := by
    refine ⟨p, rfl, hf1, ?_⟩
    cases hpf : pf n 3 .nil (PL L i) with
    | error q =>
      rw [hpf] at hx
      obtain ⟨NM1, hp1⟩ := hx
      exact Or.inr ⟨q, NM1, hp1, by show _ = _; rw [pf, hpf]⟩
    | ok x =>
      obtain ⟨a, l1⟩ := x
      have hlen := pf_len _ _ _ _ _ _ hpf
      rw [hpf] at hx
      obtain ⟨hg1, i1, hl1, hp1⟩ := hx
      exact Or.inl ⟨a, i1, Nat.le_refl _, by rw [hl1]; omega, hg1, hp1, by show _ = _; rw [pf, hpf, hl1]⟩
  have HS := hide hstart
  clear hstart hx hf1
  go_wp2_with fail
  go_loopg [3] n (fun m v wr => ∃ pa, v = .pointer pa ∧ PF pb B w wr ∧
      ((∃ acc j, m ≤ n ∧ 6 * (PL L j).length + 1 ≤ m ∧ IsG wr acc pa ∧ PP wr pb g cap B L j false 0 (NM ++ lvs acc) ∧ Hid (pf (n + 1) 2 .nil (PL L i) = pf m 6 acc (PL L j))) ∨
       (∃ q NM', PP wr pb g cap B L (L.length - 1) true q NM' ∧ Hid (pf (n + 1) 2 .nil (PL L i) = .error q))))
  case atStart => exact unhide HS
  case round =>
    clear HS
    obtain ⟨pa, rfl, hgj, hcase⟩ := hrel
    have HFJ := hide hgj
    clear hgj
    rcases hcase with ⟨acc, j, hm, hmj, hga, hpj, hxj⟩ | ⟨q, NMj, hpj, hxj⟩
    · obtain ⟨m, rfl⟩ : ∃ m, gk = m + 1 := ⟨gk - 1, by omega⟩
      by_cases h16 : headK (PL L j) = 16
      · obtain ⟨t, u, r, ht, hk⟩ := head_yes (PL_ends hpj.fe hpj.lt) (by decide) h16
        have ht2 := PL_next ht (by omega)
        have HXJ : Hid (pf (n + 1) 2 .nil (PL L i) = (match pf m 3 .nil (PL L (j + 1)) with | .error q => .error q | .ok (b, l2) => pf m 6 (two 10 acc b) l2)) := by
          show _ = _
          rw [hxj.out, pf]; simp only [h16, if_true]; rw [ht, ht2]; rfl
        have hlt2 : 6 * (PL L (j + 1)).length + 2 ≤ m := by rw [ht2]; rw [ht] at hmj; simp only [List.length_cons] at hmj ⊢; omega
        have HL := hide hlt2
        have HGA := hide hga
        have HPJ := hide hpj
        have HT := hide ht
        have HK := hide hk
        clear hpj ht h16 hk hga ht2 hlt2 hxj
        go_wp2_with fail
        refine (pskip_yes 16 _ _ _ _ _ _ _ _ _ _ _ _ (unhide HPJ) (unhide HT) (unhide HK) (by decide)).mono ?_
        rintro e w2 ⟨rfl, hmv⟩
        have HP2 := hide ((unhide HPJ).step hmv (unhide HT) (by have := unhide HK; omega))
        have HF2 := hide (PF.grown (B := B) hmv.gr)
        clear hmv
        go_wp2_with fail
        refine ((unhide HU) m (by omega) _ _ _ _ _ _ _ _ (unhide HP2) (unhide HL)).mono ?_
        rintro e w3 ⟨hf3, p3, rfl, hx3⟩
        have HG3 := hide (hf3.isG (unhide HP2) ((unhide HF2).isG (unhide HPJ) (unhide HGA)))
        have HF3 := hide hf3
        clear hf3
        go_wp2_with fail
        cases hpf3 : pf m 3 .nil (PL L (j + 1)) with
        | error q =>
          rw [hpf3] at hx3
          obtain ⟨NM3, hp3⟩ := hx3
          have HX3 : Hid (pf (n + 1) 2 .nil (PL L i) = .error q) := by show _ = _; rw [unhide HXJ, hpf3]
          have HP3 := hide hp3
          clear hp3 hpf3
          refine (fTwo_any 10 .nil .nil pa p3 _).mono ?_
          rintro e w4 ⟨v, rfl, -, hb4⟩
          have HB4 := hide hb4
          clear hb4
          go_wp2_with fail
          go_roundg m
          case measure => omega
          case rel => exact ⟨_, rfl, (((unhide HFJ).trans (unhide HF2)).trans (unhide HF3)).trans (PF.below (unhide HB4)), Or.inr ⟨q, NM3, (unhide HP3).later (unhide HB4), unhide HX3⟩⟩
        | ok x =>
          obtain ⟨b, l2⟩ := x
          have hlen3 := pf_len _ _ _ _ _ _ hpf3
          rw [hpf3] at hx3
          obtain ⟨hg3, i3, hl3, hp3⟩ := hx3
          subst hl3
          have HX3 : Hid (pf (n + 1) 2 .nil (PL L i) = pf m 6 (two 10 acc b) (PL L i3)) := by show _ = _; rw [unhide HXJ, hpf3]
          have HP3 := hide hp3
          have HGB := hide hg3
          have hl3 : 6 * (PL L i3).length + 1 ≤ m := by have := unhide HL; omega
          clear hp3 hpf3 hg3 hlen3
          refine (fTwo_any 10 acc b pa p3 _).mono ?_
          rintro e w4 ⟨v, rfl, hv, hb4⟩
          have HB4 := hide hb4
          have HV := hide (hv (unhide HG3) (unhide HGB))
          clear hb4 hv
          go_wp2_with fail
          go_roundg m
          case measure => omega
          case rel => exact ⟨_, rfl, (((unhide HFJ).trans (unhide HF2)).trans (unhide HF3)).trans (PF.below (unhide HB4)), Or.inl ⟨_, i3, by omega, hl3, unhide HV, by rw [lvs_two (by decide), ← List.append_assoc]; exact (unhide HP3).later (unhide HB4), unhide HX3⟩⟩
      · obtain ⟨t, r, ht, hk⟩ := head_no (PL_ends hpj.fe hpj.lt) h16
        have HX : Hid (pf (n + 1) 2 .nil (PL L i) = .ok (acc, PL L j)) := by show _ = _; rw [hxj.out, pf]; simp only [h16, if_false]
        have HGA := hide hga
        have HPJ := hide hpj
        have HT := hide ht
        have HK := hide hk
        clear hpj ht h16 hk hga hxj
        go_wp2_with fail
        refine (pskip_no 16 _ _ _ _ _ _ _ _ _ _ _ _ (unhide HPJ) (unhide HT) (unhide HK)).mono ?_
        rintro e w2 ⟨rfl, rfl⟩
        go_wp2_with fail
        go_ret
        rw [unhide HX]
        exact ⟨unhide HFJ, _, rfl, unhide HGA, j, rfl, unhide HPJ⟩
    · obtain ⟨t, ht, hk⟩ := PL_last hpj.fe
      have HPJ := hide hpj
      have HT := hide ht
      have HK := hide (show t.k ≠ 16 by omega)
      have HXJ := hide hxj.out
      clear hpj ht hxj hk
      go_wp2_with fail
      refine (pskip_no 16 _ _ _ _ _ _ _ _ _ _ _ _ (unhide HPJ) (unhide HT) (unhide HK)).mono ?_
      rintro e w2 ⟨rfl, rfl⟩
      go_wp2_with fail
      go_ret
      rw [unhide HXJ]
      exact ⟨unhide HFJ, _, rfl, NMj, unhide HPJ⟩
set_option maxHeartbeats 1000000 in
theorem por_step (n : Nat) (hU : ∀ m, m ≤ n → GA m) : GO (n + 1) := by
  intro w pb g cap B L i NM h hn
  have HU := hide hU
  have HP := hide h
  clear hU h
  go_enter Tryz.func226, Tryz.ntmps226
  go_wp2_with fail
  refine ((unhide HU) n (Nat.le_refl _) _ _ _ _ _ _ _ _ (unhide HP) (by omega)).mono ?_
  rintro e w1 ⟨hf1, p, rfl, hx⟩
  have hstart : ∃ pa, (Value.pointer p = .pointer pa) ∧ PF pb B w w1 ∧
      ((∃ acc j, n ≤ n ∧ 6 * (PL L j).length + 1 ≤ n ∧ IsG w1 acc pa ∧ PP w1 pb g cap B L j false 0 (NM ++ lvs acc) ∧ Hid (pf (n + 1) 1 .nil (PL L i) = pf n 5 acc (PL L j))) ∨
       (∃ q NM', PP w1 pb g cap B L (L.length - 1) true q NM' ∧ Hid (pf (n + 1) 1 .nil (PL L i) = .error q))) := by
    refine ⟨p, rfl, hf1, ?_⟩
    cases hpf : pf n 2 .nil (PL L i) with
    | error q =>
      rw [hpf] at hx
      obtain ⟨NM1, hp1⟩ := hx
      exact Or.inr ⟨q, NM1, hp1, by show _ = _; rw [pf, hpf]⟩
    | ok x =>
      obtain ⟨a, l1⟩ := x
      have hlen := pf_len _ _ _ _ _ _ hpf
      rw [hpf] at hx
      obtain ⟨hg1, i1, hl1, hp1⟩ := hx
      exact Or.inl ⟨a, i1, Nat.le_refl _, by rw [hl1]; omega, hg1, hp1, by show _ = _; rw [pf, hpf, hl1]⟩
  have HS := hide hstart
  clear hstart hx hf1
  go_wp2_with fail
  go_loopg [3] n (fun m v wr => ∃ pa, v = .pointer pa ∧ PF pb B w wr ∧
      ((∃ acc j, m ≤ n ∧ 6 * (PL L j).length + 1 ≤ m ∧ IsG wr acc pa ∧ PP wr pb g cap B L j false 0 (NM ++ lvs acc) ∧ Hid (pf (n + 1) 1 .nil (PL L i) = pf m 5 acc (PL L j))) ∨
       (∃ q NM', PP wr pb g cap B L (L.length - 1) true q NM' ∧ Hid (pf (n + 1) 1 .nil (PL L i) = .error q))))
  case atStart => exact unhide HS
  case round =>
    clear HS
    obtain ⟨pa, rfl, hgj, hcase⟩ := hrel
    have HFJ := hide hgj
    clear hgj
    rcases hcase with ⟨acc, j, hm, hmj, hga, hpj, hxj⟩ | ⟨q, NMj, hpj, hxj⟩
    · obtain ⟨m, rfl⟩ : ∃ m, gk = m + 1 := ⟨gk - 1, by omega⟩
      by_cases h16 : headK (PL L j) = 15
      · obtain ⟨t, u, r, ht, hk⟩ := head_yes (PL_ends hpj.fe hpj.lt) (by decide) h16
        have ht2 := PL_next ht (by omega)
        have HXJ : Hid (pf (n + 1) 1 .nil (PL L i) = (match pf m 2 .nil (PL L (j + 1)) with | .error q => .error q | .ok (b, l2) => pf m 5 (two 11 acc b) l2)) := by
          show _ = _
          rw [hxj.out, pf]; simp only [h16, if_true]; rw [ht, ht2]; rfl
        have hlt2 : 6 * (PL L (j + 1)).length + 3 ≤ m := by rw [ht2]; rw [ht] at hmj; simp only [List.length_cons] at hmj ⊢; omega
        have HL := hide hlt2
        have HGA := hide hga
        have HPJ := hide hpj
        have HT := hide ht
        have HK := hide hk
        clear hpj ht h16 hk hga ht2 hlt2 hxj
        go_wp2_with fail
        refine (pskip_yes 15 _ _ _ _ _ _ _ _ _ _ _ _ (unhide HPJ) (unhide HT) (unhide HK) (by decide)).mono ?_
        rintro e w2 ⟨rfl, hmv⟩
        have HP2 := hide ((unhide HPJ).step hmv (unhide HT) (by have := unhide HK; omega))
        have HF2 := hide (PF.grown (B := B) hmv.gr)
        clear hmv
        go_wp2_with fail
        refine ((unhide HU) m (by omega) _ _ _ _ _ _ _ _ (unhide HP2) (unhide HL)).mono ?_
        rintro e w3 ⟨hf3, p3, rfl, hx3⟩
        have HG3 := hide (hf3.isG (unhide HP2) ((unhide HF2).isG (unhide HPJ) (unhide HGA)))
        have HF3 := hide hf3
        clear hf3
        go_wp2_with fail
        cases hpf3 : pf m 2 .nil (PL L (j + 1)) with
        | error q =>
          rw [hpf3] at hx3
          obtain ⟨NM3, hp3⟩ := hx3
          have HX3 : Hid (pf (n + 1) 1 .nil (PL L i) = .error q) := by show _ = _; rw [unhide HXJ, hpf3]
          have HP3 := hide hp3
          clear hp3 hpf3
          refine (fTwo_any 11 .nil .nil pa p3 _).mono ?_
          rintro e w4 ⟨v, rfl, -, hb4⟩
          have HB4 := hide hb4
          clear hb4
          go_wp2_with fail
          go_roundg m
          case measure => omega
          case rel => exact ⟨_, rfl, (((unhide HFJ).trans (unhide HF2)).trans (unhide HF3)).trans (PF.below (unhide HB4)), Or.inr ⟨q, NM3, (unhide HP3).later (unhide HB4), unhide HX3⟩⟩
        | ok x =>
          obtain ⟨b, l2⟩ := x
          have hlen3 := pf_len _ _ _ _ _ _ hpf3
          rw [hpf3] at hx3
          obtain ⟨hg3, i3, hl3, hp3⟩ := hx3
          subst hl3
          have HX3 : Hid (pf (n + 1) 1 .nil (PL L i) = pf m 5 (two 11 acc b) (PL L i3)) := by show _ = _; rw [unhide HXJ, hpf3]
          have HP3 := hide hp3
          have HGB := hide hg3
          have hl3 : 6 * (PL L i3).length + 1 ≤ m := by have := unhide HL; omega
          clear hp3 hpf3 hg3 hlen3
          refine (fTwo_any 11 acc b pa p3 _).mono ?_
          rintro e w4 ⟨v, rfl, hv, hb4⟩
          have HB4 := hide hb4
          have HV := hide (hv (unhide HG3) (unhide HGB))
          clear hb4 hv
          go_wp2_with fail
          go_roundg m
          case measure => omega
          case rel => exact ⟨_, rfl, (((unhide HFJ).trans (unhide HF2)).trans (unhide HF3)).trans (PF.below (unhide HB4)), Or.inl ⟨_, i3, by omega, hl3, unhide HV, by rw [lvs_two (by decide), ← List.append_assoc]; exact (unhide HP3).later (unhide HB4), unhide HX3⟩⟩
      · obtain ⟨t, r, ht, hk⟩ := head_no (PL_ends hpj.fe hpj.lt) h16
        have HX : Hid (pf (n + 1) 1 .nil (PL L i) = .ok (acc, PL L j)) := by show _ = _; rw [hxj.out, pf]; simp only [h16, if_false]
        have HGA := hide hga
        have HPJ := hide hpj
        have HT := hide ht
        have HK := hide hk
        clear hpj ht h16 hk hga hxj
        go_wp2_with fail
        refine (pskip_no 15 _ _ _ _ _ _ _ _ _ _ _ _ (unhide HPJ) (unhide HT) (unhide HK)).mono ?_
        rintro e w2 ⟨rfl, rfl⟩
        go_wp2_with fail
        go_ret
        rw [unhide HX]
        exact ⟨unhide HFJ, _, rfl, unhide HGA, j, rfl, unhide HPJ⟩
    · obtain ⟨t, ht, hk⟩ := PL_last hpj.fe
      have HPJ := hide hpj
      have HT := hide ht
      have HK := hide (show t.k ≠ 15 by omega)
      have HXJ := hide hxj.out
      clear hpj ht hxj hk
      go_wp2_with fail
      refine (pskip_no 15 _ _ _ _ _ _ _ _ _ _ _ _ (unhide HPJ) (unhide HT) (unhide HK)).mono ?_
      rintro e w2 ⟨rfl, rfl⟩
      go_wp2_with fail
      go_ret
      rw [unhide HXJ]
      exact ⟨unhide HFJ, _, rfl, NMj, unhide HPJ⟩
theorem beqF {k c : Nat} (h : k ≠ c) : ((k : Int) == (c : Int)) = false := by simp; omega
theorem beqT {k c : Nat} (h : k = c) : ((k : Int) == (c : Int)) = true := by simp; omega
set_option maxHeartbeats 1000000 in
theorem unary_k17 (n : Nat) (hU : GU n) (w : World) (pb g cap B : Nat) (L : List Tk) (i : Nat) (NM : List Tk) (t : Tk) (r : List Tk) (h : PP w pb g cap B L i false 0 NM) (ht : PL L i = t :: r) (hk : t.k = 17) (hn : 6 * r.length + 1 ≤ n) :
  Calls Tryz.prog 290 #[.pointer (some ⟨pb, 0, none⟩)] w fun e w' => GLeft L pb g cap B NM w w' e (mapOne 4 (pf n 4 .nil r)) := by
 have HP := hide h
 have HT := hide ht
 have e17 : ((t.k : Int) == 17) = true := beqT (c := 17) hk
 have HK := hide hk
 have HU := hide hU
 clear h ht hk hU
 go_enter Tryz.func290, Tryz.ntmps290
 go_wp2_with fail
 refine (pnext_any _ _ _ _ _ _ _ _ _ _ _ _ (unhide HP) (unhide HT)).mono ?_
 rintro e w1 ⟨rfl, rfl⟩
 go_wp2_with fail
 refine (poperator_any n (unhide HU) 4 _ _ _ _ _ _ _ _ _ _ (unhide HP) (unhide HT) (by have := unhide HK; omega) (by decide) hn).mono ?_
 rintro e w2 ⟨hf, p, rfl, hx⟩
 have HF := hide hf
 have HX := hide hx
 clear hf hx
 go_wp2_with fail
 go_ret
 exact ⟨unhide HF, p, rfl, unhide HX⟩
set_option maxHeartbeats 1000000 in
theorem unary_k9 (n : Nat) (hU : GU n) (w : World) (pb g cap B : Nat) (L : List Tk) (i : Nat) (NM : List Tk) (t : Tk) (r : List Tk) (h : PP w pb g cap B L i false 0 NM) (ht : PL L i = t :: r) (hk : t.k = 9) (hn : 6 * r.length + 1 ≤ n) :
  Calls Tryz.prog 290 #[.pointer (some ⟨pb, 0, none⟩)] w fun e w' => GLeft L pb g cap B NM w w' e (mapOne 5 (pf n 4 .nil r)) := by
 have HP := hide h
 have HT := hide ht
 have e17 : ((t.k : Int) == 17) = false := beqF (c := 17) (by omega)
 have e9 : ((t.k : Int) == 9) = true := beqT (c := 9) hk
 have HK := hide hk
 have HU := hide hU
 clear h ht hk hU
 go_enter Tryz.func290, Tryz.ntmps290
 go_wp2_with fail
 refine (pnext_any _ _ _ _ _ _ _ _ _ _ _ _ (unhide HP) (unhide HT)).mono ?_
 rintro e w1 ⟨rfl, rfl⟩
 go_wp2_with fail
 refine (poperator_any n (unhide HU) 5 _ _ _ _ _ _ _ _ _ _ (unhide HP) (unhide HT) (by have := unhide HK; omega) (by decide) hn).mono ?_
 rintro e w2 ⟨hf, p, rfl, hx⟩
 have HF := hide hf
 have HX := hide hx
 clear hf hx
 go_wp2_with fail
 go_ret
 exact ⟨unhide HF, p, rfl, unhide HX⟩
set_option maxHeartbeats 1000000 in
theorem unary_k10 (n : Nat) (hU : GU n) (w : World) (pb g cap B : Nat) (L : List Tk) (i : Nat) (NM : List Tk) (t : Tk) (r : List Tk) (h : PP w pb g cap B L i false 0 NM) (ht : PL L i = t :: r) (hk : t.k = 10) (hn : 6 * r.length + 1 ≤ n) :
  Calls Tryz.prog 290 #[.pointer (some ⟨pb, 0, none⟩)] w fun e w' => GLeft L pb g cap B NM w w' e (mapOne 6 (pf n 4 .nil r)) := by
 have HP := hide h
 have HT := hide ht
 have e17 : ((t.k : Int) == 17) = false := beqF (c := 17) (by omega)
 have e9 : ((t.k : Int) == 9) = false := beqF (c := 9) (by omega)
 have e10 : ((t.k : Int) == 10) = true := beqT (c := 10) hk
 have HK := hide hk
 have HU := hide hU
 clear h ht hk hU
 go_enter Tryz.func290, Tryz.ntmps290
 go_wp2_with fail
 refine (pnext_any _ _ _ _ _ _ _ _ _ _ _ _ (unhide HP) (unhide HT)).mono ?_
 rintro e w1 ⟨rfl, rfl⟩
 go_wp2_with fail
 refine (poperator_any n (unhide HU) 6 _ _ _ _ _ _ _ _ _ _ (unhide HP) (unhide HT) (by have := unhide HK; omega) (by decide) hn).mono ?_
 rintro e w2 ⟨hf, p, rfl, hx⟩
 have HF := hide hf
 have HX := hide hx
 clear hf hx
 go_wp2_with fail
 go_ret
 exact ⟨unhide HF, p, rfl, unhide HX⟩
set_option maxHeartbeats 1000000 in
theorem unary_k11 (n : Nat) (hU : GU n) (w : World) (pb g cap B : Nat) (L : List Tk) (i : Nat) (NM : List Tk) (t : Tk) (r : List Tk) (h : PP w pb g cap B L i false 0 NM) (ht : PL L i = t :: r) (hk : t.k = 11) (hn : 6 * r.length + 1 ≤ n) :
  Calls Tryz.prog 290 #[.pointer (some ⟨pb, 0, none⟩)] w fun e w' => GLeft L pb g cap B NM w w' e (mapOne 7 (pf n 4 .nil r)) := by
 have HP := hide h
 have HT := hide ht
 have e17 : ((t.k : Int) == 17) = false := beqF (c := 17) (by omega)
 have e9 : ((t.k : Int) == 9) = false := beqF (c := 9) (by omega)
 have e10 : ((t.k : Int) == 10) = false := beqF (c := 10) (by omega)
 have e11 : ((t.k : Int) == 11) = true := beqT (c := 11) hk
 have HK := hide hk
 have HU := hide hU
 clear h ht hk hU
 go_enter Tryz.func290, Tryz.ntmps290
 go_wp2_with fail
 refine (pnext_any _ _ _ _ _ _ _ _ _ _ _ _ (unhide HP) (unhide HT)).mono ?_
 rintro e w1 ⟨rfl, rfl⟩
 go_wp2_with fail
 refine (poperator_any n (unhide HU) 7 _ _ _ _ _ _ _ _ _ _ (unhide HP) (unhide HT) (by have := unhide HK; omega) (by decide) hn).mono ?_
 rintro e w2 ⟨hf, p, rfl, hx⟩
 have HF := hide hf
 have HX := hide hx
 clear hf hx
 go_wp2_with fail
 go_ret
 exact ⟨unhide HF, p, rfl, unhide HX⟩
set_option maxHeartbeats 1000000 in
theorem unary_k12 (n : Nat) (hU : GU n) (w : World) (pb g cap B : Nat) (L : List Tk) (i : Nat) (NM : List Tk) (t : Tk) (r : List Tk) (h : PP w pb g cap B L i false 0 NM) (ht : PL L i = t :: r) (hk : t.k = 12) (hn : 6 * r.length + 1 ≤ n) :
  Calls Tryz.prog 290 #[.pointer (some ⟨pb, 0, none⟩)] w fun e w' => GLeft L pb g cap B NM w w' e (mapOne 8 (pf n 4 .nil r)) := by
 have HP := hide h
 have HT := hide ht
 have e17 : ((t.k : Int) == 17) = false := beqF (c := 17) (by omega)
 have e9 : ((t.k : Int) == 9) = false := beqF (c := 9) (by omega)
 have e10 : ((t.k : Int) == 10) = false := beqF (c := 10) (by omega)
 have e11 : ((t.k : Int) == 11) = false := beqF (c := 11) (by omega)
 have e12 : ((t.k : Int) == 12) = true := beqT (c := 12) hk
 have HK := hide hk
 have HU := hide hU
 clear h ht hk hU
 go_enter Tryz.func290, Tryz.ntmps290
 go_wp2_with fail
 refine (pnext_any _ _ _ _ _ _ _ _ _ _ _ _ (unhide HP) (unhide HT)).mono ?_
 rintro e w1 ⟨rfl, rfl⟩
 go_wp2_with fail
 refine (poperator_any n (unhide HU) 8 _ _ _ _ _ _ _ _ _ _ (unhide HP) (unhide HT) (by have := unhide HK; omega) (by decide) hn).mono ?_
 rintro e w2 ⟨hf, p, rfl, hx⟩
 have HF := hide hf
 have HX := hide hx
 clear hf hx
 go_wp2_with fail
 go_ret
 exact ⟨unhide HF, p, rfl, unhide HX⟩
set_option maxHeartbeats 1000000 in
theorem unary_k18 (n : Nat) (hU : GF n) (w : World) (pb g cap B : Nat) (L : List Tk) (i : Nat) (NM : List Tk) (t : Tk) (r : List Tk) (h : PP w pb g cap B L i false 0 NM) (ht : PL L i = t :: r) (hk : t.k = 18) (hn : 6 * r.length + 5 ≤ n) :
  Calls Tryz.prog 290 #[.pointer (some ⟨pb, 0, none⟩)] w fun e w' => GLeft L pb g cap B NM w w' e (brk (pf n 0 .nil r)) := by
 have HP := hide h
 have HT := hide ht
 have e17 : ((t.k : Int) == 17) = false := beqF (c := 17) (by omega)
 have e9 : ((t.k : Int) == 9) = false := beqF (c := 9) (by omega)
 have e10 : ((t.k : Int) == 10) = false := beqF (c := 10) (by omega)
 have e11 : ((t.k : Int) == 11) = false := beqF (c := 11) (by omega)
 have e12 : ((t.k : Int) == 12) = false := beqF (c := 12) (by omega)
 have e18 : ((t.k : Int) == 18) = true := beqT (c := 18) hk
 have HK := hide hk
 have HU := hide hU
 clear h ht hk hU
 go_enter Tryz.func290, Tryz.ntmps290
 go_wp2_with fail
 refine (pnext_any _ _ _ _ _ _ _ _ _ _ _ _ (unhide HP) (unhide HT)).mono ?_
 rintro e w1 ⟨rfl, rfl⟩
 go_wp2_with fail
 refine (pbracket_any n (unhide HU) _ _ _ _ _ _ _ _ _ _ (unhide HP) (unhide HT) (unhide HK) hn).mono ?_
 rintro e w2 ⟨hf, p, rfl, hx⟩
 have HF := hide hf
 have HX := hide hx
 clear hf hx
 go_wp2_with fail
 go_ret
 exact ⟨unhide HF, p, rfl, unhide HX⟩
set_option maxHeartbeats 1000000 in
theorem unary_k6 (w : World) (pb g cap B : Nat) (L : List Tk) (i : Nat) (NM : List Tk) (t : Tk) (r : List Tk) (h : PP w pb g cap B L i false 0 NM) (ht : PL L i = t :: r) (hk : t.k = 6) :
  Calls Tryz.prog 290 #[.pointer (some ⟨pb, 0, none⟩)] w fun e w' => GLeft L pb g cap B NM w w' e (.ok (leaf 1 ByteArray.empty 0, r)) := by
 have HP := hide h
 have HT := hide ht
 have e17 : ((t.k : Int) == 17) = false := beqF (c := 17) (by omega)
 have e9 : ((t.k : Int) == 9) = false := beqF (c := 9) (by omega)
 have e10 : ((t.k : Int) == 10) = false := beqF (c := 10) (by omega)
 have e11 : ((t.k : Int) == 11) = false := beqF (c := 11) (by omega)
 have e12 : ((t.k : Int) == 12) = false := beqF (c := 12) (by omega)
 have e18 : ((t.k : Int) == 18) = false := beqF (c := 18) (by omega)
 have e6 : ((t.k : Int) == 6) = true := beqT (c := 6) hk
 have HK := hide hk
 clear h ht hk
 go_enter Tryz.func290, Tryz.ntmps290
 go_wp2_with fail
 refine (pnext_any _ _ _ _ _ _ _ _ _ _ _ _ (unhide HP) (unhide HT)).mono ?_
 rintro e w1 ⟨rfl, rfl⟩
 go_wp2_with fail
 refine (pword_any 1 _ _ _ _ _ _ _ _ _ _ (unhide HP) (unhide HT) (by have := unhide HK; omega) (by decide)).mono ?_
 rintro e w2 ⟨hf, p, rfl, hx⟩
 have HF := hide hf
 have HX := hide hx
 clear hf hx
 go_wp2_with fail
 go_ret
 exact ⟨unhide HF, p, rfl, unhide HX⟩
set_option maxHeartbeats 1000000 in
theorem unary_k7 (w : World) (pb g cap B : Nat) (L : List Tk) (i : Nat) (NM : List Tk) (t : Tk) (r : List Tk) (h : PP w pb g cap B L i false 0 NM) (ht : PL L i = t :: r) (hk : t.k = 7) :
  Calls Tryz.prog 290 #[.pointer (some ⟨pb, 0, none⟩)] w fun e w' => GLeft L pb g cap B NM w w' e (.ok (leaf 2 ByteArray.empty 0, r)) := by
 have HP := hide h
 have HT := hide ht
 have e17 : ((t.k : Int) == 17) = false := beqF (c := 17) (by omega)
 have e9 : ((t.k : Int) == 9) = false := beqF (c := 9) (by omega)
 have e10 : ((t.k : Int) == 10) = false := beqF (c := 10) (by omega)
 have e11 : ((t.k : Int) == 11) = false := beqF (c := 11) (by omega)
 have e12 : ((t.k : Int) == 12) = false := beqF (c := 12) (by omega)
 have e18 : ((t.k : Int) == 18) = false := beqF (c := 18) (by omega)
 have e6 : ((t.k : Int) == 6) = false := beqF (c := 6) (by omega)
 have e7 : ((t.k : Int) == 7) = true := beqT (c := 7) hk
 have HK := hide hk
 clear h ht hk
 go_enter Tryz.func290, Tryz.ntmps290
 go_wp2_with fail
 refine (pnext_any _ _ _ _ _ _ _ _ _ _ _ _ (unhide HP) (unhide HT)).mono ?_
 rintro e w1 ⟨rfl, rfl⟩
 go_wp2_with fail
 refine (pword_any 2 _ _ _ _ _ _ _ _ _ _ (unhide HP) (unhide HT) (by have := unhide HK; omega) (by decide)).mono ?_
 rintro e w2 ⟨hf, p, rfl, hx⟩
 have HF := hide hf
 have HX := hide hx
 clear hf hx
 go_wp2_with fail
 go_ret
 exact ⟨unhide HF, p, rfl, unhide HX⟩
set_option maxHeartbeats 1000000 in
theorem unary_k8 (w : World) (pb g cap B : Nat) (L : List Tk) (i : Nat) (NM : List Tk) (t : Tk) (r : List Tk) (h : PP w pb g cap B L i false 0 NM) (ht : PL L i = t :: r) (hk : t.k = 8) :
  Calls Tryz.prog 290 #[.pointer (some ⟨pb, 0, none⟩)] w fun e w' => GLeft L pb g cap B NM w w' e (.ok (leaf 3 ByteArray.empty 0, r)) := by
 have HP := hide h
 have HT := hide ht
 have e17 : ((t.k : Int) == 17) = false := beqF (c := 17) (by omega)
 have e9 : ((t.k : Int) == 9) = false := beqF (c := 9) (by omega)
 have e10 : ((t.k : Int) == 10) = false := beqF (c := 10) (by omega)
 have e11 : ((t.k : Int) == 11) = false := beqF (c := 11) (by omega)
 have e12 : ((t.k : Int) == 12) = false := beqF (c := 12) (by omega)
 have e18 : ((t.k : Int) == 18) = false := beqF (c := 18) (by omega)
 have e6 : ((t.k : Int) == 6) = false := beqF (c := 6) (by omega)
 have e7 : ((t.k : Int) == 7) = false := beqF (c := 7) (by omega)
 have e8 : ((t.k : Int) == 8) = true := beqT (c := 8) hk
 have HK := hide hk
 clear h ht hk
 go_enter Tryz.func290, Tryz.ntmps290
 go_wp2_with fail
 refine (pnext_any _ _ _ _ _ _ _ _ _ _ _ _ (unhide HP) (unhide HT)).mono ?_
 rintro e w1 ⟨rfl, rfl⟩
 go_wp2_with fail
 refine (pword_any 3 _ _ _ _ _ _ _ _ _ _ (unhide HP) (unhide HT) (by have := unhide HK; omega) (by decide)).mono ?_
 rintro e w2 ⟨hf, p, rfl, hx⟩
 have HF := hide hf
 have HX := hide hx
 clear hf hx
 go_wp2_with fail
 go_ret
 exact ⟨unhide HF, p, rfl, unhide HX⟩
set_option maxHeartbeats 1000000 in
theorem unary_act (w : World) (pb g cap B : Nat) (L : List Tk) (i : Nat) (NM : List Tk) (t : Tk) (r : List Tk) (h : PP w pb g cap B L i false 0 NM) (ht : PL L i = t :: r) (x : Rd)
  (hk : t.k ≠ 17 ∧ t.k ≠ 9 ∧ t.k ≠ 10 ∧ t.k ≠ 11 ∧ t.k ≠ 12 ∧ t.k ≠ 18 ∧ t.k ≠ 6 ∧ t.k ≠ 7 ∧ t.k ≠ 8)
  (hx : if t.k = 2 then x = .ok (leaf 0 t.s t.p, r) else x = .error t.p) :
  Calls Tryz.prog 290 #[.pointer (some ⟨pb, 0, none⟩)] w fun e w' => GLeft L pb g cap B NM w w' e x := by
 have HP := hide h
 have HT := hide ht
 obtain ⟨h1, h2, h3, h4, h5, h6, h7, h8, h9⟩ := hk
 have e17 : ((t.k : Int) == 17) = false := beqF (c := 17) h1
 have e9 : ((t.k : Int) == 9) = false := beqF (c := 9) h2
 have e10 : ((t.k : Int) == 10) = false := beqF (c := 10) h3
 have e11 : ((t.k : Int) == 11) = false := beqF (c := 11) h4
 have e12 : ((t.k : Int) == 12) = false := beqF (c := 12) h5
 have e18 : ((t.k : Int) == 18) = false := beqF (c := 18) h6
 have e6 : ((t.k : Int) == 6) = false := beqF (c := 6) h7
 have e7 : ((t.k : Int) == 7) = false := beqF (c := 7) h8
 have e8 : ((t.k : Int) == 8) = false := beqF (c := 8) h9
 clear h1 h2 h3 h4 h5 h6 h7 h8 h9
 have hact : Calls Tryz.prog 295 #[.pointer (some ⟨pb, 0, none⟩)] w fun e w' => GLeft L pb g cap B NM w w' e x := by
  by_cases h2 : t.k = 2
  ·rw [if_pos h2] at hx
   subst hx
   refine (activity_of w pb g cap B L i NM t h (i + 1) false 0 (h.fe.nextLt ht (by omega)) (fun _ => by have := h.nm rfl; omega) (ptake_yes 2 _ _ _ _ _ _ _ _ _ _ _ _ h ht h2 (by decide))).mono ?_
   rintro e w1 ⟨p, rfl, hg, hp, hf⟩
   have e1 : (⟨2, t.s, t.p⟩ : Tk) = t := by cases t; cases h2; rfl
   exact ⟨hf, p, rfl, hg, i + 1, PL_next ht (by omega), by rw [lvs_name, e1]; exact hp⟩
  ·rw [if_neg h2] at hx
   subst hx
   refine (activity_of w pb g cap B L i NM t h (L.length - 1) true t.p (by have := h.lt; omega) (fun e => by cases e) (ptake_no 2 _ _ _ _ _ _ _ _ _ _ _ _ h ht h2)).mono ?_
   rintro e w1 ⟨p, rfl, hg, hp, hf⟩
   exact ⟨hf, p, rfl, _, hp⟩
 have HA := hide hact
 clear hact h ht hx
 go_enter Tryz.func290, Tryz.ntmps290
 go_wp2_with fail
 refine (pnext_any _ _ _ _ _ _ _ _ _ _ _ _ (unhide HP) (unhide HT)).mono ?_
 rintro e w1 ⟨rfl, rfl⟩
 go_wp2_with fail
 refine (unhide HA).mono ?_
 rintro e w2 ⟨hf, p, rfl, hx⟩
 have HF := hide hf
 have HX := hide hx
 clear hf hx
 go_wp2_with fail
 go_ret
 exact ⟨unhide HF, p, rfl, unhide HX⟩
theorem punary_step (n : Nat) (hU : GU n) (hF : GF n) : GU (n + 1) := by
 intro w pb g cap B L i NM h hn
 obtain ⟨t, r, ht⟩ := PL_some h.fe h.lt
 have hn2 : 6 * r.length + 5 ≤ n := by rw [ht] at hn; simp only [List.length_cons] at hn; omega
 have hh : headK (PL L i) = t.k := by rw [ht]; rfl
 have hhp : headP (PL L i) = t.p := by rw [ht]; rfl
 have hhs : headS (PL L i) = t.s := by rw [ht]; rfl
 have htl : (PL L i).tail = r := by rw [ht]; rfl
 by_cases h17 : t.k = 17
 ·have e : pf (n + 1) 4 .nil (PL L i) = mapOne 4 (pf n 4 .nil r) := by
   rw [pf, hh, htl, h17]
   cases pf n 4 .nil r <;> rfl
  rw [e]
  exact unary_k17 n hU w pb g cap B L i NM t r h ht h17 (by omega)
 by_cases h9 : t.k = 9
 ·have e : pf (n + 1) 4 .nil (PL L i) = mapOne 5 (pf n 4 .nil r) := by
   rw [pf, hh, htl, h9]
   cases pf n 4 .nil r <;> rfl
  rw [e]
  exact unary_k9 n hU w pb g cap B L i NM t r h ht h9 (by omega)
 by_cases h10 : t.k = 10
 ·have e : pf (n + 1) 4 .nil (PL L i) = mapOne 6 (pf n 4 .nil r) := by
   rw [pf, hh, htl, h10]
   cases pf n 4 .nil r <;> rfl
  rw [e]
  exact unary_k10 n hU w pb g cap B L i NM t r h ht h10 (by omega)
 by_cases h11 : t.k = 11
 ·have e : pf (n + 1) 4 .nil (PL L i) = mapOne 7 (pf n 4 .nil r) := by
   rw [pf, hh, htl, h11]
   cases pf n 4 .nil r <;> rfl
  rw [e]
  exact unary_k11 n hU w pb g cap B L i NM t r h ht h11 (by omega)
 by_cases h12 : t.k = 12
 ·have e : pf (n + 1) 4 .nil (PL L i) = mapOne 8 (pf n 4 .nil r) := by
   rw [pf, hh, htl, h12]
   cases pf n 4 .nil r <;> rfl
  rw [e]
  exact unary_k12 n hU w pb g cap B L i NM t r h ht h12 (by omega)
 by_cases h18 : t.k = 18
 ·have e : pf (n + 1) 4 .nil (PL L i) = brk (pf n 0 .nil r) := by
   rw [pf, hh, htl, h18]
   cases pf n 0 .nil r <;> rfl
  rw [e]
  exact unary_k18 n hF w pb g cap B L i NM t r h ht h18 hn2
 by_cases h6 : t.k = 6
 ·have e : pf (n + 1) 4 .nil (PL L i) = .ok (leaf 1 ByteArray.empty 0, r) := by
   rw [pf, hh, htl, h6]; rfl
  rw [e]
  exact unary_k6 w pb g cap B L i NM t r h ht h6
 by_cases h7 : t.k = 7
 ·have e : pf (n + 1) 4 .nil (PL L i) = .ok (leaf 2 ByteArray.empty 0, r) := by
   rw [pf, hh, htl, h7]; rfl
  rw [e]
  exact unary_k7 w pb g cap B L i NM t r h ht h7
 by_cases h8 : t.k = 8
 ·have e : pf (n + 1) 4 .nil (PL L i) = .ok (leaf 3 ByteArray.empty 0, r) := by
   rw [pf, hh, htl, h8]; rfl
  rw [e]
  exact unary_k8 w pb g cap B L i NM t r h ht h8
 refine unary_act w pb g cap B L i NM t r h ht _ ⟨h17, h9, h10, h11, h12, h18, h6, h7, h8⟩ ?_
 have hop : opOf t.k = 0 := by unfold opOf; rw [if_neg h17, if_neg h9, if_neg h10, if_neg h11, if_neg h12]
 rw [pf, hh, htl, hhp, hhs]
 simp only [hop, ne_eq, not_true_eq_false, if_false, h18, h6, h7, h8, or_self]
 by_cases h2 : t.k = 2
 ·simp only [h2, if_true]
 ·simp only [h2, if_false]
theorem greads_all : ∀ n m, m ≤ n → GU m ∧ GT m ∧ GA m ∧ GO m ∧ GF m
 | 0, m, hm => by
  have : m = 0 := by omega
  subst this
  exact ⟨fun _ _ _ _ _ _ _ _ _ h => by omega, fun _ _ _ _ _ _ _ _ _ h => by omega, fun _ _ _ _ _ _ _ _ _ h => by omega, fun _ _ _ _ _ _ _ _ _ h => by omega, fun _ _ _ _ _ _ _ _ _ h => by omega⟩
 | n + 1, m, hm => by
  by_cases hlt : m ≤ n
  ·exact greads_all n m hlt
  ·have : m = n + 1 := by omega
   subst this
   have ih := greads_all n
   have hn := ih n (Nat.le_refl _)
   exact ⟨punary_step n hn.1 hn.2.2.2.2, puntil_step n hn.1 hn.1, pand_step n (fun m hm => (ih m hm).2.1), por_step n (fun m hm => (ih m hm).2.2.1), pformula_step n hn.2.2.2.1 hn.2.2.2.2⟩
theorem pformula_any (n : Nat) : GF n := (greads_all n n (Nat.le_refl _)).2.2.2.2
def Stp (ok : Prop) (t : Tk) (n i : Nat) (b : Bool) (q j : Nat) (b' : Bool) (q' : Nat) : Prop := (ok ∧ j = i + 1 ∧ b' = b ∧ q' = q) ∨ (¬ ok ∧ j = n - 1 ∧ b' = true ∧ q' = fq b q t.p)
theorem ptake_any (k : Nat) (w : World) (pb g cap B : Nat) (L : List Tk) (i : Nat) (bad : Bool) (q : Nat) (NM : List Tk) (t : Tk) (r : List Tk) (h : PP w pb g cap B L i bad q NM) (ht : PL L i = t :: r) (hk2 : 2 ≤ k) (j : Nat) (b' : Bool) (q' : Nat) (hs : Stp (t.k = k) t L.length i bad q j b' q') :
  Calls Tryz.prog 153 #[.pointer (some ⟨pb, 0, none⟩), .int .i64 (k : Int)] w fun e w' => e = .returned (tkP t) ∧ Mv w w' pb g cap L.length i bad q j b' q' := by
 rcases hs with ⟨hk, rfl, rfl, rfl⟩ | ⟨hk, rfl, rfl, rfl⟩
 ·exact ptake_yes k w pb g cap B L i b' q' NM t r h ht hk hk2
 ·exact ptake_no k w pb g cap B L i bad q NM t r h ht hk
theorem PP.stp {w w' : World} {pb g cap B : Nat} {L : List Tk} {i : Nat} {bad : Bool} {q : Nat} {NM : List Tk} (h : PP w pb g cap B L i bad q NM) {t : Tk} {r : List Tk} (ht : PL L i = t :: r) {ok : Prop} (hok : ok → 2 ≤ t.k) {j q' : Nat} {b' : Bool} (hs : Stp ok t L.length i bad q j b' q')
  (hm : Mv w w' pb g cap L.length i bad q j b' q') : PP w' pb g cap B L j b' q' NM := by
 have hlt := h.lt
 rcases hs with ⟨hk, rfl, rfl, rfl⟩ | ⟨hk, rfl, rfl, rfl⟩
 ·exact h.move hm (h.fe.nextLt ht (by have := hok hk; omega)) (fun e => by have := h.nm e; omega)
 ·exact h.move hm (by omega) (fun e => by cases e)
theorem Stp.lt {ok : Prop} {t : Tk} {L : List Tk} {i : Nat} {b : Bool} {q j : Nat} {b' : Bool} {q' : Nat} (hs : Stp ok t L.length i b q j b' q') (hfe : FE L) {r : List Tk} (ht : PL L i = t :: r) (hok : ok → 2 ≤ t.k) : j < L.length := by
 have hlt := PL_lt ht
 rcases hs with ⟨hk, rfl, _, _⟩ | ⟨_, rfl, _, _⟩
 ·exact hfe.nextLt ht (by have := hok hk; omega)
 ·omega
set_option maxHeartbeats 1000000 in
theorem pnod_any (w : World) (pb g cap B : Nat) (L : List Tk) (i : Nat) (bad : Bool) (q : Nat) (NM : List Tk) (t : Tk) (r : List Tk) (h : PP w pb g cap B L i bad q NM) (ht : PL L i = t :: r) (j : Nat) (b' : Bool) (q' : Nat) (hs : Stp (t.k = 2 ∨ t.k = 3) t L.length i bad q j b' q') :
  Calls Tryz.prog 225 #[.pointer (some ⟨pb, 0, none⟩)] w fun e w' => e = .returned (tkP t) ∧ Mv w w' pb g cap L.length i bad q j b' q' := by
 have hp := h.pLt
 have HP := hide h
 have HT := hide ht
 by_cases h3 : t.k = 3
 ·have hs3 : Stp (t.k = 3) t L.length i bad q j b' q' := by
   rcases hs with ⟨_, e⟩ | ⟨hk, e⟩
   ·exact Or.inl ⟨h3, e⟩
   ·exact absurd (Or.inr h3) hk
  have hTT := ptake_any 3 (w.alloc (.cells #[.int .i64 0, .string ⟨#[]⟩, .int .i64 0] 201)) pb g cap B L i bad q NM t r (h.alloc _) ht (by decide) j b' q' hs3
  have HTT := hide hTT
  have e3 : ((t.k : Int) == 3) = true := beqT (c := 3) h3
  clear h ht h3 hs hs3 hTT
  go_enter Tryz.func225, Tryz.ntmps225
  go_wp2_with fail
  refine (pnext_any _ _ _ _ _ _ _ _ _ _ _ _ ((unhide HP).alloc _) (unhide HT)).mono ?_
  rintro e w1 ⟨rfl, rfl⟩
  go_wp2_with fail
  refine (unhide HTT).mono ?_
  rintro e w1 ⟨rfl, hm1⟩
  have hrb := (hm1.gr.block w.heap.size (by simp) (by simp; omega)).trans (blk_alloc _ _)
  have HM := hide (((Mv.refl w pb g cap L.length i bad q).alloc (.cells #[.int .i64 0, .string ⟨#[]⟩, .int .i64 0] 201)).trans hm1)
  have rc := fun o => cell_of_blk hrb o
  have rf := fun o => frozen_of_blk hrb o
  have hz : w.heap.size < w1.heap.size := lt_of_blk hrb
  have HRB := hide hrb
  clear hm1 hrb
  simp only [tkP]
  go_wp2_with fail
  clear rc
  have hfin : (((w1.setCell ⟨w.heap.size, 0, none⟩ (.int .i64 t.k)).setCell ⟨w.heap.size, 1, none⟩ (.string t.s)).setCell ⟨w.heap.size, 2, none⟩ (.int .i64 t.p)).heap[w.heap.size]? = some (.cells #[.int .i64 t.k, .string t.s, .int .i64 t.p] 201 (0, 0)) := blk_set (blk_set (blk_set (unhide HRB) 0 _) 1 _) 2 _
  have rc := fun o => cell_of_blk hfin o
  exact bodyPost_ret (v := tkP t) (by simp [results, Tryz.results225, go_sem, rc, tkP]) rfl ⟨rfl, (unhide HM).setNew3 (Nat.le_refl _) hp _ _ _⟩
 ·have hs3 : Stp (t.k = 2) t L.length i bad q j b' q' := by
   rcases hs with ⟨hk, e⟩ | ⟨hk, e⟩
   ·exact Or.inl ⟨by omega, e⟩
   ·exact Or.inr ⟨fun e2 => hk (Or.inl e2), e⟩
  have hTT := ptake_any 2 (w.alloc (.cells #[.int .i64 0, .string ⟨#[]⟩, .int .i64 0] 201)) pb g cap B L i bad q NM t r (h.alloc _) ht (by decide) j b' q' hs3
  have HTT := hide hTT
  have e3 : ((t.k : Int) == 3) = false := beqF (c := 3) h3
  clear h ht h3 hs hs3 hTT
  go_enter Tryz.func225, Tryz.ntmps225
  go_wp2_with fail
  refine (pnext_any _ _ _ _ _ _ _ _ _ _ _ _ ((unhide HP).alloc _) (unhide HT)).mono ?_
  rintro e w1 ⟨rfl, rfl⟩
  go_wp2_with fail
  refine (unhide HTT).mono ?_
  rintro e w1 ⟨rfl, hm1⟩
  have hrb := (hm1.gr.block w.heap.size (by simp) (by simp; omega)).trans (blk_alloc _ _)
  have HM := hide (((Mv.refl w pb g cap L.length i bad q).alloc (.cells #[.int .i64 0, .string ⟨#[]⟩, .int .i64 0] 201)).trans hm1)
  have rc := fun o => cell_of_blk hrb o
  have rf := fun o => frozen_of_blk hrb o
  have hz : w.heap.size < w1.heap.size := lt_of_blk hrb
  have HRB := hide hrb
  clear hm1 hrb
  simp only [tkP]
  go_wp2_with fail
  clear rc
  have hfin : (((w1.setCell ⟨w.heap.size, 0, none⟩ (.int .i64 t.k)).setCell ⟨w.heap.size, 1, none⟩ (.string t.s)).setCell ⟨w.heap.size, 2, none⟩ (.int .i64 t.p)).heap[w.heap.size]? = some (.cells #[.int .i64 t.k, .string t.s, .int .i64 t.p] 201 (0, 0)) := blk_set (blk_set (blk_set (unhide HRB) 0 _) 1 _) 2 _
  have rc := fun o => cell_of_blk hfin o
  exact bodyPost_ret (v := tkP t) (by simp [results, Tryz.results225, go_sem, rc, tkP]) rfl ⟨rfl, (unhide HM).setNew3 (Nat.le_refl _) hp _ _ _⟩
theorem Stp_ex (ok : Prop) (t : Tk) (n i : Nat) (b : Bool) (q : Nat) : ∃ j b' q', Stp ok t n i b q j b' q' := by
 by_cases h : ok
 ·exact ⟨_, _, _, Or.inl ⟨h, rfl, rfl, rfl⟩⟩
 ·exact ⟨_, _, _, Or.inr ⟨h, rfl, rfl, rfl⟩⟩
theorem Stp.nm {ok : Prop} {t : Tk} {n i : Nat} {b : Bool} {q j : Nat} {b' : Bool} {q' : Nat} (hs : Stp ok t n i b q j b' q') {m : Nat} (h : b = false → m ≤ i) : b' = false → m ≤ j := by
 rcases hs with ⟨_, rfl, rfl, _⟩ | ⟨_, _, rfl, _⟩
 ·intro e; have := h e; omega
 ·intro e; cases e
def CallOut (L : List Tk) (i : Nat) (t : Tk) (args : List Tk) (x : Tk) (j : Nat) (b : Bool) (q : Nat) : Prop :=
 (b = false ∧ q = 0 ∧ (j < L.length ∧ i ≤ j) ∧ ruleRead (PL L i) = .ok (⟨0, true, t, args, x.p, .nil⟩, PL L j)) ∨ (b = true ∧ j = L.length - 1 ∧ ruleRead (PL L i) = .error q)
theorem callOut_one {L : List Tk} {i : Nat} {t u v y : Tk} {r r1 : List Tk} (hfe : FE L) (ht : PL L i = t :: u :: v :: r) (hk : t.k = 2) (hu : u.k = 18) {j1 : Nat} {b1 : Bool} {q1 : Nat} (hs1 : Stp (v.k = 2) v L.length (i + 1 + 1) false 0 j1 b1 q1)
  (hy : PL L j1 = y :: r1) (hy20 : y.k ≠ 20) {j2 : Nat} {b2 : Bool} {q2 : Nat} (hs2 : Stp (y.k = 19) y L.length j1 b1 q1 j2 b2 q2) : CallOut L i t [v] y j2 b2 q2 := by
 have ht2 := PL_next (PL_next ht (by omega)) (by omega)
 rcases hs1 with ⟨hv, rfl, rfl, rfl⟩ | ⟨hv, rfl, rfl, rfl⟩
 ·have ht3 := PL_next ht2 (by omega)
  have hr : r = y :: r1 := by rw [← ht3]; exact hy
  subst hr
  rcases hs2 with ⟨h19, rfl, rfl, rfl⟩ | ⟨h19, rfl, rfl, rfl⟩
  ·refine Or.inl ⟨rfl, rfl, ⟨hfe.nextLt hy (by omega), by omega⟩, ?_⟩
   rw [PL_next hy (by omega), ht]
   simp [ruleRead, headK, headT, headP, hk, hu, hv, h19]
  ·refine Or.inr ⟨rfl, rfl, ?_⟩
   rw [ht]
   simp [ruleRead, headK, headT, headP, hk, hu, hv, h19, hy20, fq]
 ·obtain ⟨e, he, hek⟩ := PL_last hfe
  rw [hy] at he
  have hye : y = e := (List.cons.inj he).1
  subst hye
  rcases hs2 with ⟨h19, _⟩ | ⟨h19, rfl, rfl, rfl⟩
  ·omega
  ·refine Or.inr ⟨rfl, rfl, ?_⟩
   rw [ht]
   simp [ruleRead, headK, headT, headP, hk, hu, hv, fq]
theorem callOut_two {L : List Tk} {i : Nat} {t u v y z x : Tk} {r r1 r2 r3 : List Tk} (hfe : FE L) (ht : PL L i = t :: u :: v :: r) (hk : t.k = 2) (hu : u.k = 18) {j1 : Nat} {b1 : Bool} {q1 : Nat} (hs1 : Stp (v.k = 2) v L.length (i + 1 + 1) false 0 j1 b1 q1)
  (hy : PL L j1 = y :: r1) (hy20 : y.k = 20) (hz : PL L (j1 + 1) = z :: r2) {j2 : Nat} {b2 : Bool} {q2 : Nat} (hs2 : Stp (z.k = 2 ∨ z.k = 3) z L.length (j1 + 1) b1 q1 j2 b2 q2)
  (hx : PL L j2 = x :: r3) {j3 : Nat} {b3 : Bool} {q3 : Nat} (hs3 : Stp (x.k = 19) x L.length j2 b2 q2 j3 b3 q3) : CallOut L i t [v, z] x j3 b3 q3 := by
 have ht2 := PL_next (PL_next ht (by omega)) (by omega)
 obtain ⟨e, he, hek⟩ := PL_last hfe
 rcases hs1 with ⟨hv, rfl, rfl, rfl⟩ | ⟨hv, rfl, rfl, rfl⟩
 ·have ht3 := PL_next ht2 (by omega)
  have hr : r = y :: r1 := by rw [← ht3]; exact hy
  subst hr
  have ht4 := PL_next hy (by omega)
  have hr1 : r1 = z :: r2 := by rw [← ht4]; exact hz
  subst hr1
  rcases hs2 with ⟨hzk, rfl, rfl, rfl⟩ | ⟨hzk, rfl, rfl, rfl⟩
  ·have ht5 := PL_next hz (by omega)
   have hr2 : r2 = x :: r3 := by rw [← ht5]; exact hx
   subst hr2
   rcases hs3 with ⟨h19, rfl, rfl, rfl⟩ | ⟨h19, rfl, rfl, rfl⟩
   ·refine Or.inl ⟨rfl, rfl, ⟨hfe.nextLt hx (by omega), by omega⟩, ?_⟩
    rw [PL_next hx (by omega), ht]
    simp [ruleRead, headK, headT, headP, hk, hu, hv, hy20, hzk, h19]
   ·refine Or.inr ⟨rfl, rfl, ?_⟩
    rw [ht]
    simp [ruleRead, headK, headT, headP, hk, hu, hv, hy20, hzk, h19, fq]
  ·rw [hx] at he
   have hxe : x = e := (List.cons.inj he).1
   subst hxe
   rcases hs3 with ⟨h19, _⟩ | ⟨h19, rfl, rfl, rfl⟩
   ·omega
   ·refine Or.inr ⟨rfl, rfl, ?_⟩
    rw [ht]
    simp [ruleRead, headK, headT, headP, hk, hu, hv, hy20, hzk, fq]
 ·rw [hy] at he
  have hye : y = e := (List.cons.inj he).1
  subst hye
  omega
def cbl (word : Tk) (ao : Option Addr) (an ac : Nat) (x : Tk) : Obj :=
 .cells #[.int .i64 word.k, .string word.s, .int .i64 word.p, .slice ao an ac, .int .i64 x.k, .string x.s, .int .i64 x.p] 259 (0, 0)
def CS (w wc : World) (cb : Nat) (word : Tk) (args : List Tk) : Prop :=
 w.heap.size ≤ cb ∧ ∃ ao an ac, wc.heap[cb]? = some (cbl word ao an ac tk0) ∧ wc.ownsRow w.heap.size 201 3 (.slice ao an ac) args.length (tkCellsP args)
theorem grownBy_from_drew {w w' : World} {row : Option Nat} (h : w.drew.grownBy w' row) : w.grownBy w' row := ⟨h.os, h.tape, h.output, h.size, h.block⟩
theorem Mv.from_drew {w w1 : World} {pb g cap n i q j q1 : Nat} {b b1 : Bool} (h : Mv w.drew w1 pb g cap n i b q j b1 q1) : Mv w w1 pb g cap n i b q j b1 q1 := ⟨grownBy_from_drew h.gr, h.onto⟩
theorem Mv.row {w w1 w2 : World} {pb g cap n i q j q1 : Nat} {b b1 : Bool} (h : Mv w w1 pb g cap n i b q j b1 q1) {row : Option Nat} (hg : w1.grownBy w2 row) (hr : ∀ k, row = some k → w.heap.size ≤ k) (hp : pb < w.heap.size) : Mv w w2 pb g cap n i b q j b1 q1 :=
  ⟨⟨hg.os.trans h.gr.os, hg.tape.trans h.gr.tape, hg.output.trans h.gr.output, Nat.le_trans h.gr.size hg.size, fun k hk hne => (hg.block k (Nat.lt_of_lt_of_le hk h.gr.size) (fun e => by have := hr k e.symm; omega)).trans (h.gr.block k hk hne)⟩,
   fun no nn nc e => by
    have := h.onto no nn nc e
    exact (hg.block pb (lt_of_blk this) (fun e => by have := hr pb e.symm; omega)).trans this⟩
def CallPost (w w' : World) (pb g cap : Nat) (L : List Tk) (i : Nat) (t : Tk) (e : Ending) : Prop := ∃ cb args x j b q, e = .returned (.pointer (some ⟨cb, 0, none⟩)) ∧ w.heap.size ≤ cb ∧
 (∃ ao an ac, w'.heap[cb]? = some (cbl t ao an ac x) ∧ w'.ownsRow w.heap.size 201 3 (.slice ao an ac) args.length (tkCellsP args)) ∧ Mv w w' pb g cap L.length i false 0 j b q ∧ CallOut L i t args x j b q
set_option maxHeartbeats 4000000 in
set_option maxRecDepth 100000 in
theorem pcall_any (w : World) (pb g cap B : Nat) (L : List Tk) (i : Nat) (NM : List Tk) (t u v : Tk) (r : List Tk) (h : PP w pb g cap B L i false 0 NM) (ht : PL L i = t :: u :: v :: r) (hk : t.k = 2) (hu : u.k = 18) :
  Calls Tryz.prog 192 #[.pointer (some ⟨pb, 0, none⟩)] w fun e w' => CallPost w w' pb g cap L i t e := by
 obtain ⟨i0, hi, hz0, hz1, hz2⟩ := info_parts Tryz.infoTokP
 have hp0 := h.pLt
 have ht1 := PL_next ht (by omega)
 have ht2 := PL_next ht1 (by omega)
 obtain ⟨j1, b1, q1, hs1⟩ := Stp_ex (v.k = 2) v L.length (i + 1 + 1) false 0
 have hj1 : j1 < L.length := hs1.lt h.fe ht2 (fun e => by omega)
 have hnm1 : b1 = false → NM.length ≤ j1 := hs1.nm (fun _ => by have := h.nm rfl; omega)
 obtain ⟨y, r1, hy⟩ := PL_some h.fe hj1
 have HP := hide h
 have HT := hide ht
 have HT1 := hide ht1
 have HT2 := hide ht2
 have HK := hide hk
 have HKU := hide hu
 have HS1 := hide hs1
 have HY := hide hy
 have HNM1 := hide hnm1
 clear h ht ht1 ht2 hk hu hs1 hy hnm1
 go_enter Tryz.func192, Tryz.ntmps192
 go_wp2_with fail
 refine (ptake_yes 2 _ _ _ _ _ _ _ _ _ _ _ _ (unhide HP) (unhide HT) (unhide HK) (by decide)).mono ?_
 rintro e w1 ⟨rfl, hm1⟩
 have HM1 := hide hm1
 have HP1 := hide ((unhide HP).step hm1 (unhide HT) (by have := unhide HK; omega))
 have hzw := hm1.gr.size
 clear hm1
 simp only [tkP]
 go_wp2_with fail
 refine (ptake_yes 18 _ _ _ _ _ _ _ _ _ _ _ _ ((unhide HP1).alloc _) (unhide HT1) (unhide HKU) (by decide)).mono ?_
 rintro e w2 ⟨rfl, hm2⟩
 have HM2 := hide (((unhide HM1).alloc _).trans hm2)
 have HP2 := hide (((unhide HP1).alloc _).step hm2 (unhide HT1) (by have := unhide HKU; omega))
 have hcb := (hm2.gr.block w1.heap.size (by simp) (by simp; omega)).trans (blk_alloc _ _)
 generalize hcbe : w1.heap.size = cb at *
 have hcbl : cb < w2.heap.size := lt_of_blk hcb
 have bc := fun o => cell_of_blk hcb o
 have bf := fun o => frozen_of_blk hcb o
 have HCB := hide hcb
 have HOWN : Hid (w2.ownsRow w.heap.size 201 3 (.slice none 0 0) 0 (tkCellsP [])) := World.ownsRow_nil _ _ _ _
 have hnp : (Value.slice none 0 0).ownBlock ≠ some pb := by intro e; cases e
 clear hm2 hcb hcbe
 simp only [tkP]
 go_upto_region 3 with fail
 go_cut [] (fun wc => CS w wc cb t [v] ∧ Mv w wc pb g cap L.length i false 0 j1 b1 q1)
 case first =>
  refine wp_region_any (by kernel_rfl) ?_
  change wpAny _ _ _ _ _ _ _ (World.drew _)
  refine wpAny_take (i := 0) (v := .pointer (some ⟨cb, 0, none⟩)) rfl (by kernel_rfl) (by kernel_rfl) (by kernel_rfl) (fun _ _ _ h => h) (Or.inl ⟨by kernel_rfl, fun w => by go_simp⟩) ?_
  try simp only [Act.put, zA, zB, zC, zD, zE, zF]
  refine wpAny_take (i := 1) (v := .pointer (some ⟨cb, 0, none⟩)) rfl (by kernel_rfl) (by kernel_rfl) (by kernel_rfl) (fun _ _ _ h => h) (Or.inl ⟨by kernel_rfl, fun w => by go_simp⟩) ?_
  try simp only [Act.put, zA, zB, zC, zD, zE, zF]
  refine wpAny_take (i := 2) (v := .pointer (some ⟨cb, 0, none⟩)) rfl (by kernel_rfl) (by kernel_rfl) (by kernel_rfl) (fun _ _ _ h => h) (Or.inl ⟨by kernel_rfl, fun w => by go_simp⟩) ?_
  try simp only [Act.put, zA, zB, zC, zD, zE, zF]
  refine wpAny_take (i := 3) (v := .pointer (some ⟨cb, 3, none⟩)) rfl (by kernel_rfl) (by kernel_rfl) (by kernel_rfl) (fun _ _ _ h => h) (Or.inl ⟨by kernel_rfl, fun w => by go_simp⟩) ?_
  try simp only [Act.put, zA, zB, zC, zD, zE, zF]
  refine wpAny_take (i := 5) (v := .pointer (some ⟨pb, 0, none⟩)) rfl (by kernel_rfl) (by kernel_rfl) (by kernel_rfl) (fun _ _ _ h => h) (Or.inl ⟨by kernel_rfl, fun w => by go_simp⟩) ?_
  try simp only [Act.put, zA, zB, zC, zD, zE, zF]
  refine wpAny_ready (rs := [4, 6]) (by kernel_rfl) (by simp) ?_
  refine AllReady.cons rfl (fun K hK => ?_) (AllReady.cons rfl (fun K hK => ?_) AllReady.nil)
  ·go_simp
   refine hK _ _ ?_
   clear hK K
   refine wpAny_ready (rs := [6]) (by kernel_rfl) (by simp) ?_
   refine AllReady.cons rfl (fun K hK => ?_) AllReady.nil
   go_simp
   go_wp2_with (go_at_call 153; refine (ptake_any 2 _ pb g cap B L (i + 1 + 1) false 0 NM v r ((unhide HP2).later (Below.refl _ _).drew) (unhide HT2) (by decide) j1 b1 q1 (unhide HS1)).mono ?_; rintro e w3 ⟨rfl, hm3⟩)
   have HM3 := hide hm3.from_drew
   have hcb3 := (hm3.gr.block cb hcbl (by simp; omega)).trans (unhide HCB)
   have hown3 := owns_keep (unhide HOWN) hm3.from_drew.gr (Or.inr hnp)
   have hsz3 := hm3.gr.size
   have hcb3l : cb < w3.heap.size := lt_of_blk hcb3
   have bc3 := fun o => cell_of_blk hcb3 o
   have bf3 := fun o => frozen_of_blk hcb3 o
   have HCB3 := hide hcb3
   have HOWN3 := hide hown3
   clear hm3 hcb3 hown3 bc bf
   simp only [tkP]
   refine wpAny_ready (rs := [7]) (by kernel_rfl) (by simp) ?_
   refine AllReady.cons rfl (fun K hK => ?_) AllReady.nil
   go_simp
   refine hK _ _ ?_
   clear hK K
   refine wpAny_ready (rs := [8]) (by kernel_rfl) (by simp) ?_
   refine AllReady.cons rfl (fun K hK => ?_) AllReady.nil
   refine step_append_lies _ (by rfl) _ _ 125 (by rfl) w.heap.size 201 i0 (.agg #[.int .i64 0, .string ⟨#[]⟩, .int .i64 0]) 3 32 Tryz.underlying125 hi hz0 hz1 hz2 rfl (by decide) (.slice none 0 0) 0 (tkCellsP []) (by rfl) ?c0 ⟨w3.heap.size, 0, none⟩ 1 1 [.int .i64 v.k, .string v.s, .int .i64 v.p] (by rfl) rfl ?c1 ?c2 (by decide) ?c3 ?c4 ?c5 (w3.heap.size + 1) (by simp) ?_
   case c0 => exact (unhide HOWN3).alloc _
   case c1 =>
    intro j u hj
    match j, hj with
    | 0, hj => simp at hj; subst hj; simp [Addr.add]
    | 1, hj => simp at hj; subst hj; simp [Addr.add]
    | 2, hj => simp at hj; subst hj; simp [Addr.add]
    | j + 3, hj => simp at hj
   case c2 => intro u hu; simp at hu; rcases hu with rfl | rfl | rfl <;> rfl
   case c3 => unfold maxLen; simp
   case c4 => simp
   case c5 => simp; simp at hsz3; omega
   intro g4 cap4 w4 hown4 hgrow4 hat4 hlt4
   have hcb4 := (hgrow4.block cb (by simp; omega) (fun e => own_ty (unhide HOWN3) e.symm (unhide HCB3) (by decide))).trans ((Below.heap_alloc _ _ _ hcb3l).trans (unhide HCB3))
   have hpg4 : some pb ≠ (Value.slice none 0 0).ownBlock := by
    intro e
    have := own_lt (unhide HOWN3) pb e.symm
    omega
   have HG4 := hide hgrow4
   have HOWN4 := hide hown4
   have HCB4 := hide hcb4
   have bc4 := fun o => cell_of_blk hcb4 o
   have bf4 := fun o => frozen_of_blk hcb4 o
   have hcb4l : cb < w4.heap.size := lt_of_blk hcb4
   refine hK _ _ ?_
   clear hK K hgrow4 hown4 hcb4 bc3 bf3
   refine wpAny_take (i := 9) (v := .pointer (some ⟨cb, 0, none⟩)) rfl (by kernel_rfl) (by kernel_rfl) (by kernel_rfl) (fun _ _ _ h => h) (Or.inl ⟨by kernel_rfl, fun w => by go_simp⟩) ?_
   try simp only [Act.put, zA, zB, zC, zD, zE, zF]
   refine wpAny_take (i := 10) (v := .pointer (some ⟨cb, 3, none⟩)) rfl (by kernel_rfl) (by kernel_rfl) (by kernel_rfl) (fun _ _ _ h => h) (Or.inl ⟨by kernel_rfl, fun w => by go_simp⟩) ?_
   try simp only [Act.put, zA, zB, zC, zD, zE, zF]
   refine wpAny_ready (rs := [11]) (by kernel_rfl) (by simp) ?_
   refine AllReady.cons rfl (fun K hK => ?_) AllReady.nil
   go_simp
   refine hK _ _ ?_
   clear hK K
   refine wpAny_done (by kernel_rfl) ?_ _
   go_wp2_with fail
   go_meet
   have hg4 : (Value.slice (some ⟨g4, 0, none⟩) (0 + 1) cap4).ownBlock ≠ some cb := fun e => own_ty (unhide HOWN4) e (unhide HCB4) (by decide)
   refine ⟨⟨hzw, some ⟨g4, 0, none⟩, 0 + 1, cap4, blk_set (unhide HCB4) 3 _, owns_keep (unhide HOWN4) (grown_set _ _ _ _) (Or.inr hg4)⟩, ?_⟩
   exact ((((unhide HM2).trans (unhide HM3)).alloc _).row (unhide HG4) (fun k e => (own_lt (unhide HOWN3) k e).1) hp0).setNew hzw hp0 _ _
  ·go_simp
   go_wp2_with (go_at_call 153; refine (ptake_any 2 _ pb g cap B L (i + 1 + 1) false 0 NM v r ((unhide HP2).later (Below.refl _ _).drew) (unhide HT2) (by decide) j1 b1 q1 (unhide HS1)).mono ?_; rintro e w3 ⟨rfl, hm3⟩)
   have HM3 := hide hm3.from_drew
   have hcb3 := (hm3.gr.block cb hcbl (by simp; omega)).trans (unhide HCB)
   have hown3 := owns_keep (unhide HOWN) hm3.from_drew.gr (Or.inr hnp)
   have hsz3 := hm3.gr.size
   have hcb3l : cb < w3.heap.size := lt_of_blk hcb3
   have bc3 := fun o => cell_of_blk hcb3 o
   have bf3 := fun o => frozen_of_blk hcb3 o
   have HCB3 := hide hcb3
   have HOWN3 := hide hown3
   clear hm3 hcb3 hown3 bc bf
   simp only [tkP]
   refine wpAny_ready (rs := [4, 7]) (by kernel_rfl) (by simp) ?_
   refine AllReady.cons rfl (fun K hK => ?_) (AllReady.cons rfl (fun K hK => ?_) AllReady.nil)
   ·go_simp
    refine hK _ _ ?_
    clear hK K
    refine wpAny_ready (rs := [7]) (by kernel_rfl) (by simp) ?_
    refine AllReady.cons rfl (fun K hK => ?_) AllReady.nil
    go_simp
    refine hK _ _ ?_
    clear hK K
    refine wpAny_ready (rs := [8]) (by kernel_rfl) (by simp) ?_
    refine AllReady.cons rfl (fun K hK => ?_) AllReady.nil
    refine step_append_lies _ (by rfl) _ _ 125 (by rfl) w.heap.size 201 i0 (.agg #[.int .i64 0, .string ⟨#[]⟩, .int .i64 0]) 3 32 Tryz.underlying125 hi hz0 hz1 hz2 rfl (by decide) (.slice none 0 0) 0 (tkCellsP []) (by rfl) ?c0 ⟨w3.heap.size, 0, none⟩ 1 1 [.int .i64 v.k, .string v.s, .int .i64 v.p] (by rfl) rfl ?c1 ?c2 (by decide) ?c3 ?c4 ?c5 (w3.heap.size + 1) (by simp) ?_
    case c0 => exact (unhide HOWN3).alloc _
    case c1 =>
     intro j u hj
     match j, hj with
     | 0, hj => simp at hj; subst hj; simp [Addr.add]
     | 1, hj => simp at hj; subst hj; simp [Addr.add]
     | 2, hj => simp at hj; subst hj; simp [Addr.add]
     | j + 3, hj => simp at hj
    case c2 => intro u hu; simp at hu; rcases hu with rfl | rfl | rfl <;> rfl
    case c3 => unfold maxLen; simp
    case c4 => simp
    case c5 => simp; simp at hsz3; omega
    intro g4 cap4 w4 hown4 hgrow4 hat4 hlt4
    have hcb4 := (hgrow4.block cb (by simp; omega) (fun e => own_ty (unhide HOWN3) e.symm (unhide HCB3) (by decide))).trans ((Below.heap_alloc _ _ _ hcb3l).trans (unhide HCB3))
    have hpg4 : some pb ≠ (Value.slice none 0 0).ownBlock := by
     intro e
     have := own_lt (unhide HOWN3) pb e.symm
     omega
    have HG4 := hide hgrow4
    have HOWN4 := hide hown4
    have HCB4 := hide hcb4
    have bc4 := fun o => cell_of_blk hcb4 o
    have bf4 := fun o => frozen_of_blk hcb4 o
    have hcb4l : cb < w4.heap.size := lt_of_blk hcb4
    refine hK _ _ ?_
    clear hK K hgrow4 hown4 hcb4 bc3 bf3
    refine wpAny_take (i := 9) (v := .pointer (some ⟨cb, 0, none⟩)) rfl (by kernel_rfl) (by kernel_rfl) (by kernel_rfl) (fun _ _ _ h => h) (Or.inl ⟨by kernel_rfl, fun w => by go_simp⟩) ?_
    try simp only [Act.put, zA, zB, zC, zD, zE, zF]
    refine wpAny_take (i := 10) (v := .pointer (some ⟨cb, 3, none⟩)) rfl (by kernel_rfl) (by kernel_rfl) (by kernel_rfl) (fun _ _ _ h => h) (Or.inl ⟨by kernel_rfl, fun w => by go_simp⟩) ?_
    try simp only [Act.put, zA, zB, zC, zD, zE, zF]
    refine wpAny_ready (rs := [11]) (by kernel_rfl) (by simp) ?_
    refine AllReady.cons rfl (fun K hK => ?_) AllReady.nil
    go_simp
    refine hK _ _ ?_
    clear hK K
    refine wpAny_done (by kernel_rfl) ?_ _
    go_wp2_with fail
    go_meet
    have hg4 : (Value.slice (some ⟨g4, 0, none⟩) (0 + 1) cap4).ownBlock ≠ some cb := fun e => own_ty (unhide HOWN4) e (unhide HCB4) (by decide)
    refine ⟨⟨hzw, some ⟨g4, 0, none⟩, 0 + 1, cap4, blk_set (unhide HCB4) 3 _, owns_keep (unhide HOWN4) (grown_set _ _ _ _) (Or.inr hg4)⟩, ?_⟩
    exact ((((unhide HM2).trans (unhide HM3)).alloc _).row (unhide HG4) (fun k e => (own_lt (unhide HOWN3) k e).1) hp0).setNew hzw hp0 _ _
   ·go_simp
    refine hK _ _ ?_
    clear hK K
    refine wpAny_ready (rs := [4]) (by kernel_rfl) (by simp) ?_
    refine AllReady.cons rfl (fun K hK => ?_) AllReady.nil
    go_simp
    refine hK _ _ ?_
    clear hK K
    refine wpAny_ready (rs := [8]) (by kernel_rfl) (by simp) ?_
    refine AllReady.cons rfl (fun K hK => ?_) AllReady.nil
    refine step_append_lies _ (by rfl) _ _ 125 (by rfl) w.heap.size 201 i0 (.agg #[.int .i64 0, .string ⟨#[]⟩, .int .i64 0]) 3 32 Tryz.underlying125 hi hz0 hz1 hz2 rfl (by decide) (.slice none 0 0) 0 (tkCellsP []) (by rfl) ?c0 ⟨w3.heap.size, 0, none⟩ 1 1 [.int .i64 v.k, .string v.s, .int .i64 v.p] (by rfl) rfl ?c1 ?c2 (by decide) ?c3 ?c4 ?c5 (w3.heap.size + 1) (by simp) ?_
    case c0 => exact (unhide HOWN3).alloc _
    case c1 =>
     intro j u hj
     match j, hj with
     | 0, hj => simp at hj; subst hj; simp [Addr.add]
     | 1, hj => simp at hj; subst hj; simp [Addr.add]
     | 2, hj => simp at hj; subst hj; simp [Addr.add]
     | j + 3, hj => simp at hj
    case c2 => intro u hu; simp at hu; rcases hu with rfl | rfl | rfl <;> rfl
    case c3 => unfold maxLen; simp
    case c4 => simp
    case c5 => simp; simp at hsz3; omega
    intro g4 cap4 w4 hown4 hgrow4 hat4 hlt4
    have hcb4 := (hgrow4.block cb (by simp; omega) (fun e => own_ty (unhide HOWN3) e.symm (unhide HCB3) (by decide))).trans ((Below.heap_alloc _ _ _ hcb3l).trans (unhide HCB3))
    have hpg4 : some pb ≠ (Value.slice none 0 0).ownBlock := by
     intro e
     have := own_lt (unhide HOWN3) pb e.symm
     omega
    have HG4 := hide hgrow4
    have HOWN4 := hide hown4
    have HCB4 := hide hcb4
    have bc4 := fun o => cell_of_blk hcb4 o
    have bf4 := fun o => frozen_of_blk hcb4 o
    have hcb4l : cb < w4.heap.size := lt_of_blk hcb4
    refine hK _ _ ?_
    clear hK K hgrow4 hown4 hcb4 bc3 bf3
    refine wpAny_take (i := 9) (v := .pointer (some ⟨cb, 0, none⟩)) rfl (by kernel_rfl) (by kernel_rfl) (by kernel_rfl) (fun _ _ _ h => h) (Or.inl ⟨by kernel_rfl, fun w => by go_simp⟩) ?_
    try simp only [Act.put, zA, zB, zC, zD, zE, zF]
    refine wpAny_take (i := 10) (v := .pointer (some ⟨cb, 3, none⟩)) rfl (by kernel_rfl) (by kernel_rfl) (by kernel_rfl) (fun _ _ _ h => h) (Or.inl ⟨by kernel_rfl, fun w => by go_simp⟩) ?_
    try simp only [Act.put, zA, zB, zC, zD, zE, zF]
    refine wpAny_ready (rs := [11]) (by kernel_rfl) (by simp) ?_
    refine AllReady.cons rfl (fun K hK => ?_) AllReady.nil
    go_simp
    refine hK _ _ ?_
    clear hK K
    refine wpAny_done (by kernel_rfl) ?_ _
    go_wp2_with fail
    go_meet
    have hg4 : (Value.slice (some ⟨g4, 0, none⟩) (0 + 1) cap4).ownBlock ≠ some cb := fun e => own_ty (unhide HOWN4) e (unhide HCB4) (by decide)
    refine ⟨⟨hzw, some ⟨g4, 0, none⟩, 0 + 1, cap4, blk_set (unhide HCB4) 3 _, owns_keep (unhide HOWN4) (grown_set _ _ _ _) (Or.inr hg4)⟩, ?_⟩
    exact ((((unhide HM2).trans (unhide HM3)).alloc _).row (unhide HG4) (fun k e => (own_lt (unhide HOWN3) k e).1) hp0).setNew hzw hp0 _ _
 case rest =>
  obtain ⟨⟨-, ao, an, ac, hcb5, hown5⟩, hm5⟩ := hcut
  have HP5 := hide ((unhide HP).move hm5 hj1 (unhide HNM1))
  have HM5 := hide hm5
  have HCB5 := hide hcb5
  have HOWN5 := hide hown5
  have hcb5l : cb < wc.heap.size := lt_of_blk hcb5
  clear hm5 hcb5 hown5 bc bf HCB HOWN HP1 HM1 HP2 HM2
  by_cases hy20 : y.k = 20
  ·have hj11 : j1 + 1 < L.length := (unhide HP).fe.nextLt (unhide HY) (by omega)
   obtain ⟨z, r2, hz⟩ := PL_some (unhide HP).fe hj11
   obtain ⟨j2, b2, q2, hs2⟩ := Stp_ex (z.k = 2 ∨ z.k = 3) z L.length (j1 + 1) b1 q1
   have hj2 : j2 < L.length := hs2.lt (unhide HP).fe hz (fun e => by omega)
   have hnm2 : b2 = false → NM.length ≤ j2 := hs2.nm (fun e => by have := unhide HNM1 e; omega)
   obtain ⟨x, r3, hx⟩ := PL_some (unhide HP).fe hj2
   obtain ⟨j3, b3, q3, hs3⟩ := Stp_ex (x.k = 19) x L.length j2 b2 q2
   have HOUT := hide (callOut_two (unhide HP).fe (unhide HT) (unhide HK) (unhide HKU) (unhide HS1) (unhide HY) hy20 hz hs2 hx hs3)
   have HZ := hide hz
   have HX := hide hx
   have HS2 := hide hs2
   have HS3 := hide hs3
   have HNM2 := hide hnm2
   have HY20 := hide hy20
   clear hz hx hs2 hs3 hnm2 hy20
   go_wp2_with fail
   refine (pskip_yes 20 _ _ _ _ _ _ _ _ _ _ _ _ (unhide HP5) (unhide HY) (unhide HY20) (by decide)).mono ?_
   rintro e w2 ⟨rfl, hm6⟩
   have HP6 := hide ((unhide HP5).move hm6 hj11 (fun e => by have := unhide HNM1 e; omega))
   have HM6 := hide ((unhide HM5).trans hm6)
   have hcb := (hm6.gr.block cb hcb5l (by simp; omega)).trans (unhide HCB5)
   unfold cbl tk0 at hcb
   have hnp5 : (Value.slice ao an ac).ownBlock ≠ some pb := by
    intro e
    have := own_lt (unhide HOWN5) pb e
    omega
   have HOWN := hide (owns_keep (unhide HOWN5) hm6.gr (Or.inr hnp5))
   have hnp := hnp5
   have hcbl : cb < w2.heap.size := lt_of_blk hcb
   have bc := fun o => cell_of_blk hcb o
   have bf := fun o => frozen_of_blk hcb o
   have HCB := hide hcb
   clear hm6 hcb hnp5
   go_upto_region 5 with fail
   go_cut [] (fun wc => CS w wc cb t [v, z] ∧ Mv w wc pb g cap L.length i false 0 j2 b2 q2)
   case first =>
    refine wp_region_any (by kernel_rfl) ?_
    change wpAny _ _ _ _ _ _ _ (World.drew _)
    refine wpAny_take (i := 0) (v := .pointer (some ⟨cb, 0, none⟩)) rfl (by kernel_rfl) (by kernel_rfl) (by kernel_rfl) (fun _ _ _ h => h) (Or.inl ⟨by kernel_rfl, fun w => by go_simp⟩) ?_
    try simp only [Act.put, zA, zB, zC, zD, zE, zF]
    refine wpAny_take (i := 1) (v := .pointer (some ⟨cb, 0, none⟩)) rfl (by kernel_rfl) (by kernel_rfl) (by kernel_rfl) (fun _ _ _ h => h) (Or.inl ⟨by kernel_rfl, fun w => by go_simp⟩) ?_
    try simp only [Act.put, zA, zB, zC, zD, zE, zF]
    refine wpAny_take (i := 2) (v := .pointer (some ⟨cb, 0, none⟩)) rfl (by kernel_rfl) (by kernel_rfl) (by kernel_rfl) (fun _ _ _ h => h) (Or.inl ⟨by kernel_rfl, fun w => by go_simp⟩) ?_
    try simp only [Act.put, zA, zB, zC, zD, zE, zF]
    refine wpAny_take (i := 3) (v := .pointer (some ⟨cb, 3, none⟩)) rfl (by kernel_rfl) (by kernel_rfl) (by kernel_rfl) (fun _ _ _ h => h) (Or.inl ⟨by kernel_rfl, fun w => by go_simp⟩) ?_
    try simp only [Act.put, zA, zB, zC, zD, zE, zF]
    refine wpAny_take (i := 5) (v := .pointer (some ⟨pb, 0, none⟩)) rfl (by kernel_rfl) (by kernel_rfl) (by kernel_rfl) (fun _ _ _ h => h) (Or.inl ⟨by kernel_rfl, fun w => by go_simp⟩) ?_
    try simp only [Act.put, zA, zB, zC, zD, zE, zF]
    refine wpAny_ready (rs := [4, 6]) (by kernel_rfl) (by simp) ?_
    refine AllReady.cons rfl (fun K hK => ?_) (AllReady.cons rfl (fun K hK => ?_) AllReady.nil)
    ·go_simp
     refine hK _ _ ?_
     clear hK K
     refine wpAny_ready (rs := [6]) (by kernel_rfl) (by simp) ?_
     refine AllReady.cons rfl (fun K hK => ?_) AllReady.nil
     go_simp
     go_wp2_with (go_at_call 225; refine (pnod_any _ pb g cap B L (j1 + 1) b1 q1 NM z r2 ((unhide HP6).later (Below.refl _ _).drew) (unhide HZ) j2 b2 q2 (unhide HS2)).mono ?_; rintro e w3 ⟨rfl, hm3⟩)
     have HM3 := hide hm3.from_drew
     have hcb3 := (hm3.gr.block cb hcbl (by simp; omega)).trans (unhide HCB)
     have hown3 := owns_keep (unhide HOWN) hm3.from_drew.gr (Or.inr hnp)
     have hsz3 := hm3.gr.size
     have hcb3l : cb < w3.heap.size := lt_of_blk hcb3
     have bc3 := fun o => cell_of_blk hcb3 o
     have bf3 := fun o => frozen_of_blk hcb3 o
     have HCB3 := hide hcb3
     have HOWN3 := hide hown3
     clear hm3 hcb3 hown3 bc bf
     simp only [tkP]
     refine wpAny_ready (rs := [7]) (by kernel_rfl) (by simp) ?_
     refine AllReady.cons rfl (fun K hK => ?_) AllReady.nil
     go_simp
     refine hK _ _ ?_
     clear hK K
     refine wpAny_ready (rs := [8]) (by kernel_rfl) (by simp) ?_
     refine AllReady.cons rfl (fun K hK => ?_) AllReady.nil
     refine step_append_lies _ (by rfl) _ _ 125 (by rfl) w.heap.size 201 i0 (.agg #[.int .i64 0, .string ⟨#[]⟩, .int .i64 0]) 3 32 Tryz.underlying125 hi hz0 hz1 hz2 rfl (by decide) (.slice ao an ac) 1 (tkCellsP [v]) (by rfl) ?c0 ⟨w3.heap.size, 0, none⟩ 1 1 [.int .i64 z.k, .string z.s, .int .i64 z.p] (by rfl) rfl ?c1 ?c2 (by decide) ?c3 ?c4 ?c5 (w3.heap.size + 1) (by simp) ?_
     case c0 => exact (unhide HOWN3).alloc _
     case c1 =>
      intro j u hj
      match j, hj with
      | 0, hj => simp at hj; subst hj; simp [Addr.add]
      | 1, hj => simp at hj; subst hj; simp [Addr.add]
      | 2, hj => simp at hj; subst hj; simp [Addr.add]
      | j + 3, hj => simp at hj
     case c2 => intro u hu; simp at hu; rcases hu with rfl | rfl | rfl <;> rfl
     case c3 => unfold maxLen; simp
     case c4 => simp
     case c5 => simp; simp at hsz3; omega
     intro g4 cap4 w4 hown4 hgrow4 hat4 hlt4
     have hcb4 := (hgrow4.block cb (by simp; omega) (fun e => own_ty (unhide HOWN3) e.symm (unhide HCB3) (by decide))).trans ((Below.heap_alloc _ _ _ hcb3l).trans (unhide HCB3))
     have hpg4 : some pb ≠ (Value.slice ao an ac).ownBlock := by
      intro e
      have := own_lt (unhide HOWN3) pb e.symm
      omega
     have HG4 := hide hgrow4
     have HOWN4 := hide hown4
     have HCB4 := hide hcb4
     have bc4 := fun o => cell_of_blk hcb4 o
     have bf4 := fun o => frozen_of_blk hcb4 o
     have hcb4l : cb < w4.heap.size := lt_of_blk hcb4
     refine hK _ _ ?_
     clear hK K hgrow4 hown4 hcb4 bc3 bf3
     refine wpAny_take (i := 9) (v := .pointer (some ⟨cb, 0, none⟩)) rfl (by kernel_rfl) (by kernel_rfl) (by kernel_rfl) (fun _ _ _ h => h) (Or.inl ⟨by kernel_rfl, fun w => by go_simp⟩) ?_
     try simp only [Act.put, zA, zB, zC, zD, zE, zF]
     refine wpAny_take (i := 10) (v := .pointer (some ⟨cb, 3, none⟩)) rfl (by kernel_rfl) (by kernel_rfl) (by kernel_rfl) (fun _ _ _ h => h) (Or.inl ⟨by kernel_rfl, fun w => by go_simp⟩) ?_
     try simp only [Act.put, zA, zB, zC, zD, zE, zF]
     refine wpAny_ready (rs := [11]) (by kernel_rfl) (by simp) ?_
     refine AllReady.cons rfl (fun K hK => ?_) AllReady.nil
     go_simp
     refine hK _ _ ?_
     clear hK K
     refine wpAny_done (by kernel_rfl) ?_ _
     go_wp2_with fail
     go_meet
     have hg4 : (Value.slice (some ⟨g4, 0, none⟩) (1 + 1) cap4).ownBlock ≠ some cb := fun e => own_ty (unhide HOWN4) e (unhide HCB4) (by decide)
     refine ⟨⟨hzw, some ⟨g4, 0, none⟩, 1 + 1, cap4, blk_set (unhide HCB4) 3 _, owns_keep (unhide HOWN4) (grown_set _ _ _ _) (Or.inr hg4)⟩, ?_⟩
     exact ((((unhide HM6).trans (unhide HM3)).alloc _).row (unhide HG4) (fun k e => (own_lt (unhide HOWN3) k e).1) hp0).setNew hzw hp0 _ _
    ·go_simp
     go_wp2_with (go_at_call 225; refine (pnod_any _ pb g cap B L (j1 + 1) b1 q1 NM z r2 ((unhide HP6).later (Below.refl _ _).drew) (unhide HZ) j2 b2 q2 (unhide HS2)).mono ?_; rintro e w3 ⟨rfl, hm3⟩)
     have HM3 := hide hm3.from_drew
     have hcb3 := (hm3.gr.block cb hcbl (by simp; omega)).trans (unhide HCB)
     have hown3 := owns_keep (unhide HOWN) hm3.from_drew.gr (Or.inr hnp)
     have hsz3 := hm3.gr.size
     have hcb3l : cb < w3.heap.size := lt_of_blk hcb3
     have bc3 := fun o => cell_of_blk hcb3 o
     have bf3 := fun o => frozen_of_blk hcb3 o
     have HCB3 := hide hcb3
     have HOWN3 := hide hown3
     clear hm3 hcb3 hown3 bc bf
     simp only [tkP]
     refine wpAny_ready (rs := [4, 7]) (by kernel_rfl) (by simp) ?_
     refine AllReady.cons rfl (fun K hK => ?_) (AllReady.cons rfl (fun K hK => ?_) AllReady.nil)
     ·go_simp
      refine hK _ _ ?_
      clear hK K
      refine wpAny_ready (rs := [7]) (by kernel_rfl) (by simp) ?_
      refine AllReady.cons rfl (fun K hK => ?_) AllReady.nil
      go_simp
      refine hK _ _ ?_
      clear hK K
      refine wpAny_ready (rs := [8]) (by kernel_rfl) (by simp) ?_
      refine AllReady.cons rfl (fun K hK => ?_) AllReady.nil
      refine step_append_lies _ (by rfl) _ _ 125 (by rfl) w.heap.size 201 i0 (.agg #[.int .i64 0, .string ⟨#[]⟩, .int .i64 0]) 3 32 Tryz.underlying125 hi hz0 hz1 hz2 rfl (by decide) (.slice ao an ac) 1 (tkCellsP [v]) (by rfl) ?c0 ⟨w3.heap.size, 0, none⟩ 1 1 [.int .i64 z.k, .string z.s, .int .i64 z.p] (by rfl) rfl ?c1 ?c2 (by decide) ?c3 ?c4 ?c5 (w3.heap.size + 1) (by simp) ?_
      case c0 => exact (unhide HOWN3).alloc _
      case c1 =>
       intro j u hj
       match j, hj with
       | 0, hj => simp at hj; subst hj; simp [Addr.add]
       | 1, hj => simp at hj; subst hj; simp [Addr.add]
       | 2, hj => simp at hj; subst hj; simp [Addr.add]
       | j + 3, hj => simp at hj
      case c2 => intro u hu; simp at hu; rcases hu with rfl | rfl | rfl <;> rfl
      case c3 => unfold maxLen; simp
      case c4 => simp
      case c5 => simp; simp at hsz3; omega
      intro g4 cap4 w4 hown4 hgrow4 hat4 hlt4
      have hcb4 := (hgrow4.block cb (by simp; omega) (fun e => own_ty (unhide HOWN3) e.symm (unhide HCB3) (by decide))).trans ((Below.heap_alloc _ _ _ hcb3l).trans (unhide HCB3))
      have hpg4 : some pb ≠ (Value.slice ao an ac).ownBlock := by
       intro e
       have := own_lt (unhide HOWN3) pb e.symm
       omega
      have HG4 := hide hgrow4
      have HOWN4 := hide hown4
      have HCB4 := hide hcb4
      have bc4 := fun o => cell_of_blk hcb4 o
      have bf4 := fun o => frozen_of_blk hcb4 o
      have hcb4l : cb < w4.heap.size := lt_of_blk hcb4
      refine hK _ _ ?_
      clear hK K hgrow4 hown4 hcb4 bc3 bf3
      refine wpAny_take (i := 9) (v := .pointer (some ⟨cb, 0, none⟩)) rfl (by kernel_rfl) (by kernel_rfl) (by kernel_rfl) (fun _ _ _ h => h) (Or.inl ⟨by kernel_rfl, fun w => by go_simp⟩) ?_
      try simp only [Act.put, zA, zB, zC, zD, zE, zF]
      refine wpAny_take (i := 10) (v := .pointer (some ⟨cb, 3, none⟩)) rfl (by kernel_rfl) (by kernel_rfl) (by kernel_rfl) (fun _ _ _ h => h) (Or.inl ⟨by kernel_rfl, fun w => by go_simp⟩) ?_
      try simp only [Act.put, zA, zB, zC, zD, zE, zF]
      refine wpAny_ready (rs := [11]) (by kernel_rfl) (by simp) ?_
      refine AllReady.cons rfl (fun K hK => ?_) AllReady.nil
      go_simp
      refine hK _ _ ?_
      clear hK K
      refine wpAny_done (by kernel_rfl) ?_ _
      go_wp2_with fail
      go_meet
      have hg4 : (Value.slice (some ⟨g4, 0, none⟩) (1 + 1) cap4).ownBlock ≠ some cb := fun e => own_ty (unhide HOWN4) e (unhide HCB4) (by decide)
      refine ⟨⟨hzw, some ⟨g4, 0, none⟩, 1 + 1, cap4, blk_set (unhide HCB4) 3 _, owns_keep (unhide HOWN4) (grown_set _ _ _ _) (Or.inr hg4)⟩, ?_⟩
      exact ((((unhide HM6).trans (unhide HM3)).alloc _).row (unhide HG4) (fun k e => (own_lt (unhide HOWN3) k e).1) hp0).setNew hzw hp0 _ _
     ·go_simp
      refine hK _ _ ?_
      clear hK K
      refine wpAny_ready (rs := [4]) (by kernel_rfl) (by simp) ?_
      refine AllReady.cons rfl (fun K hK => ?_) AllReady.nil
      go_simp
      refine hK _ _ ?_
      clear hK K
      refine wpAny_ready (rs := [8]) (by kernel_rfl) (by simp) ?_
      refine AllReady.cons rfl (fun K hK => ?_) AllReady.nil
      refine step_append_lies _ (by rfl) _ _ 125 (by rfl) w.heap.size 201 i0 (.agg #[.int .i64 0, .string ⟨#[]⟩, .int .i64 0]) 3 32 Tryz.underlying125 hi hz0 hz1 hz2 rfl (by decide) (.slice ao an ac) 1 (tkCellsP [v]) (by rfl) ?c0 ⟨w3.heap.size, 0, none⟩ 1 1 [.int .i64 z.k, .string z.s, .int .i64 z.p] (by rfl) rfl ?c1 ?c2 (by decide) ?c3 ?c4 ?c5 (w3.heap.size + 1) (by simp) ?_
      case c0 => exact (unhide HOWN3).alloc _
      case c1 =>
       intro j u hj
       match j, hj with
       | 0, hj => simp at hj; subst hj; simp [Addr.add]
       | 1, hj => simp at hj; subst hj; simp [Addr.add]
       | 2, hj => simp at hj; subst hj; simp [Addr.add]
       | j + 3, hj => simp at hj
      case c2 => intro u hu; simp at hu; rcases hu with rfl | rfl | rfl <;> rfl
      case c3 => unfold maxLen; simp
      case c4 => simp
      case c5 => simp; simp at hsz3; omega
      intro g4 cap4 w4 hown4 hgrow4 hat4 hlt4
      have hcb4 := (hgrow4.block cb (by simp; omega) (fun e => own_ty (unhide HOWN3) e.symm (unhide HCB3) (by decide))).trans ((Below.heap_alloc _ _ _ hcb3l).trans (unhide HCB3))
      have hpg4 : some pb ≠ (Value.slice ao an ac).ownBlock := by
       intro e
       have := own_lt (unhide HOWN3) pb e.symm
       omega
      have HG4 := hide hgrow4
      have HOWN4 := hide hown4
      have HCB4 := hide hcb4
      have bc4 := fun o => cell_of_blk hcb4 o
      have bf4 := fun o => frozen_of_blk hcb4 o
      have hcb4l : cb < w4.heap.size := lt_of_blk hcb4
      refine hK _ _ ?_
      clear hK K hgrow4 hown4 hcb4 bc3 bf3
      refine wpAny_take (i := 9) (v := .pointer (some ⟨cb, 0, none⟩)) rfl (by kernel_rfl) (by kernel_rfl) (by kernel_rfl) (fun _ _ _ h => h) (Or.inl ⟨by kernel_rfl, fun w => by go_simp⟩) ?_
      try simp only [Act.put, zA, zB, zC, zD, zE, zF]
      refine wpAny_take (i := 10) (v := .pointer (some ⟨cb, 3, none⟩)) rfl (by kernel_rfl) (by kernel_rfl) (by kernel_rfl) (fun _ _ _ h => h) (Or.inl ⟨by kernel_rfl, fun w => by go_simp⟩) ?_
      try simp only [Act.put, zA, zB, zC, zD, zE, zF]
      refine wpAny_ready (rs := [11]) (by kernel_rfl) (by simp) ?_
      refine AllReady.cons rfl (fun K hK => ?_) AllReady.nil
      go_simp
      refine hK _ _ ?_
      clear hK K
      refine wpAny_done (by kernel_rfl) ?_ _
      go_wp2_with fail
      go_meet
      have hg4 : (Value.slice (some ⟨g4, 0, none⟩) (1 + 1) cap4).ownBlock ≠ some cb := fun e => own_ty (unhide HOWN4) e (unhide HCB4) (by decide)
      refine ⟨⟨hzw, some ⟨g4, 0, none⟩, 1 + 1, cap4, blk_set (unhide HCB4) 3 _, owns_keep (unhide HOWN4) (grown_set _ _ _ _) (Or.inr hg4)⟩, ?_⟩
      exact ((((unhide HM6).trans (unhide HM3)).alloc _).row (unhide HG4) (fun k e => (own_lt (unhide HOWN3) k e).1) hp0).setNew hzw hp0 _ _
   case rest =>
    obtain ⟨⟨-, ao2, an2, ac2, hcb7, hown7⟩, hm7⟩ := hcut
    have HP7 := hide ((unhide HP).move hm7 hj2 (unhide HNM2))
    have HM7 := hide hm7
    have HCB7 := hide hcb7
    have HOWN7 := hide hown7
    have hcb7l : cb < wc.heap.size := lt_of_blk hcb7
    clear hm7 hcb7 hown7 bc bf
    go_wp2_with fail
    refine (ptake_any 19 _ pb g cap B L j2 b2 q2 NM x r3 (unhide HP7) (unhide HX) (by decide) j3 b3 q3 (unhide HS3)).mono ?_
    rintro e w8 ⟨rfl, hm8⟩
    have HM8 := hide ((unhide HM7).trans hm8)
    have hcb8 := (hm8.gr.block cb hcb7l (by simp; omega)).trans (unhide HCB7)
    unfold cbl tk0 at hcb8
    have hnp8 : (Value.slice ao2 an2 ac2).ownBlock ≠ some pb := by
     intro e
     have := own_lt (unhide HOWN7) pb e
     omega
    have HOWN8 := hide (owns_keep (unhide HOWN7) hm8.gr (Or.inr hnp8))
    have hcbl8 : cb < w8.heap.size := lt_of_blk hcb8
    have bc := fun o => cell_of_blk hcb8 o
    have bf := fun o => frozen_of_blk hcb8 o
    have HCB8 := hide hcb8
    have hnc8 : (Value.slice ao2 an2 ac2).ownBlock ≠ some cb := fun e => own_ty (unhide HOWN8) e hcb8 (by decide)
    clear hm8 hcb8 hnp8
    simp only [tkP]
    go_wp2_with fail
    go_ret
    exact ⟨cb, [v, z], x, j3, b3, q3, rfl, hzw, ⟨ao2, an2, ac2, blk_set (blk_set (blk_set (unhide HCB8) 4 _) 5 _) 6 _, owns_keep (owns_keep (owns_keep (unhide HOWN8) (grown_set _ _ _ _) (Or.inr hnc8)) (grown_set _ _ _ _) (Or.inr hnc8)) (grown_set _ _ _ _) (Or.inr hnc8)⟩, (((unhide HM8).setNew hzw hp0 _ _).setNew hzw hp0 _ _).setNew hzw hp0 _ _, unhide HOUT⟩
  ·obtain ⟨j2, b2, q2, hs2⟩ := Stp_ex (y.k = 19) y L.length j1 b1 q1
   have HOUT := hide (callOut_one (unhide HP).fe (unhide HT) (unhide HK) (unhide HKU) (unhide HS1) (unhide HY) hy20 hs2)
   have HS2 := hide hs2
   have HY20 := hide hy20
   clear hs2 hy20
   go_wp2_with fail
   refine (pskip_no 20 _ _ _ _ _ _ _ _ _ _ _ _ (unhide HP5) (unhide HY) (unhide HY20)).mono ?_
   rintro e w2 ⟨rfl, hw2⟩
   have hw3 := hw2.symm
   clear hw2
   subst hw3
   go_wp2_with fail
   refine (ptake_any 19 _ pb g cap B L j1 b1 q1 NM y r1 (unhide HP5) (unhide HY) (by decide) j2 b2 q2 (unhide HS2)).mono ?_
   rintro e w8 ⟨rfl, hm8⟩
   have HM8 := hide ((unhide HM5).trans hm8)
   have hcb8 := (hm8.gr.block cb hcb5l (by simp; omega)).trans (unhide HCB5)
   unfold cbl tk0 at hcb8
   have hnp8 : (Value.slice ao an ac).ownBlock ≠ some pb := by
    intro e
    have := own_lt (unhide HOWN5) pb e
    omega
   have HOWN8 := hide (owns_keep (unhide HOWN5) hm8.gr (Or.inr hnp8))
   have hcbl8 : cb < w8.heap.size := lt_of_blk hcb8
   have bc := fun o => cell_of_blk hcb8 o
   have bf := fun o => frozen_of_blk hcb8 o
   have HCB8 := hide hcb8
   have hnc8 : (Value.slice ao an ac).ownBlock ≠ some cb := fun e => own_ty (unhide HOWN8) e hcb8 (by decide)
   clear hm8 hcb8 hnp8
   simp only [tkP]
   go_wp2_with fail
   go_ret
   exact ⟨cb, [v], y, j2, b2, q2, rfl, hzw, ⟨ao, an, ac, blk_set (blk_set (blk_set (unhide HCB8) 4 _) 5 _) 6 _, owns_keep (owns_keep (owns_keep (unhide HOWN8) (grown_set _ _ _ _) (Or.inr hnc8)) (grown_set _ _ _ _) (Or.inr hnc8)) (grown_set _ _ _ _) (Or.inr hnc8)⟩, (((unhide HM8).setNew hzw hp0 _ _).setNew hzw hp0 _ _).setNew hzw hp0 _ _, unhide HOUT⟩
end Go.Proofs.YtidakhhekofkoaaGreatDoor
