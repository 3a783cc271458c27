/- The program's readBackward: what stands in its loops. -/
import Derived.Test.YtidakhhekofkoaaGreatDoorX44
import Derived.Test.YtidakhhekofkoaaGreatDoorX38
import Derived.Test.YtidakhhekofkoaaGreatDoorX42
import Derived.Test.YtidakhhekofkoaaGreatDoorX28
set_option linter.unusedSimpArgs false
set_option linter.unusedVariables false
open List renaming setIfInBounds_toArray → zA, set_cons_zero → zB, set_cons_succ → zC, getElem_toArray → zD, getElem_cons_succ → zE, getElem_cons_zero → zF
namespace Go.Proofs.YtidakhhekofkoaaGreatDoor
open Go.RowKit Go.Deep Go.Maps
theorem klP_key (s : Nat) : WideAt.IsKeyLit (klP s) := trivial
def plC (l : List Nat) : List Value := l.map fun p : Nat => Value.int .u32 (p : Int)
theorem plC_app (l r : List Nat) : plC (l ++ r) = plC l ++ plC r := by unfold plC; rw [List.map_append]
def RwV (W : World) (base H : Nat) (rv : List Value) (tw : List (List Nat)) : Prop :=
 ∀ (j : Nat) (r : List Nat), tw[j]? = some r → ∃ g, rv[j]? = some (.slice (some ⟨g, 0, none⟩) r.length r.length) ∧ base ≤ g ∧ g < H ∧ W.heap[g]? = some (.cells (rowC r) 3 (0, 0))
structure RbP (V W : World) (mb bb : Nat) (lo : Option Addr) (lc : Nat) (l : List Nat) (D : DataW Unit) (ho : Option Addr) (hc : Nat) (rv : List Value) (tw : List (List Nat)) (H : Nat) : Prop where
 blk : W.heap[bb]? = some (.cells #[.slice ho tw.length hc, .string ⟨#[]⟩] 153 (0, 0))
 hbb : V.heap.size ≤ bb
 pl : W.ownsRow V.heap.size 147 1 (.slice lo l.length lc) l.length (plC l)
 mp : W.ownsMap Tryz.prog 147 (plainElem Tryz.prog 3) mb l.length D
 hmb : V.heap.size ≤ mb
 num : NumM klP D l
 ah : W.ownsRow V.heap.size 33 1 (.slice ho tw.length hc) tw.length rv
 rows : RwV W V.heap.size H rv tw
 hH : H ≤ W.heap.size
 bel : Below V.heap.size V W
theorem map_ne {W : World} {b n : Nat} {D : DataW Unit} (h : W.ownsMap Tryz.prog 147 (plainElem Tryz.prog 3) b n D) {c : Array Value} {ty : Nat} {m : Nat × Nat} {k : Nat} (hk : W.heap[k]? = some (.cells c ty m)) : k ≠ b := by
 rintro rfl
 obtain ⟨es, clock, h1, _⟩ := h
 rw [hk] at h1
 cases h1
theorem RwV.keep {W W' : World} {base H : Nat} {rv : List Value} {tw : List (List Nat)} (h : RwV W base H rv tw) (hk : ∀ g c, g < H → W.heap[g]? = some (.cells c 3 (0, 0)) → W'.heap[g]? = W.heap[g]?) : RwV W' base H rv tw := fun j r hr => by
 obtain ⟨g, h1, h2, h3, h4⟩ := h j r hr
 exact ⟨g, h1, h2, h3, (hk g _ h3 h4).trans h4⟩
theorem RbP.later {V W W' : World} {mb bb : Nat} {lo : Option Addr} {lc : Nat} {l : List Nat} {D : DataW Unit} {ho : Option Addr} {hc : Nat} {rv : List Value} {tw : List (List Nat)} {H : Nat} (h : RbP V W mb bb lo lc l D ho hc rv tw H) (hb : Below W.heap.size W W') : RbP V W' mb bb lo lc l D ho hc rv tw H :=
 ⟨(hb.block _ (lt_of_blk h.blk)).trans h.blk, h.hbb, owns_later h.pl hb, h.mp.kept (grown_below hb none) (by simp), h.hmb, h.num, owns_later h.ah hb, h.rows.keep (fun g c _ hg => hb.block g (lt_of_blk hg)), Nat.le_trans h.hH hb.size, h.bel.trans (hb.mono h.bel.size)⟩
theorem RbP.mapped {V W W' : World} {mb bb : Nat} {lo : Option Addr} {lc : Nat} {l : List Nat} {D : DataW Unit} {ho : Option Addr} {hc : Nat} {rv : List Value} {tw : List (List Nat)} {H : Nat} (h : RbP V W mb bb lo lc l D ho hc rv tw H) (hg : W.grownBy W' (some mb)) :
  W'.heap[bb]? = some (.cells #[.slice ho tw.length hc, .string ⟨#[]⟩] 153 (0, 0)) ∧ W'.ownsRow V.heap.size 147 1 (.slice lo l.length lc) l.length (plC l) ∧ W'.ownsRow V.heap.size 33 1 (.slice ho tw.length hc) tw.length rv ∧ RwV W' V.heap.size H rv tw ∧ H ≤ W'.heap.size ∧ Below V.heap.size V W' := by
 have hne : ∀ {c : Array Value} {ty : Nat} {m : Nat × Nat} {k : Nat}, W.heap[k]? = some (.cells c ty m) → some k ≠ some mb := fun hk e => map_ne h.mp hk (Option.some.inj e)
 refine ⟨(hg.block _ (lt_of_blk h.blk) (hne h.blk)).trans h.blk, owns_other h.pl hg ?_, owns_other h.ah hg ?_, h.rows.keep (fun g c _ hgc => hg.block g (lt_of_blk hgc) (hne hgc)), Nat.le_trans h.hH hg.size, h.bel.grown hg h.bel.size (fun b hb => by cases hb; exact h.hmb)⟩
 ·intro b hb e
  obtain ⟨c, hcc⟩ := own_at h.pl e
  exact hne hcc hb.symm
 ·intro b hb e
  obtain ⟨c, hcc⟩ := own_at h.ah e
  exact hne hcc hb.symm
theorem RbP.place {V W W1 W2 W3 : World} {mb bb : Nat} {lo : Option Addr} {lc : Nat} {l : List Nat} {D : DataW Unit} {ho : Option Addr} {hc : Nat} {rv : List Value} {tw : List (List Nat)} {H : Nat} (h : RbP V W mb bb lo lc l D ho hc rv tw H) {p : Nat} (hp : fnd p l 0 = none)
  (hm : W1.ownsMap Tryz.prog 147 (plainElem Tryz.prog 3) mb (l.length + 1) (D.put (klP p) (.lit (.int .i64 (l.length : Nat))))) (hg1 : W.grownBy W1 (some mb)) (hb2 : Below W1.heap.size W1 W2) {g cap : Nat}
  (ho3 : W3.ownsRow V.heap.size 147 1 (.slice (some ⟨g, 0, none⟩) (l.length + 1) cap) (l.length + 1) (plC l ++ [.int .u32 (p : Int)])) (hg3 : W2.grownBy W3 (Value.slice lo l.length lc).ownBlock) :
  RbP V W3 mb bb (some ⟨g, 0, none⟩) cap (l ++ [p]) (D.put (klP p) (.lit (.int .i64 (l.length : Nat)))) ho hc rv tw H := by
 obtain ⟨k1, k2, k3, k4, k5, k6⟩ := h.mapped hg1
 have k1' := (hb2.block _ (lt_of_blk k1)).trans k1
 have k2' := owns_later k2 hb2
 have k3' := owns_later k3 hb2
 have k4' : RwV W2 V.heap.size H rv tw := k4.keep (fun g c _ hg => hb2.block g (lt_of_blk hg))
 have hm2 := hm.kept (grown_below hb2 none) (by simp)
 have k6' := k6.trans (hb2.mono k6.size)
 have hty : ∀ {c : Array Value} {ty k : Nat}, W2.heap[k]? = some (.cells c ty (0, 0)) → ty ≠ 147 → some k ≠ (Value.slice lo l.length lc).ownBlock := fun hk hne e => own_ty k2' e.symm hk hne
 refine ⟨(hg3.block _ (lt_of_blk k1') (hty k1' (by decide))).trans k1', h.hbb, ?_, ?_, h.hmb, h.num.put klP_key klP_inj hp, ?_, ?_, ?_, ?_⟩
 ·have e : plC (l ++ [p]) = plC l ++ [.int .u32 (p : Int)] := by rw [plC_app]; rfl
  rw [e, List.length_append]
  exact ho3
 ·rw [List.length_append]
  refine hm2.kept hg3 (fun e => ?_)
  obtain ⟨c, hcc⟩ := own_at k2' e.symm
  exact map_ne hm2 hcc rfl
 ·exact owns_other k3' hg3 (fun b hb e => by obtain ⟨c, hcc⟩ := own_at k3' e; exact hty hcc (by decide) hb.symm)
 ·exact k4'.keep (fun g c _ hgc => hg3.block g (lt_of_blk hgc) (hty hgc (by decide)))
 ·exact Nat.le_trans k5 (Nat.le_trans hb2.size hg3.size)
 ·exact k6'.grown hg3 k6'.size (fun b hb => (own_lt k2' b hb).1)
theorem RbP.cell {V W : World} {mb bb : Nat} {lo : Option Addr} {lc : Nat} {l : List Nat} {D : DataW Unit} {ho : Option Addr} {hc : Nat} {rv : List Value} {tw : List (List Nat)} {H : Nat} (h : RbP V W mb bb lo lc l D ho hc rv tw H) {g : Nat} (hgH : H ≤ g) (hgV : V.heap.size ≤ g) {c : Array Value} (hgc : W.heap[g]? = some (.cells c 3 (0, 0))) (i : Nat) (v : Value) : RbP V (W.setCell ⟨g, i, none⟩ v) mb bb lo lc l D ho hc rv tw H := by
 have hg := grown_set W g i v
 have hty : ∀ {c : Array Value} {ty k : Nat}, W.heap[k]? = some (.cells c ty (0, 0)) → ty ≠ 3 → some k ≠ some g := fun hk hne e => by
  cases e
  rw [hgc] at hk
  injection hk with hk
  injection hk with _ e _
  exact hne e.symm
 refine ⟨(hg.block _ (lt_of_blk h.blk) (hty h.blk (by decide))).trans h.blk, h.hbb, owns_other h.pl hg ?_, h.mp.kept hg (fun e => map_ne h.mp hgc (Option.some.inj e).symm), h.hmb, h.num, owns_other h.ah hg ?_, ?_, ?_, ?_⟩
 ·intro b hb e
  obtain ⟨c', hcc⟩ := own_at h.pl e
  exact hty hcc (by decide) hb.symm
 ·intro b hb e
  obtain ⟨c', hcc⟩ := own_at h.ah e
  exact hty hcc (by decide) hb.symm
 ·exact h.rows.keep (fun k c' hkH hk => hg.block k (lt_of_blk hk) (fun e => by cases e; omega))
 ·simpa [World.setCell] using h.hH
 ·exact h.bel.grown hg h.bel.size (fun b hb => by cases hb; exact hgV)
theorem RbP.row {V W W1 W2 : World} {mb bb : Nat} {lo : Option Addr} {lc : Nat} {l : List Nat} {D : DataW Unit} {ho : Option Addr} {hc : Nat} {rv : List Value} {tw : List (List Nat)} {H : Nat} (h : RbP V W mb bb lo lc l D ho hc rv tw H) {g : Nat} (hgV : V.heap.size ≤ g) {r : List Nat} (hgc : W.heap[g]? = some (.cells (rowC r) 3 (0, 0)))
  (hb1 : Below W.heap.size W W1) {g2 cap : Nat} (ho2 : W2.ownsRow V.heap.size 33 1 (.slice (some ⟨g2, 0, none⟩) (tw.length + 1) cap) (tw.length + 1) (rv ++ [.slice (some ⟨g, 0, none⟩) r.length r.length])) (hg2 : W1.grownBy W2 (Value.slice ho tw.length hc).ownBlock) :
  RbP V (W2.setCell ⟨bb, 0, none⟩ (.slice (some ⟨g2, 0, none⟩) (tw.length + 1) cap)) mb bb lo lc l D (some ⟨g2, 0, none⟩) cap (rv ++ [.slice (some ⟨g, 0, none⟩) r.length r.length]) (tw ++ [r]) W.heap.size := by
 have h1 := h.later hb1
 have hgc1 := (hb1.block _ (lt_of_blk hgc)).trans hgc
 have hrl : rv.length = tw.length := by have := h.ah.1; rw [Nat.mul_one] at this; exact this
 have hty : ∀ {c : Array Value} {ty k : Nat}, W1.heap[k]? = some (.cells c ty (0, 0)) → ty ≠ 33 → some k ≠ (Value.slice ho tw.length hc).ownBlock := fun hk hne e => own_ty h1.ah e.symm hk hne
 have hbk2 := (hg2.block _ (lt_of_blk h1.blk) (hty h1.blk (by decide))).trans h1.blk
 have hpl2 := owns_other h1.pl hg2 (fun b hb e => by obtain ⟨c, hcc⟩ := own_at h1.pl e; exact hty hcc (by decide) hb.symm)
 have hmp2 := h1.mp.kept hg2 (fun e => by obtain ⟨c, hcc⟩ := own_at h1.ah e.symm; exact map_ne h1.mp hcc rfl)
 have hbel2 := h1.bel.grown hg2 h1.bel.size (fun b hb => (own_lt h1.ah b hb).1)
 have hgc2 := (hg2.block _ (lt_of_blk hgc1) (hty hgc1 (by decide))).trans hgc1
 have hs := grown_set W2 bb 0 (.slice (some ⟨g2, 0, none⟩) (tw.length + 1) cap)
 have hty2 : ∀ {c : Array Value} {ty k : Nat}, W2.heap[k]? = some (.cells c ty (0, 0)) → ty ≠ 153 → some k ≠ some bb := fun hk hne e => by
  cases e
  rw [hbk2] at hk
  injection hk with hk
  injection hk with _ e _
  exact hne e.symm
 have hrows2 : RwV W2 V.heap.size H rv tw := h1.rows.keep (fun k c _ hk => hg2.block k (lt_of_blk hk) (hty hk (by decide)))
 have hsz : W.heap.size ≤ (W2.setCell ⟨bb, 0, none⟩ (.slice (some ⟨g2, 0, none⟩) (tw.length + 1) cap)).heap.size := by
  have := hb1.size; have := hg2.size; simp [World.setCell]; omega
 refine ⟨?_, h.hbb, owns_other hpl2 hs (fun b hb e => by obtain ⟨c, hcc⟩ := own_at hpl2 e; exact hty2 hcc (by decide) hb.symm), hmp2.kept hs (fun e => map_ne hmp2 hbk2 (Option.some.inj e).symm), h.hmb, h.num, ?_, ?_, hsz, hbel2.grown hs hbel2.size (fun b hb => by cases hb; exact h.hbb)⟩
 ·have := blk_set hbk2 0 (.slice (some ⟨g2, 0, none⟩) (tw.length + 1) cap)
  rw [List.length_append]
  exact this
 ·rw [List.length_append]
  exact owns_other ho2 hs (fun b hb e => by obtain ⟨c, hcc⟩ := own_at ho2 e; exact hty2 hcc (by decide) hb.symm)
 ·intro j q hq
  rcases Nat.lt_or_ge j tw.length with hj | hj
  ·rw [List.getElem?_append_left hj] at hq
   obtain ⟨k, k1, k2, k3, k4⟩ := hrows2 j q hq
   exact ⟨k, by rw [List.getElem?_append_left (by omega)]; exact k1, k2, Nat.lt_of_lt_of_le k3 h.hH, (hs.block k (lt_of_blk k4) (hty2 k4 (by decide))).trans k4⟩
  ·rw [List.getElem?_append_right hj] at hq
   have hj0 : j - tw.length = 0 := by
    have := (List.getElem?_eq_some_iff.1 hq).1
    simp at this
    omega
   rw [hj0] at hq
   have hqr : r = q := by simpa using hq
   subst hqr
   refine ⟨g, ?_, hgV, lt_of_blk hgc, (hs.block g (lt_of_blk hgc2) (hty2 hgc2 (by decide))).trans hgc2⟩
   rw [List.getElem?_append_right (by omega), hrl, hj0]
   rfl
def RdB (w : World) (al : List Tk) (rs : List Rl) (w' : World) (e : Ending) : Prop :=
 ∃ l tw ro rc, e = .returned (.agg #[.slice ro tw.length rc, .string (setS (l.map (keepP (wholeM rs [] 0))))]) ∧ Bfs (ahP (stepsM rs []) al) (List.range al.length) (p0P (stepsM rs [])) l.length l tw ∧ RwS w' ro (tw.map zI) ∧ Below w.heap.size w w' ∧ l.length ≤ 131072
theorem strC_nm {al : List Tk} {j : Nat} (h : j < al.length) : (strC al)[j]? = some (.string (nmA al j)) := by
 unfold nmA strC
 rw [List.getElem?_map, List.getElem?_eq_getElem h]
 rfl
theorem places_few {al : List Tk} {rs : List Rl} (hM : MGood al rs) {n k : Nat} {l : List Nat} {tw : List (List Nat)} (h : Bfs (ahP (stepsM rs []) al) (List.range n) (p0P (stepsM rs [])) k l tw) : l.length ≤ 131072 ∧ ∀ p ∈ l, p < 4294967296 := by
 have hn : (stepsM rs []).length ≤ 16 := by
  rw [stepsM_len]
  simpa using hM.nodes
 obtain ⟨h1, h2⟩ := placesP_le h
 have h3 : 2 ^ ((stepsM rs []).length + 1) ≤ 2 ^ 17 := Nat.pow_le_pow_right (by decide) (by omega)
 exact ⟨Nat.le_trans h1 h3, fun p hp => Nat.lt_of_lt_of_le (h2 p hp) (Nat.le_trans h3 (by decide))⟩
theorem Tryz.infoRowP : (Tryz.prog.info? 33).map (fun i => (i.zero, i.size, i.bytes)) = some (some (.slice none 0 0), 1, 24) := by kernel_rfl
theorem Tryz.infoPl : (Tryz.prog.info? 147).map (fun i => (i.zero, i.size, i.bytes)) = some (some (.int .u32 0), 1, 4) := by kernel_rfl
theorem numb_le {σ : Type} [DecidableEq σ] (l : List σ) (s : σ) : (numb l s).1.length ≤ l.length + 1 := by
 unfold numb
 split
 ·show l.length ≤ _; omega
 ·simp
theorem rowN_le {σ : Type} [DecidableEq σ] (st : σ → Nat → σ) (s : σ) : ∀ (ns : List Nat) (l : List σ), (rowN st s ns l).1.length ≤ l.length + ns.length
 | [], l => by simp [rowN]
 | a :: ns, l => by
  rw [rowN]
  have h1 := rowN_le st s ns (numb l (st s a)).1
  have h2 := numb_le l (st s a)
  simp only [List.length_cons]
  omega
theorem ahP_lt {al : List Tk} {rs : List Rl} (hM : MGood al rs) (p a : Nat) : ahP (stepsM rs []) al p a < 4294967296 := by
 have hn : (stepsM rs []).length ≤ 16 := by rw [stepsM_len]; simpa using hM.nodes
 exact Nat.lt_of_lt_of_le (fillN_lt _ _ _ _ _) (Nat.le_trans (Nat.pow_le_pow_right (by decide) (show _ ≤ 32 by omega)) (by decide))
theorem RbP.rws {V W W' : World} {mb bb : Nat} {lo : Option Addr} {lc : Nat} {l : List Nat} {D : DataW Unit} {ho : Option Addr} {hc : Nat} {rv : List Value} {tw : List (List Nat)} {H : Nat} (h : RbP V W mb bb lo lc l D ho hc rv tw H) (hk : ∀ (k : Nat) (c : Array Value) (ty : Nat), W.heap[k]? = some (.cells c ty (0, 0)) → ty = 3 ∨ ty = 33 → W'.heap[k]? = W.heap[k]?) : RwS W' ho (tw.map zI) := fun j r hr => by
 rw [List.getElem?_map] at hr
 cases e : tw[j]? with
 | none => rw [e] at hr; cases hr
 | some q =>
  rw [e] at hr
  have hq : zI q = r := Option.some.inj hr
  subst hq
  have hj := (List.getElem?_eq_some_iff.1 e).1
  obtain ⟨g, h1, h2, h3⟩ := owns1_at h.ah hj
  obtain ⟨g2, k1, _, _, k4⟩ := h.rows j q e
  subst h1
  obtain ⟨c, hcc⟩ := own_at h.ah (b := g) rfl
  have hg' := hk g _ _ hcc (Or.inr rfl)
  have hg2' := (hk g2 _ _ k4 (Or.inl rfl)).trans k4
  refine ⟨g, 0, some ⟨g2, 0, none⟩, q.length, rfl, ?_, ?_, fun i x hx => ?_⟩
  ·exact lt_of_blk (hg'.trans hcc)
  ·rw [Nat.zero_add, World.cell?_of_block (a := ⟨g, j, none⟩) hg', h3, k1]
   unfold zI
   rw [List.length_map]
  ·unfold zI at hx
   rw [List.getElem?_map] at hx
   cases e2 : q[i]? with
   | none => rw [e2] at hx; cases hx
   | some y =>
    rw [e2] at hx
    have hy : (y : Int) = x := Option.some.inj hx
    exact ⟨g2, 0, rfl, lt_of_blk hg2', by rw [Nat.zero_add, cell_of_blk hg2', rowC_at e2, hy]⟩
theorem mkInts (w : World) (n : Nat) (hn : n ≤ 10000000000) : (Instr.makeSlice 33 (.int .i64 (n : Int)) (.int .i64 (n : Int))).run Tryz.prog w = .ok (.slice (some ⟨w.heap.size, 0, none⟩) n n) (w.alloc (.cells (Array.replicate n (.int .i64 0)) 3)) := by
 obtain ⟨i0, hi0, hz0, hz1, hz2⟩ := info_parts Tryz.infoI64
 exact make_run (P := Tryz.prog) w 33 3 i0 (.int .i64 0) Tryz.underlying33 hi0 hz0 hz1 rfl (by omega) n hn
set_option maxHeartbeats 4000000 in
set_option maxRecDepth 100000 in
theorem readBackward_any (w : World) (al : List Tk) (rs : List Rl) (hM : MGood al rs) (a1 : Option Addr) (a3 : Nat) (m1 : Option Addr) (m2 m3 : Nat) (cells : List Value) (ha : w.ownsRow 0 9 1 (.slice a1 al.length a3) al.length (strC al)) (hr : w.ownsRow 0 144 3 (.slice m1 m2 m3) rs.length cells) (hp : BuP w rs cells) (h6 : al.length ≤ 6) :
  Calls Tryz.prog 80 #[.agg #[.slice a1 al.length a3, .slice m1 m2 m3]] w fun e w' => RdB w al rs w' e := by
 have hB : Below w.heap.size w ((w.alloc (.cells #[.slice a1 al.length a3, .slice m1 m2 m3] 78)).alloc (.cells #[.slice none 0 0, .string ⟨#[]⟩] 153)) := ((Below.refl _ _).alloc (Nat.le_refl _) _).alloc (by simp) _
 have HW := hide (MWalk_any _ rs a1 al.length a3 m1 m2 m3 cells (owns_later hr hB) (hp.keep (KB.below hB)) hM.nodes hM.rlen (fun r hr => (hM.fg r hr).ne))
 have HA0 := hide (owns_later ha hB)
 have HMB : Hid (((w.alloc (.cells #[.slice a1 al.length a3, .slice m1 m2 m3] 78)).alloc (.cells #[.slice none 0 0, .string ⟨#[]⟩] 153)).heap[w.heap.size]? = some (.cells #[.slice a1 al.length a3, .slice m1 m2 m3] 78 (0, 0))) := (Below.heap_alloc _ _ _ (by simp)).trans (blk_alloc _ _)
 have HRB : Hid (((w.alloc (.cells #[.slice a1 al.length a3, .slice m1 m2 m3] 78)).alloc (.cells #[.slice none 0 0, .string ⟨#[]⟩] 153)).heap[w.heap.size + 1]? = some (.cells #[.slice none 0 0, .string ⟨#[]⟩] 153 (0, 0))) := blk_alloc' _ _ _ (by simp)
 have HB := hide hB
 have HM := hide hM
 have HG := hide (stepsM_g hM)
 have hwl : wholeM rs [] 0 < 4294967296 := Nat.lt_of_lt_of_le (wholeM_lt rs [] 0 (by decide) (fun r hr => (hM.fg r hr).ne)) (Nat.le_trans (Nat.pow_le_pow_right (by decide) (show _ ≤ 32 by have := (stepsM_g hM).len; omega)) (by decide))
 have hmm := @run_makeMap Tryz.prog
 obtain ⟨i0, hi0, hz0, hz1, hz2⟩ := info_parts Tryz.infoPl
 obtain ⟨r0, hr0, hrz0, hrz1, hrz2⟩ := info_parts Tryz.infoRowP
 clear ha hr hp hB hM
 go_enter Tryz.func80, Tryz.ntmps80
 go_wp2_with fail
 refine (unhide HW).mono ?_
 generalize ((w.alloc (.cells #[.slice a1 al.length a3, .slice m1 m2 m3] 78)).alloc (.cells #[.slice none 0 0, .string ⟨#[]⟩] 153)) = W0 at *
 rintro e w1 ⟨so, sc, rfl, hst, hb1⟩
 have hbv : Below w1.heap.size w1 (w1.alloc (.cells #[.slice so (stepsM rs []).length sc, .int .u32 ((wholeM rs [] 0 : Nat) : Int)] 149)) := (Below.refl _ _).alloc (Nat.le_refl _) _
 have HBV := hide ((unhide HB).trans ((hb1.trans (hbv.mono hb1.size)).mono (unhide HB).size))
 have HSTV := hide (hst.later hbv)
 have HAV := hide (owns_later (owns_later (unhide HA0) hb1) hbv)
 have HMV := hide ((hbv.block _ (Nat.lt_of_lt_of_le (lt_of_blk (unhide HMB)) hb1.size)).trans ((hb1.block _ (lt_of_blk (unhide HMB))).trans (unhide HMB)))
 have HRV := hide ((hbv.block _ (Nat.lt_of_lt_of_le (lt_of_blk (unhide HRB)) hb1.size)).trans ((hb1.block _ (lt_of_blk (unhide HRB))).trans (unhide HRB)))
 have HWV := hide (blk_alloc w1 (.cells #[.slice so (stepsM rs []).length sc, .int .u32 ((wholeM rs [] 0 : Nat) : Int)] 149))
 clear hst hb1 hbv HW HA0 HMB HRB HB
 have HBH := hide (fun W h => Behind_any W (stepsM rs []) so sc (wholeM rs [] 0) h (unhide HG))
 go_wp2_with fail
 generalize hV : w1.alloc (.cells #[.slice so (stepsM rs []).length sc, .int .u32 ((wholeM rs [] 0 : Nat) : Int)] 149) = V at *
 refine (unhide HBH V (unhide HSTV)).mono ?_
 rintro e w3 ⟨rfl, hb3⟩
 have hp0 : p0P (stepsM rs []) < 4294967296 := by
  have := (places_few (unhide HM) (Bfs.start (ahP (stepsM rs []) al) (List.range al.length) (p0P (stepsM rs [])))).2 (p0P (stepsM rs [])) (by simp)
  exact this
 have hpe : walkB (stepsM rs []) [] = p0P (stepsM rs []) := rfl
 rw [hpe] at HBH ⊢
 have HBFS := hide (Bfs.start (ahP (stepsM rs []) al) (List.range al.length) (p0P (stepsM rs [])))
 generalize hP0 : p0P (stepsM rs []) = p0 at *
 have HP0 := hide hP0
 have hbp : Below w3.heap.size w3 ((w3.alloc (.cells #[.int .u32 (p0 : Int)] 147)).alloc (.map #[] 0)) := ((Below.refl _ _).alloc (Nat.le_refl _) _).alloc (by simp) _
 have hwk3 := (hb3.block _ (lt_of_blk (unhide HWV))).trans (unhide HWV)
 have wc := fun o => cell_of_blk hwk3 o
 have hwl3 := lt_of_blk hwk3
 have HST4 := hide ((unhide HSTV).later (hb3.trans (hbp.mono hb3.size)))
 clear hpe hP0
 go_wp2_with fail
 refine (unhide HBH _ (unhide HST4)).mono ?_
 rintro e w4 ⟨rfl, hb4⟩
 have hm4 : w4.ownsMap Tryz.prog 147 (plainElem (H := Unit) Tryz.prog 3) (w3.heap.size + 1) 0 (.map []) := by
  have k := World.ownsMap_made (H := Unit) (w3.alloc (.cells #[.int .u32 (p0 : Int)] 147)) Tryz.prog 147 (plainElem Tryz.prog 3)
  have e : (w3.alloc (.cells #[.int .u32 (p0 : Int)] 147)).heap.size = w3.heap.size + 1 := by simp
  rw [e] at k
  exact k.kept (grown_below hb4 none) (by simp)
 have hpl4 : w4.ownsRow V.heap.size 147 1 (.slice (some ⟨w3.heap.size, 0, none⟩) 1 1) 1 (plC [p0]) := by
  refine owns_later (w := (w3.alloc (.cells #[.int .u32 (p0 : Int)] 147)).alloc (.map #[] 0)) ⟨rfl, .inr ⟨w3.heap.size, 1, _, rfl, hb3.size, (Below.heap_alloc _ _ _ (by simp)).trans (blk_alloc _ _), Nat.le_refl _, by unfold maxLen; omega, rfl, rfl⟩⟩ hb4
 have hb43 : Below V.heap.size V w4 := (hb3.trans (hbp.mono hb3.size)).trans (hb4.mono (Nat.le_trans hb3.size hbp.size))
 obtain ⟨w5, hrun, hm5, hg5⟩ := hm4.update lawP Tryz.underlying218 (by unfold maxLen; omega) (keyP hp0) (plainElem_int (a := 0) Tryz.underlying3 (by decide))
 have hwk4 := (hb43.block _ (lt_of_blk (unhide HWV))).trans (unhide HWV)
 have HRB0 : Hid (RbP V (w5.alloc (.cells #[.slice none 0 0, .string ⟨#[]⟩] 153)) (w3.heap.size + 1) w5.heap.size (some ⟨w3.heap.size, 0, none⟩) 1 [p0] ((DataW.map []).put (klP p0) (.lit (.int .i64 ((0 : Nat) : Int)))) none 0 [] [] w5.heap.size) := by
  have hb5 : Below V.heap.size V w5 := hb43.grown hg5 hb43.size (fun b hb => by cases hb; have := hb3.size; omega)
  have hba : Below w5.heap.size w5 (w5.alloc (.cells #[.slice none 0 0, .string ⟨#[]⟩] 153)) := (Below.refl _ _).alloc (Nat.le_refl _) _
  refine ⟨blk_alloc _ _, hb5.size, owns_later (owns_other hpl4 hg5 (fun b hb e => ?_)) hba, (hm5.kept (grown_below hba none) (by simp)), by have := hb3.size; omega, (NumM.nil klP).put klP_key klP_inj rfl, World.ownsRow_nil _ _ _ _, fun j r hr => by simp at hr, hba.size, hb5.trans (hba.mono hb5.size)⟩
  obtain ⟨c, hcc⟩ := own_at hpl4 e
  exact map_ne hm4 hcc (Option.some.inj hb).symm
 have wc4 := fun o => cell_of_blk hwk4 o
 have hwl4 := lt_of_blk hwk4
 clear hm4 hpl4 hb43 hm5 hg5 hwk4 hbp hwk3 hb3 hb4 wc hwl3 HST4 HBH
 go_wp2_with fail
 clear hrun wc4 hwl4
 generalize w5.alloc (.cells #[.slice none 0 0, .string ⟨#[]⟩] 153) = w6 at *
 generalize w5.heap.size = bb at *
 generalize w3.heap.size + 1 = mb at *
 have hmk := fun W : World => mkInts W al.length (by omega)
 have hwV := lt_of_blk (unhide HWV)
 go_loopw [4, 7] (fun pv x wr => ∃ (k : Nat) (lo : Option Addr) (lc : Nat) (l : List Nat) (D : DataW Unit) (ho : Option Addr) (hc : Nat) (rv : List Value) (tw : List (List Nat)) (H : Nat), x = .int .i64 k ∧ pv = .slice lo l.length lc ∧ Hid (RbP V wr mb bb lo lc l D ho hc rv tw H) ∧ Hid (Bfs (ahP (stepsM rs []) al) (List.range al.length) p0 k l tw)) (fun _ x _ => 131073 - (intOf x).toNat)
 case atStart => exact ⟨0, some ⟨w3.heap.size, 0, none⟩, 1, [p0], _, none, 0, [], [], _, rfl, rfl, HRB0, HBFS⟩
 case round =>
  obtain ⟨k, lo, lc, l, D, ho, hc, rv, tw, H, rfl, rfl, HRB, HBF⟩ := hrel
  have hfew : l.length ≤ 131072 ∧ ∀ p ∈ l, p < 4294967296 := by
   have := unhide HBF
   rw [← unhide HP0] at this
   exact places_few (unhide HM) this
  have hfew1 := hfew.1
  have HF2 := hide hfew.2
  have hkl := (unhide HBF).le
  have htk : tw.length = k := (unhide HBF).len
  have HTK := hide htk
  clear hfew htk
  have hbel := (unhide HRB).bel
  have hmc : wr.cell? ⟨w.heap.size, 0, none⟩ = some (.slice a1 al.length a3) := (bcell3 hbel _ _ (lt_of_blk (unhide HMV))).trans (cell_of_blk (unhide HMV) 0)
  have hml : w.heap.size < wr.heap.size := Nat.lt_of_lt_of_le (lt_of_blk (unhide HMV)) hbel.size
  by_cases hlt : k < l.length
  ·have hkn : (k : Int) < (l.length : Int) := by omega
   obtain ⟨pb, hlo, hpbl, hpc⟩ := owns1_at (unhide HRB).pl hlt
   have HX := hide (List.getElem?_eq_getElem hlt)
   have hpx := unhide HF2 l[k] (List.getElem_mem hlt)
   subst hlo
   generalize l[k] = px at *
   have hg0 : (wr.alloc (.cells (Array.replicate al.length (.int .i64 0)) 3)).heap[wr.heap.size]? = some (.cells (rowC (rowTo [] al.length 0)) 3 (0, 0)) := by
    have e : rowTo [] al.length 0 = List.replicate al.length 0 := by unfold rowTo; simp
    rw [e, rowC_zero]
    exact blk_alloc _ _
   have HRB1 := hide ((unhide HRB).later ((Below.refl _ _).alloc (Nat.le_refl _) (.cells (Array.replicate al.length (.int .i64 0)) 3)))
   have hHg : H ≤ wr.heap.size := (unhide HRB).hH
   have hVg : V.heap.size ≤ wr.heap.size := (unhide HRB).bel.size
   have HG0 := hide hg0
   clear hg0 hbel hpc hpbl
   go_wp2_with fail
   generalize wr.alloc (.cells (Array.replicate al.length (.int .i64 0)) 3) = wA at *
   generalize wr.heap.size = g at *
   clear hmc hml HF2
   rename World => wR
   go_loopw [4, 36] (fun pv x wq => ∃ (j : Nat) (lo : Option Addr) (lc : Nat) (M : List Nat) (D : DataW Unit) (q : List Nat), j ≤ al.length ∧ x = .int .i64 j ∧ pv = .slice lo M.length lc ∧ Hid (RbP V wq mb bb lo lc M D ho hc rv tw H) ∧ Hid (wq.heap[g]? = some (.cells (rowC (rowTo q al.length j)) 3 (0, 0))) ∧ Hid (rowN (ahP (stepsM rs []) al) px (List.range j) l = (M, q))) (fun _ x _ => al.length - (intOf x).toNat)
   case atStart => exact ⟨0, some ⟨pb, 0, none⟩, lc, l, D, [], Nat.zero_le _, rfl, rfl, HRB1, HG0, rfl⟩
   case round =>
    obtain ⟨j, lo, lc2, M, D2, q, hj, rfl, rfl, HRB2, HGJ, HRN⟩ := hrel
    have hspec := rowN_spec (ahP (stepsM rs []) al) px (List.range j) l
    rw [unhide HRN] at hspec
    obtain ⟨⟨xs, hMx, _⟩, hql, _, _⟩ := hspec
    have hMle : M.length ≤ l.length + j := by
     have := rowN_le (ahP (stepsM rs []) al) px (List.range j) l
     rw [unhide HRN, List.length_range] at this
     exact this
    have hql' : q.length = j := by simpa using hql
    have HQL := hide hql'
    have hkM : k < M.length := by have := congrArg List.length hMx; simp at this; omega
    have hMk : M[k]? = some px := by rw [show M = l ++ xs from hMx, List.getElem?_append_left hlt]; exact unhide HX
    clear hql hql'
    by_cases hjl : j < al.length
    ·have hjn : (j : Int) < (al.length : Int) := by omega
     have hkMn : (k : Int) < (M.length : Int) := by omega
     have hbel := (unhide HRB2).bel
     obtain ⟨pb2, hlo2, hpl2, hpc2⟩ := owns1_at (unhide HRB2).pl hkM
     have hpc3 : wr.cell? ⟨pb2, k, none⟩ = some (.int .u32 (px : Int)) := hpc2.trans (by unfold plC; rw [List.getElem?_map, hMk]; rfl)
     obtain ⟨ab, ha1, habl, hac⟩ := owns1_at (owns_later (unhide HAV) hbel) hjl
     have hac2 : wr.cell? ⟨ab, j, none⟩ = some (.string (nmA al j)) := hac.trans (strC_nm hjl)
     have hw0 : wr.cell? ⟨w1.heap.size, 0, none⟩ = some (.slice so (stepsM rs []).length sc) := (bcell3 hbel _ _ hwV).trans (cell_of_blk (unhide HWV) 0)
     have hw1 : wr.cell? ⟨w1.heap.size, 1, none⟩ = some (.int .u32 ((wholeM rs [] 0 : Nat) : Int)) := (bcell3 hbel _ _ hwV).trans (cell_of_blk (unhide HWV) 1)
     have hwl1 : w1.heap.size < wr.heap.size := Nat.lt_of_lt_of_le hwV hbel.size
     have HAHD := hide (Ahead_any wr.drew (stepsM rs []) so sc (wholeM rs [] 0) px (nmA al j) ((unhide HSTV).later (hbel.trans (((Below.refl wr.heap.size wr).drew).mono hbel.size))) (unhide HG) hpx)
     have hp2 : ahP (stepsM rs []) al px j < 4294967296 := ahP_lt (unhide HM) px j
     have hae : fillN (stepsM rs []) true (nmA al j) (px.testBit (stepsM rs []).length) px = ahP (stepsM rs []) al px j := rfl
     rw [hae] at HAHD
     have HSUC : Hid (rowN (ahP (stepsM rs []) al) px (List.range (j + 1)) l = ((numb M (ahP (stepsM rs []) al px j)).1, q ++ [(numb M (ahP (stepsM rs []) al px j)).2])) := by
      show _ = _
      rw [List.range_succ, rowN_append, unhide HRN]
     subst ha1
     subst hlo2
     clear hae hpc2 hac hMx hMk hbel
     generalize ahP (stepsM rs []) al px j = p2 at *
     generalize nmA al j = ev at *
     go_wp2_with fail
     refine wp_region_held_drew (S := fun w' => w'.cell? ⟨w1.heap.size, 0, none⟩ = some (.slice so (stepsM rs []).length sc) ∧ w'.cell? ⟨w1.heap.size, 1, none⟩ = some (.int .u32 ((wholeM rs [] 0 : Nat) : Int)) ∧ w'.cell? ⟨pb2, k, none⟩ = some (.int .u32 (px : Int))) (by kernel_rfl) ?_ (fun hHeld => ?_)
     ·exact ⟨hw0, hw1, hpc3⟩
     refine wpAnyH_take (i := 0) (v := .agg #[.slice so (stepsM rs []).length sc, .int .u32 ((wholeM rs [] 0 : Nat) : Int)]) rfl (by kernel_rfl) (by kernel_rfl) (by kernel_rfl) (fun _ _ _ h => h) (Or.inl ⟨by kernel_rfl, fun w hw => by obtain ⟨s0, s1, s2⟩ := hw; go_simp⟩) hHeld ?_
     try simp only [Act.put, zA, zB, zC, zD, zE, zF]
     refine wpAnyH_take (i := 1) (v := .slice (some ⟨pb2, 0, none⟩) M.length lc2) rfl (by kernel_rfl) (by kernel_rfl) (by kernel_rfl) (fun _ _ _ h => h) (Or.inl ⟨by kernel_rfl, fun w hw => by obtain ⟨s0, s1, s2⟩ := hw; go_simp⟩) hHeld ?_
     try simp only [Act.put, zA, zB, zC, zD, zE, zF]
     refine wpAnyH_take (i := 2) (v := .int .i64 (k : Int)) rfl (by kernel_rfl) (by kernel_rfl) (by kernel_rfl) (fun _ _ _ h => h) (Or.inl ⟨by kernel_rfl, fun w hw => by obtain ⟨s0, s1, s2⟩ := hw; go_simp⟩) hHeld ?_
     try simp only [Act.put, zA, zB, zC, zD, zE, zF]
     refine wpAnyH_take (i := 3) (v := .pointer (some ⟨pb2, k, none⟩)) rfl (by kernel_rfl) (by kernel_rfl) (by kernel_rfl) (fun _ _ _ h => h) (Or.inl ⟨by kernel_rfl, fun w hw => by obtain ⟨s0, s1, s2⟩ := hw; go_simp⟩) hHeld ?_
     try simp only [Act.put, zA, zB, zC, zD, zE, zF]
     refine wpAnyH_take (i := 4) (v := .int .u32 (px : Int)) rfl (by kernel_rfl) (by kernel_rfl) (by kernel_rfl) (fun _ _ _ h => h) (Or.inl ⟨by kernel_rfl, fun w hw => by obtain ⟨s0, s1, s2⟩ := hw; go_simp⟩) hHeld ?_
     try simp only [Act.put, zA, zB, zC, zD, zE, zF]
     refine wpAnyH_take (i := 5) (v := .string ev) rfl (by kernel_rfl) (by kernel_rfl) (by kernel_rfl) (fun _ _ _ h => h) (Or.inl ⟨by kernel_rfl, fun w hw => by obtain ⟨s0, s1, s2⟩ := hw; go_simp⟩) hHeld ?_
     try simp only [Act.put, zA, zB, zC, zD, zE, zF]
     refine wpAnyH_ready (rs := [6]) (by kernel_rfl) (by simp) ?_
     refine AllReadyH.cons rfl (fun K hK => ?_) AllReadyH.nil
     go_simp
     refine (unhide HAHD).mono ?_
     rintro e w6' ⟨rfl, hb6⟩
     refine hK.out _ _ ⟨(bcell3 hb6 _ _ hwl1).trans hHeld.1, (bcell3 hb6 _ _ hwl1).trans hHeld.2.1, (bcell3 hb6 _ _ hpl2).trans hHeld.2.2⟩ (fun hHeld => ?_)
     clear hK K
     have hb6w : Below wr.heap.size wr w6' := ((Below.refl _ _).drew).trans hb6
     have HRB3 := hide ((unhide HRB2).later hb6w)
     have HGJ3 := hide ((hb6w.block _ (lt_of_blk (unhide HGJ))).trans (unhide HGJ))
     clear hb6 hb6w
     refine wpAnyH_take (i := 7) (v := .int .u32 (p2 : Int)) rfl (by kernel_rfl) (by kernel_rfl) (by kernel_rfl) (fun _ _ _ h => h) (Or.inl ⟨by kernel_rfl, fun w hw => by obtain ⟨s0, s1, s2⟩ := hw; go_simp⟩) hHeld ?_
     try simp only [Act.put, zA, zB, zC, zD, zE, zF]
     refine wpAnyH_done (by kernel_rfl) ?_ _
     clear hHeld hw0 hw1 hpc3 hac2 habl hpl2 hwl1 HAHD
     cases hf : fnd p2 M 0 with
     | some i =>
      obtain ⟨hhas, hatk⟩ := ((unhide HRB3).num.2 p2).1 i hf
      rw [numb_some hf] at HSUC
      have HHAS := hide hhas
      have HATK := hide hatk
      clear hhas hatk hf
      go_wp2_with (at_lookup; go_must (refine wpList_lookup_own_ok_int _ rfl _ _ 218 rfl 147 3 .i64 lawP Tryz.underlying218 Tryz.underlying3 (zeroI _) mb M.length D2 rfl (unhide HRB3).mp _ (klP p2) rfl (keyP hp2) ?_))
      intro c hat hwc
      rw [unhide HATK] at hat
      have hci : (i : Int) = c := by injection hat with hat; injection hat
      subst hci
      rw [unhide HHAS]
      clear hat hwc HATK HHAS
      have hgl := lt_of_blk (unhide HGJ3)
      have gf := frozen_of_blk (unhide HGJ3) j
      have hlen : (rowTo q al.length j).length = al.length := rowTo_len (by rw [unhide HQL]; exact Nat.le_refl _) hj
      obtain ⟨y0, hy0⟩ : ∃ y0, (rowTo q al.length j)[j]? = some y0 := ⟨_, List.getElem?_eq_getElem (by rw [hlen]; exact hjl)⟩
      have gc := (cell_of_blk (unhide HGJ3) j).trans (rowC_at hy0)
      have HRB4 := hide ((unhide HRB3).cell hHg hVg (unhide HGJ3) j (.int .i64 (i : Int)))
      have HGJ4 : Hid ((w6'.setCell ⟨g, j, none⟩ (.int .i64 (i : Int))).heap[g]? = some (.cells (rowC (rowTo (q ++ [i]) al.length (j + 1))) 3 (0, 0))) := by
       have := blk_set (unhide HGJ3) j (.int .i64 (i : Int))
       rw [rowC_set] at this
       show _ = _
       rw [rowTo_succ hjl (unhide HQL) rfl]
       exact this
      clear hy0 hlen
      go_wp2_with fail
      go_roundw
      case rel => exact ⟨j + 1, some ⟨pb2, 0, none⟩, lc2, M, D2, q ++ [i], by omega, by go_num, rfl, HRB4, HGJ4, HSUC⟩
      case measure => simp [intOf]; omega
     | none =>
      have hhas := ((unhide HRB3).num.2 p2).2 hf
      rw [numb_none hf] at HSUC
      have HHAS := hide hhas
      have HF := hide hf
      clear hhas hf
      go_wp2_with (at_lookup; go_must (refine wpList_lookup_own_ok_int _ rfl _ _ 218 rfl 147 3 .i64 lawP Tryz.underlying218 Tryz.underlying3 (zeroI _) mb M.length D2 rfl (unhide HRB3).mp _ (klP p2) rfl (keyP hp2) ?_))
      intro c hat hwc
      rw [unhide HHAS]
      clear hat hwc HHAS
      have hMi : (M.length : Int) ≤ 200000 := by omega
      go_wp2_with (at_mapUpdate; go_must (refine wpList_mapUpdate_own _ rfl _ _ _ 218 rfl 147 3 lawP Tryz.underlying218 _ mb M.length D2 rfl (unhide HRB3).mp ?m1 _ _ _ rfl rfl (keyP hp2) _ [] (plainElem_int Tryz.underlying3 ?m2) ?_))
      case m1 => unfold maxLen; omega
      case m2 => exact WalkArith.wf_i64 (by omega)
      intro w7 hm7 hg7
      have HM7 := hide hm7
      have HG7 := hide hg7
      obtain ⟨k1, k2, k3, k4, k5, k6⟩ := (unhide HRB3).mapped hg7
      have HPL7 := hide k2
      have hV7 : V.heap.size ≤ w7.heap.size := k6.size
      have hgj7 := (hg7.block _ (lt_of_blk (unhide HGJ3)) (fun e => map_ne (unhide HRB3).mp (unhide HGJ3) (Option.some.inj e))).trans (unhide HGJ3)
      have HGJ7 := hide hgj7
      clear hm7 hg7 k1 k2 k3 k4 k5 k6 hgj7
      go_wp2_with (at_builtin; go_must (refine wpList_append_lies _ rfl _ _ 217 rfl V.heap.size 147 i0 (.int .u32 0) 1 4 Tryz.underlying217 hi0 hz0 hz1 hz2 rfl (by decide) _ M.length (plC M) rfl ?c0 ⟨w7.heap.size, 0, none⟩ 1 1 [.int .u32 (p2 : Int)] rfl rfl ?c1 ?c2 (by decide) ?c3 ?c4 ?c5 (w7.heap.size + 1) ?c6 ?_))
      case c0 => exact (unhide HPL7).alloc _
      case c1 =>
       intro j u hj
       match j, hj with
       | 0, hj => simp at hj; subst hj; exact cell_of_blk (blk_alloc' _ _ _ (by simp)) 0
       | j + 1, hj => simp at hj
      case c2 => intro u hu; simp at hu; subst hu; rfl
      case c3 => unfold maxLen; omega
      case c4 => omega
      case c5 => simp; omega
      case c6 => simp
      intro g8 cap8 w8 ho8 hg8 _ _
      have hba : Below w7.heap.size w7 (w7.alloc (.cells #[.int .u32 (p2 : Int)] 147)) := (Below.refl _ _).alloc (Nat.le_refl _) _
      have HRB4 := hide ((unhide HRB3).place (unhide HF) (unhide HM7) (unhide HG7) hba ho8 hg8)
      have hgja := (hba.block _ (lt_of_blk (unhide HGJ7))).trans (unhide HGJ7)
      have hgj8 := (hg8.block _ (lt_of_blk hgja) (fun e => own_ty ((unhide HPL7).alloc _) e.symm hgja (by decide))).trans hgja
      have HGJ8 := hide hgj8
      clear ho8 hg8 hba hgja hgj8 HM7 HG7 HPL7 HGJ7
      have hgl := lt_of_blk (unhide HGJ8)
      have gf := frozen_of_blk (unhide HGJ8) j
      have hlen : (rowTo q al.length j).length = al.length := rowTo_len (by rw [unhide HQL]; exact Nat.le_refl _) hj
      obtain ⟨y0, hy0⟩ : ∃ y0, (rowTo q al.length j)[j]? = some y0 := ⟨_, List.getElem?_eq_getElem (by rw [hlen]; exact hjl)⟩
      have gc := (cell_of_blk (unhide HGJ8) j).trans (rowC_at hy0)
      have HRB5 := hide ((unhide HRB4).cell hHg hVg (unhide HGJ8) j (.int .i64 (M.length : Int)))
      have HGJ4 : Hid ((w8.setCell ⟨g, j, none⟩ (.int .i64 (M.length : Int))).heap[g]? = some (.cells (rowC (rowTo (q ++ [M.length]) al.length (j + 1))) 3 (0, 0))) := by
       have := blk_set (unhide HGJ8) j (.int .i64 (M.length : Int))
       rw [rowC_set] at this
       show _ = _
       rw [rowTo_succ hjl (unhide HQL) rfl]
       exact this
      have hlM : (M ++ [p2]).length = M.length + 1 := by simp
      clear hy0 hlen
      go_wp2_with fail
      go_roundw
      case rel => exact ⟨j + 1, some ⟨g8, 0, none⟩, cap8, M ++ [p2], _, q ++ [M.length], by omega, by go_num, by rw [hlM], HRB5, HGJ4, HSUC⟩
      case measure => simp [intOf]; omega
    ·have hjn : ¬ (j : Int) < (al.length : Int) := by omega
     have hje : j = al.length := by omega
     subst hje
     have hall : rowTo q al.length al.length = q := by unfold rowTo; rw [List.take_of_length_le (by rw [unhide HQL]; exact Nat.le_refl _)]; simp
     have hgq := unhide HGJ
     rw [hall] at hgq
     have HGQ := hide hgq
     have HBF2 : Hid (Bfs (ahP (stepsM rs []) al) (List.range al.length) p0 (k + 1) M (tw ++ [q])) := by
      have := (unhide HBF).step (unhide HX)
      rw [unhide HRN] at this
      exact this
     have hbb0 : wr.cell? ⟨bb, 0, none⟩ = some (.slice ho tw.length hc) := cell_of_blk (unhide HRB2).blk 0
     have hbbl := lt_of_blk (unhide HRB2).blk
     have htwk : tw.length ≤ 200000 := by have := unhide HTK; omega
     have hVr : V.heap.size ≤ wr.heap.size := (unhide HRB2).bel.size
     clear hall hgq hMx hMk
     go_wp2_with (at_builtin; go_must (refine wpList_append_lies _ rfl _ _ 34 rfl V.heap.size 33 r0 (.slice none 0 0) 1 24 Tryz.underlying34 hr0 hrz0 hrz1 hrz2 rfl (by decide) _ tw.length rv rfl ?d0 ⟨wr.heap.size, 0, none⟩ 1 1 [.slice (some ⟨g, 0, none⟩) al.length al.length] rfl rfl ?d1 ?d2 (by decide) ?d3 ?d4 ?d5 (wr.heap.size + 1) ?d6 ?_))
     case d0 => exact (unhide HRB2).ah.alloc _
     case d2 => first | rfl | (intro u hu; simp at hu; subst hu; rfl)
     case d3 => unfold maxLen; omega
     case d4 => omega
     case d5 => first | omega | (simp; omega)
     intro g9 cap9 w9 ho9 hg9 _ _
     have hba : Below wr.heap.size wr (wr.alloc (.cells #[.slice (some ⟨g, 0, none⟩) al.length al.length] 33)) := (Below.refl _ _).alloc (Nat.le_refl _) _
     have hbk9 := (hg9.block bb (lt_of_blk ((unhide HRB2).later hba).blk) (fun e => own_ty ((unhide HRB2).later hba).ah e.symm ((unhide HRB2).later hba).blk (by decide))).trans ((unhide HRB2).later hba).blk
     have HRB9 := hide ((unhide HRB2).row hVg (unhide HGQ) hba (by rw [unhide HQL]; exact ho9) hg9)
     have hc9 : w9.cell? ⟨bb, 0, none⟩ = some (.slice ho tw.length hc) := cell_of_blk hbk9 0
     have hf9 := frozen_of_blk hbk9 0
     have hl9 := lt_of_blk hbk9
     have hk1 : k < 131072 := by omega
     clear ho9 hg9 hba hbk9 hbb0 hbbl
     go_wp2_with fail
     go_roundw
     case rel => exact ⟨k + 1, lo, lc2, M, D2, some ⟨g9, 0, none⟩, cap9, _, tw ++ [q], _, by go_num, rfl, HRB9, HBF2⟩
     case measure => simp [intOf]; omega
  ·have hkn : ¬ (k : Int) < (l.length : Int) := by omega
   have hke : k = l.length := by omega
   subst hke
   have hw0 : wr.cell? ⟨w1.heap.size, 0, none⟩ = some (.slice so (stepsM rs []).length sc) := (bcell3 hbel _ _ hwV).trans (cell_of_blk (unhide HWV) 0)
   have hw1 : wr.cell? ⟨w1.heap.size, 1, none⟩ = some (.int .u32 ((wholeM rs [] 0 : Nat) : Int)) := (bcell3 hbel _ _ hwV).trans (cell_of_blk (unhide HWV) 1)
   have hwl1 : w1.heap.size < wr.heap.size := Nat.lt_of_lt_of_le hwV hbel.size
   have HPS : Hid (PlS wr lo l) := fun j x hx => by
    have hj := (List.getElem?_eq_some_iff.1 hx).1
    obtain ⟨b, h1, h2, h3⟩ := owns1_at (unhide HRB).pl hj
    exact ⟨b, 0, h1, h2, by rw [Nat.zero_add, h3]; unfold plC; rw [List.getElem?_map, hx]; rfl⟩
   have HKP := hide (keeping_any wr so (stepsM rs []).length sc (wholeM rs [] 0) l lo lc (unhide HPS) hwl (by omega) (unhide HF2))
   clear hmc hml hbel
   go_wp2_with fail
   refine (unhide HKP).mono ?_
   rintro e w8 ⟨rfl, hb8⟩
   have HRB8 := hide ((unhide HRB).later hb8)
   generalize hS8 : setS (l.map (keepP (wholeM rs [] 0))) = s8 at *
   have HS8 := hide hS8
   have hbk8 := (unhide HRB8).blk
   have hbr8 := ((unhide HRB8).bel.block _ (lt_of_blk (unhide HRV))).trans (unhide HRV)
   have bc := fun o => cell_of_blk hbk8 o
   have bf := fun o => frozen_of_blk hbk8 o
   have bl := lt_of_blk hbk8
   have rc := fun o => cell_of_blk hbr8 o
   have rf := fun o => frozen_of_blk hbr8 o
   have rl := lt_of_blk hbr8
   have HBK8 := hide hbk8
   have HBR8 := hide hbr8
   have hbne : bb ≠ w.heap.size + 1 := by have := (unhide HRB8).hbb; have := lt_of_blk (unhide HRV); omega
   have hbne2 : w.heap.size + 1 ≠ bb := fun e => hbne e.symm
   clear hS8 hb8 hbk8 hbr8 hw0 hw1 hwl1
   go_wp2_with fail
   have hkeep : ∀ k, k ≠ bb → k ≠ w.heap.size + 1 → (((w8.setCell ⟨bb, 1, none⟩ (.string s8)).setCell ⟨w.heap.size + 1, 0, none⟩ (.slice ho tw.length hc)).setCell ⟨w.heap.size + 1, 1, none⟩ (.string s8)).heap[k]? = w8.heap[k]? := fun k h1 h2 =>
    (Below.heap_setCell _ _ _ _ h2).trans ((Below.heap_setCell _ _ _ _ h2).trans (Below.heap_setCell _ _ _ _ h1))
   have hfin : (((w8.setCell ⟨bb, 1, none⟩ (.string s8)).setCell ⟨w.heap.size + 1, 0, none⟩ (.slice ho tw.length hc)).setCell ⟨w.heap.size + 1, 1, none⟩ (.string s8)).heap[w.heap.size + 1]? = some (.cells #[.slice ho tw.length hc, .string s8] 153 (0, 0)) :=
    blk_set (blk_set ((Below.heap_setCell _ _ _ _ hbne2).trans (unhide HBR8)) 0 _) 1 _
   have hbw : Below w.heap.size w (((w8.setCell ⟨bb, 1, none⟩ (.string s8)).setCell ⟨w.heap.size + 1, 0, none⟩ (.slice ho tw.length hc)).setCell ⟨w.heap.size + 1, 1, none⟩ (.string s8)) := by
    have hb0 : Below w.heap.size w w8 := (unhide HBV).trans ((unhide HRB8).bel.mono (unhide HBV).size)
    have hbbw : w.heap.size ≤ bb := Nat.le_trans (unhide HBV).size (unhide HRB8).hbb
    exact ((hb0.setCell (p := ⟨bb, 1, none⟩) hbbw _).setCell (p := ⟨w.heap.size + 1, 0, none⟩) (by show _ ≤ w.heap.size + 1; omega) _).setCell (p := ⟨w.heap.size + 1, 1, none⟩) (by show _ ≤ w.heap.size + 1; omega) _
   have hrws := (unhide HRB8).rws (W' := (((w8.setCell ⟨bb, 1, none⟩ (.string s8)).setCell ⟨w.heap.size + 1, 0, none⟩ (.slice ho tw.length hc)).setCell ⟨w.heap.size + 1, 1, none⟩ (.string s8))) (fun k c ty hk hty => hkeep k (fun e => by
     rw [e, unhide HBK8] at hk
     injection hk with hk
     injection hk with _ e2 _
     rcases hty with h | h <;> (rw [← e2] at h; revert h; decide)) (fun e => by
     rw [e, unhide HBR8] at hk
     injection hk with hk
     injection hk with _ e2 _
     rcases hty with h | h <;> (rw [← e2] at h; revert h; decide)))
   generalize (((w8.setCell ⟨bb, 1, none⟩ (.string s8)).setCell ⟨w.heap.size + 1, 0, none⟩ (.slice ho tw.length hc)).setCell ⟨w.heap.size + 1, 1, none⟩ (.string s8)) = wf at *
   have fcc := fun o => cell_of_blk hfin o
   refine bodyPost_ret (v := .agg #[.slice ho tw.length hc, .string s8]) (by simp [results, Tryz.results80, go_sem, fcc]) rfl ?_
   refine ⟨l, tw, ho, hc, by rw [unhide HS8], ?_, hrws, hbw, hfew1⟩
   rw [unhide HP0]
   exact unhide HBF
def setC (ms : List (List Bool)) : List Value := ms.map fun b => Value.string (setS b)
theorem setC_app (l r : List (List Bool)) : setC (l ++ r) = setC l ++ setC r := by unfold setC; rw [List.map_append]
structure StB (W : World) (base sb mb : Nat) (so : Option Addr) (sc : Nat) (ms : List (List Bool)) (D : DataW Unit) : Prop where
 blk : W.heap[sb]? = some (.cells #[.slice so ms.length sc, .map (some mb)] 158 (0, 0))
 own : W.ownsRow base 151 1 (.slice so ms.length sc) ms.length (setC ms)
 mp : W.ownsMap Tryz.prog 151 (plainElem Tryz.prog 3) mb ms.length D
 num : NumM klS D ms
 hsb : base ≤ sb
 hmb : base ≤ mb
theorem map_neS {W : World} {b n : Nat} {D : DataW Unit} (h : W.ownsMap Tryz.prog 151 (plainElem Tryz.prog 3) b n D) {c : Array Value} {ty : Nat} {m : Nat × Nat} {k : Nat} (hk : W.heap[k]? = some (.cells c ty m)) : k ≠ b := by
 rintro rfl
 obtain ⟨es, clock, h1, _⟩ := h
 rw [hk] at h1
 cases h1
structure FrS (base : Nat) (w w' : World) : Prop where
 os : w'.os = w.os
 tape : w'.tape = w.tape
 output : w'.output = w.output
 size : w.heap.size ≤ w'.heap.size
 ty : ∀ (k : Nat) (c : Array Value) (ty : Nat) (m : Nat × Nat), w.heap[k]? = some (.cells c ty m) → ty ≠ 158 → ty ≠ 151 → w'.heap[k]? = w.heap[k]?
 low : ∀ k, k < base → w'.heap[k]? = w.heap[k]?
theorem FrS.refl (base : Nat) (w : World) : FrS base w w := ⟨rfl, rfl, rfl, Nat.le_refl _, fun _ _ _ _ _ _ _ => rfl, fun _ _ => rfl⟩
theorem StB.later {W W' : World} {base sb mb : Nat} {so : Option Addr} {sc : Nat} {ms : List (List Bool)} {D : DataW Unit} (h : StB W base sb mb so sc ms D) (hb : Below W.heap.size W W') : StB W' base sb mb so sc ms D :=
 ⟨(hb.block _ (lt_of_blk h.blk)).trans h.blk, owns_later h.own hb, h.mp.kept (grown_below hb none) (by simp), h.num, h.hsb, h.hmb⟩
theorem StB.other {W W' : World} {base sb mb : Nat} {so : Option Addr} {sc : Nat} {ms : List (List Bool)} {D : DataW Unit} (h : StB W base sb mb so sc ms D) {row : Option Nat} (hg : W.grownBy W' row) (hne : ∀ b, row = some b → ∃ c ty m, W.heap[b]? = some (.cells c ty m) ∧ ty ≠ 158 ∧ ty ≠ 151) : StB W' base sb mb so sc ms D := by
 refine ⟨(hg.block _ (lt_of_blk h.blk) (fun e => ?_)).trans h.blk, owns_other h.own hg (fun b hb e => ?_), h.mp.kept hg (fun e => ?_), h.num, h.hsb, h.hmb⟩
 ·obtain ⟨c, ty, m, h1, h2, _⟩ := hne _ e.symm
  rw [h.blk] at h1
  injection h1 with h1
  injection h1 with _ e _
  exact h2 e.symm
 ·obtain ⟨c, ty, m, h1, _, h3⟩ := hne _ hb
  exact own_ty h.own e h1 h3
 ·obtain ⟨c, ty, m, h1, _, _⟩ := hne _ e.symm
  exact map_neS h.mp h1 rfl
theorem Tryz.infoSet : (Tryz.prog.info? 151).map (fun i => (i.zero, i.size, i.bytes)) = some (some (.string ⟨#[]⟩), 1, 16) := by kernel_rfl
theorem klS_key (b : List Bool) : WideAt.IsKeyLit (klS b) := trivial
def NbP (w : World) (base sb mb : Nat) (ms : List (List Bool)) (b : List Bool) (w' : World) (e : Ending) : Prop :=
 e = .returned (.int .i64 ((numb ms b).2 : Nat)) ∧ (∃ so' sc' D', StB w' base sb mb so' sc' (numb ms b).1 D') ∧ FrS base w w'
set_option maxHeartbeats 4000000 in
set_option maxRecDepth 100000 in
theorem snumber_any (w : World) (base sb mb : Nat) (so : Option Addr) (sc : Nat) (ms : List (List Bool)) (D : DataW Unit) (b : List Bool) (h : StB w base sb mb so sc ms D) (hb : b.length ≤ 1000000) (hm : ms.length ≤ 1000) (hbs : base ≤ w.heap.size) :
  Calls Tryz.prog 81 #[.pointer (some ⟨sb, 0, none⟩), .string (setS b)] w fun e w' => NbP w base sb mb ms b w' e := by
 obtain ⟨i0, hi0, hz0, hz1, hz2⟩ := info_parts Tryz.infoSet
 have HS := hide h
 have c0 : w.cell? ⟨sb, 0, none⟩ = some (.slice so ms.length sc) := cell_of_blk h.blk 0
 have c1 : w.cell? ⟨sb, 1, none⟩ = some (.map (some mb)) := cell_of_blk h.blk 1
 have hl := lt_of_blk h.blk
 have hk := keyS (b := b) hb
 generalize hsb : setS b = s at *
 have HSB := hide hsb
 clear h hsb
 cases hf : fnd b ms 0 with
 | some i =>
  obtain ⟨hhas, hatk⟩ := ((unhide HS).num.2 b).1 i hf
  have HNB := hide (numb_some hf)
  have HHAS := hide hhas
  have HATK := hide hatk
  clear hhas hatk hf
  go_enter Tryz.func81, Tryz.ntmps81
  go_wp2_with (at_lookup; go_must (refine wpList_lookup_own_ok_int _ rfl _ _ 155 rfl 151 3 .i64 lawS Tryz.underlying155 Tryz.underlying3 (zeroI _) mb ms.length D rfl (unhide HS).mp _ (klS b) rfl hk ?_))
  intro c hat hwc
  rw [unhide HATK] at hat
  have hci : (i : Int) = c := by injection hat with hat; injection hat
  subst hci
  rw [unhide HHAS]
  clear hat hwc HATK HHAS
  go_wp2_with fail
  go_ret
  refine ⟨by rw [unhide HNB]; rfl, ?_, FrS.refl _ _⟩
  rw [unhide HNB]
  exact ⟨_, _, _, unhide HS⟩
 | none =>
  have hhas := ((unhide HS).num.2 b).2 hf
  have HNB := hide (numb_none hf)
  have HHAS := hide hhas
  have HF := hide hf
  clear hhas hf
  go_enter Tryz.func81, Tryz.ntmps81
  go_wp2_with (at_lookup; go_must (refine wpList_lookup_own_ok_int _ rfl _ _ 155 rfl 151 3 .i64 lawS Tryz.underlying155 Tryz.underlying3 (zeroI _) mb ms.length D rfl (unhide HS).mp _ (klS b) rfl hk ?_))
  intro c hat hwc
  rw [unhide HHAS]
  clear hat hwc HHAS
  go_wp2_with (at_mapUpdate; go_must (refine wpList_mapUpdate_own _ rfl _ _ _ 155 rfl 151 3 lawS Tryz.underlying155 _ mb ms.length D rfl (unhide HS).mp ?m1 _ _ _ rfl rfl hk _ [] (plainElem_int Tryz.underlying3 ?m2) ?_))
  case m1 => unfold maxLen; omega
  case m2 => exact WalkArith.wf_i64 (by omega)
  intro w7 hm7 hg7
  have hblk7 := (hg7.block _ (lt_of_blk (unhide HS).blk) (fun e => map_neS (unhide HS).mp (unhide HS).blk (Option.some.inj e))).trans (unhide HS).blk
  have hown7 := owns_other (unhide HS).own hg7 (fun k hk e => by
   obtain ⟨c', hcc⟩ := own_at (unhide HS).own e
   exact map_neS (unhide HS).mp hcc (Option.some.inj hk).symm)
  have HM7 := hide hm7
  have HG7 := hide hg7
  have HBK7 := hide hblk7
  have HOW7 := hide hown7
  have d0 : w7.cell? ⟨sb, 0, none⟩ = some (.slice so ms.length sc) := cell_of_blk hblk7 0
  have hl7 := lt_of_blk hblk7
  have hs7 : base ≤ w7.heap.size := Nat.le_trans hbs hg7.size
  clear hm7 hg7 hblk7 hown7 c0 c1 hl
  go_wp2_with (at_builtin; go_must (refine wpList_append_lies _ rfl _ _ 156 rfl base 151 i0 (.string ⟨#[]⟩) 1 16 Tryz.underlying156 hi0 hz0 hz1 hz2 rfl (by decide) _ ms.length (setC ms) rfl ?c0 ⟨w7.heap.size, 0, none⟩ 1 1 [.string s] rfl rfl ?c1 ?c2 (by decide) ?c3 ?c4 ?c5 (w7.heap.size + 1) ?c6 ?_))
  case c0 => exact (unhide HOW7).alloc _
  case c1 =>
   intro j u hj
   match j, hj with
   | 0, hj => simp at hj; subst hj; exact cell_of_blk (blk_alloc' _ _ _ (by simp)) 0
   | j + 1, hj => simp at hj
  case c2 => intro u hu; simp at hu; subst hu; rfl
  case c3 => unfold maxLen; omega
  case c4 => omega
  case c5 => simp; omega
  case c6 => simp
  intro g8 cap8 w8 ho8 hg8 _ _
  have hba : Below w7.heap.size w7 (w7.alloc (.cells #[.string s] 151)) := (Below.refl _ _).alloc (Nat.le_refl _) _
  have hbka := (hba.block _ (lt_of_blk (unhide HBK7))).trans (unhide HBK7)
  have howa := owns_later (unhide HOW7) hba
  have hmpa := (unhide HM7).kept (grown_below hba none) (by simp)
  have hty : ∀ {c : Array Value} {ty k : Nat} {m : Nat × Nat}, (w7.alloc (.cells #[.string s] 151)).heap[k]? = some (.cells c ty m) → ty ≠ 151 → some k ≠ (Value.slice so ms.length sc).ownBlock := fun hk hne e => own_ty howa e.symm hk hne
  have hbk8 := (hg8.block _ (lt_of_blk hbka) (hty hbka (by decide))).trans hbka
  have hmp8 := hmpa.kept hg8 (fun e => by
   obtain ⟨c', hcc⟩ := own_at howa e.symm
   exact map_neS hmpa hcc rfl)
  have hs8 := grown_set w8 sb 0 (.slice (some ⟨g8, 0, none⟩) (ms.length + 1) cap8)
  have HFIN : Hid (StB (w8.setCell ⟨sb, 0, none⟩ (.slice (some ⟨g8, 0, none⟩) (ms.length + 1) cap8)) base sb mb (some ⟨g8, 0, none⟩) cap8 (ms ++ [b]) (D.put (klS b) (.lit (.int .i64 (ms.length : Nat))))) := by
   refine ⟨?_, ?_, ?_, (unhide HS).num.put klS_key klS_inj (unhide HF), (unhide HS).hsb, (unhide HS).hmb⟩
   ·have := blk_set hbk8 0 (.slice (some ⟨g8, 0, none⟩) (ms.length + 1) cap8)
    rw [List.length_append]
    exact this
   ·have e : setC (ms ++ [b]) = setC ms ++ [.string s] := by rw [setC_app, ← unhide HSB]; rfl
    rw [e, List.length_append]
    refine owns_other ho8 hs8 (fun k hk e => ?_)
    cases hk
    exact own_ty ho8 e hbk8 (by decide)
   ·rw [List.length_append]
    exact hmp8.kept hs8 (fun e => map_neS hmp8 hbk8 (Option.some.inj e).symm)
  have HFR : Hid (FrS base w (w8.setCell ⟨sb, 0, none⟩ (.slice (some ⟨g8, 0, none⟩) (ms.length + 1) cap8))) := by
   have hg7 := unhide HG7
   refine ⟨hg8.os.trans (hba.os.trans hg7.os), hg8.tape.trans (hba.tape.trans hg7.tape), hg8.output.trans (hba.output.trans hg7.output), ?_, fun k c ty m hk h1 h2 => ?_, fun k hk => ?_⟩
   ·have := hg7.size; have := hba.size; have := hg8.size; simp [World.setCell]; omega
   ·have e7 := hg7.block k (lt_of_blk hk) (fun e => map_neS (unhide HS).mp hk (Option.some.inj e))
    have ea := (hba.block k (lt_of_blk (e7.trans hk))).trans e7
    have e8 := (hg8.block k (lt_of_blk (ea.trans hk)) (hty (ea.trans hk) h2)).trans ea
    refine (Below.heap_setCell _ _ _ _ ?_).trans e8
    rintro rfl
    rw [(unhide HS).blk] at hk
    injection hk with hk
    injection hk with _ e _
    exact h1 e.symm
   ·have hks := (unhide HS).hsb
    have hkm := (unhide HS).hmb
    have hkw : k < w.heap.size := Nat.lt_of_lt_of_le hk hbs
    have e7 := hg7.block k hkw (fun e => by have := Option.some.inj e; omega)
    have ea := (hba.block k (Nat.lt_of_lt_of_le hkw hg7.size)).trans e7
    have e8 := (hg8.block k (Nat.lt_of_lt_of_le hkw (Nat.le_trans hg7.size hba.size)) (fun e => by have := (own_lt howa k e.symm).1; omega)).trans ea
    exact (Below.heap_setCell _ _ _ _ (by show k ≠ sb; omega)).trans e8
  have e0 : w8.cell? ⟨sb, 0, none⟩ = some (.slice so ms.length sc) := cell_of_blk hbk8 0
  have ef := frozen_of_blk hbk8 0
  have el := lt_of_blk hbk8
  clear ho8 hg8 hba hbka howa hmpa hty hbk8 hmp8 hs8
  go_wp2_with fail
  go_ret
  refine ⟨by rw [unhide HNB]; rfl, ?_, unhide HFR⟩
  rw [unhide HNB]
  exact ⟨_, _, _, unhide HFIN⟩
theorem owns_at {w w' : World} {base e size n : Nat} {v : Value} {xs : List Value} (h : w.ownsRow base e size v n xs) (hk : ∀ b c, v.ownBlock = some b → w.heap[b]? = some (.cells c e (0, 0)) → w'.heap[b]? = w.heap[b]?) : w'.ownsRow base e size v n xs := by
 refine ⟨h.1, ?_⟩
 rcases h.2 with h2 | ⟨g, cap, cur, hv, hg, hh, r⟩
 ·exact Or.inl h2
 ·exact Or.inr ⟨g, cap, cur, hv, hg, (hk g cur (by rw [hv]; rfl) hh).trans hh, r⟩
theorem TbW.keepTy {w w' : World} {base : Nat} {A F X : Value} {t : Tb} {rv : List Value} (h : TbW w base A F X t rv) (hk : ∀ (k : Nat) (c : Array Value) (ty : Nat), w.heap[k]? = some (.cells c ty (0, 0)) → ty = 9 ∨ ty = 3 ∨ ty = 33 → w'.heap[k]? = w.heap[k]?) : TbW w' base A F X t rv := by
 refine ⟨owns_at h.acts (fun b c _ hb => hk b c _ hb (Or.inl rfl)), owns_at h.fl (fun b c _ hb => hk b c _ hb (Or.inr (Or.inl rfl))), owns_at h.nx (fun b c _ hb => hk b c _ hb (Or.inr (Or.inr rfl))), fun j r hr => ?_, h.rf, h.rr⟩
 obtain ⟨g, c, h1, h2⟩ := h.rows j r hr
 exact ⟨g, c, h1, owns_at h2 (fun b c _ hb => hk b c _ hb (Or.inr (Or.inl rfl)))⟩
theorem TbW.cell {w : World} {base : Nat} {A F X : Value} {t : Tb} {rv : List Value} (h : TbW w base A F X t rv) {g : Nat} {c : Array Value} (hg : w.heap[g]? = some (.cells c 3 (0, 0))) (hF : F.ownBlock ≠ some g) (hV : ∀ v ∈ rv, v.ownBlock ≠ some g) (i : Nat) (v : Value) : TbW (w.setCell ⟨g, i, none⟩ v) base A F X t rv := by
 have key : ∀ b, b ≠ g → (w.setCell ⟨g, i, none⟩ v).heap[b]? = w.heap[b]? := fun b hb => Below.heap_setCell _ _ _ _ hb
 have hty : ∀ {b ty : Nat} {c' : Array Value}, w.heap[b]? = some (.cells c' ty (0, 0)) → ty ≠ 3 → b ≠ g := fun {b ty c'} hb hne e => by
  rw [e, hg] at hb
  injection hb with hb
  injection hb with _ e2 _
  exact hne e2.symm
 refine ⟨owns_at h.acts (fun b c _ hb => key b (hty hb (by decide))), owns_at h.fl (fun b c e hb => key b (fun e2 => hF (e2 ▸ e))), owns_at h.nx (fun b c _ hb => key b (hty hb (by decide))), fun j r hr => ?_, h.rf, h.rr⟩
 obtain ⟨g2, c2, h1, h2⟩ := h.rows j r hr
 exact ⟨g2, c2, h1, owns_at h2 (fun b c e hb => key b (fun e2 => hV _ (List.mem_of_getElem? h1) (e2 ▸ e)))⟩
theorem TbW.lt {w : World} {base : Nat} {A F X : Value} {t : Tb} {rv : List Value} (h : TbW w base A F X t rv) {g : Nat} (hg : w.heap.size ≤ g) : F.ownBlock ≠ some g ∧ ∀ v ∈ rv, v.ownBlock ≠ some g := by
 refine ⟨fun e => ?_, fun v hv e => ?_⟩
 ·have := (own_lt h.fl g e).2; omega
 ·obtain ⟨j, hj⟩ := List.mem_iff_getElem?.1 hv
  have hjl : j < t.nx.length := by have := (List.getElem?_eq_some_iff.1 hj).1; have := h.rl; omega
  obtain ⟨g2, c, h1, h2⟩ := h.rows j _ (List.getElem?_eq_getElem hjl)
  rw [hj] at h1
  cases h1
  have := (own_lt h2 g e).2
  omega
structure CT (V W : World) (sb mb tb : Nat) (so : Option Addr) (sc : Nat) (ms : List (List Bool)) (D : DataW Unit) (A F X : Value) (t : Tb) (rv : List Value) : Prop where
 st : StB W V.heap.size sb mb so sc ms D
 tbk : W.heap[tb]? = some (.cells #[A, F, X] 36 (0, 0))
 htb : V.heap.size ≤ tb
 tab : TbW W V.heap.size A F X t rv
 bel : Below V.heap.size V W
theorem CT.later {V W W' : World} {sb mb tb : Nat} {so : Option Addr} {sc : Nat} {ms : List (List Bool)} {D : DataW Unit} {A F X : Value} {t : Tb} {rv : List Value} (h : CT V W sb mb tb so sc ms D A F X t rv) (hb : Below W.heap.size W W') : CT V W' sb mb tb so sc ms D A F X t rv :=
 ⟨h.st.later hb, (hb.block _ (lt_of_blk h.tbk)).trans h.tbk, h.htb, h.tab.later hb, h.bel.trans (hb.mono h.bel.size)⟩
theorem CT.numbered {V W W' : World} {sb mb tb : Nat} {so so' : Option Addr} {sc sc' : Nat} {ms ms' : List (List Bool)} {D D' : DataW Unit} {A F X : Value} {t : Tb} {rv : List Value} (h : CT V W sb mb tb so sc ms D A F X t rv) (hs : StB W' V.heap.size sb mb so' sc' ms' D') (hf : FrS V.heap.size W W') : CT V W' sb mb tb so' sc' ms' D' A F X t rv :=
 ⟨hs, (hf.ty _ _ _ _ h.tbk (by decide) (by decide)).trans h.tbk, h.htb, h.tab.keepTy (fun k c ty hk hty => hf.ty k c ty _ hk (by rcases hty with rfl | rfl | rfl <;> decide) (by rcases hty with rfl | rfl | rfl <;> decide)),
  ⟨hf.os.trans h.bel.os, hf.tape.trans h.bel.tape, hf.output.trans h.bel.output, Nat.le_trans h.bel.size hf.size, fun k hk => (hf.low k hk).trans (h.bel.block k hk)⟩⟩
theorem CT.cell {V W : World} {sb mb tb : Nat} {so : Option Addr} {sc : Nat} {ms : List (List Bool)} {D : DataW Unit} {A F X : Value} {t : Tb} {rv : List Value} (h : CT V W sb mb tb so sc ms D A F X t rv) {g : Nat} {c : Array Value} (hg : W.heap[g]? = some (.cells c 3 (0, 0))) (hF : F.ownBlock ≠ some g) (hV : ∀ v ∈ rv, v.ownBlock ≠ some g) (hgV : V.heap.size ≤ g) (i : Nat) (v : Value) : CT V (W.setCell ⟨g, i, none⟩ v) sb mb tb so sc ms D A F X t rv := by
 refine ⟨h.st.other (grown_set W g i v) (fun b hb => by cases hb; exact ⟨c, _, _, hg, by decide, by decide⟩), (Below.heap_setCell _ _ _ _ (fun e => ?_)).trans h.tbk, h.htb, h.tab.cell hg hF hV i v, h.bel.grown (grown_set W g i v) h.bel.size (fun b hb => by cases hb; exact hgV)⟩
 have e' : tb = g := e
 have := h.tbk
 rw [e', hg] at this
 injection this with this
 injection this with _ e2 _
 revert e2
 decide
theorem CT.grow {V W W' : World} {sb mb tb : Nat} {so : Option Addr} {sc : Nat} {ms : List (List Bool)} {D : DataW Unit} {A F X A' F' X' Y : Value} {t t' : Tb} {rv rv' : List Value} (h : CT V W sb mb tb so sc ms D A F X t rv) {e n : Nat} {xs : List Value} (hY : W.ownsRow V.heap.size e 1 Y n xs) (hg : W.grownBy W' Y.ownBlock) (he : e = 9 ∨ e = 3 ∨ e = 33)
  (ht : TbW W' V.heap.size A' F' X' t' rv') (i : Nat) (v : Value) (hc : (#[A, F, X] : Array Value).setIfInBounds i v = #[A', F', X']) : CT V (W'.setCell ⟨tb, i, none⟩ v) sb mb tb so sc ms D A' F' X' t' rv' := by
 have hst := h.st.other hg (fun b hb => by
  obtain ⟨c, hcc⟩ := own_at hY hb
  exact ⟨c, e, _, hcc, by rcases he with rfl | rfl | rfl <;> decide, by rcases he with rfl | rfl | rfl <;> decide⟩)
 have hblk := (hg.block _ (lt_of_blk h.tbk) (fun e1 => own_ty hY e1.symm h.tbk (by rcases he with rfl | rfl | rfl <;> decide))).trans h.tbk
 have hbel := h.bel.grown hg h.bel.size (fun b hb => (own_lt hY b hb).1)
 refine ⟨hst.other (grown_set _ _ _ _) (fun b hb => by cases hb; exact ⟨_, _, _, hblk, by decide, by decide⟩), ?_, h.htb, ht.other (grown_set _ _ _ _) (fun b hb c m => ?_), hbel.grown (grown_set _ _ _ _) hbel.size (fun b hb => by cases hb; exact h.htb)⟩
 ·have := blk_set hblk i v
  rw [hc] at this
  exact this
 ·cases hb
  rw [hblk]
  refine ⟨?_, ?_, ?_⟩ <;> (intro e; injection e with e; injection e with _ e _; revert e; decide)
end Go.Proofs.YtidakhhekofkoaaGreatDoor
