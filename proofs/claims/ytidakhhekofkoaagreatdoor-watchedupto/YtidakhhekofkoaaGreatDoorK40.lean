/- The program's readBackward: what stands in its loops. -/
import Derived.Test.YtidakhhekofkoaaGreatDoorK35
import Derived.Test.YtidakhhekofkoaaGreatDoorK29
import Derived.Test.YtidakhhekofkoaaGreatDoorK33
import Derived.Test.YtidakhhekofkoaaGreatDoorK22
import Derived.Test.YtidakhhekofkoaaGreatDoorK27
import Derived.BigQuiet
import Derived.Laws.IdiomStrings
set_option linter.unusedSimpArgs false
set_option linter.unusedVariables false
open List renaming setIfInBounds_toArray → zA, set_cons_zero → zB, set_cons_succ → zC, getElem_toArray → zD, getElem_cons_succ → zE, getElem_cons_zero → zF
namespace Go.Proofs.YtidakhhekofkoaaGreatDoor
open Go.RowKit Go.Deep Go.Maps
theorem klP_key (s : Nat) : WideAt.IsKeyLit (klP s) := trivial
def plC (l : List Nat) : List Value := l.map fun p : Nat => Value.int .u32 (p : Int)
theorem plC_app (l r : List Nat) : plC (l ++ r) = plC l ++ plC r := by unfold plC; rw [List.map_append]
def RwV (W : World) (base H : Nat) (rv : List Value) (tw : List (List Nat)) : Prop :=
 ∀ (j : Nat) (r : List Nat), tw[j]? = some r → ∃ g, rv[j]? = some (.slice (some ⟨g, 0, none⟩) r.length r.length) ∧ base ≤ g ∧ g < H ∧ W.heap[g]? = some (.cells (rowC r) 3 (0, 0))
structure RbP (V W : World) (mb bb : Nat) (lo : Option Addr) (lc : Nat) (l : List Nat) (D : DataW Unit) (ho : Option Addr) (hc : Nat) (rv : List Value) (tw : List (List Nat)) (H : Nat) : Prop where
 blk : W.heap[bb]? = some (.cells #[.slice ho tw.length hc, .string ⟨#[]⟩] 153 (0, 0))
 hbb : V.heap.size ≤ bb
 pl : W.ownsRow V.heap.size 147 1 (.slice lo l.length lc) l.length (plC l)
 mp : W.ownsMap Tryz.prog 147 (plainElem Tryz.prog 3) mb l.length D
 hmb : V.heap.size ≤ mb
 num : NumM klP D l
 ah : W.ownsRow V.heap.size 33 1 (.slice ho tw.length hc) tw.length rv
 rows : RwV W V.heap.size H rv tw
 hH : H ≤ W.heap.size
 bel : Below V.heap.size V W
theorem map_ne {W : World} {b n : Nat} {D : DataW Unit} (h : W.ownsMap Tryz.prog 147 (plainElem Tryz.prog 3) b n D) {c : Array Value} {ty : Nat} {m : Nat × Nat} {k : Nat} (hk : W.heap[k]? = some (.cells c ty m)) : k ≠ b := by
 rintro rfl
 obtain ⟨es, clock, h1, _⟩ := h
 rw [hk] at h1
 cases h1
theorem RwV.keep {W W' : World} {base H : Nat} {rv : List Value} {tw : List (List Nat)} (h : RwV W base H rv tw) (hk : ∀ g c, g < H → W.heap[g]? = some (.cells c 3 (0, 0)) → W'.heap[g]? = W.heap[g]?) : RwV W' base H rv tw := fun j r hr => by
 obtain ⟨g, h1, h2, h3, h4⟩ := h j r hr
 exact ⟨g, h1, h2, h3, (hk g _ h3 h4).trans h4⟩
theorem RbP.later {V W W' : World} {mb bb : Nat} {lo : Option Addr} {lc : Nat} {l : List Nat} {D : DataW Unit} {ho : Option Addr} {hc : Nat} {rv : List Value} {tw : List (List Nat)} {H : Nat} (h : RbP V W mb bb lo lc l D ho hc rv tw H) (hb : Below W.heap.size W W') : RbP V W' mb bb lo lc l D ho hc rv tw H :=
 ⟨(hb.block _ (lt_of_blk h.blk)).trans h.blk, h.hbb, owns_later h.pl hb, h.mp.kept (grown_below hb none) (by simp), h.hmb, h.num, owns_later h.ah hb, h.rows.keep (fun g c _ hg => hb.block g (lt_of_blk hg)), Nat.le_trans h.hH hb.size, h.bel.trans (hb.mono h.bel.size)⟩
theorem RbP.mapped {V W W' : World} {mb bb : Nat} {lo : Option Addr} {lc : Nat} {l : List Nat} {D : DataW Unit} {ho : Option Addr} {hc : Nat} {rv : List Value} {tw : List (List Nat)} {H : Nat} (h : RbP V W mb bb lo lc l D ho hc rv tw H) (hg : W.grownBy W' (some mb)) :
  W'.heap[bb]? = some (.cells #[.slice ho tw.length hc, .string ⟨#[]⟩] 153 (0, 0)) ∧ W'.ownsRow V.heap.size 147 1 (.slice lo l.length lc) l.length (plC l) ∧ W'.ownsRow V.heap.size 33 1 (.slice ho tw.length hc) tw.length rv ∧ RwV W' V.heap.size H rv tw ∧ H ≤ W'.heap.size ∧ Below V.heap.size V W' := by
 have hne : ∀ {c : Array Value} {ty : Nat} {m : Nat × Nat} {k : Nat}, W.heap[k]? = some (.cells c ty m) → some k ≠ some mb := fun hk e => map_ne h.mp hk (Option.some.inj e)
 refine ⟨(hg.block _ (lt_of_blk h.blk) (hne h.blk)).trans h.blk, owns_other h.pl hg ?_, owns_other h.ah hg ?_, h.rows.keep (fun g c _ hgc => hg.block g (lt_of_blk hgc) (hne hgc)), Nat.le_trans h.hH hg.size, h.bel.grown hg h.bel.size (fun b hb => by cases hb; exact h.hmb)⟩
 ·intro b hb e
  obtain ⟨c, hcc⟩ := own_at h.pl e
  exact hne hcc hb.symm
 ·intro b hb e
  obtain ⟨c, hcc⟩ := own_at h.ah e
  exact hne hcc hb.symm
theorem RbP.place {V W W1 W2 W3 : World} {mb bb : Nat} {lo : Option Addr} {lc : Nat} {l : List Nat} {D : DataW Unit} {ho : Option Addr} {hc : Nat} {rv : List Value} {tw : List (List Nat)} {H : Nat} (h : RbP V W mb bb lo lc l D ho hc rv tw H) {p : Nat} (hp : fnd p l 0 = none)
  (hm : W1.ownsMap Tryz.prog 147 (plainElem Tryz.prog 3) mb (l.length + 1) (D.put (klP p) (.lit (.int .i64 (l.length : Nat))))) (hg1 : W.grownBy W1 (some mb)) (hb2 : Below W1.heap.size W1 W2) {g cap : Nat}
  (ho3 : W3.ownsRow V.heap.size 147 1 (.slice (some ⟨g, 0, none⟩) (l.length + 1) cap) (l.length + 1) (plC l ++ [.int .u32 (p : Int)])) (hg3 : W2.grownBy W3 (Value.slice lo l.length lc).ownBlock) :
  RbP V W3 mb bb (some ⟨g, 0, none⟩) cap (l ++ [p]) (D.put (klP p) (.lit (.int .i64 (l.length : Nat)))) ho hc rv tw H := by
 obtain ⟨k1, k2, k3, k4, k5, k6⟩ := h.mapped hg1
 have k1' := (hb2.block _ (lt_of_blk k1)).trans k1
 have k2' := owns_later k2 hb2
 have k3' := owns_later k3 hb2
 have k4' : RwV W2 V.heap.size H rv tw := k4.keep (fun g c _ hg => hb2.block g (lt_of_blk hg))
 have hm2 := hm.kept (grown_below hb2 none) (by simp)
 have k6' := k6.trans (hb2.mono k6.size)
 have hty : ∀ {c : Array Value} {ty k : Nat}, W2.heap[k]? = some (.cells c ty (0, 0)) → ty ≠ 147 → some k ≠ (Value.slice lo l.length lc).ownBlock := fun hk hne e => own_ty k2' e.symm hk hne
 refine ⟨(hg3.block _ (lt_of_blk k1') (hty k1' (by decide))).trans k1', h.hbb, ?_, ?_, h.hmb, h.num.put klP_key klP_inj hp, ?_, ?_, ?_, ?_⟩
 ·have e : plC (l ++ [p]) = plC l ++ [.int .u32 (p : Int)] := by rw [plC_app]; rfl
  rw [e, List.length_append]
  exact ho3
 ·rw [List.length_append]
  refine hm2.kept hg3 (fun e => ?_)
  obtain ⟨c, hcc⟩ := own_at k2' e.symm
  exact map_ne hm2 hcc rfl
 ·exact owns_other k3' hg3 (fun b hb e => by obtain ⟨c, hcc⟩ := own_at k3' e; exact hty hcc (by decide) hb.symm)
 ·exact k4'.keep (fun g c _ hgc => hg3.block g (lt_of_blk hgc) (hty hgc (by decide)))
 ·exact Nat.le_trans k5 (Nat.le_trans hb2.size hg3.size)
 ·exact k6'.grown hg3 k6'.size (fun b hb => (own_lt k2' b hb).1)
theorem RbP.cell {V W : World} {mb bb : Nat} {lo : Option Addr} {lc : Nat} {l : List Nat} {D : DataW Unit} {ho : Option Addr} {hc : Nat} {rv : List Value} {tw : List (List Nat)} {H : Nat} (h : RbP V W mb bb lo lc l D ho hc rv tw H) {g : Nat} (hgH : H ≤ g) (hgV : V.heap.size ≤ g) {c : Array Value} (hgc : W.heap[g]? = some (.cells c 3 (0, 0))) (i : Nat) (v : Value) : RbP V (W.setCell ⟨g, i, none⟩ v) mb bb lo lc l D ho hc rv tw H := by
 have hg := grown_set W g i v
 have hty : ∀ {c : Array Value} {ty k : Nat}, W.heap[k]? = some (.cells c ty (0, 0)) → ty ≠ 3 → some k ≠ some g := fun hk hne e => by
  cases e
  rw [hgc] at hk
  injection hk with hk
  injection hk with _ e _
  exact hne e.symm
 refine ⟨(hg.block _ (lt_of_blk h.blk) (hty h.blk (by decide))).trans h.blk, h.hbb, owns_other h.pl hg ?_, h.mp.kept hg (fun e => map_ne h.mp hgc (Option.some.inj e).symm), h.hmb, h.num, owns_other h.ah hg ?_, ?_, ?_, ?_⟩
 ·intro b hb e
  obtain ⟨c', hcc⟩ := own_at h.pl e
  exact hty hcc (by decide) hb.symm
 ·intro b hb e
  obtain ⟨c', hcc⟩ := own_at h.ah e
  exact hty hcc (by decide) hb.symm
 ·exact h.rows.keep (fun k c' hkH hk => hg.block k (lt_of_blk hk) (fun e => by cases e; omega))
 ·simpa [World.setCell] using h.hH
 ·exact h.bel.grown hg h.bel.size (fun b hb => by cases hb; exact hgV)
theorem RbP.row {V W W1 W2 : World} {mb bb : Nat} {lo : Option Addr} {lc : Nat} {l : List Nat} {D : DataW Unit} {ho : Option Addr} {hc : Nat} {rv : List Value} {tw : List (List Nat)} {H : Nat} (h : RbP V W mb bb lo lc l D ho hc rv tw H) {g : Nat} (hgV : V.heap.size ≤ g) {r : List Nat} (hgc : W.heap[g]? = some (.cells (rowC r) 3 (0, 0)))
  (hb1 : Below W.heap.size W W1) {g2 cap : Nat} (ho2 : W2.ownsRow V.heap.size 33 1 (.slice (some ⟨g2, 0, none⟩) (tw.length + 1) cap) (tw.length + 1) (rv ++ [.slice (some ⟨g, 0, none⟩) r.length r.length])) (hg2 : W1.grownBy W2 (Value.slice ho tw.length hc).ownBlock) :
  RbP V (W2.setCell ⟨bb, 0, none⟩ (.slice (some ⟨g2, 0, none⟩) (tw.length + 1) cap)) mb bb lo lc l D (some ⟨g2, 0, none⟩) cap (rv ++ [.slice (some ⟨g, 0, none⟩) r.length r.length]) (tw ++ [r]) W.heap.size := by
 have h1 := h.later hb1
 have hgc1 := (hb1.block _ (lt_of_blk hgc)).trans hgc
 have hrl : rv.length = tw.length := by have := h.ah.1; rw [Nat.mul_one] at this; exact this
 have hty : ∀ {c : Array Value} {ty k : Nat}, W1.heap[k]? = some (.cells c ty (0, 0)) → ty ≠ 33 → some k ≠ (Value.slice ho tw.length hc).ownBlock := fun hk hne e => own_ty h1.ah e.symm hk hne
 have hbk2 := (hg2.block _ (lt_of_blk h1.blk) (hty h1.blk (by decide))).trans h1.blk
 have hpl2 := owns_other h1.pl hg2 (fun b hb e => by obtain ⟨c, hcc⟩ := own_at h1.pl e; exact hty hcc (by decide) hb.symm)
 have hmp2 := h1.mp.kept hg2 (fun e => by obtain ⟨c, hcc⟩ := own_at h1.ah e.symm; exact map_ne h1.mp hcc rfl)
 have hbel2 := h1.bel.grown hg2 h1.bel.size (fun b hb => (own_lt h1.ah b hb).1)
 have hgc2 := (hg2.block _ (lt_of_blk hgc1) (hty hgc1 (by decide))).trans hgc1
 have hs := grown_set W2 bb 0 (.slice (some ⟨g2, 0, none⟩) (tw.length + 1) cap)
 have hty2 : ∀ {c : Array Value} {ty k : Nat}, W2.heap[k]? = some (.cells c ty (0, 0)) → ty ≠ 153 → some k ≠ some bb := fun hk hne e => by
  cases e
  rw [hbk2] at hk
  injection hk with hk
  injection hk with _ e _
  exact hne e.symm
 have hrows2 : RwV W2 V.heap.size H rv tw := h1.rows.keep (fun k c _ hk => hg2.block k (lt_of_blk hk) (hty hk (by decide)))
 have hsz : W.heap.size ≤ (W2.setCell ⟨bb, 0, none⟩ (.slice (some ⟨g2, 0, none⟩) (tw.length + 1) cap)).heap.size := by
  have := hb1.size; have := hg2.size; simp [World.setCell]; omega
 refine ⟨?_, h.hbb, owns_other hpl2 hs (fun b hb e => by obtain ⟨c, hcc⟩ := own_at hpl2 e; exact hty2 hcc (by decide) hb.symm), hmp2.kept hs (fun e => map_ne hmp2 hbk2 (Option.some.inj e).symm), h.hmb, h.num, ?_, ?_, hsz, hbel2.grown hs hbel2.size (fun b hb => by cases hb; exact h.hbb)⟩
 ·have := blk_set hbk2 0 (.slice (some ⟨g2, 0, none⟩) (tw.length + 1) cap)
  rw [List.length_append]
  exact this
 ·rw [List.length_append]
  exact owns_other ho2 hs (fun b hb e => by obtain ⟨c, hcc⟩ := own_at ho2 e; exact hty2 hcc (by decide) hb.symm)
 ·intro j q hq
  rcases Nat.lt_or_ge j tw.length with hj | hj
  ·rw [List.getElem?_append_left hj] at hq
   obtain ⟨k, k1, k2, k3, k4⟩ := hrows2 j q hq
   exact ⟨k, by rw [List.getElem?_append_left (by omega)]; exact k1, k2, Nat.lt_of_lt_of_le k3 h.hH, (hs.block k (lt_of_blk k4) (hty2 k4 (by decide))).trans k4⟩
  ·rw [List.getElem?_append_right hj] at hq
   have hj0 : j - tw.length = 0 := by
    have := (List.getElem?_eq_some_iff.1 hq).1
    simp at this
    omega
   rw [hj0] at hq
   have hqr : r = q := by simpa using hq
   subst hqr
   refine ⟨g, ?_, hgV, lt_of_blk hgc, (hs.block g (lt_of_blk hgc2) (hty2 hgc2 (by decide))).trans hgc2⟩
   rw [List.getElem?_append_right (by omega), hrl, hj0]
   rfl
def RdB (w : World) (al : List Tk) (rs : List Rl) (w' : World) (e : Ending) : Prop :=
 ∃ l tw ro rc, e = .returned (.agg #[.slice ro tw.length rc, .string (setS (l.map (keepP (wholeM rs [] 0))))]) ∧ Bfs (ahP (stepsM rs []) al) (List.range al.length) (p0P (stepsM rs [])) l.length l tw ∧ RwS w' ro (tw.map zI) ∧ Below w.heap.size w w' ∧ l.length ≤ 131072
theorem strC_nm {al : List Tk} {j : Nat} (h : j < al.length) : (strC al)[j]? = some (.string (nmA al j)) := by
 unfold nmA strC
 rw [List.getElem?_map, List.getElem?_eq_getElem h]
 rfl
theorem places_few {al : List Tk} {rs : List Rl} (hM : MGood al rs) {n k : Nat} {l : List Nat} {tw : List (List Nat)} (h : Bfs (ahP (stepsM rs []) al) (List.range n) (p0P (stepsM rs [])) k l tw) : l.length ≤ 131072 ∧ ∀ p ∈ l, p < 4294967296 := by
 have hn : (stepsM rs []).length ≤ 16 := by
  rw [stepsM_len]
  simpa using hM.nodes
 obtain ⟨h1, h2⟩ := placesP_le h
 have h3 : 2 ^ ((stepsM rs []).length + 1) ≤ 2 ^ 17 := Nat.pow_le_pow_right (by decide) (by omega)
 exact ⟨Nat.le_trans h1 h3, fun p hp => Nat.lt_of_lt_of_le (h2 p hp) (Nat.le_trans h3 (by decide))⟩
theorem Tryz.infoRowP : (Tryz.prog.info? 33).map (fun i => (i.zero, i.size, i.bytes)) = some (some (.slice none 0 0), 1, 24) := by kernel_rfl
theorem Tryz.infoPl : (Tryz.prog.info? 147).map (fun i => (i.zero, i.size, i.bytes)) = some (some (.int .u32 0), 1, 4) := by kernel_rfl
theorem numb_le {σ : Type} [DecidableEq σ] (l : List σ) (s : σ) : (numb l s).1.length ≤ l.length + 1 := by
 unfold numb
 split
 ·show l.length ≤ _; omega
 ·simp
theorem rowN_le {σ : Type} [DecidableEq σ] (st : σ → Nat → σ) (s : σ) : ∀ (ns : List Nat) (l : List σ), (rowN st s ns l).1.length ≤ l.length + ns.length
 | [], l => by simp [rowN]
 | a :: ns, l => by
  rw [rowN]
  have h1 := rowN_le st s ns (numb l (st s a)).1
  have h2 := numb_le l (st s a)
  simp only [List.length_cons]
  omega
theorem ahP_lt {al : List Tk} {rs : List Rl} (hM : MGood al rs) (p a : Nat) : ahP (stepsM rs []) al p a < 4294967296 := by
 have hn : (stepsM rs []).length ≤ 16 := by rw [stepsM_len]; simpa using hM.nodes
 exact Nat.lt_of_lt_of_le (fillN_lt _ _ _ _ _) (Nat.le_trans (Nat.pow_le_pow_right (by decide) (show _ ≤ 32 by omega)) (by decide))
theorem RbP.rws {V W W' : World} {mb bb : Nat} {lo : Option Addr} {lc : Nat} {l : List Nat} {D : DataW Unit} {ho : Option Addr} {hc : Nat} {rv : List Value} {tw : List (List Nat)} {H : Nat} (h : RbP V W mb bb lo lc l D ho hc rv tw H) (hk : ∀ (k : Nat) (c : Array Value) (ty : Nat), W.heap[k]? = some (.cells c ty (0, 0)) → ty = 3 ∨ ty = 33 → W'.heap[k]? = W.heap[k]?) : RwS W' ho (tw.map zI) := fun j r hr => by
 rw [List.getElem?_map] at hr
 cases e : tw[j]? with
 | none => rw [e] at hr; cases hr
 | some q =>
  rw [e] at hr
  have hq : zI q = r := Option.some.inj hr
  subst hq
  have hj := (List.getElem?_eq_some_iff.1 e).1
  obtain ⟨g, h1, h2, h3⟩ := owns1_at h.ah hj
  obtain ⟨g2, k1, _, _, k4⟩ := h.rows j q e
  subst h1
  obtain ⟨c, hcc⟩ := own_at h.ah (b := g) rfl
  have hg' := hk g _ _ hcc (Or.inr rfl)
  have hg2' := (hk g2 _ _ k4 (Or.inl rfl)).trans k4
  refine ⟨g, 0, some ⟨g2, 0, none⟩, q.length, rfl, ?_, ?_, fun i x hx => ?_⟩
  ·exact lt_of_blk (hg'.trans hcc)
  ·rw [Nat.zero_add, World.cell?_of_block (a := ⟨g, j, none⟩) hg', h3, k1]
   unfold zI
   rw [List.length_map]
  ·unfold zI at hx
   rw [List.getElem?_map] at hx
   cases e2 : q[i]? with
   | none => rw [e2] at hx; cases hx
   | some y =>
    rw [e2] at hx
    have hy : (y : Int) = x := Option.some.inj hx
    exact ⟨g2, 0, rfl, lt_of_blk hg2', by rw [Nat.zero_add, cell_of_blk hg2', rowC_at e2, hy]⟩
theorem mkInts (w : World) (n : Nat) (hn : n ≤ 10000000000) : (Instr.makeSlice 33 (.int .i64 (n : Int)) (.int .i64 (n : Int))).run Tryz.prog w = .ok (.slice (some ⟨w.heap.size, 0, none⟩) n n) (w.alloc (.cells (Array.replicate n (.int .i64 0)) 3)) := by
 obtain ⟨i0, hi0, hz0, hz1, hz2⟩ := info_parts Tryz.infoI64
 exact make_run (P := Tryz.prog) w 33 3 i0 (.int .i64 0) Tryz.underlying33 hi0 hz0 hz1 rfl (by omega) n hn
set_option maxHeartbeats 4000000 in
set_option maxRecDepth 100000 in
theorem readBackward_any (w : World) (al : List Tk) (rs : List Rl) (hM : MGood al rs) (a1 : Option Addr) (a3 : Nat) (m1 : Option Addr) (m2 m3 : Nat) (cells : List Value) (ha : w.ownsRow 0 9 1 (.slice a1 al.length a3) al.length (strC al)) (hr : w.ownsRow 0 144 3 (.slice m1 m2 m3) rs.length cells) (hp : BuP w rs cells) (h6 : al.length ≤ 6) :
  Calls Tryz.prog 80 #[.agg #[.slice a1 al.length a3, .slice m1 m2 m3]] w fun e w' => RdB w al rs w' e := by
 have hB : Below w.heap.size w ((w.alloc (.cells #[.slice a1 al.length a3, .slice m1 m2 m3] 78)).alloc (.cells #[.slice none 0 0, .string ⟨#[]⟩] 153)) := ((Below.refl _ _).alloc (Nat.le_refl _) _).alloc (by simp) _
 have HW := hide (MWalk_any _ rs a1 al.length a3 m1 m2 m3 cells (owns_later hr hB) (hp.keep (KB.below hB)) hM.nodes hM.rlen (fun r hr => (hM.fg r hr).ne))
 have HA0 := hide (owns_later ha hB)
 have HMB : Hid (((w.alloc (.cells #[.slice a1 al.length a3, .slice m1 m2 m3] 78)).alloc (.cells #[.slice none 0 0, .string ⟨#[]⟩] 153)).heap[w.heap.size]? = some (.cells #[.slice a1 al.length a3, .slice m1 m2 m3] 78 (0, 0))) := (Below.heap_alloc _ _ _ (by simp)).trans (blk_alloc _ _)
 have HRB : Hid (((w.alloc (.cells #[.slice a1 al.length a3, .slice m1 m2 m3] 78)).alloc (.cells #[.slice none 0 0, .string ⟨#[]⟩] 153)).heap[w.heap.size + 1]? = some (.cells #[.slice none 0 0, .string ⟨#[]⟩] 153 (0, 0))) := blk_alloc' _ _ _ (by simp)
 have HB := hide hB
 have HM := hide hM
 have HG := hide (stepsM_g hM)
 have hwl : wholeM rs [] 0 < 4294967296 := Nat.lt_of_lt_of_le (wholeM_lt rs [] 0 (by decide) (fun r hr => (hM.fg r hr).ne)) (Nat.le_trans (Nat.pow_le_pow_right (by decide) (show _ ≤ 32 by have := (stepsM_g hM).len; omega)) (by decide))
 have hmm := @run_makeMap Tryz.prog
 obtain ⟨i0, hi0, hz0, hz1, hz2⟩ := info_parts Tryz.infoPl
 obtain ⟨r0, hr0, hrz0, hrz1, hrz2⟩ := info_parts Tryz.infoRowP
 clear ha hr hp hB hM
 go_enter Tryz.func80, Tryz.ntmps80
 go_wp2_with fail
 refine (unhide HW).mono ?_
 generalize ((w.alloc (.cells #[.slice a1 al.length a3, .slice m1 m2 m3] 78)).alloc (.cells #[.slice none 0 0, .string ⟨#[]⟩] 153)) = W0 at *
 rintro e w1 ⟨so, sc, rfl, hst, hb1⟩
 have hbv : Below w1.heap.size w1 (w1.alloc (.cells #[.slice so (stepsM rs []).length sc, .int .u32 ((wholeM rs [] 0 : Nat) : Int)] 149)) := (Below.refl _ _).alloc (Nat.le_refl _) _
 have HBV := hide ((unhide HB).trans ((hb1.trans (hbv.mono hb1.size)).mono (unhide HB).size))
 have HSTV := hide (hst.later hbv)
 have HAV := hide (owns_later (owns_later (unhide HA0) hb1) hbv)
 have HMV := hide ((hbv.block _ (Nat.lt_of_lt_of_le (lt_of_blk (unhide HMB)) hb1.size)).trans ((hb1.block _ (lt_of_blk (unhide HMB))).trans (unhide HMB)))
 have HRV := hide ((hbv.block _ (Nat.lt_of_lt_of_le (lt_of_blk (unhide HRB)) hb1.size)).trans ((hb1.block _ (lt_of_blk (unhide HRB))).trans (unhide HRB)))
 have HWV := hide (blk_alloc w1 (.cells #[.slice so (stepsM rs []).length sc, .int .u32 ((wholeM rs [] 0 : Nat) : Int)] 149))
 clear hst hb1 hbv HW HA0 HMB HRB HB
 have HBH := hide (fun W h => Behind_any W (stepsM rs []) so sc (wholeM rs [] 0) h (unhide HG))
 go_wp2_with fail
 generalize hV : w1.alloc (.cells #[.slice so (stepsM rs []).length sc, .int .u32 ((wholeM rs [] 0 : Nat) : Int)] 149) = V at *
 refine (unhide HBH V (unhide HSTV)).mono ?_
 rintro e w3 ⟨rfl, hb3⟩
 have hp0 : p0P (stepsM rs []) < 4294967296 := by
  have := (places_few (unhide HM) (Bfs.start (ahP (stepsM rs []) al) (List.range al.length) (p0P (stepsM rs [])))).2 (p0P (stepsM rs [])) (by simp)
  exact this
 have hpe : walkB (stepsM rs []) [] = p0P (stepsM rs []) := rfl
 rw [hpe] at HBH ⊢
 have HBFS := hide (Bfs.start (ahP (stepsM rs []) al) (List.range al.length) (p0P (stepsM rs [])))
 generalize hP0 : p0P (stepsM rs []) = p0 at *
 have HP0 := hide hP0
 have hbp : Below w3.heap.size w3 ((w3.alloc (.cells #[.int .u32 (p0 : Int)] 147)).alloc (.map #[] 0)) := ((Below.refl _ _).alloc (Nat.le_refl _) _).alloc (by simp) _
 have hwk3 := (hb3.block _ (lt_of_blk (unhide HWV))).trans (unhide HWV)
 have wc := fun o => cell_of_blk hwk3 o
 have hwl3 := lt_of_blk hwk3
 have HST4 := hide ((unhide HSTV).later (hb3.trans (hbp.mono hb3.size)))
 clear hpe hP0
 go_wp2_with fail
 refine (unhide HBH _ (unhide HST4)).mono ?_
 rintro e w4 ⟨rfl, hb4⟩
 have hm4 : w4.ownsMap Tryz.prog 147 (plainElem (H := Unit) Tryz.prog 3) (w3.heap.size + 1) 0 (.map []) := by
  have k := World.ownsMap_made (H := Unit) (w3.alloc (.cells #[.int .u32 (p0 : Int)] 147)) Tryz.prog 147 (plainElem Tryz.prog 3)
  have e : (w3.alloc (.cells #[.int .u32 (p0 : Int)] 147)).heap.size = w3.heap.size + 1 := by simp
  rw [e] at k
  exact k.kept (grown_below hb4 none) (by simp)
 have hpl4 : w4.ownsRow V.heap.size 147 1 (.slice (some ⟨w3.heap.size, 0, none⟩) 1 1) 1 (plC [p0]) := by
  refine owns_later (w := (w3.alloc (.cells #[.int .u32 (p0 : Int)] 147)).alloc (.map #[] 0)) ⟨rfl, .inr ⟨w3.heap.size, 1, _, rfl, hb3.size, (Below.heap_alloc _ _ _ (by simp)).trans (blk_alloc _ _), Nat.le_refl _, by unfold maxLen; omega, rfl, rfl⟩⟩ hb4
 have hb43 : Below V.heap.size V w4 := (hb3.trans (hbp.mono hb3.size)).trans (hb4.mono (Nat.le_trans hb3.size hbp.size))
 obtain ⟨w5, hrun, hm5, hg5⟩ := hm4.update lawP Tryz.underlying218 (by unfold maxLen; omega) (keyP hp0) (plainElem_int (a := 0) Tryz.underlying3 (by decide))
 have hwk4 := (hb43.block _ (lt_of_blk (unhide HWV))).trans (unhide HWV)
 have HRB0 : Hid (RbP V (w5.alloc (.cells #[.slice none 0 0, .string ⟨#[]⟩] 153)) (w3.heap.size + 1) w5.heap.size (some ⟨w3.heap.size, 0, none⟩) 1 [p0] ((DataW.map []).put (klP p0) (.lit (.int .i64 ((0 : Nat) : Int)))) none 0 [] [] w5.heap.size) := by
  have hb5 : Below V.heap.size V w5 := hb43.grown hg5 hb43.size (fun b hb => by cases hb; have := hb3.size; omega)
  have hba : Below w5.heap.size w5 (w5.alloc (.cells #[.slice none 0 0, .string ⟨#[]⟩] 153)) := (Below.refl _ _).alloc (Nat.le_refl _) _
  refine ⟨blk_alloc _ _, hb5.size, owns_later (owns_other hpl4 hg5 (fun b hb e => ?_)) hba, (hm5.kept (grown_below hba none) (by simp)), by have := hb3.size; omega, (NumM.nil klP).put klP_key klP_inj rfl, World.ownsRow_nil _ _ _ _, fun j r hr => by simp at hr, hba.size, hb5.trans (hba.mono hb5.size)⟩
  obtain ⟨c, hcc⟩ := own_at hpl4 e
  exact map_ne hm4 hcc (Option.some.inj hb).symm
 have wc4 := fun o => cell_of_blk hwk4 o
 have hwl4 := lt_of_blk hwk4
 clear hm4 hpl4 hb43 hm5 hg5 hwk4 hbp hwk3 hb3 hb4 wc hwl3 HST4 HBH
 go_wp2_with fail
 clear hrun wc4 hwl4
 generalize w5.alloc (.cells #[.slice none 0 0, .string ⟨#[]⟩] 153) = w6 at *
 generalize w5.heap.size = bb at *
 generalize w3.heap.size + 1 = mb at *
 have hmk := fun W : World => mkInts W al.length (by omega)
 have hwV := lt_of_blk (unhide HWV)
 go_loopw [4, 7] (fun pv x wr => ∃ (k : Nat) (lo : Option Addr) (lc : Nat) (l : List Nat) (D : DataW Unit) (ho : Option Addr) (hc : Nat) (rv : List Value) (tw : List (List Nat)) (H : Nat), x = .int .i64 k ∧ pv = .slice lo l.length lc ∧ Hid (RbP V wr mb bb lo lc l D ho hc rv tw H) ∧ Hid (Bfs (ahP (stepsM rs []) al) (List.range al.length) p0 k l tw)) (fun _ x _ => 131073 - (intOf x).toNat)
 case atStart => exact ⟨0, some ⟨w3.heap.size, 0, none⟩, 1, [p0], _, none, 0, [], [], _, rfl, rfl, HRB0, HBFS⟩
 case round =>
  obtain ⟨k, lo, lc, l, D, ho, hc, rv, tw, H, rfl, rfl, HRB, HBF⟩ := hrel
  have hfew : l.length ≤ 131072 ∧ ∀ p ∈ l, p < 4294967296 := by
   have := unhide HBF
   rw [← unhide HP0] at this
   exact places_few (unhide HM) this
  have hfew1 := hfew.1
  have HF2 := hide hfew.2
  have hkl := (unhide HBF).le
  have htk : tw.length = k := (unhide HBF).len
  have HTK := hide htk
  clear hfew htk
  have hbel := (unhide HRB).bel
  have hmc : wr.cell? ⟨w.heap.size, 0, none⟩ = some (.slice a1 al.length a3) := (bcell3 hbel _ _ (lt_of_blk (unhide HMV))).trans (cell_of_blk (unhide HMV) 0)
  have hml : w.heap.size < wr.heap.size := Nat.lt_of_lt_of_le (lt_of_blk (unhide HMV)) hbel.size
  by_cases hlt : k < l.length
  ·have hkn : (k : Int) < (l.length : Int) := by omega
   obtain ⟨pb, hlo, hpbl, hpc⟩ := owns1_at (unhide HRB).pl hlt
   have HX := hide (List.getElem?_eq_getElem hlt)
   have hpx := unhide HF2 l[k] (List.getElem_mem hlt)
   subst hlo
   generalize l[k] = px at *
   have hg0 : (wr.alloc (.cells (Array.replicate al.length (.int .i64 0)) 3)).heap[wr.heap.size]? = some (.cells (rowC (rowTo [] al.length 0)) 3 (0, 0)) := by
    have e : rowTo [] al.length 0 = List.replicate al.length 0 := by unfold rowTo; simp
    rw [e, rowC_zero]
    exact blk_alloc _ _
   have HRB1 := hide ((unhide HRB).later ((Below.refl _ _).alloc (Nat.le_refl _) (.cells (Array.replicate al.length (.int .i64 0)) 3)))
   have hHg : H ≤ wr.heap.size := (unhide HRB).hH
   have hVg : V.heap.size ≤ wr.heap.size := (unhide HRB).bel.size
   have HG0 := hide hg0
   clear hg0 hbel hpc hpbl
   go_wp2_with fail
   generalize wr.alloc (.cells (Array.replicate al.length (.int .i64 0)) 3) = wA at *
   generalize wr.heap.size = g at *
   clear hmc hml HF2
   rename World => wR
   go_loopw [4, 36] (fun pv x wq => ∃ (j : Nat) (lo : Option Addr) (lc : Nat) (M : List Nat) (D : DataW Unit) (q : List Nat), j ≤ al.length ∧ x = .int .i64 j ∧ pv = .slice lo M.length lc ∧ Hid (RbP V wq mb bb lo lc M D ho hc rv tw H) ∧ Hid (wq.heap[g]? = some (.cells (rowC (rowTo q al.length j)) 3 (0, 0))) ∧ Hid (rowN (ahP (stepsM rs []) al) px (List.range j) l = (M, q))) (fun _ x _ => al.length - (intOf x).toNat)
   case atStart => exact ⟨0, some ⟨pb, 0, none⟩, lc, l, D, [], Nat.zero_le _, rfl, rfl, HRB1, HG0, rfl⟩
   case round =>
    obtain ⟨j, lo, lc2, M, D2, q, hj, rfl, rfl, HRB2, HGJ, HRN⟩ := hrel
    have hspec := rowN_spec (ahP (stepsM rs []) al) px (List.range j) l
    rw [unhide HRN] at hspec
    obtain ⟨⟨xs, hMx, _⟩, hql, _, _⟩ := hspec
    have hMle : M.length ≤ l.length + j := by
     have := rowN_le (ahP (stepsM rs []) al) px (List.range j) l
     rw [unhide HRN, List.length_range] at this
     exact this
    have hql' : q.length = j := by simpa using hql
    have HQL := hide hql'
    have hkM : k < M.length := by have := congrArg List.length hMx; simp at this; omega
    have hMk : M[k]? = some px := by rw [show M = l ++ xs from hMx, List.getElem?_append_left hlt]; exact unhide HX
    clear hql hql'
    by_cases hjl : j < al.length
    ·have hjn : (j : Int) < (al.length : Int) := by omega
     have hkMn : (k : Int) < (M.length : Int) := by omega
     have hbel := (unhide HRB2).bel
     obtain ⟨pb2, hlo2, hpl2, hpc2⟩ := owns1_at (unhide HRB2).pl hkM
     have hpc3 : wr.cell? ⟨pb2, k, none⟩ = some (.int .u32 (px : Int)) := hpc2.trans (by unfold plC; rw [List.getElem?_map, hMk]; rfl)
     obtain ⟨ab, ha1, habl, hac⟩ := owns1_at (owns_later (unhide HAV) hbel) hjl
     have hac2 : wr.cell? ⟨ab, j, none⟩ = some (.string (nmA al j)) := hac.trans (strC_nm hjl)
     have hw0 : wr.cell? ⟨w1.heap.size, 0, none⟩ = some (.slice so (stepsM rs []).length sc) := (bcell3 hbel _ _ hwV).trans (cell_of_blk (unhide HWV) 0)
     have hw1 : wr.cell? ⟨w1.heap.size, 1, none⟩ = some (.int .u32 ((wholeM rs [] 0 : Nat) : Int)) := (bcell3 hbel _ _ hwV).trans (cell_of_blk (unhide HWV) 1)
     have hwl1 : w1.heap.size < wr.heap.size := Nat.lt_of_lt_of_le hwV hbel.size
     have HAHD := hide (Ahead_any wr.drew (stepsM rs []) so sc (wholeM rs [] 0) px (nmA al j) ((unhide HSTV).later (hbel.trans (((Below.refl wr.heap.size wr).drew).mono hbel.size))) (unhide HG) hpx)
     have hp2 : ahP (stepsM rs []) al px j < 4294967296 := ahP_lt (unhide HM) px j
     have hae : fillN (stepsM rs []) true (nmA al j) (px.testBit (stepsM rs []).length) px = ahP (stepsM rs []) al px j := rfl
     rw [hae] at HAHD
     have HSUC : Hid (rowN (ahP (stepsM rs []) al) px (List.range (j + 1)) l = ((numb M (ahP (stepsM rs []) al px j)).1, q ++ [(numb M (ahP (stepsM rs []) al px j)).2])) := by
      show _ = _
      rw [List.range_succ, rowN_append, unhide HRN]
     subst ha1
     subst hlo2
     clear hae hpc2 hac hMx hMk hbel
     generalize ahP (stepsM rs []) al px j = p2 at *
     generalize nmA al j = ev at *
     go_wp2_with fail
     refine wp_region_held_drew (S := fun w' => w'.cell? ⟨w1.heap.size, 0, none⟩ = some (.slice so (stepsM rs []).length sc) ∧ w'.cell? ⟨w1.heap.size, 1, none⟩ = some (.int .u32 ((wholeM rs [] 0 : Nat) : Int)) ∧ w'.cell? ⟨pb2, k, none⟩ = some (.int .u32 (px : Int))) (by kernel_rfl) ?_ (fun hHeld => ?_)
     ·exact ⟨hw0, hw1, hpc3⟩
     refine wpAnyH_take (i := 0) (v := .agg #[.slice so (stepsM rs []).length sc, .int .u32 ((wholeM rs [] 0 : Nat) : Int)]) rfl (by kernel_rfl) (by kernel_rfl) (by kernel_rfl) (fun _ _ _ h => h) (Or.inl ⟨by kernel_rfl, fun w hw => by obtain ⟨s0, s1, s2⟩ := hw; go_simp⟩) hHeld ?_
     try simp only [Act.put, zA, zB, zC, zD, zE, zF]
     refine wpAnyH_take (i := 1) (v := .slice (some ⟨pb2, 0, none⟩) M.length lc2) rfl (by kernel_rfl) (by kernel_rfl) (by kernel_rfl) (fun _ _ _ h => h) (Or.inl ⟨by kernel_rfl, fun w hw => by obtain ⟨s0, s1, s2⟩ := hw; go_simp⟩) hHeld ?_
     try simp only [Act.put, zA, zB, zC, zD, zE, zF]
     refine wpAnyH_take (i := 2) (v := .int .i64 (k : Int)) rfl (by kernel_rfl) (by kernel_rfl) (by kernel_rfl) (fun _ _ _ h => h) (Or.inl ⟨by kernel_rfl, fun w hw => by obtain ⟨s0, s1, s2⟩ := hw; go_simp⟩) hHeld ?_
     try simp only [Act.put, zA, zB, zC, zD, zE, zF]
     refine wpAnyH_take (i := 3) (v := .pointer (some ⟨pb2, k, none⟩)) rfl (by kernel_rfl) (by kernel_rfl) (by kernel_rfl) (fun _ _ _ h => h) (Or.inl ⟨by kernel_rfl, fun w hw => by obtain ⟨s0, s1, s2⟩ := hw; go_simp⟩) hHeld ?_
     try simp only [Act.put, zA, zB, zC, zD, zE, zF]
     refine wpAnyH_take (i := 4) (v := .int .u32 (px : Int)) rfl (by kernel_rfl) (by kernel_rfl) (by kernel_rfl) (fun _ _ _ h => h) (Or.inl ⟨by kernel_rfl, fun w hw => by obtain ⟨s0, s1, s2⟩ := hw; go_simp⟩) hHeld ?_
     try simp only [Act.put, zA, zB, zC, zD, zE, zF]
     refine wpAnyH_take (i := 5) (v := .string ev) rfl (by kernel_rfl) (by kernel_rfl) (by kernel_rfl) (fun _ _ _ h => h) (Or.inl ⟨by kernel_rfl, fun w hw => by obtain ⟨s0, s1, s2⟩ := hw; go_simp⟩) hHeld ?_
     try simp only [Act.put, zA, zB, zC, zD, zE, zF]
     refine wpAnyH_ready (rs := [6]) (by kernel_rfl) (by simp) ?_
     refine AllReadyH.cons rfl (fun K hK => ?_) AllReadyH.nil
     go_simp
     refine (unhide HAHD).mono ?_
     rintro e w6' ⟨rfl, hb6⟩
     refine hK.out _ _ ⟨(bcell3 hb6 _ _ hwl1).trans hHeld.1, (bcell3 hb6 _ _ hwl1).trans hHeld.2.1, (bcell3 hb6 _ _ hpl2).trans hHeld.2.2⟩ (fun hHeld => ?_)
     clear hK K
     have hb6w : Below wr.heap.size wr w6' := ((Below.refl _ _).drew).trans hb6
     have HRB3 := hide ((unhide HRB2).later hb6w)
     have HGJ3 := hide ((hb6w.block _ (lt_of_blk (unhide HGJ))).trans (unhide HGJ))
     clear hb6 hb6w
     refine wpAnyH_take (i := 7) (v := .int .u32 (p2 : Int)) rfl (by kernel_rfl) (by kernel_rfl) (by kernel_rfl) (fun _ _ _ h => h) (Or.inl ⟨by kernel_rfl, fun w hw => by obtain ⟨s0, s1, s2⟩ := hw; go_simp⟩) hHeld ?_
     try simp only [Act.put, zA, zB, zC, zD, zE, zF]
     refine wpAnyH_done (by kernel_rfl) ?_ _
     clear hHeld hw0 hw1 hpc3 hac2 habl hpl2 hwl1 HAHD
     cases hf : fnd p2 M 0 with
     | some i =>
      obtain ⟨hhas, hatk⟩ := ((unhide HRB3).num.2 p2).1 i hf
      rw [numb_some hf] at HSUC
      have HHAS := hide hhas
      have HATK := hide hatk
      clear hhas hatk hf
      go_wp2_with (at_lookup; go_must (refine wpList_lookup_own_ok_int _ rfl _ _ 218 rfl 147 3 .i64 lawP Tryz.underlying218 Tryz.underlying3 (zeroI _) mb M.length D2 rfl (unhide HRB3).mp _ (klP p2) rfl (keyP hp2) ?_))
      intro c hat hwc
      rw [unhide HATK] at hat
      have hci : (i : Int) = c := by injection hat with hat; injection hat
      subst hci
      rw [unhide HHAS]
      clear hat hwc HATK HHAS
      have hgl := lt_of_blk (unhide HGJ3)
      have gf := frozen_of_blk (unhide HGJ3) j
      have hlen : (rowTo q al.length j).length = al.length := rowTo_len (by rw [unhide HQL]; exact Nat.le_refl _) hj
      obtain ⟨y0, hy0⟩ : ∃ y0, (rowTo q al.length j)[j]? = some y0 := ⟨_, List.getElem?_eq_getElem (by rw [hlen]; exact hjl)⟩
      have gc := (cell_of_blk (unhide HGJ3) j).trans (rowC_at hy0)
      have HRB4 := hide ((unhide HRB3).cell hHg hVg (unhide HGJ3) j (.int .i64 (i : Int)))
      have HGJ4 : Hid ((w6'.setCell ⟨g, j, none⟩ (.int .i64 (i : Int))).heap[g]? = some (.cells (rowC (rowTo (q ++ [i]) al.length (j + 1))) 3 (0, 0))) := by
       have := blk_set (unhide HGJ3) j (.int .i64 (i : Int))
       rw [rowC_set] at this
       show _ = _
       rw [rowTo_succ hjl (unhide HQL) rfl]
       exact this
      clear hy0 hlen
      go_wp2_with fail
      go_roundw
      case rel => exact ⟨j + 1, some ⟨pb2, 0, none⟩, lc2, M, D2, q ++ [i], by omega, by go_num, rfl, HRB4, HGJ4, HSUC⟩
      case measure => simp [intOf]; omega
     | none =>
      have hhas := ((unhide HRB3).num.2 p2).2 hf
      rw [numb_none hf] at HSUC
      have HHAS := hide hhas
      have HF := hide hf
      clear hhas hf
      go_wp2_with (at_lookup; go_must (refine wpList_lookup_own_ok_int _ rfl _ _ 218 rfl 147 3 .i64 lawP Tryz.underlying218 Tryz.underlying3 (zeroI _) mb M.length D2 rfl (unhide HRB3).mp _ (klP p2) rfl (keyP hp2) ?_))
      intro c hat hwc
      rw [unhide HHAS]
      clear hat hwc HHAS
      have hMi : (M.length : Int) ≤ 200000 := by omega
      go_wp2_with (at_mapUpdate; go_must (refine wpList_mapUpdate_own _ rfl _ _ _ 218 rfl 147 3 lawP Tryz.underlying218 _ mb M.length D2 rfl (unhide HRB3).mp ?m1 _ _ _ rfl rfl (keyP hp2) _ [] (plainElem_int Tryz.underlying3 ?m2) ?_))
      case m1 => unfold maxLen; omega
      case m2 => exact WalkArith.wf_i64 (by omega)
      intro w7 hm7 hg7
      have HM7 := hide hm7
      have HG7 := hide hg7
      obtain ⟨k1, k2, k3, k4, k5, k6⟩ := (unhide HRB3).mapped hg7
      have HPL7 := hide k2
      have hV7 : V.heap.size ≤ w7.heap.size := k6.size
      have hgj7 := (hg7.block _ (lt_of_blk (unhide HGJ3)) (fun e => map_ne (unhide HRB3).mp (unhide HGJ3) (Option.some.inj e))).trans (unhide HGJ3)
      have HGJ7 := hide hgj7
      clear hm7 hg7 k1 k2 k3 k4 k5 k6 hgj7
      go_wp2_with (at_builtin; go_must (refine wpList_append_lies _ rfl _ _ 217 rfl V.heap.size 147 i0 (.int .u32 0) 1 4 Tryz.underlying217 hi0 hz0 hz1 hz2 rfl (by decide) _ M.length (plC M) rfl ?c0 ⟨w7.heap.size, 0, none⟩ 1 1 [.int .u32 (p2 : Int)] rfl rfl ?c1 ?c2 (by decide) ?c3 ?c4 ?c5 (w7.heap.size + 1) ?c6 ?_))
      case c0 => exact (unhide HPL7).alloc _
      case c1 =>
       intro j u hj
       match j, hj with
       | 0, hj => simp at hj; subst hj; exact cell_of_blk (blk_alloc' _ _ _ (by simp)) 0
       | j + 1, hj => simp at hj
      case c2 => intro u hu; simp at hu; subst hu; rfl
      case c3 => unfold maxLen; omega
      case c4 => omega
      case c5 => simp; omega
      case c6 => simp
      intro g8 cap8 w8 ho8 hg8 _ _
      have hba : Below w7.heap.size w7 (w7.alloc (.cells #[.int .u32 (p2 : Int)] 147)) := (Below.refl _ _).alloc (Nat.le_refl _) _
      have HRB4 := hide ((unhide HRB3).place (unhide HF) (unhide HM7) (unhide HG7) hba ho8 hg8)
      have hgja := (hba.block _ (lt_of_blk (unhide HGJ7))).trans (unhide HGJ7)
      have hgj8 := (hg8.block _ (lt_of_blk hgja) (fun e => own_ty ((unhide HPL7).alloc _) e.symm hgja (by decide))).trans hgja
      have HGJ8 := hide hgj8
      clear ho8 hg8 hba hgja hgj8 HM7 HG7 HPL7 HGJ7
      have hgl := lt_of_blk (unhide HGJ8)
      have gf := frozen_of_blk (unhide HGJ8) j
      have hlen : (rowTo q al.length j).length = al.length := rowTo_len (by rw [unhide HQL]; exact Nat.le_refl _) hj
      obtain ⟨y0, hy0⟩ : ∃ y0, (rowTo q al.length j)[j]? = some y0 := ⟨_, List.getElem?_eq_getElem (by rw [hlen]; exact hjl)⟩
      have gc := (cell_of_blk (unhide HGJ8) j).trans (rowC_at hy0)
      have HRB5 := hide ((unhide HRB4).cell hHg hVg (unhide HGJ8) j (.int .i64 (M.length : Int)))
      have HGJ4 : Hid ((w8.setCell ⟨g, j, none⟩ (.int .i64 (M.length : Int))).heap[g]? = some (.cells (rowC (rowTo (q ++ [M.length]) al.length (j + 1))) 3 (0, 0))) := by
       have := blk_set (unhide HGJ8) j (.int .i64 (M.length : Int))
       rw [rowC_set] at this
       show _ = _
       rw [rowTo_succ hjl (unhide HQL) rfl]
       exact this
      have hlM : (M ++ [p2]).length = M.length + 1 := by simp
      clear hy0 hlen
      go_wp2_with fail
      go_roundw
      case rel => exact ⟨j + 1, some ⟨g8, 0, none⟩, cap8, M ++ [p2], _, q ++ [M.length], by omega, by go_num, by rw [hlM], HRB5, HGJ4, HSUC⟩
      case measure => simp [intOf]; omega
    ·have hjn : ¬ (j : Int) < (al.length : Int) := by omega
     have hje : j = al.length := by omega
     subst hje
     have hall : rowTo q al.length al.length = q := by unfold rowTo; rw [List.take_of_length_le (by rw [unhide HQL]; exact Nat.le_refl _)]; simp
     have hgq := unhide HGJ
     rw [hall] at hgq
     have HGQ := hide hgq
     have HBF2 : Hid (Bfs (ahP (stepsM rs []) al) (List.range al.length) p0 (k + 1) M (tw ++ [q])) := by
      have := (unhide HBF).step (unhide HX)
      rw [unhide HRN] at this
      exact this
     have hbb0 : wr.cell? ⟨bb, 0, none⟩ = some (.slice ho tw.length hc) := cell_of_blk (unhide HRB2).blk 0
     have hbbl := lt_of_blk (unhide HRB2).blk
     have htwk : tw.length ≤ 200000 := by have := unhide HTK; omega
     have hVr : V.heap.size ≤ wr.heap.size := (unhide HRB2).bel.size
     clear hall hgq hMx hMk
     go_wp2_with (at_builtin; go_must (refine wpList_append_lies _ rfl _ _ 34 rfl V.heap.size 33 r0 (.slice none 0 0) 1 24 Tryz.underlying34 hr0 hrz0 hrz1 hrz2 rfl (by decide) _ tw.length rv rfl ?d0 ⟨wr.heap.size, 0, none⟩ 1 1 [.slice (some ⟨g, 0, none⟩) al.length al.length] rfl rfl ?d1 ?d2 (by decide) ?d3 ?d4 ?d5 (wr.heap.size + 1) ?d6 ?_))
     case d0 => exact (unhide HRB2).ah.alloc _
     case d2 => first | rfl | (intro u hu; simp at hu; subst hu; rfl)
     case d3 => unfold maxLen; omega
     case d4 => omega
     case d5 => first | omega | (simp; omega)
     intro g9 cap9 w9 ho9 hg9 _ _
     have hba : Below wr.heap.size wr (wr.alloc (.cells #[.slice (some ⟨g, 0, none⟩) al.length al.length] 33)) := (Below.refl _ _).alloc (Nat.le_refl _) _
     have hbk9 := (hg9.block bb (lt_of_blk ((unhide HRB2).later hba).blk) (fun e => own_ty ((unhide HRB2).later hba).ah e.symm ((unhide HRB2).later hba).blk (by decide))).trans ((unhide HRB2).later hba).blk
     have HRB9 := hide ((unhide HRB2).row hVg (unhide HGQ) hba (by rw [unhide HQL]; exact ho9) hg9)
     have hc9 : w9.cell? ⟨bb, 0, none⟩ = some (.slice ho tw.length hc) := cell_of_blk hbk9 0
     have hf9 := frozen_of_blk hbk9 0
     have hl9 := lt_of_blk hbk9
     have hk1 : k < 131072 := by omega
     clear ho9 hg9 hba hbk9 hbb0 hbbl
     go_wp2_with fail
     go_roundw
     case rel => exact ⟨k + 1, lo, lc2, M, D2, some ⟨g9, 0, none⟩, cap9, _, tw ++ [q], _, by go_num, rfl, HRB9, HBF2⟩
     case measure => simp [intOf]; omega
  ·have hkn : ¬ (k : Int) < (l.length : Int) := by omega
   have hke : k = l.length := by omega
   subst hke
   have hw0 : wr.cell? ⟨w1.heap.size, 0, none⟩ = some (.slice so (stepsM rs []).length sc) := (bcell3 hbel _ _ hwV).trans (cell_of_blk (unhide HWV) 0)
   have hw1 : wr.cell? ⟨w1.heap.size, 1, none⟩ = some (.int .u32 ((wholeM rs [] 0 : Nat) : Int)) := (bcell3 hbel _ _ hwV).trans (cell_of_blk (unhide HWV) 1)
   have hwl1 : w1.heap.size < wr.heap.size := Nat.lt_of_lt_of_le hwV hbel.size
   have HPS : Hid (PlS wr lo l) := fun j x hx => by
    have hj := (List.getElem?_eq_some_iff.1 hx).1
    obtain ⟨b, h1, h2, h3⟩ := owns1_at (unhide HRB).pl hj
    exact ⟨b, 0, h1, h2, by rw [Nat.zero_add, h3]; unfold plC; rw [List.getElem?_map, hx]; rfl⟩
   have HKP := hide (keeping_any wr so (stepsM rs []).length sc (wholeM rs [] 0) l lo lc (unhide HPS) hwl (by omega) (unhide HF2))
   clear hmc hml hbel
   go_wp2_with fail
   refine (unhide HKP).mono ?_
   rintro e w8 ⟨rfl, hb8⟩
   have HRB8 := hide ((unhide HRB).later hb8)
   generalize hS8 : setS (l.map (keepP (wholeM rs [] 0))) = s8 at *
   have HS8 := hide hS8
   have hbk8 := (unhide HRB8).blk
   have hbr8 := ((unhide HRB8).bel.block _ (lt_of_blk (unhide HRV))).trans (unhide HRV)
   have bc := fun o => cell_of_blk hbk8 o
   have bf := fun o => frozen_of_blk hbk8 o
   have bl := lt_of_blk hbk8
   have rc := fun o => cell_of_blk hbr8 o
   have rf := fun o => frozen_of_blk hbr8 o
   have rl := lt_of_blk hbr8
   have HBK8 := hide hbk8
   have HBR8 := hide hbr8
   have hbne : bb ≠ w.heap.size + 1 := by have := (unhide HRB8).hbb; have := lt_of_blk (unhide HRV); omega
   have hbne2 : w.heap.size + 1 ≠ bb := fun e => hbne e.symm
   clear hS8 hb8 hbk8 hbr8 hw0 hw1 hwl1
   go_wp2_with fail
   have hkeep : ∀ k, k ≠ bb → k ≠ w.heap.size + 1 → (((w8.setCell ⟨bb, 1, none⟩ (.string s8)).setCell ⟨w.heap.size + 1, 0, none⟩ (.slice ho tw.length hc)).setCell ⟨w.heap.size + 1, 1, none⟩ (.string s8)).heap[k]? = w8.heap[k]? := fun k h1 h2 =>
    (Below.heap_setCell _ _ _ _ h2).trans ((Below.heap_setCell _ _ _ _ h2).trans (Below.heap_setCell _ _ _ _ h1))
   have hfin : (((w8.setCell ⟨bb, 1, none⟩ (.string s8)).setCell ⟨w.heap.size + 1, 0, none⟩ (.slice ho tw.length hc)).setCell ⟨w.heap.size + 1, 1, none⟩ (.string s8)).heap[w.heap.size + 1]? = some (.cells #[.slice ho tw.length hc, .string s8] 153 (0, 0)) :=
    blk_set (blk_set ((Below.heap_setCell _ _ _ _ hbne2).trans (unhide HBR8)) 0 _) 1 _
   have hbw : Below w.heap.size w (((w8.setCell ⟨bb, 1, none⟩ (.string s8)).setCell ⟨w.heap.size + 1, 0, none⟩ (.slice ho tw.length hc)).setCell ⟨w.heap.size + 1, 1, none⟩ (.string s8)) := by
    have hb0 : Below w.heap.size w w8 := (unhide HBV).trans ((unhide HRB8).bel.mono (unhide HBV).size)
    have hbbw : w.heap.size ≤ bb := Nat.le_trans (unhide HBV).size (unhide HRB8).hbb
    exact ((hb0.setCell (p := ⟨bb, 1, none⟩) hbbw _).setCell (p := ⟨w.heap.size + 1, 0, none⟩) (by show _ ≤ w.heap.size + 1; omega) _).setCell (p := ⟨w.heap.size + 1, 1, none⟩) (by show _ ≤ w.heap.size + 1; omega) _
   have hrws := (unhide HRB8).rws (W' := (((w8.setCell ⟨bb, 1, none⟩ (.string s8)).setCell ⟨w.heap.size + 1, 0, none⟩ (.slice ho tw.length hc)).setCell ⟨w.heap.size + 1, 1, none⟩ (.string s8))) (fun k c ty hk hty => hkeep k (fun e => by
     rw [e, unhide HBK8] at hk
     injection hk with hk
     injection hk with _ e2 _
     rcases hty with h | h <;> (rw [← e2] at h; revert h; decide)) (fun e => by
     rw [e, unhide HBR8] at hk
     injection hk with hk
     injection hk with _ e2 _
     rcases hty with h | h <;> (rw [← e2] at h; revert h; decide)))
   generalize (((w8.setCell ⟨bb, 1, none⟩ (.string s8)).setCell ⟨w.heap.size + 1, 0, none⟩ (.slice ho tw.length hc)).setCell ⟨w.heap.size + 1, 1, none⟩ (.string s8)) = wf at *
   have fcc := fun o => cell_of_blk hfin o
   refine bodyPost_ret (v := .agg #[.slice ho tw.length hc, .string s8]) (by simp [results, Tryz.results80, go_sem, fcc]) rfl ?_
   refine ⟨l, tw, ho, hc, by rw [unhide HS8], ?_, hrws, hbw, hfew1⟩
   rw [unhide HP0]
   exact unhide HBF
def setC (ms : List (List Bool)) : List Value := ms.map fun b => Value.string (setS b)
theorem setC_app (l r : List (List Bool)) : setC (l ++ r) = setC l ++ setC r := by unfold setC; rw [List.map_append]
structure StB (W : World) (base sb mb : Nat) (so : Option Addr) (sc : Nat) (ms : List (List Bool)) (D : DataW Unit) : Prop where
 blk : W.heap[sb]? = some (.cells #[.slice so ms.length sc, .map (some mb)] 158 (0, 0))
 own : W.ownsRow base 151 1 (.slice so ms.length sc) ms.length (setC ms)
 mp : W.ownsMap Tryz.prog 151 (plainElem Tryz.prog 3) mb ms.length D
 num : NumM klS D ms
 hsb : base ≤ sb
 hmb : base ≤ mb
theorem map_neS {W : World} {b n : Nat} {D : DataW Unit} (h : W.ownsMap Tryz.prog 151 (plainElem Tryz.prog 3) b n D) {c : Array Value} {ty : Nat} {m : Nat × Nat} {k : Nat} (hk : W.heap[k]? = some (.cells c ty m)) : k ≠ b := by
 rintro rfl
 obtain ⟨es, clock, h1, _⟩ := h
 rw [hk] at h1
 cases h1
structure FrS (base : Nat) (w w' : World) : Prop where
 os : w'.os = w.os
 tape : w'.tape = w.tape
 output : w'.output = w.output
 size : w.heap.size ≤ w'.heap.size
 ty : ∀ (k : Nat) (c : Array Value) (ty : Nat) (m : Nat × Nat), w.heap[k]? = some (.cells c ty m) → ty ≠ 158 → ty ≠ 151 → w'.heap[k]? = w.heap[k]?
 low : ∀ k, k < base → w'.heap[k]? = w.heap[k]?
theorem FrS.refl (base : Nat) (w : World) : FrS base w w := ⟨rfl, rfl, rfl, Nat.le_refl _, fun _ _ _ _ _ _ _ => rfl, fun _ _ => rfl⟩
theorem StB.later {W W' : World} {base sb mb : Nat} {so : Option Addr} {sc : Nat} {ms : List (List Bool)} {D : DataW Unit} (h : StB W base sb mb so sc ms D) (hb : Below W.heap.size W W') : StB W' base sb mb so sc ms D :=
 ⟨(hb.block _ (lt_of_blk h.blk)).trans h.blk, owns_later h.own hb, h.mp.kept (grown_below hb none) (by simp), h.num, h.hsb, h.hmb⟩
theorem StB.other {W W' : World} {base sb mb : Nat} {so : Option Addr} {sc : Nat} {ms : List (List Bool)} {D : DataW Unit} (h : StB W base sb mb so sc ms D) {row : Option Nat} (hg : W.grownBy W' row) (hne : ∀ b, row = some b → ∃ c ty m, W.heap[b]? = some (.cells c ty m) ∧ ty ≠ 158 ∧ ty ≠ 151) : StB W' base sb mb so sc ms D := by
 refine ⟨(hg.block _ (lt_of_blk h.blk) (fun e => ?_)).trans h.blk, owns_other h.own hg (fun b hb e => ?_), h.mp.kept hg (fun e => ?_), h.num, h.hsb, h.hmb⟩
 ·obtain ⟨c, ty, m, h1, h2, _⟩ := hne _ e.symm
  rw [h.blk] at h1
  injection h1 with h1
  injection h1 with _ e _
  exact h2 e.symm
 ·obtain ⟨c, ty, m, h1, _, h3⟩ := hne _ hb
  exact own_ty h.own e h1 h3
 ·obtain ⟨c, ty, m, h1, _, _⟩ := hne _ e.symm
  exact map_neS h.mp h1 rfl
theorem Tryz.infoSet : (Tryz.prog.info? 151).map (fun i => (i.zero, i.size, i.bytes)) = some (some (.string ⟨#[]⟩), 1, 16) := by kernel_rfl
theorem klS_key (b : List Bool) : WideAt.IsKeyLit (klS b) := trivial
def NbP (w : World) (base sb mb : Nat) (ms : List (List Bool)) (b : List Bool) (w' : World) (e : Ending) : Prop :=
 e = .returned (.int .i64 ((numb ms b).2 : Nat)) ∧ (∃ so' sc' D', StB w' base sb mb so' sc' (numb ms b).1 D') ∧ FrS base w w'
set_option maxHeartbeats 4000000 in
set_option maxRecDepth 100000 in
theorem snumber_any (w : World) (base sb mb : Nat) (so : Option Addr) (sc : Nat) (ms : List (List Bool)) (D : DataW Unit) (b : List Bool) (h : StB w base sb mb so sc ms D) (hb : b.length ≤ 1000000) (hm : ms.length ≤ 1000) (hbs : base ≤ w.heap.size) :
  Calls Tryz.prog 81 #[.pointer (some ⟨sb, 0, none⟩), .string (setS b)] w fun e w' => NbP w base sb mb ms b w' e := by
 obtain ⟨i0, hi0, hz0, hz1, hz2⟩ := info_parts Tryz.infoSet
 have HS := hide h
 have c0 : w.cell? ⟨sb, 0, none⟩ = some (.slice so ms.length sc) := cell_of_blk h.blk 0
 have c1 : w.cell? ⟨sb, 1, none⟩ = some (.map (some mb)) := cell_of_blk h.blk 1
 have hl := lt_of_blk h.blk
 have hk := keyS (b := b) hb
 generalize hsb : setS b = s at *
 have HSB := hide hsb
 clear h hsb
 cases hf : fnd b ms 0 with
 | some i =>
  obtain ⟨hhas, hatk⟩ := ((unhide HS).num.2 b).1 i hf
  have HNB := hide (numb_some hf)
  have HHAS := hide hhas
  have HATK := hide hatk
  clear hhas hatk hf
  go_enter Tryz.func81, Tryz.ntmps81
  go_wp2_with (at_lookup; go_must (refine wpList_lookup_own_ok_int _ rfl _ _ 155 rfl 151 3 .i64 lawS Tryz.underlying155 Tryz.underlying3 (zeroI _) mb ms.length D rfl (unhide HS).mp _ (klS b) rfl hk ?_))
  intro c hat hwc
  rw [unhide HATK] at hat
  have hci : (i : Int) = c := by injection hat with hat; injection hat
  subst hci
  rw [unhide HHAS]
  clear hat hwc HATK HHAS
  go_wp2_with fail
  go_ret
  refine ⟨by rw [unhide HNB]; rfl, ?_, FrS.refl _ _⟩
  rw [unhide HNB]
  exact ⟨_, _, _, unhide HS⟩
 | none =>
  have hhas := ((unhide HS).num.2 b).2 hf
  have HNB := hide (numb_none hf)
  have HHAS := hide hhas
  have HF := hide hf
  clear hhas hf
  go_enter Tryz.func81, Tryz.ntmps81
  go_wp2_with (at_lookup; go_must (refine wpList_lookup_own_ok_int _ rfl _ _ 155 rfl 151 3 .i64 lawS Tryz.underlying155 Tryz.underlying3 (zeroI _) mb ms.length D rfl (unhide HS).mp _ (klS b) rfl hk ?_))
  intro c hat hwc
  rw [unhide HHAS]
  clear hat hwc HHAS
  go_wp2_with (at_mapUpdate; go_must (refine wpList_mapUpdate_own _ rfl _ _ _ 155 rfl 151 3 lawS Tryz.underlying155 _ mb ms.length D rfl (unhide HS).mp ?m1 _ _ _ rfl rfl hk _ [] (plainElem_int Tryz.underlying3 ?m2) ?_))
  case m1 => unfold maxLen; omega
  case m2 => exact WalkArith.wf_i64 (by omega)
  intro w7 hm7 hg7
  have hblk7 := (hg7.block _ (lt_of_blk (unhide HS).blk) (fun e => map_neS (unhide HS).mp (unhide HS).blk (Option.some.inj e))).trans (unhide HS).blk
  have hown7 := owns_other (unhide HS).own hg7 (fun k hk e => by
   obtain ⟨c', hcc⟩ := own_at (unhide HS).own e
   exact map_neS (unhide HS).mp hcc (Option.some.inj hk).symm)
  have HM7 := hide hm7
  have HG7 := hide hg7
  have HBK7 := hide hblk7
  have HOW7 := hide hown7
  have d0 : w7.cell? ⟨sb, 0, none⟩ = some (.slice so ms.length sc) := cell_of_blk hblk7 0
  have hl7 := lt_of_blk hblk7
  have hs7 : base ≤ w7.heap.size := Nat.le_trans hbs hg7.size
  clear hm7 hg7 hblk7 hown7 c0 c1 hl
  go_wp2_with (at_builtin; go_must (refine wpList_append_lies _ rfl _ _ 156 rfl base 151 i0 (.string ⟨#[]⟩) 1 16 Tryz.underlying156 hi0 hz0 hz1 hz2 rfl (by decide) _ ms.length (setC ms) rfl ?c0 ⟨w7.heap.size, 0, none⟩ 1 1 [.string s] rfl rfl ?c1 ?c2 (by decide) ?c3 ?c4 ?c5 (w7.heap.size + 1) ?c6 ?_))
  case c0 => exact (unhide HOW7).alloc _
  case c1 =>
   intro j u hj
   match j, hj with
   | 0, hj => simp at hj; subst hj; exact cell_of_blk (blk_alloc' _ _ _ (by simp)) 0
   | j + 1, hj => simp at hj
  case c2 => intro u hu; simp at hu; subst hu; rfl
  case c3 => unfold maxLen; omega
  case c4 => omega
  case c5 => simp; omega
  case c6 => simp
  intro g8 cap8 w8 ho8 hg8 _ _
  have hba : Below w7.heap.size w7 (w7.alloc (.cells #[.string s] 151)) := (Below.refl _ _).alloc (Nat.le_refl _) _
  have hbka := (hba.block _ (lt_of_blk (unhide HBK7))).trans (unhide HBK7)
  have howa := owns_later (unhide HOW7) hba
  have hmpa := (unhide HM7).kept (grown_below hba none) (by simp)
  have hty : ∀ {c : Array Value} {ty k : Nat} {m : Nat × Nat}, (w7.alloc (.cells #[.string s] 151)).heap[k]? = some (.cells c ty m) → ty ≠ 151 → some k ≠ (Value.slice so ms.length sc).ownBlock := fun hk hne e => own_ty howa e.symm hk hne
  have hbk8 := (hg8.block _ (lt_of_blk hbka) (hty hbka (by decide))).trans hbka
  have hmp8 := hmpa.kept hg8 (fun e => by
   obtain ⟨c', hcc⟩ := own_at howa e.symm
   exact map_neS hmpa hcc rfl)
  have hs8 := grown_set w8 sb 0 (.slice (some ⟨g8, 0, none⟩) (ms.length + 1) cap8)
  have HFIN : Hid (StB (w8.setCell ⟨sb, 0, none⟩ (.slice (some ⟨g8, 0, none⟩) (ms.length + 1) cap8)) base sb mb (some ⟨g8, 0, none⟩) cap8 (ms ++ [b]) (D.put (klS b) (.lit (.int .i64 (ms.length : Nat))))) := by
   refine ⟨?_, ?_, ?_, (unhide HS).num.put klS_key klS_inj (unhide HF), (unhide HS).hsb, (unhide HS).hmb⟩
   ·have := blk_set hbk8 0 (.slice (some ⟨g8, 0, none⟩) (ms.length + 1) cap8)
    rw [List.length_append]
    exact this
   ·have e : setC (ms ++ [b]) = setC ms ++ [.string s] := by rw [setC_app, ← unhide HSB]; rfl
    rw [e, List.length_append]
    refine owns_other ho8 hs8 (fun k hk e => ?_)
    cases hk
    exact own_ty ho8 e hbk8 (by decide)
   ·rw [List.length_append]
    exact hmp8.kept hs8 (fun e => map_neS hmp8 hbk8 (Option.some.inj e).symm)
  have HFR : Hid (FrS base w (w8.setCell ⟨sb, 0, none⟩ (.slice (some ⟨g8, 0, none⟩) (ms.length + 1) cap8))) := by
   have hg7 := unhide HG7
   refine ⟨hg8.os.trans (hba.os.trans hg7.os), hg8.tape.trans (hba.tape.trans hg7.tape), hg8.output.trans (hba.output.trans hg7.output), ?_, fun k c ty m hk h1 h2 => ?_, fun k hk => ?_⟩
   ·have := hg7.size; have := hba.size; have := hg8.size; simp [World.setCell]; omega
   ·have e7 := hg7.block k (lt_of_blk hk) (fun e => map_neS (unhide HS).mp hk (Option.some.inj e))
    have ea := (hba.block k (lt_of_blk (e7.trans hk))).trans e7
    have e8 := (hg8.block k (lt_of_blk (ea.trans hk)) (hty (ea.trans hk) h2)).trans ea
    refine (Below.heap_setCell _ _ _ _ ?_).trans e8
    rintro rfl
    rw [(unhide HS).blk] at hk
    injection hk with hk
    injection hk with _ e _
    exact h1 e.symm
   ·have hks := (unhide HS).hsb
    have hkm := (unhide HS).hmb
    have hkw : k < w.heap.size := Nat.lt_of_lt_of_le hk hbs
    have e7 := hg7.block k hkw (fun e => by have := Option.some.inj e; omega)
    have ea := (hba.block k (Nat.lt_of_lt_of_le hkw hg7.size)).trans e7
    have e8 := (hg8.block k (Nat.lt_of_lt_of_le hkw (Nat.le_trans hg7.size hba.size)) (fun e => by have := (own_lt howa k e.symm).1; omega)).trans ea
    exact (Below.heap_setCell _ _ _ _ (by show k ≠ sb; omega)).trans e8
  have e0 : w8.cell? ⟨sb, 0, none⟩ = some (.slice so ms.length sc) := cell_of_blk hbk8 0
  have ef := frozen_of_blk hbk8 0
  have el := lt_of_blk hbk8
  clear ho8 hg8 hba hbka howa hmpa hty hbk8 hmp8 hs8
  go_wp2_with fail
  go_ret
  refine ⟨by rw [unhide HNB]; rfl, ?_, unhide HFR⟩
  rw [unhide HNB]
  exact ⟨_, _, _, unhide HFIN⟩
theorem owns_at {w w' : World} {base e size n : Nat} {v : Value} {xs : List Value} (h : w.ownsRow base e size v n xs) (hk : ∀ b c, v.ownBlock = some b → w.heap[b]? = some (.cells c e (0, 0)) → w'.heap[b]? = w.heap[b]?) : w'.ownsRow base e size v n xs := by
 refine ⟨h.1, ?_⟩
 rcases h.2 with h2 | ⟨g, cap, cur, hv, hg, hh, r⟩
 ·exact Or.inl h2
 ·exact Or.inr ⟨g, cap, cur, hv, hg, (hk g cur (by rw [hv]; rfl) hh).trans hh, r⟩
theorem TbW.keepTy {w w' : World} {base : Nat} {A F X : Value} {t : Tb} {rv : List Value} (h : TbW w base A F X t rv) (hk : ∀ (k : Nat) (c : Array Value) (ty : Nat), w.heap[k]? = some (.cells c ty (0, 0)) → ty = 9 ∨ ty = 3 ∨ ty = 33 → w'.heap[k]? = w.heap[k]?) : TbW w' base A F X t rv := by
 refine ⟨owns_at h.acts (fun b c _ hb => hk b c _ hb (Or.inl rfl)), owns_at h.fl (fun b c _ hb => hk b c _ hb (Or.inr (Or.inl rfl))), owns_at h.nx (fun b c _ hb => hk b c _ hb (Or.inr (Or.inr rfl))), fun j r hr => ?_, h.rf, h.rr⟩
 obtain ⟨g, c, h1, h2⟩ := h.rows j r hr
 exact ⟨g, c, h1, owns_at h2 (fun b c _ hb => hk b c _ hb (Or.inr (Or.inl rfl)))⟩
theorem TbW.cell {w : World} {base : Nat} {A F X : Value} {t : Tb} {rv : List Value} (h : TbW w base A F X t rv) {g : Nat} {c : Array Value} (hg : w.heap[g]? = some (.cells c 3 (0, 0))) (hF : F.ownBlock ≠ some g) (hV : ∀ v ∈ rv, v.ownBlock ≠ some g) (i : Nat) (v : Value) : TbW (w.setCell ⟨g, i, none⟩ v) base A F X t rv := by
 have key : ∀ b, b ≠ g → (w.setCell ⟨g, i, none⟩ v).heap[b]? = w.heap[b]? := fun b hb => Below.heap_setCell _ _ _ _ hb
 have hty : ∀ {b ty : Nat} {c' : Array Value}, w.heap[b]? = some (.cells c' ty (0, 0)) → ty ≠ 3 → b ≠ g := fun {b ty c'} hb hne e => by
  rw [e, hg] at hb
  injection hb with hb
  injection hb with _ e2 _
  exact hne e2.symm
 refine ⟨owns_at h.acts (fun b c _ hb => key b (hty hb (by decide))), owns_at h.fl (fun b c e hb => key b (fun e2 => hF (e2 ▸ e))), owns_at h.nx (fun b c _ hb => key b (hty hb (by decide))), fun j r hr => ?_, h.rf, h.rr⟩
 obtain ⟨g2, c2, h1, h2⟩ := h.rows j r hr
 exact ⟨g2, c2, h1, owns_at h2 (fun b c e hb => key b (fun e2 => hV _ (List.mem_of_getElem? h1) (e2 ▸ e)))⟩
theorem TbW.lt {w : World} {base : Nat} {A F X : Value} {t : Tb} {rv : List Value} (h : TbW w base A F X t rv) {g : Nat} (hg : w.heap.size ≤ g) : F.ownBlock ≠ some g ∧ ∀ v ∈ rv, v.ownBlock ≠ some g := by
 refine ⟨fun e => ?_, fun v hv e => ?_⟩
 ·have := (own_lt h.fl g e).2; omega
 ·obtain ⟨j, hj⟩ := List.mem_iff_getElem?.1 hv
  have hjl : j < t.nx.length := by have := (List.getElem?_eq_some_iff.1 hj).1; have := h.rl; omega
  obtain ⟨g2, c, h1, h2⟩ := h.rows j _ (List.getElem?_eq_getElem hjl)
  rw [hj] at h1
  cases h1
  have := (own_lt h2 g e).2
  omega
structure CT (V W : World) (sb mb tb : Nat) (so : Option Addr) (sc : Nat) (ms : List (List Bool)) (D : DataW Unit) (A F X : Value) (t : Tb) (rv : List Value) : Prop where
 st : StB W V.heap.size sb mb so sc ms D
 tbk : W.heap[tb]? = some (.cells #[A, F, X] 36 (0, 0))
 htb : V.heap.size ≤ tb
 tab : TbW W V.heap.size A F X t rv
 bel : Below V.heap.size V W
theorem CT.later {V W W' : World} {sb mb tb : Nat} {so : Option Addr} {sc : Nat} {ms : List (List Bool)} {D : DataW Unit} {A F X : Value} {t : Tb} {rv : List Value} (h : CT V W sb mb tb so sc ms D A F X t rv) (hb : Below W.heap.size W W') : CT V W' sb mb tb so sc ms D A F X t rv :=
 ⟨h.st.later hb, (hb.block _ (lt_of_blk h.tbk)).trans h.tbk, h.htb, h.tab.later hb, h.bel.trans (hb.mono h.bel.size)⟩
theorem CT.numbered {V W W' : World} {sb mb tb : Nat} {so so' : Option Addr} {sc sc' : Nat} {ms ms' : List (List Bool)} {D D' : DataW Unit} {A F X : Value} {t : Tb} {rv : List Value} (h : CT V W sb mb tb so sc ms D A F X t rv) (hs : StB W' V.heap.size sb mb so' sc' ms' D') (hf : FrS V.heap.size W W') : CT V W' sb mb tb so' sc' ms' D' A F X t rv :=
 ⟨hs, (hf.ty _ _ _ _ h.tbk (by decide) (by decide)).trans h.tbk, h.htb, h.tab.keepTy (fun k c ty hk hty => hf.ty k c ty _ hk (by rcases hty with rfl | rfl | rfl <;> decide) (by rcases hty with rfl | rfl | rfl <;> decide)),
  ⟨hf.os.trans h.bel.os, hf.tape.trans h.bel.tape, hf.output.trans h.bel.output, Nat.le_trans h.bel.size hf.size, fun k hk => (hf.low k hk).trans (h.bel.block k hk)⟩⟩
theorem CT.cell {V W : World} {sb mb tb : Nat} {so : Option Addr} {sc : Nat} {ms : List (List Bool)} {D : DataW Unit} {A F X : Value} {t : Tb} {rv : List Value} (h : CT V W sb mb tb so sc ms D A F X t rv) {g : Nat} {c : Array Value} (hg : W.heap[g]? = some (.cells c 3 (0, 0))) (hF : F.ownBlock ≠ some g) (hV : ∀ v ∈ rv, v.ownBlock ≠ some g) (hgV : V.heap.size ≤ g) (i : Nat) (v : Value) : CT V (W.setCell ⟨g, i, none⟩ v) sb mb tb so sc ms D A F X t rv := by
 refine ⟨h.st.other (grown_set W g i v) (fun b hb => by cases hb; exact ⟨c, _, _, hg, by decide, by decide⟩), (Below.heap_setCell _ _ _ _ (fun e => ?_)).trans h.tbk, h.htb, h.tab.cell hg hF hV i v, h.bel.grown (grown_set W g i v) h.bel.size (fun b hb => by cases hb; exact hgV)⟩
 have e' : tb = g := e
 have := h.tbk
 rw [e', hg] at this
 injection this with this
 injection this with _ e2 _
 revert e2
 decide
theorem CT.grow {V W W' : World} {sb mb tb : Nat} {so : Option Addr} {sc : Nat} {ms : List (List Bool)} {D : DataW Unit} {A F X A' F' X' Y : Value} {t t' : Tb} {rv rv' : List Value} (h : CT V W sb mb tb so sc ms D A F X t rv) {e n : Nat} {xs : List Value} (hY : W.ownsRow V.heap.size e 1 Y n xs) (hg : W.grownBy W' Y.ownBlock) (he : e = 9 ∨ e = 3 ∨ e = 33)
  (ht : TbW W' V.heap.size A' F' X' t' rv') (i : Nat) (v : Value) (hc : (#[A, F, X] : Array Value).setIfInBounds i v = #[A', F', X']) : CT V (W'.setCell ⟨tb, i, none⟩ v) sb mb tb so sc ms D A' F' X' t' rv' := by
 have hst := h.st.other hg (fun b hb => by
  obtain ⟨c, hcc⟩ := own_at hY hb
  exact ⟨c, e, _, hcc, by rcases he with rfl | rfl | rfl <;> decide, by rcases he with rfl | rfl | rfl <;> decide⟩)
 have hblk := (hg.block _ (lt_of_blk h.tbk) (fun e1 => own_ty hY e1.symm h.tbk (by rcases he with rfl | rfl | rfl <;> decide))).trans h.tbk
 have hbel := h.bel.grown hg h.bel.size (fun b hb => (own_lt hY b hb).1)
 refine ⟨hst.other (grown_set _ _ _ _) (fun b hb => by cases hb; exact ⟨_, _, _, hblk, by decide, by decide⟩), ?_, h.htb, ht.other (grown_set _ _ _ _) (fun b hb c m => ?_), hbel.grown (grown_set _ _ _ _) hbel.size (fun b hb => by cases hb; exact h.htb)⟩
 ·have := blk_set hblk i v
  rw [hc] at this
  exact this
 ·cases hb
  rw [hblk]
  refine ⟨?_, ?_, ?_⟩ <;> (intro e; injection e with e; injection e with _ e _; revert e; decide)
theorem Tryz.infoIntT : (Tryz.prog.info? 3).map (fun i => (i.zero, i.size, i.bytes)) = some (some (.int .i64 0), 1, 8) := by kernel_rfl
theorem sets_len {tw : List (List Nat)} {acts : List Nat} {s0 : List Bool} {k : Nat} {ms : List (List Bool)} {rows : List (List Nat)} (h : Bfs (setB tw) acts s0 k ms rows) (h0 : s0.length = tw.length) : ∀ b ∈ ms, b.length = tw.length := fun b hb => by
 obtain ⟨j, hj⟩ := List.mem_iff_getElem?.1 hb
 cases j with
 | zero =>
  rw [h.first] at hj
  cases hj
  exact h0
 | succ j =>
  obtain ⟨_, _, _, _, _, a, _, e⟩ := h.met j b hj
  rw [e]
  unfold setB
  rw [List.length_map]
theorem tw_ok {π : Type} [DecidableEq π] {ah : π → Nat → π} {n : Nat} {p0 : π} {l : List π} {tw : List (List Nat)} (h : Bfs ah (List.range n) p0 l.length l tw) : ∀ r ∈ tw, r.length = n ∧ ∀ x ∈ r, x < tw.length := fun r hr => by
 obtain ⟨i, hi⟩ := List.mem_iff_getElem?.1 hr
 have htl : tw.length = l.length := h.len
 have hil : i < l.length := by have := (List.getElem?_eq_some_iff.1 hi).1; omega
 obtain ⟨r', r1, r2, r3⟩ := h.row i l[i] hil (List.getElem?_eq_getElem hil)
 rw [hi] at r1
 cases r1
 rw [List.length_range] at r2
 refine ⟨r2, fun x hx => ?_⟩
 obtain ⟨q, hq⟩ := List.mem_iff_getElem?.1 hx
 have hql : q < n := by have := (List.getElem?_eq_some_iff.1 hq).1; omega
 obtain ⟨m, m1, m2⟩ := r3 q q (List.getElem?_range hql)
 rw [hq] at m1
 cases m1
 have := (List.getElem?_eq_some_iff.1 m2).1
 omega
set_option maxHeartbeats 8000000 in
set_option maxRecDepth 100000 in
theorem Table_any (w : World) (al : List Tk) (rs : List Rl) (hM : MGood al rs) (a1 : Option Addr) (a3 : Nat) (m1 : Option Addr) (m2 m3 : Nat) (cells : List Value) (ha : w.ownsRow 0 9 1 (.slice a1 al.length a3) al.length (strC al)) (hr : w.ownsRow 0 144 3 (.slice m1 m2 m3) rs.length cells) (hp : BuP w rs cells) (h6 : al.length ≤ 6) :
  Calls Tryz.prog 43 #[.agg #[.slice a1 al.length a3, .slice m1 m2 m3]] w fun e w' => ∃ o, CompP al rs o ∧ DecP okB w o w' e := by
 have hB : Below w.heap.size w ((w.alloc (.cells #[.slice a1 al.length a3, .slice m1 m2 m3] 78)).alloc (.cells #[.slice none 0 0, .slice none 0 0, .slice none 0 0] 36)) := ((Below.refl _ _).alloc (Nat.le_refl _) _).alloc (by simp) _
 have HRBK := hide (readBackward_any _ al rs hM a1 a3 m1 m2 m3 cells (owns_later ha hB) (owns_later hr hB) (hp.keep (KB.below hB)) h6)
 have HA0 := hide (owns_later ha hB)
 have HMB : Hid (((w.alloc (.cells #[.slice a1 al.length a3, .slice m1 m2 m3] 78)).alloc (.cells #[.slice none 0 0, .slice none 0 0, .slice none 0 0] 36)).heap[w.heap.size]? = some (.cells #[.slice a1 al.length a3, .slice m1 m2 m3] 78 (0, 0))) := (Below.heap_alloc _ _ _ (by simp)).trans (blk_alloc _ _)
 have HRS : Hid (((w.alloc (.cells #[.slice a1 al.length a3, .slice m1 m2 m3] 78)).alloc (.cells #[.slice none 0 0, .slice none 0 0, .slice none 0 0] 36)).heap[w.heap.size + 1]? = some (.cells #[.slice none 0 0, .slice none 0 0, .slice none 0 0] 36 (0, 0))) := blk_alloc' _ _ _ (by simp)
 have HB := hide hB
 have HM := hide hM
 have hmm := @run_makeMap Tryz.prog
 have hne : 1 ≤ al.length := by
  cases hc : al with
  | nil => exact absurd hc hM.ne
  | cons _ _ => simp
 clear ha hr hp hB hM
 go_enter Tryz.func43, Tryz.ntmps43
 go_wp2_with fail
 refine (unhide HRBK).mono ?_
 generalize ((w.alloc (.cells #[.slice a1 al.length a3, .slice m1 m2 m3] 78)).alloc (.cells #[.slice none 0 0, .slice none 0 0, .slice none 0 0] 36)) = W0 at *
 rintro e w1 ⟨l, tw, ro, rc, rfl, hbfs, hrws, hb1, hlf⟩
 have hbv : Below w1.heap.size w1 (w1.alloc (.cells #[.slice ro tw.length rc, .string (setS (l.map (keepP (wholeM rs [] 0))))] 153)) := (Below.refl _ _).alloc (Nat.le_refl _) _
 have HBV := hide ((unhide HB).trans ((hb1.trans (hbv.mono hb1.size)).mono (unhide HB).size))
 have HAV := hide (owns_later (owns_later (unhide HA0) hb1) hbv)
 have HMV := hide ((hbv.block _ (Nat.lt_of_lt_of_le (lt_of_blk (unhide HMB)) hb1.size)).trans ((hb1.block _ (lt_of_blk (unhide HMB))).trans (unhide HMB)))
 have HRV := hide ((hbv.block _ (Nat.lt_of_lt_of_le (lt_of_blk (unhide HRS)) hb1.size)).trans ((hb1.block _ (lt_of_blk (unhide HRS))).trans (unhide HRS)))
 have HBB := hide (blk_alloc w1 (.cells #[.slice ro tw.length rc, .string (setS (l.map (keepP (wholeM rs [] 0))))] 153))
 have HRW := hide (hrws.later hbv)
 have HBFS := hide hbfs
 have htl : tw.length ≤ 131072 := by have : tw.length = l.length := hbfs.len; omega
 have hs0l : (l.map (keepP (wholeM rs [] 0))).length = tw.length := by rw [List.length_map]; exact hbfs.len.symm
 have HS0 := hide hs0l
 have HTW := hide (tw_ok hbfs)
 clear hbfs hrws hb1 hbv hs0l HRBK HA0 HMB HRS HB
 go_wp2_with fail
 generalize hV : w1.alloc (.cells #[.slice ro tw.length rc, .string (setS (l.map (keepP (wholeM rs [] 0))))] 153) = V at *
 have hVs : V.heap.size = w1.heap.size + 1 := by rw [← hV]; simp
 have HST0 : Hid (StB ((V.alloc (.map #[] 0)).alloc (.cells #[.slice none 0 0, .map (some (w1.heap.size + 1))] 158)) V.heap.size (w1.heap.size + 2) (w1.heap.size + 1) none 0 [] (.map [])) := by
  have hmade := World.ownsMap_made (H := Unit) V Tryz.prog 151 (plainElem Tryz.prog 3)
  rw [hVs] at hmade
  exact ⟨blk_alloc' _ _ _ (by simp [hVs]), World.ownsRow_nil _ _ _ _, hmade.kept (World.grownBy_alloc _ _ none) (by simp), NumM.nil klS, by omega, by omega⟩
 have hbz : Below V.heap.size V ((V.alloc (.map #[] 0)).alloc (.cells #[.slice none 0 0, .map (some (w1.heap.size + 1))] 158)) := ((Below.refl _ _).alloc (Nat.le_refl _) _).alloc (by simp) _
 have HVS := hide hVs
 have hs0m : (l.map (keepP (wholeM rs [] 0))).length ≤ 1000000 := by rw [unhide HS0]; omega
 refine (snumber_any _ V.heap.size _ _ none 0 [] (.map []) (l.map (keepP (wholeM rs [] 0))) (unhide HST0) hs0m (by simp) hbz.size).mono ?_
 rintro e w3 ⟨rfl, ⟨so, sc, D, hst⟩, hfr⟩
 have hb3 : Below V.heap.size V w3 := ⟨hfr.os.trans hbz.os, hfr.tape.trans hbz.tape, hfr.output.trans hbz.output, Nat.le_trans hbz.size hfr.size, fun k hk => (hfr.low k hk).trans (hbz.block k hk)⟩
 have hst' : StB w3 V.heap.size (w1.heap.size + 2) (w1.heap.size + 1) so sc [l.map (keepP (wholeM rs [] 0))] D := hst
 have HST := hide hst'
 have HB3 := hide hb3
 have hmb3 := (hb3.block _ (lt_of_blk (unhide HMV))).trans (unhide HMV)
 have mc := fun o => cell_of_blk hmb3 o
 have ml := lt_of_blk hmb3
 have HNAM := hide (unhide HAV)
 obtain ⟨ab, ha1, habl, _⟩ := owns1_at (owns_later (unhide HAV) hb3) (show 0 < al.length by omega)
 have HCL := hide (Tryz.slices_Clone_string ab 0 al.length a3 (al.map (·.s)) w3 (by simp) (by omega) (fun j hj => by
  have hj' : j < al.length := by simpa using hj
  obtain ⟨b', h1, _, h3⟩ := owns1_at (owns_later (unhide HAV) hb3) hj'
  rw [ha1] at h1
  cases h1
  rw [Nat.zero_add, h3, strC_nm hj']
  unfold nmA
  rw [List.getD_eq_getElem?_getD, List.getElem?_map, List.getElem?_eq_getElem hj']
  rfl))
 subst ha1
 clear hst hst' hfr hb3 hmb3 hbz HST0 hs0m hV habl hVs
 go_wp2_with fail
 refine (unhide HCL).mono ?_
 rintro e w4 ⟨va, rfl, hva, _, hb4⟩
 obtain ⟨va1, va3, rfl⟩ := owns_val hva
 have hnt : (al.map (·.s)).take al.length = al.map (·.s) := by rw [List.take_of_length_le (by simp)]
 rw [hnt] at hva
 have hnl : (al.map (·.s)).length = al.length := by simp
 have hba : Below w4.heap.size w4 (w4.alloc (.cells #[.slice va1 al.length va3, .slice none 0 0, .slice none 0 0] 36)) := (Below.refl _ _).alloc (Nat.le_refl _) _
 have HCT0 : Hid (CT V (w4.alloc (.cells #[.slice va1 al.length va3, .slice none 0 0, .slice none 0 0] 36)) (w1.heap.size + 2) (w1.heap.size + 1) w4.heap.size so sc [l.map (keepP (wholeM rs [] 0))] D (.slice va1 al.length va3) (.slice none 0 0) (.slice none 0 0) ⟨al.map (·.s), [], []⟩ []) := by
  have hb34 := (unhide HB3).trans (hb4.mono (unhide HB3).size)
  refine ⟨((unhide HST).later hb4).later hba, blk_alloc _ _, hb34.size, ⟨?_, World.ownsRow_nil _ _ _ _, World.ownsRow_nil _ _ _ _, fun j r hr => by simp at hr, fun v hv => by simp at hv, List.Pairwise.nil⟩, hb34.trans (hba.mono hb34.size)⟩
  have := owns_mono (owns_later hva hba) (unhide HB3).size
  show World.ownsRow _ _ _ _ _ (al.map (·.s)).length _
  rw [hnl]
  exact this
 clear hva hb4 hba hnt HCL HST HB3 mc ml
 go_wp2_with fail
 generalize w4.alloc (.cells #[.slice va1 al.length va3, .slice none 0 0, .slice none 0 0] 36) = w5 at *
 generalize w4.heap.size = tb at *
 have hsb : V.heap.size ≤ w1.heap.size + 2 := by have := unhide HVS; omega
 have hbV : w1.heap.size < V.heap.size := by have := unhide HVS; omega
 generalize hsbe : w1.heap.size + 2 = sb at *
 generalize hmbe : w1.heap.size + 1 = mb at *
 generalize hs0e : l.map (keepP (wholeM rs [] 0)) = s0 at *
 generalize hname : al.map (·.s) = names at *
 have HS0E := hide hs0e
 have HNAME := hide hname
 clear hsbe hmbe hs0e hname
 have hmk := fun W : World => mkInts W al.length (by omega)
 obtain ⟨i0, hi0, hz0, hz1, hz2⟩ := info_parts Tryz.infoIntT
 obtain ⟨r0, hr0, hrz0, hrz1, hrz2⟩ := info_parts Tryz.infoRowP
 go_loopw [7] (fun x wr => ∃ (k : Nat) (so : Option Addr) (sc : Nat) (ms : List (List Bool)) (D : DataW Unit) (fo : Option Addr) (fc : Nat) (xo : Option Addr) (xc : Nat) (rows : List (List Nat)) (rv : List Value), x = .int .i64 k ∧ Hid (CT V wr sb mb tb so sc ms D (.slice va1 al.length va3) (.slice fo k fc) (.slice xo k xc) ⟨names, (ms.take k).map flB, rows⟩ rv) ∧ Hid (Bfs (setB tw) (List.range al.length) s0 k ms rows) ∧ ms.length ≤ 100 ∧ Hid (bfs (setB tw) (List.range al.length) 100 102 0 [s0] [] = bfs (setB tw) (List.range al.length) 100 (102 - k) k ms rows)) (fun x _ => 101 - (intOf x).toNat)
 case atStart => exact ⟨0, so, sc, [s0], D, none, 0, none, 0, [], [], rfl, HCT0, Bfs.start _ _ _, by simp, rfl⟩
 case round =>
  obtain ⟨k, so, sc, ms, D, fo, fc, xo, xc, rows, rv, rfl, HCT, HBQ, hms, HEQ⟩ := hrel
  have hkm := (unhide HBQ).le
  have hrk : rows.length = k := (unhide HBQ).len
  have HRK := hide hrk
  have hbel := (unhide HCT).bel
  have hmc : wr.cell? ⟨w.heap.size, 0, none⟩ = some (.slice (some ⟨ab, 0, none⟩) al.length a3) := (bcell3 hbel _ _ (lt_of_blk (unhide HMV))).trans (cell_of_blk (unhide HMV) 0)
  have hml : w.heap.size < wr.heap.size := Nat.lt_of_lt_of_le (lt_of_blk (unhide HMV)) hbel.size
  have hs0c : wr.cell? ⟨sb, 0, none⟩ = some (.slice so ms.length sc) := cell_of_blk (unhide HCT).st.blk 0
  have hsbl := lt_of_blk (unhide HCT).st.blk
  clear hrk
  by_cases hlt : k < ms.length
  ·have hkn : (k : Int) < (ms.length : Int) := by omega
   obtain ⟨pb, hlo, hpbl, hpc⟩ := owns1_at (unhide HCT).st.own hlt
   have hpc2 : wr.cell? ⟨pb, k, none⟩ = some (.string (setS ms[k])) := hpc.trans (by unfold setC; rw [List.getElem?_map, List.getElem?_eq_getElem hlt]; rfl)
   have HX := hide (List.getElem?_eq_getElem hlt)
   have hbsl : ms[k].length = tw.length := sets_len (unhide HBQ) (unhide HS0) _ (List.getElem_mem hlt)
   have HBSL := hide hbsl
   subst hlo
   generalize ms[k] = bs at *
   have hg0 : (wr.alloc (.cells (Array.replicate al.length (.int .i64 0)) 3)).heap[wr.heap.size]? = some (.cells (rowC (rowTo [] al.length 0)) 3 (0, 0)) := by
    have e : rowTo [] al.length 0 = List.replicate al.length 0 := by unfold rowTo; simp
    rw [e, rowC_zero]
    exact blk_alloc _ _
   have HCT1 := hide ((unhide HCT).later ((Below.refl _ _).alloc (Nat.le_refl _) (.cells (Array.replicate al.length (.int .i64 0)) 3)))
   have hVg : V.heap.size ≤ wr.heap.size := (unhide HCT).bel.size
   obtain ⟨hFg, hRg⟩ := (unhide HCT).tab.lt (Nat.le_refl wr.heap.size)
   have HFG := hide hFg
   have HRG := hide hRg
   have HG0 := hide hg0
   clear hg0 hbel hpc hFg hRg hbsl
   go_wp2_with fail
   clear hmc hml hs0c hsbl hpc2 hpbl
   generalize wr.alloc (.cells (Array.replicate al.length (.int .i64 0)) 3) = wA at *
   generalize wr.heap.size = g at *
   rename World => wR
   go_loopw [40] (fun x wq => ∃ (j : Nat) (so : Option Addr) (sc : Nat) (M : List (List Bool)) (D : DataW Unit) (q : List Nat), j ≤ al.length ∧ x = .int .i64 j ∧ Hid (CT V wq sb mb tb so sc M D (.slice va1 al.length va3) (.slice fo k fc) (.slice xo k xc) ⟨names, (ms.take k).map flB, rows⟩ rv) ∧ Hid (wq.heap[g]? = some (.cells (rowC (rowTo q al.length j)) 3 (0, 0))) ∧ Hid (rowN (setB tw) bs (List.range j) ms = (M, q))) (fun x _ => al.length - (intOf x).toNat)
   case atStart => exact ⟨0, _, _, ms, D, [], Nat.zero_le _, rfl, HCT1, HG0, rfl⟩
   case round =>
    obtain ⟨j, so2, sc2, M, D2, q, hj, rfl, HCT2, HGJ, HRN⟩ := hrel
    have hspec := rowN_spec (setB tw) bs (List.range j) ms
    rw [unhide HRN] at hspec
    obtain ⟨⟨xs, hMx, _⟩, hql, _, _⟩ := hspec
    have hMle : M.length ≤ ms.length + j := by
     have := rowN_le (setB tw) bs (List.range j) ms
     rw [unhide HRN, List.length_range] at this
     exact this
    have hql' : q.length = j := by simpa using hql
    have HQL := hide hql'
    have HMX := hide hMx
    clear hql hql' hMx
    by_cases hjl : j < al.length
    ·have hjn : (j : Int) < (al.length : Int) := by omega
     have hbel := (unhide HCT2).bel
     have hb0 : wr.cell? ⟨w1.heap.size, 0, none⟩ = some (.slice ro tw.length rc) := (bcell3 hbel _ _ hbV).trans (cell_of_blk (unhide HBB) 0)
     have hb1 : wr.cell? ⟨w1.heap.size, 1, none⟩ = some (.string (setS s0)) := (bcell3 hbel _ _ hbV).trans (cell_of_blk (unhide HBB) 1)
     have hbl : w1.heap.size < wr.heap.size := Nat.lt_of_lt_of_le hbV hbel.size
     have HBHD := hide (behind_any wr ro rc tw (setS s0) bs j ((unhide HRW).later hbel) (by omega) (fun r hr => ⟨by rw [(unhide HTW r hr).1]; exact hjl, fun x hx => by rw [unhide HBSL]; exact (unhide HTW r hr).2 x hx⟩))
     have HSUC : Hid (rowN (setB tw) bs (List.range (j + 1)) ms = ((numb M (setB tw bs j)).1, q ++ [(numb M (setB tw bs j)).2])) := by
      show _ = _
      rw [List.range_succ, rowN_append, unhide HRN]
     have hsbl2 : (setB tw bs j).length ≤ 1000000 := by unfold setB; rw [List.length_map]; omega
     clear hbel
     generalize setB tw bs j = b2 at *
     go_wp2_with fail
     refine (unhide HBHD).mono ?_
     rintro e w6 ⟨rfl, hb6⟩
     have HCT3 := hide ((unhide HCT2).later hb6)
     have HGJ3 := hide ((hb6.block _ (lt_of_blk (unhide HGJ))).trans (unhide HGJ))
     clear hb6 hb0 hb1 hbl HBHD
     go_wp2_with fail
     refine (snumber_any w6 V.heap.size sb mb so2 sc2 M D2 b2 (unhide HCT3).st hsbl2 (by omega) (unhide HCT3).bel.size).mono ?_
     rintro e w7 ⟨rfl, ⟨so4, sc4, D4, hst4⟩, hfr4⟩
     have HCT4 := hide ((unhide HCT3).numbered hst4 hfr4)
     have hgj4 := (hfr4.ty _ _ _ _ (unhide HGJ3) (by decide) (by decide)).trans (unhide HGJ3)
     generalize (numb M b2).2 = i at *
     generalize (numb M b2).1 = M4 at *
     have hgl := lt_of_blk hgj4
     have gf := frozen_of_blk hgj4 j
     have hlen : (rowTo q al.length j).length = al.length := rowTo_len (by rw [unhide HQL]; exact Nat.le_refl _) hj
     obtain ⟨y0, hy0⟩ : ∃ y0, (rowTo q al.length j)[j]? = some y0 := ⟨_, List.getElem?_eq_getElem (by rw [hlen]; exact hjl)⟩
     have gc := (cell_of_blk hgj4 j).trans (rowC_at hy0)
     have HCT5 := hide ((unhide HCT4).cell hgj4 (unhide HFG) (unhide HRG) hVg j (.int .i64 (i : Int)))
     have HGJ5 : Hid ((w7.setCell ⟨g, j, none⟩ (.int .i64 (i : Int))).heap[g]? = some (.cells (rowC (rowTo (q ++ [i]) al.length (j + 1))) 3 (0, 0))) := by
      have := blk_set hgj4 j (.int .i64 (i : Int))
      rw [rowC_set] at this
      show _ = _
      rw [rowTo_succ hjl (unhide HQL) rfl]
      exact this
     clear hy0 hlen hgj4 hst4 hfr4
     go_wp2_with fail
     go_roundw
     case rel => exact ⟨j + 1, so4, sc4, M4, D4, q ++ [i], by omega, by go_num, HCT5, HGJ5, HSUC⟩
     case measure => simp [intOf]; omega
    ·have hjn : ¬ (j : Int) < (al.length : Int) := by omega
     have hje : j = al.length := by omega
     subst hje
     have hall : rowTo q al.length al.length = q := by unfold rowTo; rw [List.take_of_length_le (by rw [unhide HQL]; exact Nat.le_refl _)]; simp
     have hgq := unhide HGJ
     rw [hall] at hgq
     have HGQ := hide hgq
     have hbel := (unhide HCT2).bel
     have hs0c : wr.cell? ⟨sb, 0, none⟩ = some (.slice so2 M.length sc2) := cell_of_blk (unhide HCT2).st.blk 0
     have hsbl := lt_of_blk (unhide HCT2).st.blk
     have hres := (hbel.block _ (lt_of_blk (unhide HRV))).trans (unhide HRV)
     obtain ⟨n2, hn2⟩ : ∃ n2, 102 - k = n2 + 1 := ⟨101 - k, by omega⟩
     clear hall hgq
     by_cases hbig : 100 < M.length
     ·have hbi : (100 : Int) < (M.length : Int) := by omega
      have HNONE : Hid (bfs (setB tw) (List.range al.length) 100 102 0 [s0] [] = none) := by
       show _ = _
       rw [unhide HEQ, hn2]
       exact bfs_many (unhide HX) (by rw [unhide HRN]; exact hbig)
      have HRES := hide hres
      have HBEL := hide hbel
      have rc' := fun o => cell_of_blk hres o
      have rf' := fun o => frozen_of_blk hres o
      have rl' := lt_of_blk hres
      clear hbel hres hn2
      go_wp2_with fail
      change bodyPost _ _ _ _ _ (setT wr (w.heap.size + 1) (.slice none 0 0) (.slice none 0 0) (.slice none 0 0))
      have hfin := setT_blk (unhide HRES) (.slice none 0 0) (.slice none 0 0) (.slice none 0 0)
      have hbf := setT_below ((unhide HBV).trans ((unhide HBEL).mono (unhide HBV).size)) (show w.heap.size ≤ w.heap.size + 1 by omega) (.slice none 0 0) (.slice none 0 0) (.slice none 0 0)
      generalize setT wr (w.heap.size + 1) (.slice none 0 0) (.slice none 0 0) (.slice none 0 0) = wf at *
      have fcc := fun o => cell_of_blk hfin o
      refine bodyPost_ret (v := .tuple #[.agg #[.slice none 0 0, .slice none 0 0, .slice none 0 0], .bool false]) (by simp [results, Tryz.results43, go_sem, fcc]) rfl ?_
      refine ⟨none, ⟨l, tw, ?_, ?_⟩, hbf, rfl⟩
      ·rw [List.length_map]; exact unhide HBFS
      ·rw [List.length_map, unhide HS0E, unhide HNONE]; rfl
     ·have hbi : ¬ (100 : Int) < (M.length : Int) := by omega
      have HEQ2 : Hid (bfs (setB tw) (List.range al.length) 100 102 0 [s0] [] = bfs (setB tw) (List.range al.length) 100 (102 - (k + 1)) (k + 1) M (rows ++ [q])) := by
       show _ = _
       rw [unhide HEQ, hn2, bfs_next (unhide HX) (by rw [unhide HRN]; exact hbig), unhide HRN, show 102 - (k + 1) = n2 by omega]
      have HBQ2 : Hid (Bfs (setB tw) (List.range al.length) s0 (k + 1) M (rows ++ [q])) := by
       have := (unhide HBQ).step (unhide HX)
       rw [unhide HRN] at this
       exact this
      have hMk : (M.take (k + 1)).map flB = (ms.take k).map flB ++ [flB bs] := by
       rw [show M = ms ++ xs from unhide HMX, List.take_append_of_le_length (by omega), List.take_add_one, unhide HX, List.map_append]
       rfl
      have HMK := hide hMk
      have hbsne : bs ≠ [] := fun e => by
       have h1 := unhide HBSL
       have h2 := (List.getElem?_eq_some_iff.1 (unhide HBFS).first).1
       have h3 : tw.length = l.length := (unhide HBFS).len
       rw [e] at h1
       simp at h1
       omega
      have HFL := hide (fun W => flags_any bs hbsne W)
      have hfl3 : flB bs ≤ 3 := flB_le bs
      clear hbel hres hn2 hMk hbsne
      go_wp2_with fail
      clear hs0c hsbl
      refine wp_region_any (by kernel_rfl) ?_
      change wpAny _ _ _ _ _ _ _ (World.drew _)
      refine wpAny_take (i := 0) (v := .pointer (some ⟨tb, 1, none⟩)) rfl (by kernel_rfl) (by kernel_rfl) (by kernel_rfl) (fun _ _ _ h => h) (Or.inl ⟨by kernel_rfl, fun w => by go_simp⟩) ?_
      try simp only [Act.put, zA, zB, zC, zD, zE, zF]
      refine wpAny_take (i := 2) (v := .string (setS bs)) rfl (by kernel_rfl) (by kernel_rfl) (by kernel_rfl) (fun _ _ _ h => h) (Or.inl ⟨by kernel_rfl, fun w => by go_simp⟩) ?_
      try simp only [Act.put, zA, zB, zC, zD, zE, zF]
      have HTD := hide ((unhide HCT2).later (W' := wr.drew) ((Below.refl _ _).drew))
      refine (fun hG => ?main) (?suf : (?G : Prop))
      case main =>
       refine wpAny_ready (rs := [1, 3]) (by kernel_rfl) (by simp) ?_
       refine AllReady.cons rfl (fun K hK => ?_) (AllReady.cons rfl (fun K hK => ?_) AllReady.nil)
       ·have hcl : World.cell? _ ⟨tb, 1, none⟩ = some (Value.slice fo k fc) := cell_of_blk (unhide HTD).tbk 1
        have htl := lt_of_blk (unhide HTD).tbk
        go_simp
        refine hK _ _ ?_
        clear hK K
        try simp only [Act.put, zA, zB, zC, zD, zE, zF]
        clear hcl htl
        refine wpAny_ready (rs := [3]) (by kernel_rfl) (by simp) ?_
        refine AllReady.cons rfl (fun K hK => ?_) AllReady.nil
        go_simp
        refine (unhide HFL _).mono ?_
        rintro e w8 ⟨rfl, hw8⟩
        subst hw8
        refine hK _ _ ?_
        clear hK K
        try simp only [Act.put, zA, zB, zC, zD, zE, zF]
        refine wpAny_ready (rs := [4]) (by kernel_rfl) (by simp) ?_
        refine AllReady.cons rfl (fun K hK => ?_) AllReady.nil
        go_simp
        refine hK _ _ ?_
        clear hK K
        try simp only [Act.put, zA, zB, zC, zD, zE, zF]
        exact hG
       ·go_simp
        refine (unhide HFL _).mono ?_
        rintro e w8 ⟨rfl, hw8⟩
        subst hw8
        refine hK _ _ ?_
        clear hK K
        try simp only [Act.put, zA, zB, zC, zD, zE, zF]
        refine wpAny_ready (rs := [1, 4]) (by kernel_rfl) (by simp) ?_
        refine AllReady.cons rfl (fun K hK => ?_) (AllReady.cons rfl (fun K hK => ?_) AllReady.nil)
        ·have hcl : World.cell? _ ⟨tb, 1, none⟩ = some (Value.slice fo k fc) := cell_of_blk (unhide HTD).tbk 1
         have htl := lt_of_blk (unhide HTD).tbk
         go_simp
         refine hK _ _ ?_
         clear hK K
         try simp only [Act.put, zA, zB, zC, zD, zE, zF]
         clear hcl htl
         refine wpAny_ready (rs := [4]) (by kernel_rfl) (by simp) ?_
         refine AllReady.cons rfl (fun K hK => ?_) AllReady.nil
         go_simp
         refine hK _ _ ?_
         clear hK K
         try simp only [Act.put, zA, zB, zC, zD, zE, zF]
         exact hG
        ·go_simp
         refine hK _ _ ?_
         clear hK K
         try simp only [Act.put, zA, zB, zC, zD, zE, zF]
         refine wpAny_ready (rs := [1]) (by kernel_rfl) (by simp) ?_
         refine AllReady.cons rfl (fun K hK => ?_) AllReady.nil
         have hcl : World.cell? _ ⟨tb, 1, none⟩ = some (Value.slice fo k fc) := cell_of_blk ((unhide HCT2).later ((Below.refl _ _).alloc (Nat.le_refl _) (.cells #[.int .i64 (flB bs : Int)] 3))).tbk 1
         have htl := lt_of_blk ((unhide HCT2).later ((Below.refl _ _).alloc (Nat.le_refl _) (.cells #[.int .i64 (flB bs : Int)] 3))).tbk
         go_simp
         refine hK _ _ ?_
         clear hK K
         try simp only [Act.put, zA, zB, zC, zD, zE, zF]
         clear hcl htl
         exact hG
      case suf =>
       have hlk : ((ms.take k).map flB).length = k := by rw [List.length_map, List.length_take]; omega
       have h7l := (unhide HCT2).bel.size
       refine wpAny_ready (rs := [5]) (by kernel_rfl) (by simp) ?_
       refine AllReady.cons rfl (fun K hK => ?_) AllReady.nil
       refine step_append_lies _ (by rfl) _ _ 33 (by rfl) V.heap.size 3 i0 (.int .i64 0) 1 8 Tryz.underlying33 hi0 hz0 hz1 hz2 rfl (by decide) (.slice fo k fc) k (intC ((ms.take k).map flB)) (by rfl) ?d0 ⟨wr.heap.size, 0, none⟩ 1 1 [.int .i64 (flB bs : Int)] (by rfl) rfl ?d1 ?d2 (by decide) ?d3 ?d4 ?d5 (wr.heap.size + 1) ?d6 ?_
       case d0 => have := (unhide HTD).tab.fl; simp only [hlk] at this; exact this.alloc _
       case d1 =>
        intro j u hj
        match j, hj with
        | 0, hj => simp at hj; subst hj; simp [Addr.add]
        | j + 1, hj => simp at hj
       case d2 => intro u hu; simp at hu; subst hu; rfl
       case d3 => unfold maxLen; omega
       case d4 => omega
       case d5 => simp; omega
       case d6 => simp
       intro g5 cap5 w5' hown hgrow hat hgl
       have htra := (unhide HTD).later ((Below.refl _ _).alloc (Nat.le_refl _) (.cells #[.int .i64 (flB bs : Int)] 3))
       have hgrow' : (wr.drew.alloc (.cells #[.int .i64 (flB bs : Int)] 3)).grownBy w5' (Value.slice fo k fc).ownBlock := hgrow
       have htab := htra.tab.flag (F' := .slice (some ⟨g5, 0, none⟩) (k + 1) cap5) (f := flB bs) (by simp only [hlk]; exact hown) hgrow' rfl (hat.imp id (fun h => by simp; omega))
       have hblk := (hgrow'.block tb (lt_of_blk htra.tbk) (fun e => own_ty htra.tab.fl e.symm htra.tbk (by decide))).trans htra.tbk
       have HCT8 := hide (htra.grow htra.tab.fl hgrow' (Or.inr (Or.inl rfl)) htab 1 (.slice (some ⟨g5, 0, none⟩) (k + 1) cap5) rfl)
       have hgq1 := ((((Below.refl _ _).drew).trans (((Below.refl wr.drew.heap.size wr.drew).alloc (Nat.le_refl _) (.cells #[.int .i64 (flB bs : Int)] 3)).mono (Nat.le_refl _))).block g (lt_of_blk (unhide HGQ))).trans (unhide HGQ)
       have hgF : ∀ v, (Value.slice fo k fc).ownBlock = some v → g ≠ v := fun v hv e => unhide HFG (e ▸ hv)
       have hgq2 := (hgrow'.block g (lt_of_blk hgq1) (fun e => hgF g e.symm rfl)).trans hgq1
       have hgtb : g ≠ tb := fun e => by
        have h1 := unhide HGQ
        rw [e, (unhide HCT2).tbk] at h1
        injection h1 with h1
        injection h1 with _ e2 _
        revert e2
        decide
       have HGQ8 := hide ((Below.heap_setCell w5' ⟨tb, 1, none⟩ (.slice (some ⟨g5, 0, none⟩) (k + 1) cap5) g hgtb).trans hgq2)
       have hg5g : (Value.slice (some ⟨g5, 0, none⟩) (k + 1) cap5).ownBlock ≠ some g := fun e => by
        have e' : g5 = g := Option.some.inj e
        rcases hat with h | h
        ·exact unhide HFG (by rw [h, e'])
        ·have := lt_of_blk (unhide HGQ); omega
       have HG5G := hide hg5g
       have hc5 : w5'.cell? ⟨tb, 1, none⟩ = some (.slice fo k fc) := cell_of_blk hblk 1
       have hf5 := frozen_of_blk hblk 1
       have hl5 := lt_of_blk hblk
       refine hK _ _ ?_
       clear hK K htra htab hblk hown hgrow hgrow' hat hgl hgq1 hgF hgq2 hgtb hg5g
       try simp only [Act.put, zA, zB, zC, zD, zE, zF]
       refine wpAny_take (i := 6) (v := .pointer (some ⟨tb, 1, none⟩)) rfl (by kernel_rfl) (by kernel_rfl) (by kernel_rfl) (fun _ _ _ h => h) (Or.inl ⟨by kernel_rfl, fun w => by go_simp⟩) ?_
       try simp only [Act.put, zA, zB, zC, zD, zE, zF]
       refine wpAny_ready (rs := [7]) (by kernel_rfl) (by simp) ?_
       refine AllReady.cons rfl (fun K hK => ?_) AllReady.nil
       go_simp
       refine hK _ _ ?_
       clear hK K hc5 hf5 hl5 h7l
       refine wpAny_done (by kernel_rfl) ?_ _
       generalize w5'.setCell ⟨tb, 1, none⟩ (.slice (some ⟨g5, 0, none⟩) (k + 1) cap5) = w8 at *
       have hx2 : w8.cell? ⟨tb, 2, none⟩ = some (.slice xo k xc) := cell_of_blk (unhide HCT8).tbk 2
       have hxl := lt_of_blk (unhide HCT8).tbk
       have hV8 := (unhide HCT8).bel.size
       have hrl2 : rows.length = k := unhide HRK
       have HRL := hide hrl2
       clear hrl2
       go_wp2_with (at_builtin; go_must (refine wpList_append_lies _ rfl _ _ 34 rfl V.heap.size 33 r0 (.slice none 0 0) 1 24 Tryz.underlying34 hr0 hrz0 hrz1 hrz2 rfl (by decide) _ k rv rfl ?e0 ⟨w8.heap.size, 0, none⟩ 1 1 [.slice (some ⟨g, 0, none⟩) al.length al.length] rfl rfl ?e1 ?e2 (by decide) ?e3 ?e4 ?e5 (w8.heap.size + 1) ?e6 ?_))
       case e0 => have := (unhide HCT8).tab.nx; simp only [unhide HRL] at this; exact this.alloc _
       case e2 => first | rfl | (intro u hu; simp at hu; subst hu; rfl)
       case e3 => unfold maxLen; omega
       case e4 => omega
       case e5 => first | omega | (simp; omega)
       intro g9 cap9 w9 ho9 hg9 _ _
       have hba : Below w8.heap.size w8 (w8.alloc (.cells #[.slice (some ⟨g, 0, none⟩) al.length al.length] 33)) := (Below.refl _ _).alloc (Nat.le_refl _) _
       have hct9 := (unhide HCT8).later hba
       have hgq9 := (hba.block _ (lt_of_blk (unhide HGQ8))).trans (unhide HGQ8)
       have hql : q.length = al.length := unhide HQL
       have hro := rowC_owns (base := V.heap.size) hgq9 hVg hql (by omega)
       have htab := hct9.tab.row (X' := .slice (some ⟨g9, 0, none⟩) (k + 1) cap9) (g := g) (c := al.length) (r := q) (by rw [hql]; exact hro) (unhide HG5G) (unhide HRG) (by simp only [unhide HRL, hql]; exact ho9) hg9
       rw [hql] at htab
       have hblk := (hg9.block tb (lt_of_blk hct9.tbk) (fun e => own_ty hct9.tab.nx e.symm hct9.tbk (by decide))).trans hct9.tbk
       have HCT9 := hide (hct9.grow hct9.tab.nx hg9 (Or.inr (Or.inr rfl)) htab 2 (.slice (some ⟨g9, 0, none⟩) (k + 1) cap9) rfl)
       rw [← unhide HMK] at HCT9
       have hc9 : w9.cell? ⟨tb, 2, none⟩ = some (.slice xo k xc) := cell_of_blk hblk 2
       have hf9 := frozen_of_blk hblk 2
       have hl9 := lt_of_blk hblk
       have hk99 : k < 100 := by omega
       clear ho9 hg9 hba hct9 hgq9 hql hro htab hblk hx2 hxl
       go_wp2_with fail
       go_roundw
       case rel => exact ⟨k + 1, so2, sc2, M, D2, some ⟨g5, 0, none⟩, cap5, some ⟨g9, 0, none⟩, cap9, rows ++ [q], _, by go_num, HCT9, HBQ2, by omega, HEQ2⟩
       case measure => simp [intOf]; omega
  ·have hkn : ¬ (k : Int) < (ms.length : Int) := by omega
   have hke : k = ms.length := by omega
   have HSOME : Hid (bfs (setB tw) (List.range al.length) 100 102 0 [s0] [] = some (ms, rows)) := by
    show _ = _
    obtain ⟨n2, hn2⟩ : ∃ n2, 102 - k = n2 + 1 := ⟨101 - k, by omega⟩
    rw [unhide HEQ, hn2]
    exact bfs_end (by omega)
   have htk : ms.take k = ms := List.take_of_length_le (by omega)
   rw [htk] at HCT
   have hres := (hbel.block _ (lt_of_blk (unhide HRV))).trans (unhide HRV)
   have HRES := hide hres
   have HBEL := hide hbel
   have rc' := fun o => cell_of_blk hres o
   have rf' := fun o => frozen_of_blk hres o
   have rl' := lt_of_blk hres
   have tc0 : wr.cell? ⟨tb, 0, none⟩ = some (.slice va1 al.length va3) := cell_of_blk (unhide HCT).tbk 0
   have tc1 : wr.cell? ⟨tb, 1, none⟩ = some (.slice fo k fc) := cell_of_blk (unhide HCT).tbk 1
   have tc2 : wr.cell? ⟨tb, 2, none⟩ = some (.slice xo k xc) := cell_of_blk (unhide HCT).tbk 2
   have tl := lt_of_blk (unhide HCT).tbk
   clear hbel hres hke htk
   go_wp2_with fail
   change bodyPost _ _ _ _ _ (setT wr (w.heap.size + 1) (.slice va1 al.length va3) (.slice fo k fc) (.slice xo k xc))
   have hfin := setT_blk (unhide HRES) (.slice va1 al.length va3) (.slice fo k fc) (.slice xo k xc)
   have hbf := setT_below ((unhide HBV).trans ((unhide HBEL).mono (unhide HBV).size)) (show w.heap.size ≤ w.heap.size + 1 by omega) (.slice va1 al.length va3) (.slice fo k fc) (.slice xo k xc)
   have htf := setT_tab (unhide HRES) (unhide HCT).tab (A' := .slice va1 al.length va3) (F' := .slice fo k fc) (X' := .slice xo k xc)
   generalize setT wr (w.heap.size + 1) (.slice va1 al.length va3) (.slice fo k fc) (.slice xo k xc) = wf at *
   have fcc := fun o => cell_of_blk hfin o
   refine bodyPost_ret (v := .tuple #[.agg #[.slice va1 al.length va3, .slice fo k fc, .slice xo k xc], .bool true]) (by simp [results, Tryz.results43, go_sem, fcc]) rfl ?_
   refine ⟨some ⟨names, ms.map flB, rows⟩, ⟨l, tw, ?_, ?_⟩, hbf, _, _, _, rv, rfl, htf.mono (unhide HBV).size⟩
   ·rw [List.length_map]; exact unhide HBFS
   ·rw [List.length_map, unhide HS0E, unhide HSOME, unhide HNAME]; rfl
end Go.Proofs.YtidakhhekofkoaaGreatDoor
namespace Go.Proofs.YtidakhhekofkoaaGreatDoor
open Go.RowKit Go.Deep
def okG : List Value → Value
 | [] => .int .i64 5
 | _ => .int .i64 0
def CmpP (s : ByteArray) (w w' : World) (e : Ending) : Prop :=
 match readM s with
 | .error x => Below w.heap.size w w' ∧ e = .returned (.tuple #[.agg #[.slice none 0 0, .slice none 0 0, .slice none 0 0], .int .i64 x.2])
 | .ok (al, rs) => ∃ o, CompP al rs o ∧ DecP okG w o w' e
theorem CmpP.err {s : ByteArray} {w w' : World} {e : Ending} {x : Nat × Nat} (h : readM s = .error x) (hb : Below w.heap.size w w') (he : e = .returned (.tuple #[.agg #[.slice none 0 0, .slice none 0 0, .slice none 0 0], .int .i64 x.2])) : CmpP s w w' e := by
 unfold CmpP; rw [h]; exact ⟨hb, he⟩
theorem CmpP.ok {s : ByteArray} {w w' : World} {e : Ending} {al : List Tk} {rs : List Rl} (h : readM s = .ok (al, rs)) {o : Option Tb} (ho : CompP al rs o) (hd : DecP okG w o w' e) : CmpP s w w' e := by
 unfold CmpP; rw [h]; exact ⟨o, ho, hd⟩
set_option maxHeartbeats 4000000 in
set_option maxRecDepth 100000 in
theorem Compile_any (s : ByteArray) (w : World) (hG : GV w) :
  Calls Tryz.prog 17 #[.string s] w fun e w' => CmpP s w w' e := by
 have hbz : Below w.heap.size w (w.alloc (.cells #[.slice none 0 0, .slice none 0 0, .slice none 0 0] 36)) := (Below.refl _ _).alloc (Nat.le_refl _) _
 have HRD := hide (read_any s _ (hG.later hbz))
 have HBZ := hide hbz
 have HRES := hide (blk_alloc w (.cells #[.slice none 0 0, .slice none 0 0, .slice none 0 0] 36))
 clear hG hbz
 go_enter Tryz.func17, Tryz.ntmps17
 go_wp2_with fail
 refine (unhide HRD).mono ?_
 generalize hW : w.alloc (.cells #[.slice none 0 0, .slice none 0 0, .slice none 0 0] 36) = W at *
 have hsz : w.heap.size ≤ W.heap.size := (unhide HBZ).size
 clear hW
 rintro e w1 ⟨hb1, hm⟩
 have hres := (hb1.block _ (lt_of_blk (unhide HRES))).trans (unhide HRES)
 have HB1 := hide ((unhide HBZ).trans (hb1.mono (unhide HBZ).size))
 cases hr : readM s with
 | error x =>
  rw [hr] at hm
  have hne := readM_err hr
  have HX := hide hr
  obtain ⟨xp, xe⟩ := x
  have hne' : ¬ ((xe : Nat) : Int) = 0 := by have : xe ≠ 0 := hne; omega
  subst hm
  have hba : Below w1.heap.size w1 ((w1.alloc (.cells #[.slice none 0 0, .slice none 0 0] 78)).alloc (.cells #[.int .i64 xp, .int .i64 xe] 80)) := ((Below.refl _ _).alloc (Nat.le_refl _) _).alloc (by simp) _
  have hres2 := (hba.block _ (lt_of_blk hres)).trans hres
  have HRE := hide hres2
  have HB2 := hide ((unhide HB1).trans (hba.mono (unhide HB1).size))
  have hfb : ((w1.alloc (.cells #[.slice none 0 0, .slice none 0 0] 78)).alloc (.cells #[.int .i64 xp, .int .i64 xe] 80)).heap[w1.heap.size + 1]? = some (.cells #[.int .i64 xp, .int .i64 xe] 80 (0, 0)) := blk_alloc' _ _ _ (by simp)
  have HFB := hide hfb
  clear hr hb1 hne hba hres hres2 hfb
  go_wp2_with fail
  generalize ((w1.alloc (.cells #[.slice none 0 0, .slice none 0 0] 78)).alloc (.cells #[.int .i64 xp, .int .i64 xe] 80)) = w2 at *
  have hfc : w2.cell? ⟨w1.heap.size + 1, 1, none⟩ = some (.int .i64 xe) := cell_of_blk (unhide HFB) 1
  have rc := fun o => cell_of_blk (unhide HRE) o
  have rf := fun o => frozen_of_blk (unhide HRE) o
  have rl := lt_of_blk (unhide HRE)
  refine wp_region_held_drew (S := fun w' => w'.cell? ⟨w1.heap.size + 1, 1, none⟩ = some (.int .i64 xe)) (by kernel_rfl) ?_ (fun hHeld => ?_)
  ·exact hfc
  refine wpAnyH_take (i := 0) (v := .agg #[.slice none 0 0, .slice none 0 0, .slice none 0 0]) rfl (by kernel_rfl) (by kernel_rfl) (by kernel_rfl) (fun _ _ _ h => h) (Or.inl ⟨by kernel_rfl, fun w hw => by have s0 := hw; go_simp⟩) hHeld ?_
  try simp only [Act.put, zA, zB, zC, zD, zE, zF]
  refine wpAnyH_take (i := 1) (v := .pointer (some ⟨w1.heap.size + 1, 1, none⟩)) rfl (by kernel_rfl) (by kernel_rfl) (by kernel_rfl) (fun _ _ _ h => h) (Or.inl ⟨by kernel_rfl, fun w hw => by have s0 := hw; go_simp⟩) hHeld ?_
  try simp only [Act.put, zA, zB, zC, zD, zE, zF]
  refine wpAnyH_take (i := 2) (v := .int .i64 xe) rfl (by kernel_rfl) (by kernel_rfl) (by kernel_rfl) (fun _ _ _ h => h) (Or.inl ⟨by kernel_rfl, fun w hw => by have s0 := hw; go_simp⟩) hHeld ?_
  try simp only [Act.put, zA, zB, zC, zD, zE, zF]
  refine wpAnyH_ready (rs := [3]) (by kernel_rfl) (by simp) ?_
  refine AllReadyH.cons rfl (fun K hK => ?_) AllReadyH.nil
  go_simp
  have hk : (setT w2 w.heap.size (.slice none 0 0) (.slice none 0 0) (.slice none 0 0)).cell? ⟨w1.heap.size + 1, 1, none⟩ = some (.int .i64 xe) := by
   have hb := (setT_grown w2 w.heap.size (.slice none 0 0) (.slice none 0 0) (.slice none 0 0)).block _ (lt_of_blk (unhide HFB)) (fun e => by
    have e' : w1.heap.size + 1 = w.heap.size := Option.some.inj e
    have := (unhide HB1).size
    omega)
   rw [World.cell?_of_block (a := ⟨w1.heap.size + 1, 1, none⟩) hb]
   exact hfc
  refine hK.out _ _ hk (fun hHeld => ?_)
  clear hK K
  refine wpAnyH_take (i := 4) (v := .int .i64 xe) rfl (by kernel_rfl) (by kernel_rfl) (by kernel_rfl) (fun _ _ _ h => h) (Or.inl ⟨by kernel_rfl, fun w hw => by have s0 := hw; go_simp⟩) hHeld ?_
  try simp only [Act.put, zA, zB, zC, zD, zE, zF]
  refine wpAnyH_done (by kernel_rfl) ?_ _
  clear hHeld hk
  go_wp2_with fail
  change bodyPost _ _ _ _ _ (World.drew (setT w2 w.heap.size (.slice none 0 0) (.slice none 0 0) (.slice none 0 0)))
  have hfin := setT_blk (unhide HRE) (.slice none 0 0) (.slice none 0 0) (.slice none 0 0)
  have hbf := setT_below (unhide HB2) (Nat.le_refl _) (.slice none 0 0) (.slice none 0 0) (.slice none 0 0)
  generalize setT w2 w.heap.size (.slice none 0 0) (.slice none 0 0) (.slice none 0 0) = wf at *
  have fcc := fun o => cell_of_blk hfin o
  refine bodyPost_ret (v := .tuple #[.agg #[.slice none 0 0, .slice none 0 0, .slice none 0 0], .int .i64 xe]) (by simp [results, Tryz.results17, go_sem, fcc]) rfl ?_
  exact CmpP.err (unhide HX) (hbf.trans (((Below.refl _ _).drew).mono hbf.size)) rfl
 | ok m =>
  obtain ⟨al, rs⟩ := m
  rw [hr] at hm
  obtain ⟨a1, a2, a3, m1, m2, m3, cs, rfl, ha, hrr, hp⟩ := hm
  obtain ⟨_, _, e2⟩ := owns_val ha
  cases e2
  have hg := readM_good hr
  have h6 : al.length ≤ 6 := by have := (acts_ok hr).n6; simpa using this
  have hbl : Below w1.heap.size w1 ((w1.alloc (.cells #[.slice a1 al.length a3, .slice m1 m2 m3] 78)).alloc (.cells #[.int .i64 0, .int .i64 0] 80)) := ((Below.refl _ _).alloc (Nat.le_refl _) _).alloc (by simp) _
  have HT := hide (Table_any _ al rs hg a1 a3 m1 m2 m3 cs (owns_later ha hbl) (owns_later hrr hbl) (hp.keep (KB.below hbl)) h6)
  have HB2 := hide ((unhide HB1).trans (hbl.mono (unhide HB1).size))
  have HRE := hide ((hbl.block _ (lt_of_blk hres)).trans hres)
  have HX := hide hr
  clear hr ha hrr hp hg hbl hb1 hres
  go_wp2_with fail
  refine (unhide HT).mono ?_
  generalize ((w1.alloc (.cells #[.slice a1 al.length a3, .slice m1 m2 m3] 78)).alloc (.cells #[.int .i64 0, .int .i64 0] 80)) = w2 at *
  rintro e w3 ⟨o, ho, hb3, hm⟩
  have HO := hide ho
  have hres3 := (hb3.block _ (lt_of_blk (unhide HRE))).trans (unhide HRE)
  have HB3 := hide ((unhide HB2).trans (hb3.mono (unhide HB2).size))
  have hwz : w.heap.size ≤ w2.heap.size := (unhide HB2).size
  cases o with
  | none =>
   have hm' : e = .returned (.tuple #[.agg #[.slice none 0 0, .slice none 0 0, .slice none 0 0], .bool false]) := hm
   subst hm'
   have hba : Below w3.heap.size w3 (w3.alloc (.cells #[.slice none 0 0, .slice none 0 0, .slice none 0 0] 36)) := (Below.refl _ _).alloc (Nat.le_refl _) _
   have HRE4 := hide ((hba.block _ (lt_of_blk hres3)).trans hres3)
   have HB4 := hide ((unhide HB3).trans (hba.mono (unhide HB3).size))
   have rc := fun o => cell_of_blk (unhide HRE4) o
   have rf := fun o => frozen_of_blk (unhide HRE4) o
   have rl := lt_of_blk (unhide HRE4)
   clear hm ho hb3 hres3 hba
   go_wp2_with fail
   change bodyPost _ _ _ _ _ (setT (w3.alloc (.cells #[.slice none 0 0, .slice none 0 0, .slice none 0 0] 36)) w.heap.size (.slice none 0 0) (.slice none 0 0) (.slice none 0 0))
   have hfin := setT_blk (unhide HRE4) (.slice none 0 0) (.slice none 0 0) (.slice none 0 0)
   have hbf := setT_below (unhide HB4) (Nat.le_refl _) (.slice none 0 0) (.slice none 0 0) (.slice none 0 0)
   generalize setT (w3.alloc (.cells #[.slice none 0 0, .slice none 0 0, .slice none 0 0] 36)) w.heap.size (.slice none 0 0) (.slice none 0 0) (.slice none 0 0) = wf at *
   have fcc := fun o => cell_of_blk hfin o
   refine bodyPost_ret (v := .tuple #[.agg #[.slice none 0 0, .slice none 0 0, .slice none 0 0], .int .i64 5]) (by simp [results, Tryz.results17, go_sem, fcc]) rfl ?_
   exact CmpP.ok (unhide HX) (unhide HO) ⟨hbf, rfl⟩
  | some t =>
   obtain ⟨A, F, X, rv, he, htab⟩ := hm
   obtain ⟨ao, ac, rfl⟩ := owns_val htab.acts
   obtain ⟨fo, fc, rfl⟩ := owns_val htab.fl
   obtain ⟨no, nc, rfl⟩ := owns_val htab.nx
   have he' : e = .returned (.tuple #[.agg #[.slice ao t.acts.length ac, .slice fo t.fl.length fc, .slice no t.nx.length nc], .bool true]) := he
   subst he'
   clear he
   have hba : Below w3.heap.size w3 (w3.alloc (.cells #[.slice ao t.acts.length ac, .slice fo t.fl.length fc, .slice no t.nx.length nc] 36)) := (Below.refl _ _).alloc (Nat.le_refl _) _
   have HRE4 := hide ((hba.block _ (lt_of_blk hres3)).trans hres3)
   have HB4 := hide ((unhide HB3).trans (hba.mono (unhide HB3).size))
   have HTAB := hide ((htab.later hba).mono hwz)
   have hbx := blk_alloc w3 (.cells #[.slice ao t.acts.length ac, .slice fo t.fl.length fc, .slice no t.nx.length nc] 36)
   have rc := fun o => cell_of_blk (unhide HRE4) o
   have rf := fun o => frozen_of_blk (unhide HRE4) o
   have rl := lt_of_blk (unhide HRE4)
   clear ho hb3 hres3 hba htab
   go_wp2_with fail
   change bodyPost _ _ _ _ _ (setT (w3.alloc (.cells #[.slice ao t.acts.length ac, .slice fo t.fl.length fc, .slice no t.nx.length nc] 36)) w.heap.size (.slice ao t.acts.length ac) (.slice fo t.fl.length fc) (.slice no t.nx.length nc))
   have hfin := setT_blk (unhide HRE4) (.slice ao t.acts.length ac) (.slice fo t.fl.length fc) (.slice no t.nx.length nc)
   have hbf := setT_below (unhide HB4) (Nat.le_refl _) (.slice ao t.acts.length ac) (.slice fo t.fl.length fc) (.slice no t.nx.length nc)
   have htf := setT_tab (unhide HRE4) (unhide HTAB) (A' := .slice ao t.acts.length ac) (F' := .slice fo t.fl.length fc) (X' := .slice no t.nx.length nc)
   generalize setT (w3.alloc (.cells #[.slice ao t.acts.length ac, .slice fo t.fl.length fc, .slice no t.nx.length nc] 36)) w.heap.size (.slice ao t.acts.length ac) (.slice fo t.fl.length fc) (.slice no t.nx.length nc) = wf at *
   have fcc := fun o => cell_of_blk hfin o
   refine bodyPost_ret (v := .tuple #[.agg #[.slice ao t.acts.length ac, .slice fo t.fl.length fc, .slice no t.nx.length nc], .int .i64 0]) (by simp [results, Tryz.results17, go_sem, fcc]) rfl ?_
   exact CmpP.ok (unhide HX) (unhide HO) ⟨hbf, _, _, _, rv, rfl, htf⟩
end Go.Proofs.YtidakhhekofkoaaGreatDoor
namespace Go.Proofs.YtidakhhekofkoaaGreatDoor
open Rt
open Go.RowKit Go.Deep
theorem RightT.small {t : Tb} (h : RightT t) : t.acts.length ≤ 1000 ∧ t.nx.length ≤ 1000 ∧ t.fl.length ≤ 1000 ∧ ∀ r ∈ t.nx, r.length ≤ 1000 := by
 have h1 := h.acts.n6
 have h2 := h.n100
 have h3 := h.fl
 exact ⟨by omega, by omega, by omega, fun r hr => by have := (h.rs r hr).1; omega⟩
theorem Encode_t (w : World) (ao fo no : Option Addr) (ac fc nc na nf nn : Nat) (t : Tb) (hI : TbI w ao fo no ac t.z) (hG : GV w) (hna : na = t.acts.length) (hnf : nf = t.fl.length) (hnn : nn = t.nx.length) (hR : RightT t) :
  Calls Tryz.prog 26 #[.agg #[.slice ao na ac, .slice fo nf fc, .slice no nn nc]] w fun e w' => e = .returned (.tuple #[.string ⟨(encB t).toArray⟩, .int .i64 0]) ∧ Below w.heap.size w w' := by
 have e1 : t.z.fl.length = nf := by rw [hnf]; exact zI_len _
 have e2 : t.z.nx.length = nn := by rw [hnn]; unfold Tb.z; simp
 have e3 : t.z.acts.length = na := by rw [hna]; rfl
 have := Encode_any w ao fo no ac fc nc t.z hI hG
 rw [e1, e2, e3] at this
 refine this.mono ?_
 rintro e w' ⟨⟨u, hu, _, he⟩ | ⟨hn, _⟩, hb⟩
 ·rw [← Tb.z_inj hu] at he
  exact ⟨he, hb⟩
 ·exact absurd ((rightZ_t t).2 hR) hn
def DecT (t : Tb) (w w' : World) (e : Ending) : Prop := ∃ ao fo no ac fc nc rv, e = .returned (.tuple #[.agg #[.slice ao t.acts.length ac, .slice fo t.fl.length fc, .slice no t.nx.length nc], .int .i64 0]) ∧ TbW w' w.heap.size (.slice ao t.acts.length ac) (.slice fo t.fl.length fc) (.slice no t.nx.length nc) t rv ∧ RightT t ∧ Below w.heap.size w w'
theorem DecT.of {t : Tb} {w w' : World} {e : Ending} {ty : List Value → Value} (hty : ty [.bool true] = .int .i64 0) (hR : RightT t) (h : DecP ty w (some t) w' e) : DecT t w w' e := by
 obtain ⟨hb, A, F, X, rv, he, htab⟩ := h
 obtain ⟨ao, ac, rfl⟩ := owns_val htab.acts
 obtain ⟨fo, fc, rfl⟩ := owns_val htab.fl
 obtain ⟨no, nc, rfl⟩ := owns_val htab.nx
 rw [hty] at he
 exact ⟨ao, fo, no, ac, fc, nc, rv, he, htab, hR, hb⟩
end Go.Proofs.YtidakhhekofkoaaGreatDoor
