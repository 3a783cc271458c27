/- A right table, as it lies; shaped, walk. -/
import Derived.Test.YtidakhhekofkoaaGreatDoorU25
import Derived.Test.YtidakhhekofkoaaGreatDoorU40
import Derived.Test.YtidakhhekofkoaaGreatDoorU26
set_option linter.unusedSimpArgs false
set_option linter.unusedVariables false
namespace Go.Proofs.YtidakhhekofkoaaGreatDoor
open Go.RowKit Go.Deep
def nxT (t : Tb) (i a : Nat) : Nat := ((t.nx[i]?.getD [])[a]?).getD 0
def flT (t : Tb) (i : Nat) : Nat := t.fl[i]?.getD 0
structure TbL (W : World) (t : Tb) (A n ab a0 fb f0 nb n0 : Nat) (rb ro rc : Nat → Nat) : Prop where
 hA : t.acts.length = A
 hn : t.nx.length = n
 A6 : A ≤ 6
 A1 : 1 ≤ A
 n1 : 1 ≤ n
 n100 : n ≤ 100
 rt : RightT t
 act : ∀ i s, t.acts[i]? = some s → W.cell? ⟨ab, a0 + i, none⟩ = some (.string s)
 fla : ∀ i, i < n → W.cell? ⟨fb, f0 + i, none⟩ = some (.int .i64 (flT t i : Int))
 row : ∀ i, i < n → W.cell? ⟨nb, n0 + i, none⟩ = some (.slice (some ⟨rb i, ro i, none⟩) A (rc i))
 nxt : ∀ i a, i < n → a < A → W.cell? ⟨rb i, ro i + a, none⟩ = some (.int .i64 (nxT t i a : Int))
 la : ab < W.heap.size
 lf : fb < W.heap.size
 ln : nb < W.heap.size
 lr : ∀ i, i < n → rb i < W.heap.size
theorem TbL.later {W W' : World} {t : Tb} {A n ab a0 fb f0 nb n0 : Nat} {rb ro rc : Nat → Nat} (h : TbL W t A n ab a0 fb f0 nb n0 rb ro rc) (hb : Below W.heap.size W W') : TbL W' t A n ab a0 fb f0 nb n0 rb ro rc :=
 ⟨h.hA, h.hn, h.A6, h.A1, h.n1, h.n100, h.rt, fun i s hs => (bcell3 hb _ _ h.la).trans (h.act i s hs), fun i hi => (bcell3 hb _ _ h.lf).trans (h.fla i hi), fun i hi => (bcell3 hb _ _ h.ln).trans (h.row i hi),
  fun i a hi ha => (bcell3 hb _ _ (h.lr i hi)).trans (h.nxt i a hi ha), Nat.lt_of_lt_of_le h.la hb.size, Nat.lt_of_lt_of_le h.lf hb.size, Nat.lt_of_lt_of_le h.ln hb.size, fun i hi => Nat.lt_of_lt_of_le (h.lr i hi) hb.size⟩
theorem nxT_lt {t : Tb} (h : RightT t) {x a : Nat} (hx : x < t.nx.length) (ha : a < t.acts.length) : nxT t x a < t.nx.length := h.go hx ha
theorem TbL.lt {W : World} {t : Tb} {A n ab a0 fb f0 nb n0 : Nat} {rb ro rc : Nat → Nat} (h : TbL W t A n ab a0 fb f0 nb n0 rb ro rc) {x a : Nat} (hx : x < n) (ha : a < A) : nxT t x a < n := by
 have := nxT_lt h.rt (x := x) (a := a) (by have := h.hn; omega) (by have := h.hA; omega)
 have := h.hn
 omega
theorem tbl_of {W : World} {ao fo no : Option Addr} {ac : Nat} {t : Tb} (h : TbI W ao fo no ac t.z) (hR : RightT t) :
  ∃ ab a0 fb f0 nb n0 rb ro rc, ao = some ⟨ab, a0, none⟩ ∧ fo = some ⟨fb, f0, none⟩ ∧ no = some ⟨nb, n0, none⟩ ∧ TbL W t t.acts.length t.nx.length ab a0 fb f0 nb n0 rb ro rc := by
 have hA := hR.acts.n1
 have hn := hR.n1
 have hfl := hR.fl
 have hzf : ∀ i, i < t.nx.length → t.z.fl[i]? = some (flT t i : Int) := fun i hi => by
  show (zI t.fl)[i]? = _
  unfold zI flT
  rw [List.getElem?_map, List.getElem?_eq_getElem (show i < t.fl.length by omega)]
  rfl
 have hzr : ∀ i, i < t.nx.length → ∃ r, t.nx[i]? = some r ∧ r.length = t.acts.length ∧ t.z.nx[i]? = some (zI r) := fun i hi => by
  refine ⟨t.nx[i], List.getElem?_eq_getElem hi, (hR.rs _ (List.getElem_mem hi)).1, ?_⟩
  show (t.nx.map zI)[i]? = _
  rw [List.getElem?_map, List.getElem?_eq_getElem hi]
  rfl
 obtain ⟨ab, a0, rfl, hal, _⟩ := h.acts 0 t.acts[0] (show t.acts[0]? = _ from List.getElem?_eq_getElem (by omega))
 obtain ⟨fb, f0, rfl, hfl', _⟩ := h.fl 0 _ (hzf 0 (by omega))
 obtain ⟨r0, _, _, hr0⟩ := hzr 0 (by omega)
 obtain ⟨nb, n0, _, _, rfl, hnl, _, _⟩ := h.nx 0 _ hr0
 have hrow : ∀ i, ∃ p : Nat × Nat × Nat, i < t.nx.length → W.cell? ⟨nb, n0 + i, none⟩ = some (.slice (some ⟨p.1, p.2.1, none⟩) t.acts.length p.2.2) ∧ p.1 < W.heap.size ∧ ∀ a, a < t.acts.length → W.cell? ⟨p.1, p.2.1 + a, none⟩ = some (.int .i64 (nxT t i a : Int)) := fun i => by
  by_cases hi : i < t.nx.length
  ·obtain ⟨r, h1, h2, h3⟩ := hzr i hi
   obtain ⟨b, off, ro, rc, e1, _, e3, e4⟩ := h.nx i _ h3
   cases e1
   have hget : ∀ a, a < t.acts.length → (zI r)[a]? = some (nxT t i a : Int) := fun a ha => by
    unfold zI nxT
    rw [List.getElem?_map, h1, List.getElem?_eq_getElem (show a < r.length by omega)]
    simp only [Option.getD_some, Option.map_some]
    rw [List.getElem?_eq_getElem (show a < r.length by omega)]
    rfl
   obtain ⟨qb, q0, rfl, hql, _⟩ := e4 0 _ (hget 0 (by omega))
   refine ⟨(qb, q0, rc), fun _ => ⟨?_, hql, fun a ha => ?_⟩⟩
   ·rw [e3]
    have : (zI r).length = t.acts.length := by unfold zI; rw [List.length_map]; exact h2
    rw [this]
   ·obtain ⟨b', off', e5, _, e6⟩ := e4 a _ (hget a ha)
    cases e5
    exact e6
  ·exact ⟨(0, 0, 0), fun h => absurd h hi⟩
 have hch := fun i => Classical.choose_spec (hrow i)
 refine ⟨ab, a0, fb, f0, nb, n0, fun i => (Classical.choose (hrow i)).1, fun i => (Classical.choose (hrow i)).2.1, fun i => (Classical.choose (hrow i)).2.2, rfl, rfl, rfl, ⟨rfl, rfl, hR.acts.n6, hA, hn, hR.n100, hR, fun i s hs => ?_, fun i hi => ?_, fun i hi => (hch i hi).1, fun i a hi ha => (hch i hi).2.2 a ha, hal, hfl', hnl, fun i hi => (hch i hi).2.1⟩⟩
 ·obtain ⟨b, off, e1, _, e3⟩ := h.acts i s hs
  cases e1
  exact e3
 ·obtain ⟨b, off, e1, _, e3⟩ := h.fl i _ (hzf i hi)
  cases e1
  exact e3
structure OnB (w W : World) (T : Array Value) : Prop where
 b0 : W.heap[w.heap.size]? = some (.cells T 36 (0, 0))
 bel : Below w.heap.size w W
theorem OnB.later {w W W' : World} {T : Array Value} (h : OnB w W T) (hb : Below W.heap.size W W') : OnB w W' T :=
 ⟨(hb.block _ (lt_of_blk h.b0)).trans h.b0, h.bel.trans (hb.mono h.bel.size)⟩
theorem OnB.start (w : World) (T : Array Value) : OnB w (w.alloc (.cells T 36)) T := ⟨blk_alloc _ _, (Below.refl _ _).alloc (Nat.le_refl _) _⟩
set_option maxHeartbeats 4000000 in
set_option maxRecDepth 100000 in
theorem shaped_any (w : World) (t : Tb) (A n ab a0 fb f0 nb n0 ac fc nc : Nat) (rb ro rc : Nat → Nat) (hL : TbL w t A n ab a0 fb f0 nb n0 rb ro rc) :
  Calls Tryz.prog 18 #[.agg #[.slice (some ⟨ab, a0, none⟩) A ac, .slice (some ⟨fb, f0, none⟩) n fc, .slice (some ⟨nb, n0, none⟩) n nc]] w fun e w' => e = .returned (.bool true) ∧ Below w.heap.size w w' := by
 have hA1 := hL.A1
 have hA6 := hL.A6
 have hn1 := hL.n1
 have hn100 := hL.n100
 have HL := hide hL
 have H0 := hide (OnB.start w #[.slice (some ⟨ab, a0, none⟩) A ac, .slice (some ⟨fb, f0, none⟩) n fc, .slice (some ⟨nb, n0, none⟩) n nc])
 have hA1' : ¬ (A : Int) < 1 := by omega
 have hn1' : ¬ (n : Int) < 1 := by omega
 clear hL
 have c00 := cell_of_blk (unhide H0).b0 0
 have c01 := cell_of_blk (unhide H0).b0 1
 have c02 := cell_of_blk (unhide H0).b0 2
 have l0 := lt_of_blk (unhide H0).b0
 go_enter Tryz.func18, Tryz.ntmps18
 go_wp2_with fail
 generalize w.alloc (.cells #[.slice (some ⟨ab, a0, none⟩) A ac, .slice (some ⟨fb, f0, none⟩) n fc, .slice (some ⟨nb, n0, none⟩) n nc] 36) = W0 at *
 clear c00 c01 c02 l0
 go_loopw [4] (fun x wr => ∃ k : Nat, k ≤ n ∧ x = .int .i64 k ∧ Hid (OnB w wr #[.slice (some ⟨ab, a0, none⟩) A ac, .slice (some ⟨fb, f0, none⟩) n fc, .slice (some ⟨nb, n0, none⟩) n nc])) (fun x _ => n - (intOf x).toNat)
 case atStart => exact ⟨0, Nat.zero_le _, rfl, H0⟩
 case round =>
  obtain ⟨k, hk, rfl, H1⟩ := hrel
  have c00 := cell_of_blk (unhide H1).b0 0
  have c02 := cell_of_blk (unhide H1).b0 2
  have l0 := lt_of_blk (unhide H1).b0
  by_cases hlt : k < n
  ·have hkn : (k : Int) < (n : Int) := by omega
   have hrow := ((unhide HL).later (unhide H1).bel).row k hlt
   have hln := ((unhide HL).later (unhide H1).bel).ln
   go_wp2_with fail
   go_quiet (fail)
   go_wp2_with fail
   clear c00 c02 l0 hrow hln
   rename World => wR
   go_loopw [5] (fun x wr => ∃ j : Nat, j ≤ A ∧ x = .int .i64 j ∧ Hid (OnB w wr #[.slice (some ⟨ab, a0, none⟩) A ac, .slice (some ⟨fb, f0, none⟩) n fc, .slice (some ⟨nb, n0, none⟩) n nc])) (fun x _ => A - (intOf x).toNat)
   case atStart => exact ⟨0, Nat.zero_le _, rfl, (unhide H1).later (bdn _ _)⟩
   case round =>
    obtain ⟨j, hj, rfl, H2⟩ := hrel
    have c00 := cell_of_blk (unhide H2).b0 0
    have c02 := cell_of_blk (unhide H2).b0 2
    have l0 := lt_of_blk (unhide H2).b0
    by_cases hjl : j < A
    ·have hjn : (j : Int) < (A : Int) := by omega
     have hrow := ((unhide HL).later (unhide H2).bel).row k hlt
     have hnx := ((unhide HL).later (unhide H2).bel).nxt k j hlt hjl
     have hln := ((unhide HL).later (unhide H2).bel).ln
     have hlr := ((unhide HL).later (unhide H2).bel).lr k hlt
     have hx1 : ¬ (nxT t k j : Int) < 0 := by omega
     have hx2 : ¬ (n : Int) ≤ (nxT t k j : Int) := by have := (unhide HL).lt hlt hjl; omega
     go_wp2_with fail
     go_roundw
     case rel => exact ⟨j + 1, by omega, by go_num, H2⟩
     case measure => simp [intOf]; omega
    ·have hjn : ¬ (j : Int) < (A : Int) := by omega
     go_wp2_with fail
     go_roundw
     case rel => exact ⟨k + 1, by omega, by go_num, H2⟩
     case measure => simp [intOf]; omega
  ·have hkn : ¬ (k : Int) < (n : Int) := by omega
   go_wp2_with fail
   go_ret
   exact ⟨rfl, (unhide H1).bel⟩
theorem run_snoc (t : Tb) (a : Nat) : ∀ (v : List Nat) (p : Nat), runT t p (v ++ [a]) = nxT t (runT t p v) a
 | [], p => rfl
 | b :: v, p => by rw [List.cons_append, runT, runT]; exact run_snoc t a v _
theorem run_lt {t : Tb} (h : RightT t) : ∀ (v : List Nat) (p : Nat), (∀ a ∈ v, a < t.acts.length) → p < t.nx.length → runT t p v < t.nx.length
 | [], _, _, hp => hp
 | a :: v, p, hv, hp => by rw [runT]; exact run_lt h v _ (fun b hb => hv b (List.mem_cons_of_mem _ hb)) (h.go hp (hv a (List.mem_cons_self ..)))
set_option maxHeartbeats 4000000 in
set_option maxRecDepth 100000 in
theorem walk_any (w : World) (t : Tb) (A n ab a0 fb f0 nb n0 ac fc nc : Nat) (rb ro rc : Nat → Nat) (hL : TbL w t A n ab a0 fb f0 nb n0 rb ro rc) (lo : Option Addr) (lc N : Nat) (l : List Nat) (hN : l.length = N) (hI : InS w lo (zI l)) (hl : ∀ a ∈ l, a < A) (hmax : N ≤ 10000000000000) :
  Calls Tryz.prog 20 #[.agg #[.slice (some ⟨ab, a0, none⟩) A ac, .slice (some ⟨fb, f0, none⟩) n fc, .slice (some ⟨nb, n0, none⟩) n nc], .slice lo N lc] w fun e w' => e = .returned (.int .i64 (runT t 0 l : Int)) ∧ Below w.heap.size w w' := by
 have hA1 := hL.A1
 have hA6 := hL.A6
 have hn1 := hL.n1
 have hn100 := hL.n100
 have HL := hide hL
 have HI := hide hI
 have HN := hide hN
 have HA := hide hl
 have H0 := hide (OnB.start w #[.slice (some ⟨ab, a0, none⟩) A ac, .slice (some ⟨fb, f0, none⟩) n fc, .slice (some ⟨nb, n0, none⟩) n nc])
 clear hL hI hN hl
 go_enter Tryz.func20, Tryz.ntmps20
 go_wp2_with fail
 generalize w.alloc (.cells #[.slice (some ⟨ab, a0, none⟩) A ac, .slice (some ⟨fb, f0, none⟩) n fc, .slice (some ⟨nb, n0, none⟩) n nc] 36) = W0 at *
 go_loopw [5, 6] (fun y x wr => ∃ k : Nat, k ≤ N ∧ x = .int .i64 k ∧ y = .int .i64 (runT t 0 (l.take k) : Int) ∧ Hid (OnB w wr #[.slice (some ⟨ab, a0, none⟩) A ac, .slice (some ⟨fb, f0, none⟩) n fc, .slice (some ⟨nb, n0, none⟩) n nc])) (fun _ x _ => N - (intOf x).toNat)
 case atStart => exact ⟨0, Nat.zero_le _, rfl, rfl, H0⟩
 case round =>
  obtain ⟨k, hk, rfl, rfl, H1⟩ := hrel
  have c02 := cell_of_blk (unhide H1).b0 2
  have l0 := lt_of_blk (unhide H1).b0
  by_cases hlt : k < N
  ·have hkn : (k : Int) < (N : Int) := by omega
   have hkl : k < l.length := by rw [unhide HN]; exact hlt
   have hz : (zI l)[k]? = some (l[k] : Int) := by unfold zI; rw [List.getElem?_map, List.getElem?_eq_getElem hkl]; rfl
   have ha := unhide HA l[k] (List.getElem_mem hkl)
   have hsn : runT t 0 (l.take (k + 1)) = nxT t (runT t 0 (l.take k)) l[k] := by
    rw [List.take_add_one, List.getElem?_eq_getElem hkl]; exact run_snoc t _ _ _
   have hrl : runT t 0 (l.take k) < n := by
    have := run_lt (unhide HL).rt (l.take k) 0 (fun a ha => by rw [(unhide HL).hA]; exact unhide HA a (List.mem_of_mem_take ha)) (by rw [(unhide HL).hn]; omega)
    rw [(unhide HL).hn] at this
    exact this
   obtain ⟨lb, l1, rfl, hlb, hlc⟩ := (unhide HI).later (unhide H1).bel k _ hz
   have HSN := hide hsn
   generalize l[k] = a at *
   generalize runT t 0 (l.take k) = x at *
   have hrow := ((unhide HL).later (unhide H1).bel).row x hrl
   have hnx := ((unhide HL).later (unhide H1).bel).nxt x a hrl ha
   have hln := ((unhide HL).later (unhide H1).bel).ln
   have hlr := ((unhide HL).later (unhide H1).bel).lr x hrl
   have hxn : (x : Int) < (n : Int) := by omega
   have haA : (a : Int) < (A : Int) := by omega
   clear hsn hz
   go_wp2_with fail
   go_quiet (fail)
   go_wp2_with fail
   go_roundw
   case rel => exact ⟨k + 1, by omega, by go_num, by rw [unhide HSN], (unhide H1).later (bdn _ _)⟩
   case measure => simp [intOf]; omega
  ·have hkn : ¬ (k : Int) < (N : Int) := by omega
   have HT : Hid (l.take k = l) := List.take_of_length_le (by rw [unhide HN]; omega)
   go_wp2_with fail
   go_ret
   exact ⟨by rw [unhide HT]; rfl, (unhide H1).bel⟩
theorem AL.put {w wr : World} {T : Array Value} {L : List Bool} (h : AL w wr (w.heap.size + 1) T L) (k : Nat) (x : Bool) : AL w (wr.setCell ⟨w.heap.size + 1, k, none⟩ (.bool x)) (w.heap.size + 1) T (L.set k x) := by
 refine ⟨?_, ?_, ?_⟩
 ·have := blk_set h.blk k (.bool x)
  rw [boolC_set] at this
  exact this
 ·exact (Below.heap_setCell _ _ _ _ (by show w.heap.size ≠ w.heap.size + 1; omega)).trans h.box
 ·exact h.bel.setCell (p := ⟨w.heap.size + 1, k, none⟩) (by show _ ≤ w.heap.size + 1; omega) _
theorem AL.later {w wr wr' : World} {g : Nat} {T : Array Value} {L : List Bool} (h : AL w wr g T L) (hb : Below wr.heap.size wr wr') : AL w wr' g T L :=
 ⟨(hb.block _ (lt_of_blk h.blk)).trans h.blk, (hb.block _ (lt_of_blk h.box)).trans h.box, h.bel.trans (hb.mono h.bel.size)⟩
theorem AL.at {w wr : World} {g : Nat} {T : Array Value} {L : List Bool} (h : AL w wr g T L) {k : Nat} (hk : k < L.length) : wr.cell? ⟨g, k, none⟩ = some (.bool (lv L k)) := by
 rw [cell_of_blk h.blk, boolC_at L k (lv L k) (by unfold lv; rw [List.getElem?_eq_getElem hk]; rfl)]
def kvPart (t : Tb) (L : List Bool) (i a : Nat) : Bool := lv L i || accT t i || (((t.nx[i]?.getD []).take a).any (lv L))
theorem kvPart_zero (t : Tb) (L : List Bool) (i : Nat) : kvPart t L i 0 = (lv L i || accT t i) := by unfold kvPart; simp
theorem kvPart_succ {t : Tb} (h : RightT t) (L : List Bool) {i a : Nat} (hi : i < t.nx.length) (hl : i < L.length) (ha : a < t.acts.length) :
  kvPart t L i (a + 1) = (kvPart t L i a || lv (L.set i (kvPart t L i a)) (nxT t i a)) := by
 obtain ⟨r, k, h1, h2, _⟩ := h.step hi ha
 have e : nxT t i a = k := by unfold nxT; rw [h1]; simp only [Option.getD_some]; rw [h2]; rfl
 have e2 : kvPart t L i (a + 1) = (kvPart t L i a || lv L k) := by
  unfold kvPart
  rw [h1]
  simp only [Option.getD_some]
  rw [List.take_add_one, h2]
  simp [Bool.or_assoc]
 rw [e2, e, lv_set]
 split
 ·rename_i hk
  rw [← hk.1]
  have : lv L i = true → kvPart t L i a = true := fun h => by unfold kvPart; rw [h]; rfl
  cases h1 : kvPart t L i a <;> cases h2 : lv L i <;> simp_all
 ·rfl
theorem kvPart_all {t : Tb} (h : RightT t) (L : List Bool) {i : Nat} (hi : i < t.nx.length) : L.set i (kvPart t L i t.acts.length) = kvRow t L i := by
 unfold kvPart kvRow
 have : (t.nx[i]?.getD []).take t.acts.length = t.nx[i]?.getD [] := by
  rw [List.getElem?_eq_getElem hi]
  exact List.take_of_length_le (by rw [Option.getD_some, (h.rs _ (List.getElem_mem hi)).1]; exact Nat.le_refl _)
 rw [this]
theorem acc_mod (t : Tb) (i : Nat) : (flT t i : Int).tmod 2 = if accT t i then 1 else 0 := by
 unfold accT
 rw [Int.tmod_eq_emod_of_nonneg (by omega)]
 show ((flT t i : Nat) : Int) % 2 = if (flT t i % 2 == 1) = true then 1 else 0
 by_cases h : flT t i % 2 = 1
 ·rw [if_pos (by simpa using h)]; omega
 ·rw [if_neg (by simpa using h)]; omega
theorem range_fold (t : Tb) (L : List Bool) (i : Nat) : (List.range (i + 1)).foldl (kvRow t) L = kvRow t ((List.range i).foldl (kvRow t) L) i := by
 rw [List.range_succ, List.foldl_append]
 rfl
set_option maxHeartbeats 8000000 in
set_option maxRecDepth 100000 in
theorem living_any (w : World) (t : Tb) (A n ab a0 fb f0 nb n0 ac fc nc : Nat) (rb ro rc : Nat → Nat) (hL : TbL w t A n ab a0 fb f0 nb n0 rb ro rc) :
  Calls Tryz.prog 22 #[.agg #[.slice (some ⟨ab, a0, none⟩) A ac, .slice (some ⟨fb, f0, none⟩) n fc, .slice (some ⟨nb, n0, none⟩) n nc]] w fun e w' => e = .returned (.bool true) ∧ Below w.heap.size w w' := by
 have hA1 := hL.A1
 have hA6 := hL.A6
 have hn1 := hL.n1
 have hn100 := hL.n100
 have HL := hide hL
 obtain ⟨i0, hi0, hz0, hz1, hz2⟩ := info_parts Tryz.infoBool
 have hmk := fun (w : World) => make_run (P := Tryz.prog) w 87 4 i0 (.bool false) Tryz.underlying87 hi0 hz0 hz1 rfl (by omega) n (by omega)
 clear hi0 hz0 hz1 hz2
 have hB : Below w.heap.size w (w.alloc (.cells #[.slice (some ⟨ab, a0, none⟩) A ac, .slice (some ⟨fb, f0, none⟩) n fc, .slice (some ⟨nb, n0, none⟩) n nc] 36)) := (Below.refl _ _).alloc (Nat.le_refl _) _
 have hbool : boolC (List.replicate n false) = Array.replicate n (.bool false) := by
  unfold boolC; simp
 have HA0 : Hid (AL w ((w.alloc (.cells #[.slice (some ⟨ab, a0, none⟩) A ac, .slice (some ⟨fb, f0, none⟩) n fc, .slice (some ⟨nb, n0, none⟩) n nc] 36)).alloc (.cells (Array.replicate n (.bool false)) 4)) (w.heap.size + 1) #[.slice (some ⟨ab, a0, none⟩) A ac, .slice (some ⟨fb, f0, none⟩) n fc, .slice (some ⟨nb, n0, none⟩) n nc] (List.replicate n false)) := by
  rw [← hbool]
  exact ⟨blk_alloc' _ _ _ (by simp), (Below.heap_alloc _ _ _ (by simp)).trans (blk_alloc _ _), hB.alloc (by simp) _⟩
 have hb0 := blk_alloc w (.cells #[.slice (some ⟨ab, a0, none⟩) A ac, .slice (some ⟨fb, f0, none⟩) n fc, .slice (some ⟨nb, n0, none⟩) n nc] 36)
 have c01 := cell_of_blk hb0 1
 have l0 := lt_of_blk hb0
 clear hL hB hbool hb0
 go_enter Tryz.func22, Tryz.ntmps22
 go_wp2_with fail
 clear c01 l0 hmk
 generalize ((w.alloc (.cells #[.slice (some ⟨ab, a0, none⟩) A ac, .slice (some ⟨fb, f0, none⟩) n fc, .slice (some ⟨nb, n0, none⟩) n nc] 36)).alloc (.cells (Array.replicate n (.bool false)) 4)) = W0 at *
 go_loopw [5] (fun x wr => ∃ k : Nat, k ≤ n + 1 ∧ x = .int .i64 k ∧ Hid (AL w wr (w.heap.size + 1) #[.slice (some ⟨ab, a0, none⟩) A ac, .slice (some ⟨fb, f0, none⟩) n fc, .slice (some ⟨nb, n0, none⟩) n nc] (kvRounds t k (List.replicate n false)))) (fun x _ => n + 1 - (intOf x).toNat)
 case atStart => exact ⟨0, Nat.zero_le _, rfl, HA0⟩
 case round =>
  obtain ⟨k, hk, rfl, H1⟩ := hrel
  by_cases hlt : k ≤ n
  ·have hkn : (k : Int) ≤ (n : Int) := by omega
   have hsz : (kvRounds t k (List.replicate n false)).length = n := (kvRounds_le t _ _).1.symm.trans (by simp)
   have HKS := hide (kvRounds_succ t k (List.replicate n false))
   generalize kvRounds t k (List.replicate n false) = L0 at *
   have HSZ := hide hsz
   clear hsz
   go_wp2_with fail
   rename World => wR
   go_loopw [6] (fun x wr => ∃ i : Nat, i ≤ n ∧ x = .int .i64 i ∧ Hid (AL w wr (w.heap.size + 1) #[.slice (some ⟨ab, a0, none⟩) A ac, .slice (some ⟨fb, f0, none⟩) n fc, .slice (some ⟨nb, n0, none⟩) n nc] ((List.range i).foldl (kvRow t) L0))) (fun x _ => n - (intOf x).toNat)
   case atStart => exact ⟨0, Nat.zero_le _, rfl, H1⟩
   case round =>
    obtain ⟨i, hi, rfl, H2⟩ := hrel
    by_cases hil : i < n
    ·have hin : (i : Int) < (n : Int) := by omega
     have HRF := hide (range_fold t L0 i)
     have hlen : ((List.range i).foldl (kvRow t) L0).length = n := (kfoldl_le t _ _).1.symm.trans (unhide HSZ)
     generalize (List.range i).foldl (kvRow t) L0 = L at *
     have hcl := (unhide H2).at (k := i) (by omega)
     have hfr := frozen_of_blk (unhide H2).blk i
     have hlg := lt_of_blk (unhide H2).blk
     have c01 := cell_of_blk (unhide H2).box 1
     have l0 := lt_of_blk (unhide H2).box
     have hfl := ((unhide HL).later (unhide H2).bel).fla i hil
     have hlf := ((unhide HL).later (unhide H2).bel).lf
     have hmod := acc_mod t i
     have HK0 := hide (kvPart_zero t L i)
     have HLN := hide hlen
     clear hlen
     have hthree : ∃ b : Bool, Hid (b = kvPart t L i 0) ∧ (lv L i = true ∧ b = true ∨ lv L i = false ∧ accT t i = true ∧ b = true ∨ lv L i = false ∧ accT t i = false ∧ b = false) := by
      refine ⟨kvPart t L i 0, rfl, ?_⟩
      rw [unhide HK0]
      cases lv L i <;> cases accT t i <;> simp
     obtain ⟨b, HB, hc⟩ := hthree
     have HP := hide ((unhide H2).put i b)
     rcases hc with ⟨h1, rfl⟩ | ⟨h1, h2, rfl⟩ | ⟨h1, h2, rfl⟩
     all_goals (
      try rw [h2] at hmod
      rw [h1] at hcl
      try simp only [if_true, Bool.false_eq_true, if_false] at hmod
      go_wp2_with fail
      clear hcl hfr hlg c01 l0 hfl hlf hmod
      rename World => wS
      go_loopw [7] (fun x wr => ∃ a : Nat, a ≤ A ∧ x = .int .i64 a ∧ Hid (AL w wr (w.heap.size + 1) #[.slice (some ⟨ab, a0, none⟩) A ac, .slice (some ⟨fb, f0, none⟩) n fc, .slice (some ⟨nb, n0, none⟩) n nc] (L.set i (kvPart t L i a)))) (fun x _ => A - (intOf x).toNat)
      case atStart => exact ⟨0, Nat.zero_le _, rfl, by rw [← unhide HB]; exact HP⟩
      case round =>
       obtain ⟨a, ha, rfl, H3⟩ := hrel
       have c00 := cell_of_blk (unhide H3).box 0
       have c02 := cell_of_blk (unhide H3).box 2
       have l0 := lt_of_blk (unhide H3).box
       by_cases hal : a < A
       ·have han : (a : Int) < (A : Int) := by omega
        have hxn := (unhide HL).lt hil hal
        have HKS2 := hide (kvPart_succ (unhide HL).rt L (i := i) (a := a) (by rw [(unhide HL).hn]; exact hil) (by rw [unhide HLN]; exact hil) (by rw [(unhide HL).hA]; exact hal))
        have hci := (unhide H3).at (k := i) (by rw [List.length_set, unhide HLN]; exact hil)
        have hcx := (unhide H3).at (k := nxT t i a) (by rw [List.length_set, unhide HLN]; exact hxn)
        have hself : lv (L.set i (kvPart t L i a)) i = kvPart t L i a := by rw [lv_set, if_pos ⟨rfl, by rw [unhide HLN]; exact hil⟩]
        rw [hself] at hci
        have HP3 := hide ((unhide H3).put i (kvPart t L i (a + 1)))
        rw [List.set_set] at HP3
        have hfr := frozen_of_blk (unhide H3).blk i
        have hlg := lt_of_blk (unhide H3).blk
        have hrow := ((unhide HL).later (unhide H3).bel).row i hil
        have hnx := ((unhide HL).later (unhide H3).bel).nxt i a hil hal
        have hln := ((unhide HL).later (unhide H3).bel).ln
        have hlr := ((unhide HL).later (unhide H3).bel).lr i hil
        have hxi : (nxT t i a : Int) < (n : Int) := by omega
        generalize nxT t i a = x at *
        have hres : kvPart t L i a = true ∧ kvPart t L i (a + 1) = true ∨ kvPart t L i a = false ∧ lv (L.set i (kvPart t L i a)) x = true ∧ kvPart t L i (a + 1) = true ∨ kvPart t L i a = false ∧ lv (L.set i (kvPart t L i a)) x = false ∧ kvPart t L i (a + 1) = false := by
         rw [unhide HKS2]
         generalize lv (L.set i (kvPart t L i a)) x = y
         cases kvPart t L i a <;> cases y <;> simp
        clear hself
        rcases hres with ⟨k1, k2⟩ | ⟨k1, k3, k2⟩ | ⟨k1, k3, k2⟩
        ·rw [k2] at HP3
         rw [k1] at hci
         go_wp2_with fail
         go_roundw
         case rel => exact ⟨a + 1, by omega, by go_num, by rw [k2]; exact HP3⟩
         case measure => simp [intOf]; omega
        ·rw [k2] at HP3
         rw [k1] at hci
         rw [k3] at hcx
         go_wp2_with fail
         go_roundw
         case rel => exact ⟨a + 1, by omega, by go_num, by rw [k2]; exact HP3⟩
         case measure => simp [intOf]; omega
        ·rw [k2] at HP3
         rw [k1] at hci
         rw [k3] at hcx
         go_wp2_with fail
         go_roundw
         case rel => exact ⟨a + 1, by omega, by go_num, by rw [k2]; exact HP3⟩
         case measure => simp [intOf]; omega
       ·have han : ¬ (a : Int) < (A : Int) := by omega
        have haA : a = A := by omega
        have HFN : Hid (L.set i (kvPart t L i a) = kvRow t L i) := by
         show _ = _
         rw [haA, ← (unhide HL).hA]
         exact kvPart_all (unhide HL).rt L (by rw [(unhide HL).hn]; exact hil)
        go_wp2_with fail
        go_roundw
        case rel => exact ⟨i + 1, by omega, by go_num, by rw [unhide HRF, ← unhide HFN]; exact H3⟩
        case measure => simp [intOf]; omega)
    ·have hin : ¬ (i : Int) < (n : Int) := by omega
     have hie : i = n := by omega
     subst hie
     go_wp2_with fail
     go_roundw
     case rel => exact ⟨k + 1, by omega, by go_num, by rw [unhide HKS]; unfold kvRound; rw [unhide HSZ]; exact H2⟩
     case measure => simp [intOf]; omega
  ·have hkn : ¬ (k : Int) ≤ (n : Int) := by omega
   obtain rfl : k = n + 1 := by omega
   have HLV : Hid (∀ i, lv (kvRounds t (n + 1) (List.replicate n false)) i = true ↔ Lives t i) := by
    have := living_keep (t := t) (unhide HL).rt.fl
    rw [(unhide HL).rt.fl, (unhide HL).hn] at this
    exact this
   have hsz : (kvRounds t (n + 1) (List.replicate n false)).length = n := (kvRounds_le t _ _).1.symm.trans (by simp)
   generalize kvRounds t (n + 1) (List.replicate n false) = L at *
   have HSZ := hide hsz
   clear hsz
   go_wp2_with fail
   rename World => wR
   go_loopw [8] (fun x wr => ∃ i : Nat, i ≤ n ∧ x = .int .i64 i ∧ Hid (AL w wr (w.heap.size + 1) #[.slice (some ⟨ab, a0, none⟩) A ac, .slice (some ⟨fb, f0, none⟩) n fc, .slice (some ⟨nb, n0, none⟩) n nc] L)) (fun x _ => n - (intOf x).toNat)
   case atStart => exact ⟨0, Nat.zero_le _, rfl, H1⟩
   case round =>
    obtain ⟨i, hi, rfl, H2⟩ := hrel
    by_cases hil : i < n
    ·have hin : (i : Int) < (n : Int) := by omega
     have hcl := (unhide H2).at (k := i) (by rw [unhide HSZ]; exact hil)
     have hlg := lt_of_blk (unhide H2).blk
     have c01 := cell_of_blk (unhide H2).box 1
     have l0 := lt_of_blk (unhide H2).box
     have hfl := ((unhide HL).later (unhide H2).bel).fla i hil
     have hlf := ((unhide HL).later (unhide H2).bel).lf
     have hfle : i < t.fl.length := by have := (unhide HL).rt.fl; have := (unhide HL).hn; omega
     have hfe : t.fl[i]? = some (flT t i) := by unfold flT; rw [List.getElem?_eq_getElem hfle]; rfl
     have hf3 : flT t i ≤ 3 := (unhide HL).rt.fs _ (List.mem_of_getElem? hfe)
     have hiff := ((unhide HL).rt.alive i (flT t i) hfe).trans (unhide HLV i).symm
     generalize flT t i = f at *
     clear hfe hfle
     have hf0 : ¬ (f : Int) < 0 := by omega
     have hf3' : ¬ 3 < (f : Int) := by omega
     cases hb : lv L i with
     | true =>
      rw [hb] at hcl
      have hf2 : 2 ≤ (f : Int) := by have := hiff.2 hb; omega
      clear hiff hb
      go_wp2_with fail
      go_quiet (fail)
      go_wp2_with fail
      go_roundw
      case rel => exact ⟨i + 1, by omega, by go_num, (unhide H2).later (bdn _ _)⟩
      case measure => simp [intOf]; omega
     | false =>
      rw [hb] at hcl
      have hf2 : ¬ 2 ≤ (f : Int) := fun h => by have := hiff.1 (by omega); rw [hb] at this; cases this
      clear hiff hb
      go_wp2_with fail
      go_quiet (fail)
      go_wp2_with fail
      go_roundw
      case rel => exact ⟨i + 1, by omega, by go_num, (unhide H2).later (bdn _ _)⟩
      case measure => simp [intOf]; omega
    ·have hin : ¬ (i : Int) < (n : Int) := by omega
     go_wp2_with fail
     go_ret
     exact ⟨rfl, (unhide H2).bel⟩
end Go.Proofs.YtidakhhekofkoaaGreatDoor
