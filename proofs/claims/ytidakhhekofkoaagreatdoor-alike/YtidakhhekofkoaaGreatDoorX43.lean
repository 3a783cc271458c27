/- A right table, as it lies; shaped, walk. -/
import Derived.Test.YtidakhhekofkoaaGreatDoorX28
import Derived.Test.YtidakhhekofkoaaGreatDoorX42
import Derived.Test.YtidakhhekofkoaaGreatDoorX29
set_option linter.unusedSimpArgs false
set_option linter.unusedVariables false
namespace Go.Proofs.YtidakhhekofkoaaGreatDoor
open Go.RowKit Go.Deep
def nxT (t : Tb) (i a : Nat) : Nat := ((t.nx[i]?.getD [])[a]?).getD 0
def flT (t : Tb) (i : Nat) : Nat := t.fl[i]?.getD 0
structure TbL (W : World) (t : Tb) (A n ab a0 fb f0 nb n0 : Nat) (rb ro rc : Nat → Nat) : Prop where
 hA : t.acts.length = A
 hn : t.nx.length = n
 A6 : A ≤ 6
 A1 : 1 ≤ A
 n1 : 1 ≤ n
 n100 : n ≤ 100
 rt : RightT t
 act : ∀ i s, t.acts[i]? = some s → W.cell? ⟨ab, a0 + i, none⟩ = some (.string s)
 fla : ∀ i, i < n → W.cell? ⟨fb, f0 + i, none⟩ = some (.int .i64 (flT t i : Int))
 row : ∀ i, i < n → W.cell? ⟨nb, n0 + i, none⟩ = some (.slice (some ⟨rb i, ro i, none⟩) A (rc i))
 nxt : ∀ i a, i < n → a < A → W.cell? ⟨rb i, ro i + a, none⟩ = some (.int .i64 (nxT t i a : Int))
 la : ab < W.heap.size
 lf : fb < W.heap.size
 ln : nb < W.heap.size
 lr : ∀ i, i < n → rb i < W.heap.size
theorem TbL.later {W W' : World} {t : Tb} {A n ab a0 fb f0 nb n0 : Nat} {rb ro rc : Nat → Nat} (h : TbL W t A n ab a0 fb f0 nb n0 rb ro rc) (hb : Below W.heap.size W W') : TbL W' t A n ab a0 fb f0 nb n0 rb ro rc :=
 ⟨h.hA, h.hn, h.A6, h.A1, h.n1, h.n100, h.rt, fun i s hs => (bcell3 hb _ _ h.la).trans (h.act i s hs), fun i hi => (bcell3 hb _ _ h.lf).trans (h.fla i hi), fun i hi => (bcell3 hb _ _ h.ln).trans (h.row i hi),
  fun i a hi ha => (bcell3 hb _ _ (h.lr i hi)).trans (h.nxt i a hi ha), Nat.lt_of_lt_of_le h.la hb.size, Nat.lt_of_lt_of_le h.lf hb.size, Nat.lt_of_lt_of_le h.ln hb.size, fun i hi => Nat.lt_of_lt_of_le (h.lr i hi) hb.size⟩
theorem nxT_lt {t : Tb} (h : RightT t) {x a : Nat} (hx : x < t.nx.length) (ha : a < t.acts.length) : nxT t x a < t.nx.length := h.go hx ha
theorem TbL.lt {W : World} {t : Tb} {A n ab a0 fb f0 nb n0 : Nat} {rb ro rc : Nat → Nat} (h : TbL W t A n ab a0 fb f0 nb n0 rb ro rc) {x a : Nat} (hx : x < n) (ha : a < A) : nxT t x a < n := by
 have := nxT_lt h.rt (x := x) (a := a) (by have := h.hn; omega) (by have := h.hA; omega)
 have := h.hn
 omega
theorem tbl_of {W : World} {ao fo no : Option Addr} {ac : Nat} {t : Tb} (h : TbI W ao fo no ac t.z) (hR : RightT t) :
  ∃ ab a0 fb f0 nb n0 rb ro rc, ao = some ⟨ab, a0, none⟩ ∧ fo = some ⟨fb, f0, none⟩ ∧ no = some ⟨nb, n0, none⟩ ∧ TbL W t t.acts.length t.nx.length ab a0 fb f0 nb n0 rb ro rc := by
 have hA := hR.acts.n1
 have hn := hR.n1
 have hfl := hR.fl
 have hzf : ∀ i, i < t.nx.length → t.z.fl[i]? = some (flT t i : Int) := fun i hi => by
  show (zI t.fl)[i]? = _
  unfold zI flT
  rw [List.getElem?_map, List.getElem?_eq_getElem (show i < t.fl.length by omega)]
  rfl
 have hzr : ∀ i, i < t.nx.length → ∃ r, t.nx[i]? = some r ∧ r.length = t.acts.length ∧ t.z.nx[i]? = some (zI r) := fun i hi => by
  refine ⟨t.nx[i], List.getElem?_eq_getElem hi, (hR.rs _ (List.getElem_mem hi)).1, ?_⟩
  show (t.nx.map zI)[i]? = _
  rw [List.getElem?_map, List.getElem?_eq_getElem hi]
  rfl
 obtain ⟨ab, a0, rfl, hal, _⟩ := h.acts 0 t.acts[0] (show t.acts[0]? = _ from List.getElem?_eq_getElem (by omega))
 obtain ⟨fb, f0, rfl, hfl', _⟩ := h.fl 0 _ (hzf 0 (by omega))
 obtain ⟨r0, _, _, hr0⟩ := hzr 0 (by omega)
 obtain ⟨nb, n0, _, _, rfl, hnl, _, _⟩ := h.nx 0 _ hr0
 have hrow : ∀ i, ∃ p : Nat × Nat × Nat, i < t.nx.length → W.cell? ⟨nb, n0 + i, none⟩ = some (.slice (some ⟨p.1, p.2.1, none⟩) t.acts.length p.2.2) ∧ p.1 < W.heap.size ∧ ∀ a, a < t.acts.length → W.cell? ⟨p.1, p.2.1 + a, none⟩ = some (.int .i64 (nxT t i a : Int)) := fun i => by
  by_cases hi : i < t.nx.length
  ·obtain ⟨r, h1, h2, h3⟩ := hzr i hi
   obtain ⟨b, off, ro, rc, e1, _, e3, e4⟩ := h.nx i _ h3
   cases e1
   have hget : ∀ a, a < t.acts.length → (zI r)[a]? = some (nxT t i a : Int) := fun a ha => by
    unfold zI nxT
    rw [List.getElem?_map, h1, List.getElem?_eq_getElem (show a < r.length by omega)]
    simp only [Option.getD_some, Option.map_some]
    rw [List.getElem?_eq_getElem (show a < r.length by omega)]
    rfl
   obtain ⟨qb, q0, rfl, hql, _⟩ := e4 0 _ (hget 0 (by omega))
   refine ⟨(qb, q0, rc), fun _ => ⟨?_, hql, fun a ha => ?_⟩⟩
   ·rw [e3]
    have : (zI r).length = t.acts.length := by unfold zI; rw [List.length_map]; exact h2
    rw [this]
   ·obtain ⟨b', off', e5, _, e6⟩ := e4 a _ (hget a ha)
    cases e5
    exact e6
  ·exact ⟨(0, 0, 0), fun h => absurd h hi⟩
 have hch := fun i => Classical.choose_spec (hrow i)
 refine ⟨ab, a0, fb, f0, nb, n0, fun i => (Classical.choose (hrow i)).1, fun i => (Classical.choose (hrow i)).2.1, fun i => (Classical.choose (hrow i)).2.2, rfl, rfl, rfl, ⟨rfl, rfl, hR.acts.n6, hA, hn, hR.n100, hR, fun i s hs => ?_, fun i hi => ?_, fun i hi => (hch i hi).1, fun i a hi ha => (hch i hi).2.2 a ha, hal, hfl', hnl, fun i hi => (hch i hi).2.1⟩⟩
 ·obtain ⟨b, off, e1, _, e3⟩ := h.acts i s hs
  cases e1
  exact e3
 ·obtain ⟨b, off, e1, _, e3⟩ := h.fl i _ (hzf i hi)
  cases e1
  exact e3
structure OnB (w W : World) (T : Array Value) : Prop where
 b0 : W.heap[w.heap.size]? = some (.cells T 36 (0, 0))
 bel : Below w.heap.size w W
theorem OnB.later {w W W' : World} {T : Array Value} (h : OnB w W T) (hb : Below W.heap.size W W') : OnB w W' T :=
 ⟨(hb.block _ (lt_of_blk h.b0)).trans h.b0, h.bel.trans (hb.mono h.bel.size)⟩
theorem OnB.start (w : World) (T : Array Value) : OnB w (w.alloc (.cells T 36)) T := ⟨blk_alloc _ _, (Below.refl _ _).alloc (Nat.le_refl _) _⟩
set_option maxHeartbeats 4000000 in
set_option maxRecDepth 100000 in
theorem shaped_any (w : World) (t : Tb) (A n ab a0 fb f0 nb n0 ac fc nc : Nat) (rb ro rc : Nat → Nat) (hL : TbL w t A n ab a0 fb f0 nb n0 rb ro rc) :
  Calls Tryz.prog 18 #[.agg #[.slice (some ⟨ab, a0, none⟩) A ac, .slice (some ⟨fb, f0, none⟩) n fc, .slice (some ⟨nb, n0, none⟩) n nc]] w fun e w' => e = .returned (.bool true) ∧ Below w.heap.size w w' := by
 have hA1 := hL.A1
 have hA6 := hL.A6
 have hn1 := hL.n1
 have hn100 := hL.n100
 have HL := hide hL
 have H0 := hide (OnB.start w #[.slice (some ⟨ab, a0, none⟩) A ac, .slice (some ⟨fb, f0, none⟩) n fc, .slice (some ⟨nb, n0, none⟩) n nc])
 have hA1' : ¬ (A : Int) < 1 := by omega
 have hn1' : ¬ (n : Int) < 1 := by omega
 clear hL
 have c00 := cell_of_blk (unhide H0).b0 0
 have c01 := cell_of_blk (unhide H0).b0 1
 have c02 := cell_of_blk (unhide H0).b0 2
 have l0 := lt_of_blk (unhide H0).b0
 go_enter Tryz.func18, Tryz.ntmps18
 go_wp2_with fail
 generalize w.alloc (.cells #[.slice (some ⟨ab, a0, none⟩) A ac, .slice (some ⟨fb, f0, none⟩) n fc, .slice (some ⟨nb, n0, none⟩) n nc] 36) = W0 at *
 clear c00 c01 c02 l0
 go_loopw [4] (fun x wr => ∃ k : Nat, k ≤ n ∧ x = .int .i64 k ∧ Hid (OnB w wr #[.slice (some ⟨ab, a0, none⟩) A ac, .slice (some ⟨fb, f0, none⟩) n fc, .slice (some ⟨nb, n0, none⟩) n nc])) (fun x _ => n - (intOf x).toNat)
 case atStart => exact ⟨0, Nat.zero_le _, rfl, H0⟩
 case round =>
  obtain ⟨k, hk, rfl, H1⟩ := hrel
  have c00 := cell_of_blk (unhide H1).b0 0
  have c02 := cell_of_blk (unhide H1).b0 2
  have l0 := lt_of_blk (unhide H1).b0
  by_cases hlt : k < n
  ·have hkn : (k : Int) < (n : Int) := by omega
   have hrow := ((unhide HL).later (unhide H1).bel).row k hlt
   have hln := ((unhide HL).later (unhide H1).bel).ln
   go_wp2_with fail
   go_quiet (fail)
   go_wp2_with fail
   clear c00 c02 l0 hrow hln
   rename World => wR
   go_loopw [5] (fun x wr => ∃ j : Nat, j ≤ A ∧ x = .int .i64 j ∧ Hid (OnB w wr #[.slice (some ⟨ab, a0, none⟩) A ac, .slice (some ⟨fb, f0, none⟩) n fc, .slice (some ⟨nb, n0, none⟩) n nc])) (fun x _ => A - (intOf x).toNat)
   case atStart => exact ⟨0, Nat.zero_le _, rfl, (unhide H1).later (bdn _ _)⟩
   case round =>
    obtain ⟨j, hj, rfl, H2⟩ := hrel
    have c00 := cell_of_blk (unhide H2).b0 0
    have c02 := cell_of_blk (unhide H2).b0 2
    have l0 := lt_of_blk (unhide H2).b0
    by_cases hjl : j < A
    ·have hjn : (j : Int) < (A : Int) := by omega
     have hrow := ((unhide HL).later (unhide H2).bel).row k hlt
     have hnx := ((unhide HL).later (unhide H2).bel).nxt k j hlt hjl
     have hln := ((unhide HL).later (unhide H2).bel).ln
     have hlr := ((unhide HL).later (unhide H2).bel).lr k hlt
     have hx1 : ¬ (nxT t k j : Int) < 0 := by omega
     have hx2 : ¬ (n : Int) ≤ (nxT t k j : Int) := by have := (unhide HL).lt hlt hjl; omega
     go_wp2_with fail
     go_roundw
     case rel => exact ⟨j + 1, by omega, by go_num, H2⟩
     case measure => simp [intOf]; omega
    ·have hjn : ¬ (j : Int) < (A : Int) := by omega
     go_wp2_with fail
     go_roundw
     case rel => exact ⟨k + 1, by omega, by go_num, H2⟩
     case measure => simp [intOf]; omega
  ·have hkn : ¬ (k : Int) < (n : Int) := by omega
   go_wp2_with fail
   go_ret
   exact ⟨rfl, (unhide H1).bel⟩
theorem acc_mod (t : Tb) (i : Nat) : (flT t i : Int).tmod 2 = if accT t i then 1 else 0 := by
 unfold accT
 rw [Int.tmod_eq_emod_of_nonneg (by omega)]
 show ((flT t i : Nat) : Int) % 2 = if (flT t i % 2 == 1) = true then 1 else 0
 by_cases h : flT t i % 2 = 1
 ·rw [if_pos (by simpa using h)]; omega
 ·rw [if_neg (by simpa using h)]; omega
end Go.Proofs.YtidakhhekofkoaaGreatDoor
