/- A right table, as it lies; shaped, walk. -/
import Derived.Test.YtidakhhekofkoaaGreatDoorK22
import Derived.Test.YtidakhhekofkoaaGreatDoorK33
import Derived.BigQuiet
import Derived.Test.YtidakhhekofkoaaGreatDoorK23
set_option linter.unusedSimpArgs false
set_option linter.unusedVariables false
namespace Go.Proofs.YtidakhhekofkoaaGreatDoor
open Go.RowKit Go.Deep
def nxT (t : Tb) (i a : Nat) : Nat := ((t.nx[i]?.getD [])[a]?).getD 0
def flT (t : Tb) (i : Nat) : Nat := t.fl[i]?.getD 0
structure TbL (W : World) (t : Tb) (A n ab a0 fb f0 nb n0 : Nat) (rb ro rc : Nat → Nat) : Prop where
 hA : t.acts.length = A
 hn : t.nx.length = n
 A6 : A ≤ 6
 A1 : 1 ≤ A
 n1 : 1 ≤ n
 n100 : n ≤ 100
 rt : RightT t
 act : ∀ i s, t.acts[i]? = some s → W.cell? ⟨ab, a0 + i, none⟩ = some (.string s)
 fla : ∀ i, i < n → W.cell? ⟨fb, f0 + i, none⟩ = some (.int .i64 (flT t i : Int))
 row : ∀ i, i < n → W.cell? ⟨nb, n0 + i, none⟩ = some (.slice (some ⟨rb i, ro i, none⟩) A (rc i))
 nxt : ∀ i a, i < n → a < A → W.cell? ⟨rb i, ro i + a, none⟩ = some (.int .i64 (nxT t i a : Int))
 la : ab < W.heap.size
 lf : fb < W.heap.size
 ln : nb < W.heap.size
 lr : ∀ i, i < n → rb i < W.heap.size
theorem TbL.later {W W' : World} {t : Tb} {A n ab a0 fb f0 nb n0 : Nat} {rb ro rc : Nat → Nat} (h : TbL W t A n ab a0 fb f0 nb n0 rb ro rc) (hb : Below W.heap.size W W') : TbL W' t A n ab a0 fb f0 nb n0 rb ro rc :=
 ⟨h.hA, h.hn, h.A6, h.A1, h.n1, h.n100, h.rt, fun i s hs => (bcell3 hb _ _ h.la).trans (h.act i s hs), fun i hi => (bcell3 hb _ _ h.lf).trans (h.fla i hi), fun i hi => (bcell3 hb _ _ h.ln).trans (h.row i hi),
  fun i a hi ha => (bcell3 hb _ _ (h.lr i hi)).trans (h.nxt i a hi ha), Nat.lt_of_lt_of_le h.la hb.size, Nat.lt_of_lt_of_le h.lf hb.size, Nat.lt_of_lt_of_le h.ln hb.size, fun i hi => Nat.lt_of_lt_of_le (h.lr i hi) hb.size⟩
theorem nxT_lt {t : Tb} (h : RightT t) {x a : Nat} (hx : x < t.nx.length) (ha : a < t.acts.length) : nxT t x a < t.nx.length := h.go hx ha
theorem TbL.lt {W : World} {t : Tb} {A n ab a0 fb f0 nb n0 : Nat} {rb ro rc : Nat → Nat} (h : TbL W t A n ab a0 fb f0 nb n0 rb ro rc) {x a : Nat} (hx : x < n) (ha : a < A) : nxT t x a < n := by
 have := nxT_lt h.rt (x := x) (a := a) (by have := h.hn; omega) (by have := h.hA; omega)
 have := h.hn
 omega
theorem tbl_of {W : World} {ao fo no : Option Addr} {ac : Nat} {t : Tb} (h : TbI W ao fo no ac t.z) (hR : RightT t) :
  ∃ ab a0 fb f0 nb n0 rb ro rc, ao = some ⟨ab, a0, none⟩ ∧ fo = some ⟨fb, f0, none⟩ ∧ no = some ⟨nb, n0, none⟩ ∧ TbL W t t.acts.length t.nx.length ab a0 fb f0 nb n0 rb ro rc := by
 have hA := hR.acts.n1
 have hn := hR.n1
 have hfl := hR.fl
 have hzf : ∀ i, i < t.nx.length → t.z.fl[i]? = some (flT t i : Int) := fun i hi => by
  show (zI t.fl)[i]? = _
  unfold zI flT
  rw [List.getElem?_map, List.getElem?_eq_getElem (show i < t.fl.length by omega)]
  rfl
 have hzr : ∀ i, i < t.nx.length → ∃ r, t.nx[i]? = some r ∧ r.length = t.acts.length ∧ t.z.nx[i]? = some (zI r) := fun i hi => by
  refine ⟨t.nx[i], List.getElem?_eq_getElem hi, (hR.rs _ (List.getElem_mem hi)).1, ?_⟩
  show (t.nx.map zI)[i]? = _
  rw [List.getElem?_map, List.getElem?_eq_getElem hi]
  rfl
 obtain ⟨ab, a0, rfl, hal, _⟩ := h.acts 0 t.acts[0] (show t.acts[0]? = _ from List.getElem?_eq_getElem (by omega))
 obtain ⟨fb, f0, rfl, hfl', _⟩ := h.fl 0 _ (hzf 0 (by omega))
 obtain ⟨r0, _, _, hr0⟩ := hzr 0 (by omega)
 obtain ⟨nb, n0, _, _, rfl, hnl, _, _⟩ := h.nx 0 _ hr0
 have hrow : ∀ i, ∃ p : Nat × Nat × Nat, i < t.nx.length → W.cell? ⟨nb, n0 + i, none⟩ = some (.slice (some ⟨p.1, p.2.1, none⟩) t.acts.length p.2.2) ∧ p.1 < W.heap.size ∧ ∀ a, a < t.acts.length → W.cell? ⟨p.1, p.2.1 + a, none⟩ = some (.int .i64 (nxT t i a : Int)) := fun i => by
  by_cases hi : i < t.nx.length
  ·obtain ⟨r, h1, h2, h3⟩ := hzr i hi
   obtain ⟨b, off, ro, rc, e1, _, e3, e4⟩ := h.nx i _ h3
   cases e1
   have hget : ∀ a, a < t.acts.length → (zI r)[a]? = some (nxT t i a : Int) := fun a ha => by
    unfold zI nxT
    rw [List.getElem?_map, h1, List.getElem?_eq_getElem (show a < r.length by omega)]
    simp only [Option.getD_some, Option.map_some]
    rw [List.getElem?_eq_getElem (show a < r.length by omega)]
    rfl
   obtain ⟨qb, q0, rfl, hql, _⟩ := e4 0 _ (hget 0 (by omega))
   refine ⟨(qb, q0, rc), fun _ => ⟨?_, hql, fun a ha => ?_⟩⟩
   ·rw [e3]
    have : (zI r).length = t.acts.length := by unfold zI; rw [List.length_map]; exact h2
    rw [this]
   ·obtain ⟨b', off', e5, _, e6⟩ := e4 a _ (hget a ha)
    cases e5
    exact e6
  ·exact ⟨(0, 0, 0), fun h => absurd h hi⟩
 have hch := fun i => Classical.choose_spec (hrow i)
 refine ⟨ab, a0, fb, f0, nb, n0, fun i => (Classical.choose (hrow i)).1, fun i => (Classical.choose (hrow i)).2.1, fun i => (Classical.choose (hrow i)).2.2, rfl, rfl, rfl, ⟨rfl, rfl, hR.acts.n6, hA, hn, hR.n100, hR, fun i s hs => ?_, fun i hi => ?_, fun i hi => (hch i hi).1, fun i a hi ha => (hch i hi).2.2 a ha, hal, hfl', hnl, fun i hi => (hch i hi).2.1⟩⟩
 ·obtain ⟨b, off, e1, _, e3⟩ := h.acts i s hs
  cases e1
  exact e3
 ·obtain ⟨b, off, e1, _, e3⟩ := h.fl i _ (hzf i hi)
  cases e1
  exact e3
structure OnB (w W : World) (T : Array Value) : Prop where
 b0 : W.heap[w.heap.size]? = some (.cells T 36 (0, 0))
 bel : Below w.heap.size w W
theorem OnB.later {w W W' : World} {T : Array Value} (h : OnB w W T) (hb : Below W.heap.size W W') : OnB w W' T :=
 ⟨(hb.block _ (lt_of_blk h.b0)).trans h.b0, h.bel.trans (hb.mono h.bel.size)⟩
theorem OnB.start (w : World) (T : Array Value) : OnB w (w.alloc (.cells T 36)) T := ⟨blk_alloc _ _, (Below.refl _ _).alloc (Nat.le_refl _) _⟩
set_option maxHeartbeats 4000000 in
set_option maxRecDepth 100000 in
theorem shaped_any (w : World) (t : Tb) (A n ab a0 fb f0 nb n0 ac fc nc : Nat) (rb ro rc : Nat → Nat) (hL : TbL w t A n ab a0 fb f0 nb n0 rb ro rc) :
  Calls Tryz.prog 18 #[.agg #[.slice (some ⟨ab, a0, none⟩) A ac, .slice (some ⟨fb, f0, none⟩) n fc, .slice (some ⟨nb, n0, none⟩) n nc]] w fun e w' => e = .returned (.bool true) ∧ Below w.heap.size w w' := by
 have hA1 := hL.A1
 have hA6 := hL.A6
 have hn1 := hL.n1
 have hn100 := hL.n100
 have HL := hide hL
 have H0 := hide (OnB.start w #[.slice (some ⟨ab, a0, none⟩) A ac, .slice (some ⟨fb, f0, none⟩) n fc, .slice (some ⟨nb, n0, none⟩) n nc])
 have hA1' : ¬ (A : Int) < 1 := by omega
 have hn1' : ¬ (n : Int) < 1 := by omega
 clear hL
 have c00 := cell_of_blk (unhide H0).b0 0
 have c01 := cell_of_blk (unhide H0).b0 1
 have c02 := cell_of_blk (unhide H0).b0 2
 have l0 := lt_of_blk (unhide H0).b0
 go_enter Tryz.func18, Tryz.ntmps18
 go_wp2_with fail
 generalize w.alloc (.cells #[.slice (some ⟨ab, a0, none⟩) A ac, .slice (some ⟨fb, f0, none⟩) n fc, .slice (some ⟨nb, n0, none⟩) n nc] 36) = W0 at *
 clear c00 c01 c02 l0
 go_loopw [4] (fun x wr => ∃ k : Nat, k ≤ n ∧ x = .int .i64 k ∧ Hid (OnB w wr #[.slice (some ⟨ab, a0, none⟩) A ac, .slice (some ⟨fb, f0, none⟩) n fc, .slice (some ⟨nb, n0, none⟩) n nc])) (fun x _ => n - (intOf x).toNat)
 case atStart => exact ⟨0, Nat.zero_le _, rfl, H0⟩
 case round =>
  obtain ⟨k, hk, rfl, H1⟩ := hrel
  have c00 := cell_of_blk (unhide H1).b0 0
  have c02 := cell_of_blk (unhide H1).b0 2
  have l0 := lt_of_blk (unhide H1).b0
  by_cases hlt : k < n
  ·have hkn : (k : Int) < (n : Int) := by omega
   have hrow := ((unhide HL).later (unhide H1).bel).row k hlt
   have hln := ((unhide HL).later (unhide H1).bel).ln
   go_wp2_with fail
   go_quiet (fail)
   go_wp2_with fail
   clear c00 c02 l0 hrow hln
   rename World => wR
   go_loopw [5] (fun x wr => ∃ j : Nat, j ≤ A ∧ x = .int .i64 j ∧ Hid (OnB w wr #[.slice (some ⟨ab, a0, none⟩) A ac, .slice (some ⟨fb, f0, none⟩) n fc, .slice (some ⟨nb, n0, none⟩) n nc])) (fun x _ => A - (intOf x).toNat)
   case atStart => exact ⟨0, Nat.zero_le _, rfl, (unhide H1).later (bdn _ _)⟩
   case round =>
    obtain ⟨j, hj, rfl, H2⟩ := hrel
    have c00 := cell_of_blk (unhide H2).b0 0
    have c02 := cell_of_blk (unhide H2).b0 2
    have l0 := lt_of_blk (unhide H2).b0
    by_cases hjl : j < A
    ·have hjn : (j : Int) < (A : Int) := by omega
     have hrow := ((unhide HL).later (unhide H2).bel).row k hlt
     have hnx := ((unhide HL).later (unhide H2).bel).nxt k j hlt hjl
     have hln := ((unhide HL).later (unhide H2).bel).ln
     have hlr := ((unhide HL).later (unhide H2).bel).lr k hlt
     have hx1 : ¬ (nxT t k j : Int) < 0 := by omega
     have hx2 : ¬ (n : Int) ≤ (nxT t k j : Int) := by have := (unhide HL).lt hlt hjl; omega
     go_wp2_with fail
     go_roundw
     case rel => exact ⟨j + 1, by omega, by go_num, H2⟩
     case measure => simp [intOf]; omega
    ·have hjn : ¬ (j : Int) < (A : Int) := by omega
     go_wp2_with fail
     go_roundw
     case rel => exact ⟨k + 1, by omega, by go_num, H2⟩
     case measure => simp [intOf]; omega
  ·have hkn : ¬ (k : Int) < (n : Int) := by omega
   go_wp2_with fail
   go_ret
   exact ⟨rfl, (unhide H1).bel⟩
theorem run_snoc (t : Tb) (a : Nat) : ∀ (v : List Nat) (p : Nat), runT t p (v ++ [a]) = nxT t (runT t p v) a
 | [], p => rfl
 | b :: v, p => by rw [List.cons_append, runT, runT]; exact run_snoc t a v _
theorem run_lt {t : Tb} (h : RightT t) : ∀ (v : List Nat) (p : Nat), (∀ a ∈ v, a < t.acts.length) → p < t.nx.length → runT t p v < t.nx.length
 | [], _, _, hp => hp
 | a :: v, p, hv, hp => by rw [runT]; exact run_lt h v _ (fun b hb => hv b (List.mem_cons_of_mem _ hb)) (h.go hp (hv a (List.mem_cons_self ..)))
end Go.Proofs.YtidakhhekofkoaaGreatDoor
namespace Go.Proofs.YtidakhhekofkoaaGreatDoor
structure Cs where
 id : ByteArray
 st : Nat
 ev : Nat
def csAt (cs : List Cs) (id : ByteArray) : Option Cs := cs.find? fun c => decide (c.id = id)
theorem csAt_some {cs : List Cs} {id : ByteArray} {c : Cs} (h : csAt cs id = some c) : c ∈ cs ∧ c.id = id := by
 unfold csAt at h
 have h2 := List.find?_some h
 exact ⟨List.mem_of_find?_eq_some h, by simpa using h2⟩
theorem csAt_none {cs : List Cs} {id : ByteArray} (h : csAt cs id = none) : ∀ c ∈ cs, c.id ≠ id := fun c hc e => by
 unfold csAt at h
 exact (List.find?_eq_none.1 h c hc) (decide_eq_true e)
def dkStep (t : Tb) (s : Nat) (act : ByteArray) : Nat × Nat :=
 match fnd act t.acts 0 with
 | none => (0, 3)
 | some a => if flT t (nxT t s a) < 2 then (0, 9) else (nxT t s a, 0)
def csPut (cs : List Cs) (id : ByteArray) (s e : Nat) : List Cs := cs.map fun c => if c.id = id then ⟨c.id, s, e⟩ else c
def csDel (cs : List Cs) (id : ByteArray) : List Cs := cs.filter fun c => decide (c.id ≠ id)
theorem csPut_ids (cs : List Cs) (id : ByteArray) (s e : Nat) : (csPut cs id s e).map (·.id) = cs.map (·.id) := by
 unfold csPut
 rw [List.map_map]
 refine List.map_congr_left fun c _ => ?_
 show (if c.id = id then (⟨c.id, s, e⟩ : Cs) else c).id = c.id
 split <;> rfl
theorem csPut_len (cs : List Cs) (id : ByteArray) (s e : Nat) : (csPut cs id s e).length = cs.length := by unfold csPut; rw [List.length_map]
theorem csPut_mem {cs : List Cs} {id : ByteArray} {s e : Nat} {c : Cs} (h : c ∈ csPut cs id s e) : (c.id ≠ id ∧ c ∈ cs) ∨ (c = ⟨id, s, e⟩ ∧ ∃ x ∈ cs, x.id = id) := by
 unfold csPut at h
 obtain ⟨x, hx, rfl⟩ := List.mem_map.1 h
 by_cases e : x.id = id
 ·rw [if_pos e, e]
  exact Or.inr ⟨rfl, x, hx, e⟩
 ·rw [if_neg e]
  exact Or.inl ⟨e, hx⟩
theorem csDel_mem {cs : List Cs} {id : ByteArray} {c : Cs} : c ∈ csDel cs id ↔ c ∈ cs ∧ c.id ≠ id := by
 unfold csDel
 rw [List.mem_filter, decide_eq_true_iff]
theorem csDel_nodup {cs : List Cs} {id : ByteArray} (h : (cs.map (·.id)).Nodup) : ((csDel cs id).map (·.id)).Nodup := by
 unfold csDel
 exact h.sublist (List.Sublist.map _ List.filter_sublist)
theorem csDel_len : ∀ {cs : List Cs} {id : ByteArray}, (cs.map (·.id)).Nodup → (∃ c ∈ cs, c.id = id) → (csDel cs id).length + 1 = cs.length
 | [], id, _, h => by obtain ⟨c, hc, _⟩ := h; exact (List.not_mem_nil hc).elim
 | x :: cs, id, hd, h => by
  rw [List.map_cons, List.nodup_cons] at hd
  unfold csDel
  rw [List.filter_cons]
  by_cases e : x.id = id
  ·rw [if_neg (by simp [e])]
   have : cs.filter (fun c => decide (c.id ≠ id)) = cs := by
    rw [List.filter_eq_self]
    intro c hc
    exact decide_eq_true (fun e' => hd.1 (by rw [e, ← e']; exact List.mem_map.2 ⟨c, hc, rfl⟩))
   rw [this, List.length_cons]
  ·rw [if_pos (by simp [e]), List.length_cons, List.length_cons]
   obtain ⟨c, hc, ec⟩ := h
   rcases List.mem_cons.1 hc with rfl | hc
   ·exact (e ec).elim
   ·have := csDel_len hd.2 ⟨c, hc, ec⟩
    unfold csDel at this
    omega
def dkStart (cs : List Cs) (id : ByteArray) : List Cs × Nat :=
 match csAt cs id with
 | some _ => (cs, 8)
 | none => if 8 ≤ cs.length then (cs, 11) else (cs ++ [⟨id, 0, 0⟩], 0)
def dkEvent (t : Tb) (cs : List Cs) (id act : ByteArray) : List Cs × Nat :=
 match csAt cs id with
 | none => (cs, 8)
 | some c => if (dkStep t c.st act).2 = 0 then (csPut cs id (dkStep t c.st act).1 (c.ev + 1), 0) else (cs, (dkStep t c.st act).2)
def dkEnd (t : Tb) (cs : List Cs) (id : ByteArray) : List Cs × Nat :=
 match csAt cs id with
 | none => (cs, 8)
 | some c => if accT t c.st = true then (csDel cs id, 0) else (cs, 10)
def optsT (t : Tb) (s : Nat) : List ByteArray := t.acts.filter fun x => decide ((dkStep t s x).2 = 0)
theorem fnd_at {l : List ByteArray} (hd : l.Nodup) {i : Nat} {x : ByteArray} (h : l[i]? = some x) : fnd x l 0 = some i := by
 cases e : fnd x l 0 with
 | none => exact absurd (List.mem_of_getElem? h) (fnd_none e)
 | some j =>
  have hj := (fnd_some e).2
  rw [Nat.sub_zero] at hj
  rw [(List.getElem?_inj (List.getElem?_eq_some_iff.1 h).1 hd).1 (h.trans hj.symm)]
end Go.Proofs.YtidakhhekofkoaaGreatDoor
namespace Go.Proofs.YtidakhhekofkoaaGreatDoor
open Go.RowKit Go.Deep
theorem acc_mod (t : Tb) (i : Nat) : (flT t i : Int).tmod 2 = if accT t i then 1 else 0 := by
 unfold accT
 rw [Int.tmod_eq_emod_of_nonneg (by omega)]
 show ((flT t i : Nat) : Int) % 2 = if (flT t i % 2 == 1) = true then 1 else 0
 by_cases h : flT t i % 2 = 1
 ·rw [if_pos (by simpa using h)]; omega
 ·rw [if_neg (by simpa using h)]; omega
end Go.Proofs.YtidakhhekofkoaaGreatDoor
namespace Go.Proofs.YtidakhhekofkoaaGreatDoor
def Wd (t : Tb) (k i : Nat) : Prop := ∃ v : List Nat, v.length = k ∧ (∀ a ∈ v, a < t.acts.length) ∧ accT t (runT t i v) = true
theorem Wd.cons {t : Tb} {k i a : Nat} (ha : a < t.acts.length) (h : Wd t k (nxT t i a)) : Wd t (k + 1) i := by
 obtain ⟨v, h1, h2, h3⟩ := h
 exact ⟨a :: v, by rw [List.length_cons, h1], fun b hb => by
  rcases List.mem_cons.1 hb with rfl | hb
  ·exact ha
  ·exact h2 b hb, h3⟩
theorem Wd.uncons {t : Tb} {k i : Nat} (h : Wd t (k + 1) i) : ∃ a, a < t.acts.length ∧ Wd t k (nxT t i a) := by
 obtain ⟨v, h1, h2, h3⟩ := h
 match v, h1 with
 | a :: v, h1 => exact ⟨a, h2 a (List.mem_cons_self ..), v, by rw [List.length_cons] at h1; omega, fun b hb => h2 b (List.mem_cons_of_mem _ hb), h3⟩
theorem Wd.zero {t : Tb} {i : Nat} : Wd t 0 i ↔ accT t i = true := by
 constructor
 ·rintro ⟨v, h1, _, h3⟩
  cases v with
  | nil => exact h3
  | cons a v => cases h1
 ·exact fun h => ⟨[], rfl, fun a ha => (List.not_mem_nil ha).elim, h⟩
theorem acc_lives {t : Tb} {i : Nat} (h : accT t i = true) : Lives t i := by
 unfold accT at h
 cases e : t.fl[i]? with
 | none => rw [e] at h; simp at h
 | some f => rw [e] at h; exact Lives.acc e (by simpa using h)
theorem Wd.lives {t : Tb} (hR : RightT t) : ∀ {k i : Nat}, i < t.nx.length → Wd t k i → Lives t i
 | 0, i, _, h => acc_lives (Wd.zero.1 h)
 | k + 1, i, hi, h => by
  obtain ⟨a, ha, h'⟩ := h.uncons
  obtain ⟨r, x, h1, h2, h3⟩ := hR.step hi ha
  have e : nxT t i a = x := by unfold nxT; rw [h1]; simp only [Option.getD_some]; rw [h2]; rfl
  rw [e] at h'
  exact Lives.step h1 (List.mem_of_getElem? h2) (Wd.lives hR h3 h')
theorem Lives.wd {t : Tb} (hR : RightT t) {i : Nat} (h : Lives t i) : ∃ k, Wd t k i := by
 induction h using Lives.ind with
 | acc h1 h2 => exact ⟨0, Wd.zero.2 (by unfold accT; rw [h1]; simpa using h2)⟩
 | @step i j r h1 h2 _ ih =>
  obtain ⟨k, hk⟩ := ih
  obtain ⟨a, ha⟩ := List.mem_iff_getElem?.1 h2
  have hal : a < t.acts.length := by
   have h3 := (hR.rs r (List.mem_of_getElem? h1)).1
   have := (List.getElem?_eq_some_iff.1 ha).1
   omega
  refine ⟨k + 1, Wd.cons hal ?_⟩
  have e : nxT t i a = j := by unfold nxT; rw [h1]; simp only [Option.getD_some]; rw [ha]; rfl
  rw [e]
  exact hk
theorem run_app (t : Tb) : ∀ (u v : List Nat) (i : Nat), runT t i (u ++ v) = runT t (runT t i u) v
 | [], v, i => rfl
 | a :: u, v, i => run_app t u v _
theorem Wd.cut {t : Tb} (hR : RightT t) {k i : Nat} (hi : i < t.nx.length) (h : Wd t k i) (hk : t.nx.length ≤ k) : ∃ j, j < k ∧ Wd t j i := by
 obtain ⟨v, h1, h2, h3⟩ := h
 by_cases hex : ∃ p q, p < q ∧ q ≤ k ∧ runT t i (v.take p) = runT t i (v.take q)
 ·obtain ⟨p, q, hpq, hq, e⟩ := hex
  refine ⟨p + (k - q), by omega, v.take p ++ v.drop q, by rw [List.length_append, List.length_take, List.length_drop]; omega, fun a ha => ?_, ?_⟩
  ·rcases List.mem_append.1 ha with ha | ha
   ·exact h2 a (List.mem_of_mem_take ha)
   ·exact h2 a (List.mem_of_mem_drop ha)
  ·rw [run_app, e, ← run_app, List.take_append_drop]
   exact h3
 ·exfalso
  have hnd : ((List.range (k + 1)).map fun j => runT t i (v.take j)).Nodup := by
   rw [List.Nodup, List.pairwise_iff_getElem]
   intro p q hp hq hpq
   rw [List.getElem_map, List.getElem_map, List.getElem_range, List.getElem_range]
   rw [List.length_map, List.length_range] at hp hq
   exact fun e => hex ⟨p, q, hpq, by omega, e⟩
  have hle := nodup_le t.nx.length _ hnd (fun x hx => by
   obtain ⟨j, _, rfl⟩ := List.mem_map.1 hx
   exact run_lt hR _ i (fun a ha => h2 a (List.mem_of_mem_take ha)) hi)
  rw [List.length_map, List.length_range] at hle
  omega
theorem Wd.short {t : Tb} (hR : RightT t) {i : Nat} (hi : i < t.nx.length) : ∀ (m k : Nat), k ≤ m → Wd t k i → ∃ j, j ≤ t.nx.length ∧ Wd t j i
 | 0, k, hk, h => ⟨k, by omega, h⟩
 | m + 1, k, hk, h => by
  by_cases hl : t.nx.length ≤ k
  ·obtain ⟨j, hj, h'⟩ := h.cut hR hi hl
   exact Wd.short hR hi m j (by omega) h'
  ·exact ⟨k, by omega, h⟩
def farF (F : List Nat) (i : Nat) : Nat := (F[i]?).getD 0
structure FarB (t : Tb) (n : Nat) (F : List Nat) : Prop where
 len : F.length = n
 le : ∀ i, i < n → farF F i ≤ n + 1
 wd : ∀ i, i < n → farF F i ≤ n → Wd t (farF F i) i
def FarA (t : Tb) (n : Nat) (F : List Nat) (r : Nat) : Prop := ∀ i k, i < n → k ≤ r → Wd t k i → farF F i ≤ k
structure FarI (t : Tb) (n : Nat) (F : List Nat) (r i : Nat) : Prop where
 b : FarB t n F
 a : FarA t n F r
 d : ∀ j k, j < i → j < n → k ≤ r + 1 → Wd t k j → farF F j ≤ k
structure FarJ (t : Tb) (n : Nat) (F : List Nat) (r i a : Nat) : Prop where
 s : FarI t n F r i
 e : ∀ b k, b < a → k ≤ r → Wd t k (nxT t i b) → farF F i ≤ k + 1
theorem farF_set {F : List Nat} {i x : Nat} (hi : i < F.length) (j : Nat) : farF (F.set i x) j = if i = j then x else farF F j := by
 unfold farF
 rw [List.getElem?_set]
 by_cases e : i = j
 ·rw [if_pos e, if_pos e, if_pos hi]; rfl
 ·rw [if_neg e, if_neg e]
def relax (t : Tb) (F : List Nat) (i a : Nat) : List Nat := if farF F (nxT t i a) + 1 < farF F i then F.set i (farF F (nxT t i a) + 1) else F
theorem relax_len (t : Tb) (F : List Nat) (i a : Nat) : (relax t F i a).length = F.length := by
 unfold relax
 split
 ·rw [List.length_set]
 ·rfl
theorem relax_le (t : Tb) {F : List Nat} {i a : Nat} (hi : i < F.length) (j : Nat) : farF (relax t F i a) j ≤ farF F j := by
 unfold relax
 split
 ·next h =>
  rw [farF_set hi]
  split
  ·next e => subst e; omega
  ·exact Nat.le_refl _
 ·exact Nat.le_refl _
theorem relax_at (t : Tb) {F : List Nat} {i a : Nat} (hi : i < F.length) : farF (relax t F i a) i ≤ farF F (nxT t i a) + 1 := by
 unfold relax
 split
 ·rw [farF_set hi, if_pos rfl]
  exact Nat.le_refl _
 ·omega
theorem FarJ.relax {t : Tb} {n : Nat} {F : List Nat} {r i a : Nat} (h : FarJ t n F r i a) (hi : i < n) (ha : a < t.acts.length) (hn : nxT t i a < n) : FarJ t n (relax t F i a) r i (a + 1) := by
 have hil : i < F.length := by rw [h.s.b.len]; exact hi
 refine ⟨⟨⟨by rw [relax_len]; exact h.s.b.len, fun j hj => Nat.le_trans (relax_le t hil j) (h.s.b.le j hj), fun j hj hle => ?_⟩, fun j k hj hk hw => Nat.le_trans (relax_le t hil j) (h.s.a j k hj hk hw), fun j k hj hjn hk hw => Nat.le_trans (relax_le t hil j) (h.s.d j k hj hjn hk hw)⟩, fun b k hb hk hw => ?_⟩
 ·unfold Go.Proofs.YtidakhhekofkoaaGreatDoor.relax at hle ⊢
  split at hle
  ·next hlt =>
   rw [if_pos hlt, farF_set hil] at *
   by_cases e : i = j
   ·subst e
    rw [if_pos rfl] at hle ⊢
    exact Wd.cons ha (h.s.b.wd _ hn (by omega))
   ·rw [if_neg e] at hle ⊢
    exact h.s.b.wd j hj hle
  ·next hlt =>
   rw [if_neg hlt]
   exact h.s.b.wd j hj hle
 ·by_cases e : b = a
  ·subst e
   exact Nat.le_trans (relax_at t hil) (by have := h.s.a _ k hn hk hw; omega)
  ·exact Nat.le_trans (relax_le t hil i) (h.e b k (by omega) hk hw)
theorem FarI.begin {t : Tb} {n : Nat} {F : List Nat} {r i : Nat} (h : FarI t n F r i) : FarJ t n F r i 0 := ⟨h, fun b k hb => absurd hb (Nat.not_lt_zero b)⟩
theorem FarJ.done {t : Tb} {n : Nat} {F : List Nat} {r i : Nat} (h : FarJ t n F r i t.acts.length) : FarI t n F r (i + 1) := by
 refine ⟨h.s.b, h.s.a, fun j k hj hjn hk hw => ?_⟩
 by_cases e : j = i
 ·subst e
  cases k with
  | zero => exact h.s.a j 0 hjn (Nat.zero_le _) hw
  | succ k =>
   obtain ⟨a, ha, hw'⟩ := hw.uncons
   exact h.e a k ha (by omega) hw'
 ·exact h.s.d j k (by omega) hjn hk hw
theorem FarI.start {t : Tb} {n : Nat} {F : List Nat} {r : Nat} (hb : FarB t n F) (ha : FarA t n F r) : FarI t n F r 0 := ⟨hb, ha, fun j k hj => absurd hj (Nat.not_lt_zero j)⟩
theorem FarI.done {t : Tb} {n : Nat} {F : List Nat} {r : Nat} (h : FarI t n F r n) : FarB t n F ∧ FarA t n F (r + 1) := ⟨h.b, fun i k hi hk hw => h.d i k hi hi hk hw⟩
def far0 (t : Tb) (n i : Nat) : Nat := if accT t i = true then 0 else n + 1
theorem far0_ok (t : Tb) (n : Nat) : FarB t n ((List.range n).map (far0 t n)) ∧ FarA t n ((List.range n).map (far0 t n)) 0 := by
 have hat : ∀ i, i < n → farF ((List.range n).map (far0 t n)) i = far0 t n i := fun i hi => by
  unfold farF
  rw [List.getElem?_map, List.getElem?_range hi]
  rfl
 refine ⟨⟨by rw [List.length_map, List.length_range], fun i hi => ?_, fun i hi hle => ?_⟩, fun i k hi hk hw => ?_⟩
 ·rw [hat i hi]; unfold far0; split <;> omega
 ·rw [hat i hi] at hle ⊢
  unfold far0 at hle ⊢
  split at hle
  ·next h => rw [if_pos h]; exact Wd.zero.2 h
  ·omega
 ·obtain rfl : k = 0 := by omega
  rw [hat i hi]
  unfold far0
  rw [if_pos (Wd.zero.1 hw)]
  exact Nat.le_refl _
theorem far_step {t : Tb} {n A : Nat} {F : List Nat} (hA : t.acts.length = A) (hb : FarB t n F) (ha : FarA t n F n) (hlt : ∀ i a, i < n → a < A → nxT t i a < n) {i : Nat} (hi : i < n) (h0 : 0 < farF F i) (hn : farF F i ≤ n) : ∃ a, a < A ∧ farF F (nxT t i a) + 1 = farF F i := by
 obtain ⟨f, hf⟩ : ∃ f, farF F i = f + 1 := ⟨farF F i - 1, by omega⟩
 have hw := hb.wd i hi hn
 rw [hf] at hw
 obtain ⟨a, haA, hw'⟩ := hw.uncons
 have hy := hlt i a hi (by omega)
 have h1 := ha (nxT t i a) f hy (by omega) hw'
 have h2 := hb.wd _ hy (by omega)
 have h3 := ha i _ hi (by omega) (Wd.cons haA h2)
 exact ⟨a, by omega, by omega⟩
end Go.Proofs.YtidakhhekofkoaaGreatDoor
