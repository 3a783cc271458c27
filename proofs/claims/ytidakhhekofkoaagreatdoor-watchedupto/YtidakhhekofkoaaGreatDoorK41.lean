/- events: raw numbers as activities. -/
import Derived.Test.YtidakhhekofkoaaGreatDoorK34
import Derived.Test.YtidakhhekofkoaaGreatDoorK40
import Derived.Laws.AppendOwnNone
import Derived.Test.YtidakhhekofkoaaGreatDoorK33
import Derived.BigQuiet
set_option linter.unusedSimpArgs false
set_option linter.unusedVariables false
namespace Go.Proofs.YtidakhhekofkoaaGreatDoor
open Go.RowKit Go.Deep
def pickZ (c : Int) (n : Nat) : Nat := if c < 0 then ((-(c + 1)).tmod (n : Int)).toNat else (c.tmod (n : Int)).toNat
theorem pickZ_lt (c : Int) {n : Nat} (hn : 0 < n) : pickZ c n < n := by
 unfold pickZ
 split
 ·have h1 := Int.tmod_nonneg (n : Int) (show 0 ≤ -(c + 1) by omega)
  have h2 := Int.tmod_lt_of_pos (-(c + 1)) (show (0 : Int) < (n : Int) by omega)
  omega
 ·have h1 := Int.tmod_nonneg (n : Int) (show 0 ≤ c by omega)
  have h2 := Int.tmod_lt_of_pos c (show (0 : Int) < (n : Int) by omega)
  omega
set_option maxHeartbeats 1000000 in
theorem kpick_eq (w : World) (c : Int) (n : Nat) (h0 : -9223372036854775808 ≤ c) (h1 : c ≤ 9223372036854775807) (hn : 0 < n) (hn2 : n ≤ 1000000) :
  Calls Tryz.prog 28 #[.int .i64 c, .int .i64 (n : Int)] w fun e w' => e = .returned (.int .i64 (pickZ c n : Int)) ∧ w' = w := by
 have hni : ¬ (n : Int) = 0 := by omega
 by_cases hc : c < 0
 ·have HP : Hid (Ending.returned (.int .i64 (-((c + 1).tmod (n : Int)))) = Ending.returned (.int .i64 (pickZ c n : Int))) := by
   show _ = _
   have := Int.tmod_nonneg (n : Int) (show 0 ≤ -(c + 1) by omega)
   unfold pickZ
   rw [if_pos hc, Int.toNat_of_nonneg this, Int.neg_tmod]
  go_enter Tryz.func28, Tryz.ntmps28
  go_wp2_with fail
  go_ret
  exact ⟨unhide HP, rfl⟩
 ·have HP : Hid (Ending.returned (.int .i64 (c % (n : Int))) = Ending.returned (.int .i64 (pickZ c n : Int))) := by
   show _ = _
   have := Int.tmod_nonneg (n : Int) (show 0 ≤ c by omega)
   unfold pickZ
   rw [if_neg hc, Int.toNat_of_nonneg this, Int.tmod_eq_emod_of_nonneg (by omega)]
  go_enter Tryz.func28, Tryz.ntmps28
  go_wp2_with fail
  go_ret
  exact ⟨unhide HP, rfl⟩
def nmT (t : Tb) (a : Nat) : ByteArray := (t.acts[a]?).getD ⟨#[]⟩
theorem own_base {w : World} {base e n : Nat} {v : Value} {xs : List Value} (h : w.ownsRow base e 1 v n xs) {b : Nat} (hb : v.ownBlock = some b) : base ≤ b := by
 obtain ⟨_, ⟨h1, _⟩ | ⟨g', cap, cur, hv, hbg, _⟩⟩ := h
 ·rw [h1] at hb; cases hb
 ·rw [hv] at hb; cases hb; exact hbg
theorem owns_txs {w : World} {base n c : Nat} {o : Option Addr} {l : List ByteArray} (h : w.ownsRow base 9 1 (.slice o n c) n (strsC l)) (hl : l.length = n) : TxS w o l := fun j x hx => by
 have hj := (List.getElem?_eq_some_iff.1 hx).1
 obtain ⟨g, rfl, h4, h5⟩ := owns1_at h (i := j) (by omega)
 refine ⟨g, 0, rfl, h4, ?_⟩
 rw [Nat.zero_add, h5]
 unfold strsC
 rw [List.getElem?_map, hx]
 rfl
structure RsB (w wr : World) (g : Nat) (T : Array Value) (F : List Nat) : Prop where
 b0 : wr.heap[w.heap.size]? = some (.cells T 36 (0, 0))
 fr : wr.heap[g]? = some (.cells (intC F).toArray 3 (0, 0))
 bel : Below w.heap.size w wr
 hg : w.heap.size < g
theorem RsB.later {w wr wr' : World} {g : Nat} {T : Array Value} {F : List Nat} (h : RsB w wr g T F) (hb : Below wr.heap.size wr wr') : RsB w wr' g T F :=
 ⟨(hb.block _ (lt_of_blk h.b0)).trans h.b0, (hb.block _ (lt_of_blk h.fr)).trans h.fr, h.bel.trans (hb.mono h.bel.size), h.hg⟩
theorem RsB.grown {w wr wr' : World} {g : Nat} {T : Array Value} {F : List Nat} {row : Option Nat} (h : RsB w wr g T F) (hg : wr.grownBy wr' row) (hr : ∀ b, row = some b → g + 1 ≤ b) : RsB w wr' g T F :=
 ⟨(hg.block _ (lt_of_blk h.b0) (fun e => by have := hr _ e.symm; have := h.hg; omega)).trans h.b0, (hg.block _ (lt_of_blk h.fr) (fun e => by have := hr _ e.symm; omega)).trans h.fr, h.bel.grown hg h.bel.size (fun b hb => by have := hr b hb; have := h.hg; omega), h.hg⟩
theorem RsB.put {w wr : World} {g : Nat} {T : Array Value} {F : List Nat} (h : RsB w wr g T F) (k x : Nat) : RsB w (wr.setCell ⟨g, k, none⟩ (.int .i64 (x : Int))) g T (F.set k x) := by
 have hg := h.hg
 refine ⟨(Below.heap_setCell _ _ _ _ (by show w.heap.size ≠ g; omega)).trans h.b0, ?_, h.bel.setCell (by show w.heap.size ≤ g; omega) _, hg⟩
 have := blk_set h.fr k (.int .i64 (x : Int))
 rw [List.setIfInBounds_toArray] at this
 have e : (intC F).set k (.int .i64 (x : Int)) = intC (F.set k x) := by unfold intC; rw [List.map_set]
 rw [e] at this
 exact this
theorem RsB.at {w wr : World} {g : Nat} {T : Array Value} {F : List Nat} (h : RsB w wr g T F) {k : Nat} (hk : k < F.length) : wr.cell? ⟨g, k, none⟩ = some (.int .i64 (farF F k : Int)) := by
 rw [cell_of_blk h.fr, List.getElem?_toArray]
 unfold intC farF
 rw [List.getElem?_map, List.getElem?_eq_getElem hk]
 rfl
def farI (t : Tb) (n i : Nat) : List Nat := (List.range n).map fun j => if j < i then far0 t n j else 0
theorem farI_len (t : Tb) (n i : Nat) : (farI t n i).length = n := by unfold farI; rw [List.length_map, List.length_range]
theorem farI_zero (t : Tb) (n : Nat) : farI t n 0 = List.replicate n 0 := by
 unfold farI
 refine List.ext_getElem (by simp) fun k h1 h2 => ?_
 simp
theorem farI_all (t : Tb) (n : Nat) : farI t n n = (List.range n).map (far0 t n) := by
 unfold farI
 refine List.map_congr_left fun j hj => ?_
 rw [if_pos (List.mem_range.1 hj)]
theorem farI_succ (t : Tb) (n i : Nat) : (farI t n i).set i (far0 t n i) = farI t n (i + 1) := by
 unfold farI
 refine List.ext_getElem (by simp) fun k h1 h2 => ?_
 rw [List.getElem_set, List.getElem_map, List.getElem_map, List.getElem_range]
 by_cases e : i = k
 ·subst e
  rw [if_pos rfl, if_pos (by omega)]
 ·rw [if_neg e]
  by_cases h : k < i
  ·rw [if_pos h, if_pos (by omega)]
  ·rw [if_neg h, if_neg (by omega)]
theorem intC_rep (n : Nat) : (intC (List.replicate n 0)).toArray = Array.replicate n (.int .i64 0) := by unfold intC; simp
theorem bytes_ne {x y : ByteArray} (h : x ≠ y) : (x.toList == y.toList) = false := beq_eq_false_iff_ne.2 fun e => h (by
 apply byte_inj
 rw [ByteArray.toList_eq, ByteArray.toList_eq] at e
 exact e)
theorem nmT_ne {t : Tb} (h : t.acts.Nodup) {a b : Nat} (ha : a < t.acts.length) (hb : b < t.acts.length) (hab : a ≠ b) : nmT t a ≠ nmT t b := fun e => by
 unfold nmT at e
 rw [List.getElem?_eq_getElem ha, List.getElem?_eq_getElem hb] at e
 have e2 : t.acts[a]? = t.acts[b]? := by rw [List.getElem?_eq_getElem ha, List.getElem?_eq_getElem hb]; exact congrArg some e
 exact hab ((List.getElem?_inj ha h).1 e2)
def RestP (t : Tb) (A n s : Nat) (w w' : World) (e : Ending) : Prop := ∃ (u : List Nat) (o : Option Addr) (k : Nat), e = .returned (.slice o u.length k) ∧ (∀ a ∈ u, a < A) ∧ accT t (runT t s u) = true ∧ u.length ≤ n ∧ w'.ownsRow w.heap.size 9 1 (.slice o u.length k) u.length (strsC (u.map (nmT t))) ∧ Below w.heap.size w w'
set_option maxHeartbeats 16000000 in
set_option maxRecDepth 100000 in
theorem rest_any (w : World) (t : Tb) (A n ab a0 fb f0 nb n0 ac fc nc : Nat) (rb ro rc : Nat → Nat) (hL : TbL w t A n ab a0 fb f0 nb n0 rb ro rc) (to_ : Option Addr) (tc N : Nat) (v : List Nat) (hN : v.length = N) (hva : ∀ a ∈ v, a < A) (hT : TxS w to_ (v.map (nmT t))) (hmax : N ≤ 4000000) (hal : 2 ≤ flT t (runT t 0 v)) :
  Calls Tryz.prog 52 #[.agg #[.slice (some ⟨ab, a0, none⟩) A ac, .slice (some ⟨fb, f0, none⟩) n fc, .slice (some ⟨nb, n0, none⟩) n nc], .slice to_ N tc, .int .i64 (n : Int)] w fun e w' => RestP t A n (runT t 0 v) w w' e := by
 have hA1 := hL.A1
 have hA6 := hL.A6
 have hn1 := hL.n1
 have hn100 := hL.n100
 have HL := hide hL
 have HT := hide hT
 have HVA := hide hva
 have HVL := hide hN
 have HAL := hide hal
 obtain ⟨i0, hi0, hz0, hz1, hz2⟩ := info_parts Tryz.infoI64
 obtain ⟨j0, hj0, hy0, hy1, hy2⟩ := info_parts Tryz.infoStr
 have hmk := fun (w : World) => make_run (P := Tryz.prog) w 33 3 i0 (.int .i64 0) Tryz.underlying33 hi0 hz0 hz1 rfl (by omega) n (by omega)
 have HMK := hide hmk
 have H0 := hide (OnB.start w #[.slice (some ⟨ab, a0, none⟩) A ac, .slice (some ⟨fb, f0, none⟩) n fc, .slice (some ⟨nb, n0, none⟩) n nc])
 clear hL hT hva hN hal hmk hi0 hz0 hz1 hz2
 go_enter Tryz.func52, Tryz.ntmps52
 go_wp2_with fail
 generalize w.alloc (.cells #[.slice (some ⟨ab, a0, none⟩) A ac, .slice (some ⟨fb, f0, none⟩) n fc, .slice (some ⟨nb, n0, none⟩) n nc] 36) = W0 at *
 go_loopw [7, 8] (fun sv x wr => ∃ i : Nat, i ≤ N ∧ x = .int .i64 i ∧ sv = .int .i64 ((runT t 0 (v.take i) : Nat) : Int) ∧ Hid (OnB w wr #[.slice (some ⟨ab, a0, none⟩) A ac, .slice (some ⟨fb, f0, none⟩) n fc, .slice (some ⟨nb, n0, none⟩) n nc])) (fun _ x _ => N - (intOf x).toNat)
 case atStart => exact ⟨0, Nat.zero_le _, rfl, rfl, H0⟩
 case round =>
  obtain ⟨i, hi, rfl, rfl, H1⟩ := hrel
  by_cases hil : i < N
  ·have hin : (i : Int) < (N : Int) := by omega
   have hivl : i < v.length := by rw [unhide HVL]; exact hil
   have hbA := unhide HVA v[i] (List.getElem_mem hivl)
   have HNX : Hid (runT t 0 (v.take (i + 1)) = nxT t (runT t 0 (v.take i)) v[i]) := by
    show _ = _
    rw [List.take_add_one, List.getElem?_eq_getElem hivl]
    exact run_snoc t v[i] (v.take i) 0
   have hTi : (v.map (nmT t))[i]? = some (nmT t v[i]) := by rw [List.getElem?_map, List.getElem?_eq_getElem hivl]; rfl
   obtain ⟨tb, t0, rfl, htl, htc⟩ := unhide HT i _ hTi
   have HTC := hide htc
   clear htc hTi
   have hs : runT t 0 (v.take i) < n := by
    have h1 := (unhide HL).hA
    have h2 := (unhide HL).hn
    have := run_lt (unhide HL).rt (v.take i) 0 (fun a ha => by have := unhide HVA a (List.mem_of_mem_take ha); omega) (by omega)
    omega
   generalize runT t 0 (v.take i) = s at *
   generalize v[i] = b at *
   go_wp2_with fail
   rename World => wR
   go_loopw [7, 9] (fun sv x wr => ∃ a : Nat, a ≤ b ∧ x = .int .i64 a ∧ sv = .int .i64 (s : Int) ∧ Hid (OnB w wr #[.slice (some ⟨ab, a0, none⟩) A ac, .slice (some ⟨fb, f0, none⟩) n fc, .slice (some ⟨nb, n0, none⟩) n nc])) (fun _ x _ => b + 1 - (intOf x).toNat)
   case atStart => exact ⟨0, Nat.zero_le _, rfl, rfl, H1⟩
   case round =>
    obtain ⟨a, hab, rfl, rfl, H2⟩ := hrel
    have han : (a : Int) < (A : Int) := by omega
    have haA : a < A := by omega
    have hLw := (unhide HL).later (unhide H2).bel
    have haa : a < t.acts.length := by rw [hLw.hA]; exact haA
    have hba : b < t.acts.length := by rw [hLw.hA]; exact hbA
    have hac := hLw.act a (nmT t a) (by unfold nmT; rw [List.getElem?_eq_getElem haa]; rfl)
    have hla := hLw.la
    have htc := (bcell3 (unhide H2).bel _ _ htl).trans (unhide HTC)
    have htl2 := Nat.lt_of_lt_of_le htl (unhide H2).bel.size
    have hrow := hLw.row s hs
    have hln := hLw.ln
    have hlr := hLw.lr s hs
    have hnx := hLw.nxt s a hs haA
    have hsn : (s : Int) < (n : Int) := by omega
    have c00 := cell_of_blk (unhide H2).b0 0
    have c02 := cell_of_blk (unhide H2).b0 2
    have l0 := lt_of_blk (unhide H2).b0
    by_cases hE : a = b
    ·subst hE
     rw [← unhide HNX] at hnx
     generalize hst2 : runT t 0 (v.take (i + 1)) = s2 at *
     have HS2 := hide hst2
     generalize nmT t a = sa at *
     clear hst2 hLw
     go_wp2_with fail
     go_quiet (fail)
     have hbd := bdn wr nq
     have hrow := (bcell3 hbd _ _ hln).trans hrow
     have hnx := (bcell3 hbd _ _ hlr).trans hnx
     have c02 := (bcell3 hbd _ _ l0).trans c02
     have l0 := Nat.lt_of_lt_of_le l0 hbd.size
     have hln := Nat.lt_of_lt_of_le hln hbd.size
     have hlr := Nat.lt_of_lt_of_le hlr hbd.size
     have H3 := hide ((unhide H2).later hbd)
     clear hbd
     go_wp2_with fail
     go_roundw
     case rel => exact ⟨i + 1, by omega, by go_num, by rw [unhide HS2], H3⟩
     case measure => simp [intOf]; omega
    ·have hne := bytes_ne (nmT_ne hLw.rt.acts.nd haa hba hE)
     generalize nmT t a = sa at *
     generalize nmT t b = sb at *
     clear hLw
     go_wp2_with fail
     go_quiet (fail)
     go_wp2_with fail
     go_roundw
     case rel => exact ⟨a + 1, by omega, by go_num, rfl, (unhide H2).later (bdn _ _)⟩
     case measure => simp [intOf]; omega
  ·have hin : ¬ (i : Int) < (N : Int) := by omega
   have hta : v.take i = v := List.take_of_length_le (by rw [unhide HVL]; omega)
   rw [hta]
   have hs : runT t 0 v < n := by
    have h1 := (unhide HL).hA
    have h2 := (unhide HL).hn
    have := run_lt (unhide HL).rt v 0 (fun a ha => by have := unhide HVA a ha; omega) (by omega)
    omega
   generalize hs0 : runT t 0 v = s0 at *
   have HS0 := hide hs0
   clear hta hs0
   have c01 := cell_of_blk (unhide H1).b0 1
   have l0 := lt_of_blk (unhide H1).b0
   have hmk := unhide HMK wr
   have HR0 : Hid (RsB w (wr.alloc (.cells (Array.replicate n (.int .i64 0)) 3)) wr.heap.size #[.slice (some ⟨ab, a0, none⟩) A ac, .slice (some ⟨fb, f0, none⟩) n fc, .slice (some ⟨nb, n0, none⟩) n nc] (farI t n 0)) := by
    show RsB _ _ _ _ _
    rw [farI_zero]
    refine ⟨(Below.heap_alloc _ _ _ l0).trans (unhide H1).b0, ?_, (unhide H1).bel.alloc (unhide H1).bel.size _, l0⟩
    rw [intC_rep]
    exact blk_alloc _ _
   go_wp2_with fail
   clear c01 l0 hmk H1
   generalize wr.alloc (.cells (Array.replicate n (.int .i64 0)) 3) = W1 at *
   generalize wr.heap.size = g at *
   rename World => wR
   go_loopw [11] (fun x wr => ∃ i : Nat, i ≤ n ∧ x = .int .i64 i ∧ Hid (RsB w wr g #[.slice (some ⟨ab, a0, none⟩) A ac, .slice (some ⟨fb, f0, none⟩) n fc, .slice (some ⟨nb, n0, none⟩) n nc] (farI t n i))) (fun x _ => n - (intOf x).toNat)
   case atStart => exact ⟨0, Nat.zero_le _, rfl, HR0⟩
   case round =>
    obtain ⟨k, hk, rfl, H1⟩ := hrel
    by_cases hkn : k < n
    ·have hki : (k : Int) < (n : Int) := by omega
     have hfr := frozen_of_blk (unhide H1).fr k
     have hat := (unhide H1).at (k := k) (by rw [farI_len]; exact hkn)
     have hlg := lt_of_blk (unhide H1).fr
     have hgw := (unhide H1).hg
     have c01 := cell_of_blk (unhide H1).b0 1
     have l0 := lt_of_blk (unhide H1).b0
     have hfl := ((unhide HL).later (unhide H1).bel).fla k hkn
     have hlf := ((unhide HL).later (unhide H1).bel).lf
     have hmod := acc_mod t k
     have HP1 : Hid (RsB w (wr.setCell ⟨g, k, none⟩ (.int .i64 ((n : Int) + 1))) g #[.slice (some ⟨ab, a0, none⟩) A ac, .slice (some ⟨fb, f0, none⟩) n fc, .slice (some ⟨nb, n0, none⟩) n nc] ((farI t n k).set k (n + 1))) := (unhide H1).put k (n + 1)
     have HP2 := hide ((unhide HP1).put k 0)
     rw [List.set_set] at HP2
     have hf1 := frozen_of_blk (unhide HP1).fr k
     have hlg1 := lt_of_blk (unhide HP1).fr
     have hat1 := (unhide HP1).at (k := k) (by rw [List.length_set, farI_len]; exact hkn)
     have d01 := cell_of_blk (unhide HP1).b0 1
     have m0 := lt_of_blk (unhide HP1).b0
     have gfl := ((unhide HL).later (unhide HP1).bel).fla k hkn
     have glf := ((unhide HL).later (unhide HP1).bel).lf
     have HSU := hide (farI_succ t n k)
     cases hac : accT t k with
     | true =>
      rw [hac] at hmod
      have e0 : far0 t n k = 0 := by unfold far0; rw [hac]; rfl
      rw [e0] at HSU
      simp only [if_true] at hmod
      clear e0 hac
      go_wp2_with fail
      go_roundw
      case rel => exact ⟨k + 1, by omega, by go_num, by rw [← unhide HSU]; exact HP2⟩
      case measure => simp [intOf]; omega
     | false =>
      rw [hac] at hmod
      have e0 : far0 t n k = n + 1 := by unfold far0; rw [hac]; rfl
      rw [e0] at HSU
      simp only [Bool.false_eq_true, if_false] at hmod
      clear e0 hac
      go_wp2_with fail
      go_roundw
      case rel => exact ⟨k + 1, by omega, by go_num, by rw [← unhide HSU]; exact HP1⟩
      case measure => simp [intOf]; omega
    ·have hki : ¬ (k : Int) < (n : Int) := by omega
     have hke : n = k := by omega
     subst hke
     rw [farI_all] at H1
     have HF0 := hide (far0_ok t n)
     generalize (List.range n).map (far0 t n) = F0 at *
     go_wp2_with fail
     rename World => wS
     go_loopw [12] (fun x wr => ∃ (r : Nat) (F : List Nat), r ≤ n ∧ x = .int .i64 r ∧ Hid (RsB w wr g #[.slice (some ⟨ab, a0, none⟩) A ac, .slice (some ⟨fb, f0, none⟩) n fc, .slice (some ⟨nb, n0, none⟩) n nc] F) ∧ Hid (FarB t n F ∧ FarA t n F r)) (fun x _ => n - (intOf x).toNat)
     case atStart => exact ⟨0, F0, Nat.zero_le _, rfl, H1, HF0⟩
     case round =>
      obtain ⟨r, F1, hr, rfl, H2, HF1⟩ := hrel
      by_cases hrn : r < n
      ·have hri : (r : Int) < (n : Int) := by omega
       go_wp2_with fail
       rename World => wQ
       go_loopw [13] (fun x wr => ∃ (k : Nat) (F : List Nat), k ≤ n ∧ x = .int .i64 k ∧ Hid (RsB w wr g #[.slice (some ⟨ab, a0, none⟩) A ac, .slice (some ⟨fb, f0, none⟩) n fc, .slice (some ⟨nb, n0, none⟩) n nc] F) ∧ Hid (FarI t n F r k)) (fun x _ => n - (intOf x).toNat)
       case atStart => exact ⟨0, F1, Nat.zero_le _, rfl, H2, FarI.start (unhide HF1).1 (unhide HF1).2⟩
       case round =>
        obtain ⟨k, F2, hk2, rfl, H3, HF2⟩ := hrel
        by_cases hkn2 : k < n
        ·have hki2 : (k : Int) < (n : Int) := by omega
         go_wp2_with fail
         rename World => wP
         go_loopw [14] (fun x wr => ∃ (a : Nat) (F : List Nat), a ≤ A ∧ x = .int .i64 a ∧ Hid (RsB w wr g #[.slice (some ⟨ab, a0, none⟩) A ac, .slice (some ⟨fb, f0, none⟩) n fc, .slice (some ⟨nb, n0, none⟩) n nc] F) ∧ Hid (FarJ t n F r k a)) (fun x _ => A - (intOf x).toNat)
         case atStart => exact ⟨0, F2, Nat.zero_le _, rfl, H3, (unhide HF2).begin⟩
         case round =>
          obtain ⟨a, F, ha, rfl, H4, HF⟩ := hrel
          have c00 := cell_of_blk (unhide H4).b0 0
          have c02 := cell_of_blk (unhide H4).b0 2
          have l0 := lt_of_blk (unhide H4).b0
          by_cases haA : a < A
          ·have han : (a : Int) < (A : Int) := by omega
           have hLw := (unhide HL).later (unhide H4).bel
           have hrow := hLw.row k hkn2
           have hln := hLw.ln
           have hlr := hLw.lr k hkn2
           have hnx := hLw.nxt k a hkn2 haA
           have hxn := hLw.lt hkn2 haA
           have hFl := (unhide HF).s.b.len
           have hck := (unhide H4).at (k := k) (by rw [hFl]; exact hkn2)
           have hcx := (unhide H4).at (k := nxT t k a) (by rw [hFl]; exact hxn)
           have hlg := lt_of_blk (unhide H4).fr
           have hfr := frozen_of_blk (unhide H4).fr k
           have hxi : (nxT t k a : Int) < (n : Int) := by omega
           have hfk := (unhide HF).s.b.le k hkn2
           have hfx := (unhide HF).s.b.le _ hxn
           have HJ := hide ((unhide HF).relax hkn2 (by rw [hLw.hA]; exact haA) hxn)
           have HRX : Hid (relax t F k a = if farF F (nxT t k a) + 1 < farF F k then F.set k (farF F (nxT t k a) + 1) else F) := rfl
           have HPUT : Hid (RsB w (wr.setCell ⟨g, k, none⟩ (.int .i64 ((farF F (nxT t k a) : Int) + 1))) g #[.slice (some ⟨ab, a0, none⟩) A ac, .slice (some ⟨fb, f0, none⟩) n fc, .slice (some ⟨nb, n0, none⟩) n nc] (F.set k (farF F (nxT t k a) + 1))) := (unhide H4).put k (farF F (nxT t k a) + 1)
           clear hLw hFl
           generalize nxT t k a = x at *
           generalize farF F k = fk at *
           generalize farF F x = fx at *
           by_cases hc : fx + 1 < fk
           ·rw [if_pos hc] at HRX
            have hci : (fx : Int) + 1 < (fk : Int) := by omega
            rw [unhide HRX] at HJ
            go_wp2_with fail
            go_quiet (fail)
            have hbd := bdn wr nq
            have H5 := hide ((unhide H4).later hbd)
            have HPUT5 : Hid (RsB w ((wr.drewN nq).setCell ⟨g, k, none⟩ (.int .i64 ((fx : Int) + 1))) g #[.slice (some ⟨ab, a0, none⟩) A ac, .slice (some ⟨fb, f0, none⟩) n fc, .slice (some ⟨nb, n0, none⟩) n nc] (F.set k (fx + 1))) := (unhide H5).put k (fx + 1)
            have c02 := (bcell3 hbd _ _ l0).trans c02
            have hrow := (bcell3 hbd _ _ hln).trans hrow
            have hnx := (bcell3 hbd _ _ hlr).trans hnx
            have hcx := (bcell3 hbd _ _ hlg).trans hcx
            have hfr := frozen_of_blk (unhide H5).fr k
            have hck := (bcell3 hbd _ _ hlg).trans hck
            have l0 := Nat.lt_of_lt_of_le l0 hbd.size
            have hln := Nat.lt_of_lt_of_le hln hbd.size
            have hlr := Nat.lt_of_lt_of_le hlr hbd.size
            have hlg := Nat.lt_of_lt_of_le hlg hbd.size
            clear hbd HPUT
            go_wp2_with fail
            go_roundw
            case rel => exact ⟨a + 1, F.set k (fx + 1), by omega, by go_num, HPUT5, HJ⟩
            case measure => simp [intOf]; omega
           ·rw [if_neg hc] at HRX
            have hci : ¬ (fx : Int) + 1 < (fk : Int) := by omega
            rw [unhide HRX] at HJ
            go_wp2_with fail
            go_quiet (fail)
            go_wp2_with fail
            go_roundw
            case rel => exact ⟨a + 1, F, by omega, by go_num, (unhide H4).later (bdn _ _), HJ⟩
            case measure => simp [intOf]; omega
          ·have han : ¬ (a : Int) < (A : Int) := by omega
           have HDN : Hid (FarI t n F r (k + 1)) := by
            have h1 := unhide HF
            have h2 : a = t.acts.length := by rw [(unhide HL).hA]; omega
            rw [h2] at h1
            exact h1.done
           go_wp2_with fail
           go_roundw
           case rel => exact ⟨k + 1, F, by omega, by go_num, H4, HDN⟩
           case measure => simp [intOf]; omega
        ·have hki2 : ¬ (k : Int) < (n : Int) := by omega
         have HDN : Hid (FarB t n F2 ∧ FarA t n F2 (r + 1)) := by
          have h1 := unhide HF2
          have h2 : k = n := by omega
          rw [h2] at h1
          exact h1.done
         go_wp2_with fail
         go_roundw
         case rel => exact ⟨r + 1, F2, by omega, by go_num, H3, HDN⟩
         case measure => simp [intOf]; omega
      ·have hri : ¬ (r : Int) < (n : Int) := by omega
       have hre : n = r := by omega
       subst hre
       have hfs0 : farF F1 s0 ≤ n := by
        have hnl := (unhide HL).hn
        have hsl : s0 < t.fl.length := by rw [(unhide HL).rt.fl, hnl]; exact hs
        have hlive : Lives t s0 := ((unhide HL).rt.alive s0 (flT t s0) (by unfold flT; rw [List.getElem?_eq_getElem hsl]; rfl)).1 (unhide HAL)
        obtain ⟨k, hk⟩ := hlive.wd (unhide HL).rt
        obtain ⟨j, hj, hw⟩ := Wd.short (unhide HL).rt (by rw [hnl]; exact hs) k k (Nat.le_refl _) hk
        have := (unhide HF1).2 s0 j hs (by omega) hw
        omega
       go_wp2_with fail
       rename World => wQ
       go_loopw [7, 15] (fun sv tv wr => ∃ (s : Nat) (u : List Nat) (o : Option Addr) (c : Nat), sv = .int .i64 (s : Int) ∧ tv = .slice o u.length c ∧ s < n ∧ Hid (runT t s0 u = s ∧ (∀ a ∈ u, a < A) ∧ u.length + farF F1 s ≤ n) ∧ Hid (RsB w wr g #[.slice (some ⟨ab, a0, none⟩) A ac, .slice (some ⟨fb, f0, none⟩) n fc, .slice (some ⟨nb, n0, none⟩) n nc] F1) ∧ Hid (wr.ownsRow (g + 1) 9 1 (.slice o u.length c) u.length (strsC (u.map (nmT t))))) (fun sv _ _ => farF F1 (intOf sv).toNat)
       case atStart => exact ⟨s0, [], none, 0, rfl, rfl, hs, ⟨rfl, fun a ha => (List.not_mem_nil ha).elim, by simpa using hfs0⟩, H2, ⟨rfl, Or.inl ⟨rfl, rfl⟩⟩⟩
       case round =>
        obtain ⟨s, u, o, c, rfl, rfl, hsn, HU, H3, HOW⟩ := hrel
        have hsi : (s : Int) < (n : Int) := by omega
        have hFl := (unhide HF1).1.len
        have hcs := (unhide H3).at (k := s) (by rw [hFl]; exact hsn)
        have hlg := lt_of_blk (unhide H3).fr
        have hul := (unhide HU).2.2
        by_cases h0 : 0 < farF F1 s
        ·obtain ⟨a9, ha9, hf9⟩ := far_step (unhide HL).hA (unhide HF1).1 (unhide HF1).2 (fun i a hi ha => (unhide HL).lt hi ha) hsn h0 (by omega)
         have h0i : (0 : Int) < (farF F1 s : Int) := by omega
         have hni : (farF F1 s : Int) ≤ (n : Int) := by omega
         have HF9 := hide hf9
         clear hf9
         go_wp2_with fail
         clear hcs hlg
         rename World => wP
         go_loopw [7, 15, 16] (fun sv tv x wr => ∃ a : Nat, a ≤ a9 ∧ x = .int .i64 a ∧ sv = .int .i64 (s : Int) ∧ tv = .slice o u.length c ∧ Hid (RsB w wr g #[.slice (some ⟨ab, a0, none⟩) A ac, .slice (some ⟨fb, f0, none⟩) n fc, .slice (some ⟨nb, n0, none⟩) n nc] F1) ∧ Hid (wr.ownsRow (g + 1) 9 1 (.slice o u.length c) u.length (strsC (u.map (nmT t))))) (fun _ _ x _ => a9 + 1 - (intOf x).toNat)
         case atStart => exact ⟨0, Nat.zero_le _, rfl, rfl, rfl, H3, HOW⟩
         case round =>
          obtain ⟨a, ha, rfl, rfl, rfl, H4, HO4⟩ := hrel
          have han : (a : Int) < (A : Int) := by omega
          have haA : a < A := by omega
          have c00 := cell_of_blk (unhide H4).b0 0
          have c02 := cell_of_blk (unhide H4).b0 2
          have l0 := lt_of_blk (unhide H4).b0
          have hLw := (unhide HL).later (unhide H4).bel
          have hrow := hLw.row s hsn
          have hln := hLw.ln
          have hlr := hLw.lr s hsn
          have hnx := hLw.nxt s a hsn haA
          have hxn := hLw.lt hsn haA
          have hcs := (unhide H4).at (k := s) (by rw [hFl]; exact hsn)
          have hcx := (unhide H4).at (k := nxT t s a) (by rw [hFl]; exact hxn)
          have hlg := lt_of_blk (unhide H4).fr
          have hxi : (nxT t s a : Int) < (n : Int) := by omega
          have haa : a < t.acts.length := by rw [hLw.hA]; exact haA
          have hac := hLw.act a (nmT t a) (by unfold nmT; rw [List.getElem?_eq_getElem haa]; rfl)
          have hla := hLw.la
          have hfx := (unhide HF1).1.le _ hxn
          have HRUN : Hid (runT t s0 (u ++ [a]) = nxT t s a) := by show _ = _; rw [run_snoc, (unhide HU).1]
          clear hLw
          by_cases hE : farF F1 (nxT t s a) + 1 = farF F1 s
          ·have hEi : (farF F1 (nxT t s a) : Int) = (farF F1 s : Int) - 1 := by omega
           have HE := hide hE
           clear hE
           generalize hxe : nxT t s a = x at *
           generalize hfxe : farF F1 x = fx at *
           generalize hfse : farF F1 s = fs at *
           have HXE := hide hxe
           have HFX := hide hfxe
           have HFS := hide hfse
           clear hxe hfxe hfse
           obtain ⟨sn, hs9⟩ : ∃ sn, sn = nmT t a := ⟨_, rfl⟩
           rw [← hs9] at hac
           have HSN := hide hs9
           clear hs9
           go_wp2_with fail
           go_quiet (fail)
           have hbd := bdn wr nq
           have H5 := hide ((unhide H4).later hbd)
           have HO5 := hide (owns_later (unhide HO4) hbd)
           have hgb : g + 1 ≤ (wr.drewN nq).heap.size := lt_of_blk (unhide H5).fr
           have c00 := (bcell3 hbd _ _ l0).trans c00
           have hac := (bcell3 hbd _ _ hla).trans hac
           have l0 := Nat.lt_of_lt_of_le l0 hbd.size
           have hla := Nat.lt_of_lt_of_le hla hbd.size
           clear hbd c02 hrow hln hlr hnx hcx hcs hlg hxi hfx H4 HO4
           generalize wr.drewN nq = w5 at *
           go_wp2_with (at_builtin; go_must (refine wpList_append_lies _ rfl _ _ 25 rfl (g + 1) 9 j0 (.string ⟨#[]⟩) 1 16 Tryz.underlying25 hj0 hy0 hy1 hy2 rfl (by decide) _ u.length (strsC (u.map (nmT t))) rfl ?c0 _ 1 1 [.string sn] rfl rfl ?c1 ?c2 (by decide) ?c3 ?c4 ?c5 _ rfl ?_))
           case c0 => exact (unhide HO5).alloc _
           case c1 =>
            intro j u hj
            match j, hj with
            | 0, hj => simp at hj; subst hj; exact cell_of_blk (blk_alloc' _ _ _ (by simp)) 0
            | j + 1, hj => simp at hj
           case c2 => intro u hu; simp at hu; subst hu; rfl
           case c3 => unfold maxLen; omega
           case c4 => omega
           case c5 => simp; omega
           intro g8 c8 w8 ho8 hg8 _ _
           have hba8 : Below w5.heap.size w5 (w5.alloc (.cells #[.string sn] 9)) := (Below.refl _ _).alloc (Nat.le_refl _) _
           have H8 := hide (((unhide H5).later hba8).grown hg8 (fun b hb => own_base (unhide HO5) hb))
           have HO8 : Hid (w8.ownsRow (g + 1) 9 1 (.slice (some ⟨g8, 0, none⟩) (u ++ [a]).length c8) (u ++ [a]).length (strsC ((u ++ [a]).map (nmT t)))) := by
            show World.ownsRow _ _ _ _ _ _ _
            rw [List.length_append, List.map_append]
            unfold strsC
            rw [List.map_append]
            have e : ([a].map (nmT t)).map (Value.string) = [.string sn] := by rw [unhide HSN]; rfl
            rw [e]
            exact ho8
           have HU8 : Hid (runT t s0 (u ++ [a]) = x ∧ (∀ b ∈ u ++ [a], b < A) ∧ (u ++ [a]).length + fx ≤ n) := by
            refine ⟨unhide HRUN, fun b hb => ?_, ?_⟩
            ·rcases List.mem_append.1 hb with hb | hb
             ·exact (unhide HU).2.1 b hb
             ·rw [List.mem_singleton.1 hb]; exact haA
            ·rw [List.length_append]
             have := unhide HE
             show u.length + 1 + fx ≤ n
             omega
           have hLw := (unhide HL).later (unhide H8).bel
           have c02 := cell_of_blk (unhide H8).b0 2
           have l0 := lt_of_blk (unhide H8).b0
           have hrow := hLw.row s hsn
           have hln := hLw.ln
           have hlr := hLw.lr s hsn
           have hnx := hLw.nxt s a hsn haA
           rw [unhide HXE] at hnx
           clear ho8 hg8 hba8 HO5 H5 hLw c00 hac hla
           go_wp2_with fail
           go_roundw
           case rel => exact ⟨x, u ++ [a], some ⟨g8, 0, none⟩, c8, rfl, by rw [List.length_append]; rfl, hxn, by rw [unhide HFX]; exact HU8, H8, HO8⟩
           case measure =>
            have h1 := unhide HE
            have h2 := unhide HFX
            have h3 := unhide HFS
            simp [intOf]
            omega
          ·have hEi : ¬ (farF F1 (nxT t s a) : Int) = (farF F1 s : Int) - 1 := by omega
           have hne : a ≠ a9 := fun e => by subst e; exact hE (unhide HF9)
           clear hE
           generalize nxT t s a = x at *
           generalize farF F1 x = fx at *
           generalize farF F1 s = fs at *
           go_wp2_with fail
           go_quiet (fail)
           go_wp2_with fail
           go_roundw
           case rel => exact ⟨a + 1, by omega, by go_num, rfl, rfl, (unhide H4).later (bdn _ _), owns_later (unhide HO4) (bdn _ _)⟩
           case measure => simp [intOf]; omega
        ·have h0e : farF F1 s = 0 := by omega
         have hacc := Wd.zero.1 (by have := (unhide HF1).1.wd s hsn (by omega); rw [h0e] at this; exact this)
         have HACC := hide hacc
         rw [h0e] at hcs
         clear hacc
         go_wp2_with fail
         refine bodyPost_ret (v := .slice o u.length c) (by simp [results, Tryz.results52, go_sem]) rfl ?_
         exact ⟨u, o, c, rfl, (unhide HU).2.1, by rw [unhide HS0, (unhide HU).1]; exact unhide HACC, by omega, owns_mono (unhide HOW) (by have := (unhide H3).hg; omega), (unhide H3).bel⟩
end Go.Proofs.YtidakhhekofkoaaGreatDoor
