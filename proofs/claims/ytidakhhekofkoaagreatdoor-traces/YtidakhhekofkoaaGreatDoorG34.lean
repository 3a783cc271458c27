/- The reference's Keeps. -/
import Derived.Test.YtidakhhekofkoaaGreatDoorG29
import Derived.OwnWalk
import Derived.Test.YtidakhhekofkoaaGreatDoorG16
import Derived.Deep.DeepCutAuto
import Derived.BigQuiet
set_option linter.unusedSimpArgs false
namespace Go.Proofs.YtidakhhekofkoaaGreatDoor
open Go.RowKit Go.Deep
theorem infoBl : (Tryz.prog.info? 4).map (fun i => (i.zero, i.size, i.bytes)) = some (some (.bool false), 1, 1) := by kernel_rfl
theorem infoLb : (Tryz.prog.info? 87).map (fun i => (i.zero, i.size, i.bytes)) = some (some (.slice none 0 0), 1, 24) := by kernel_rfl
structure RB (w0 w : World) (n : Nat) (v : Value) (R : List (Nat → Bool)) (us : List Nat) : Prop where
 len : us.length = R.length
 own : w.ownsRow w0.heap.size 87 1 v R.length (us.map fun u => .slice (some ⟨u, 0, none⟩) (n + 2) (n + 2))
 row : ∀ (i u : Nat) (f : Nat → Bool), us[i]? = some u → R[i]? = some f → TyAt w u 4 ∧ RowB w n f u (n + 2) (n + 2)
 bel : Below w0.heap.size w0 w
theorem RowB.later {w w' : World} {n : Nat} {f : Nat → Bool} {g m c : Nat} (h : RowB w n f g m c) (hg : w'.heap[g]? = w.heap[g]?) : RowB w' n f g m c :=
 ⟨h.len, h.top, fun i h1 h2 => by
  have := h.at_ i h1 h2
  unfold World.cell? at this ⊢
  simp only [hg]; exact this⟩
theorem RB.later {w0 w w' : World} {n : Nat} {v : Value} {R : List (Nat → Bool)} {us : List Nat} (h : RB w0 w n v R us) (hb : Below w.heap.size w w') : RB w0 w' n v R us := by
 refine ⟨h.len, owns_later h.own hb, fun i u f hu hf => ?_, h.bel.trans (hb.mono h.bel.size)⟩
 obtain ⟨⟨c, m, ht⟩, hr⟩ := h.row i u f hu hf
 have e := hb.block u (lt_of_blk ht)
 exact ⟨⟨c, m, e.trans ht⟩, hr.later e⟩
theorem RB.rows {w0 w : World} {n : Nat} {v : Value} {R : List (Nat → Bool)} {us : List Nat} (h : RB w0 w n v R us) : RowsB w n v R := by
 have h1 := h.len
 have h2 := h.own
 obtain ⟨o, k, rfl⟩ := owns_val h2
 refine ⟨o, k, rfl, fun i f hf => ?_⟩
 have hi : i < R.length := by
  rcases Nat.lt_or_ge i R.length with h | h
  ·exact h
  ·rw [List.getElem?_eq_none h] at hf; cases hf
 obtain ⟨g, rfl, _, hc⟩ := owns1_at h2 hi
 have hu : us[i]? = some us[i] := List.getElem?_eq_getElem (by omega)
 obtain ⟨_, hr⟩ := h.row i us[i] f hu hf
 exact ⟨g, us[i], n + 2, n + 2, rfl, by rw [hc, List.getElem?_map, hu]; rfl, hr⟩
theorem RB.app {w0 w w2 : World} {n : Nat} {v v2 : Value} {R : List (Nat → Bool)} {us : List Nat} (h : RB w0 w n v R us) (u : Nat) (f : Nat → Bool) (hu : TyAt w u 4) (hr : RowB w n f u (n + 2) (n + 2))
  (ho : w2.ownsRow w0.heap.size 87 1 v2 (R.length + 1) ((us.map fun u => Value.slice (some ⟨u, 0, none⟩) (n + 2) (n + 2)) ++ [.slice (some ⟨u, 0, none⟩) (n + 2) (n + 2)])) (hg : w.grownBy w2 v.ownBlock) : RB w0 w2 n v2 (R ++ [f]) (us ++ [u]) := by
 have h1 := h.len
 have h2 := h.own
 have keep : ∀ b, TyAt w b 4 → w2.heap[b]? = w.heap[b]? := by
  rintro b ⟨c, m, hb⟩
  exact hg.block b (lt_of_blk hb) (fun e => own_ty h2 e.symm hb (by decide))
 refine ⟨by simp [h1], ?_, fun i x y hx hy => ?_, ?_⟩
 ·rw [List.map_append, List.length_append]; exact ho
 ·rcases Nat.lt_or_ge i us.length with hi | hi
  ·rw [List.getElem?_append_left hi] at hx
   rw [List.getElem?_append_left (by omega)] at hy
   obtain ⟨⟨c, m, ht⟩, hr'⟩ := h.row i x y hx hy
   have e := keep x ⟨c, m, ht⟩
   exact ⟨⟨c, m, e.trans ht⟩, hr'.later e⟩
  ·rw [List.getElem?_append_right hi] at hx
   rw [List.getElem?_append_right (by omega)] at hy
   have h0 : i - us.length = 0 := by
    rcases Nat.eq_zero_or_pos (i - us.length) with h | h
    ·exact h
    ·rw [List.getElem?_eq_none (by simp; omega)] at hx; cases hx
   rw [h0] at hx
   rw [show i - R.length = 0 by omega] at hy
   cases hx; cases hy
   obtain ⟨c, m, ht⟩ := hu
   have e := keep u ⟨c, m, ht⟩
   exact ⟨⟨c, m, e.trans ht⟩, hr.later e⟩
 ·exact h.bel.grown hg h.bel.size (fun b hb => (own_lt h2 b hb).1)
theorem rowsN_take {n : Nat} {z : Int → Nat → Bool} {L : List Nd} {k : Nat} {d : Nd} (h : L[k]? = some d) : rowsN n z (L.take (k + 1)) = rowsN n z (L.take k) ++ [valN n z (rowsN n z (L.take k)) d] := by
 rw [List.take_add_one, h]; exact rowsN_snoc n z _ d
theorem at_any2 (w : World) (nb k : Nat) (d : Nd) (ns : List Int) (i : Nat) (tt : Option Addr) (tc : Nat) (bel : Value) (R : List (Nat → Bool)) (hT : TrB w tt ns) (hB : RowsB w ns.length bel R) (hg : NdGood R.length d) (hN : NdAt w nb k (refO d.k) d.a d.b d.t) (hi : 1 ≤ i) (hj : i ≤ ns.length + 1) (hn : ns.length ≤ 10000000000000) :
  Calls Tryz.prog 180 #[.pointer (some ⟨nb, 0, none⟩), .int .i64 k, .int .i64 i, .slice tt ns.length tc, bel] w fun e w' => e = .returned (.bool (valN ns.length (zT ns) R d i)) ∧ ∃ q, w' = w.drewN q := by
 obtain ⟨j, rfl⟩ : ∃ j, i = j + 1 := ⟨i - 1, by omega⟩
 exact at_any w nb k d ns j tt tc bel R hT hB hg hN (by omega) hn
set_option maxHeartbeats 4000000 in
set_option maxRecDepth 100000 in
theorem Keeps_any (w : World) (nb B : Nat) (L : List Nd) (T : List Int) (ns : List Int) (tt : Option Addr) (tc : Nat) (hN : NSx w nb B L T) (hT : TrB w tt ns) (hg : AllGood L) (ht : ∀ t ∈ T, 0 ≤ t ∧ t < (L.length : Int)) (hn : ns.length ≤ 10000000000000) (hL : L.length ≤ 10000) (hTl : T.length ≤ 10000) :
  Calls Tryz.prog 141 #[.pointer (some ⟨nb, 0, none⟩), .slice tt ns.length tc] w fun e w' => e = .returned (.bool (T.all fun t => rowAt (rowsN ns.length (zT ns) L) t 1)) ∧ Below w.heap.size w w' := by
 obtain ⟨v, hv⟩ := id hN
 have l0 : (ndX L T 0).length = L.length := by simp [ndX]
 have l4 : (ndX L T 4).length = T.length := by simp [ndX]
 have o0 := hv.own 0
 have o4 := hv.own 4
 rw [l0] at o0; rw [l4] at o4
 obtain ⟨p0, c0, e0⟩ := owns_val o0
 obtain ⟨p4, c4, e4⟩ := owns_val o4
 have hb0 : ∀ W, Below w.heap.size w W → W.cell? ⟨nb, 0, none⟩ = some (.slice p0 L.length c0) := fun W hW => (cell_of_blk ((hW.block nb (lt_of_blk hv.blk)).trans hv.blk) 0).trans (congrArg some e0)
 have hb4 : ∀ W, Below w.heap.size w W → W.cell? ⟨nb, 4, none⟩ = some (.slice p4 T.length c4) := fun W hW => (cell_of_blk ((hW.block nb (lt_of_blk hv.blk)).trans hv.blk) 4).trans (congrArg some e4)
 rw [e4] at o4
 have ht4 : ∀ W i t, Below w.heap.size w W → T[i]? = some t → ∃ g, p4 = some ⟨g, 0, none⟩ ∧ W.cell? ⟨g, i, none⟩ = some (.int .i64 t) := fun W i t hW hi => by
  have hlt : i < T.length := by
   rcases Nat.lt_or_ge i T.length with h | h
   ·exact h
   ·rw [List.getElem?_eq_none h] at hi; cases hi
  obtain ⟨g, h1, _, h2⟩ := owns1_at (owns_later o4 hW) hlt
  exact ⟨g, h1, by rw [h2]; simp [ndX, hi]⟩
 have HB0 := hide hb0
 have HB4 := hide hb4
 have HT4 := hide ht4
 have HN := hide hN
 have HT := hide hT
 have HG := hide hg
 have HTT := hide ht
 clear hb0 hb4 ht4 hN hT hg ht hv o0 o4 e0 e4 l0 l4
 obtain ⟨i0, hi0, hz0, hz1, hz2⟩ := info_parts infoBl
 obtain ⟨j0, ji, jz0, jz1, jz2⟩ := info_parts infoLb
 go_enter Tryz.func141, Tryz.ntmps141
 go_wp2_with fail
 go_loopw [5, 6] (fun bv x wr => ∃ (k : Nat) (bo : Option Addr) (bc : Nat) (us : List Nat), k ≤ L.length ∧ bv = .slice bo k bc ∧ x = .int .i64 k ∧ RB w wr ns.length (.slice bo k bc) (rowsN ns.length (zT ns) (L.take k)) us) (fun _ x _ => L.length - (intOf x).toNat)
 case atStart => exact ⟨0, none, 0, [], Nat.zero_le _, rfl, rfl, ⟨rfl, World.ownsRow_nil _ _ _ _, fun i u f h => by simp at h, Below.refl _ _⟩⟩
 case round =>
  rename World => wR
  obtain ⟨k, bo, bc, us, hk, rfl, rfl, hrb⟩ := hrel
  have bb0 := unhide HB0 wR hrb.bel
  have HRB := hide hrb
  have hRl : (rowsN ns.length (zT ns) (L.take k)).length = k := by rw [rowsN_len, List.length_take, Nat.min_eq_left hk]
  clear hrb
  by_cases hlt : k < L.length
  ·have hkn : (k : Int) < (L.length : Int) := by omega
   obtain ⟨d, hd⟩ : ∃ d, L[k]? = some d := ⟨_, List.getElem?_eq_getElem hlt⟩
   have HD := hide hd
   have hgd := unhide HG k d hd
   rw [← hRl] at hgd
   have HGD := hide hgd
   have HRN : Hid (rowsN ns.length (zT ns) (L.take (k + 1)) = rowsN ns.length (zT ns) (L.take k) ++ [valN ns.length (zT ns) (rowsN ns.length (zT ns) (L.take k)) d]) := rowsN_take hd
   have hwz := (unhide HRB).bel.size
   clear hd hgd
   generalize rowsN ns.length (zT ns) (L.take k) = R at *
   go_wp2_with (at_make; go_must (refine wpList_make_full _ rfl _ _ 87 rfl wR.heap.size 4 i0 (.bool false) 1 Tryz.underlying87 hi0 hz0 hz1 .i64 .i64 _ _ (ns.length + 2) rfl rfl (by first | rfl | omega) (by first | rfl | omega) (by rw [hz2]; omega) (by unfold maxLen; omega) (Nat.le_refl _) ?_; intro w1 hown1 hgrow1))
   have hblk : ∃ cur, w1.heap[wR.heap.size]? = some (.cells cur 4 (0, 0)) ∧ cur.size = ns.length + 2 := by
    obtain ⟨_, ⟨h1, _⟩ | ⟨g', cap', cur', hv', _, hh', _, _, hcs, _⟩⟩ := hown1
    ·cases h1
    ·cases hv'
     exact ⟨cur', hh', by rw [hcs, Nat.mul_one]⟩
   obtain ⟨cur1, hc1, hcs1⟩ := hblk
   have HC1 := hide hc1
   have hw1 := lt_of_blk hc1
   have HGR : Hid (Below wR.heap.size wR w1) := ⟨hgrow1.os, hgrow1.tape, hgrow1.output, hgrow1.size, fun b hb => hgrow1.block b hb (fun e => by cases e)⟩
   clear hown1 hgrow1 hc1 bb0
   go_wp2_with fail
   go_loopw [8] (fun x wi => ∃ (i : Nat) (cur : Array Value), 1 ≤ i ∧ i ≤ ns.length + 2 ∧ x = .int .i64 i ∧ wi.heap[wR.heap.size]? = some (.cells cur 4 (0, 0)) ∧ cur.size = ns.length + 2 ∧ Hid (∀ j, 1 ≤ j → j < i → cur[j]? = some (.bool (valN ns.length (zT ns) R d j))) ∧ Below wR.heap.size wR wi) (fun x _ => ns.length + 2 - (intOf x).toNat)
   case atStart => exact ⟨1, cur1, by omega, by omega, rfl, unhide HC1, hcs1, hide (fun j h1 h2 => by omega), unhide HGR⟩
   case round =>
    obtain ⟨i, cur, hi1, hi2, rfl, hcur, hcsz, HV, hbi⟩ := hrel
    have HCUR := hide hcur
    have HBI := hide hbi
    have HBW := hide ((unhide HRB).bel.trans (hbi.mono hwz))
    have hwlt := lt_of_blk hcur
    clear hbi hcur HC1 HGR
    by_cases hil : i ≤ ns.length + 1
    ·have hic : (i : Int) ≤ (ns.length : Int) + 1 := by omega
     go_wp2_with (go_at_call 180; refine (at_any2 _ nb k d ns i tt tc _ R ((unhide HT).later (unhide HBW)) ((unhide HRB).later (unhide HBI)).rows (unhide HGD) (((unhide HN).later (unhide HBW)).nd (unhide HD)) hi1 hil hn).mono ?_)
     rintro e w3 ⟨rfl, q, hw3⟩
     have hb3 : Below _ _ w3 := hw3 ▸ bdn _ q
     have hc3 := (hb3.block _ hwlt).trans (unhide HCUR)
     have HC3 := hide hc3
     have HB3 := hide ((unhide HBI).trans (hb3.mono (by have := (unhide HBI).size; omega)))
     have hlt3 := lt_of_blk hc3
     have cc3 : w3.cell? ⟨_, i, none⟩ = some cur[i] := (cell_of_blk hc3 i).trans (Array.getElem?_eq_getElem (by omega))
     have cf3 := frozen_of_blk hc3 i
     have hin : (i : Int) < (ns.length : Int) + 2 := by omega
     clear hw3 hb3 hc3
     generalize cur[i] = old at *
     go_wp2_with fail
     go_roundw
     case rel =>
      refine ⟨i + 1, cur.setIfInBounds i (.bool (valN ns.length (zT ns) R d i)), by omega, by omega, by go_num, blk_set (unhide HC3) i _, by rw [Array.size_setIfInBounds]; exact hcsz, hide (fun j h1 h2 => ?_), ?_⟩
      ·by_cases e : j = i
       ·subst e; rw [Array.getElem?_setIfInBounds_self_of_lt (by omega)]
       ·rw [Array.getElem?_setIfInBounds_ne (by omega)]; exact unhide HV j h1 (by omega)
      ·exact (unhide HB3).grown (grown_set _ _ _ _) (unhide HB3).size (fun b hb => by cases hb; exact Nat.le_refl _)
     case measure => simp [intOf]; omega
    ·have hic : ¬ (i : Int) ≤ (ns.length : Int) + 1 := by omega
     have hie : i = ns.length + 2 := by omega
     have hrow : RowB _ ns.length (valN ns.length (zT ns) R d) _ (ns.length + 2) (ns.length + 2) := ⟨Nat.le_refl _, by omega, fun j h1 h2 => (cell_of_blk (unhide HCUR) j).trans (unhide HV j h1 (by omega))⟩
     have HROW := hide hrow
     have HRB3 := hide (((unhide HRB).later (unhide HBI)).later ((Below.refl _ _).alloc (Nat.le_refl _) (.cells #[.slice (some ⟨wR.heap.size, 0, none⟩) (ns.length + 2) (ns.length + 2)] 87)))
     have HRL := hide hRl
     clear hrow HV HRB hRl
     go_wp2_with (at_builtin; go_must (refine wpList_append_lies _ rfl _ _ 296 rfl w.heap.size 87 j0 (.slice none 0 0) 1 24 Tryz.underlying296 ji jz0 jz1 jz2 rfl (by decide) _ k (us.map fun u => .slice (some ⟨u, 0, none⟩) (ns.length + 2) (ns.length + 2)) rfl ?c0 ⟨wr.heap.size, 0, none⟩ 1 1 [.slice (some ⟨wR.heap.size, 0, none⟩) (ns.length + 2) (ns.length + 2)] rfl rfl ?c1 ?c2 (by decide) ?c3 ?c4 ?c5 (wr.heap.size + 1) ?c6 ?_))
     case c0 => have := (unhide HRB3).own; rw [unhide HRL] at this; exact this
     case c2 => first | rfl | (intro u hu; simp at hu; subst hu; rfl)
     case c3 => unfold maxLen; omega
     case c4 => omega
     case c5 => omega
     intro g8 cap8 q8 hown hgrow _ _
     have HNEW := hide ((unhide HRB3).app wR.heap.size _ ⟨cur, (0, 0), (Below.heap_alloc _ _ _ hwlt).trans (unhide HCUR)⟩ ((unhide HROW).later (Below.heap_alloc _ _ _ hwlt)) (by rw [unhide HRL]; exact hown) hgrow)
     clear hown hgrow
     go_wp2_with fail
     go_roundw
     case rel => exact ⟨k + 1, some ⟨g8, 0, none⟩, cap8, _, by omega, rfl, by go_num, by rw [unhide HRN]; exact unhide HNEW⟩
     case measure => simp [intOf]; omega
  ·have hkn : ¬ (k : Int) < (L.length : Int) := by omega
   have hke : L.take k = L := List.take_of_length_le (by omega)
   rw [hke] at HRB hRl
   have hbel := (unhide HRB).bel
   have HBEL := hide hbel
   have bb4 := unhide HB4 wR hbel
   have HRW := hide (unhide HRB).rows
   have ht4 := fun i t => unhide HT4 wR i t hbel
   have HT5 := hide ht4
   have hkL : k = L.length := by omega
   clear hbel ht4 HT4 HB4 HB0 HRB
   have HR : Hid (∀ t : Int, rowAt (rowsN ns.length (zT ns) L) t = rowAt (rowsN ns.length (zT ns) L) t) := hide (fun _ => rfl)
   go_wp2_with fail
   go_loopw [9] (fun x wq => ∃ i : Nat, i ≤ T.length ∧ x = .int .i64 i ∧ wR = wq ∧ Hid (T.all (fun t => rowAt (rowsN ns.length (zT ns) L) t 1) = (T.drop i).all (fun t => rowAt (rowsN ns.length (zT ns) L) t 1))) (fun x _ => T.length - (intOf x).toNat)
   case atStart => exact ⟨0, Nat.zero_le _, rfl, rfl, rfl⟩
   case round =>
    obtain ⟨i, hi, rfl, hwq, HX⟩ := hrel
    subst hwq
    by_cases hil : i < T.length
    ·have hic : (i : Int) < (T.length : Int) := by omega
     obtain ⟨t, l, htl⟩ := drop_cons hil
     have hti : T[i]? = some t := by
      have := List.getElem?_drop (xs := T) (i := i) (j := 0)
      rw [htl] at this; simpa using this.symm
     obtain ⟨g4, hg4, hc4⟩ := unhide HT5 i t hti
     subst hg4
     obtain ⟨h0, h1⟩ := unhide HTT t (List.mem_of_getElem? hti)
     obtain ⟨m, rfl⟩ := Int.eq_ofNat_of_zero_le h0
     obtain ⟨bo', bc', hbe, hrows⟩ := unhide HRW
     have hmL : m < (rowsN ns.length (zT ns) L).length := by rw [rowsN_len]; omega
     obtain ⟨bg, ua, um, uc, hbo, hcm, hrow⟩ := hrows m _ (List.getElem?_eq_getElem hmL)
     cases hbe
     subst hbo
     have hc1 := hrow.at_ 1 (by omega) (by omega)
     have hul : 1 < um := by have := hrow.len; omega
     have hul' : (1 : Int) < (um : Int) := by omega
     have HRA := hide (rowAt_nat (List.getElem?_eq_getElem hmL))
     have HTL := hide htl
     have hmk : (m : Int) < (L.length : Int) := h1
     clear hrows hrow hti htl h0 HR
     generalize (rowsN ns.length (zT ns) L)[m] = fm at *
     cases hb : fm 1 with
     | false =>
      rw [hb] at hc1
      have HF : Hid ((T.all fun t => rowAt (rowsN ns.length (zT ns) L) t 1) = false) := by show _ = _; rw [unhide HX, unhide HTL, List.all_cons, unhide HRA, hb]; rfl
      clear HX hb
      go_wp2_with fail
      go_ret
      exact ⟨by rw [unhide HF]; rfl, unhide HBEL⟩
     | true =>
      rw [hb] at hc1
      have HF : Hid ((T.all fun t => rowAt (rowsN ns.length (zT ns) L) t 1) = (T.drop (i + 1)).all fun t => rowAt (rowsN ns.length (zT ns) L) t 1) := by
       show _ = _
       rw [unhide HX, dropTl (unhide HTL), unhide HTL, List.all_cons, unhide HRA, hb]; rfl
      clear HX hb
      go_wp2_with fail
      go_roundw
      case rel => exact ⟨i + 1, by omega, by go_num, trivial, HF⟩
      case measure => simp [intOf]; omega
    ·have hic : ¬ (i : Int) < (T.length : Int) := by omega
     go_wp2_with fail
     go_ret
     refine ⟨?_, unhide HBEL⟩
     rw [unhide HX, List.drop_eq_nil_of_le (by omega)]; rfl
theorem numI_neg {al : List Tk} {x : ByteArray} : (numI x 0 al < 0) = (hasN al x = false) := by
 rcases numI_spec x 0 al with ⟨h, j, t, _, _, h3⟩ | ⟨h, h2⟩
 ·rw [h, h3]; simp
 ·rw [h, h2]; simp
def numsV (al : List Tk) (tr : List ByteArray) : List Value := tr.map fun x => .int .i64 (numI x 0 al)
theorem numsV_snoc (al : List Tk) (tr : List ByteArray) (x : ByteArray) : numsV al (tr ++ [x]) = numsV al tr ++ [.int .i64 (numI x 0 al)] := by simp [numsV]
theorem numsV_tr {w : World} {base : Nat} {o : Option Addr} {al : List Tk} {tr : List ByteArray} {c : Nat} (h : w.ownsRow base 3 1 (.slice o tr.length c) tr.length (numsV al tr)) : TrB w o (tr.map fun x => numI x 0 al) := by
 intro j x hx
 have hj : j < tr.length := by
  rcases Nat.lt_or_ge j tr.length with h | h
  ·exact h
  ·rw [List.getElem?_eq_none (by simpa using h)] at hx; cases hx
 obtain ⟨g, h1, h2, h3⟩ := owns1_at h hj
 refine ⟨g, h1, h2, h3.trans ?_⟩
 rw [numsV, List.getElem?_map]
 rw [List.getElem?_map] at hx
 cases ht : tr[j]? with
 | none => rw [ht] at hx; cases hx
 | some y => rw [ht] at hx; cases hx; rfl
theorem Keeps_any2 (w : World) (nb B : Nat) (L : List Nd) (T : List Int) (ns : List Int) (n : Nat) (hl : ns.length = n) (tt : Option Addr) (tc : Nat) (hN : NSx w nb B L T) (hT : TrB w tt ns) (hg : AllGood L) (ht : ∀ t ∈ T, 0 ≤ t ∧ t < (L.length : Int)) (hn : n ≤ 10000000000000) (hL : L.length ≤ 10000) (hTl : T.length ≤ 10000) :
  Calls Tryz.prog 141 #[.pointer (some ⟨nb, 0, none⟩), .slice tt n tc] w fun e w' => e = .returned (.bool (T.all fun t => rowAt (rowsN n (zT ns) L) t 1)) ∧ Below w.heap.size w w' := by
 subst hl
 exact Keeps_any w nb B L T ns tt tc hN hT hg ht hn hL hTl
set_option maxHeartbeats 4000000 in
set_option maxRecDepth 100000 in
theorem HoldsRef_any (s : ByteArray) (tr : List ByteArray) (w : World) (tt : Option Addr) (tc : Nat) (hT : TxS w tt tr) (hn : tr.length ≤ 10000000000000) :
  Calls Tryz.prog 95 #[.string s, .slice tt tr.length tc] w fun e w' => e = .returned (.tuple #[.bool (holdsM s tr).1, .int .i64 (holdsM s tr).2]) ∧ Below w.heap.size w w' := by
 have HT := hide hT
 clear hT
 obtain ⟨j0, ji, jz0, jz1, jz2⟩ := info_parts infoI
 go_enter Tryz.func95, Tryz.ntmps95
 go_wp2_with (go_at_call 137; refine (Read_any s _).mono ?_)
 rintro e w1 ⟨hb1, hm⟩
 have HH : Hid (holdsM s tr = match readM s with
  | .error x => (false, x.2)
  | .ok (al, rs) => if tr.all (fun x => hasN al x) = true then (rs.all (fun r => semF tr.length (atT tr) (ruleF r) 1), 0) else (false, 3)) := rfl
 cases hr : readM s with
 | error x =>
  rw [hr] at hm
  have hxe := readM_err hr
  have HX : Hid (holdsM s tr = (false, x.2)) := by show _ = _; rw [unhide HH, hr]
  obtain ⟨xp, xe⟩ := x
  replace hxe : xe ≠ 0 := hxe
  have hxi : (xe : Int) ≠ 0 := by omega
  have HB := hide hb1
  subst hm
  clear HH hr hb1
  go_wp2_with fail
  refine bodyPost_ret (v := .tuple #[.bool false, .int .i64 xe]) (by simp [results, Tryz.results95, go_sem]) rfl ?_
  rw [unhide HX]
  exact ⟨rfl, (unhide HB).alloc (unhide HB).size _⟩
 | ok m =>
  obtain ⟨al, rs⟩ := m
  rw [hr] at hm
  obtain ⟨o1, n1, k1, o2, n2, k2, rfl, hac, hrr⟩ := hm
  have HX : Hid (holdsM s tr = if tr.all (fun x => hasN al x) = true then (rs.all (fun r => semF tr.length (atT tr) (ruleF r) 1), 0) else (false, 3)) := by show _ = _; rw [unhide HH, hr]
  have hg := readM_good hr
  have HG := hide hg
  have hal := hg.alen
  have hrl := hg.rlen
  have hbl : Below w1.heap.size w1 (w1.alloc (.cells #[.slice o1 n1 k1, .slice o2 n2 k2] 228)) := (Below.refl _ _).alloc (Nat.le_refl _) _
  have hmb : (w1.alloc (.cells #[.slice o1 n1 k1, .slice o2 n2 k2] 228)).heap[w1.heap.size]? = some (.cells #[.slice o1 n1 k1, .slice o2 n2 k2] 228 (0, 0)) := blk_alloc _ _
  have HMB := hide hmb
  have HA := hide ((KT.below hbl).acts hac)
  have HR := hide (hrr.later hbl)
  have HB := hide (hb1.alloc hb1.size (.cells #[.slice o1 n1 k1, .slice o2 n2 k2] 228))
  clear hac hrr hr HH hb1 hg hbl hmb
  go_wp2_with fail
  generalize w1.alloc (.cells #[.slice o1 n1 k1, .slice o2 n2 k2] 228) = W at *
  have hzW : w1.heap.size < W.heap.size := lt_of_blk (unhide HMB)
  go_loopw [9, 10] (fun lv x wr => ∃ (k : Nat) (lo : Option Addr) (lc : Nat), k ≤ tr.length ∧ lv = .slice lo k lc ∧ x = .int .i64 k ∧ Hid (wr.ownsRow W.heap.size 3 1 (.slice lo k lc) k (numsV al (tr.take k))) ∧ Hid (Below W.heap.size W wr) ∧ Hid (∀ x ∈ tr.take k, hasN al x = true)) (fun _ x _ => tr.length - (intOf x).toNat)
  case atStart => exact ⟨0, none, 0, Nat.zero_le _, rfl, rfl, World.ownsRow_nil _ _ _ _, Below.refl _ _, hide (fun x hx => by simp at hx)⟩
  case round =>
   obtain ⟨k, lo, lc, hk, rfl, rfl, HO, HBL, HK⟩ := hrel
   have hmc := fun o => cell_of_blk (((unhide HBL).block _ hzW).trans (unhide HMB)) o
   have hsz := (unhide HBL).size
   by_cases hlt : k < tr.length
   ·have hkn : (k : Int) < (tr.length : Int) := by omega
    obtain ⟨b, off, hto, hblt, hcx⟩ := unhide HT k tr[k] (List.getElem?_eq_getElem hlt)
    subst hto
    have hcx' : wr.cell? ⟨b, off + k, none⟩ = some (.string tr[k]) := (bcell3 ((unhide HB).trans ((unhide HBL).mono (unhide HB).size)) _ _ hblt).trans hcx
    have htk : tr.take (k + 1) = tr.take k ++ [tr[k]] := by rw [List.take_add_one, List.getElem?_eq_getElem hlt]; rfl
    have HTK := hide htk
    have hmem : tr[k] ∈ tr := List.getElem_mem hlt
    have HAr := hide ((KT.below (unhide HBL)).acts (unhide HA))
    have HME := hide hmem
    clear hcx htk hmem
    generalize tr[k] = x at *
    go_wp2_with fail
    go_quiet (first | (go_at_call 139; refine Calls.quiet_of_same (numberR_any _ _ _ _ al x ((KT.below (bdn _ _)).acts (unhide HAr)) hal)))
    cases hN : hasN al x with
    | false =>
     have hneg : numI x 0 al < 0 := by rw [numI_neg]; exact hN
     have HF : Hid (holdsM s tr = (false, 3)) := by
      show _ = _
      rw [unhide HX, if_neg]
      intro e
      rw [List.all_eq_true] at e
      have := e x (unhide HME)
      rw [hN] at this; cases this
     clear hN HX
     generalize numI x 0 al = y at *
     go_wp2_with fail
     refine bodyPost_ret (v := .tuple #[.bool false, .int .i64 3]) (by simp [results, Tryz.results95, go_sem]) rfl ?_
     rw [unhide HF]
     exact ⟨rfl, ((unhide HB).trans ((unhide HBL).mono (unhide HB).size)).trans ((bdn _ _).mono (by have := (unhide HB).size; omega))⟩
    | true =>
     have hneg : ¬ numI x 0 al < 0 := by rw [numI_neg, hN]; decide
     have HNX := hide hN
     have HO2 := hide (owns_later (unhide HO) (bdn wr nq))
     have HBL2 := hide ((unhide HBL).trans ((bdn wr nq).mono hsz))
     clear hN HO
     generalize hwq : wr.drewN nq = wq at *
     have hsq : W.heap.size ≤ wq.heap.size := (unhide HBL2).size
     clear hwq
     generalize hy : numI x 0 al = y at *
     have HY := hide hy
     clear hy
     go_wp2_with (at_builtin; go_must (refine wpList_append_lies _ rfl _ _ 33 rfl W.heap.size 3 j0 (.int .i64 0) 1 8 Tryz.underlying33 ji jz0 jz1 jz2 rfl (by decide) _ k (numsV al (tr.take k)) rfl ?c0 ⟨wq.heap.size, 0, none⟩ 1 1 [.int .i64 y] rfl rfl ?c1 ?c2 (by decide) ?c3 ?c4 ?c5 (wq.heap.size + 1) ?c6 ?_))
     case c0 => exact owns_later (unhide HO2) ((Below.refl _ _).alloc (Nat.le_refl _) _)
     case c2 => rfl
     case c3 => unfold maxLen; omega
     case c4 => omega
     case c5 => omega
     intro g8 cap8 q8 hown hgrow _ _
     have HN8 : Hid (q8.ownsRow W.heap.size 3 1 (.slice (some ⟨g8, 0, none⟩) (k + 1) cap8) (k + 1) (numsV al (tr.take (k + 1)))) := by
      show World.ownsRow _ _ _ _ _ _ _
      rw [unhide HTK, numsV_snoc, unhide HY]; exact hown
     have HB8 := hide (((unhide HBL2).alloc hsq _).grown hgrow (by have := hgrow.size; simp; omega) (fun b hb => (own_lt (unhide HO2) b hb).1))
     have HK8 : Hid (∀ x ∈ tr.take (k + 1), hasN al x = true) := by
      show ∀ _, _
      rw [unhide HTK]
      intro z hz
      rcases List.mem_append.1 hz with hz | hz
      ·exact unhide HK z hz
      ·rcases List.mem_singleton.1 hz with rfl
       exact unhide HNX
     clear hown hgrow
     go_wp2_with fail
     go_roundw
     case rel => exact ⟨k + 1, some ⟨g8, 0, none⟩, cap8, by omega, rfl, by go_num, HN8, HB8, HK8⟩
     case measure => simp [intOf]; omega
   ·have hkn : ¬ (k : Int) < (tr.length : Int) := by omega
    have hke : tr.take k = tr := List.take_of_length_le (by omega)
    rw [hke] at HO HK
    have hkl : k = tr.length := by omega
    subst hkl
    have HF : Hid (holdsM s tr = (rs.all (fun r => semF tr.length (atT tr) (ruleF r) 1), 0)) := by
     show _ = _
     rw [unhide HX, if_pos]
     rw [List.all_eq_true]; exact unhide HK
    clear HX
    go_wp2_with (go_at_call 140; refine (NodesOf_any TkA _ _ _ _ _ _ _ al rs ((KT.below (unhide HBL)).acts (unhide HA)) ((unhide HR).later (unhide HBL)) hal hrl (unhide HG).call (unhide HG).fg (by have := (unhide HG).nodes; omega)).mono ?_)
    rintro e w5 ⟨nb, B, rfl, h1, h2, h3, h4⟩
    have hmn := nodM_len al rs ([], [])
    have HO5 := hide (owns_later (unhide HO) h4)
    have HS := hide (nodM_holds (unhide HG) (unhide HK))
    have hgd := nodM_good TkA al rs ([], []) (unhide HG).fg (fun k d h => by simp at h)
    have htp := nodM_tops al rs ([], []) (fun t h => by simp at h)
    have htn := nodM_nonneg TkA al rs ([], []) (unhide HG).fg (fun t h => by simp at h)
    have hnl : (nodM al rs ([], [])).1.length ≤ 10000 := by rw [hmn.1]; have := (unhide HG).nodes; simp; omega
    have htl : (nodM al rs ([], [])).2.length ≤ 10000 := by rw [hmn.2]; simp; omega
    have HGD := hide hgd
    have HTP : Hid (∀ t ∈ (nodM al rs ([], [])).2, 0 ≤ t ∧ t < ((nodM al rs ([], [])).1.length : Int)) := hide (fun t h => ⟨htn t h, htp t h⟩)
    have HB5 := hide (((unhide HB).trans ((unhide HBL).mono (unhide HB).size)).trans (h4.mono (by have := (unhide HB).size; omega)))
    have HN5 := hide h3
    have HBQ := hide h4
    clear hmn hgd htp htn h1 h2 h3 h4
    go_wp2_with (go_at_call 141; refine (Keeps_any2 _ nb B _ _ (tr.map fun x => numI x 0 al) tr.length (by simp) _ _ (unhide HN5) (numsV_tr (unhide HO5)) (unhide HGD) (unhide HTP) hn hnl htl).mono ?_)
    rintro e w6 ⟨rfl, hb6⟩
    rw [unhide HS]
    have HB6 := hide ((unhide HB5).trans (hb6.mono (unhide HB5).size))
    clear hb6
    go_wp2_with fail
    refine bodyPost_ret (v := .tuple #[.bool (rs.all fun r => semF tr.length (atT tr) (ruleF r) 1), .int .i64 0]) (by simp [results, Tryz.results95, go_sem]) rfl ?_
    rw [unhide HF]
    exact ⟨rfl, unhide HB6⟩
end Go.Proofs.YtidakhhekofkoaaGreatDoor
