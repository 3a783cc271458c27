/- The reference's Keeps. -/
import Derived.Test.YtekfjoapinolgaaGreatDoorG19
import Derived.OwnWalk
import Derived.Deep.DeepCutAuto
import Derived.BigQuiet
import Derived.Deep.RegionHeld
set_option linter.unusedSimpArgs false
set_option linter.unusedVariables false
open List renaming setIfInBounds_toArray → zA, set_cons_zero → zB, set_cons_succ → zC, getElem_toArray → zD, getElem_cons_succ → zE, getElem_cons_zero → zF
namespace Go.Proofs.YtekfjoapinolgaaGreatDoor
open Go.RowKit Go.Deep
theorem infoBl : (Tryz.prog.info? 4).map (fun i => (i.zero, i.size, i.bytes)) = some (some (.bool false), 1, 1) := by kernel_rfl
theorem infoLb : (Tryz.prog.info? 78).map (fun i => (i.zero, i.size, i.bytes)) = some (some (.slice none 0 0), 1, 24) := by kernel_rfl
structure RB (w0 w : World) (n : Nat) (v : Value) (R : List (Nat → Bool)) (us : List Nat) : Prop where
  len : us.length = R.length
  own : w.ownsRow w0.heap.size 78 1 v R.length (us.map fun u => .slice (some ⟨u, 0, none⟩) (n + 2) (n + 2))
  row : ∀ (i u : Nat) (f : Nat → Bool), us[i]? = some u → R[i]? = some f → TyAt w u 4 ∧ RowB w n f u (n + 2) (n + 2)
  bel : Below w0.heap.size w0 w
theorem RowB.later {w w' : World} {n : Nat} {f : Nat → Bool} {g m c : Nat} (h : RowB w n f g m c) (hg : w'.heap[g]? = w.heap[g]?) : RowB w' n f g m c :=
  ⟨h.len, h.top, fun i h1 h2 => by
    have := h.at_ i h1 h2
    unfold World.cell? at this ⊢
    simp only [hg]; exact this⟩
theorem RB.later {w0 w w' : World} {n : Nat} {v : Value} {R : List (Nat → Bool)} {us : List Nat} (h : RB w0 w n v R us) (hb : Below w.heap.size w w') : RB w0 w' n v R us := by
  refine ⟨h.len, owns_later h.own hb, fun i u f hu hf => ?_, h.bel.trans (hb.mono h.bel.size)⟩
  obtain ⟨⟨c, m, ht⟩, hr⟩ := h.row i u f hu hf
  have e := hb.block u (lt_of_blk ht)
  exact ⟨⟨c, m, e.trans ht⟩, hr.later e⟩
theorem RB.rows {w0 w : World} {n : Nat} {v : Value} {R : List (Nat → Bool)} {us : List Nat} (h : RB w0 w n v R us) : RowsB w n v R := by
  have h1 := h.len
  have h2 := h.own
  obtain ⟨o, k, rfl⟩ := owns_val h2
  refine ⟨o, k, rfl, fun i f hf => ?_⟩
  have hi : i < R.length := by
    rcases Nat.lt_or_ge i R.length with h | h
    · exact h
    · rw [List.getElem?_eq_none h] at hf; cases hf
  obtain ⟨g, rfl, _, hc⟩ := owns1_at h2 hi
  have hu : us[i]? = some us[i] := List.getElem?_eq_getElem (by omega)
  obtain ⟨_, hr⟩ := h.row i us[i] f hu hf
  exact ⟨g, us[i], n + 2, n + 2, rfl, by rw [hc, List.getElem?_map, hu]; rfl, hr⟩
theorem RB.app {w0 w w2 : World} {n : Nat} {v v2 : Value} {R : List (Nat → Bool)} {us : List Nat} (h : RB w0 w n v R us) (u : Nat) (f : Nat → Bool) (hu : TyAt w u 4) (hr : RowB w n f u (n + 2) (n + 2))
    (ho : w2.ownsRow w0.heap.size 78 1 v2 (R.length + 1) ((us.map fun u => Value.slice (some ⟨u, 0, none⟩) (n + 2) (n + 2)) ++ [.slice (some ⟨u, 0, none⟩) (n + 2) (n + 2)])) (hg : w.grownBy w2 v.ownBlock) : RB w0 w2 n v2 (R ++ [f]) (us ++ [u]) := by
  have h1 := h.len
  have h2 := h.own
  have keep : ∀ b, TyAt w b 4 → w2.heap[b]? = w.heap[b]? := by
    rintro b ⟨c, m, hb⟩
    exact hg.block b (lt_of_blk hb) (fun e => own_ty h2 e.symm hb (by decide))
  refine ⟨by simp [h1], ?_, fun i x y hx hy => ?_, ?_⟩
  · rw [List.map_append, List.length_append]; exact ho
  · rcases Nat.lt_or_ge i us.length with hi | hi
    · rw [List.getElem?_append_left hi] at hx
      rw [List.getElem?_append_left (by omega)] at hy
      obtain ⟨⟨c, m, ht⟩, hr'⟩ := h.row i x y hx hy
      have e := keep x ⟨c, m, ht⟩
      exact ⟨⟨c, m, e.trans ht⟩, hr'.later e⟩
    · rw [List.getElem?_append_right hi] at hx
      rw [List.getElem?_append_right (by omega)] at hy
      have h0 : i - us.length = 0 := by
        rcases Nat.eq_zero_or_pos (i - us.length) with h | h
        · exact h
        · rw [List.getElem?_eq_none (by simp; omega)] at hx; cases hx
      rw [h0] at hx
      rw [show i - R.length = 0 by omega] at hy
      cases hx; cases hy
      obtain ⟨c, m, ht⟩ := hu
      have e := keep u ⟨c, m, ht⟩
      exact ⟨⟨c, m, e.trans ht⟩, hr.later e⟩
  · exact h.bel.grown hg h.bel.size (fun b hb => (own_lt h2 b hb).1)
theorem rowsN_take {n : Nat} {z : Int → Nat → Bool} {L : List Nd} {k : Nat} {d : Nd} (h : L[k]? = some d) : rowsN n z (L.take (k + 1)) = rowsN n z (L.take k) ++ [valN n z (rowsN n z (L.take k)) d] := by
  rw [List.take_add_one, h]; exact rowsN_snoc n z _ d
theorem at_any2 (w : World) (nb k : Nat) (d : Nd) (ns : List Int) (i : Nat) (tt : Option Addr) (tc : Nat) (bel : Value) (R : List (Nat → Bool)) (hT : TrB w tt ns) (hB : RowsB w ns.length bel R) (hg : NdGood R.length d) (hN : NdAt w nb k (refO d.k) d.a d.b d.t) (hi : 1 ≤ i) (hj : i ≤ ns.length + 1) (hn : ns.length ≤ 10000000000000) :
    Calls Tryz.prog 169 #[.pointer (some ⟨nb, 0, none⟩), .int .i64 k, .int .i64 i, .slice tt ns.length tc, bel] w fun e w' => e = .returned (.bool (valN ns.length (zT ns) R d i)) ∧ ∃ q, w' = w.drewN q := by
  obtain ⟨j, rfl⟩ : ∃ j, i = j + 1 := ⟨i - 1, by omega⟩
  exact at_any w nb k d ns j tt tc bel R hT hB hg hN (by omega) hn
set_option maxHeartbeats 4000000 in
set_option maxRecDepth 100000 in
theorem Keeps_any (w : World) (nb B : Nat) (L : List Nd) (T : List Int) (ns : List Int) (tt : Option Addr) (tc : Nat) (hN : NSx w nb B L T) (hT : TrB w tt ns) (hg : AllGood L) (ht : ∀ t ∈ T, 0 ≤ t ∧ t < (L.length : Int)) (hn : ns.length ≤ 10000000000000) (hL : L.length ≤ 10000) (hTl : T.length ≤ 10000) :
    Calls Tryz.prog 130 #[.pointer (some ⟨nb, 0, none⟩), .slice tt ns.length tc] w fun e w' => e = .returned (.bool (T.all fun t => rowAt (rowsN ns.length (zT ns) L) t 1)) ∧ Below w.heap.size w w' := by
  obtain ⟨v, hv⟩ := id hN
  have l0 : (ndX L T 0).length = L.length := by simp [ndX]
  have l4 : (ndX L T 4).length = T.length := by simp [ndX]
  have o0 := hv.own 0
  have o4 := hv.own 4
  rw [l0] at o0; rw [l4] at o4
  obtain ⟨p0, c0, e0⟩ := owns_val o0
  obtain ⟨p4, c4, e4⟩ := owns_val o4
  have hb0 : ∀ W, Below w.heap.size w W → W.cell? ⟨nb, 0, none⟩ = some (.slice p0 L.length c0) := fun W hW => (cell_of_blk ((hW.block nb (lt_of_blk hv.blk)).trans hv.blk) 0).trans (congrArg some e0)
  have hb4 : ∀ W, Below w.heap.size w W → W.cell? ⟨nb, 4, none⟩ = some (.slice p4 T.length c4) := fun W hW => (cell_of_blk ((hW.block nb (lt_of_blk hv.blk)).trans hv.blk) 4).trans (congrArg some e4)
  rw [e4] at o4
  have ht4 : ∀ W i t, Below w.heap.size w W → T[i]? = some t → ∃ g, p4 = some ⟨g, 0, none⟩ ∧ W.cell? ⟨g, i, none⟩ = some (.int .i64 t) := fun W i t hW hi => by
    have hlt : i < T.length := by
      rcases Nat.lt_or_ge i T.length with h | h
      · exact h
      · rw [List.getElem?_eq_none h] at hi; cases hi
    obtain ⟨g, h1, _, h2⟩ := owns1_at (owns_later o4 hW) hlt
    exact ⟨g, h1, by rw [h2]; simp [ndX, hi]⟩
  have HB0 := hide hb0
  have HB4 := hide hb4
  have HT4 := hide ht4
  have HN := hide hN
  have HT := hide hT
  have HG := hide hg
  have HTT := hide ht
  clear hb0 hb4 ht4 hN hT hg ht hv o0 o4 e0 e4 l0 l4
  obtain ⟨i0, hi0, hz0, hz1, hz2⟩ := info_parts infoBl
  obtain ⟨j0, ji, jz0, jz1, jz2⟩ := info_parts infoLb
  go_enter Tryz.func130, Tryz.ntmps130
  go_wp2_with fail
  go_loopw [5, 6] (fun bv x wr => ∃ (k : Nat) (bo : Option Addr) (bc : Nat) (us : List Nat), k ≤ L.length ∧ bv = .slice bo k bc ∧ x = .int .i64 k ∧ RB w wr ns.length (.slice bo k bc) (rowsN ns.length (zT ns) (L.take k)) us) (fun _ x _ => L.length - (intOf x).toNat)
  case atStart => exact ⟨0, none, 0, [], Nat.zero_le _, rfl, rfl, ⟨rfl, World.ownsRow_nil _ _ _ _, fun i u f h => by simp at h, Below.refl _ _⟩⟩
  case round =>
    rename World => wR
    obtain ⟨k, bo, bc, us, hk, rfl, rfl, hrb⟩ := hrel
    have bb0 := unhide HB0 wR hrb.bel
    have HRB := hide hrb
    have hRl : (rowsN ns.length (zT ns) (L.take k)).length = k := by rw [rowsN_len, List.length_take, Nat.min_eq_left hk]
    clear hrb
    by_cases hlt : k < L.length
    · have hkn : (k : Int) < (L.length : Int) := by omega
      obtain ⟨d, hd⟩ : ∃ d, L[k]? = some d := ⟨_, List.getElem?_eq_getElem hlt⟩
      have HD := hide hd
      have hgd := unhide HG k d hd
      rw [← hRl] at hgd
      have HGD := hide hgd
      have HRN : Hid (rowsN ns.length (zT ns) (L.take (k + 1)) = rowsN ns.length (zT ns) (L.take k) ++ [valN ns.length (zT ns) (rowsN ns.length (zT ns) (L.take k)) d]) := rowsN_take hd
      have hwz := (unhide HRB).bel.size
      clear hd hgd
      generalize rowsN ns.length (zT ns) (L.take k) = R at *
      go_wp2_with (at_make; go_must (refine wpList_make_full _ rfl _ _ 78 rfl wR.heap.size 4 i0 (.bool false) 1 Tryz.underlying78 hi0 hz0 hz1 .i64 .i64 _ _ (ns.length + 2) rfl rfl (by first | rfl | omega) (by first | rfl | omega) (by rw [hz2]; omega) (by unfold maxLen; omega) (Nat.le_refl _) ?_; intro w1 hown1 hgrow1))
      have hblk : ∃ cur, w1.heap[wR.heap.size]? = some (.cells cur 4 (0, 0)) ∧ cur.size = ns.length + 2 := by
        obtain ⟨_, ⟨h1, _⟩ | ⟨g', cap', cur', hv', _, hh', _, _, hcs, _⟩⟩ := hown1
        · cases h1
        · cases hv'
          exact ⟨cur', hh', by rw [hcs, Nat.mul_one]⟩
      obtain ⟨cur1, hc1, hcs1⟩ := hblk
      have HC1 := hide hc1
      have hw1 := lt_of_blk hc1
      have HGR : Hid (Below wR.heap.size wR w1) := ⟨hgrow1.os, hgrow1.tape, hgrow1.output, hgrow1.size, fun b hb => hgrow1.block b hb (fun e => by cases e)⟩
      clear hown1 hgrow1 hc1 bb0
      go_wp2_with fail
      go_loopw [8] (fun x wi => ∃ (i : Nat) (cur : Array Value), 1 ≤ i ∧ i ≤ ns.length + 2 ∧ x = .int .i64 i ∧ wi.heap[wR.heap.size]? = some (.cells cur 4 (0, 0)) ∧ cur.size = ns.length + 2 ∧ Hid (∀ j, 1 ≤ j → j < i → cur[j]? = some (.bool (valN ns.length (zT ns) R d j))) ∧ Below wR.heap.size wR wi) (fun x _ => ns.length + 2 - (intOf x).toNat)
      case atStart => exact ⟨1, cur1, by omega, by omega, rfl, unhide HC1, hcs1, hide (fun j h1 h2 => by omega), unhide HGR⟩
      case round =>
        obtain ⟨i, cur, hi1, hi2, rfl, hcur, hcsz, HV, hbi⟩ := hrel
        have HCUR := hide hcur
        have HBI := hide hbi
        have HBW := hide ((unhide HRB).bel.trans (hbi.mono hwz))
        have hwlt := lt_of_blk hcur
        clear hbi hcur HC1 HGR
        by_cases hil : i ≤ ns.length + 1
        · have hic : (i : Int) ≤ (ns.length : Int) + 1 := by omega
          go_wp2_with (go_at_call 169; refine (at_any2 _ nb k d ns i tt tc _ R ((unhide HT).later (unhide HBW)) ((unhide HRB).later (unhide HBI)).rows (unhide HGD) (((unhide HN).later (unhide HBW)).nd (unhide HD)) hi1 hil hn).mono ?_)
          rintro e w3 ⟨rfl, q, hw3⟩
          have hb3 : Below _ _ w3 := hw3 ▸ bdn _ q
          have hc3 := (hb3.block _ hwlt).trans (unhide HCUR)
          have HC3 := hide hc3
          have HB3 := hide ((unhide HBI).trans (hb3.mono (by have := (unhide HBI).size; omega)))
          have hlt3 := lt_of_blk hc3
          have cc3 : w3.cell? ⟨_, i, none⟩ = some cur[i] := (cell_of_blk hc3 i).trans (Array.getElem?_eq_getElem (by omega))
          have cf3 := frozen_of_blk hc3 i
          have hin : (i : Int) < (ns.length : Int) + 2 := by omega
          clear hw3 hb3 hc3
          generalize cur[i] = old at *
          go_wp2_with fail
          go_roundw
          case rel =>
            refine ⟨i + 1, cur.setIfInBounds i (.bool (valN ns.length (zT ns) R d i)), by omega, by omega, by go_num, blk_set (unhide HC3) i _, by rw [Array.size_setIfInBounds]; exact hcsz, hide (fun j h1 h2 => ?_), ?_⟩
            · by_cases e : j = i
              · subst e; rw [Array.getElem?_setIfInBounds_self_of_lt (by omega)]
              · rw [Array.getElem?_setIfInBounds_ne (by omega)]; exact unhide HV j h1 (by omega)
            · exact (unhide HB3).grown (grown_set _ _ _ _) (unhide HB3).size (fun b hb => by cases hb; exact Nat.le_refl _)
          case measure => simp [intOf]; omega
        · have hic : ¬ (i : Int) ≤ (ns.length : Int) + 1 := by omega
          have hie : i = ns.length + 2 := by omega
          have hrow : RowB _ ns.length (valN ns.length (zT ns) R d) _ (ns.length + 2) (ns.length + 2) := ⟨Nat.le_refl _, by omega, fun j h1 h2 => (cell_of_blk (unhide HCUR) j).trans (unhide HV j h1 (by omega))⟩
          have HROW := hide hrow
          have HRB3 := hide (((unhide HRB).later (unhide HBI)).later ((Below.refl _ _).alloc (Nat.le_refl _) (.cells #[.slice (some ⟨wR.heap.size, 0, none⟩) (ns.length + 2) (ns.length + 2)] 78)))
          have HRL := hide hRl
          clear hrow HV HRB hRl
          go_wp2_with (at_builtin; go_must (refine wpList_append_lies _ rfl _ _ 281 rfl w.heap.size 78 j0 (.slice none 0 0) 1 24 Tryz.underlying281 ji jz0 jz1 jz2 rfl (by decide) _ k (us.map fun u => .slice (some ⟨u, 0, none⟩) (ns.length + 2) (ns.length + 2)) rfl ?c0 ⟨wr.heap.size, 0, none⟩ 1 1 [.slice (some ⟨wR.heap.size, 0, none⟩) (ns.length + 2) (ns.length + 2)] rfl rfl ?c1 ?c2 (by decide) ?c3 ?c4 ?c5 (wr.heap.size + 1) ?c6 ?_))
          case c0 => have := (unhide HRB3).own; rw [unhide HRL] at this; exact this
          case c2 => first | rfl | (intro u hu; simp at hu; subst hu; rfl)
          case c3 => unfold maxLen; omega
          case c4 => omega
          case c5 => omega
          intro g8 cap8 q8 hown hgrow _ _
          have HNEW := hide ((unhide HRB3).app wR.heap.size _ ⟨cur, (0, 0), (Below.heap_alloc _ _ _ hwlt).trans (unhide HCUR)⟩ ((unhide HROW).later (Below.heap_alloc _ _ _ hwlt)) (by rw [unhide HRL]; exact hown) hgrow)
          clear hown hgrow
          go_wp2_with fail
          go_roundw
          case rel => exact ⟨k + 1, some ⟨g8, 0, none⟩, cap8, _, by omega, rfl, by go_num, by rw [unhide HRN]; exact unhide HNEW⟩
          case measure => simp [intOf]; omega
    · have hkn : ¬ (k : Int) < (L.length : Int) := by omega
      have hke : L.take k = L := List.take_of_length_le (by omega)
      rw [hke] at HRB hRl
      have hbel := (unhide HRB).bel
      have HBEL := hide hbel
      have bb4 := unhide HB4 wR hbel
      have HRW := hide (unhide HRB).rows
      have ht4 := fun i t => unhide HT4 wR i t hbel
      have HT5 := hide ht4
      have hkL : k = L.length := by omega
      clear hbel ht4 HT4 HB4 HB0 HRB
      have HR : Hid (∀ t : Int, rowAt (rowsN ns.length (zT ns) L) t = rowAt (rowsN ns.length (zT ns) L) t) := hide (fun _ => rfl)
      go_wp2_with fail
      go_loopw [9] (fun x wq => ∃ i : Nat, i ≤ T.length ∧ x = .int .i64 i ∧ wR = wq ∧ Hid (T.all (fun t => rowAt (rowsN ns.length (zT ns) L) t 1) = (T.drop i).all (fun t => rowAt (rowsN ns.length (zT ns) L) t 1))) (fun x _ => T.length - (intOf x).toNat)
      case atStart => exact ⟨0, Nat.zero_le _, rfl, rfl, rfl⟩
      case round =>
        obtain ⟨i, hi, rfl, hwq, HX⟩ := hrel
        subst hwq
        by_cases hil : i < T.length
        · have hic : (i : Int) < (T.length : Int) := by omega
          obtain ⟨t, l, htl⟩ := drop_cons hil
          have hti : T[i]? = some t := by
            have := List.getElem?_drop (xs := T) (i := i) (j := 0)
            rw [htl] at this; simpa using this.symm
          obtain ⟨g4, hg4, hc4⟩ := unhide HT5 i t hti
          subst hg4
          obtain ⟨h0, h1⟩ := unhide HTT t (List.mem_of_getElem? hti)
          obtain ⟨m, rfl⟩ := Int.eq_ofNat_of_zero_le h0
          obtain ⟨bo', bc', hbe, hrows⟩ := unhide HRW
          have hmL : m < (rowsN ns.length (zT ns) L).length := by rw [rowsN_len]; omega
          obtain ⟨bg, ua, um, uc, hbo, hcm, hrow⟩ := hrows m _ (List.getElem?_eq_getElem hmL)
          cases hbe
          subst hbo
          have hc1 := hrow.at_ 1 (by omega) (by omega)
          have hul : 1 < um := by have := hrow.len; omega
          have hul' : (1 : Int) < (um : Int) := by omega
          have HRA := hide (rowAt_nat (List.getElem?_eq_getElem hmL))
          have HTL := hide htl
          have hmk : (m : Int) < (L.length : Int) := h1
          clear hrows hrow hti htl h0 HR
          generalize (rowsN ns.length (zT ns) L)[m] = fm at *
          cases hb : fm 1 with
          | false =>
            rw [hb] at hc1
            have HF : Hid ((T.all fun t => rowAt (rowsN ns.length (zT ns) L) t 1) = false) := by show _ = _; rw [unhide HX, unhide HTL, List.all_cons, unhide HRA, hb]; rfl
            clear HX hb
            go_wp2_with fail
            go_ret
            exact ⟨by rw [unhide HF]; rfl, unhide HBEL⟩
          | true =>
            rw [hb] at hc1
            have HF : Hid ((T.all fun t => rowAt (rowsN ns.length (zT ns) L) t 1) = (T.drop (i + 1)).all fun t => rowAt (rowsN ns.length (zT ns) L) t 1) := by
              show _ = _
              rw [unhide HX, dropTl (unhide HTL), unhide HTL, List.all_cons, unhide HRA, hb]; rfl
            clear HX hb
            go_wp2_with fail
            go_roundw
            case rel => exact ⟨i + 1, by omega, by go_num, trivial, HF⟩
            case measure => simp [intOf]; omega
        · have hic : ¬ (i : Int) < (T.length : Int) := by omega
          go_wp2_with fail
          go_ret
          refine ⟨?_, unhide HBEL⟩
          rw [unhide HX, List.drop_eq_nil_of_le (by omega)]; rfl
def TxS (w : World) (o : Option Addr) (tr : List ByteArray) : Prop := ∀ j x, tr[j]? = some x → ∃ b off, o = some ⟨b, off, none⟩ ∧ b < w.heap.size ∧ w.cell? ⟨b, off + j, none⟩ = some (.string x)
theorem TxS.later {w w' : World} {o : Option Addr} {tr : List ByteArray} (h : TxS w o tr) (hb : Below w.heap.size w w') : TxS w' o tr := fun j x hx => by
  obtain ⟨b, off, h1, h2, h3⟩ := h j x hx
  exact ⟨b, off, h1, Nat.lt_of_lt_of_le h2 hb.size, (bcell3 hb _ _ h2).trans h3⟩
theorem numI_neg {al : List Tk} {x : ByteArray} : (numI x 0 al < 0) = (hasN al x = false) := by
  rcases numI_spec x 0 al with ⟨h, j, t, _, _, h3⟩ | ⟨h, h2⟩
  · rw [h, h3]; simp
  · rw [h, h2]; simp
def numsV (al : List Tk) (tr : List ByteArray) : List Value := tr.map fun x => .int .i64 (numI x 0 al)
theorem numsV_snoc (al : List Tk) (tr : List ByteArray) (x : ByteArray) : numsV al (tr ++ [x]) = numsV al tr ++ [.int .i64 (numI x 0 al)] := by simp [numsV]
theorem numsV_tr {w : World} {base : Nat} {o : Option Addr} {al : List Tk} {tr : List ByteArray} {c : Nat} (h : w.ownsRow base 3 1 (.slice o tr.length c) tr.length (numsV al tr)) : TrB w o (tr.map fun x => numI x 0 al) := by
  intro j x hx
  have hj : j < tr.length := by
    rcases Nat.lt_or_ge j tr.length with h | h
    · exact h
    · rw [List.getElem?_eq_none (by simpa using h)] at hx; cases hx
  obtain ⟨g, h1, h2, h3⟩ := owns1_at h hj
  refine ⟨g, h1, h2, h3.trans ?_⟩
  rw [numsV, List.getElem?_map]
  rw [List.getElem?_map] at hx
  cases ht : tr[j]? with
  | none => rw [ht] at hx; cases hx
  | some y => rw [ht] at hx; cases hx; rfl
theorem Keeps_any2 (w : World) (nb B : Nat) (L : List Nd) (T : List Int) (ns : List Int) (n : Nat) (hl : ns.length = n) (tt : Option Addr) (tc : Nat) (hN : NSx w nb B L T) (hT : TrB w tt ns) (hg : AllGood L) (ht : ∀ t ∈ T, 0 ≤ t ∧ t < (L.length : Int)) (hn : n ≤ 10000000000000) (hL : L.length ≤ 10000) (hTl : T.length ≤ 10000) :
    Calls Tryz.prog 130 #[.pointer (some ⟨nb, 0, none⟩), .slice tt n tc] w fun e w' => e = .returned (.bool (T.all fun t => rowAt (rowsN n (zT ns) L) t 1)) ∧ Below w.heap.size w w' := by
  subst hl
  exact Keeps_any w nb B L T ns tt tc hN hT hg ht hn hL hTl
set_option maxHeartbeats 4000000 in
set_option maxRecDepth 100000 in
theorem HoldsRef_any (s : ByteArray) (tr : List ByteArray) (w : World) (tt : Option Addr) (tc : Nat) (hT : TxS w tt tr) (hn : tr.length ≤ 10000000000000) :
    Calls Tryz.prog 78 #[.string s, .slice tt tr.length tc] w fun e w' => e = .returned (.tuple #[.bool (holdsM s tr).1, .int .i64 (holdsM s tr).2]) ∧ Below w.heap.size w w' := by
  have HT := hide hT
  clear hT
  obtain ⟨j0, ji, jz0, jz1, jz2⟩ := info_parts infoI
  go_enter Tryz.func78, Tryz.ntmps78
  go_wp2_with (go_at_call 126; refine (Read_any s _).mono ?_)
  rintro e w1 ⟨hb1, hm⟩
  have HH : Hid (holdsM s tr = match readM s with
    | .error x => (false, x.2)
    | .ok (al, rs) => if tr.all (fun x => hasN al x) = true then (rs.all (fun r => semF tr.length (atT tr) (ruleF r) 1), 0) else (false, 3)) := rfl
  cases hr : readM s with
  | error x =>
    rw [hr] at hm
    have hxe := readM_err hr
    have HX : Hid (holdsM s tr = (false, x.2)) := by show _ = _; rw [unhide HH, hr]
    obtain ⟨xp, xe⟩ := x
    replace hxe : xe ≠ 0 := hxe
    have hxi : (xe : Int) ≠ 0 := by omega
    have HB := hide hb1
    subst hm
    clear HH hr hb1
    go_wp2_with fail
    refine bodyPost_ret (v := .tuple #[.bool false, .int .i64 xe]) (by simp [results, Tryz.results78, go_sem]) rfl ?_
    rw [unhide HX]
    exact ⟨rfl, (unhide HB).alloc (unhide HB).size _⟩
  | ok m =>
    obtain ⟨al, rs⟩ := m
    rw [hr] at hm
    obtain ⟨o1, n1, k1, o2, n2, k2, rfl, hac, hrr⟩ := hm
    have HX : Hid (holdsM s tr = if tr.all (fun x => hasN al x) = true then (rs.all (fun r => semF tr.length (atT tr) (ruleF r) 1), 0) else (false, 3)) := by show _ = _; rw [unhide HH, hr]
    have hg := readM_good hr
    have HG := hide hg
    have hal := hg.alen
    have hrl := hg.rlen
    have hbl : Below w1.heap.size w1 (w1.alloc (.cells #[.slice o1 n1 k1, .slice o2 n2 k2] 213)) := (Below.refl _ _).alloc (Nat.le_refl _) _
    have hmb : (w1.alloc (.cells #[.slice o1 n1 k1, .slice o2 n2 k2] 213)).heap[w1.heap.size]? = some (.cells #[.slice o1 n1 k1, .slice o2 n2 k2] 213 (0, 0)) := blk_alloc _ _
    have HMB := hide hmb
    have HA := hide ((KT.below hbl).acts hac)
    have HR := hide (hrr.later hbl)
    have HB := hide (hb1.alloc hb1.size (.cells #[.slice o1 n1 k1, .slice o2 n2 k2] 213))
    clear hac hrr hr HH hb1 hg hbl hmb
    go_wp2_with fail
    generalize w1.alloc (.cells #[.slice o1 n1 k1, .slice o2 n2 k2] 213) = W at *
    have hzW : w1.heap.size < W.heap.size := lt_of_blk (unhide HMB)
    go_loopw [9, 10] (fun lv x wr => ∃ (k : Nat) (lo : Option Addr) (lc : Nat), k ≤ tr.length ∧ lv = .slice lo k lc ∧ x = .int .i64 k ∧ Hid (wr.ownsRow W.heap.size 3 1 (.slice lo k lc) k (numsV al (tr.take k))) ∧ Hid (Below W.heap.size W wr) ∧ Hid (∀ x ∈ tr.take k, hasN al x = true)) (fun _ x _ => tr.length - (intOf x).toNat)
    case atStart => exact ⟨0, none, 0, Nat.zero_le _, rfl, rfl, World.ownsRow_nil _ _ _ _, Below.refl _ _, hide (fun x hx => by simp at hx)⟩
    case round =>
      obtain ⟨k, lo, lc, hk, rfl, rfl, HO, HBL, HK⟩ := hrel
      have hmc := fun o => cell_of_blk (((unhide HBL).block _ hzW).trans (unhide HMB)) o
      have hsz := (unhide HBL).size
      by_cases hlt : k < tr.length
      · have hkn : (k : Int) < (tr.length : Int) := by omega
        obtain ⟨b, off, hto, hblt, hcx⟩ := unhide HT k tr[k] (List.getElem?_eq_getElem hlt)
        subst hto
        have hcx' : wr.cell? ⟨b, off + k, none⟩ = some (.string tr[k]) := (bcell3 ((unhide HB).trans ((unhide HBL).mono (unhide HB).size)) _ _ hblt).trans hcx
        have htk : tr.take (k + 1) = tr.take k ++ [tr[k]] := by rw [List.take_add_one, List.getElem?_eq_getElem hlt]; rfl
        have HTK := hide htk
        have hmem : tr[k] ∈ tr := List.getElem_mem hlt
        have HAr := hide ((KT.below (unhide HBL)).acts (unhide HA))
        have HME := hide hmem
        clear hcx htk hmem
        generalize tr[k] = x at *
        go_wp2_with fail
        go_quiet (first | (go_at_call 128; refine Calls.quiet_of_same (numberR_any _ _ _ _ al x ((KT.below (bdn _ _)).acts (unhide HAr)) hal)))
        cases hN : hasN al x with
        | false =>
          have hneg : numI x 0 al < 0 := by rw [numI_neg]; exact hN
          have HF : Hid (holdsM s tr = (false, 3)) := by
            show _ = _
            rw [unhide HX, if_neg]
            intro e
            rw [List.all_eq_true] at e
            have := e x (unhide HME)
            rw [hN] at this; cases this
          clear hN HX
          generalize numI x 0 al = y at *
          go_wp2_with fail
          refine bodyPost_ret (v := .tuple #[.bool false, .int .i64 3]) (by simp [results, Tryz.results78, go_sem]) rfl ?_
          rw [unhide HF]
          exact ⟨rfl, ((unhide HB).trans ((unhide HBL).mono (unhide HB).size)).trans ((bdn _ _).mono (by have := (unhide HB).size; omega))⟩
        | true =>
          have hneg : ¬ numI x 0 al < 0 := by rw [numI_neg, hN]; decide
          have HNX := hide hN
          have HO2 := hide (owns_later (unhide HO) (bdn wr nq))
          have HBL2 := hide ((unhide HBL).trans ((bdn wr nq).mono hsz))
          clear hN HO
          generalize hwq : wr.drewN nq = wq at *
          have hsq : W.heap.size ≤ wq.heap.size := (unhide HBL2).size
          clear hwq
          generalize hy : numI x 0 al = y at *
          have HY := hide hy
          clear hy
          go_wp2_with (at_builtin; go_must (refine wpList_append_lies _ rfl _ _ 33 rfl W.heap.size 3 j0 (.int .i64 0) 1 8 Tryz.underlying33 ji jz0 jz1 jz2 rfl (by decide) _ k (numsV al (tr.take k)) rfl ?c0 ⟨wq.heap.size, 0, none⟩ 1 1 [.int .i64 y] rfl rfl ?c1 ?c2 (by decide) ?c3 ?c4 ?c5 (wq.heap.size + 1) ?c6 ?_))
          case c0 => exact owns_later (unhide HO2) ((Below.refl _ _).alloc (Nat.le_refl _) _)
          case c2 => rfl
          case c3 => unfold maxLen; omega
          case c4 => omega
          case c5 => omega
          intro g8 cap8 q8 hown hgrow _ _
          have HN8 : Hid (q8.ownsRow W.heap.size 3 1 (.slice (some ⟨g8, 0, none⟩) (k + 1) cap8) (k + 1) (numsV al (tr.take (k + 1)))) := by
            show World.ownsRow _ _ _ _ _ _ _
            rw [unhide HTK, numsV_snoc, unhide HY]; exact hown
          have HB8 := hide (((unhide HBL2).alloc hsq _).grown hgrow (by have := hgrow.size; simp; omega) (fun b hb => (own_lt (unhide HO2) b hb).1))
          have HK8 : Hid (∀ x ∈ tr.take (k + 1), hasN al x = true) := by
            show ∀ _, _
            rw [unhide HTK]
            intro z hz
            rcases List.mem_append.1 hz with hz | hz
            · exact unhide HK z hz
            · rcases List.mem_singleton.1 hz with rfl
              exact unhide HNX
          clear hown hgrow
          go_wp2_with fail
          go_roundw
          case rel => exact ⟨k + 1, some ⟨g8, 0, none⟩, cap8, by omega, rfl, by go_num, HN8, HB8, HK8⟩
          case measure => simp [intOf]; omega
      · have hkn : ¬ (k : Int) < (tr.length : Int) := by omega
        have hke : tr.take k = tr := List.take_of_length_le (by omega)
        rw [hke] at HO HK
        have hkl : k = tr.length := by omega
        subst hkl
        have HF : Hid (holdsM s tr = (rs.all (fun r => semF tr.length (atT tr) (ruleF r) 1), 0)) := by
          show _ = _
          rw [unhide HX, if_pos]
          rw [List.all_eq_true]; exact unhide HK
        clear HX
        go_wp2_with (go_at_call 129; refine (NodesOf_any TkA _ _ _ _ _ _ _ al rs ((KT.below (unhide HBL)).acts (unhide HA)) ((unhide HR).later (unhide HBL)) hal hrl (unhide HG).call (unhide HG).fg (by have := (unhide HG).nodes; omega)).mono ?_)
        rintro e w5 ⟨nb, B, rfl, h1, h2, h3, h4⟩
        have hmn := nodM_len al rs ([], [])
        have HO5 := hide (owns_later (unhide HO) h4)
        have HS := hide (nodM_holds (unhide HG) (unhide HK))
        have hgd := nodM_good TkA al rs ([], []) (unhide HG).fg (fun k d h => by simp at h)
        have htp := nodM_tops al rs ([], []) (fun t h => by simp at h)
        have htn := nodM_nonneg TkA al rs ([], []) (unhide HG).fg (fun t h => by simp at h)
        have hnl : (nodM al rs ([], [])).1.length ≤ 10000 := by rw [hmn.1]; have := (unhide HG).nodes; simp; omega
        have htl : (nodM al rs ([], [])).2.length ≤ 10000 := by rw [hmn.2]; simp; omega
        have HGD := hide hgd
        have HTP : Hid (∀ t ∈ (nodM al rs ([], [])).2, 0 ≤ t ∧ t < ((nodM al rs ([], [])).1.length : Int)) := hide (fun t h => ⟨htn t h, htp t h⟩)
        have HB5 := hide (((unhide HB).trans ((unhide HBL).mono (unhide HB).size)).trans (h4.mono (by have := (unhide HB).size; omega)))
        have HN5 := hide h3
        have HBQ := hide h4
        clear hmn hgd htp htn h1 h2 h3 h4
        go_wp2_with (go_at_call 130; refine (Keeps_any2 _ nb B _ _ (tr.map fun x => numI x 0 al) tr.length (by simp) _ _ (unhide HN5) (numsV_tr (unhide HO5)) (unhide HGD) (unhide HTP) hn hnl htl).mono ?_)
        rintro e w6 ⟨rfl, hb6⟩
        rw [unhide HS]
        have HB6 := hide ((unhide HB5).trans (hb6.mono (unhide HB5).size))
        clear hb6
        go_wp2_with fail
        refine bodyPost_ret (v := .tuple #[.bool (rs.all fun r => semF tr.length (atT tr) (ruleF r) 1), .int .i64 0]) (by simp [results, Tryz.results78, go_sem]) rfl ?_
        rw [unhide HF]
        exact ⟨rfl, unhide HB6⟩
set_option maxHeartbeats 1000000 in
set_option maxRecDepth 100000 in
theorem Behind_any (w : World) (S : List Sp) (so : Option Addr) (sc wh : Nat) (hS : StS w so S) (hG : StG S) :
    Calls Tryz.prog 114 #[.agg #[.slice so S.length sc, .int .u32 (wh : Int)]] w fun e w' => e = .returned (.int .u32 (walkB S [] : Nat)) ∧ Below w.heap.size w w' := by
  have HC := hide (fun W h => fill_any W S so sc wh false ⟨#[]⟩ false 0 h hG (by decide))
  have HS := hide hS
  have HW : Hid (walkB S [] = fillN S false ⟨#[]⟩ false 0) := rfl
  clear hS hG
  go_enter Tryz.func114, Tryz.ntmps114
  go_wp2_with (go_at_call 156; refine (unhide HC _ ((unhide HS).later ((Below.refl _ _).alloc (Nat.le_refl _) _))).mono ?_)
  rintro e w1 ⟨rfl, hb1⟩
  have HB1 := hide hb1
  clear hb1
  go_wp2_with fail
  go_ret
  exact ⟨rfl, ((Below.refl _ _).alloc (Nat.le_refl _) _).trans ((unhide HB1).mono (by simp))⟩
set_option maxHeartbeats 1000000 in
set_option maxRecDepth 100000 in
theorem AllHold_any (w : World) (so : Option Addr) (n sc wh p : Nat) (hw : wh < 4294967296) (hp : p < 4294967296) :
    Calls Tryz.prog 116 #[.agg #[.slice so n sc, .int .u32 (wh : Int)], .int .u32 (p : Int)] w fun e w' => e = .returned (.bool (p &&& wh == wh)) ∧ Below w.heap.size w w' := by
  have HA := hide (and32 p wh hp hw)
  go_enter Tryz.func116, Tryz.ntmps116
  go_wp2_with fail
  go_ret
  refine ⟨ret_bool ?_, (Below.refl _ _).alloc (Nat.le_refl _) _⟩
  rw [unhide HA]
  rw [Bool.eq_iff_iff]; simp only [beq_iff_eq]; omega
set_option maxHeartbeats 2000000 in
set_option maxRecDepth 100000 in
theorem Ahead_any (w : World) (S : List Sp) (so : Option Addr) (sc wh : Nat) (nx : Nat) (ev : ByteArray) (hS : StS w so S) (hG : StG S) (hnx : nx < 4294967296) :
    Calls Tryz.prog 115 #[.agg #[.slice so S.length sc, .int .u32 (wh : Int)], .int .u32 (nx : Int), .string ev] w fun e w' => e = .returned (.int .u32 (fillN S true ev (nx.testBit S.length) nx : Nat)) ∧ Below w.heap.size w w' := by
  have HC := hide (fun W h => fill_any W S so sc wh true ev (nx.testBit S.length) nx h hG hnx)
  have HH := hide (fun W => pHas_any nx S.length hnx hG.len _ rfl W)
  have HS := hide hS
  clear hS hG
  have hb0 : (w.alloc (.cells #[.slice so S.length sc, .int .u32 (wh : Int)] 125)).heap[w.heap.size]? = some (.cells #[.slice so S.length sc, .int .u32 (wh : Int)] 125 (0, 0)) := blk_alloc _ _
  have hB : Below w.heap.size w (w.alloc (.cells #[.slice so S.length sc, .int .u32 (wh : Int)] 125)) := (Below.refl _ _).alloc (Nat.le_refl _) _
  have HB0 := hide hb0
  have HBB := hide hB
  have HS1 := hide ((unhide HS).later hB)
  clear hb0 hB
  generalize hT : nx.testBit S.length = tb at *
  clear hT
  go_enter Tryz.func115, Tryz.ntmps115
  go_wp2_with fail
  generalize (w.alloc (.cells #[.slice so S.length sc, .int .u32 (wh : Int)] 125)) = W at *
  have bc := fun o => cell_of_blk (unhide HB0) o
  have hlt := lt_of_blk (unhide HB0)
  have c0 : W.cell? ⟨w.heap.size, 0, none⟩ = some (.slice so S.length sc) := bc 0
  have c1 : W.cell? ⟨w.heap.size, 1, none⟩ = some (.int .u32 (wh : Int)) := bc 1
  clear bc
  refine wp_region_held_drew (S := fun w' => w'.cell? ⟨w.heap.size, 0, none⟩ = some (.slice so S.length sc) ∧ w'.cell? ⟨w.heap.size, 1, none⟩ = some (.int .u32 (wh : Int))) (by kernel_rfl) ?_ (fun hHeld => ?_)
  · exact ⟨c0, c1⟩
  refine wpAnyH_take (i := 0) (v := .agg #[.slice so S.length sc, .int .u32 (wh : Int)]) rfl (by kernel_rfl) (by kernel_rfl) (by kernel_rfl) (fun _ _ _ h => h) (Or.inl ⟨by kernel_rfl, fun w hw => by obtain ⟨s0, s1⟩ := hw; go_simp⟩) hHeld ?_
  try simp only [Act.put, zA, zB, zC, zD, zE, zF]
  refine wpAnyH_take (i := 1) (v := .string ev) rfl (by kernel_rfl) (by kernel_rfl) (by kernel_rfl) (fun _ _ _ h => h) (Or.inl ⟨by kernel_rfl, fun w hw => by obtain ⟨s0, s1⟩ := hw; go_simp⟩) hHeld ?_
  try simp only [Act.put, zA, zB, zC, zD, zE, zF]
  refine wpAnyH_take (i := 2) (v := .int .u32 (nx : Int)) rfl (by kernel_rfl) (by kernel_rfl) (by kernel_rfl) (fun _ _ _ h => h) (Or.inl ⟨by kernel_rfl, fun w hw => by obtain ⟨s0, s1⟩ := hw; go_simp⟩) hHeld ?_
  try simp only [Act.put, zA, zB, zC, zD, zE, zF]
  refine wpAnyH_take (i := 3) (v := .pointer (some ⟨w.heap.size, 0, none⟩)) rfl (by kernel_rfl) (by kernel_rfl) (by kernel_rfl) (fun _ _ _ h => h) (Or.inl ⟨by kernel_rfl, fun w hw => by obtain ⟨s0, s1⟩ := hw; go_simp⟩) hHeld ?_
  try simp only [Act.put, zA, zB, zC, zD, zE, zF]
  refine wpAnyH_take (i := 4) (v := .slice so S.length sc) rfl (by kernel_rfl) (by kernel_rfl) (by kernel_rfl) (fun _ _ _ h => h) (Or.inl ⟨by kernel_rfl, fun w hw => by obtain ⟨s0, s1⟩ := hw; go_simp⟩) hHeld ?_
  try simp only [Act.put, zA, zB, zC, zD, zE, zF]
  refine wpAnyH_take (i := 5) (v := .int .i64 (S.length : Int)) rfl (by kernel_rfl) (by kernel_rfl) (by kernel_rfl) (fun _ _ _ h => h) (Or.inl ⟨by kernel_rfl, fun w hw => by obtain ⟨s0, s1⟩ := hw; go_simp⟩) hHeld ?_
  try simp only [Act.put, zA, zB, zC, zD, zE, zF]
  refine wpAnyH_take (i := 7) (v := .int .u32 (nx : Int)) rfl (by kernel_rfl) (by kernel_rfl) (by kernel_rfl) (fun _ _ _ h => h) (Or.inl ⟨by kernel_rfl, fun w hw => by obtain ⟨s0, s1⟩ := hw; go_simp⟩) hHeld ?_
  try simp only [Act.put, zA, zB, zC, zD, zE, zF]
  refine wpAnyH_ready (rs := [6]) (by kernel_rfl) (by simp) ?_
  refine AllReadyH.cons rfl (fun K hK => ?_) AllReadyH.nil
  go_simp
  refine (unhide HH _).mono ?_
  rintro e w5 ⟨rfl, hw5⟩
  have h5 := hw5.symm
  clear hw5
  subst h5
  refine hK.out _ _ hHeld (fun hHeld => ?_)
  clear hK K
  refine wpAnyH_take (i := 8) (v := .agg #[.bool true, .string ev, .bool tb, .int .u32 (nx : Int), .int .u32 0]) rfl (by kernel_rfl) (by kernel_rfl) (by kernel_rfl) (fun _ _ _ h => h) (Or.inl ⟨by kernel_rfl, fun w hw => by obtain ⟨s0, s1⟩ := hw; go_simp⟩) hHeld ?_
  try simp only [Act.put, zA, zB, zC, zD, zE, zF]
  refine wpAnyH_ready (rs := [9]) (by kernel_rfl) (by simp) ?_
  refine AllReadyH.cons rfl (fun K hK => ?_) AllReadyH.nil
  go_simp
  refine (unhide HC _ ((unhide HS1).later ((Below.refl _ _).drew))).mono ?_
  rintro e w6 ⟨rfl, hb6⟩
  refine hK.out _ _ ⟨(bcell3 hb6 _ _ hlt).trans hHeld.1, (bcell3 hb6 _ _ hlt).trans hHeld.2⟩ (fun hHeld => ?_)
  clear hK K
  have HB6 := hide (((unhide HBB).trans ((((Below.refl _ _).drew).trans hb6).mono (unhide HBB).size)))
  clear hb6
  refine wpAnyH_take (i := 10) (v := .int .u32 (fillN S true ev tb nx : Nat)) rfl (by kernel_rfl) (by kernel_rfl) (by kernel_rfl) (fun _ _ _ h => h) (Or.inl ⟨by kernel_rfl, fun w hw => by obtain ⟨s0, s1⟩ := hw; go_simp⟩) hHeld ?_
  try simp only [Act.put, zA, zB, zC, zD, zE, zF]
  refine wpAnyH_done (by kernel_rfl) ?_ _
  clear hHeld
  go_wp2_with fail
  go_ret
  exact ⟨rfl, unhide HB6⟩
theorem walkB_lt32 {S : List Sp} (h : StG S) (tr : List ByteArray) : walkB S tr < 4294967296 :=
  Nat.lt_of_lt_of_le (walkB_lt S tr) (Nat.le_trans (Nat.pow_le_pow_right (by decide) (show S.length + 1 ≤ 32 by have := h.len; omega)) (by decide))
set_option maxHeartbeats 2000000 in
set_option maxRecDepth 100000 in
theorem WHolds_any (w : World) (S : List Sp) (so : Option Addr) (sc wh : Nat) (tr : List ByteArray) (tt : Option Addr) (tc : Nat) (hS : StS w so S) (hG : StG S) (hT : TxS w tt tr) (hwh : wh < 4294967296) (hn : tr.length ≤ 10000000000000) :
    Calls Tryz.prog 64 #[.agg #[.slice so S.length sc, .int .u32 (wh : Int)], .slice tt tr.length tc] w fun e w' => e = .returned (.bool (walkB S tr &&& wh == wh)) ∧ Below w.heap.size w w' := by
  have HAH := hide (fun W nx ev h h' => Ahead_any W S so sc wh nx ev h hG h')
  have HBH := hide (fun W h => Behind_any W S so sc wh h hG)
  have HAL := hide (fun W p h => AllHold_any W so S.length sc wh p hwh h)
  have HLT := hide (fun l => walkB_lt32 hG l)
  have HS := hide hS
  have HT := hide hT
  have hb0 : (w.alloc (.cells #[.slice so S.length sc, .int .u32 (wh : Int)] 125)).heap[w.heap.size]? = some (.cells #[.slice so S.length sc, .int .u32 (wh : Int)] 125 (0, 0)) := blk_alloc _ _
  have hB : Below w.heap.size w (w.alloc (.cells #[.slice so S.length sc, .int .u32 (wh : Int)] 125)) := (Below.refl _ _).alloc (Nat.le_refl _) _
  have HB0 := hide hb0
  have HBB := hide hB
  have HS1 := hide ((unhide HS).later hB)
  have HT1 := hide ((unhide HT).later hB)
  clear hS hG hT hb0 hB HS HT
  go_enter Tryz.func64, Tryz.ntmps64
  go_wp2_with (go_at_call 114; refine (unhide HBH _ (unhide HS1)).mono ?_)
  rintro e w1 ⟨rfl, hb1⟩
  generalize (w.alloc (.cells #[.slice so S.length sc, .int .u32 (wh : Int)] 125)) = W at *
  have hltW := lt_of_blk (unhide HB0)
  have HB1 := hide hb1
  clear hb1
  go_wp2_with fail
  go_loopw [5, 6] (fun pv x wr => ∃ j : Nat, j ≤ tr.length ∧ pv = .int .u32 (walkB S (tr.drop j) : Nat) ∧ x = .int .i64 ((j : Int) - 1) ∧ Hid (Below W.heap.size W wr)) (fun _ x _ => (intOf x + 1).toNat)
  case atStart => exact ⟨tr.length, Nat.le_refl _, by rw [List.drop_length], rfl, HB1⟩
  case round =>
    obtain ⟨j, hj, rfl, rfl, HBL⟩ := hrel
    have bc := fun o => cell_of_blk (((unhide HBL).block _ hltW).trans (unhide HB0)) o
    have hlt := lt_of_blk (((unhide HBL).block _ hltW).trans (unhide HB0))
    have c0 : wr.cell? ⟨w.heap.size, 0, none⟩ = some (.slice so S.length sc) := bc 0
    have c1 : wr.cell? ⟨w.heap.size, 1, none⟩ = some (.int .u32 (wh : Int)) := bc 1
    clear bc
    have HSr := hide ((unhide HS1).later (unhide HBL))
    have hpl := unhide HLT (tr.drop j)
    by_cases hj0 : 1 ≤ j
    · obtain ⟨k, rfl⟩ : ∃ k, j = k + 1 := ⟨j - 1, by omega⟩
      have hk : k < tr.length := by omega
      have hkn : (k : Int) < (tr.length : Int) := by omega
      have hdr : walkB S (tr.drop k) = fillN S true tr[k] ((walkB S (tr.drop (k + 1))).testBit S.length) (walkB S (tr.drop (k + 1))) := by
        rw [List.drop_eq_getElem_cons hk, walkB]
      obtain ⟨b, off, hto, hbl, hcx⟩ := (unhide HT1).later (unhide HBL) k tr[k] (List.getElem?_eq_getElem hk)
      have HDR := hide hdr
      subst hto
      clear hdr
      generalize tr[k] = x at *
      generalize hP : walkB S (tr.drop (k + 1)) = P at *
      clear hP
      have hik : ((k + 1 : Nat) : Int) - 1 = (k : Int) := by omega
      rw [hik]
      clear hik
      go_wp2_with fail
      refine wp_region_held_drew (S := fun w' => w'.cell? ⟨w.heap.size, 0, none⟩ = some (.slice so S.length sc) ∧ w'.cell? ⟨w.heap.size, 1, none⟩ = some (.int .u32 (wh : Int)) ∧ w'.cell? ⟨b, off + k, none⟩ = some (.string x)) (by kernel_rfl) ?_ (fun hHeld => ?_)
      · exact ⟨c0, c1, hcx⟩
      refine wpAnyH_take (i := 0) (v := .agg #[.slice so S.length sc, .int .u32 (wh : Int)]) rfl (by kernel_rfl) (by kernel_rfl) (by kernel_rfl) (fun _ _ _ h => h) (Or.inl ⟨by kernel_rfl, fun w hw => by obtain ⟨s0, s1, s2⟩ := hw; go_simp⟩) hHeld ?_
      try simp only [Act.put, zA, zB, zC, zD, zE, zF]
      refine wpAnyH_take (i := 1) (v := .int .u32 (P : Int)) rfl (by kernel_rfl) (by kernel_rfl) (by kernel_rfl) (fun _ _ _ h => h) (Or.inl ⟨by kernel_rfl, fun w hw => by obtain ⟨s0, s1, s2⟩ := hw; go_simp⟩) hHeld ?_
      try simp only [Act.put, zA, zB, zC, zD, zE, zF]
      refine wpAnyH_take (i := 2) (v := .slice (some ⟨b, off, none⟩) tr.length tc) rfl (by kernel_rfl) (by kernel_rfl) (by kernel_rfl) (fun _ _ _ h => h) (Or.inl ⟨by kernel_rfl, fun w hw => by obtain ⟨s0, s1, s2⟩ := hw; go_simp⟩) hHeld ?_
      try simp only [Act.put, zA, zB, zC, zD, zE, zF]
      refine wpAnyH_take (i := 3) (v := .int .i64 (k : Int)) rfl (by kernel_rfl) (by kernel_rfl) (by kernel_rfl) (fun _ _ _ h => h) (Or.inl ⟨by kernel_rfl, fun w hw => by obtain ⟨s0, s1, s2⟩ := hw; go_simp⟩) hHeld ?_
      try simp only [Act.put, zA, zB, zC, zD, zE, zF]
      refine wpAnyH_take (i := 4) (v := .pointer (some ⟨b, off + k, none⟩)) rfl (by kernel_rfl) (by kernel_rfl) (by kernel_rfl) (fun _ _ _ h => h) (Or.inl ⟨by kernel_rfl, fun w hw => by obtain ⟨s0, s1, s2⟩ := hw; go_simp⟩) hHeld ?_
      try simp only [Act.put, zA, zB, zC, zD, zE, zF]
      refine wpAnyH_take (i := 5) (v := .string x) rfl (by kernel_rfl) (by kernel_rfl) (by kernel_rfl) (fun _ _ _ h => h) (Or.inl ⟨by kernel_rfl, fun w hw => by obtain ⟨s0, s1, s2⟩ := hw; go_simp⟩) hHeld ?_
      try simp only [Act.put, zA, zB, zC, zD, zE, zF]
      refine wpAnyH_ready (rs := [6]) (by kernel_rfl) (by simp) ?_
      refine AllReadyH.cons rfl (fun K hK => ?_) AllReadyH.nil
      go_simp
      refine (unhide HAH _ P x ((unhide HSr).later ((Below.refl _ _).drew)) hpl).mono ?_
      rintro e w6 ⟨rfl, hb6⟩
      refine hK.out _ _ ⟨(bcell3 hb6 _ _ hlt).trans hHeld.1, (bcell3 hb6 _ _ hlt).trans hHeld.2.1, (bcell3 hb6 _ _ hbl).trans hHeld.2.2⟩ (fun hHeld => ?_)
      clear hK K
      have HB6 := hide (((unhide HBL).trans ((((Below.refl _ _).drew).trans hb6).mono (unhide HBL).size)))
      clear hb6
      rw [← unhide HDR]
      refine wpAnyH_take (i := 7) (v := .int .u32 (walkB S (tr.drop k) : Nat)) rfl (by kernel_rfl) (by kernel_rfl) (by kernel_rfl) (fun _ _ _ h => h) (Or.inl ⟨by kernel_rfl, fun w hw => by obtain ⟨s0, s1, s2⟩ := hw; go_simp⟩) hHeld ?_
      try simp only [Act.put, zA, zB, zC, zD, zE, zF]
      refine wpAnyH_done (by kernel_rfl) ?_ _
      clear hHeld
      go_wp2_with fail
      go_roundw
      case rel => exact ⟨k, by omega, rfl, by go_num, HB6⟩
      case measure => simp [intOf]
    · obtain rfl : j = 0 := by omega
      rw [List.drop_zero] at hpl ⊢
      go_wp2_with (go_at_call 116; refine (unhide HAL _ _ hpl).mono ?_)
      rintro e w6 ⟨rfl, hb6⟩
      have HB6 := hide (((unhide HBB).trans ((unhide HBL).mono (unhide HBB).size)).trans (hb6.mono (by have := (unhide HBB).size; have := (unhide HBL).size; omega)))
      clear hb6
      go_wp2_with fail
      go_ret
      exact ⟨rfl, unhide HB6⟩
theorem wholeM_lt : ∀ (rs : List Rl) (S : List Sp) (w : Nat), w < 2 ^ S.length → (∀ r ∈ rs, ruleF r ≠ .nil) → wholeM rs S w < 2 ^ (stepsM rs S).length
  | [], S, w, h, _ => h
  | r :: rs, S, w, h, hn => by
    rw [wholeM, stepsM]
    have hp := sizeF_pos' (hn r (List.mem_cons_self ..))
    have hl := appS_len (ruleF r) S
    refine wholeM_lt rs _ _ (Nat.or_lt_two_pow (Nat.lt_of_lt_of_le h (Nat.pow_le_pow_right (by decide) (by omega))) (Nat.pow_lt_pow_right (by decide) (by omega))) (fun r' h' => hn r' (List.mem_cons_of_mem _ h'))
theorem appS_small {M : Nat} : ∀ (f : Fm) (S : List Sp), (∀ d ∈ S, d.a ≤ M ∧ d.b ≤ M) → (appS f S).length ≤ M → ∀ d ∈ appS f S, d.a ≤ M ∧ d.b ≤ M
  | .nil, S, h, _ => h
  | .node u v a l r, S, h, hl => by
    rw [appS_len] at hl
    have hz : sizeF (.node u v a l r) = 1 + sizeF l + sizeF r := rfl
    have e1 := appS_len l S
    have e2 := appS_len r (appS l S)
    have h1 := appS_small l S h (by omega)
    have h2 := appS_small r (appS l S) h1 (by omega)
    intro d hd
    rw [appS] at hd
    rcases List.mem_append.1 hd with hd | hd
    · exact h2 d hd
    · rcases List.mem_singleton.1 hd with rfl
      constructor
      · show (if isN l then 0 else (appS l S).length - 1) ≤ M
        split <;> omega
      · show (if isN r then 0 else (appS r (appS l S)).length - 1) ≤ M
        split <;> omega
theorem steps_small {M : Nat} : ∀ (rs : List Rl) (S : List Sp), (∀ d ∈ S, d.a ≤ M ∧ d.b ≤ M) → (stepsM rs S).length ≤ M → ∀ d ∈ stepsM rs S, d.a ≤ M ∧ d.b ≤ M
  | [], S, h, _ => h
  | r :: rs, S, h, hl => by
    rw [stepsM] at hl ⊢
    refine steps_small rs _ (appS_small (ruleF r) S h ?_) hl
    rw [stepsM_len] at hl; omega
theorem stepsM_g {al : List Tk} {rs : List Rl} (h : MGood al rs) : StG (stepsM rs []) := by
  have hs : StOk (stepsM rs []) (subsM rs) := by simpa using stepsM_ok rs [] [] StOk.nil
  have hl : (stepsM rs []).length ≤ 16 := by rw [stepsM_len]; have := h.nodes; simp; omega
  have hk := subsM_kok (fun r hr => (h.fg r hr).kok)
  have key : ∀ d ∈ stepsM rs [], d.k ≤ 12 ∧ d.a ≤ 31 ∧ d.b ≤ 31 := by
    intro d hd
    obtain ⟨j, hj, hjd⟩ := List.mem_iff_getElem.1 hd
    have hj' : (stepsM rs [])[j]? = some d := by rw [List.getElem?_eq_getElem hj, hjd]
    have hgj : j < (subsM rs).length := by rw [← hs.1]; exact hj
    have hst := hs.2 j d _ hj' (List.getElem?_eq_getElem hgj)
    have hkk := hk _ (List.getElem_mem hgj)
    have hz := steps_small (M := 16) rs [] (fun d hd => (List.not_mem_nil hd).elim) hl d hd
    have hk12 : d.k ≤ 12 := by
      generalize (subsM rs)[j] = f at *
      cases f with
      | nil => exact False.elim hst
      | node u v a l r => rw [hst.1]; exact hkk.1
    exact ⟨hk12, by omega, by omega⟩
  exact ⟨by omega, fun d hd => (key d hd).1, fun d hd => (key d hd).2.1, fun d hd => (key d hd).2.2⟩
def FpS (w : World) (o : Option Addr) (ps : List (Option Addr)) : Prop := ∀ j p, ps[j]? = some p → ∃ g, o = some ⟨g, 0, none⟩ ∧ g < w.heap.size ∧ w.cell? ⟨g, j, none⟩ = some (.pointer p)
def PsG (w : World) (rs : List Rl) (ps : List (Option Addr)) : Prop := rs.length = ps.length ∧ ∀ (j : Nat) (r : Rl) (p : Option Addr), rs[j]? = some r → ps[j]? = some p → IsG w (ruleF r) p
theorem FpS.later {w w' : World} {o : Option Addr} {ps : List (Option Addr)} (h : FpS w o ps) (hb : Below w.heap.size w w') : FpS w' o ps := fun j p hp => by
  obtain ⟨g, h1, h2, h3⟩ := h j p hp
  exact ⟨g, h1, Nat.lt_of_lt_of_le h2 hb.size, (bcell3 hb _ _ h2).trans h3⟩
theorem PsG.later {w w' : World} {rs : List Rl} {ps : List (Option Addr)} (h : PsG w rs ps) (hb : Below w.heap.size w w') : PsG w' rs ps := ⟨h.1, fun j r p h1 h2 => (h.2 j r p h1 h2).later hb⟩
structure NW (w W : World) (so : Option Addr) (sc : Nat) (S : List Sp) (wh : Nat) : Prop where
  rb : W.heap[w.heap.size]? = some (.cells #[.slice none 0 0, .int .u32 0] 125 (0, 0))
  wb : W.heap[w.heap.size + 1]? = some (.cells #[.slice so S.length sc, .int .u32 (wh : Int)] 125 (0, 0))
  own : W.ownsRow (w.heap.size + 2) 302 4 (.slice so S.length sc) S.length (spC S)
  bel : Below w.heap.size w W
theorem NW.call {w W w2 : World} {so : Option Addr} {sc : Nat} {S S' : List Sp} {wh : Nat} {e : Ending} (h : NW w W so sc S wh) (hp : ApPost (w.heap.size + 2) S' (.slice so S.length sc) W w2 e) :
    ∃ o' c', e = .returned (.slice o' S'.length c') ∧ NW w (w2.setCell ⟨w.heap.size + 1, 0, none⟩ (.slice o' S'.length c')) o' c' S' wh ∧ w2.heap[w.heap.size + 1]? = some (.cells #[.slice so S.length sc, .int .u32 (wh : Int)] 125 (0, 0)) := by
  obtain ⟨o', c', he, ho, hg, hat⟩ := hp
  have hrb : w2.heap[w.heap.size]? = some (.cells #[.slice none 0 0, .int .u32 0] 125 (0, 0)) := (hg.block _ (lt_of_blk h.rb) (fun e => own_ty h.own e.symm h.rb (by decide))).trans h.rb
  have hwb : w2.heap[w.heap.size + 1]? = some (.cells #[.slice so S.length sc, .int .u32 (wh : Int)] 125 (0, 0)) := (hg.block _ (lt_of_blk h.wb) (fun e => own_ty h.own e.symm h.wb (by decide))).trans h.wb
  have hb2 : Below w.heap.size w w2 := h.bel.grown hg h.bel.size (fun b hb => by have := (own_lt h.own b hb).1; omega)
  refine ⟨o', c', he, ⟨(Below.heap_setCell _ _ _ _ (by show w.heap.size ≠ w.heap.size + 1; omega)).trans hrb, blk_set hwb 0 _, owns_keep ho (grown_set _ _ _ _) (Or.inr (fun e => own_ty ho e hwb (by decide))), hb2.grown (grown_set _ _ _ _) hb2.size (fun b hb => by cases hb; omega)⟩, hwb⟩
theorem NW.set {w W : World} {so : Option Addr} {sc : Nat} {S : List Sp} {wh : Nat} (h : NW w W so sc S wh) (z : Int) (wh' : Nat) (hz : z = (wh' : Int)) : NW w (W.setCell ⟨w.heap.size + 1, 1, none⟩ (.int .u32 z)) so sc S wh' := by
  subst hz
  exact ⟨(Below.heap_setCell _ _ _ _ (by show w.heap.size ≠ w.heap.size + 1; omega)).trans h.rb, blk_set h.wb 1 _, owns_keep h.own (grown_set _ _ _ _) (Or.inr (fun e => own_ty h.own e h.wb (by decide))), h.bel.grown (grown_set _ _ _ _) h.bel.size (fun b hb => by cases hb; omega)⟩
theorem NW.later {w W W' : World} {so : Option Addr} {sc : Nat} {S : List Sp} {wh : Nat} (h : NW w W so sc S wh) (hb : Below W.heap.size W W') : NW w W' so sc S wh :=
  ⟨(hb.block _ (lt_of_blk h.rb)).trans h.rb, (hb.block _ (lt_of_blk h.wb)).trans h.wb, owns_later h.own hb, h.bel.trans (hb.mono h.bel.size)⟩
def NwPost (rs : List Rl) (w w' : World) (e : Ending) : Prop := ∃ so sc, e = .returned (.agg #[.slice so (stepsM rs []).length sc, .int .u32 (wholeM rs [] 0 : Nat)]) ∧ StS w' so (stepsM rs []) ∧ Below w.heap.size w w'
set_option maxHeartbeats 4000000 in
set_option maxRecDepth 100000 in
theorem NewWalk_any (w : World) (rs : List Rl) (ps : List (Option Addr)) (fo : Option Addr) (fc : Nat) (hF : FpS w fo ps) (hP : PsG w rs ps) (hn : nodesL rs ≤ 16) (hrl : rs.length ≤ 401) (hne : ∀ r ∈ rs, ruleF r ≠ .nil) :
    Calls Tryz.prog 113 #[.slice fo rs.length fc] w fun e w' => NwPost rs w w' e := by
  have HF := hide hF
  have HP := hide hP
  have HNE := hide hne
  clear hF hP hne
  have HN0 : Hid (NW w ((w.alloc (.cells #[.slice none 0 0, .int .u32 0] 125)).alloc (.cells #[.slice none 0 0, .int .u32 0] 125)) none 0 [] 0) :=
    ⟨(Below.heap_alloc _ _ _ (by simp)).trans (blk_alloc _ _), blk_alloc' _ _ _ (by simp), World.ownsRow_nil _ _ _ _, ((Below.refl _ _).alloc (Nat.le_refl _) _).alloc (by simp) _⟩
  go_enter Tryz.func113, Tryz.ntmps113
  go_wp2_with fail
  generalize ((w.alloc (.cells #[.slice none 0 0, .int .u32 0] 125)).alloc (.cells #[.slice none 0 0, .int .u32 0] 125)) = W0 at *
  go_loopw [8] (fun x wr => ∃ (k : Nat) (so : Option Addr) (sc : Nat), k ≤ rs.length ∧ x = .int .i64 k ∧ Hid (NW w wr so sc (stepsM (rs.take k) []) (wholeM (rs.take k) [] 0))) (fun x _ => rs.length - (intOf x).toNat)
  case atStart => exact ⟨0, none, 0, Nat.zero_le _, rfl, HN0⟩
  case round =>
    obtain ⟨k, so, sc, hk, rfl, HN⟩ := hrel
    by_cases hlt : k < rs.length
    · have hkn : (k : Int) < (rs.length : Int) := by omega
      have hrk : rs[k]? = some rs[k] := List.getElem?_eq_getElem hlt
      obtain ⟨p, hpk⟩ : ∃ p, ps[k]? = some p := ⟨_, List.getElem?_eq_getElem (by have := (unhide HP).1; omega)⟩
      obtain ⟨g, hfo, hg, hcp⟩ := (unhide HF).later (unhide HN).bel k p hpk
      have HIG := hide (((unhide HP).later (unhide HN).bel).2 k _ p hrk hpk)
      have htk : rs.take (k + 1) = rs.take k ++ [rs[k]] := by rw [List.take_add_one, hrk]; rfl
      have hrn : rs[k] ∈ rs := List.getElem_mem hlt
      have hfn := unhide HNE _ hrn
      have hs1 : (stepsM (rs.take k) []).length = nodesL (rs.take k) := by rw [stepsM_len]; simp
      have hsum : nodesL (rs.take k) + sizeF (ruleF rs[k]) ≤ 16 := by
        have h1 : nodesL rs = nodesL (rs.take (k + 1)) + nodesL (rs.drop (k + 1)) := by rw [← nodesL_append, List.take_append_drop]
        rw [htk, nodesL_append] at h1
        simp only [nodesL] at h1
        omega
      have HST : Hid (stepsM (rs.take (k + 1)) [] = appS (ruleF rs[k]) (stepsM (rs.take k) [])) := by show _ = _; rw [htk, stepsM_snoc]
      have HWH : Hid (wholeM (rs.take (k + 1)) [] 0 = (wholeM (rs.take k) [] 0 ||| 2 ^ ((appS (ruleF rs[k]) (stepsM (rs.take k) [])).length - 1))) := by show _ = _; rw [htk, wholeM_snoc, stepsM_snoc]
      have hwl : wholeM (rs.take k) [] 0 < 4294967296 := Nat.lt_of_lt_of_le (wholeM_lt _ [] 0 (by decide) (fun r hr => unhide HNE r (List.mem_of_mem_take hr))) (Nat.le_trans (Nat.pow_le_pow_right (by decide) (show _ ≤ 32 by omega)) (by decide))
      have hal := appS_len (ruleF rs[k]) (stepsM (rs.take k) [])
      have hpz := sizeF_pos' hfn
      have ha1 : 1 ≤ (appS (ruleF rs[k]) (stepsM (rs.take k) [])).length := by omega
      have ha2 : (appS (ruleF rs[k]) (stepsM (rs.take k) [])).length ≤ 16 := by omega
      have hs3 : (stepsM (rs.take k) []).length + sizeF (ruleF rs[k]) ≤ 100000 := by omega
      subst hfo
      clear hrk hpk htk hrn hs1 hsum hal hpz
      generalize stepsM (rs.take k) [] = S at *
      generalize wholeM (rs.take k) [] 0 = wh at *
      generalize rs[k] = r at *
      have HAP := hide (fun W h1 h2 h3 => appendSteps_any (ruleF r) S W p (w.heap.size + 2) so sc hfn h1 h2 h3 hs3)
      generalize hfr : ruleF r = f at *
      clear hfr hs3
      have wc := fun o => cell_of_blk (unhide HN).wb o
      have hwb := lt_of_blk (unhide HN).wb
      go_wp2_with (go_at_call 155; refine (unhide HAP _ (unhide HIG) (unhide HN).own (by omega)).mono ?_)
      intro e w2 hp2
      obtain ⟨o2, c2, he2, hN2, hb2⟩ := (unhide HN).call hp2
      subst he2
      have HN2 := hide hN2
      have wc := fun o => cell_of_blk hb2 o
      have wf := fun o => frozen_of_blk hb2 o
      have hwb2 := lt_of_blk hb2
      clear hN2 hp2 hb2
      generalize hS2 : appS f S = S2 at *
      clear hS2
      obtain ⟨m, hm⟩ : ∃ m, S2.length = m + 1 := ⟨S2.length - 1, by omega⟩
      go_wp2_with fail
      have hwld : w2.setCell ⟨w.heap.size + 1, 0, none⟩ (.slice o2 S2.length c2) = w2.setCell ⟨w.heap.size + 1, 0, none⟩ (.slice o2 (m + 1) c2) := by rw [hm]
      rw [hwld] at HN2
      clear hwld wc wf hwb2
      generalize w2.setCell ⟨w.heap.size + 1, 0, none⟩ (.slice o2 (m + 1) c2) = w3 at *
      have HWE : Hid (wholeM (rs.take (k + 1)) [] 0 = (wh ||| 2 ^ m)) := by show _ = _; rw [unhide HWH, hm]; rfl
      have hm16 : m ≤ 31 := by omega
      have hblk := (unhide HN2).wb
      rw [hm] at hblk
      have wc := fun o => cell_of_blk hblk o
      have wf := fun o => frozen_of_blk hblk o
      have hwb2 := lt_of_blk hblk
      clear hblk hm HWH HAP
      go_region
      have HN3 := hide (((unhide HN2).set (bits BinOp.or IntKind.u32 (wh : Int) (2 ^ m % 4294967296)) (wh ||| 2 ^ m) (or_bit32 wh m hwl hm16)).later ((Below.refl _ _).drew))
      generalize (w3.setCell ⟨w.heap.size + 1, 1, none⟩ (.int .u32 (bits BinOp.or IntKind.u32 (wh : Int) (2 ^ m % 4294967296)))).drew = w4 at *
      generalize bits BinOp.or IntKind.u32 (wh : Int) (2 ^ m % 4294967296) = z at *
      clear wc wf hwb2
      go_wp2_with fail
      go_roundw
      case rel => exact ⟨k + 1, o2, c2, by omega, by go_num, by rw [unhide HWE, unhide HST]; exact HN3⟩
      case measure => simp [intOf]; omega
    · have hkn : ¬ (k : Int) < (rs.length : Int) := by omega
      have hke : rs.take k = rs := List.take_of_length_le (by omega)
      rw [hke] at HN
      have wc := fun o => cell_of_blk (unhide HN).wb o
      have rc := fun o => cell_of_blk (unhide HN).rb o
      have rf := fun o => frozen_of_blk (unhide HN).rb o
      have hl1 := lt_of_blk (unhide HN).wb
      have hl0 := lt_of_blk (unhide HN).rb
      go_wp2_with fail
      have hf1 := blk_set (unhide HN).rb 0 (.slice so (stepsM rs []).length sc)
      have ho1 := owns_keep (unhide HN).own (grown_set wr w.heap.size 0 (.slice so (stepsM rs []).length sc)) (Or.inr (fun e => own_ty (unhide HN).own e (unhide HN).rb (by decide)))
      have hfin := blk_set hf1 1 (.int .u32 ((wholeM rs [] 0 : Nat) : Int))
      have ho2 := owns_keep ho1 (grown_set _ w.heap.size 1 (.int .u32 ((wholeM rs [] 0 : Nat) : Int))) (Or.inr (fun e => own_ty ho1 e hf1 (by decide)))
      have hbf : Below w.heap.size w ((wr.setCell ⟨w.heap.size, 0, none⟩ (.slice so (stepsM rs []).length sc)).setCell ⟨w.heap.size, 1, none⟩ (.int .u32 ((wholeM rs [] 0 : Nat) : Int))) := by
        have h1 := (unhide HN).bel.grown (grown_set wr w.heap.size 0 (.slice so (stepsM rs []).length sc)) (unhide HN).bel.size (fun b hb => by cases hb; exact Nat.le_refl _)
        exact h1.grown (grown_set _ _ _ _) h1.size (fun b hb => by cases hb; exact Nat.le_refl _)
      generalize ((wr.setCell ⟨w.heap.size, 0, none⟩ (.slice so (stepsM rs []).length sc)).setCell ⟨w.heap.size, 1, none⟩ (.int .u32 ((wholeM rs [] 0 : Nat) : Int))) = wf at *
      have hfin' : wf.heap[w.heap.size]? = some (.cells #[.slice so (stepsM rs []).length sc, .int .u32 ((wholeM rs [] 0 : Nat) : Int)] 125 (0, 0)) := hfin
      have fc := fun o => cell_of_blk hfin' o
      refine bodyPost_ret (v := .agg #[.slice so (stepsM rs []).length sc, .int .u32 ((wholeM rs [] 0 : Nat) : Int)]) (by simp [results, Tryz.results113, go_sem, fc]) rfl ?_
      exact ⟨so, sc, rfl, StS.of ho2, hbf⟩
end Go.Proofs.YtekfjoapinolgaaGreatDoor
