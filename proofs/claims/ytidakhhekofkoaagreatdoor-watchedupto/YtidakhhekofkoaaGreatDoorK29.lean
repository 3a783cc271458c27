/- The program's Walk of a model. -/
import Derived.Test.YtidakhhekofkoaaGreatDoorK22
import Derived.Test.YtidakhhekofkoaaGreatDoorK27
set_option linter.unusedSimpArgs false
set_option linter.unusedVariables false
namespace Go.Proofs.YtidakhhekofkoaaGreatDoor
open Go.RowKit Go.Deep
theorem Tryz.infoPF : (Tryz.prog.info? 142).map (fun i => (i.zero, i.size, i.bytes)) = some (some (.pointer none), 1, 8) := by kernel_rfl
def ptrV (ps : List (Option Addr)) : List Value := ps.map fun p => .pointer p
theorem ptrV_snoc (ps : List (Option Addr)) (p : Option Addr) : ptrV (ps ++ [p]) = ptrV ps ++ [.pointer p] := by simp [ptrV]
theorem FpS.of {w : World} {base : Nat} {o : Option Addr} {n c : Nat} {ps : List (Option Addr)} (hn : n = ps.length) (h : w.ownsRow base 142 1 (.slice o n c) n (ptrV ps)) : FpS w o ps := by
 subst hn
 intro j p hp
 have hj : j < ps.length := by
  rcases Nat.lt_or_ge j ps.length with h | h
  ·exact h
  ·rw [List.getElem?_eq_none h] at hp; cases hp
 obtain ⟨g, h1, h2, h3⟩ := owns1_at h hj
 exact ⟨g, h1, h2, h3.trans (by rw [ptrV, List.getElem?_map, hp]; rfl)⟩
structure MW (w W : World) (lo : Option Addr) (k lc : Nat) (ps : List (Option Addr)) (rs : List Rl) : Prop where
 rb : W.heap[w.heap.size + 1]? = some (.cells #[.slice none 0 0, .int .u32 0] 149 (0, 0))
 own : W.ownsRow (w.heap.size + 2) 142 1 (.slice lo k lc) k (ptrV ps)
 ps : PsG w rs ps
 bel : Below w.heap.size w W
theorem PsG.snoc {w : World} {rs : List Rl} {ps : List (Option Addr)} {r : Rl} {p : Option Addr} (h : PsG w rs ps) (hp : IsG w (ruleF r) p) : PsG w (rs ++ [r]) (ps ++ [p]) := by
 refine ⟨by simp [h.1], fun j r' p' h1 h2 => ?_⟩
 rcases Nat.lt_or_ge j rs.length with hj | hj
 ·rw [List.getElem?_append_left hj] at h1
  rw [List.getElem?_append_left (by rw [← h.1]; exact hj)] at h2
  exact h.2 j r' p' h1 h2
 ·rw [List.getElem?_append_right hj] at h1
  rw [List.getElem?_append_right (by rw [← h.1]; exact hj)] at h2
  have h0 : j - rs.length = 0 := by
   rcases Nat.eq_zero_or_pos (j - rs.length) with h | h
   ·exact h
   ·rw [List.getElem?_eq_none (by simp; omega)] at h1; cases h1
  rw [h0] at h1
  rw [← h.1, h0] at h2
  cases h1; cases h2
  exact hp
theorem StS.set {w : World} {o : Option Addr} {S : List Sp} {c i ty : Nat} {a : Option Addr} {n k : Nat} {y z : Value} {m : Nat × Nat} (h : StS w o S) (hc : w.heap[c]? = some (.cells #[.slice a n k, y] ty m)) : StS (w.setCell ⟨c, i, none⟩ z) o S := by
 intro j d hd
 obtain ⟨g, h1, h2, h3, h4, h5, h6⟩ := h j d hd
 have hne : g ≠ c := by
  rintro rfl
  rw [cell_of_blk hc] at h3
  rcases Nat.eq_zero_or_pos j with rfl | hj
  ·simp at h3
  ·rw [Array.getElem?_eq_none (by show 2 ≤ j * 4; omega)] at h3; cases h3
 have e : ∀ x, (w.setCell ⟨c, i, none⟩ z).cell? ⟨g, x, none⟩ = w.cell? ⟨g, x, none⟩ := by
  intro x
  have := Below.heap_setCell w ⟨c, i, none⟩ z g (by show g ≠ c; exact hne)
  unfold World.cell?
  simp only [this]
 exact ⟨g, h1, by simpa [World.setCell] using h2, (e _).trans h3, (e _).trans h4, (e _).trans h5, (e _).trans h6⟩
theorem MW.later {w W W' : World} {lo : Option Addr} {k lc : Nat} {ps : List (Option Addr)} {rs : List Rl} (h : MW w W lo k lc ps rs) (hb : Below W.heap.size W W') : MW w W' lo k lc ps rs :=
 ⟨(hb.block _ (lt_of_blk h.rb)).trans h.rb, owns_later h.own hb, h.ps, h.bel.trans (hb.mono h.bel.size)⟩
theorem MW.app {w W W' : World} {lo : Option Addr} {k lc : Nat} {ps : List (Option Addr)} {rs : List Rl} (h : MW w W lo k lc ps rs) {p : Option Addr} {r : Rl} (hp : PsG w (rs ++ [r]) (ps ++ [p])) {g cap : Nat} (ho : W'.ownsRow (w.heap.size + 2) 142 1 (.slice (some ⟨g, 0, none⟩) (k + 1) cap) (k + 1) (ptrV ps ++ [.pointer p])) (hg : W.grownBy W' (Value.slice lo k lc).ownBlock) : MW w W' (some ⟨g, 0, none⟩) (k + 1) cap (ps ++ [p]) (rs ++ [r]) :=
 ⟨(hg.block _ (lt_of_blk h.rb) (fun e => own_ty h.own e.symm h.rb (by decide))).trans h.rb, by rw [ptrV_snoc]; exact ho, hp, h.bel.grown hg h.bel.size (fun b hb => by have := (own_lt h.own b hb).1; omega)⟩
set_option maxHeartbeats 4000000 in
set_option maxRecDepth 100000 in
theorem MWalk_any (w : World) (rs : List Rl) (a1 : Option Addr) (a2 a3 : Nat) (m1 : Option Addr) (m2 m3 : Nat) (cells : List Value) (hr : w.ownsRow 0 144 3 (.slice m1 m2 m3) rs.length cells) (hp : BuP w rs cells) (hn : nodesL rs ≤ 16) (hrs : rs.length ≤ 401) (hne : ∀ r ∈ rs, ruleF r ≠ .nil) :
  Calls Tryz.prog 78 #[.agg #[.slice a1 a2 a3, .slice m1 m2 m3]] w fun e w' => NwPost rs w w' e := by
 obtain ⟨i0, hi0, hz0, hz1, hz2⟩ := info_parts Tryz.infoPF
 obtain ⟨hn2, hrow2⟩ := row_buP hr
 have hn2a : m2 ≤ rs.length := by omega
 have hn2b : rs.length ≤ m2 := by omega
 have HROW := hide hrow2
 have HP := hide hp
 have HNE := hide hne
 clear hr hp hn2 hrow2 hne
 have HM0 : Hid (MW w ((w.alloc (.cells #[.slice a1 a2 a3, .slice m1 m2 m3] 78)).alloc (.cells #[.slice none 0 0, .int .u32 0] 149)) none 0 0 [] []) :=
  ⟨blk_alloc' _ _ _ (by simp), World.ownsRow_nil _ _ _ _, ⟨rfl, fun j r p h => by simp at h⟩, ((Below.refl _ _).alloc (Nat.le_refl _) _).alloc (by simp) _⟩
 go_enter Tryz.func78, Tryz.ntmps78
 go_wp2_with fail
 generalize ((w.alloc (.cells #[.slice a1 a2 a3, .slice m1 m2 m3] 78)).alloc (.cells #[.slice none 0 0, .int .u32 0] 149)) = W0 at *
 go_loopw [3, 9] (fun lv x wr => ∃ (k : Nat) (lo : Option Addr) (lc : Nat) (ps : List (Option Addr)), k ≤ rs.length ∧ lv = .slice lo k lc ∧ x = .int .i64 k ∧ Hid (MW w wr lo k lc ps (rs.take k))) (fun _ x _ => rs.length - (intOf x).toNat)
 case atStart => exact ⟨0, none, 0, [], Nat.zero_le _, rfl, rfl, HM0⟩
 case round =>
  obtain ⟨k, lo, lc, ps, hk, rfl, rfl, HM⟩ := hrel
  have hwsz := (unhide HM).bel.size
  have hrlt := lt_of_blk (unhide HM).rb
  by_cases hlt : k < rs.length
  ·obtain ⟨r, rr, ht⟩ : ∃ r rr, rs.drop k = r :: rr := by
    cases hd : rs.drop k with
    | nil => have := congrArg List.length hd; simp at this; omega
    | cons r rr => exact ⟨r, rr, rfl⟩
   obtain ⟨g, hno, hle, hcap, cur, hc1, hc2⟩ := unhide HROW (by omega)
   unfold maxLen at hcap
   have hgl0 := lt_of_blk hc1
   obtain ⟨wd, ao, an, ac, p, g0, g1, g2, g3⟩ := (unhide HP).at k ht
   have hcw := ((unhide HM).bel.block _ hgl0).trans hc1
   have d0 := (cell_of_blk hcw (k * 3)).trans (take_at (k := k * 3) (o := 0) hc2 (by omega) g0)
   have d1 := (cell_of_blk hcw (k * 3 + 1)).trans (take_at hc2 (by omega) g1)
   have d2 := (cell_of_blk hcw (k * 3 + 2)).trans (take_at hc2 (by omega) g2)
   have hgl : g < wr.heap.size := by omega
   subst hno
   have HTK := hide (take_snoc ht)
   have HPS := hide ((unhide HM).ps.snoc g3.1)
   have hkn : (k : Int) < (m2 : Int) := by omega
   have HM2 := hide ((unhide HM).later (((Below.refl wr.heap.size wr).alloc (Nat.le_refl _) (.cells #[.string wd, .slice ao an ac, .pointer p] 144)).alloc (by simp) (.cells #[.pointer p] 142)))
   clear ht hc1 hc2 hcw cur g0 g1 g2 g3
   go_wp2_with (at_builtin; go_must (refine wpList_append_lies _ rfl _ _ 212 rfl (w.heap.size + 2) 142 i0 (.pointer none) 1 8 Tryz.underlying212 hi0 hz0 hz1 hz2 rfl (by decide) _ k (ptrV ps) rfl ?c0 ⟨wr.heap.size + 1, 0, none⟩ 1 1 [.pointer p] rfl rfl ?c1 ?c2 (by decide) ?c3 ?c4 ?c5 (wr.heap.size + 2) ?c6 ?_))
   case c0 => exact (unhide HM2).own
   case c1 =>
    intro j u hj
    match j, hj with
    | 0, hj => simp at hj; subst hj; exact cell_of_blk (blk_alloc' _ _ _ (by simp)) 0
    | j + 1, hj => simp at hj
   case c2 => intro u hu; simp at hu; subst hu; rfl
   case c3 => unfold maxLen; omega
   case c4 => omega
   case c5 => simp; omega
   case c6 => simp
   intro g8 cap8 q8 hown hgrow _ _
   have HM3 := hide ((unhide HM2).app (unhide HPS) hown hgrow)
   clear hown hgrow
   go_wp2_with fail
   go_roundw
   case rel => exact ⟨k + 1, some ⟨g8, 0, none⟩, cap8, ps ++ [p], by omega, rfl, by go_num, by rw [unhide HTK]; exact HM3⟩
   case measure => simp [intOf]; omega
  ·have hkn : ¬ (k : Int) < (m2 : Int) := by omega
   have hke : rs.take k = rs := List.take_of_length_le (by omega)
   rw [hke] at HM
   have hkl : k = rs.length := by omega
   subst hkl
   have HFP := hide (FpS.of (unhide HM).ps.1 (unhide HM).own)
   have HNW := hide (NewWalk_any wr rs ps lo lc (unhide HFP) ((unhide HM).ps.later (unhide HM).bel) hn hrs (unhide HNE))
   go_wp2_with (go_at_call 124; refine (unhide HNW).mono ?_)
   rintro e w5 ⟨so, sc, rfl, hst, hb5⟩
   have hrb := (hb5.block _ (lt_of_blk (unhide HM).rb)).trans (unhide HM).rb
   have rc := fun o => cell_of_blk hrb o
   have rf := fun o => frozen_of_blk hrb o
   have hl0 := lt_of_blk hrb
   have HB5 := hide ((unhide HM).bel.trans (hb5.mono (unhide HM).bel.size))
   have HST := hide hst
   have HRB := hide hrb
   clear hb5 hst hrb
   go_wp2_with fail
   have hf1 := blk_set (unhide HRB) 0 (.slice so (stepsM rs []).length sc)
   have hfin := blk_set hf1 1 (.int .u32 ((wholeM rs [] 0 : Nat) : Int))
   have hs1 : StS (w5.setCell ⟨w.heap.size + 1, 0, none⟩ (.slice so (stepsM rs []).length sc)) so (stepsM rs []) := (unhide HST).set (unhide HRB)
   have hs2 : StS ((w5.setCell ⟨w.heap.size + 1, 0, none⟩ (.slice so (stepsM rs []).length sc)).setCell ⟨w.heap.size + 1, 1, none⟩ (.int .u32 ((wholeM rs [] 0 : Nat) : Int))) so (stepsM rs []) := hs1.set (a := so) (n := (stepsM rs []).length) (k := sc) (y := .int .u32 0) hf1
   have hbf : Below w.heap.size w ((w5.setCell ⟨w.heap.size + 1, 0, none⟩ (.slice so (stepsM rs []).length sc)).setCell ⟨w.heap.size + 1, 1, none⟩ (.int .u32 ((wholeM rs [] 0 : Nat) : Int))) := by
    have h1 := (unhide HB5).grown (grown_set w5 (w.heap.size + 1) 0 (.slice so (stepsM rs []).length sc)) (unhide HB5).size (fun b hb => by cases hb; omega)
    exact h1.grown (grown_set _ _ _ _) h1.size (fun b hb => by cases hb; omega)
   generalize ((w5.setCell ⟨w.heap.size + 1, 0, none⟩ (.slice so (stepsM rs []).length sc)).setCell ⟨w.heap.size + 1, 1, none⟩ (.int .u32 ((wholeM rs [] 0 : Nat) : Int))) = wf at *
   have hfin' : wf.heap[w.heap.size + 1]? = some (.cells #[.slice so (stepsM rs []).length sc, .int .u32 ((wholeM rs [] 0 : Nat) : Int)] 149 (0, 0)) := hfin
   have fc := fun o => cell_of_blk hfin' o
   refine bodyPost_ret (v := .agg #[.slice so (stepsM rs []).length sc, .int .u32 ((wholeM rs [] 0 : Nat) : Int)]) (by simp [results, Tryz.results78, go_sem, fc]) rfl ?_
   exact ⟨so, sc, rfl, hs2, hbf⟩
theorem holdsM_ok {s : ByteArray} {al : List Tk} {rs : List Rl} (h : readM s = .ok (al, rs)) (tr : List ByteArray) : holdsM s tr = if tr.all (fun x => hasN al x) = true then (rs.all (fun r => semF tr.length (atT tr) (ruleF r) 1), 0) else (false, 3) := by
 unfold holdsM; rw [h]
theorem holdsM_err {s : ByteArray} {x : Nat × Nat} (h : readM s = .error x) (tr : List ByteArray) : holdsM s tr = (false, x.2) := by
 unfold holdsM; rw [h]
set_option maxHeartbeats 1000000 in
set_option maxRecDepth 100000 in
theorem MKeeps_any (w : World) (al : List Tk) (rs : List Rl) (hM : MGood al rs) (a1 : Option Addr) (a2 a3 : Nat) (m1 : Option Addr) (m2 m3 : Nat) (cells : List Value) (hr : w.ownsRow 0 144 3 (.slice m1 m2 m3) rs.length cells) (hp : BuP w rs cells) (tr : List ByteArray) (tt : Option Addr) (tc : Nat) (hT : TxS w tt tr) (hn : tr.length ≤ 10000000000000) :
  Calls Tryz.prog 42 #[.agg #[.slice a1 a2 a3, .slice m1 m2 m3], .slice tt tr.length tc] w fun e w' => e = .returned (.bool (rs.all (fun r => semF tr.length (atT tr) (ruleF r) 1))) ∧ Below w.heap.size w w' := by
 have hB : Below w.heap.size w (w.alloc (.cells #[.slice a1 a2 a3, .slice m1 m2 m3] 78)) := (Below.refl _ _).alloc (Nat.le_refl _) _
 have HW := hide (MWalk_any (w.alloc (.cells #[.slice a1 a2 a3, .slice m1 m2 m3] 78)) rs a1 a2 a3 m1 m2 m3 cells (owns_later hr hB) (hp.keep (KB.below hB)) hM.nodes hM.rlen (fun r hr => (hM.fg r hr).ne))
 have HT := hide (hT.later hB)
 have HG := hide (stepsM_g hM)
 have HK := hide (keeps_ok hM tr)
 have hwl : wholeM rs [] 0 < 4294967296 := Nat.lt_of_lt_of_le (wholeM_lt rs [] 0 (by decide) (fun r hr => (hM.fg r hr).ne)) (Nat.le_trans (Nat.pow_le_pow_right (by decide) (show _ ≤ 32 by have := (stepsM_g hM).len; omega)) (by decide))
 have HB := hide hB
 clear hM hr hp hT hB
 go_enter Tryz.func42, Tryz.ntmps42
 go_wp2_with (go_at_call 78; refine (unhide HW).mono ?_)
 rintro e w1 ⟨so, sc, rfl, hst, hb1⟩
 have HST := hide hst
 have HT1 := hide ((unhide HT).later hb1)
 have HB1 := hide ((unhide HB).trans (hb1.mono (unhide HB).size))
 clear hst hb1
 go_wp2_with (go_at_call 79; refine (WHolds_any _ (stepsM rs []) so sc (wholeM rs [] 0) tr tt tc (unhide HST) (unhide HG) (unhide HT1) hwl hn).mono ?_)
 rintro e w2 ⟨rfl, hb2⟩
 rw [unhide HK]
 have HB2 := hide ((unhide HB1).trans (hb2.mono (unhide HB1).size))
 clear hb2
 go_wp2_with fail
 go_ret
 exact ⟨rfl, unhide HB2⟩
set_option maxHeartbeats 1000000 in
set_option maxRecDepth 100000 in
theorem MKnows_any (w : World) (al : List Tk) (a1 : Option Addr) (a2 a3 : Nat) (m1 : Option Addr) (m2 m3 : Nat) (ha : w.ownsRow 0 9 1 (.slice a1 a2 a3) al.length (strC al)) (tr : List ByteArray) (tt : Option Addr) (tc : Nat) (hT : TxS w tt tr) (hn : tr.length ≤ 10000000000000) :
  Calls Tryz.prog 41 #[.agg #[.slice a1 a2 a3, .slice m1 m2 m3], .slice tt tr.length tc] w fun e w' => e = .returned (.bool (tr.all (fun x => hasN al x))) ∧ Below w.heap.size w w' := by
 have hB : Below w.heap.size w (w.alloc (.cells #[.slice a1 a2 a3, .slice m1 m2 m3] 78)) := (Below.refl _ _).alloc (Nat.le_refl _) _
 have HBL := hide (blk_alloc w (.cells #[.slice a1 a2 a3, .slice m1 m2 m3] 78))
 have HA := hide (owns_later ha hB)
 have HT := hide (hT.later hB)
 have HB := hide hB
 clear ha hT hB
 go_enter Tryz.func41, Tryz.ntmps41
 go_wp2_with fail
 generalize w.alloc (.cells #[.slice a1 a2 a3, .slice m1 m2 m3] 78) = W at *
 have mc := fun o => cell_of_blk (unhide HBL) o
 have hml := lt_of_blk (unhide HBL)
 go_loopw [9] (fun x wr => ∃ k : Nat, k ≤ tr.length ∧ x = .int .i64 k ∧ Hid (W = wr) ∧ Hid ((tr.take k).all (fun x => hasN al x) = true)) (fun x _ => tr.length - (intOf x).toNat)
 case atStart => exact ⟨0, Nat.zero_le _, rfl, rfl, rfl⟩
 case round =>
  obtain ⟨k, hk, rfl, HW, HK⟩ := hrel
  have hw := unhide HW
  subst hw
  clear HW
  by_cases hlt : k < tr.length
  ·have hkn : (k : Int) < (tr.length : Int) := by omega
   obtain ⟨b, off, hto, hbl, hcx⟩ := unhide HT k tr[k] (List.getElem?_eq_getElem hlt)
   have HTK : Hid (tr.take (k + 1) = tr.take k ++ [tr[k]]) := by show _ = _; rw [List.take_add_one, List.getElem?_eq_getElem hlt]; rfl
   have HME := hide (List.getElem_mem hlt)
   subst hto
   generalize tr[k] = x at *
   have HC := hide (contains_any al x (.slice a1 a2 a3) 0 W (unhide HA))
   cases hx : hasN al x with
   | false =>
    have HF : Hid (tr.all (fun x => hasN al x) = false) := by
     show _ = _
     rw [List.all_eq_false]
     exact ⟨x, unhide HME, by rw [hx]; decide⟩
    rw [hx] at HC
    clear hx
    go_wp2_with (go_at_call 77; refine (unhide HC).mono ?_)
    rintro e w2 ⟨rfl, hw2⟩
    have h2 := hw2.symm
    clear hw2
    subst h2
    go_wp2_with fail
    go_ret
    rw [unhide HF]
    exact ⟨rfl, unhide HB⟩
   | true =>
    have HK2 : Hid ((tr.take (k + 1)).all (fun x => hasN al x) = true) := by
     show _ = _
     rw [unhide HTK, List.all_append, unhide HK]; simp [hx]
    rw [hx] at HC
    clear hx
    go_wp2_with (go_at_call 77; refine (unhide HC).mono ?_)
    rintro e w2 ⟨rfl, hw2⟩
    have h2 := hw2.symm
    clear hw2
    subst h2
    go_wp2_with fail
    go_roundw
    case rel => exact ⟨k + 1, by omega, by go_num, trivial, HK2⟩
    case measure => simp [intOf]; omega
  ·have hkn : ¬ (k : Int) < (tr.length : Int) := by omega
   rw [List.take_of_length_le (by omega)] at HK
   go_wp2_with fail
   go_ret
   rw [unhide HK]
   exact ⟨rfl, unhide HB⟩
set_option maxHeartbeats 1000000 in
set_option maxRecDepth 100000 in
theorem Holds_any (s : ByteArray) (tr : List ByteArray) (w : World) (tt : Option Addr) (tc : Nat) (hG : GV w) (hT : TxS w tt tr) (hn : tr.length ≤ 10000000000000) :
  Calls Tryz.prog 16 #[.string s, .slice tt tr.length tc] w fun e w' => e = .returned (.tuple #[.bool (holdsM s tr).1, .int .i64 (holdsM s tr).2]) ∧ Below w.heap.size w w' := by
 have HT := hide hT
 have HR := hide (read_any s w hG)
 clear hT hG
 go_enter Tryz.func16, Tryz.ntmps16
 go_wp2_with (go_at_call 39; refine (unhide HR).mono ?_)
 rintro e w1 ⟨hb1, hm⟩
 cases hr : readM s with
 | error x =>
  rw [hr] at hm
  have hne := readM_err hr
  have HX := hide (holdsM_err hr tr)
  obtain ⟨xp, xe⟩ := x
  have hne' : ¬ ((xe : Nat) : Int) = 0 := by have : xe ≠ 0 := hne; omega
  have HB := hide hb1
  subst hm
  clear hr hb1 hne
  go_wp2_with fail
  go_quiet (fail)
  go_wp2_with fail
  refine bodyPost_ret (v := .tuple #[.bool false, .int .i64 xe]) (by simp [results, Tryz.results16, go_sem]) rfl ?_
  rw [unhide HX]
  have hb := (((unhide HB).alloc (unhide HB).size (.cells #[.slice none 0 0, .slice none 0 0] 78)).alloc (by have := (unhide HB).size; simp; omega) (.cells #[.int .i64 xp, .int .i64 xe] 80))
  exact ⟨rfl, hb.trans ((bdn _ _).mono hb.size)⟩
 | ok m =>
  obtain ⟨al, rs⟩ := m
  rw [hr] at hm
  obtain ⟨a1, a2, a3, m1, m2, m3, cs, rfl, ha, hrr, hp⟩ := hm
  have hg := readM_good hr
  have hX := holdsM_ok hr tr
  have hbl : Below w1.heap.size w1 ((w1.alloc (.cells #[.slice a1 a2 a3, .slice m1 m2 m3] 78)).alloc (.cells #[.int .i64 0, .int .i64 0] 80)) := ((Below.refl _ _).alloc (Nat.le_refl _) _).alloc (by simp) _
  have hmb : ((w1.alloc (.cells #[.slice a1 a2 a3, .slice m1 m2 m3] 78)).alloc (.cells #[.int .i64 0, .int .i64 0] 80)).heap[w1.heap.size]? = some (.cells #[.slice a1 a2 a3, .slice m1 m2 m3] 78 (0, 0)) := (Below.heap_alloc _ _ _ (by simp)).trans (blk_alloc _ _)
  have HA := hide (owns_later ha hbl)
  have HRR := hide (owns_later hrr hbl)
  have HBP := hide (hp.keep (KB.below hbl))
  have HB := hide (hb1.trans (hbl.mono hb1.size))
  have HT1 := hide ((unhide HT).later (unhide HB))
  have HMB := hide hmb
  have HGD := hide hg
  have HX := hide hX
  clear hr ha hrr hp hg hX hbl hb1 hmb HR HT
  go_wp2_with (go_at_call 41; refine (MKnows_any _ al a1 a2 a3 m1 m2 m3 (unhide HA) tr tt tc (unhide HT1) hn).mono ?_)
  rintro e w2 ⟨rfl, hb2⟩
  generalize ((w1.alloc (.cells #[.slice a1 a2 a3, .slice m1 m2 m3] 78)).alloc (.cells #[.int .i64 0, .int .i64 0] 80)) = W at *
  have hm2 := (hb2.block _ (lt_of_blk (unhide HMB))).trans (unhide HMB)
  have mc := fun o => cell_of_blk hm2 o
  have hml := lt_of_blk hm2
  have HB2 := hide ((unhide HB).trans (hb2.mono (unhide HB).size))
  have HR2 := hide (owns_later (unhide HRR) hb2)
  have HP2 := hide ((unhide HBP).keep (KB.below hb2))
  have HT2 := hide ((unhide HT1).later hb2)
  clear hb2 hm2
  cases hK : tr.all (fun x => hasN al x) with
  | false =>
   have HF : Hid (holdsM s tr = (false, 3)) := by show _ = _; rw [unhide HX, if_neg (by rw [hK]; decide)]
   clear hK HX
   go_wp2_with fail
   refine bodyPost_ret (v := .tuple #[.bool false, .int .i64 3]) (by simp [results, Tryz.results16, go_sem]) rfl ?_
   rw [unhide HF]
   exact ⟨rfl, unhide HB2⟩
  | true =>
   have HF : Hid (holdsM s tr = (rs.all (fun r => semF tr.length (atT tr) (ruleF r) 1), 0)) := by show _ = _; rw [unhide HX, if_pos hK]
   clear hK HX
   go_wp2_with (go_at_call 42; refine (MKeeps_any _ al rs (unhide HGD) a1 a2 a3 m1 m2 m3 cs (unhide HR2) (unhide HP2) tr tt tc (unhide HT2) hn).mono ?_)
   rintro e w3 ⟨rfl, hb3⟩
   have HB3 := hide ((unhide HB2).trans (hb3.mono (unhide HB2).size))
   clear hb3
   generalize rs.all (fun r => semF tr.length (atT tr) (ruleF r) 1) = B at *
   go_wp2_with fail
   refine bodyPost_ret (v := .tuple #[.bool B, .int .i64 0]) (by simp [results, Tryz.results16, go_sem]) rfl ?_
   rw [unhide HF]
   exact ⟨rfl, unhide HB3⟩
end Go.Proofs.YtidakhhekofkoaaGreatDoor
