/- The program's check. -/
import Derived.Test.YtidakhhekofkoaaGreatDoorK28
set_option linter.unusedSimpArgs false
namespace Go.Proofs.YtidakhhekofkoaaGreatDoor
open Go.RowKit Go.Deep
theorem rulesP_at {w : World} : ∀ {rs : List Rl} {cs : List Value} (k : Nat) {r : Rl} {rr : List Rl}, RulesP w rs cs → rs.drop k = r :: rr → ∃ kk s fp no nn nc cp, cs[k * 6]? = some (.int .i64 kk) ∧ cs[k * 6 + 1]? = some (.string s) ∧ cs[k * 6 + 2]? = some (.int .i64 r.pl) ∧ cs[k * 6 + 3]? = some (.pointer fp) ∧ cs[k * 6 + 4]? = some (.slice no nn nc) ∧ cs[k * 6 + 5]? = some (.pointer cp) ∧ RsIs w r fp no nn nc cp
  | [], _, _, _, _, _, h => by simp at h
  | r0 :: rs, _, 0, _, _, ⟨kk, s, fp, no, nn, nc, cp, rest, e, h1, _⟩, h => by
    cases h; subst e
    exact ⟨kk, s, fp, no, nn, nc, cp, rfl, rfl, rfl, rfl, rfl, rfl, h1⟩
  | r0 :: rs, _, k + 1, _, _, ⟨_, _, _, _, _, _, _, rest, e, _, h2⟩, h => by
    obtain ⟨kk, s, fp, no, nn, nc, cp, g0, g1, g2, g3, g4, g5, g6⟩ := rulesP_at k h2 (by simpa using h)
    subst e
    have e0 : (k + 1) * 6 = k * 6 + 6 := by omega
    refine ⟨kk, s, fp, no, nn, nc, cp, ?_, ?_, ?_, ?_, ?_, ?_, g6⟩
    · rw [e0]; exact g0
    · rw [e0]; exact g1
    · rw [e0]; exact g2
    · rw [e0]; exact g3
    · rw [e0]; exact g4
    · rw [e0]; exact g5
theorem row_ruP {w : World} {no : Option Addr} {nn nc n : Nat} {cs : List Value} (h : w.ownsRow 0 205 6 (.slice no nn nc) n cs) : nn = n ∧ (n ≠ 0 → ∃ g, no = some ⟨g, 0, none⟩ ∧ n ≤ nc ∧ nc ≤ maxLen ∧ ∃ cur, w.heap[g]? = some (.cells cur 205 (0, 0)) ∧ cur.toList.take (n * 6) = cs) := by
  obtain ⟨_, h2 | ⟨g, cap, cur, hv, _, hh, hle, hcap, _, htake⟩⟩ := h
  · obtain ⟨h3, h4⟩ := h2
    cases h3
    exact ⟨h4.symm, fun hne => absurd h4 hne⟩
  · cases hv
    exact ⟨rfl, fun _ => ⟨g, rfl, hle, hcap, cur, hh, htake⟩⟩
theorem take_at {cur : Array Value} {cs : List Value} {n k o : Nat} {v : Value} (h : cur.toList.take n = cs) (hk : k + o < n) (hc : cs[k + o]? = some v) : cur[k + o]? = some v := by
  rw [← h, List.getElem?_take, if_pos hk] at hc
  rw [← Array.getElem?_toList]; exact hc
set_option maxHeartbeats 8000000 in
set_option maxRecDepth 100000 in
theorem check_any (w : World) (al : List Tk) (rs : List Rl) (o1 : Option Addr) (n1 k1 : Nat) (o2 : Option Addr) (n2 k2 : Nat) (cells : List Value) (ha : w.ownsRow 0 201 3 (.slice o1 n1 k1) al.length (tkCellsP al)) (hr : w.ownsRow 0 205 6 (.slice o2 n2 k2) rs.length cells) (hp : RulesP w rs cells) (hg : ∀ r ∈ rs, RlArgs r) (hal : al.length ≤ 401) (hrs : rs.length ≤ 401) :
    Calls Tryz.prog 70 #[.agg #[.slice o1 n1 k1, .slice o2 n2 k2]] w fun e w' => e = .returned (.agg #[.int .i64 ((tells (0, 0) (pFaults al rs)).1 : Nat), .int .i64 ((tells (0, 0) (pFaults al rs)).2 : Nat)]) ∧ Below w.heap.size w w' := by
  obtain ⟨hn1, hrow1⟩ := row_tkP ha
  obtain ⟨hn2, hrow2⟩ := row_ruP hr
  have hn1a : n1 ≤ al.length := by omega
  have hn1b : al.length ≤ n1 := by omega
  have hn2a : n2 ≤ rs.length := by omega
  have hn2b : rs.length ≤ n2 := by omega
  have HROW1 := hide hrow1
  have HROW2 := hide hrow2
  have HP := hide hp
  have HGD := hide hg
  clear ha hr hp hg hn1 hn2 hrow1 hrow2
  have HF : Hid (tells (0, 0) (pFaults al rs) = tells (tells (0, 0) (pActs al 0 al)) (pRules al 0 rs)) := tells_append _ _ _
  go_enter Tryz.func70, Tryz.ntmps70
  go_wp2_with fail
  have hstart : CK (((w.alloc (.cells #[.slice o1 n1 k1, .slice o2 n2 k2] 128)).alloc (.cells #[.int .i64 0, .int .i64 0] 80)).alloc (.cells #[.slice none 0 0, .int .i64 0, .int .i64 0] 198)) (w.heap.size + 1 + 1) w.heap.size [] (0, 0) :=
    ⟨⟨none, 0, 0, blk_alloc' _ _ _ (by simp), World.ownsRow_nil _ _ _ _⟩, by omega⟩
  have HST := hide hstart
  have hbw : Below w.heap.size w (((w.alloc (.cells #[.slice o1 n1 k1, .slice o2 n2 k2] 128)).alloc (.cells #[.int .i64 0, .int .i64 0] 80)).alloc (.cells #[.slice none 0 0, .int .i64 0, .int .i64 0] 198)) :=
    ((((Below.refl _ _).alloc (Nat.le_refl _) _).alloc (by simp) _).alloc (by simp; omega) _)
  have HBW := hide hbw
  have hsx : (((w.alloc (.cells #[.slice o1 n1 k1, .slice o2 n2 k2] 128)).alloc (.cells #[.int .i64 0, .int .i64 0] 80)).alloc (.cells #[.slice none 0 0, .int .i64 0, .int .i64 0] 198)).heap[w.heap.size]? = some (sbl o1 n1 k1 o2 n2 k2) := (Below.heap_alloc _ _ _ (by simp; omega)).trans ((Below.heap_alloc _ _ _ (by simp)).trans (blk_alloc _ _))
  have hrx : (((w.alloc (.cells #[.slice o1 n1 k1, .slice o2 n2 k2] 128)).alloc (.cells #[.int .i64 0, .int .i64 0] 80)).alloc (.cells #[.slice none 0 0, .int .i64 0, .int .i64 0] 198)).heap[w.heap.size + 1]? = some (.cells #[.int .i64 0, .int .i64 0] 80 (0, 0)) := (Below.heap_alloc _ _ _ (by simp)).trans (blk_alloc' _ _ _ (by simp))
  have HSX := hide hsx
  have HRX := hide hrx
  have hsz : w.heap.size + 1 + 1 + 1 = (((w.alloc (.cells #[.slice o1 n1 k1, .slice o2 n2 k2] 128)).alloc (.cells #[.int .i64 0, .int .i64 0] 80)).alloc (.cells #[.slice none 0 0, .int .i64 0, .int .i64 0] 198)).heap.size := by simp
  clear hstart hbw hsx hrx
  generalize hW0 : ((w.alloc (.cells #[.slice o1 n1 k1, .slice o2 n2 k2] 128)).alloc (.cells #[.int .i64 0, .int .i64 0] 80)).alloc (.cells #[.slice none 0 0, .int .i64 0, .int .i64 0] 198) = W0 at *
  clear hW0
  go_loopw [13] (fun i wr => ∃ (k : Nat) (y : Nat × Nat), i = .int .i64 (k : Int) ∧ k ≤ al.length ∧ CK wr (w.heap.size + 1 + 1) w.heap.size (al.take k) y ∧ CF (w.heap.size + 1 + 1) w.heap.size W0 wr ∧ Hid (tells (0, 0) (pActs al 0 al) = tells y (pActs al k (al.drop k)))) (fun i _ => al.length - (intOf i).toNat)
  case atStart => exact ⟨0, (0, 0), rfl, Nat.zero_le _, unhide HST, CF.refl _ _ _, rfl⟩
  case round =>
    obtain ⟨k, y, rfl, hkk, hcr, hfr, HY⟩ := hrel
    have HCR := hide hcr
    have HFR := hide hfr
    have hbr : Below w.heap.size w wr := (unhide HBW).trans (hfr.low (by omega) (by omega))
    have HBR := hide hbr
    have hwl : w.heap.size ≤ wr.heap.size := hbr.size
    by_cases hlt : k < al.length
    · obtain ⟨t, rr, ht⟩ : ∃ t rr, al.drop k = t :: rr := by
        cases hd : al.drop k with
        | nil => have := congrArg List.length hd; simp at this; omega
        | cons t rr => exact ⟨t, rr, rfl⟩
      obtain ⟨g, hno, hle, hcap, cur, hc1, hc2⟩ := unhide HROW1 (by intro e; rw [e] at hlt; simp at hlt)
      unfold maxLen at hcap
      have hgl0 := lt_of_blk hc1
      have hrw2 : ∃ cur, wr.heap[g]? = some (.cells cur 201 (0, 0)) ∧ cur.toList.take (al.length * 3) = tkCellsP al := ⟨cur, (hbr.block _ hgl0).trans hc1, hc2⟩
      obtain ⟨c0, c1, c2⟩ := row_tok hrw2 ht
      have hgl : g < wr.heap.size := by omega
      subst hno
      have HPA : Hid (pActs al k (al.drop k) = pAct (al.take k) k t ++ pActs al (k + 1) (al.drop (k + 1))) := by show _ = _; rw [ht, dropTl ht, pActs]
      have HTS := hide (take_snoc ht)
      have hkn : (k : Int) < (n1 : Int) := by omega
      clear hcr hfr hbr ht hc1 hc2 hrw2 cur
      go_wp2_with fail
      refine (checkAct_any _ (w.heap.size + 1 + 1) w.heap.size (al.take k) y k t ((unhide HCR).alloc _) (by simp; omega) (by simp; omega)).mono ?_
      rintro e w3 ⟨rfl, hc3, hf3⟩
      have HC3 := hide hc3
      have HF3 := hide ((CF.below (cb := w.heap.size + 1 + 1) (B := w.heap.size) ((Below.refl wr.heap.size wr).alloc (Nat.le_refl _) (.cells #[.int .i64 t.k, .string t.s, .int .i64 t.p] 201))).trans hf3)
      clear hc3 hf3
      go_wp2_with fail
      go_roundw
      case rel =>
        exact ⟨k + 1, _, by go_num, by omega, by rw [unhide HTS]; exact unhide HC3, (unhide HFR).trans (unhide HF3), by show _ = _; rw [unhide HY, unhide HPA, tells_append]⟩
      case measure => simp [intOf]; omega
    · have hke : al.length ≤ k := by omega
      have HYY : Hid (tells (0, 0) (pActs al 0 al) = y) := by show _ = _; rw [unhide HY, List.drop_eq_nil_of_le hke]; rfl
      have HCA : Hid (CK wr (w.heap.size + 1 + 1) w.heap.size al y) := by have := unhide HCR; rw [List.take_of_length_le hke] at this; exact this
      have hkn : ¬ (k : Int) < (n1 : Int) := by omega
      have hsx := keepC (unhide HST) hfr (unhide HSX) (by decide) (by decide)
      have hrx := keepC (unhide HST) hfr (unhide HRX) (by decide) (by decide)
      have HSX2 := hide hsx
      have HRX2 := hide hrx
      have hsl := lt_of_blk hsx
      have sc := fun o => cell_of_blk hsx o
      clear hcr hfr hbr hsx hrx HY
      generalize wr = w4 at *
      go_wp2_with fail
      go_loopw [26] (fun i wr => ∃ (k : Nat) (z : Nat × Nat), i = .int .i64 (k : Int) ∧ k ≤ rs.length ∧ CK wr (w.heap.size + 1 + 1) w.heap.size al z ∧ CF (w.heap.size + 1 + 1) w.heap.size w4 wr ∧ Hid (tells y (pRules al 0 rs) = tells z (pRules al k (rs.drop k)))) (fun i _ => rs.length - (intOf i).toNat)
      case atStart => exact ⟨0, y, rfl, Nat.zero_le _, unhide HCA, CF.refl _ _ _, rfl⟩
      case round =>
        clear sc
        obtain ⟨k, z, rfl, hkk, hcr, hfr, HZ⟩ := hrel
        have HCR2 := hide hcr
        have HFR2 := hide hfr
        have hbr : Below w.heap.size w wr := (unhide HBR).trans (hfr.low (by omega) (by omega))
        have HBR2 := hide hbr
        have hwl2 : w.heap.size ≤ wr.heap.size := hbr.size
        by_cases hlt : k < rs.length
        · obtain ⟨r, rr, ht⟩ : ∃ r rr, rs.drop k = r :: rr := by
            cases hd : rs.drop k with
            | nil => have := congrArg List.length hd; simp at this; omega
            | cons r rr => exact ⟨r, rr, rfl⟩
          obtain ⟨g, hno, hle, hcap, cur, hc1, hc2⟩ := unhide HROW2 (by omega)
          unfold maxLen at hcap
          have hgl0 := lt_of_blk hc1
          obtain ⟨kk, s, fp, no, nn, nc, cp, g0, g1, g2, g3, g4, g5, g6⟩ := rulesP_at k (unhide HP) ht
          have hcw := (hbr.block _ hgl0).trans hc1
          have d0 := (cell_of_blk hcw (k * 6)).trans (take_at (k := k * 6) (o := 0) hc2 (by omega) g0)
          have d1 := (cell_of_blk hcw (k * 6 + 1)).trans (take_at hc2 (by omega) g1)
          have d2 := (cell_of_blk hcw (k * 6 + 2)).trans (take_at hc2 (by omega) g2)
          have d3 := (cell_of_blk hcw (k * 6 + 3)).trans (take_at hc2 (by omega) g3)
          have d4 := (cell_of_blk hcw (k * 6 + 4)).trans (take_at hc2 (by omega) g4)
          have d5 := (cell_of_blk hcw (k * 6 + 5)).trans (take_at hc2 (by omega) g5)
          have hgl : g < wr.heap.size := by omega
          subst hno
          have HRS := hide (g6.keep (KQ.below (w := w) (w' := wr.alloc (.cells #[.int .i64 kk, .string s, .int .i64 r.pl, .pointer fp, .slice no nn nc, .pointer cp] 205)) (hbr.alloc hwl2 _)))
          have HRA := hide (unhide HGD r (List.mem_of_mem_drop (by rw [ht]; exact List.mem_cons_self)))
          have HPA : Hid (pRules al k (rs.drop k) = pRule al k r ++ pRules al (k + 1) (rs.drop (k + 1))) := by show _ = _; rw [ht, dropTl ht, pRules]
          have hkn : (k : Int) < (n2 : Int) := by omega
          clear hcr hfr hbr ht hc1 hc2 hcw cur g0 g1 g2 g3 g4 g5 g6
          go_wp2_with fail
          refine (checkRule_any _ (w.heap.size + 1 + 1) w.heap.size al z k r kk s fp no nn nc cp ((unhide HCR2).alloc _) (unhide HRS) (unhide HRA)).mono ?_
          rintro e w5 ⟨rfl, hc5, hf5⟩
          have HC5 := hide hc5
          have HF5 := hide ((CF.below (cb := w.heap.size + 1 + 1) (B := w.heap.size) ((Below.refl wr.heap.size wr).alloc (Nat.le_refl _) (.cells #[.int .i64 kk, .string s, .int .i64 r.pl, .pointer fp, .slice no nn nc, .pointer cp] 205))).trans hf5)
          clear hc5 hf5
          go_wp2_with fail
          go_roundw
          case rel =>
            exact ⟨k + 1, _, by go_num, by omega, unhide HC5, (unhide HFR2).trans (unhide HF5), by show _ = _; rw [unhide HZ, unhide HPA, tells_append]⟩
          case measure => simp [intOf]; omega
        · have hke : rs.length ≤ k := by omega
          have HZZ : Hid (tells (0, 0) (pFaults al rs) = z) := by show _ = _; rw [unhide HF, unhide HYY, unhide HZ, List.drop_eq_nil_of_le hke]; rfl
          have hkn : ¬ (k : Int) < (n2 : Int) := by omega
          have hrx := keepC (unhide HCA) hfr (unhide HRX2) (by decide) (by decide)
          obtain ⟨ao, an, ac, hb9, _⟩ := hcr.blk
          have bc := fun o => cell_of_blk hb9 o
          have rc := fun o => cell_of_blk hrx o
          have rf := fun o => frozen_of_blk hrx o
          have hrl := lt_of_blk hrx
          have hcl := hcr.lt
          have HRX3 := hide hrx
          clear hcr hfr hbr hb9 hrx
          go_wp2_with fail
          have hfin : ((wr.setCell ⟨w.heap.size + 1, 0, none⟩ (.int .i64 z.1)).setCell ⟨w.heap.size + 1, 1, none⟩ (.int .i64 z.2)).heap[w.heap.size + 1]? = some (.cells #[.int .i64 z.1, .int .i64 z.2] 80 (0, 0)) := blk_set (blk_set (unhide HRX3) 0 _) 1 _
          have rc2 := fun o => cell_of_blk hfin o
          clear rc
          refine bodyPost_ret (v := .agg #[.int .i64 z.1, .int .i64 z.2]) (by simp [results, Tryz.results70, go_sem, rc2]) rfl ?_
          rw [unhide HZZ]
          exact ⟨rfl, ((unhide HBR2).setCell (by show w.heap.size ≤ w.heap.size + 1; omega) _).setCell (by show w.heap.size ≤ w.heap.size + 1; omega) _⟩
set_option maxHeartbeats 400000 in
theorem sh_not (f : Fm) (p : Option Addr) (w : World) : Calls Tryz.prog 233 #[.pointer p] w fun e w' => ∃ v, e = .returned (.pointer v) ∧ (IsG w f p → IsG w' (one 4 f) v) ∧ Below w.heap.size w w' := by
  go_enter Tryz.func233, Tryz.ntmps233
  go_wp2_with fail
  refine (fOne_any 4 f p _).mono ?_
  rintro e w1 ⟨v, rfl, hv, hb⟩
  have HV := hide hv
  have HB := hide hb
  clear hv hb
  go_wp2_with fail
  go_ret
  exact ⟨v, rfl, unhide HV, unhide HB⟩
set_option maxHeartbeats 400000 in
theorem sh_next (f : Fm) (p : Option Addr) (w : World) : Calls Tryz.prog 267 #[.pointer p] w fun e w' => ∃ v, e = .returned (.pointer v) ∧ (IsG w f p → IsG w' (one 5 f) v) ∧ Below w.heap.size w w' := by
  go_enter Tryz.func267, Tryz.ntmps267
  go_wp2_with fail
  refine (fOne_any 5 f p _).mono ?_
  rintro e w1 ⟨v, rfl, hv, hb⟩
  have HV := hide hv
  have HB := hide hb
  clear hv hb
  go_wp2_with fail
  go_ret
  exact ⟨v, rfl, unhide HV, unhide HB⟩
set_option maxHeartbeats 400000 in
theorem sh_weakNext (f : Fm) (p : Option Addr) (w : World) : Calls Tryz.prog 274 #[.pointer p] w fun e w' => ∃ v, e = .returned (.pointer v) ∧ (IsG w f p → IsG w' (one 6 f) v) ∧ Below w.heap.size w w' := by
  go_enter Tryz.func274, Tryz.ntmps274
  go_wp2_with fail
  refine (fOne_any 6 f p _).mono ?_
  rintro e w1 ⟨v, rfl, hv, hb⟩
  have HV := hide hv
  have HB := hide hb
  clear hv hb
  go_wp2_with fail
  go_ret
  exact ⟨v, rfl, unhide HV, unhide HB⟩
set_option maxHeartbeats 400000 in
theorem sh_finally (f : Fm) (p : Option Addr) (w : World) : Calls Tryz.prog 265 #[.pointer p] w fun e w' => ∃ v, e = .returned (.pointer v) ∧ (IsG w f p → IsG w' (one 7 f) v) ∧ Below w.heap.size w w' := by
  go_enter Tryz.func265, Tryz.ntmps265
  go_wp2_with fail
  refine (fOne_any 7 f p _).mono ?_
  rintro e w1 ⟨v, rfl, hv, hb⟩
  have HV := hide hv
  have HB := hide hb
  clear hv hb
  go_wp2_with fail
  go_ret
  exact ⟨v, rfl, unhide HV, unhide HB⟩
set_option maxHeartbeats 400000 in
theorem sh_globally (f : Fm) (p : Option Addr) (w : World) : Calls Tryz.prog 270 #[.pointer p] w fun e w' => ∃ v, e = .returned (.pointer v) ∧ (IsG w f p → IsG w' (one 8 f) v) ∧ Below w.heap.size w w' := by
  go_enter Tryz.func270, Tryz.ntmps270
  go_wp2_with fail
  refine (fOne_any 8 f p _).mono ?_
  rintro e w1 ⟨v, rfl, hv, hb⟩
  have HV := hide hv
  have HB := hide hb
  clear hv hb
  go_wp2_with fail
  go_ret
  exact ⟨v, rfl, unhide HV, unhide HB⟩
set_option maxHeartbeats 400000 in
theorem sh_until (f g : Fm) (p q : Option Addr) (w : World) : Calls Tryz.prog 273 #[.pointer p, .pointer q] w fun e w' => ∃ v, e = .returned (.pointer v) ∧ (IsG w f p → IsG w g q → IsG w' (two 9 f g) v) ∧ Below w.heap.size w w' := by
  go_enter Tryz.func273, Tryz.ntmps273
  go_wp2_with fail
  refine (fTwo_any 9 f g p q _).mono ?_
  rintro e w1 ⟨v, rfl, hv, hb⟩
  have HV := hide hv
  have HB := hide hb
  clear hv hb
  go_wp2_with fail
  go_ret
  exact ⟨v, rfl, unhide HV, unhide HB⟩
set_option maxHeartbeats 400000 in
theorem sh_and (f g : Fm) (p q : Option Addr) (w : World) : Calls Tryz.prog 266 #[.pointer p, .pointer q] w fun e w' => ∃ v, e = .returned (.pointer v) ∧ (IsG w f p → IsG w g q → IsG w' (two 10 f g) v) ∧ Below w.heap.size w w' := by
  go_enter Tryz.func266, Tryz.ntmps266
  go_wp2_with fail
  refine (fTwo_any 10 f g p q _).mono ?_
  rintro e w1 ⟨v, rfl, hv, hb⟩
  have HV := hide hv
  have HB := hide hb
  clear hv hb
  go_wp2_with fail
  go_ret
  exact ⟨v, rfl, unhide HV, unhide HB⟩
set_option maxHeartbeats 400000 in
theorem sh_or (f g : Fm) (p q : Option Addr) (w : World) : Calls Tryz.prog 272 #[.pointer p, .pointer q] w fun e w' => ∃ v, e = .returned (.pointer v) ∧ (IsG w f p → IsG w g q → IsG w' (two 11 f g) v) ∧ Below w.heap.size w w' := by
  go_enter Tryz.func272, Tryz.ntmps272
  go_wp2_with fail
  refine (fTwo_any 11 f g p q _).mono ?_
  rintro e w1 ⟨v, rfl, hv, hb⟩
  have HV := hide hv
  have HB := hide hb
  clear hv hb
  go_wp2_with fail
  go_ret
  exact ⟨v, rfl, unhide HV, unhide HB⟩
set_option maxHeartbeats 400000 in
theorem sh_implies (f g : Fm) (p q : Option Addr) (w : World) : Calls Tryz.prog 271 #[.pointer p, .pointer q] w fun e w' => ∃ v, e = .returned (.pointer v) ∧ (IsG w f p → IsG w g q → IsG w' (two 12 f g) v) ∧ Below w.heap.size w w' := by
  go_enter Tryz.func271, Tryz.ntmps271
  go_wp2_with fail
  refine (fTwo_any 12 f g p q _).mono ?_
  rintro e w1 ⟨v, rfl, hv, hb⟩
  have HV := hide hv
  have HB := hide hb
  clear hv hb
  go_wp2_with fail
  go_ret
  exact ⟨v, rfl, unhide HV, unhide HB⟩
set_option maxHeartbeats 1000000 in
theorem some_any (a : ByteArray) : ∀ (n : Nat) (pa : Option Addr) (w : World), n ≤ 9 → IsG w (acF a) pa →
    Calls Tryz.prog 231 #[.pointer pa, .int .i64 (n : Int)] w fun e w' => ∃ v, e = .returned (.pointer v) ∧ IsG w' (timesF a n) v ∧ Below w.heap.size w w'
  | 0, pa, w, _, ha => by
    have HA := hide ha
    clear ha
    go_enter Tryz.func231, Tryz.ntmps231
    go_wp2_with fail
    refine (sh_finally (acF a) pa _).mono ?_
    rintro e w1 ⟨p1, rfl, h1, hb1⟩
    have G1 := hide (h1 (unhide HA))
    have HB := hide hb1
    clear h1 hb1
    go_wp2_with fail
    go_ret
    exact ⟨p1, rfl, unhide G1, unhide HB⟩
  | 1, pa, w, _, ha => by
    have HA := hide ha
    clear ha
    go_enter Tryz.func231, Tryz.ntmps231
    go_wp2_with fail
    refine (sh_finally (acF a) pa _).mono ?_
    rintro e w1 ⟨p1, rfl, h1, hb1⟩
    have G1 := hide (h1 (unhide HA))
    have HB := hide hb1
    clear h1 hb1
    go_wp2_with fail
    go_ret
    exact ⟨p1, rfl, unhide G1, unhide HB⟩
  | n + 2, pa, w, hn, ha => by
    have HA := hide ha
    have HI := hide (some_any a (n + 1))
    have hle : ¬ ((n + 2 : Nat) : Int) ≤ 1 := by omega
    have he : ((n + 2 : Nat) : Int) - 1 = ((n + 1 : Nat) : Int) := by omega
    clear ha
    generalize hm : ((n + 2 : Nat) : Int) = m at *
    have hm1 : m ≤ 100 := by omega
    have hm2 : 1 < m := by omega
    have HE := hide he
    clear he hm
    go_enter Tryz.func231, Tryz.ntmps231
    go_wp2_with fail
    rw [unhide HE]
    refine ((unhide HI) pa _ (by omega) (unhide HA)).mono ?_
    rintro e w1 ⟨p1, rfl, h1, hb1⟩
    have G1 := hide h1
    have HA := hide ((unhide HA).later hb1)
    have HB := hide hb1
    clear h1 hb1
    go_wp2_with fail
    refine (sh_next (timesF a (n + 1)) p1 _).mono ?_
    rintro e w2 ⟨p2, rfl, h2, hb2⟩
    have G2 := hide (h2 (unhide G1))
    have HA := hide ((unhide HA).later hb2)
    have HB := hide ((unhide HB).trans (hb2.mono (unhide HB).size))
    clear h2 hb2
    go_wp2_with fail
    refine (sh_and (acF a) (one 5 (timesF a (n + 1))) pa p2 _).mono ?_
    rintro e w3 ⟨p3, rfl, h3, hb3⟩
    have G3 := hide (h3 (unhide HA) (unhide G2))
    have HB := hide ((unhide HB).trans (hb3.mono (unhide HB).size))
    clear h3 hb3
    go_wp2_with fail
    refine (sh_finally (two 10 (acF a) (one 5 (timesF a (n + 1)))) p3 _).mono ?_
    rintro e w4 ⟨p4, rfl, h4, hb4⟩
    have G4 := hide (h4 (unhide G3))
    have HB := hide ((unhide HB).trans (hb4.mono (unhide HB).size))
    clear h4 hb4
    go_wp2_with fail
    go_ret
    exact ⟨p4, rfl, unhide G4, unhide HB⟩
set_option maxHeartbeats 1000000 in
theorem tp_init (a b : ByteArray) (n : Nat) (pa pb : Option Addr) (w : World) (ha : IsG w (acF a) pa) : Calls Tryz.prog 228 #[.pointer pa, .pointer pb, .int .i64 (n : Int)] w fun e w' => ∃ v, e = .returned (.pointer v) ∧ IsG w' (tplF 0 a b n) v ∧ Below w.heap.size w w' := by
  have HA := hide ha
  have HB := hide (Below.refl w.heap.size w)
  clear ha
  go_enter Tryz.func228, Tryz.ntmps228
  go_wp2_with fail
  go_ret
  exact ⟨pa, rfl, unhide HA, unhide HB⟩
set_option maxHeartbeats 1000000 in
theorem tp_last (a b : ByteArray) (n : Nat) (pa pb : Option Addr) (w : World) (ha : IsG w (acF a) pa) : Calls Tryz.prog 229 #[.pointer pa, .pointer pb, .int .i64 (n : Int)] w fun e w' => ∃ v, e = .returned (.pointer v) ∧ IsG w' (tplF 1 a b n) v ∧ Below w.heap.size w w' := by
  have HA := hide ha
  have HB := hide (Below.refl w.heap.size w)
  clear ha
  go_enter Tryz.func229, Tryz.ntmps229
  go_wp2_with fail
  refine (fWord_any 1 _).mono ?_
  rintro e w1 ⟨p1, rfl, h1, hb1⟩
  have G1 := hide h1
  have HA := hide ((unhide HA).later hb1)
  have HB := hide ((unhide HB).trans (hb1.mono (unhide HB).size))
  clear h1 hb1
  go_wp2_with fail
  refine (sh_next (leaf 1 ByteArray.empty 0) p1 _).mono ?_
  rintro e w2 ⟨p2, rfl, h2, hb2⟩
  have G2 := hide (h2 (unhide G1))
  have G1 := hide ((unhide G1).later hb2)
  have HA := hide ((unhide HA).later hb2)
  have HB := hide ((unhide HB).trans (hb2.mono (unhide HB).size))
  clear h2 hb2
  go_wp2_with fail
  refine (sh_not (one 5 (leaf 1 ByteArray.empty 0)) p2 _).mono ?_
  rintro e w3 ⟨p3, rfl, h3, hb3⟩
  have G3 := hide (h3 (unhide G2))
  have G1 := hide ((unhide G1).later hb3)
  have G2 := hide ((unhide G2).later hb3)
  have HA := hide ((unhide HA).later hb3)
  have HB := hide ((unhide HB).trans (hb3.mono (unhide HB).size))
  clear h3 hb3
  go_wp2_with fail
  refine (sh_and (acF a) (one 4 (one 5 (leaf 1 ByteArray.empty 0))) pa p3 _).mono ?_
  rintro e w4 ⟨p4, rfl, h4, hb4⟩
  have G4 := hide (h4 (unhide HA) (unhide G3))
  have G1 := hide ((unhide G1).later hb4)
  have G2 := hide ((unhide G2).later hb4)
  have G3 := hide ((unhide G3).later hb4)
  have HA := hide ((unhide HA).later hb4)
  have HB := hide ((unhide HB).trans (hb4.mono (unhide HB).size))
  clear h4 hb4
  go_wp2_with fail
  refine (sh_finally (two 10 (acF a) (one 4 (one 5 (leaf 1 ByteArray.empty 0)))) p4 _).mono ?_
  rintro e w5 ⟨p5, rfl, h5, hb5⟩
  have G5 := hide (h5 (unhide G4))
  have G1 := hide ((unhide G1).later hb5)
  have G2 := hide ((unhide G2).later hb5)
  have G3 := hide ((unhide G3).later hb5)
  have G4 := hide ((unhide G4).later hb5)
  have HA := hide ((unhide HA).later hb5)
  have HB := hide ((unhide HB).trans (hb5.mono (unhide HB).size))
  clear h5 hb5
  go_wp2_with fail
  go_ret
  exact ⟨p5, rfl, unhide G5, unhide HB⟩
set_option maxHeartbeats 1000000 in
theorem tp_some (a b : ByteArray) (n : Nat) (pa pb : Option Addr) (w : World) (ha : IsG w (acF a) pa) (hn : n ≤ 9) : Calls Tryz.prog 230 #[.pointer pa, .pointer pb, .int .i64 (n : Int)] w fun e w' => ∃ v, e = .returned (.pointer v) ∧ IsG w' (tplF 2 a b n) v ∧ Below w.heap.size w w' := by
  have HA := hide ha
  have HB := hide (Below.refl w.heap.size w)
  clear ha
  go_enter Tryz.func230, Tryz.ntmps230
  go_wp2_with fail
  refine (some_any a n _ _ hn (unhide HA)).mono ?_
  rintro e w1 ⟨p1, rfl, h1, hb1⟩
  have G1 := hide h1
  have HA := hide ((unhide HA).later hb1)
  have HB := hide ((unhide HB).trans (hb1.mono (unhide HB).size))
  clear h1 hb1
  go_wp2_with fail
  go_ret
  exact ⟨p1, rfl, unhide G1, unhide HB⟩
set_option maxHeartbeats 1000000 in
theorem tp_few (a b : ByteArray) (n : Nat) (pa pb : Option Addr) (w : World) (ha : IsG w (acF a) pa) (hn : n ≤ 9) : Calls Tryz.prog 232 #[.pointer pa, .pointer pb, .int .i64 (n : Int)] w fun e w' => ∃ v, e = .returned (.pointer v) ∧ IsG w' (tplF 3 a b n) v ∧ Below w.heap.size w w' := by
  have HA := hide ha
  have HB := hide (Below.refl w.heap.size w)
  clear ha
  go_enter Tryz.func232, Tryz.ntmps232
  go_wp2_with fail
  refine (some_any a n _ _ hn (unhide HA)).mono ?_
  rintro e w1 ⟨p1, rfl, h1, hb1⟩
  have G1 := hide h1
  have HA := hide ((unhide HA).later hb1)
  have HB := hide ((unhide HB).trans (hb1.mono (unhide HB).size))
  clear h1 hb1
  go_wp2_with fail
  refine (sh_not (timesF a n) p1 _).mono ?_
  rintro e w2 ⟨p2, rfl, h2, hb2⟩
  have G2 := hide (h2 (unhide G1))
  have G1 := hide ((unhide G1).later hb2)
  have HA := hide ((unhide HA).later hb2)
  have HB := hide ((unhide HB).trans (hb2.mono (unhide HB).size))
  clear h2 hb2
  go_wp2_with fail
  go_ret
  exact ⟨p2, rfl, unhide G2, unhide HB⟩
set_option maxHeartbeats 1000000 in
theorem tp_response (a b : ByteArray) (n : Nat) (pa pb : Option Addr) (w : World) (ha : IsG w (acF a) pa) (hb0 : IsG w (acF b) pb) : Calls Tryz.prog 234 #[.pointer pa, .pointer pb, .int .i64 (n : Int)] w fun e w' => ∃ v, e = .returned (.pointer v) ∧ IsG w' (tplF 4 a b n) v ∧ Below w.heap.size w w' := by
  have HA := hide ha
  have HBB := hide hb0
  have HB := hide (Below.refl w.heap.size w)
  clear ha hb0
  go_enter Tryz.func234, Tryz.ntmps234
  go_wp2_with fail
  refine (sh_finally (acF b) pb _).mono ?_
  rintro e w1 ⟨p1, rfl, h1, hb1⟩
  have G1 := hide (h1 (unhide HBB))
  have HA := hide ((unhide HA).later hb1)
  have HBB := hide ((unhide HBB).later hb1)
  have HB := hide ((unhide HB).trans (hb1.mono (unhide HB).size))
  clear h1 hb1
  go_wp2_with fail
  refine (sh_implies (acF a) (one 7 (acF b)) pa p1 _).mono ?_
  rintro e w2 ⟨p2, rfl, h2, hb2⟩
  have G2 := hide (h2 (unhide HA) (unhide G1))
  have G1 := hide ((unhide G1).later hb2)
  have HA := hide ((unhide HA).later hb2)
  have HBB := hide ((unhide HBB).later hb2)
  have HB := hide ((unhide HB).trans (hb2.mono (unhide HB).size))
  clear h2 hb2
  go_wp2_with fail
  refine (sh_globally (two 12 (acF a) (one 7 (acF b))) p2 _).mono ?_
  rintro e w3 ⟨p3, rfl, h3, hb3⟩
  have G3 := hide (h3 (unhide G2))
  have G1 := hide ((unhide G1).later hb3)
  have G2 := hide ((unhide G2).later hb3)
  have HA := hide ((unhide HA).later hb3)
  have HBB := hide ((unhide HBB).later hb3)
  have HB := hide ((unhide HB).trans (hb3.mono (unhide HB).size))
  clear h3 hb3
  go_wp2_with fail
  go_ret
  exact ⟨p3, rfl, unhide G3, unhide HB⟩
set_option maxHeartbeats 1000000 in
theorem tp_precede (a b : ByteArray) (n : Nat) (pa pb : Option Addr) (w : World) (ha : IsG w (acF a) pa) (hb0 : IsG w (acF b) pb) : Calls Tryz.prog 235 #[.pointer pa, .pointer pb, .int .i64 (n : Int)] w fun e w' => ∃ v, e = .returned (.pointer v) ∧ IsG w' (tplF 5 a b n) v ∧ Below w.heap.size w w' := by
  have HA := hide ha
  have HBB := hide hb0
  have HB := hide (Below.refl w.heap.size w)
  clear ha hb0
  go_enter Tryz.func235, Tryz.ntmps235
  go_wp2_with fail
  refine (sh_not (acF b) pb _).mono ?_
  rintro e w1 ⟨p1, rfl, h1, hb1⟩
  have G1 := hide (h1 (unhide HBB))
  have HA := hide ((unhide HA).later hb1)
  have HBB := hide ((unhide HBB).later hb1)
  have HB := hide ((unhide HB).trans (hb1.mono (unhide HB).size))
  clear h1 hb1
  go_wp2_with fail
  refine (sh_until (one 4 (acF b)) (acF a) p1 pa _).mono ?_
  rintro e w2 ⟨p2, rfl, h2, hb2⟩
  have G2 := hide (h2 (unhide G1) (unhide HA))
  have G1 := hide ((unhide G1).later hb2)
  have HA := hide ((unhide HA).later hb2)
  have HBB := hide ((unhide HBB).later hb2)
  have HB := hide ((unhide HB).trans (hb2.mono (unhide HB).size))
  clear h2 hb2
  go_wp2_with fail
  refine (sh_not (acF b) pb _).mono ?_
  rintro e w3 ⟨p3, rfl, h3, hb3⟩
  have G3 := hide (h3 (unhide HBB))
  have G1 := hide ((unhide G1).later hb3)
  have G2 := hide ((unhide G2).later hb3)
  have HA := hide ((unhide HA).later hb3)
  have HBB := hide ((unhide HBB).later hb3)
  have HB := hide ((unhide HB).trans (hb3.mono (unhide HB).size))
  clear h3 hb3
  go_wp2_with fail
  refine (sh_globally (one 4 (acF b)) p3 _).mono ?_
  rintro e w4 ⟨p4, rfl, h4, hb4⟩
  have G4 := hide (h4 (unhide G3))
  have G1 := hide ((unhide G1).later hb4)
  have G2 := hide ((unhide G2).later hb4)
  have G3 := hide ((unhide G3).later hb4)
  have HA := hide ((unhide HA).later hb4)
  have HBB := hide ((unhide HBB).later hb4)
  have HB := hide ((unhide HB).trans (hb4.mono (unhide HB).size))
  clear h4 hb4
  go_wp2_with fail
  refine (sh_or (two 9 (one 4 (acF b)) (acF a)) (one 8 (one 4 (acF b))) p2 p4 _).mono ?_
  rintro e w5 ⟨p5, rfl, h5, hb5⟩
  have G5 := hide (h5 (unhide G2) (unhide G4))
  have G1 := hide ((unhide G1).later hb5)
  have G2 := hide ((unhide G2).later hb5)
  have G3 := hide ((unhide G3).later hb5)
  have G4 := hide ((unhide G4).later hb5)
  have HA := hide ((unhide HA).later hb5)
  have HBB := hide ((unhide HBB).later hb5)
  have HB := hide ((unhide HB).trans (hb5.mono (unhide HB).size))
  clear h5 hb5
  go_wp2_with fail
  go_ret
  exact ⟨p5, rfl, unhide G5, unhide HB⟩
set_option maxHeartbeats 1000000 in
theorem tp_chain (a b : ByteArray) (n : Nat) (pa pb : Option Addr) (w : World) (ha : IsG w (acF a) pa) (hb0 : IsG w (acF b) pb) : Calls Tryz.prog 236 #[.pointer pa, .pointer pb, .int .i64 (n : Int)] w fun e w' => ∃ v, e = .returned (.pointer v) ∧ IsG w' (tplF 6 a b n) v ∧ Below w.heap.size w w' := by
  have HA := hide ha
  have HBB := hide hb0
  have HB := hide (Below.refl w.heap.size w)
  clear ha hb0
  go_enter Tryz.func236, Tryz.ntmps236
  go_wp2_with fail
  refine (sh_next (acF b) pb _).mono ?_
  rintro e w1 ⟨p1, rfl, h1, hb1⟩
  have G1 := hide (h1 (unhide HBB))
  have HA := hide ((unhide HA).later hb1)
  have HBB := hide ((unhide HBB).later hb1)
  have HB := hide ((unhide HB).trans (hb1.mono (unhide HB).size))
  clear h1 hb1
  go_wp2_with fail
  refine (sh_implies (acF a) (one 5 (acF b)) pa p1 _).mono ?_
  rintro e w2 ⟨p2, rfl, h2, hb2⟩
  have G2 := hide (h2 (unhide HA) (unhide G1))
  have G1 := hide ((unhide G1).later hb2)
  have HA := hide ((unhide HA).later hb2)
  have HBB := hide ((unhide HBB).later hb2)
  have HB := hide ((unhide HB).trans (hb2.mono (unhide HB).size))
  clear h2 hb2
  go_wp2_with fail
  refine (sh_globally (two 12 (acF a) (one 5 (acF b))) p2 _).mono ?_
  rintro e w3 ⟨p3, rfl, h3, hb3⟩
  have G3 := hide (h3 (unhide G2))
  have G1 := hide ((unhide G1).later hb3)
  have G2 := hide ((unhide G2).later hb3)
  have HA := hide ((unhide HA).later hb3)
  have HBB := hide ((unhide HBB).later hb3)
  have HB := hide ((unhide HB).trans (hb3.mono (unhide HB).size))
  clear h3 hb3
  go_wp2_with fail
  go_ret
  exact ⟨p3, rfl, unhide G3, unhide HB⟩
set_option maxHeartbeats 1000000 in
theorem tp_before (a b : ByteArray) (n : Nat) (pa pb : Option Addr) (w : World) (ha : IsG w (acF a) pa) (hb0 : IsG w (acF b) pb) : Calls Tryz.prog 237 #[.pointer pa, .pointer pb, .int .i64 (n : Int)] w fun e w' => ∃ v, e = .returned (.pointer v) ∧ IsG w' (tplF 7 a b n) v ∧ Below w.heap.size w w' := by
  have HA := hide ha
  have HBB := hide hb0
  have HB := hide (Below.refl w.heap.size w)
  clear ha hb0
  go_enter Tryz.func237, Tryz.ntmps237
  go_wp2_with fail
  refine (sh_not (acF b) pb _).mono ?_
  rintro e w1 ⟨p1, rfl, h1, hb1⟩
  have G1 := hide (h1 (unhide HBB))
  have HA := hide ((unhide HA).later hb1)
  have HBB := hide ((unhide HBB).later hb1)
  have HB := hide ((unhide HB).trans (hb1.mono (unhide HB).size))
  clear h1 hb1
  go_wp2_with fail
  refine (sh_next (acF b) pb _).mono ?_
  rintro e w2 ⟨p2, rfl, h2, hb2⟩
  have G2 := hide (h2 (unhide HBB))
  have G1 := hide ((unhide G1).later hb2)
  have HA := hide ((unhide HA).later hb2)
  have HBB := hide ((unhide HBB).later hb2)
  have HB := hide ((unhide HB).trans (hb2.mono (unhide HB).size))
  clear h2 hb2
  go_wp2_with fail
  refine (sh_implies (one 5 (acF b)) (acF a) p2 pa _).mono ?_
  rintro e w3 ⟨p3, rfl, h3, hb3⟩
  have G3 := hide (h3 (unhide G2) (unhide HA))
  have G1 := hide ((unhide G1).later hb3)
  have G2 := hide ((unhide G2).later hb3)
  have HA := hide ((unhide HA).later hb3)
  have HBB := hide ((unhide HBB).later hb3)
  have HB := hide ((unhide HB).trans (hb3.mono (unhide HB).size))
  clear h3 hb3
  go_wp2_with fail
  refine (sh_globally (two 12 (one 5 (acF b)) (acF a)) p3 _).mono ?_
  rintro e w4 ⟨p4, rfl, h4, hb4⟩
  have G4 := hide (h4 (unhide G3))
  have G1 := hide ((unhide G1).later hb4)
  have G2 := hide ((unhide G2).later hb4)
  have G3 := hide ((unhide G3).later hb4)
  have HA := hide ((unhide HA).later hb4)
  have HBB := hide ((unhide HBB).later hb4)
  have HB := hide ((unhide HB).trans (hb4.mono (unhide HB).size))
  clear h4 hb4
  go_wp2_with fail
  refine (sh_and (one 4 (acF b)) (one 8 (two 12 (one 5 (acF b)) (acF a))) p1 p4 _).mono ?_
  rintro e w5 ⟨p5, rfl, h5, hb5⟩
  have G5 := hide (h5 (unhide G1) (unhide G4))
  have G1 := hide ((unhide G1).later hb5)
  have G2 := hide ((unhide G2).later hb5)
  have G3 := hide ((unhide G3).later hb5)
  have G4 := hide ((unhide G4).later hb5)
  have HA := hide ((unhide HA).later hb5)
  have HBB := hide ((unhide HBB).later hb5)
  have HB := hide ((unhide HB).trans (hb5.mono (unhide HB).size))
  clear h5 hb5
  go_wp2_with fail
  go_ret
  exact ⟨p5, rfl, unhide G5, unhide HB⟩
set_option maxHeartbeats 1000000 in
theorem tp_with (a b : ByteArray) (n : Nat) (pa pb : Option Addr) (w : World) (ha : IsG w (acF a) pa) (hb0 : IsG w (acF b) pb) : Calls Tryz.prog 238 #[.pointer pa, .pointer pb, .int .i64 (n : Int)] w fun e w' => ∃ v, e = .returned (.pointer v) ∧ IsG w' (tplF 8 a b n) v ∧ Below w.heap.size w w' := by
  have HA := hide ha
  have HBB := hide hb0
  have HB := hide (Below.refl w.heap.size w)
  clear ha hb0
  go_enter Tryz.func238, Tryz.ntmps238
  go_wp2_with fail
  refine (sh_finally (acF a) pa _).mono ?_
  rintro e w1 ⟨p1, rfl, h1, hb1⟩
  have G1 := hide (h1 (unhide HA))
  have HA := hide ((unhide HA).later hb1)
  have HBB := hide ((unhide HBB).later hb1)
  have HB := hide ((unhide HB).trans (hb1.mono (unhide HB).size))
  clear h1 hb1
  go_wp2_with fail
  refine (sh_finally (acF b) pb _).mono ?_
  rintro e w2 ⟨p2, rfl, h2, hb2⟩
  have G2 := hide (h2 (unhide HBB))
  have G1 := hide ((unhide G1).later hb2)
  have HA := hide ((unhide HA).later hb2)
  have HBB := hide ((unhide HBB).later hb2)
  have HB := hide ((unhide HB).trans (hb2.mono (unhide HB).size))
  clear h2 hb2
  go_wp2_with fail
  refine (sh_implies (one 7 (acF a)) (one 7 (acF b)) p1 p2 _).mono ?_
  rintro e w3 ⟨p3, rfl, h3, hb3⟩
  have G3 := hide (h3 (unhide G1) (unhide G2))
  have G1 := hide ((unhide G1).later hb3)
  have G2 := hide ((unhide G2).later hb3)
  have HA := hide ((unhide HA).later hb3)
  have HBB := hide ((unhide HBB).later hb3)
  have HB := hide ((unhide HB).trans (hb3.mono (unhide HB).size))
  clear h3 hb3
  go_wp2_with fail
  go_ret
  exact ⟨p3, rfl, unhide G3, unhide HB⟩
set_option maxHeartbeats 1000000 in
theorem tp_apart (a b : ByteArray) (n : Nat) (pa pb : Option Addr) (w : World) (ha : IsG w (acF a) pa) (hb0 : IsG w (acF b) pb) : Calls Tryz.prog 239 #[.pointer pa, .pointer pb, .int .i64 (n : Int)] w fun e w' => ∃ v, e = .returned (.pointer v) ∧ IsG w' (tplF 9 a b n) v ∧ Below w.heap.size w w' := by
  have HA := hide ha
  have HBB := hide hb0
  have HB := hide (Below.refl w.heap.size w)
  clear ha hb0
  go_enter Tryz.func239, Tryz.ntmps239
  go_wp2_with fail
  refine (sh_finally (acF a) pa _).mono ?_
  rintro e w1 ⟨p1, rfl, h1, hb1⟩
  have G1 := hide (h1 (unhide HA))
  have HA := hide ((unhide HA).later hb1)
  have HBB := hide ((unhide HBB).later hb1)
  have HB := hide ((unhide HB).trans (hb1.mono (unhide HB).size))
  clear h1 hb1
  go_wp2_with fail
  refine (sh_finally (acF b) pb _).mono ?_
  rintro e w2 ⟨p2, rfl, h2, hb2⟩
  have G2 := hide (h2 (unhide HBB))
  have G1 := hide ((unhide G1).later hb2)
  have HA := hide ((unhide HA).later hb2)
  have HBB := hide ((unhide HBB).later hb2)
  have HB := hide ((unhide HB).trans (hb2.mono (unhide HB).size))
  clear h2 hb2
  go_wp2_with fail
  refine (sh_and (one 7 (acF a)) (one 7 (acF b)) p1 p2 _).mono ?_
  rintro e w3 ⟨p3, rfl, h3, hb3⟩
  have G3 := hide (h3 (unhide G1) (unhide G2))
  have G1 := hide ((unhide G1).later hb3)
  have G2 := hide ((unhide G2).later hb3)
  have HA := hide ((unhide HA).later hb3)
  have HBB := hide ((unhide HBB).later hb3)
  have HB := hide ((unhide HB).trans (hb3.mono (unhide HB).size))
  clear h3 hb3
  go_wp2_with fail
  refine (sh_not (two 10 (one 7 (acF a)) (one 7 (acF b))) p3 _).mono ?_
  rintro e w4 ⟨p4, rfl, h4, hb4⟩
  have G4 := hide (h4 (unhide G3))
  have G1 := hide ((unhide G1).later hb4)
  have G2 := hide ((unhide G2).later hb4)
  have G3 := hide ((unhide G3).later hb4)
  have HA := hide ((unhide HA).later hb4)
  have HBB := hide ((unhide HBB).later hb4)
  have HB := hide ((unhide HB).trans (hb4.mono (unhide HB).size))
  clear h4 hb4
  go_wp2_with fail
  go_ret
  exact ⟨p4, rfl, unhide G4, unhide HB⟩
set_option maxHeartbeats 1000000 in
theorem tp_never (a b : ByteArray) (n : Nat) (pa pb : Option Addr) (w : World) (ha : IsG w (acF a) pa) (hb0 : IsG w (acF b) pb) : Calls Tryz.prog 240 #[.pointer pa, .pointer pb, .int .i64 (n : Int)] w fun e w' => ∃ v, e = .returned (.pointer v) ∧ IsG w' (tplF 10 a b n) v ∧ Below w.heap.size w w' := by
  have HA := hide ha
  have HBB := hide hb0
  have HB := hide (Below.refl w.heap.size w)
  clear ha hb0
  go_enter Tryz.func240, Tryz.ntmps240
  go_wp2_with fail
  refine (sh_not (acF b) pb _).mono ?_
  rintro e w1 ⟨p1, rfl, h1, hb1⟩
  have G1 := hide (h1 (unhide HBB))
  have HA := hide ((unhide HA).later hb1)
  have HBB := hide ((unhide HBB).later hb1)
  have HB := hide ((unhide HB).trans (hb1.mono (unhide HB).size))
  clear h1 hb1
  go_wp2_with fail
  refine (sh_globally (one 4 (acF b)) p1 _).mono ?_
  rintro e w2 ⟨p2, rfl, h2, hb2⟩
  have G2 := hide (h2 (unhide G1))
  have G1 := hide ((unhide G1).later hb2)
  have HA := hide ((unhide HA).later hb2)
  have HBB := hide ((unhide HBB).later hb2)
  have HB := hide ((unhide HB).trans (hb2.mono (unhide HB).size))
  clear h2 hb2
  go_wp2_with fail
  refine (sh_weakNext (one 8 (one 4 (acF b))) p2 _).mono ?_
  rintro e w3 ⟨p3, rfl, h3, hb3⟩
  have G3 := hide (h3 (unhide G2))
  have G1 := hide ((unhide G1).later hb3)
  have G2 := hide ((unhide G2).later hb3)
  have HA := hide ((unhide HA).later hb3)
  have HBB := hide ((unhide HBB).later hb3)
  have HB := hide ((unhide HB).trans (hb3.mono (unhide HB).size))
  clear h3 hb3
  go_wp2_with fail
  refine (sh_implies (acF a) (one 6 (one 8 (one 4 (acF b)))) pa p3 _).mono ?_
  rintro e w4 ⟨p4, rfl, h4, hb4⟩
  have G4 := hide (h4 (unhide HA) (unhide G3))
  have G1 := hide ((unhide G1).later hb4)
  have G2 := hide ((unhide G2).later hb4)
  have G3 := hide ((unhide G3).later hb4)
  have HA := hide ((unhide HA).later hb4)
  have HBB := hide ((unhide HBB).later hb4)
  have HB := hide ((unhide HB).trans (hb4.mono (unhide HB).size))
  clear h4 hb4
  go_wp2_with fail
  refine (sh_globally (two 12 (acF a) (one 6 (one 8 (one 4 (acF b))))) p4 _).mono ?_
  rintro e w5 ⟨p5, rfl, h5, hb5⟩
  have G5 := hide (h5 (unhide G4))
  have G1 := hide ((unhide G1).later hb5)
  have G2 := hide ((unhide G2).later hb5)
  have G3 := hide ((unhide G3).later hb5)
  have G4 := hide ((unhide G4).later hb5)
  have HA := hide ((unhide HA).later hb5)
  have HBB := hide ((unhide HBB).later hb5)
  have HB := hide ((unhide HB).trans (hb5.mono (unhide HB).size))
  clear h5 hb5
  go_wp2_with fail
  go_ret
  exact ⟨p5, rfl, unhide G5, unhide HB⟩
set_option maxHeartbeats 1000000 in
theorem tp_notNext (a b : ByteArray) (n : Nat) (pa pb : Option Addr) (w : World) (ha : IsG w (acF a) pa) (hb0 : IsG w (acF b) pb) : Calls Tryz.prog 241 #[.pointer pa, .pointer pb, .int .i64 (n : Int)] w fun e w' => ∃ v, e = .returned (.pointer v) ∧ IsG w' (tplF 11 a b n) v ∧ Below w.heap.size w w' := by
  have HA := hide ha
  have HBB := hide hb0
  have HB := hide (Below.refl w.heap.size w)
  clear ha hb0
  go_enter Tryz.func241, Tryz.ntmps241
  go_wp2_with fail
  refine (sh_next (acF b) pb _).mono ?_
  rintro e w1 ⟨p1, rfl, h1, hb1⟩
  have G1 := hide (h1 (unhide HBB))
  have HA := hide ((unhide HA).later hb1)
  have HBB := hide ((unhide HBB).later hb1)
  have HB := hide ((unhide HB).trans (hb1.mono (unhide HB).size))
  clear h1 hb1
  go_wp2_with fail
  refine (sh_not (one 5 (acF b)) p1 _).mono ?_
  rintro e w2 ⟨p2, rfl, h2, hb2⟩
  have G2 := hide (h2 (unhide G1))
  have G1 := hide ((unhide G1).later hb2)
  have HA := hide ((unhide HA).later hb2)
  have HBB := hide ((unhide HBB).later hb2)
  have HB := hide ((unhide HB).trans (hb2.mono (unhide HB).size))
  clear h2 hb2
  go_wp2_with fail
  refine (sh_implies (acF a) (one 4 (one 5 (acF b))) pa p2 _).mono ?_
  rintro e w3 ⟨p3, rfl, h3, hb3⟩
  have G3 := hide (h3 (unhide HA) (unhide G2))
  have G1 := hide ((unhide G1).later hb3)
  have G2 := hide ((unhide G2).later hb3)
  have HA := hide ((unhide HA).later hb3)
  have HBB := hide ((unhide HBB).later hb3)
  have HB := hide ((unhide HB).trans (hb3.mono (unhide HB).size))
  clear h3 hb3
  go_wp2_with fail
  refine (sh_globally (two 12 (acF a) (one 4 (one 5 (acF b)))) p3 _).mono ?_
  rintro e w4 ⟨p4, rfl, h4, hb4⟩
  have G4 := hide (h4 (unhide G3))
  have G1 := hide ((unhide G1).later hb4)
  have G2 := hide ((unhide G2).later hb4)
  have G3 := hide ((unhide G3).later hb4)
  have HA := hide ((unhide HA).later hb4)
  have HBB := hide ((unhide HBB).later hb4)
  have HB := hide ((unhide HB).trans (hb4.mono (unhide HB).size))
  clear h4 hb4
  go_wp2_with fail
  go_ret
  exact ⟨p4, rfl, unhide G4, unhide HB⟩
theorem tplFn_any (k : Nat) (hk : k ≤ 11) (a b : ByteArray) (n : Nat) (pa pb : Option Addr) (w : World) (ha : IsG w (acF a) pa) (hb : 4 ≤ k → IsG w (acF b) pb) (hn : n ≤ 9) :
    Calls Tryz.prog (fnNo k) #[.pointer pa, .pointer pb, .int .i64 (n : Int)] w fun e w' => ∃ v, e = .returned (.pointer v) ∧ IsG w' (tplF k a b n) v ∧ Below w.heap.size w w' := by
  rcases to12 (show k < 12 by omega) with rfl | rfl | rfl | rfl | rfl | rfl | rfl | rfl | rfl | rfl | rfl | rfl
  · exact tp_init a b n pa pb w ha
  · exact tp_last a b n pa pb w ha
  · exact tp_some a b n pa pb w ha hn
  · exact tp_few a b n pa pb w ha hn
  · exact tp_response a b n pa pb w ha (hb (by decide))
  · exact tp_precede a b n pa pb w ha (hb (by decide))
  · exact tp_chain a b n pa pb w ha (hb (by decide))
  · exact tp_before a b n pa pb w ha (hb (by decide))
  · exact tp_with a b n pa pb w ha (hb (by decide))
  · exact tp_apart a b n pa pb w ha (hb (by decide))
  · exact tp_never a b n pa pb w ha (hb (by decide))
  · exact tp_notNext a b n pa pb w ha (hb (by decide))
end Go.Proofs.YtidakhhekofkoaaGreatDoor
