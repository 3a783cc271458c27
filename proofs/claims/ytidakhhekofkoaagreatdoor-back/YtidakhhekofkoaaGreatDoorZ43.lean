/- The statements' own alike. -/
import Derived.Test.YtidakhhekofkoaaGreatDoorZ42
set_option linter.unusedSimpArgs false
set_option linter.unusedVariables false
namespace Go.Proofs.YtidakhhekofkoaaGreatDoor
open Go.RowKit Go.Deep
theorem Tz.ext' {z y : Tz} (h1 : z.acts = y.acts) (h2 : z.fl = y.fl) (h3 : z.nx = y.nx) : z = y := by
 cases z; cases y; simp_all
structure TwB (w W : World) (T U : Array Value) : Prop where
 b0 : W.heap[w.heap.size]? = some (.cells T 36 (0, 0))
 b1 : W.heap[w.heap.size + 1]? = some (.cells U 36 (0, 0))
 bel : Below w.heap.size w W
theorem TwB.later {w W W' : World} {T U : Array Value} (h : TwB w W T U) (hb : Below W.heap.size W W') : TwB w W' T U :=
 ⟨(hb.block _ (lt_of_blk h.b0)).trans h.b0, (hb.block _ (lt_of_blk h.b1)).trans h.b1, h.bel.trans (hb.mono h.bel.size)⟩
set_option maxHeartbeats 8000000 in
set_option maxRecDepth 100000 in
theorem kalike_any (w : World) (ao fo no : Option Addr) (ac fc nc na nf nn : Nat) (bo go ho : Option Addr) (bc gc hc nb ng nh : Nat) (z y : Tz) (hz : TbI w ao fo no ac z) (hy : TbI w bo go ho bc y)
  (e1 : na = z.acts.length) (e2 : nf = z.fl.length) (e3 : nn = z.nx.length) (e4 : nb = y.acts.length) (e5 : ng = y.fl.length) (e6 : nh = y.nx.length) :
  Calls Tryz.prog 25 #[.agg #[.slice ao na ac, .slice fo nf fc, .slice no nn nc], .agg #[.slice bo nb bc, .slice go ng gc, .slice ho nh hc]] w fun e w' => TellsB (z = y) e ∧ Below w.heap.size w w' := by
 have h0 : TwB w ((w.alloc (.cells #[.slice ao na ac, .slice fo nf fc, .slice no nn nc] 36)).alloc (.cells #[.slice bo nb bc, .slice go ng gc, .slice ho nh hc] 36)) #[.slice ao na ac, .slice fo nf fc, .slice no nn nc] #[.slice bo nb bc, .slice go ng gc, .slice ho nh hc] :=
  ⟨(Below.heap_alloc _ _ _ (by simp)).trans (blk_alloc _ _), blk_alloc' _ _ _ (by simp), ((Below.refl _ _).alloc (Nat.le_refl _) _).alloc (by simp) _⟩
 have HSM : Hid (Calls Tryz.prog 23 #[.slice ao na ac, .slice bo nb bc] ((w.alloc (.cells #[.slice ao na ac, .slice fo nf fc, .slice no nn nc] 36)).alloc (.cells #[.slice bo nb bc, .slice go ng gc, .slice ho nh hc] 36)) fun e w' => TellsB (z.acts = y.acts) e ∧ Below ((w.alloc (.cells #[.slice ao na ac, .slice fo nf fc, .slice no nn nc] 36)).alloc (.cells #[.slice bo nb bc, .slice go ng gc, .slice ho nh hc] 36)).heap.size ((w.alloc (.cells #[.slice ao na ac, .slice fo nf fc, .slice no nn nc] 36)).alloc (.cells #[.slice bo nb bc, .slice go ng gc, .slice ho nh hc] 36)) w') := by
  have := same_any _ ao bo ac bc z.acts y.acts (hz.acts.later h0.bel) (hy.acts.later h0.bel) hz.al hy.al
  rw [← e1, ← e4] at this
  exact this
 have HZ := hide hz
 have HY := hide hy
 have H0 := hide h0
 have E2 := hide e2
 have E3 := hide e3
 have E5 := hide e5
 have E6 := hide e6
 have k2 : nf ≤ 10000000000000 := by have := hz.fll; omega
 have k3 : nn ≤ 10000000000000 := by have := hz.nxl; omega
 have k5 : ng ≤ 10000000000000 := by have := hy.fll; omega
 have k6 : nh ≤ 10000000000000 := by have := hy.nxl; omega
 clear hz hy h0 e1 e2 e3 e4 e5 e6
 go_enter Tryz.func25, Tryz.ntmps25
 go_wp2_with fail
 refine (unhide HSM).mono ?_
 generalize ((w.alloc (.cells #[.slice ao na ac, .slice fo nf fc, .slice no nn nc] 36)).alloc (.cells #[.slice bo nb bc, .slice go ng gc, .slice ho nh hc] 36)) = W0 at *
 rintro e w1 ⟨⟨b, rfl, hb⟩, hb1⟩
 have HT := hide ((unhide H0).later hb1)
 clear hb1 HSM H0
 have c00 : w1.cell? ⟨w.heap.size, 0, none⟩ = some (.slice ao na ac) := cell_of_blk (unhide HT).b0 0
 have c01 : w1.cell? ⟨w.heap.size, 1, none⟩ = some (.slice fo nf fc) := cell_of_blk (unhide HT).b0 1
 have c02 : w1.cell? ⟨w.heap.size, 2, none⟩ = some (.slice no nn nc) := cell_of_blk (unhide HT).b0 2
 have c11 : w1.cell? ⟨w.heap.size + 1, 1, none⟩ = some (.slice go ng gc) := cell_of_blk (unhide HT).b1 1
 have c12 : w1.cell? ⟨w.heap.size + 1, 2, none⟩ = some (.slice ho nh hc) := cell_of_blk (unhide HT).b1 2
 have l0 := lt_of_blk (unhide HT).b0
 have l1 := lt_of_blk (unhide HT).b1
 cases b with
 | false =>
  have HN : Hid (¬ z = y) := fun e => absurd (hb.2 (by rw [e])) (by decide)
  clear hb
  go_wp2_with fail
  go_ret
  exact ⟨TellsB.no (unhide HN), (unhide HT).bel⟩
 | true =>
  have HA := hide (hb.1 rfl)
  clear hb
  by_cases hf : nf = ng
  ·subst hf
   by_cases hn : nn = nh
   ·subst hn
    go_wp2_with fail
    clear c00 c01 c02 c11 c12 l0 l1
    go_loopw [6] (fun x wr => ∃ k : Nat, k ≤ nf ∧ x = .int .i64 k ∧ Hid (TwB w wr #[.slice ao na ac, .slice fo nf fc, .slice no nn nc] #[.slice bo nb bc, .slice go nf gc, .slice ho nn hc]) ∧ Hid (z.fl.take k = y.fl.take k)) (fun x _ => nf - (intOf x).toNat)
    case atStart => exact ⟨0, Nat.zero_le _, rfl, HT, rfl⟩
    case round =>
     obtain ⟨k, hk, rfl, HT2, HK⟩ := hrel
     have c01 : wr.cell? ⟨w.heap.size, 1, none⟩ = some (.slice fo nf fc) := cell_of_blk (unhide HT2).b0 1
     have c02 : wr.cell? ⟨w.heap.size, 2, none⟩ = some (.slice no nn nc) := cell_of_blk (unhide HT2).b0 2
     have c11 : wr.cell? ⟨w.heap.size + 1, 1, none⟩ = some (.slice go nf gc) := cell_of_blk (unhide HT2).b1 1
     have l0 := lt_of_blk (unhide HT2).b0
     have l1 := lt_of_blk (unhide HT2).b1
     by_cases hlt : k < nf
     ·have hkn : (k : Int) < (nf : Int) := by omega
      have hkl : k < z.fl.length := by have := unhide E2; omega
      have hkm : k < y.fl.length := by have := unhide E5; omega
      obtain ⟨b, off, rfl, hb, hcc⟩ := ((unhide HZ).later (unhide HT2).bel).fl k z.fl[k] (List.getElem?_eq_getElem hkl)
      obtain ⟨b2, off2, rfl, hb2, hcc2⟩ := ((unhide HY).later (unhide HT2).bel).fl k y.fl[k] (List.getElem?_eq_getElem hkm)
      have HX := hide (List.getElem?_eq_getElem hkl)
      have HYY := hide (List.getElem?_eq_getElem hkm)
      generalize z.fl[k] = x at *
      generalize y.fl[k] = v at *
      by_cases hxv : x = v
      ·subst hxv
       have HK2 : Hid (z.fl.take (k + 1) = y.fl.take (k + 1)) := by
        show _ = _
        rw [List.take_add_one, List.take_add_one, unhide HX, unhide HYY, unhide HK]
       go_wp2_with fail
       go_quiet (fail)
       go_wp2_with fail
       go_roundw
       case rel => exact ⟨k + 1, by omega, by go_num, (unhide HT2).later (bdn _ _), HK2⟩
       case measure => simp [intOf]; omega
      ·have HNE : Hid (¬ z = y) := fun e => by
        have h1 := unhide HX
        rw [e, unhide HYY] at h1
        exact hxv (Option.some.inj h1).symm
       go_wp2_with fail
       go_quiet (fail)
       go_wp2_with fail
       go_ret
       exact ⟨TellsB.no (unhide HNE), ((unhide HT2).later (bdn _ _)).bel⟩
     ·have hkn : ¬ (k : Int) < (nf : Int) := by omega
      have HFE : Hid (z.fl = y.fl) := by
       have := unhide HK
       rw [List.take_of_length_le (by have := unhide E2; omega), List.take_of_length_le (by have := unhide E5; omega)] at this
       exact this
      go_wp2_with fail
      clear c01 c02 c11 l0 l1 HK HT
      rename World => wR
      go_loopw [7] (fun x wr => ∃ k : Nat, k ≤ nn ∧ x = .int .i64 k ∧ Hid (TwB w wr #[.slice ao na ac, .slice fo nf fc, .slice no nn nc] #[.slice bo nb bc, .slice go nf gc, .slice ho nn hc]) ∧ Hid (z.nx.take k = y.nx.take k)) (fun x _ => nn - (intOf x).toNat)
      case atStart => exact ⟨0, Nat.zero_le _, rfl, HT2, rfl⟩
      case round =>
       obtain ⟨k, hk, rfl, HT3, HK⟩ := hrel
       have c02 : wr.cell? ⟨w.heap.size, 2, none⟩ = some (.slice no nn nc) := cell_of_blk (unhide HT3).b0 2
       have c12 : wr.cell? ⟨w.heap.size + 1, 2, none⟩ = some (.slice ho nn hc) := cell_of_blk (unhide HT3).b1 2
       have l0 := lt_of_blk (unhide HT3).b0
       have l1 := lt_of_blk (unhide HT3).b1
       by_cases hlt : k < nn
       ·have hkn : (k : Int) < (nn : Int) := by omega
        have hkl : k < z.nx.length := by have := unhide E3; omega
        have hkm : k < y.nx.length := by have := unhide E6; omega
        have HRZ := hide ((unhide HZ).nx k z.nx[k] (List.getElem?_eq_getElem hkl))
        have HRY := hide ((unhide HY).nx k y.nx[k] (List.getElem?_eq_getElem hkm))
        have HX := hide (List.getElem?_eq_getElem hkl)
        have HYY := hide (List.getElem?_eq_getElem hkm)
        have hr13 := (unhide HZ).rl _ (List.getElem_mem hkl)
        have hq13 := (unhide HY).rl _ (List.getElem_mem hkm)
        generalize z.nx[k] = r at *
        generalize y.nx[k] = q at *
        obtain ⟨b, off, ro, rc, hno, hb0, hcc0, hr0⟩ := unhide HRZ
        obtain ⟨b2, off2, qo, qc, hho, hb20, hcc20, hq0⟩ := unhide HRY
        have hcc := (bcell3 (unhide HT3).bel _ _ hb0).trans hcc0
        have hcc2 := (bcell3 (unhide HT3).bel _ _ hb20).trans hcc20
        have hb : b < wr.heap.size := Nat.lt_of_lt_of_le hb0 (unhide HT3).bel.size
        have hb2 : b2 < wr.heap.size := Nat.lt_of_lt_of_le hb20 (unhide HT3).bel.size
        subst hno
        subst hho
        have HR := hide hr0
        have HQ := hide hq0
        have HC0 := hide hcc0
        have HC20 := hide hcc20
        clear hr0 hq0 hcc0 hcc20 HRZ HRY
        generalize hrl : r.length = rl at *
        generalize hql : q.length = ql at *
        have HRL := hide hrl
        have HQL := hide hql
        clear hrl hql
        by_cases hrq : rl = ql
        ·subst hrq
         go_wp2_with fail
         go_quiet (fail)
         go_wp2_with fail
         clear c02 c12 l0 l1 hcc hcc2 hb hb2
         rename World => wS
         go_loopw [8] (fun x wr => ∃ j : Nat, j ≤ rl ∧ x = .int .i64 j ∧ Hid (TwB w wr #[.slice ao na ac, .slice fo nf fc, .slice (some ⟨b, off, none⟩) nn nc] #[.slice bo nb bc, .slice go nf gc, .slice (some ⟨b2, off2, none⟩) nn hc]) ∧ Hid (r.take j = q.take j)) (fun x _ => rl - (intOf x).toNat)
         case atStart => exact ⟨0, Nat.zero_le _, rfl, (unhide HT3).later (bdn _ _), rfl⟩
         case round =>
          obtain ⟨j, hj, rfl, HT5, HJ⟩ := hrel
          have c02 : wr.cell? ⟨w.heap.size, 2, none⟩ = some (.slice (some ⟨b, off, none⟩) nn nc) := cell_of_blk (unhide HT5).b0 2
          have c12 : wr.cell? ⟨w.heap.size + 1, 2, none⟩ = some (.slice (some ⟨b2, off2, none⟩) nn hc) := cell_of_blk (unhide HT5).b1 2
          have l0 := lt_of_blk (unhide HT5).b0
          have l1 := lt_of_blk (unhide HT5).b1
          have hcc := (bcell3 (unhide HT5).bel _ _ hb0).trans (unhide HC0)
          have hcc2 := (bcell3 (unhide HT5).bel _ _ hb20).trans (unhide HC20)
          have hb : b < wr.heap.size := Nat.lt_of_lt_of_le hb0 (unhide HT5).bel.size
          have hb2 : b2 < wr.heap.size := Nat.lt_of_lt_of_le hb20 (unhide HT5).bel.size
          by_cases hjl : j < rl
          ·have hjn : (j : Int) < (rl : Int) := by omega
           have hjr : j < r.length := by rw [unhide HRL]; exact hjl
           have hjq : j < q.length := by rw [unhide HQL]; exact hjl
           obtain ⟨d, doff, hdo, hd, hdc⟩ := (unhide HR).later (unhide HT5).bel j r[j] (List.getElem?_eq_getElem hjr)
           obtain ⟨d2, doff2, hdo2, hd2, hdc2⟩ := (unhide HQ).later (unhide HT5).bel j q[j] (List.getElem?_eq_getElem hjq)
           have HRJ := hide (List.getElem?_eq_getElem hjr)
           have HQJ := hide (List.getElem?_eq_getElem hjq)
           subst hdo
           subst hdo2
           generalize r[j] = x at *
           generalize q[j] = v at *
           by_cases hxv : x = v
           ·subst hxv
            have HJ2 : Hid (r.take (j + 1) = q.take (j + 1)) := by
             show _ = _
             rw [List.take_add_one, List.take_add_one, unhide HRJ, unhide HQJ, unhide HJ]
            go_wp2_with fail
            go_quiet (fail)
            go_wp2_with fail
            go_roundw
            case rel => exact ⟨j + 1, by omega, by go_num, (unhide HT5).later (bdn _ _), HJ2⟩
            case measure => simp [intOf]; omega
           ·have HNE : Hid (¬ z = y) := fun e => by
             have h1 := unhide HX
             rw [e, unhide HYY] at h1
             have h2 := Option.some.inj h1
             have h3 := unhide HRJ
             rw [← h2, unhide HQJ] at h3
             exact hxv (Option.some.inj h3).symm
            go_wp2_with fail
            go_quiet (fail)
            go_wp2_with fail
            go_ret
            exact ⟨TellsB.no (unhide HNE), ((unhide HT5).later (bdn _ _)).bel⟩
          ·have hjn : ¬ (j : Int) < (rl : Int) := by omega
           have HK2 : Hid (z.nx.take (k + 1) = y.nx.take (k + 1)) := by
            show _ = _
            have h1 := unhide HJ
            rw [List.take_of_length_le (by rw [unhide HRL]; omega), List.take_of_length_le (by rw [unhide HQL]; omega)] at h1
            rw [List.take_add_one, List.take_add_one, unhide HX, unhide HYY, unhide HK, h1]
           go_wp2_with fail
           go_roundw
           case rel => exact ⟨k + 1, by omega, by go_num, HT5, HK2⟩
           case measure => simp [intOf]; omega
        ·have hi : ¬ (rl : Int) = (ql : Int) := by omega
         have HNE : Hid (¬ z = y) := fun e => by
          have h1 := unhide HX
          rw [e, unhide HYY] at h1
          have h2 := Option.some.inj h1
          exact hrq (by rw [← unhide HRL, ← unhide HQL, h2])
         clear hrq
         go_wp2_with fail
         go_quiet (fail)
         go_wp2_with fail
         go_ret
         exact ⟨TellsB.no (unhide HNE), ((unhide HT3).later (bdn _ _)).bel⟩
       ·have hkn : ¬ (k : Int) < (nn : Int) := by omega
        have HNX : Hid (z.nx = y.nx) := by
         have := unhide HK
         rw [List.take_of_length_le (by have := unhide E3; omega), List.take_of_length_le (by have := unhide E6; omega)] at this
         exact this
        go_wp2_with fail
        go_ret
        exact ⟨TellsB.yes (Tz.ext' (unhide HA) (unhide HFE) (unhide HNX)), (unhide HT3).bel⟩
   ·have hi : ¬ (nn : Int) = (nh : Int) := by omega
    have HN : Hid (¬ z = y) := fun e => hn (by rw [unhide E3, unhide E6, e])
    clear hn
    go_wp2_with fail
    go_ret
    exact ⟨TellsB.no (unhide HN), (unhide HT).bel⟩
  ·have hi : ¬ (nf : Int) = (ng : Int) := by omega
   have HN : Hid (¬ z = y) := fun e => hf (by rw [unhide E2, unhide E5, e])
   clear hf
   go_wp2_with fail
   go_ret
   exact ⟨TellsB.no (unhide HN), (unhide HT).bel⟩
end Go.Proofs.YtidakhhekofkoaaGreatDoor
