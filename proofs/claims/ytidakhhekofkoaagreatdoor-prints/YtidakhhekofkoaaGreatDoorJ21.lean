/- The reference's Print. -/
import Derived.Test.YtidakhhekofkoaaGreatDoorJ20
import Derived.Test.YtidakhhekofkoaaGreatDoorJ08
set_option linter.unusedSimpArgs false
namespace Go.Proofs.YtidakhhekofkoaaGreatDoor
open Go.RowKit Go.Deep
def printM (s : ByteArray) : ByteArray × Nat × Nat :=
  match readM s with
  | .error x => (⟨#[]⟩, x.1, x.2)
  | .ok (al, rs) => (txtM al rs, 0, 0)
theorem readM_err {s : ByteArray} {x : Nat × Nat} (h : readM s = .error x) : x.2 ≠ 0 := by
  unfold readM at h
  split at h
  · cases h; exact (by decide : (1 : Nat) ≠ 0)
  · cases hm : modelRead (lexR s (s.size + 1) 0) with
    | error q => rw [hm] at h; cases h; exact (by decide : (2 : Nat) ≠ 0)
    | ok m =>
      obtain ⟨al, rs⟩ := m
      rw [hm, rdOf] at h
      split at h
      · rename_i h0; cases h; exact h0
      · split at h
        · cases h; exact (by decide : (4 : Nat) ≠ 0)
        · cases h
structure MGood (al : List Tk) (rs : List Rl) : Prop where
  acts : ∀ t ∈ al, TkS t ∧ t.k = 2
  ne : al ≠ []
  alen : al.length ≤ 401
  rules : ∀ r ∈ rs, RlGood TkS 401 r
  rlen : rs.length ≤ 401
  nof : faults al rs = []
  nodes : nodesL rs ≤ 16
theorem readM_good {s : ByteArray} {al : List Tk} {rs : List Rl} (h : readM s = .ok (al, rs)) : MGood al rs := by
  unfold readM at h
  split at h
  · cases h
  · rename_i hs
    cases hm : modelRead (lexR s (s.size + 1) 0) with
    | error q => rw [hm] at h; cases h
    | ok m =>
      obtain ⟨al', rs'⟩ := m
      rw [hm, rdOf] at h
      split at h
      · cases h
      · rename_i h0
        split at h
        · cases h
        · rename_i h16
          cases h
          have hll : (lexR s (s.size + 1) 0).length ≤ 401 := by have := lexR_len s (s.size + 1) 0 (Nat.zero_le _); omega
          have hg := modelRead_good TkS _ _ _ hm (fun t ht => ⟨lexR_ok s _ _ t ht, by have := lexR_small s _ 0 (Nat.zero_le _) t ht; omega⟩)
          exact ⟨hg.1, hg.2.1, by have := hg.2.2.1; omega, fun r hr => (hg.2.2.2.1 r hr).mono hll, by have := hg.2.2.2.2; omega, meets_zero (faults_errs _ _) (by simpa using h0), by omega⟩
theorem symB_size (k : Nat) : (symB k).size ≤ 2 := by
  unfold symB; repeat' split
  all_goals decide
theorem txtF_size {Q : Tk → Prop} {m : Nat} (hQ : ∀ t, Q t → t.s.size ≤ m) : ∀ {f : Fm}, Fg Q f → (txtF f).size ≤ (m + 7) * sizeF f
  | .nil, h => False.elim h
  | .node _ _ a l r, h => by
    rw [txtF]
    have hs := symB_size a.1
    rcases h with ⟨hk, ⟨t, ht, _, h1, _⟩, rfl, rfl⟩ | ⟨hk, rfl, rfl⟩ | ⟨hk, hfl, rfl⟩ | ⟨hk, hfl, hfr⟩
    · rw [if_pos hk, ← h1]; have := hQ t ht; show t.s.size ≤ (m + 7) * 1; omega
    · rw [if_neg (by omega)]
      repeat' split
      all_goals first | (show 4 ≤ (m + 7) * 1; omega) | (show 5 ≤ (m + 7) * 1; omega) | (show 3 ≤ (m + 7) * 1; omega) | omega
    · rw [if_neg (by omega), if_neg (by omega), if_neg (by omega), if_neg (by omega), if_pos (by omega)]
      have := txtF_size hQ hfl
      simp only [ByteArray.size_append]
      show _ + 1 + _ ≤ (m + 7) * (1 + sizeF l + 0)
      have e : (m + 7) * (1 + sizeF l + 0) = (m + 7) + (m + 7) * sizeF l := by show (m + 7) * (1 + sizeF l) = _; rw [Nat.mul_add, Nat.mul_one]
      rw [e]; omega
    · rw [if_neg (by omega), if_neg (by omega), if_neg (by omega), if_neg (by omega), if_neg (by omega)]
      have h1 := txtF_size hQ hfl
      have h2 := txtF_size hQ hfr
      simp only [ByteArray.size_append]
      show 1 + _ + 1 + _ + 1 + _ + 1 ≤ (m + 7) * (1 + sizeF l + sizeF r)
      rw [Nat.mul_add, Nat.mul_add, Nat.mul_one]; omega
theorem txtActs_at {al : List Tk} {out : ByteArray} {i : Nat} {t : Tk} {r : List Tk} (h : al.drop i = t :: r) : txtActs out i (al.drop i) = txtActs ((if 0 < i then out ++ ⟨#[44, 32]⟩ else out) ++ t.s) (i + 1) (al.drop (i + 1)) := by
  rw [h, txtActs, dropTl h]
theorem txtRules_at {rs : List Rl} {out : ByteArray} {i : Nat} {t : Rl} {r : List Rl} (h : rs.drop i = t :: r) : txtRules out (rs.drop i) = txtRules (txtRule out t) (rs.drop (i + 1)) := by
  rw [h, txtRules, dropTl h]
set_option maxHeartbeats 4000000 in
set_option maxRecDepth 100000 in
theorem Print_any (s : ByteArray) (w : World) : Calls Tryz.prog 92 #[.string s] w fun e w' => e = .returned (.tuple #[.string (printM s).1, .int .i64 (printM s).2.1, .int .i64 (printM s).2.2]) ∧ Below w.heap.size w w' := by
  have HRD := hide (fun W => Read_any s W)
  have HPM : Hid (printM s = match readM s with | .error x => (⟨#[]⟩, x.1, x.2) | .ok (al, rs) => (txtM al rs, 0, 0)) := rfl
  go_enter Tryz.func92, Tryz.ntmps92
  go_wp2_with (go_at_call 137; refine ((unhide HRD) _).mono ?_)
  rintro e w1 ⟨hb1, hx⟩
  cases hm : readM s with
  | error x =>
    rw [hm] at hx
    have hx' : e = .returned (.tuple #[.agg #[.slice none 0 0, .slice none 0 0], .int .i64 x.1, .int .i64 x.2]) := hx
    subst hx'
    clear hx
    have hp : printM s = (⟨#[]⟩, x.1, x.2) := by rw [unhide HPM, hm]
    have HP := hide hp
    have hne := readM_err hm
    have hne' : ¬ ((x.2 : Nat) : Int) = 0 := by omega
    have HB1 := hide hb1
    clear hp hm HPM HRD hb1 hne
    go_wp2_with fail
    refine bodyPost_ret (v := .tuple #[.string ⟨#[]⟩, .int .i64 x.1, .int .i64 x.2]) (by simp [results, Tryz.results92, go_sem]) rfl ?_
    rw [unhide HP]
    exact ⟨rfl, (unhide HB1).alloc (unhide HB1).size _⟩
  | ok m =>
    obtain ⟨al, rs⟩ := m
    rw [hm] at hx
    obtain ⟨o1, n1, k1, o2, n2, k2, rfl, ha, hr⟩ := hx
    have HP : Hid (printM s = (txtM al rs, 0, 0)) := by show _ = _; rw [unhide HPM, hm]
    have hg := readM_good hm
    have HG := hide hg
    have hal := hg.alen
    have hrl := hg.rlen
    have hn1 := ha.len
    have hn2 := hr.len
    subst hn1 hn2
    have hbl : Below w1.heap.size w1 (w1.alloc (.cells #[.slice o1 al.length k1, .slice o2 rs.length k2] 228)) := (Below.refl _ _).alloc (Nat.le_refl _) _
    have hmb : (w1.alloc (.cells #[.slice o1 al.length k1, .slice o2 rs.length k2] 228)).heap[w1.heap.size]? = some (.cells #[.slice o1 al.length k1, .slice o2 rs.length k2] 228 (0, 0)) := blk_alloc _ _
    have HMB := hide hmb
    have HA := hide ((KT.below hbl).acts ha)
    have HR := hide (hr.later hbl)
    have HB := hide (hb1.alloc hb1.size (.cells #[.slice o1 al.length k1, .slice o2 rs.length k2] 228))
    clear ha hr hm HPM HRD hb1 hg hbl hmb
    go_wp2_with fail
    generalize w1.alloc (.cells #[.slice o1 al.length k1, .slice o2 rs.length k2] 228) = W at *
    have hzW : w1.heap.size < W.heap.size := lt_of_blk (unhide HMB)
    obtain ⟨g, rfl⟩ : ∃ g, o1 = some ⟨g, 0, none⟩ := by
      obtain ⟨t, l, ht⟩ := drop_ne (L := al) (i := 0) (by have := (unhide HG).ne; exact List.length_pos_iff.2 this)
      obtain ⟨g, hgo, _⟩ := (unhide HA).tok ht
      exact ⟨g, hgo⟩
    have mc := fun o => cell_of_blk (unhide HMB) o
    go_loopw [8, 9] (fun vo vi wr => ∃ (i : Nat) (out : ByteArray), i ≤ al.length ∧ vi = .int .i64 i ∧ vo = .string out ∧ W = wr ∧ out.size ≤ 10 + i * 402 ∧ Hid (txtActs ⟨#[97, 99, 116, 115, 32]⟩ 0 al = txtActs out i (al.drop i))) (fun _ v _ => al.length - (intOf v).toNat)
    case atStart => exact ⟨0, _, Nat.zero_le _, rfl, rfl, rfl, by decide, rfl⟩
    case round =>
      obtain ⟨i, out, hi, rfl, rfl, rfl, hsz, HO⟩ := hrel
      by_cases hlt : i < al.length
      · obtain ⟨t, l, ht⟩ := drop_ne hlt
        obtain ⟨g', hgo, hgW, -, t0, t1, t2⟩ := (unhide HA).tok ht
        cases hgo
        have htz : t.s.size ≤ 400 := ((unhide HG).acts t (drop_mem ht)).1.2
        have HTA := hide (txtActs_at (out := out) ht)
        clear ht
        by_cases h0 : 0 < i
        · have h0' : (0 : Int) < (i : Int) := by omega
          go_wp2_with fail
          go_roundw
          case rel => exact ⟨i + 1, _, by omega, by go_num, rfl, by first | rfl | trivial, by simp only [ByteArray.size_append]; show out.size + 2 + t.s.size ≤ _; omega, by show _ = _; rw [unhide HO, unhide HTA, if_pos h0]⟩
          case measure => simp [intOf]; omega
        · have h0' : ¬ (0 : Int) < (i : Int) := by omega
          go_wp2_with fail
          go_roundw
          case rel => exact ⟨i + 1, _, by omega, by go_num, rfl, by first | rfl | trivial, by simp only [ByteArray.size_append]; omega, by show _ = _; rw [unhide HO, unhide HTA, if_neg h0]⟩
          case measure => simp [intOf]; omega
      · have hie : i = al.length := by omega
        subst hie
        have HO2 : Hid (txtM al rs = txtRules (out ++ ⟨#[59, 10]⟩) (rs.drop 0)) := by
          show _ = _
          rw [txtM, unhide HO, List.drop_eq_nil_of_le (Nat.le_refl _)]; rfl
        have hs2 : (out ++ ⟨#[59, 10]⟩ : ByteArray).size ≤ 200000 := by simp only [ByteArray.size_append]; show out.size + 2 ≤ _; omega
        have hs3 : out.size ≤ 200000 := by omega
        clear HO hsz
        go_wp2_with fail
        generalize (out ++ ⟨#[59, 10]⟩ : ByteArray) = out2 at *
        clear mc
        go_loopw [8, 10] (fun vo vi wr => ∃ (j : Nat) (out : ByteArray), j ≤ rs.length ∧ vi = .int .i64 j ∧ vo = .string out ∧ Below W.heap.size W wr ∧ out.size ≤ 200000 + j * 200000 ∧ Hid (txtM al rs = txtRules out (rs.drop j))) (fun _ v _ => rs.length - (intOf v).toNat)
        case atStart => exact ⟨0, _, Nat.zero_le _, rfl, rfl, Below.refl _ _, by omega, HO2⟩
        case round =>
          clear HO2 hs2 hs3 hlt hi
          obtain ⟨j, out3, hj, rfl, rfl, hbel, hsz3, HO⟩ := hrel
          have HBEL := hide hbel
          have hmb := (hbel.block _ hzW).trans (unhide HMB)
          have mc := fun o => cell_of_blk hmb o
          have hzr : w1.heap.size < wr.heap.size := lt_of_blk hmb
          clear hmb
          by_cases hjl : j < rs.length
          · obtain ⟨r, l, hr⟩ : ∃ r l, rs.drop j = r :: l := by
              cases hd : rs.drop j with
              | nil => have := congrArg List.length hd; simp at this; omega
              | cons r l => exact ⟨r, l, rfl⟩
            obtain ⟨g2, hgo, hg2, -, a, b, s', c, o', n', k', d, p, hri, q0, q1, q2, q3, q4, q5, q6⟩ := ((unhide HR).later hbel).at hr
            subst hgo
            have hmem : r ∈ rs := List.mem_of_mem_drop (i := j) (by rw [hr]; exact List.mem_cons_self)
            have HTR := hide (txtRules_at (out := out3) hr)
            have HGR := hide ((unhide HG).rules r hmem)
            have HRI := hide hri
            clear hr hmem hri hbel
            rcases unhide HGR with ⟨hcall, hwq, _, hfn, x, hxq, hxk, hargs⟩ | ⟨hcall, hfg, hfz, _⟩
            · have hp := (unhide HRI).2
              rw [if_pos hcall] at hp
              obtain ⟨-, hs5, hc5, ho5, hd5, hp5⟩ := hp
              subst hs5 hp5
              have hao : ActsAre wr o' n' k' r.args := ho5
              have hn5 := hao.len
              subst hn5
              have hxs := hxq.2
              have hws := hwq.2
              have HTX : Hid (txtRule out3 r = (if 1 < r.args.length then out3 ++ ⟨#[114, 117, 108, 101, 32]⟩ ++ r.word.s ++ ⟨#[40]⟩ ++ argS r.args 0 ++ ⟨#[44, 32]⟩ ++ argS r.args 1
     else out3 ++ ⟨#[114, 117, 108, 101, 32]⟩ ++ r.word.s ++ ⟨#[40]⟩ ++ argS r.args 0) ++ ⟨#[41, 59, 10]⟩) := by show _ = _; rw [txtRule, if_pos hcall]
              rcases hargs with harg | ⟨y, hyq, hyk, harg⟩
              · rw [harg] at hao HTX q4
                obtain ⟨ga, hga, hgas, -, a0, a1, a2⟩ := hao.tok (i := 0) (t := x) (r := []) rfl
                subst hga
                have hone : r.args.length = 1 := by rw [harg]; rfl
                simp only [hone] at *
                clear hao ho5 hcall hfn harg hxq hxk hwq
                have a1' : wr.cell? ⟨ga, 1, none⟩ = some (.string x.s) := a1
                go_wp2_with fail
                go_quiet (fail)
                go_wp2_with fail
                go_roundw
                case rel => exact ⟨j + 1, _, by omega, by go_num, rfl, ((unhide HBEL).alloc (unhide HBEL).size _).trans ((bdn _ nq).mono (by have := (unhide HBEL).size; simp; omega)), by simp only [ByteArray.size_append]; show out3.size + 5 + r.word.s.size + 1 + x.s.size + 3 ≤ _; omega, by show _ = _; rw [unhide HO, unhide HTR, unhide HTX]; rfl⟩
                case measure => simp [intOf]; omega
              · rw [harg] at hao HTX q4
                obtain ⟨ga, hga, hgas, -, a0, a1, a2⟩ := hao.tok (i := 0) (t := x) (r := [y]) rfl
                subst hga
                obtain ⟨ga', hga', -, -, b0, b1, b2⟩ := hao.tok (i := 1) (t := y) (r := []) rfl
                cases hga'
                have hone : r.args.length = 2 := by rw [harg]; rfl
                simp only [hone] at *
                have hys := hyq.2
                clear hao ho5 hcall hfn harg hxq hxk hwq hyq hyk
                have a1' : wr.cell? ⟨ga, 1, none⟩ = some (.string x.s) := a1
                have b1' : wr.cell? ⟨ga, 4, none⟩ = some (.string y.s) := b1
                go_wp2_with fail
                go_quiet (fail)
                go_wp2_with fail
                go_roundw
                case rel => exact ⟨j + 1, _, by omega, by go_num, rfl, ((unhide HBEL).alloc (unhide HBEL).size _).trans ((bdn _ nq).mono (by have := (unhide HBEL).size; simp; omega)), by simp only [ByteArray.size_append]; show out3.size + 5 + r.word.s.size + 1 + x.s.size + 2 + y.s.size + 3 ≤ _; omega, by show _ = _; rw [unhide HO, unhide HTR, unhide HTX]; rfl⟩
                case measure => simp [intOf]; omega
            · have hp := (unhide HRI).2
              rw [if_neg (by simp [hcall])] at hp
              obtain ⟨hif, hsome⟩ := hp
              obtain ⟨pp, rfl⟩ := Option.isSome_iff_exists.1 hsome
              have HTX : Hid (txtRule out3 r = out3 ++ ⟨#[114, 117, 108, 101, 32]⟩ ++ txtF r.f ++ ⟨#[59, 10]⟩) := by show _ = _; rw [txtRule, if_neg (by simp [hcall])]
              have hfz2 : (txtF r.f).size ≤ 170000 := by
                have h1 := txtF_size (m := 400) (fun t ht => ht.2) hfg
                have h2 := Nat.mul_le_mul_left 407 hfz
                omega
              have HIF := hide (hif.later ((Below.refl _ _).alloc (Nat.le_refl _) (.cells #[.int .i64 a, .int .u8 b, .string s', .int .i64 c, .slice o' n' k', .int .i64 d, .pointer (some pp)] 235)))
              have HFG := hide hfg
              clear hif hsome hcall hfg hfz
              go_wp2_with fail
              refine (written_any TkS r.f _ _ (unhide HIF) (unhide HFG) (by omega)).mono ?_
              rintro e w5 ⟨rfl, hb5⟩
              have HB5 := hide (((unhide HBEL).alloc (unhide HBEL).size _).trans (hb5.mono (by have := (unhide HBEL).size; simp; omega)))
              clear hb5
              generalize txtF r.f = tx at *
              go_wp2_with fail
              go_roundw
              case rel => exact ⟨j + 1, _, by omega, by go_num, rfl, unhide HB5, by simp only [ByteArray.size_append]; show out3.size + 5 + tx.size + 2 ≤ _; omega, by show _ = _; rw [unhide HO, unhide HTR, unhide HTX]⟩
              case measure => simp [intOf]; omega
          · have hje : j = rs.length := by omega
            subst hje
            have HT : Hid (txtM al rs = out3) := by
              show _ = _
              rw [unhide HO, List.drop_eq_nil_of_le (Nat.le_refl _)]; rfl
            go_wp2_with fail
            refine bodyPost_ret (v := .tuple #[.string out3, .int .i64 0, .int .i64 0]) (by simp [results, Tryz.results92, go_sem]) rfl ?_
            rw [unhide HP]
            refine ⟨?_, (unhide HB).trans ((unhide HBEL).mono (unhide HB).size)⟩
            show _ = Ending.returned (.tuple #[.string (txtM al rs), .int .i64 0, .int .i64 0])
            rw [unhide HT]
def PrintOk : Prop := ∀ (s : ByteArray) (w : World), GV w → Calls Tryz.prog 15 #[.string s] w fun e w' => e = .returned (.tuple #[.string (printM s).1, .int .i64 (printM s).2.1, .int .i64 (printM s).2.2]) ∧ Below w.heap.size w w'
def LW (w : World) (lb : Nat) : Prop := w.heap[lb]? = some (.cells #[.slice none 0 0, .int .i64 0, .slice none 0 0, .slice none 0 0, .slice none 0 0, .slice none 0 0, .slice none 0 0, .slice none 0 0, .slice none 0 0] 71 (0, 0))
theorem LW.later {w w' : World} {lb : Nat} (h : LW w lb) (hb : Below w.heap.size w w') : LW w' lb := (hb.block lb (lt_of_blk h)).trans h
theorem num_any (a : Int) (w : World) : Calls Tryz.prog 93 #[.int .i64 a] w fun e w' => e = .returned (.int .i64 a) ∧ w' = w := by
  go_enter Tryz.func93, Tryz.ntmps93
  go_wp2_with fail
  go_ret
  exact ⟨rfl, rfl⟩
set_option maxHeartbeats 2000000 in
set_option maxRecDepth 100000 in
theorem models_print (hP : PrintOk) (w : World) (lb : Nat) (oa : Int) (os ot : ByteArray) (l1 : Option Addr) (l2 l3 : Nat) (f1 : Option Addr) (f2 f3 : Nat) (m1 : Option Addr) (m2 m3 : Nat) (hG : GV w) :
    Calls Tryz.prog 54 #[.pointer (some ⟨lb, 0, none⟩), (.agg #[.int .i64 1, .int .i64 oa, .string os, .string ot, .slice l1 l2 l3, .slice f1 f2 f3, .slice m1 m2 m3])] w fun e w' => e = .returned (.bool true) ∧ Below w.heap.size w w' := by
  have HP := hide hP
  have HG := hide hG
  clear hP hG
  go_enter Tryz.func54, Tryz.ntmps54
  go_wp2_with fail
  refine ((unhide HP) os _ ((unhide HG).alloc _)).mono ?_
  rintro e w1 ⟨rfl, hb1⟩
  have HB1 := hide hb1
  have hbx := (hb1.block w.heap.size (by simp)).trans (blk_alloc w (.cells #[.int .i64 1, .int .i64 oa, .string os, .string ot, .slice l1 l2 l3, .slice f1 f2 f3, .slice m1 m2 m3] 74))
  have hz1 : w.heap.size < w1.heap.size := lt_of_blk hbx
  have bc := fun o => cell_of_blk hbx o
  clear hb1 hbx
  have HPR := hide (Print_any os)
  generalize printM os = pm at *
  obtain ⟨tx, pl, er⟩ := pm
  go_wp2_with fail
  refine ((unhide HPR) _).mono ?_
  rintro e w2 ⟨rfl, hb2⟩
  have HB2 := hide hb2
  clear hb2
  go_wp2_with (go_at_call 93; refine (num_any _ _).mono ?_; rintro e w3 ⟨rfl, rfl⟩)
  go_ret
  exact ⟨rfl, (((Below.refl _ _).alloc (Nat.le_refl _) _).trans ((unhide HB1).mono (by simp))).trans ((unhide HB2).mono (by omega))⟩
set_option maxHeartbeats 2000000 in
set_option maxRecDepth 100000 in
theorem step_print (hP : PrintOk) (w : World) (lb : Nat) (oa : Int) (os ot : ByteArray) (l1 : Option Addr) (l2 l3 : Nat) (f1 : Option Addr) (f2 f3 : Nat) (m1 : Option Addr) (m2 m3 : Nat) (hG : GV w) :
    Calls Tryz.prog 36 #[.pointer (some ⟨lb, 0, none⟩), (.agg #[.int .i64 1, .int .i64 oa, .string os, .string ot, .slice l1 l2 l3, .slice f1 f2 f3, .slice m1 m2 m3])] w fun e w' => e = .returned (.bool true) ∧ Below w.heap.size w w' := by
  have HM := hide (models_print hP)
  have HG := hide hG
  clear hP hG
  go_enter Tryz.func36, Tryz.ntmps36
  go_wp2_with fail
  refine ((unhide HM) _ lb oa os ot l1 l2 l3 f1 f2 f3 m1 m2 m3 ((unhide HG).alloc _)).mono ?_
  rintro e w1 ⟨rfl, hb1⟩
  have HB1 := hide hb1
  clear hb1
  go_wp2_with fail
  go_ret
  exact ⟨rfl, ((Below.refl _ _).alloc (Nat.le_refl _) _).trans ((unhide HB1).mono (by simp))⟩
set_option maxHeartbeats 2000000 in
set_option maxRecDepth 100000 in
theorem looks_none (w : World) (lb : Nat) (h : LW w lb) : Calls Tryz.prog 38 #[.pointer (some ⟨lb, 0, none⟩)] w fun e w' => e = .returned (.bool true) ∧ w' = w := by
  have bc := fun o => cell_of_blk h o
  clear h
  go_enter Tryz.func38, Tryz.ntmps38
  go_wp2_with fail
  go_loopw [3] (fun v wr => v = .int .i64 0 ∧ w = wr) (fun _ _ => 0)
  case atStart => exact ⟨rfl, rfl⟩
  case round =>
    obtain ⟨rfl, hw⟩ := hrel
    subst hw
    go_wp2_with fail
    go_loopw [9] (fun v wr => v = .int .i64 0 ∧ w = wr) (fun _ _ => 0)
    case atStart => exact ⟨rfl, rfl⟩
    case round =>
      obtain ⟨rfl, hw⟩ := hrel
      subst hw
      go_wp2_with fail
      go_loopw [15] (fun v wr => v = .int .i64 0 ∧ w = wr) (fun _ _ => 0)
      case atStart => exact ⟨rfl, rfl⟩
      case round =>
        obtain ⟨rfl, hw⟩ := hrel
        subst hw
        go_wp2_with fail
        go_ret
        exact ⟨rfl, rfl⟩
set_option maxHeartbeats 2000000 in
set_option maxRecDepth 100000 in
theorem settle_none (w : World) (lb : Nat) (h : LW w lb) : Calls Tryz.prog 37 #[.pointer (some ⟨lb, 0, none⟩)] w fun e w' => e = .returned (.bool true) ∧ LW w' lb ∧ w.grownBy w' (some lb) := by
  have bc := fun o => cell_of_blk h o
  have bf := fun o => frozen_of_blk h o
  have H := hide h
  have hlt := lt_of_blk h
  clear h
  go_enter Tryz.func37, Tryz.ntmps37
  go_wp2_with fail
  go_loopw [3, 4] (fun o v wr => o = .bool true ∧ v = .int .i64 0 ∧ w = wr) (fun _ _ _ => 0)
  case atStart => exact ⟨rfl, rfl, rfl⟩
  case round =>
    obtain ⟨rfl, rfl, hw⟩ := hrel
    subst hw
    go_wp2_with fail
    go_loopw [3, 6] (fun o v wr => o = .bool true ∧ v = .int .i64 0 ∧ w = wr) (fun _ _ _ => 0)
    case atStart => exact ⟨rfl, rfl, rfl⟩
    case round =>
      obtain ⟨rfl, rfl, hw⟩ := hrel
      subst hw
      go_wp2_with fail
      go_loopw [8] (fun v wr => v = .int .i64 0 ∧ w = wr) (fun _ _ => 0)
      case atStart => exact ⟨rfl, rfl⟩
      case round =>
        obtain ⟨rfl, hw⟩ := hrel
        subst hw
        go_wp2_with fail
        go_loopw [9] (fun v wr => v = .int .i64 0 ∧ w = wr) (fun _ _ => 0)
        case atStart => exact ⟨rfl, rfl⟩
        case round =>
          obtain ⟨rfl, hw⟩ := hrel
          subst hw
          go_wp2_with fail
          go_ret
          exact ⟨rfl, blk_set (blk_set (blk_set (blk_set (unhide H) 5 _) 6 _) 7 _) 8 _, (((grown_set _ _ _ _).trans (grown_set _ _ _ _)).trans (grown_set _ _ _ _)).trans (grown_set _ _ _ _)⟩
def opC (p q : Option Addr) : Array Value := #[.int .i64 1, .int .i64 0, .string ⟨#[97, 99, 116, 115, 32, 97, 44, 98, 59, 114, 117, 108, 101, 32, 114, 101, 115, 112, 111, 110, 115, 101, 40, 97, 44, 98, 41, 59]⟩, .string ⟨#[]⟩, .slice none 0 0, .slice none 0 0, .slice none 0 0, .int .i64 1, .int .i64 0, .string ⟨#[97, 99, 116, 115, 32, 97]⟩, .string ⟨#[]⟩, .slice none 0 0, .slice none 0 0, .slice none 0 0, .int .i64 2, .int .i64 0, .string ⟨#[97, 99, 116, 115, 32, 97, 44, 98, 59, 114, 117, 108, 101, 32, 114, 101, 115, 112, 111, 110, 115, 101, 40, 97, 44, 98, 41, 59]⟩, .string ⟨#[]⟩, .slice p 2 2, .slice none 0 0, .slice none 0 0, .int .i64 2, .int .i64 0, .string ⟨#[97, 99, 116, 115, 32, 97, 44, 98, 59, 114, 117, 108, 101, 32, 114, 101, 115, 112, 111, 110, 115, 101, 40, 97, 44, 98, 41, 59]⟩, .string ⟨#[]⟩, .slice q 1 1, .slice none 0 0, .slice none 0 0, .int .i64 3, .int .i64 0, .string ⟨#[97, 99, 116, 115, 32, 97, 44, 98, 59, 114, 117, 108, 101, 32, 114, 101, 115, 112, 111, 110, 115, 101, 40, 97, 44, 98, 41, 59]⟩, .string ⟨#[]⟩, .slice none 0 0, .slice none 0 0, .slice none 0 0, .int .i64 3, .int .i64 0, .string ⟨#[97, 99, 116, 115]⟩, .string ⟨#[]⟩, .slice none 0 0, .slice none 0 0, .slice none 0 0, .int .i64 4, .int .i64 0, .string ⟨#[]⟩, .string ⟨#[]⟩, .slice none 0 0, .slice none 0 0, .slice none 0 0, .int .i64 5, .int .i64 0, .string ⟨#[97, 99, 116, 115, 32, 97, 44, 98, 59, 114, 117, 108, 101, 32, 114, 101, 115, 112, 111, 110, 115, 101, 40, 97, 44, 98, 41, 59]⟩, .string ⟨#[]⟩, .slice none 0 0, .slice none 0 0, .slice none 0 0, .int .i64 6, .int .i64 0, .string ⟨#[83]⟩, .string ⟨#[]⟩, .slice none 0 0, .slice none 0 0, .slice none 0 0, .int .i64 7, .int .i64 0, .string ⟨#[97, 99, 116, 115, 32, 97, 44, 98, 59, 114, 117, 108, 101, 32, 114, 101, 115, 112, 111, 110, 115, 101, 40, 97, 44, 98, 41, 59]⟩, .string ⟨#[]⟩, .slice none 0 0, .slice none 0 0, .slice none 0 0, .int .i64 8, .int .i64 0, .string ⟨#[]⟩, .string ⟨#[]⟩, .slice none 0 0, .slice none 0 0, .slice none 0 0, .int .i64 9, .int .i64 0, .string ⟨#[97, 99, 116, 115, 32, 97, 44, 98, 59, 114, 117, 108, 101, 32, 114, 101, 115, 112, 111, 110, 115, 101, 40, 97, 44, 98, 41, 59]⟩, .string ⟨#[]⟩, .slice none 0 0, .slice none 0 0, .slice none 0 0, .int .i64 10, .int .i64 0, .string ⟨#[120]⟩, .string ⟨#[]⟩, .slice none 0 0, .slice none 0 0, .slice none 0 0, .int .i64 11, .int .i64 0, .string ⟨#[120]⟩, .string ⟨#[97]⟩, .slice none 0 0, .slice none 0 0, .slice none 0 0, .int .i64 12, .int .i64 0, .string ⟨#[120]⟩, .string ⟨#[]⟩, .slice none 0 0, .slice none 0 0, .slice none 0 0, .int .i64 13, .int .i64 0, .string ⟨#[120]⟩, .string ⟨#[]⟩, .slice none 0 0, .slice none 0 0, .slice none 0 0, .int .i64 14, .int .i64 0, .string ⟨#[120]⟩, .string ⟨#[]⟩, .slice none 0 0, .slice none 0 0, .slice none 0 0, .int .i64 15, .int .i64 0, .string ⟨#[]⟩, .string ⟨#[]⟩, .slice none 0 0, .slice none 0 0, .slice none 0 0]
set_option maxHeartbeats 2000000 in
set_option maxRecDepth 100000 in
theorem opening_any (w : World) : Calls Tryz.prog 35 #[] w fun e w' => e = .returned (.slice (some ⟨w.heap.size + 2, 0, none⟩) 18 18) ∧ w' = ((w.alloc (.cells #[.string ⟨#[97]⟩, .string ⟨#[98]⟩] 9)).alloc (.cells #[.string ⟨#[99]⟩] 9)).alloc (.cells (opC (some ⟨w.heap.size, 0, none⟩) (some ⟨w.heap.size + 1, 0, none⟩)) 74) := by
  go_enter Tryz.func35, Tryz.ntmps35
  go_wp2_with fail
  go_ret
  exact ⟨rfl, rfl⟩
def Sc (w : World) (o : Option Addr) (n : Nat) : Prop := ∀ i, i < n → ∃ b off, o = some ⟨b, off, none⟩ ∧ b < w.heap.size ∧ ∃ (kd oa : Int) (os ot : ByteArray) (l1 : Option Addr) (l2 l3 : Nat) (f1 : Option Addr) (f2 f3 : Nat) (m1 : Option Addr) (m2 m3 : Nat),
    w.cell? ⟨b, off + i * 7, none⟩ = some (.int .i64 kd) ∧ w.cell? ⟨b, off + i * 7 + 1, none⟩ = some (.int .i64 oa) ∧ w.cell? ⟨b, off + i * 7 + 2, none⟩ = some (.string os) ∧ w.cell? ⟨b, off + i * 7 + 3, none⟩ = some (.string ot) ∧
    w.cell? ⟨b, off + i * 7 + 4, none⟩ = some (.slice l1 l2 l3) ∧ w.cell? ⟨b, off + i * 7 + 5, none⟩ = some (.slice f1 f2 f3) ∧ w.cell? ⟨b, off + i * 7 + 6, none⟩ = some (.slice m1 m2 m3)
theorem Sc.later {w w' : World} {o : Option Addr} {n : Nat} (h : Sc w o n) (hb : Below w.heap.size w w') : Sc w' o n := by
  intro i hi
  obtain ⟨b, off, ho, hlt, kd, oa, os, ot, l1, l2, l3, f1, f2, f3, m1, m2, m3, h0, h1, h2, h3, h4, h5, h6⟩ := h i hi
  have e := fun a => bcell3 hb b a hlt
  exact ⟨b, off, ho, Nat.lt_of_lt_of_le hlt hb.size, kd, oa, os, ot, l1, l2, l3, f1, f2, f3, m1, m2, m3, (e _).trans h0, (e _).trans h1, (e _).trans h2, (e _).trans h3, (e _).trans h4, (e _).trans h5, (e _).trans h6⟩
theorem opC_kind (p q : Option Addr) (i : Nat) (h2 : 2 ≤ i) (h : i < 18) : ∃ kd : Int, (opC p q)[i * 7]? = some (.int .i64 kd) ∧ 2 ≤ kd := by
  have : i = 2 ∨ i = 3 ∨ i = 4 ∨ i = 5 ∨ i = 6 ∨ i = 7 ∨ i = 8 ∨ i = 9 ∨ i = 10 ∨ i = 11 ∨ i = 12 ∨ i = 13 ∨ i = 14 ∨ i = 15 ∨ i = 16 ∨ i = 17 := by omega
  rcases this with rfl | rfl | rfl | rfl | rfl | rfl | rfl | rfl | rfl | rfl | rfl | rfl | rfl | rfl | rfl | rfl
  all_goals exact ⟨_, rfl, by decide⟩
set_option maxHeartbeats 4000000 in
set_option maxRecDepth 100000 in
theorem plays_prints (hP : PrintOk) (w : World) (o : Option Addr) (n k : Nat) (hS : Sc w o n) (hG : GV w) :
    Calls Tryz.prog 13 #[.slice o n k, .int .i64 1, .int .i64 1] w fun e w' => e = .returned (.bool true) ∧ Below w.heap.size w w' := by
  have HST := hide (step_print hP)
  have HS := hide hS
  have HG := hide hG
  clear hP hS hG
  go_enter Tryz.func13, Tryz.ntmps13
  go_wp2_with (go_at_call 35; refine (opening_any _).mono ?_; rintro e w1 ⟨rfl, rfl⟩)
  have hLW : LW ((((w.alloc (.cells #[.slice none 0 0, .int .i64 0, .slice none 0 0, .slice none 0 0, .slice none 0 0, .slice none 0 0, .slice none 0 0, .slice none 0 0, .slice none 0 0] 71)).alloc (.cells #[.string ⟨#[97]⟩, .string ⟨#[98]⟩] 9)).alloc (.cells #[.string ⟨#[99]⟩] 9)).alloc (.cells (opC (some ⟨w.heap.size + 1, 0, none⟩) (some ⟨w.heap.size + 2, 0, none⟩)) 74)) w.heap.size := (Below.heap_alloc _ _ _ (by simp; omega)).trans ((Below.heap_alloc _ _ _ (by simp; omega)).trans ((Below.heap_alloc _ _ _ (by simp)).trans (blk_alloc _ _)))
  have hOP : ((((w.alloc (.cells #[.slice none 0 0, .int .i64 0, .slice none 0 0, .slice none 0 0, .slice none 0 0, .slice none 0 0, .slice none 0 0, .slice none 0 0, .slice none 0 0] 71)).alloc (.cells #[.string ⟨#[97]⟩, .string ⟨#[98]⟩] 9)).alloc (.cells #[.string ⟨#[99]⟩] 9)).alloc (.cells (opC (some ⟨w.heap.size + 1, 0, none⟩) (some ⟨w.heap.size + 2, 0, none⟩)) 74)).heap[w.heap.size + 3]? = some (.cells (opC (some ⟨w.heap.size + 1, 0, none⟩) (some ⟨w.heap.size + 2, 0, none⟩)) 74 (0, 0)) := blk_alloc' _ _ _ (by simp)
  have hBE : Below w.heap.size w ((((w.alloc (.cells #[.slice none 0 0, .int .i64 0, .slice none 0 0, .slice none 0 0, .slice none 0 0, .slice none 0 0, .slice none 0 0, .slice none 0 0, .slice none 0 0] 71)).alloc (.cells #[.string ⟨#[97]⟩, .string ⟨#[98]⟩] 9)).alloc (.cells #[.string ⟨#[99]⟩] 9)).alloc (.cells (opC (some ⟨w.heap.size + 1, 0, none⟩) (some ⟨w.heap.size + 2, 0, none⟩)) 74)) := ((((Below.refl _ _).alloc (Nat.le_refl _) _).alloc (by simp) _).alloc (by simp; omega) _).alloc (by simp; omega) _
  have HLW := hide hLW
  have HOP := hide hOP
  have HBE := hide hBE
  clear hLW hOP hBE
  generalize ((((w.alloc (.cells #[.slice none 0 0, .int .i64 0, .slice none 0 0, .slice none 0 0, .slice none 0 0, .slice none 0 0, .slice none 0 0, .slice none 0 0, .slice none 0 0] 71)).alloc (.cells #[.string ⟨#[97]⟩, .string ⟨#[98]⟩] 9)).alloc (.cells #[.string ⟨#[99]⟩] 9)).alloc (.cells (opC (some ⟨w.heap.size + 1, 0, none⟩) (some ⟨w.heap.size + 2, 0, none⟩)) 74)) = W2 at *
  have hz2 : w.heap.size + 3 < W2.heap.size := lt_of_blk (unhide HOP)
  go_loopw [9] (fun v wr => ∃ i : Nat, i ≤ 18 ∧ v = .int .i64 i ∧ Below W2.heap.size W2 wr) (fun v _ => 18 - (intOf v).toNat)
  case atStart => exact ⟨0, Nat.zero_le _, rfl, Below.refl _ _⟩
  case round =>
    obtain ⟨i, hi, rfl, hbel⟩ := hrel
    have HBEL := hide hbel
    have HBW := hide ((unhide HBE).trans (hbel.mono (unhide HBE).size))
    have hop := (hbel.block _ hz2).trans (unhide HOP)
    have hzr : w.heap.size + 3 < wr.heap.size := lt_of_blk hop
    by_cases hlt : i < 18
    · have h3 : i = 0 ∨ i = 1 ∨ 2 ≤ i := by omega
      rcases h3 with rfl | rfl | h3
      · have c0 : wr.cell? ⟨w.heap.size + 3, 0, none⟩ = some (.int .i64 1) := (cell_of_blk hop 0).trans rfl
        have c1 : wr.cell? ⟨w.heap.size + 3, 1, none⟩ = some (.int .i64 0) := (cell_of_blk hop 1).trans rfl
        have c2 : wr.cell? ⟨w.heap.size + 3, 2, none⟩ = some (.string ⟨#[97, 99, 116, 115, 32, 97, 44, 98, 59, 114, 117, 108, 101, 32, 114, 101, 115, 112, 111, 110, 115, 101, 40, 97, 44, 98, 41, 59]⟩) := (cell_of_blk hop 2).trans rfl
        have c3 : wr.cell? ⟨w.heap.size + 3, 3, none⟩ = some (.string ⟨#[]⟩) := (cell_of_blk hop 3).trans rfl
        have c4 : wr.cell? ⟨w.heap.size + 3, 4, none⟩ = some (.slice none 0 0) := (cell_of_blk hop 4).trans rfl
        have c5 : wr.cell? ⟨w.heap.size + 3, 5, none⟩ = some (.slice none 0 0) := (cell_of_blk hop 5).trans rfl
        have c6 : wr.cell? ⟨w.heap.size + 3, 6, none⟩ = some (.slice none 0 0) := (cell_of_blk hop 6).trans rfl
        clear hop hbel
        go_wp2_with fail
        refine ((unhide HST) _ _ _ _ _ _ _ _ _ _ _ _ _ _ ((unhide HG).later (unhide HBW))).mono ?_
        rintro e w3 ⟨rfl, hb3⟩
        have HB3 := hide ((unhide HBEL).trans (hb3.mono (unhide HBEL).size))
        clear hb3
        go_wp2_with fail
        go_roundw
        case rel => exact ⟨1, by omega, by go_num, unhide HB3⟩
        case measure => simp [intOf]
      · have c0 : wr.cell? ⟨w.heap.size + 3, 7, none⟩ = some (.int .i64 1) := (cell_of_blk hop 7).trans rfl
        have c1 : wr.cell? ⟨w.heap.size + 3, 8, none⟩ = some (.int .i64 0) := (cell_of_blk hop 8).trans rfl
        have c2 : wr.cell? ⟨w.heap.size + 3, 9, none⟩ = some (.string ⟨#[97, 99, 116, 115, 32, 97]⟩) := (cell_of_blk hop 9).trans rfl
        have c3 : wr.cell? ⟨w.heap.size + 3, 10, none⟩ = some (.string ⟨#[]⟩) := (cell_of_blk hop 10).trans rfl
        have c4 : wr.cell? ⟨w.heap.size + 3, 11, none⟩ = some (.slice none 0 0) := (cell_of_blk hop 11).trans rfl
        have c5 : wr.cell? ⟨w.heap.size + 3, 12, none⟩ = some (.slice none 0 0) := (cell_of_blk hop 12).trans rfl
        have c6 : wr.cell? ⟨w.heap.size + 3, 13, none⟩ = some (.slice none 0 0) := (cell_of_blk hop 13).trans rfl
        clear hop hbel
        go_wp2_with fail
        refine ((unhide HST) _ _ _ _ _ _ _ _ _ _ _ _ _ _ ((unhide HG).later (unhide HBW))).mono ?_
        rintro e w3 ⟨rfl, hb3⟩
        have HB3 := hide ((unhide HBEL).trans (hb3.mono (unhide HBEL).size))
        clear hb3
        go_wp2_with fail
        go_roundw
        case rel => exact ⟨2, by omega, by go_num, unhide HB3⟩
        case measure => simp [intOf]
      · obtain ⟨kd, hk1, hk2⟩ := opC_kind (some ⟨w.heap.size + 1, 0, none⟩) (some ⟨w.heap.size + 2, 0, none⟩) i h3 hlt
        have c0 : wr.cell? ⟨w.heap.size + 3, i * 7, none⟩ = some (.int .i64 kd) := (cell_of_blk hop (i * 7)).trans hk1
        have hk3 : (1 : Int) ≤ kd := by omega
        have hk4 : ¬ kd ≤ (1 : Int) := by omega
        clear hop hbel hk1
        go_wp2_with fail
        go_roundw
        case rel => exact ⟨i + 1, by omega, by go_num, unhide HBEL⟩
        case measure => simp [intOf]; omega
    · have hie : ¬ ((i : Int) < 18) := by omega
      have HLW2 := hide ((unhide HLW).later hbel)
      clear hbel hop hlt hi hzr HBEL HLW HOP HBE
      go_wp2_with fail
      go_loopw [11] (fun v wq => ∃ i : Nat, i ≤ n ∧ i ≤ 1152921504606846976 ∧ v = .int .i64 i ∧ Below w.heap.size w wq ∧ LW wq w.heap.size) (fun v _ => n - (intOf v).toNat)
      case atStart => exact ⟨0, Nat.zero_le _, by decide, rfl, unhide HBW, unhide HLW2⟩
      case round =>
        clear HBW HLW2
        obtain ⟨i, hi, him, rfl, hbw, hlw⟩ := hrel
        have HBW := hide hbw
        have HLW := hide hlw
        have hgr := (unhide HG).later hbw
        have HGR := hide hgr
        have hzr : w.heap.size < wr.heap.size := lt_of_blk hlw
        by_cases hlt : i < n ∧ i < 1152921504606846976
        · obtain ⟨b, off, hob, hlb, kd, oa, os, ot, l1, l2, l3, f1, f2, f3, m1, m2, m3, c0, c1, c2, c3, c4, c5, c6⟩ := ((unhide HS).later hbw) i hlt.1
          subst hob
          have hin : (i : Int) < 1152921504606846976 := by omega
          have hin2 : (i : Int) < (n : Int) := by omega
          clear hbw hlw hgr
          by_cases hk : kd = 1
          · subst hk
            go_wp2_with fail
            refine ((unhide HST) _ _ _ _ _ _ _ _ _ _ _ _ _ _ ((unhide HGR).alloc _)).mono ?_
            rintro e w3 ⟨rfl, hb3⟩
            have hbl3 := ((Below.refl wr.heap.size wr).alloc (Nat.le_refl _) (.cells #[.int .i64 1, .int .i64 oa, .string os, .string ot, .slice l1 l2 l3, .slice f1 f2 f3, .slice m1 m2 m3] 74)).trans (hb3.mono (by simp))
            have HLW3 := hide ((unhide HLW).later hbl3)
            have HBW3 := hide ((unhide HBW).trans (hbl3.mono (unhide HBW).size))
            clear hb3 hbl3
            have h3 : (i : Int).tmod 3 = 0 ∨ (i : Int).tmod 3 = 1 ∨ (i : Int).tmod 3 = 2 := by rw [Int.tmod_eq_emod_of_nonneg (by omega)]; omega
            rcases h3 with hm | hm | hm
            · go_wp2_with fail
              refine (looks_none _ _ (unhide HLW3)).mono ?_
              rintro e w5 ⟨rfl, rfl⟩
              go_wp2_with fail
              go_roundw
              case rel => exact ⟨i + 1, by omega, by omega, by go_num, unhide HBW3, unhide HLW3⟩
              case measure => simp [intOf]; omega
            · go_wp2_with fail
              refine (looks_none _ _ (unhide HLW3)).mono ?_
              rintro e w5 ⟨rfl, rfl⟩
              go_wp2_with fail
              go_roundw
              case rel => exact ⟨i + 1, by omega, by omega, by go_num, unhide HBW3, unhide HLW3⟩
              case measure => simp [intOf]; omega
            · go_wp2_with fail
              refine (settle_none _ _ (unhide HLW3)).mono ?_
              rintro e w4 ⟨rfl, hlw4, hg4⟩
              have HLW4 := hide hlw4
              have HBW4 := hide (below_grown (unhide HBW3) hg4 (Nat.le_refl _))
              clear hlw4 hg4
              go_wp2_with fail
              refine (looks_none _ _ (unhide HLW4)).mono ?_
              rintro e w5 ⟨rfl, rfl⟩
              go_wp2_with fail
              go_roundw
              case rel => exact ⟨i + 1, by omega, by omega, by go_num, unhide HBW4, unhide HLW4⟩
              case measure => simp [intOf]; omega
          · by_cases hk1 : kd < 1
            · go_wp2_with fail
              go_roundw
              case rel => exact ⟨i + 1, by omega, by omega, by go_num, (unhide HBW).alloc (unhide HBW).size _, (unhide HLW).later ((Below.refl _ _).alloc (Nat.le_refl _) _)⟩
              case measure => simp [intOf]; omega
            · have hk2 : (1 : Int) < kd := by omega
              go_wp2_with fail
              go_roundw
              case rel => exact ⟨i + 1, by omega, by omega, by go_num, (unhide HBW).alloc (unhide HBW).size _, (unhide HLW).later ((Below.refl _ _).alloc (Nat.le_refl _) _)⟩
              case measure => simp [intOf]; omega
        · by_cases hln : i < n
          · have hin : ¬ ((i : Int) < 1152921504606846976) := by omega
            have hin2 : (i : Int) < (n : Int) := by omega
            clear hlt
            clear hbw hlw hgr
            go_wp2_with fail
            refine (settle_none _ _ (unhide HLW)).mono ?_
            rintro e w4 ⟨rfl, hlw4, hg4⟩
            have HLW4 := hide hlw4
            have HBW4 := hide (below_grown (unhide HBW) hg4 (Nat.le_refl _))
            clear hlw4 hg4
            go_wp2_with fail
            refine (looks_none _ _ (unhide HLW4)).mono ?_
            rintro e w5 ⟨rfl, rfl⟩
            go_wp2_with fail
            go_ret
            exact ⟨rfl, unhide HBW4⟩
          · have hin2 : ¬ ((i : Int) < (n : Int)) := by omega
            clear hlt
            clear hbw hlw hgr
            go_wp2_with fail
            refine (settle_none _ _ (unhide HLW)).mono ?_
            rintro e w4 ⟨rfl, hlw4, hg4⟩
            have HLW4 := hide hlw4
            have HBW4 := hide (below_grown (unhide HBW) hg4 (Nat.le_refl _))
            clear hlw4 hg4
            go_wp2_with fail
            refine (looks_none _ _ (unhide HLW4)).mono ?_
            rintro e w5 ⟨rfl, rfl⟩
            go_wp2_with fail
            go_ret
            exact ⟨rfl, unhide HBW4⟩
set_option maxHeartbeats 1000000 in
theorem Prints_any (hP : PrintOk) (w : World) (o : Option Addr) (n k : Nat) (hS : Sc w o n) (hG : GV w) :
    Calls Tryz.prog 3 #[.slice o n k] w fun e w' => e = .returned (.bool true) ∧ Below w.heap.size w w' := by
  have HPL := hide (plays_prints hP w o n k hS hG)
  clear hP hS hG
  go_enter Tryz.func3, Tryz.ntmps3
  go_wp2_with fail
  refine (unhide HPL).mono ?_
  rintro e w1 ⟨rfl, hb1⟩
  have HB1 := hide hb1
  clear hb1
  go_wp2_with fail
  go_ret
  exact ⟨rfl, unhide HB1⟩
end Go.Proofs.YtidakhhekofkoaaGreatDoor
