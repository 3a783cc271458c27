/- The reference's Read. -/
import Derived.Test.YtidakhhekofkoaaGreatDoorG19
import Derived.Deep.DeepCutAuto
import Derived.Test.YtidakhhekofkoaaGreatDoorG09
set_option linter.unusedSimpArgs false
namespace Go.Proofs.YtidakhhekofkoaaGreatDoor
open Go.RowKit Go.Deep
def RdLeft (s : ByteArray) (w w' : World) (e : Ending) : Prop :=
 Below w.heap.size w w' ∧ (match readM s with
  | .error x => e = .returned (.tuple #[.agg #[.slice none 0 0, .slice none 0 0], .int .i64 x.1, .int .i64 x.2])
  | .ok (al, rs) => ∃ o1 n1 k1 o2 n2 k2, e = .returned (.tuple #[.agg #[.slice o1 n1 k1, .slice o2 n2 k2], .int .i64 0, .int .i64 0]) ∧ ActsAre w' o1 n1 k1 al ∧ RowR w' o2 n2 k2 rs)
structure RS (w W : World) (mb : Nat) (x : Nat × Nat) (o1 : Option Addr) (n1 k1 : Nat) (o2 : Option Addr) (n2 k2 : Nat) (al : List Tk) (rs : List Rl) : Prop where
 rbx : W.heap[w.heap.size]? = some (.cells #[.slice none 0 0, .slice none 0 0] 228 (0, 0))
 mbx : W.heap[mb]? = some (.cells #[.slice o1 n1 k1, .slice o2 n2 k2] 228 (0, 0))
 fbx : FB W (mb + 1) x
 act : ActsAre W o1 n1 k1 al
 rul : RowR W o2 n2 k2 rs
 bel : Below w.heap.size w W
 lt : w.heap.size < mb
theorem RowR.fb {w w' : World} {fb : Nat} {x : Nat × Nat} {o : Option Addr} {n k : Nat} {rs : List Rl} (h : RowR w o n k rs) (hf : FB w fb x) (hg : w.grownBy w' (some fb)) : RowR w' o n k rs := by
 obtain ⟨cells, h1, h2⟩ := h
 refine ⟨cells, owns_keep h1 hg ?_, (KT.fb hf hg).rules h2⟩
 rcases hb : (Value.slice o n k).ownBlock with _ | b
 ·exact Or.inl rfl
 ·refine Or.inr (fun e => ?_)
  cases e
  exact own_ty h1 hb hf (by decide)
theorem RowR.keepTy {w w' : World} {rb ty : Nat} {cc : Array Value} {m : Nat × Nat} {o : Option Addr} {n k : Nat} {rs : List Rl} (h : RowR w o n k rs) (hk : KT w w') (hb : w.heap[rb]? = some (.cells cc ty m)) (hne : ty ≠ 235) (hg : w.grownBy w' (some rb)) : RowR w' o n k rs := by
 obtain ⟨cells, h1, h2⟩ := h
 refine ⟨cells, owns_keep h1 hg ?_, hk.rules h2⟩
 rcases hb' : (Value.slice o n k).ownBlock with _ | b
 ·exact Or.inl rfl
 ·refine Or.inr (fun e => ?_)
  cases e
  exact own_ty h1 hb' hb hne
theorem owns_val {w : World} {base e size n : Nat} {v : Value} {xs : List Value} (h : w.ownsRow base e size v n xs) : ∃ o k, v = .slice o n k := by
 obtain ⟨_, ⟨h1, h2⟩ | ⟨g, cap, cur, hv, _⟩⟩ := h
 ·subst h2; exact ⟨_, _, h1⟩
 ·exact ⟨_, _, hv⟩
theorem owns1_at {w : World} {base e n k i : Nat} {o : Option Addr} {xs : List Value} (h : w.ownsRow base e 1 (.slice o n k) n xs) (hi : i < n) : ∃ g, o = some ⟨g, 0, none⟩ ∧ g < w.heap.size ∧ w.cell? ⟨g, i, none⟩ = xs[i]? := by
 obtain ⟨_, ⟨h1, h2⟩ | ⟨g, cap, cur, hv, _, hrow, hle, _, hcs, htake⟩⟩ := h
 ·omega
 ·cases hv
  refine ⟨g, rfl, lt_of_blk hrow, ?_⟩
  rw [cell_of_blk hrow, ← Array.getElem?_toList, ← htake, List.getElem?_take, if_pos (by omega)]
theorem FsAre.at {w : World} : ∀ {rs : List Rl} {ps : List (Option Addr)} {j : Nat} {r : Rl} {l : List Rl}, FsAre w rs ps → rs.drop j = r :: l → ∃ p, ps[j]? = some p ∧ IsF w (ruleF r) p
 | [], _, j, r, l, _, h => by simp at h
 | x :: xs, ps, 0, r, l, ⟨p, ps', e, h1, _⟩, h => by
  simp at h
  obtain ⟨rfl, _⟩ := h
  subst e
  exact ⟨p, rfl, h1⟩
 | x :: xs, ps, j + 1, r, l, ⟨p, ps', e, _, h2⟩, h => by
  obtain ⟨q, hq, hf⟩ := h2.at (j := j) (r := r) (l := l) (by simpa using h)
  subst e
  exact ⟨q, by simpa using hq, hf⟩
theorem nodesL_append : ∀ a b : List Rl, nodesL (a ++ b) = nodesL a + nodesL b
 | [], b => by simp [nodesL]
 | r :: l, b => by rw [List.cons_append, nodesL, nodesL, nodesL_append l b]; omega
theorem nodesL_le (m : Nat) : ∀ l : List Rl, (∀ r ∈ l, sizeF (ruleF r) ≤ m) → nodesL l ≤ l.length * m
 | [], _ => by simp [nodesL]
 | r :: l, h => by
  have h1 := h r List.mem_cons_self
  have h2 := nodesL_le m l (fun x hx => h x (List.mem_cons_of_mem _ hx))
  rw [nodesL, List.length_cons, Nat.succ_mul]; omega
theorem RS.later {w W : World} {mb : Nat} {x : Nat × Nat} {o1 : Option Addr} {n1 k1 : Nat} {o2 : Option Addr} {n2 k2 : Nat} {al : List Tk} {rs : List Rl} {W' : World} (h : RS w W mb x o1 n1 k1 o2 n2 k2 al rs) (hb : Below W.heap.size W W') : RS w W' mb x o1 n1 k1 o2 n2 k2 al rs :=
 ⟨(hb.block _ (lt_of_blk h.rbx)).trans h.rbx, (hb.block _ (lt_of_blk h.mbx)).trans h.mbx, h.fbx.later hb, (KT.below hb).acts h.act, h.rul.later hb, h.bel.trans (hb.mono h.bel.size), h.lt⟩
theorem RS.alloc {w W : World} {mb : Nat} {x : Nat × Nat} {o1 : Option Addr} {n1 k1 : Nat} {o2 : Option Addr} {n2 k2 : Nat} {al : List Tk} {rs : List Rl} (h : RS w W mb x o1 n1 k1 o2 n2 k2 al rs) (o : Obj) : RS w (W.alloc o) mb x o1 n1 k1 o2 n2 k2 al rs := h.later ((Below.refl _ _).alloc (Nat.le_refl _) _)
theorem RS.call {w W : World} {mb : Nat} {x : Nat × Nat} {o1 : Option Addr} {n1 k1 : Nat} {o2 : Option Addr} {n2 k2 : Nat} {al : List Tk} {rs : List Rl} {W' : World} {y : Nat × Nat} (h : RS w W mb x o1 n1 k1 o2 n2 k2 al rs) (hf : FB W' (mb + 1) y) (hg : W.grownBy W' (some (mb + 1))) : RS w W' mb y o1 n1 k1 o2 n2 k2 al rs :=
 ⟨(hg.block _ (lt_of_blk h.rbx) (by have := h.lt; simp; omega)).trans h.rbx, (hg.block _ (lt_of_blk h.mbx) (by simp)).trans h.mbx, hf, (KT.fb h.fbx hg).acts h.act, h.rul.fb h.fbx hg, below_grown h.bel hg (by have := h.lt; omega), h.lt⟩
theorem fActs_at {al : List Tk} {i : Nat} {t : Tk} {r : List Tk} (h : al.drop i = t :: r) : fActs al i (al.drop i) = fAct (al.take i) i t ++ fActs al (i + 1) (al.drop (i + 1)) := by
 rw [h, fActs, dropTl h]
theorem fRules_at {al : List Tk} {rs : List Rl} {i : Nat} {t : Rl} {r : List Rl} (h : rs.drop i = t :: r) : fRules al i (rs.drop i) = fRule al i t ++ fRules al (i + 1) (rs.drop (i + 1)) := by
 rw [h, fRules, dropTl h]
theorem dups_at {l : List Tk} {a : Tk} {k : Nat} {t : Tk} {r : List Tk} (h : l.drop k = t :: r) : dups (l.drop k) a = (if t.s.toList = a.s.toList then [(a.p, 3)] else []) ++ dups (l.drop (k + 1)) a := by
 rw [h, dups, dropTl h]
theorem Fg.leaf_size {Q : Tk → Prop} {m : Nat} (hQ : ∀ t, Q t → t.s.size ≤ m) : ∀ {f : Fm} {s : ByteArray} {p : Nat}, Fg Q f → Leaf f s p → s.size ≤ m
 | .nil, _, _, h, _ => False.elim h
 | .node _ _ a l r, s, p, h, hl => by
  rcases hl with ⟨h0, hs, hp⟩ | hl | hl
  ·rcases h with ⟨_, ⟨t, ht, _, h1, _⟩, _⟩ | ⟨h1, _⟩ | ⟨h1, _⟩ | ⟨h1, _⟩
   ·rw [← hs, ← h1]; exact hQ t ht
   all_goals omega
  ·rcases h with ⟨_, _, hn, _⟩ | ⟨_, hn, _⟩ | ⟨_, hf, _⟩ | ⟨_, hf, _⟩
   ·rw [hn] at hl; exact False.elim hl
   ·rw [hn] at hl; exact False.elim hl
   ·exact hf.leaf_size hQ hl
   ·exact hf.leaf_size hQ hl
  ·rcases h with ⟨_, _, _, hn⟩ | ⟨_, _, hn⟩ | ⟨_, _, hn⟩ | ⟨_, _, hf⟩
   ·rw [hn] at hl; exact False.elim hl
   ·rw [hn] at hl; exact False.elim hl
   ·rw [hn] at hl; exact False.elim hl
   ·exact hf.leaf_size hQ hl
def TkS (t : Tk) : Prop := TkOk t ∧ t.s.size ≤ 400
set_option maxHeartbeats 8000000 in
set_option maxRecDepth 100000 in
theorem Read_any (s : ByteArray) (w : World) : Calls Tryz.prog 137 #[.string s] w fun e w' => RdLeft s w w' e := by
 by_cases hs : 400 < s.size
 ·have HL : Hid (readM s = .error (0, 1)) := by show _ = _; unfold readM; rw [if_pos hs]
  have hs' : (400 : Int) < (s.size : Int) := by omega
  clear hs
  go_enter Tryz.func137, Tryz.ntmps137
  go_wp2_with fail
  have rc := fun o => cell_of_blk (blk_alloc w (.cells #[.slice none 0 0, .slice none 0 0] 228)) o
  exact bodyPost_ret (v := .tuple #[.agg #[.slice none 0 0, .slice none 0 0], .int .i64 0, .int .i64 1]) (by simp [results, Tryz.results137, go_sem, rc]) rfl ⟨(Below.refl _ _).alloc (Nat.le_refl _) _, by rw [unhide HL]; rfl⟩
 have hs' : ¬ (400 : Int) < (s.size : Int) := by omega
 have HS := hide (show s.size ≤ 400 by omega)
 have HRM : Hid (readM s = rdOf s.size (modelRead (lexR s (s.size + 1) 0))) := by show _ = _; unfold readM; rw [if_neg hs]
 have HP := hide (fun W => Parse_any s W (unhide HS))
 have hll : (lexR s (s.size + 1) 0).length ≤ 401 := by have := lexR_len s (s.size + 1) 0 (Nat.zero_le _); omega
 have HQ : Hid (∀ t ∈ lexR s (s.size + 1) 0, TkS t) := fun t ht => ⟨lexR_ok s _ _ t ht, by have := lexR_small s _ 0 (Nat.zero_le _) t ht; omega⟩
 generalize lexR s (s.size + 1) 0 = L at *
 clear hs
 go_enter Tryz.func137, Tryz.ntmps137
 go_wp2_with (go_at_call 173; refine ((unhide HP) _).mono ?_)
 rintro e w1 ⟨hb1, o1, n1, k1, o2, n2, k2, hx⟩
 have hz1 : w.heap.size < w1.heap.size := by have := hb1.size; simp at this; omega
 have HR1 := hide (show w1.heap[w.heap.size]? = some (.cells #[.slice none 0 0, .slice none 0 0] 228 (0, 0)) from (hb1.block _ (by simp)).trans (blk_alloc _ _))
 have HB1 := hide (((Below.refl w.heap.size w).alloc (Nat.le_refl _) (.cells #[.slice none 0 0, .slice none 0 0] 228)).trans (hb1.mono (by simp)))
 clear hb1
 cases hm : modelRead L with
 | error q =>
  rw [hm] at hx
  have hx' : e = .returned (.tuple #[.agg #[.slice o1 n1 k1, .slice o2 n2 k2], .int .i64 q]) := hx
  clear hx
  subst hx'
  have HL : Hid (readM s = .error (q, 2)) := by show _ = _; rw [unhide HRM, hm]; rfl
  clear hm HRM
  have rf := fun o => frozen_of_blk (unhide HR1) o
  have rc := fun o => cell_of_blk (unhide HR1) o
  go_wp2_with fail
  refine bodyPost_ret (v := .tuple #[.agg #[.slice none 0 0, .slice none 0 0], .int .i64 q, .int .i64 2]) ?_ rfl ?_
  ·have hfin : (((w1.setCell ⟨w.heap.size, 0, none⟩ (.slice none 0 0)).setCell ⟨w.heap.size, 1, none⟩ (.slice none 0 0)).alloc (.cells #[.slice o1 n1 k1, .slice o2 n2 k2] 228)).heap[w.heap.size]? = some (.cells #[.slice none 0 0, .slice none 0 0] 228 (0, 0)) := (Below.heap_alloc _ _ _ (by simp; omega)).trans (blk_set (blk_set (unhide HR1) 0 _) 1 _)
   clear rc rf
   have rc := fun o => cell_of_blk hfin o
   simp [results, Tryz.results137, go_sem, rc]
  refine ⟨(((unhide HB1).setCell (Nat.le_refl _) _).setCell (Nat.le_refl _) _).alloc (by simp; omega) _, ?_⟩
  rw [unhide HL]; rfl
 | ok m =>
  obtain ⟨al, rs⟩ := m
  rw [hm] at hx
  obtain ⟨rfl, ha, hr⟩ := hx
  have HL : Hid (readM s = if (meets (0, 0) (faults al rs)).2 ≠ 0 then .error (meets (0, 0) (faults al rs)) else if 16 < nodesL rs then .error (s.size, 4) else .ok (al, rs)) := by show _ = _; rw [unhide HRM, hm]; rfl
  have hgd := modelRead_good TkS L al rs hm (unhide HQ)
  have hal : al.length ≤ 401 := by have := hgd.2.2.1; omega
  have hrl : rs.length ≤ 401 := by have := hgd.2.2.2.2; omega
  have HG : Hid (∀ r ∈ rs, RlGood TkS 401 r) := fun r hr => (hgd.2.2.2.1 r hr).mono hll
  have hn1 := ActsAre.len ha
  have hn2 := RowR.len hr
  subst hn1 hn2
  have h0 : RS w ((w1.alloc (.cells #[.slice o1 al.length k1, .slice o2 rs.length k2] 228)).alloc (.cells #[.int .i64 0, .int .i64 0] 284)) w1.heap.size (0, 0) o1 al.length k1 o2 rs.length k2 al rs := by
   have hb2 := ((Below.refl w1.heap.size w1).alloc (Nat.le_refl _) (.cells #[.slice o1 al.length k1, .slice o2 rs.length k2] 228)).alloc (by simp) (.cells #[.int .i64 0, .int .i64 0] 284)
   exact ⟨(hb2.block _ hz1).trans (unhide HR1), (Below.heap_alloc _ _ _ (by simp)).trans (blk_alloc _ _), blk_alloc' _ _ _ (by simp), (KT.below hb2).acts ha, (show RowR w1 _ _ _ _ from hr).later hb2, (unhide HB1).trans (hb2.mono (unhide HB1).size), hz1⟩
  have H0 := hide h0
  have HNE := hide hgd.2.1
  clear ha hr hm hgd h0 HRM HP HR1 HB1 HQ hll
  go_wp2_with fail
  obtain ⟨g, rfl⟩ : ∃ g, o1 = some ⟨g, 0, none⟩ := by
   obtain ⟨t, l, ht⟩ := drop_ne (L := al) (i := 0) (by have := unhide HNE; exact List.length_pos_iff.2 this)
   obtain ⟨g, hgo, _⟩ := (unhide H0).act.tok ht
   exact ⟨g, hgo⟩
  go_loopw [8] (fun v wr => ∃ (i : Nat) (y : Nat × Nat), i ≤ al.length ∧ v = .int .i64 i ∧ RS w wr w1.heap.size y (some ⟨g, 0, none⟩) al.length k1 o2 rs.length k2 al rs ∧ Hid (meets (0, 0) (faults al rs) = meets y (fActs al i (al.drop i) ++ fRules al 0 rs))) (fun v _ => al.length - (intOf v).toNat)
  case atStart => exact ⟨0, _, Nat.zero_le _, rfl, unhide H0, rfl⟩
  case round =>
   clear H0
   obtain ⟨i, y, hi, rfl, hrs, HY⟩ := hrel
   have H1 := hide hrs
   have mc := fun o => cell_of_blk hrs.mbx o
   have hzr : w1.heap.size + 1 < wr.heap.size := lt_of_blk hrs.fbx
   have hzr0 : w1.heap.size < wr.heap.size := by omega
   by_cases hlt : i < al.length
   ·obtain ⟨t, l, ht⟩ := drop_ne hlt
    obtain ⟨g', hgo, hg, -, t0, t1, t2⟩ := hrs.act.tok ht
    cases hgo
    have HT := hide ht
    clear hrs ht
    go_upto_if 46 with fail
    go_cut [] (fun wc => RS w wc w1.heap.size (meets y (fLong t)) (some ⟨g, 0, none⟩) al.length k1 o2 rs.length k2 al rs ∧ wc.heap[wr.heap.size]? = some (.cells #[.int .u8 (refK t.k), .string t.s, .int .i64 t.p] 232 (0, 0)))
    case first =>
     have H2 := hide ((unhide H1).alloc (.cells #[.int .u8 (refK t.k), .string t.s, .int .i64 t.p] 232))
     by_cases hl : 8 < t.s.size
     ·have hL : (8 : Int) < (t.s.size : Int) := by omega
      have HLL := hide (show fLong t = [(t.p, 1)] from if_pos hl)
      clear hl
      go_wp2_with fail
      refine (meets_any _ (w1.heap.size + 1) y t.p 1 (unhide H2).fbx).mono ?_
      rintro e w3 ⟨rfl, hf3, hg3⟩
      have H3 := hide ((unhide H2).call hf3 hg3)
      have HB3 := hide ((hg3.block wr.heap.size (by simp) (by simp; omega)).trans (blk_alloc _ _))
      clear hf3 hg3
      go_wp2_with fail
      go_meet
      rw [unhide HLL]; exact ⟨unhide H3, unhide HB3⟩
     ·have hL : ¬ (8 : Int) < (t.s.size : Int) := by omega
      have HLL := hide (show fLong t = [] from if_neg hl)
      clear hl
      go_wp2_with fail
      go_meet
      rw [unhide HLL]; exact ⟨unhide H2, blk_alloc _ _⟩
    case rest =>
    obtain ⟨hrs2, hbx2⟩ := hcut
    have H2 := hide hrs2
    have HB2 := hide hbx2
    have hzb : wr.heap.size < wc.heap.size := lt_of_blk (unhide HB2)
    clear hrs2 H1 hbx2 t0 t1 t2 mc
    generalize wr.heap.size = b0 at *
    clear hg
    go_wp2_with fail
    go_loopw [10] (fun v wq => ∃ (k : Nat) (z : Nat × Nat), k ≤ i ∧ v = .int .i64 k ∧ RS w wq w1.heap.size z (some ⟨g, 0, none⟩) al.length k1 o2 rs.length k2 al rs ∧ wq.heap[b0]? = some (.cells #[.int .u8 (refK t.k), .string t.s, .int .i64 t.p] 232 (0, 0)) ∧ Hid (meets (meets y (fLong t)) (dups (al.take i) t) = meets z (dups ((al.take i).drop k) t))) (fun v _ => i - (intOf v).toNat)
    case atStart => exact ⟨0, _, Nat.zero_le _, rfl, unhide H2, unhide HB2, rfl⟩
    case round =>
     clear H2 HB2
     obtain ⟨k, z, hk, rfl, hrs3, hbx3, HZ⟩ := hrel
     have H3 := hide hrs3
     have HB3 := hide hbx3
     have mc := fun o => cell_of_blk hrs3.mbx o
     have bc := fun o => cell_of_blk hbx3 o
     have hz3 : b0 < wr.heap.size := lt_of_blk hbx3
     have hz30 : w1.heap.size < wr.heap.size := by omega
     by_cases hki : k < i
     ·obtain ⟨u, l2, hu⟩ := drop_ne (L := al) (i := k) (by omega)
      obtain ⟨g', hgo, hg3, -, u0, u1, u2⟩ := hrs3.act.tok hu
      cases hgo
      have hdu : (al.take i).drop k = u :: ((al.take i).drop (k + 1)) := by
       have h1 : k < (al.take i).length := by simp; omega
       rw [List.drop_eq_getElem_cons h1]
       congr 1
       have h2 : al[k]? = some u := by have := congrArg (fun l => l[0]?) hu; simpa using this
       have h3 : k < al.length := by omega
       rw [List.getElem?_eq_getElem h3] at h2
       rw [List.getElem_take]
       exact Option.some.inj h2
      have HDU := hide (dups_at (a := t) hdu)
      clear hu hdu hrs3 hbx3
      cases he : (u.s.toList == t.s.toList) with
      | true =>
       have HE := hide (beq_iff_eq.1 he)
       go_wp2_with fail
       go_quiet (fail)
       go_wp2_with fail
       refine (meets_any _ (w1.heap.size + 1) z t.p 3 ((unhide H3).later (bdn _ _)).fbx).mono ?_
       rintro e w4 ⟨rfl, hf4, hg4⟩
       have H4 := hide (((unhide H3).later (bdn _ _)).call hf4 hg4)
       have HB4 := hide ((hg4.block b0 (by have := (bdn wr nq).size; omega) (by simp; omega)).trans (((bdn wr nq).block b0 hz3).trans (unhide HB3)))
       clear hf4 hg4
       go_wp2_with fail
       go_roundw
       case rel => exact ⟨k + 1, _, by omega, by go_num, unhide H4, unhide HB4, by show _ = _; rw [unhide HZ, unhide HDU, if_pos (unhide HE)]; rfl⟩
       case measure => simp [intOf]; omega
      | false =>
       have HE := hide (beq_eq_false_iff_ne.1 he)
       go_wp2_with fail
       go_quiet (fail)
       go_wp2_with fail
       go_roundw
       case rel => exact ⟨k + 1, _, by omega, by go_num, (unhide H3).later (bdn _ _), ((bdn wr nq).block b0 hz3).trans (unhide HB3), by show _ = _; rw [unhide HZ, unhide HDU, if_neg (unhide HE)]; rfl⟩
       case measure => simp [intOf]; omega
     ·have hke : k = i := by omega
      subst hke
      have hz : meets (meets y (fLong t)) (dups (al.take k) t) = z := by
       rw [unhide HZ, List.drop_eq_nil_of_le (by simp; omega)]; rfl
      have HN : Hid (meets (0, 0) (faults al rs) = meets z ((if 6 ≤ k then [(t.p, 4)] else []) ++ (fActs al (k + 1) (al.drop (k + 1)) ++ fRules al 0 rs))) := by
       show _ = _
       rw [unhide HY, fActs_at (unhide HT), fAct, ← hz]; simp only [meets_append]
      clear hz HZ HY hrs3 hbx3
      by_cases h6 : 6 ≤ k
      ·have h6' : (6 : Int) ≤ (k : Int) := by omega
       rw [if_pos h6] at HN
       go_wp2_with fail
       refine (meets_any _ (w1.heap.size + 1) z t.p 4 (unhide H3).fbx).mono ?_
       rintro e w4 ⟨rfl, hf4, hg4⟩
       have H4 := hide ((unhide H3).call hf4 hg4)
       clear hf4 hg4
       go_wp2_with fail
       go_roundw
       case rel => exact ⟨k + 1, _, by omega, by go_num, unhide H4, HN⟩
       case measure => simp [intOf]; omega
      ·have h6' : ¬ (6 : Int) ≤ (k : Int) := by omega
       rw [if_neg h6] at HN
       go_wp2_with fail
       go_roundw
       case rel => exact ⟨k + 1, _, by omega, by go_num, unhide H3, HN⟩
       case measure => simp [intOf]; omega
   ·have hie : i = al.length := by omega
    subst hie
    have HY3 : Hid (meets (0, 0) (faults al rs) = meets y (fRules al 0 (rs.drop 0))) := by
     show _ = _
     rw [unhide HY, List.drop_eq_nil_of_le (Nat.le_refl _)]; rfl
    clear HY hrs hlt hi
    go_wp2_with fail
    clear mc hzr hzr0
    go_loopw [11] (fun v wq => ∃ (j : Nat) (z : Nat × Nat), j ≤ rs.length ∧ v = .int .i64 j ∧ RS w wq w1.heap.size z (some ⟨g, 0, none⟩) al.length k1 o2 rs.length k2 al rs ∧ Hid (meets (0, 0) (faults al rs) = meets z (fRules al j (rs.drop j)))) (fun v _ => rs.length - (intOf v).toNat)
    case atStart => exact ⟨0, _, Nat.zero_le _, rfl, unhide H1, HY3⟩
    case round =>
     clear H1 HY3
     obtain ⟨j, z, hj, rfl, hrs3, HZ⟩ := hrel
     have H3 := hide hrs3
     have mc := fun o => cell_of_blk hrs3.mbx o
     have hz3 : w1.heap.size + 1 < wr.heap.size := lt_of_blk hrs3.fbx
     have hz30 : w1.heap.size < wr.heap.size := by omega
     by_cases hjl : j < rs.length
     ·obtain ⟨r, l, hr⟩ : ∃ r l, rs.drop j = r :: l := by
       cases hd : rs.drop j with
       | nil => have := congrArg List.length hd; simp at this; omega
       | cons r l => exact ⟨r, l, rfl⟩
      obtain ⟨g2, hgo, hg2, -, a, b, s', c, o', n', k', d, p, hri, q0, q1, q2, q3, q4, q5, q6⟩ := hrs3.rul.at hr
      have ha := hri.1
      subst hgo ha
      have HRI := hide hri
      have HGR := hide ((unhide HG) r (List.mem_of_mem_drop (i := j) (by rw [hr]; exact List.mem_cons_self)))
      have HFR := hide (fRules_at (al := al) hr)
      clear hri hr hrs3
      go_upto_if 88 with fail
      go_cut [] (fun wc => RS w wc w1.heap.size (meets z (if 4 ≤ j then [(r.pl, 4)] else [])) (some ⟨g, 0, none⟩) al.length k1 (some ⟨g2, 0, none⟩) rs.length k2 al rs ∧ wc.heap[wr.heap.size]? = some (.cells #[.int .i64 r.pl, .int .u8 b, .string s', .int .i64 c, .slice o' n' k', .int .i64 d, .pointer p] 235 (0, 0)) ∧ RlIs wc r r.pl b s' c o' n' k' d p)
      case first =>
       have H4 := hide ((unhide H3).alloc (.cells #[.int .i64 r.pl, .int .u8 b, .string s', .int .i64 c, .slice o' n' k', .int .i64 d, .pointer p] 235))
       have HRI4 := hide ((KT.alloc wr (.cells #[.int .i64 r.pl, .int .u8 b, .string s', .int .i64 c, .slice o' n' k', .int .i64 d, .pointer p] 235)).rl (unhide HRI))
       by_cases hl : 4 ≤ j
       ·have hL : (4 : Int) ≤ (j : Int) := by omega
        have HLL := hide hl
        clear hl
        go_wp2_with fail
        refine (meets_any _ (w1.heap.size + 1) z r.pl 4 (unhide H4).fbx).mono ?_
        rintro e w5 ⟨rfl, hf5, hg5⟩
        have H5 := hide ((unhide H4).call hf5 hg5)
        have HRI5 := hide ((KT.fb (unhide H4).fbx hg5).rl (unhide HRI4))
        have HB5 := hide ((hg5.block wr.heap.size (by simp) (by simp; omega)).trans (blk_alloc _ _))
        clear hf5 hg5
        go_wp2_with fail
        go_meet
        rw [if_pos (unhide HLL)]; exact ⟨unhide H5, unhide HB5, unhide HRI5⟩
       ·have hL : ¬ (4 : Int) ≤ (j : Int) := by omega
        have HLL := hide hl
        clear hl
        go_wp2_with fail
        go_meet
        rw [if_neg (unhide HLL)]; exact ⟨unhide H4, blk_alloc _ _, unhide HRI4⟩
      case rest =>
      obtain ⟨hrs5, hbx5, hri5⟩ := hcut
      have hzb : wr.heap.size < wc.heap.size := lt_of_blk hbx5
      have H5 := hide hrs5
      have HB5 := hide hbx5
      have HRI5 := hide hri5
      have bc := fun o => cell_of_blk hbx5 o
      have hz5 : w1.heap.size < wc.heap.size := by omega
      clear hrs5 hbx5 hri5 H3 HRI mc q0 q1 q2 q3 q4 q5 q6 hg2
      have mc := fun o => cell_of_blk (unhide H5).mbx o
      rcases unhide HGR with ⟨hcall, hwq, _, hfn, x, hxq, hxk, hargs⟩ | ⟨hcall, hfg, _, _⟩
      ·have hp := (unhide HRI5).2
       rw [if_pos hcall] at hp
       obtain ⟨-, hs5, hc5, ho5, hd5, hp5⟩ := hp
       subst hs5 hc5 hd5 hp5
       clear ho5
       have HHC := hide hcall
       have HFN := hide hfn
       have HWS := hide hwq.2
       have HKD : Hid (∀ t ∈ r.args, (t.k = 2 ∨ t.k = 3) ∧ t.s.size ≤ 400 ∧ (t.k = 3 → ∃ e : UInt8, t.s = ⟨#[e]⟩)) := by
        intro t ht
        rcases hargs with ha | ⟨y', hyq, hyk, ha⟩
        ·rw [ha, List.mem_singleton] at ht; subst ht
         exact ⟨Or.inl hxk, hxq.2, fun h => by rw [hxk] at h; cases h⟩
        ·rw [ha] at ht
         rcases List.mem_cons.1 ht with rfl | ht
         ·exact ⟨Or.inl hxk, hxq.2, fun h => by rw [hxk] at h; cases h⟩
         ·rw [List.mem_singleton] at ht; subst ht
          exact ⟨hyk, hyq.2, fun h => by obtain ⟨e, he, _⟩ := dig_ok hyq.1 h; exact ⟨e, he⟩⟩
       have hal2 : r.args.length ≤ 2 ∧ 0 < r.args.length := by
        rcases hargs with ha | ⟨y', hyq, hyk, ha⟩ <;> rw [ha] <;> simp
       clear hcall hfn hwq hxq hxk hargs x
       go_wp2_with fail
       refine (names_any al hal .nil _ _ _ _ _ _ _ (w1.heap.size + 1) _ none (unhide H5).act (unhide H5).fbx rfl (fun _ _ h => False.elim h)).mono ?_
       rintro e w6 ⟨rfl, hf6, hg6⟩
       have H6 := hide ((unhide H5).call hf6 hg6)
       have HB6 := hide ((hg6.block wr.heap.size hzb (by simp; omega)).trans (unhide HB5))
       have HRI6 := hide ((KT.fb (unhide H5).fbx hg6).rl (unhide HRI5))
       have hz6 : wr.heap.size < w6.heap.size := lt_of_blk (unhide HB6)
       have hz60 : w1.heap.size < w6.heap.size := by omega
       clear hf6 hg6 mc bc
       have mc := fun o => cell_of_blk (unhide H6).mbx o
       have bc := fun o => cell_of_blk (unhide HB6) o
       go_wp2_with fail
       refine (arguments_any _ al hal _ _ _ _ _ _ (w1.heap.size + 1) _ r _ _ _ _ _ _ _ _ _ (unhide H6).act (unhide H6).fbx (unhide HRI6) (unhide HHC) hal2.1 hal2.2 (unhide HKD) (unhide HWS)).mono ?_
       rintro e w7 ⟨rfl, hf7, hg7⟩
       have H7 := hide ((unhide H6).call hf7 hg7)
       clear hf7 hg7
       go_wp2_with fail
       go_roundw
       case rel => exact ⟨j + 1, _, by omega, by go_num, unhide H7, by show _ = _; rw [unhide HZ, unhide HFR, fRule, unhide HFN, if_pos (unhide HHC)]; simp only [meets_append]; try rfl⟩
       case measure => simp [intOf]; omega
      ·have hp := (unhide HRI5).2
       rw [if_neg (by simp [hcall])] at hp
       obtain ⟨hif, hsome⟩ := hp
       obtain ⟨pp, rfl⟩ := Option.isSome_iff_exists.1 hsome
       have HIF := hide hif
       have HHC := hide hcall
       have HSZ : Hid (∀ s p, Leaf r.f s p → s.size ≤ 400) := fun s p hl => hfg.leaf_size (fun t ht => ht.2) hl
       clear hif hsome hcall hfg
       go_wp2_with fail
       refine (names_any al hal r.f _ _ _ _ _ _ _ (w1.heap.size + 1) _ _ (unhide H5).act (unhide H5).fbx (unhide HIF) (unhide HSZ)).mono ?_
       rintro e w6 ⟨rfl, hf6, hg6⟩
       have H6 := hide ((unhide H5).call hf6 hg6)
       have HB6 := hide ((hg6.block wr.heap.size hzb (by simp; omega)).trans (unhide HB5))
       have hz6 : wr.heap.size < w6.heap.size := lt_of_blk (unhide HB6)
       clear hf6 hg6 mc bc
       have bc := fun o => cell_of_blk (unhide HB6) o
       go_wp2_with fail
       go_roundw
       case rel => exact ⟨j + 1, _, by omega, by go_num, unhide H6, by show _ = _; rw [unhide HZ, unhide HFR, fRule, if_neg (show ¬ r.call = true by simp [unhide HHC])]; simp only [meets_append, List.append_nil]⟩
       case measure => simp [intOf]; omega
     ·have hje : j = rs.length := by omega
      subst hje
      have HZE : Hid (meets (0, 0) (faults al rs) = z) := by
       show _ = _
       rw [unhide HZ, List.drop_eq_nil_of_le (Nat.le_refl _)]; rfl
      have fc := fun o => cell_of_blk hrs3.fbx o
      have rc := fun o => cell_of_blk hrs3.rbx o
      have rf := fun o => frozen_of_blk hrs3.rbx o
      clear HZ hjl hj hrs3
      rw [unhide HZE] at HL
      by_cases hx : z.2 = 0
      ·have hx' : ((z.2 : Nat) : Int) = 0 := by omega
       rw [if_neg (by simp [hx])] at HL
       have HFN : Hid (faults al rs = []) := meets_zero (faults_errs al rs) (by rw [unhide HZE]; exact hx)
       have HOK : Hid (∀ r ∈ rs, r.call = true → CallOk r) := fun r hr hc => call_ok (fun t h => h.1) ((unhide HG) r hr) hc ((fRules_nil (List.append_eq_nil_iff.1 (unhide HFN)).2 r hr).2 hc)
       have HSZ : Hid (∀ r ∈ rs, sizeF (ruleF r) ≤ 449) := fun r hr => by have := ruleF_size ((unhide HG) r hr) ((unhide HOK) r hr); omega
       clear HFN hx HZE
       go_wp2_with fail
       refine (Formulas_any _ _ _ _ _ _ _ rs (unhide H3).rul hrl (unhide HOK)).mono ?_
       rintro e w5 ⟨v5, ps, rfl, hown5, hfs5, hb5⟩
       have H5 := hide ((unhide H3).later hb5)
       obtain ⟨o5, c5, rfl⟩ := owns_val hown5
       have HO5 := hide hown5
       have HF5 := hide hfs5
       clear hown5 hfs5 hb5 mc fc rc rf hz3 hz30 H3 hx'
       go_wp2_with fail
       go_loopw [13, 15] (fun va vb wq => ∃ (j : Nat), j ≤ rs.length ∧ va = .int .i64 (nodesL (rs.take j)) ∧ vb = .int .i64 j ∧ Below w5.heap.size w5 wq) (fun _ v _ => rs.length - (intOf v).toNat)
       case atStart => exact ⟨0, Nat.zero_le _, rfl, rfl, Below.refl _ _⟩
       case round =>
        obtain ⟨j, hj, rfl, rfl, hbel⟩ := hrel
        have HBEL := hide hbel
        by_cases hjl : j < rs.length
        ·obtain ⟨r, l, hr⟩ : ∃ r l, rs.drop j = r :: l := by
          cases hd : rs.drop j with
          | nil => have := congrArg List.length hd; simp at this; omega
          | cons r l => exact ⟨r, l, rfl⟩
         obtain ⟨g5, hgo, hg5, hcl⟩ := owns1_at (owns_later (unhide HO5) hbel) hjl
         obtain ⟨p, hp, hif⟩ := ((unhide HF5).later hbel).at hr
         subst hgo
         rw [List.getElem?_map, hp] at hcl
         have hcl' : wr.cell? ⟨g5, j, none⟩ = some (.pointer p) := hcl
         have hszr := (unhide HSZ) r (List.mem_of_mem_drop (i := j) (by rw [hr]; exact List.mem_cons_self))
         have hsum : nodesL (rs.take j) ≤ 401 * 449 := by
          have h1 := nodesL_le 449 (rs.take j) (fun x hx => (unhide HSZ) x (List.mem_of_mem_take hx))
          have h2 : (rs.take j).length ≤ 401 := by simp; omega
          exact Nat.le_trans h1 (Nat.mul_le_mul_right _ h2)
         have HSN : Hid (nodesL (rs.take (j + 1)) = nodesL (rs.take j) + sizeF (ruleF r)) := by
          show _ = _
          rw [take_snoc hr, nodesL_append]; rfl
         have HIF := hide hif
         clear hif hr hp hcl hbel
         generalize nodesL (rs.take j) = N at *
         go_wp2_with fail
         refine (size_any (ruleF r) _ _ (unhide HIF) (by omega)).mono ?_
         rintro e w6 ⟨rfl, n6, rfl⟩
         generalize sizeF (ruleF r) = M at *
         go_wp2_with fail
         go_roundw
         case rel => exact ⟨j + 1, by omega, by rw [unhide HSN]; go_num, by go_num, (unhide HBEL).trans ((bdn wr n6).mono (unhide HBEL).size)⟩
         case measure => simp [intOf]; omega
        ·have hje : j = rs.length := by omega
         subst hje
         clear hjl hj
         have hsum : nodesL rs ≤ 401 * 449 := by
          have h1 := nodesL_le 449 rs (unhide HSZ)
          exact Nat.le_trans h1 (Nat.mul_le_mul_right _ hrl)
         rw [List.take_length]
         have H6 := hide ((unhide H5).later hbel)
         clear hbel HBEL
         have mc := fun o => cell_of_blk (unhide H6).mbx o
         have rc := fun o => cell_of_blk (unhide H6).rbx o
         have rf := fun o => frozen_of_blk (unhide H6).rbx o
         have hz6 : w1.heap.size + 1 < wr.heap.size := lt_of_blk (unhide H6).fbx
         have hz60 : w1.heap.size < wr.heap.size := by omega
         by_cases h16 : 16 < nodesL rs
         ·rw [if_pos h16] at HL
          have h16' : (16 : Int) < (nodesL rs : Int) := by omega
          go_wp2_with fail
          have hfin : ((wr.setCell ⟨w.heap.size, 0, none⟩ (.slice none 0 0)).setCell ⟨w.heap.size, 1, none⟩ (.slice none 0 0)).heap[w.heap.size]? = some (.cells #[.slice none 0 0, .slice none 0 0] 228 (0, 0)) := blk_set (blk_set (unhide H6).rbx 0 _) 1 _
          clear rc rf mc
          have rc := fun o => cell_of_blk hfin o
          refine bodyPost_ret (v := .tuple #[.agg #[.slice none 0 0, .slice none 0 0], .int .i64 s.size, .int .i64 4]) (by simp [results, Tryz.results137, go_sem, rc]) rfl ?_
          refine ⟨((unhide H6).bel.setCell (Nat.le_refl _) _).setCell (Nat.le_refl _) _, ?_⟩
          rw [unhide HL]; rfl
         ·rw [if_neg h16] at HL
          have h16' : ¬ (16 : Int) < (nodesL rs : Int) := by omega
          go_wp2_with fail
          have hfin : ((wr.setCell ⟨w.heap.size, 0, none⟩ (.slice (some ⟨g, 0, none⟩) al.length k1)).setCell ⟨w.heap.size, 1, none⟩ (.slice o2 rs.length k2)).heap[w.heap.size]? = some (.cells #[.slice (some ⟨g, 0, none⟩) al.length k1, .slice o2 rs.length k2] 228 (0, 0)) := blk_set (blk_set (unhide H6).rbx 0 _) 1 _
          clear rc rf mc
          have rc := fun o => cell_of_blk hfin o
          refine bodyPost_ret (v := .tuple #[.agg #[.slice (some ⟨g, 0, none⟩) al.length k1, .slice o2 rs.length k2], .int .i64 0, .int .i64 0]) (by simp [results, Tryz.results137, go_sem, rc]) rfl ?_
          refine ⟨((unhide H6).bel.setCell (Nat.le_refl _) _).setCell (Nat.le_refl _) _, ?_⟩
          have hg9 := (grown_set wr w.heap.size 0 (.slice (some ⟨g, 0, none⟩) al.length k1)).trans (grown_set _ w.heap.size 1 (.slice o2 rs.length k2))
          have hk9 := KT.grown hg9 ⟨_, _, (unhide H6).rbx⟩ (by decide) (by decide)
          rw [unhide HL]
          exact ⟨_, _, _, _, _, _, rfl, hk9.acts (unhide H6).act, (unhide H6).rul.keepTy hk9 (unhide H6).rbx (by decide) hg9⟩
      ·have hx' : ¬ ((z.2 : Nat) : Int) = 0 := by omega
       rw [if_pos hx] at HL
       go_wp2_with fail
       go_region
       go_wp2_with fail
       have hfin : ((wr.setCell ⟨w.heap.size, 0, none⟩ (.slice none 0 0)).setCell ⟨w.heap.size, 1, none⟩ (.slice none 0 0)).heap[w.heap.size]? = some (.cells #[.slice none 0 0, .slice none 0 0] 228 (0, 0)) := blk_set (blk_set (unhide H3).rbx 0 _) 1 _
       have hfin' : ((wr.setCell ⟨w.heap.size, 0, none⟩ (.slice none 0 0)).setCell ⟨w.heap.size, 1, none⟩ (.slice none 0 0)).drew.heap[w.heap.size]? = some (.cells #[.slice none 0 0, .slice none 0 0] 228 (0, 0)) := hfin
       clear rc rf mc fc
       have rc := fun o => cell_of_blk hfin' o
       refine bodyPost_ret (v := .tuple #[.agg #[.slice none 0 0, .slice none 0 0], .int .i64 z.1, .int .i64 z.2]) (by simp [results, Tryz.results137, go_sem, rc]) rfl ?_
       refine ⟨(((unhide H3).bel.setCell (Nat.le_refl _) _).setCell (Nat.le_refl _) _).drew, ?_⟩
       rw [unhide HL]
theorem readM_err {s : ByteArray} {x : Nat × Nat} (h : readM s = .error x) : x.2 ≠ 0 := by
 unfold readM at h
 split at h
 ·cases h; exact (by decide : (1 : Nat) ≠ 0)
 ·cases hm : modelRead (lexR s (s.size + 1) 0) with
  | error q => rw [hm] at h; cases h; exact (by decide : (2 : Nat) ≠ 0)
  | ok m =>
   obtain ⟨al, rs⟩ := m
   rw [hm, rdOf] at h
   split at h
   ·rename_i h0; cases h; exact h0
   ·split at h
    ·cases h; exact (by decide : (4 : Nat) ≠ 0)
    ·cases h
structure MGood (al : List Tk) (rs : List Rl) : Prop where
 acts : ∀ t ∈ al, TkS t ∧ t.k = 2
 ne : al ≠ []
 alen : al.length ≤ 401
 rules : ∀ r ∈ rs, RlGood TkS 401 r
 rlen : rs.length ≤ 401
 nof : faults al rs = []
 nodes : nodesL rs ≤ 16
theorem readM_good {s : ByteArray} {al : List Tk} {rs : List Rl} (h : readM s = .ok (al, rs)) : MGood al rs := by
 unfold readM at h
 split at h
 ·cases h
 ·rename_i hs
  cases hm : modelRead (lexR s (s.size + 1) 0) with
  | error q => rw [hm] at h; cases h
  | ok m =>
   obtain ⟨al', rs'⟩ := m
   rw [hm, rdOf] at h
   split at h
   ·cases h
   ·rename_i h0
    split at h
    ·cases h
    ·rename_i h16
     cases h
     have hll : (lexR s (s.size + 1) 0).length ≤ 401 := by have := lexR_len s (s.size + 1) 0 (Nat.zero_le _); omega
     have hg := modelRead_good TkS _ _ _ hm (fun t ht => ⟨lexR_ok s _ _ t ht, by have := lexR_small s _ 0 (Nat.zero_le _) t ht; omega⟩)
     exact ⟨hg.1, hg.2.1, by have := hg.2.2.1; omega, fun r hr => (hg.2.2.2.1 r hr).mono hll, by have := hg.2.2.2.2; omega, meets_zero (faults_errs _ _) (by simpa using h0), by omega⟩
theorem num_any (a : Int) (w : World) : Calls Tryz.prog 93 #[.int .i64 a] w fun e w' => e = .returned (.int .i64 a) ∧ w' = w := by
 go_enter Tryz.func93, Tryz.ntmps93
 go_wp2_with fail
 go_ret
 exact ⟨rfl, rfl⟩
def opC (p q : Option Addr) : Array Value := #[.int .i64 1, .int .i64 0, .string ⟨#[97, 99, 116, 115, 32, 97, 44, 98, 59, 114, 117, 108, 101, 32, 114, 101, 115, 112, 111, 110, 115, 101, 40, 97, 44, 98, 41, 59]⟩, .string ⟨#[]⟩, .slice none 0 0, .slice none 0 0, .slice none 0 0, .int .i64 1, .int .i64 0, .string ⟨#[97, 99, 116, 115, 32, 97]⟩, .string ⟨#[]⟩, .slice none 0 0, .slice none 0 0, .slice none 0 0, .int .i64 2, .int .i64 0, .string ⟨#[97, 99, 116, 115, 32, 97, 44, 98, 59, 114, 117, 108, 101, 32, 114, 101, 115, 112, 111, 110, 115, 101, 40, 97, 44, 98, 41, 59]⟩, .string ⟨#[]⟩, .slice p 2 2, .slice none 0 0, .slice none 0 0, .int .i64 2, .int .i64 0, .string ⟨#[97, 99, 116, 115, 32, 97, 44, 98, 59, 114, 117, 108, 101, 32, 114, 101, 115, 112, 111, 110, 115, 101, 40, 97, 44, 98, 41, 59]⟩, .string ⟨#[]⟩, .slice q 1 1, .slice none 0 0, .slice none 0 0, .int .i64 3, .int .i64 0, .string ⟨#[97, 99, 116, 115, 32, 97, 44, 98, 59, 114, 117, 108, 101, 32, 114, 101, 115, 112, 111, 110, 115, 101, 40, 97, 44, 98, 41, 59]⟩, .string ⟨#[]⟩, .slice none 0 0, .slice none 0 0, .slice none 0 0, .int .i64 3, .int .i64 0, .string ⟨#[97, 99, 116, 115]⟩, .string ⟨#[]⟩, .slice none 0 0, .slice none 0 0, .slice none 0 0, .int .i64 4, .int .i64 0, .string ⟨#[]⟩, .string ⟨#[]⟩, .slice none 0 0, .slice none 0 0, .slice none 0 0, .int .i64 5, .int .i64 0, .string ⟨#[97, 99, 116, 115, 32, 97, 44, 98, 59, 114, 117, 108, 101, 32, 114, 101, 115, 112, 111, 110, 115, 101, 40, 97, 44, 98, 41, 59]⟩, .string ⟨#[]⟩, .slice none 0 0, .slice none 0 0, .slice none 0 0, .int .i64 6, .int .i64 0, .string ⟨#[83]⟩, .string ⟨#[]⟩, .slice none 0 0, .slice none 0 0, .slice none 0 0, .int .i64 7, .int .i64 0, .string ⟨#[97, 99, 116, 115, 32, 97, 44, 98, 59, 114, 117, 108, 101, 32, 114, 101, 115, 112, 111, 110, 115, 101, 40, 97, 44, 98, 41, 59]⟩, .string ⟨#[]⟩, .slice none 0 0, .slice none 0 0, .slice none 0 0, .int .i64 8, .int .i64 0, .string ⟨#[]⟩, .string ⟨#[]⟩, .slice none 0 0, .slice none 0 0, .slice none 0 0, .int .i64 9, .int .i64 0, .string ⟨#[97, 99, 116, 115, 32, 97, 44, 98, 59, 114, 117, 108, 101, 32, 114, 101, 115, 112, 111, 110, 115, 101, 40, 97, 44, 98, 41, 59]⟩, .string ⟨#[]⟩, .slice none 0 0, .slice none 0 0, .slice none 0 0, .int .i64 10, .int .i64 0, .string ⟨#[120]⟩, .string ⟨#[]⟩, .slice none 0 0, .slice none 0 0, .slice none 0 0, .int .i64 11, .int .i64 0, .string ⟨#[120]⟩, .string ⟨#[97]⟩, .slice none 0 0, .slice none 0 0, .slice none 0 0, .int .i64 12, .int .i64 0, .string ⟨#[120]⟩, .string ⟨#[]⟩, .slice none 0 0, .slice none 0 0, .slice none 0 0, .int .i64 13, .int .i64 0, .string ⟨#[120]⟩, .string ⟨#[]⟩, .slice none 0 0, .slice none 0 0, .slice none 0 0, .int .i64 14, .int .i64 0, .string ⟨#[120]⟩, .string ⟨#[]⟩, .slice none 0 0, .slice none 0 0, .slice none 0 0, .int .i64 15, .int .i64 0, .string ⟨#[]⟩, .string ⟨#[]⟩, .slice none 0 0, .slice none 0 0, .slice none 0 0]
set_option maxHeartbeats 2000000 in
set_option maxRecDepth 100000 in
theorem opening_any (w : World) : Calls Tryz.prog 35 #[] w fun e w' => e = .returned (.slice (some ⟨w.heap.size + 2, 0, none⟩) 18 18) ∧ w' = ((w.alloc (.cells #[.string ⟨#[97]⟩, .string ⟨#[98]⟩] 9)).alloc (.cells #[.string ⟨#[99]⟩] 9)).alloc (.cells (opC (some ⟨w.heap.size, 0, none⟩) (some ⟨w.heap.size + 1, 0, none⟩)) 74) := by
 go_enter Tryz.func35, Tryz.ntmps35
 go_wp2_with fail
 go_ret
 exact ⟨rfl, rfl⟩
def exI (u v : Nat → Bool) : Nat → Nat → Bool
 | 0, _ => false
 | c + 1, i => v i || (u i && exI u v c (i + 1))
def alI (u : Nat → Bool) : Nat → Nat → Bool
 | 0, _ => true
 | c + 1, i => u i && alI u c (i + 1)
set_option maxHeartbeats 1000000 in
set_option maxRecDepth 100000 in
theorem always_any (w : World) (u : Nat → Bool) (g ng cg i n : Nat) (hu : ∀ k, i ≤ k → k ≤ n → w.cell? ⟨g, k, none⟩ = some (.bool (u k))) (hn : n < ng) (hc : ng ≤ 100000000000000) (hi : i ≤ n + 1) :
  Calls Tryz.prog 206 #[.slice (some ⟨g, 0, none⟩) ng cg, .int .i64 i, .int .i64 n] w fun e w' => e = .returned (.bool (alI u (n + 1 - i) i)) ∧ w' = w := by
 have HU := hide hu
 clear hu
 go_enter Tryz.func206, Tryz.ntmps206
 go_wp2_with fail
 go_loopw [7] (fun v wr => ∃ k : Nat, v = .int .i64 (k : Int) ∧ i ≤ k ∧ k ≤ n + 1 ∧ Hid (alI u (n + 1 - i) i = alI u (n + 1 - k) k) ∧ Hid (w = wr)) (fun v _ => n + 1 - (intOf v).toNat)
 case atStart => exact ⟨i, rfl, Nat.le_refl _, hi, rfl, rfl⟩
 case round =>
  obtain ⟨k, rfl, hik, hkn, HA, HW⟩ := hrel
  have hw := unhide HW
  subst hw
  clear HW
  by_cases hlt : k ≤ n
  ·have ck := unhide HU k hik hlt
   have hle : (k : Int) ≤ (n : Int) := by omega
   have HS : Hid (alI u (n + 1 - k) k = (u k && alI u (n + 1 - (k + 1)) (k + 1))) := by
    show _ = _
    rw [show n + 1 - k = (n + 1 - (k + 1)) + 1 by omega, alI]
   cases hb : u k with
   | false =>
    rw [hb] at ck
    have HF : Hid (alI u (n + 1 - i) i = false) := by show _ = _; rw [unhide HA, unhide HS, hb]; rfl
    clear HA HS hb
    go_wp2_with fail
    go_ret
    rw [unhide HF]
    exact ⟨rfl, rfl⟩
   | true =>
    rw [hb] at ck
    have HF : Hid (alI u (n + 1 - i) i = alI u (n + 1 - (k + 1)) (k + 1)) := by show _ = _; rw [unhide HA, unhide HS, hb]; rfl
    clear HA HS hb
    go_wp2_with fail
    go_roundw
    case rel => exact ⟨k + 1, by go_num, by omega, by omega, HF, trivial⟩
    case measure => simp [intOf]; omega
  ·have hle : ¬ (k : Int) ≤ (n : Int) := by omega
   have HF : Hid (alI u (n + 1 - i) i = true) := by show _ = _; rw [unhide HA, show n + 1 - k = 0 by omega]; rfl
   clear HA
   go_wp2_with fail
   go_ret
   rw [unhide HF]
   exact ⟨rfl, rfl⟩
set_option maxHeartbeats 1000000 in
set_option maxRecDepth 100000 in
theorem exists_nil (w : World) (v : Nat → Bool) (g ng cg i n : Nat) (hv : ∀ k, i ≤ k → k ≤ n → w.cell? ⟨g, k, none⟩ = some (.bool (v k))) (hn : n < ng) (hc : ng ≤ 100000000000000) (hi : i ≤ n + 1) :
  Calls Tryz.prog 205 #[.slice none 0 0, .slice (some ⟨g, 0, none⟩) ng cg, .int .i64 i, .int .i64 n] w fun e w' => e = .returned (.bool (exI (fun _ => true) v (n + 1 - i) i)) ∧ w' = w := by
 have HV := hide hv
 clear hv
 go_enter Tryz.func205, Tryz.ntmps205
 go_wp2_with fail
 go_loopw [9] (fun x wr => ∃ k : Nat, x = .int .i64 (k : Int) ∧ i ≤ k ∧ k ≤ n + 1 ∧ Hid (exI (fun _ => true) v (n + 1 - i) i = exI (fun _ => true) v (n + 1 - k) k) ∧ Hid (w = wr)) (fun v _ => n + 1 - (intOf v).toNat)
 case atStart => exact ⟨i, rfl, Nat.le_refl _, hi, rfl, rfl⟩
 case round =>
  obtain ⟨k, rfl, hik, hkn, HA, HW⟩ := hrel
  have hw := unhide HW
  subst hw
  clear HW
  by_cases hlt : k ≤ n
  ·have ck := unhide HV k hik hlt
   have hle : (k : Int) ≤ (n : Int) := by omega
   have HS : Hid (exI (fun _ => true) v (n + 1 - k) k = (v k || exI (fun _ => true) v (n + 1 - (k + 1)) (k + 1))) := by
    show _ = _
    rw [show n + 1 - k = (n + 1 - (k + 1)) + 1 by omega, exI, Bool.true_and]
   cases hb : v k with
   | true =>
    rw [hb] at ck
    have HF : Hid (exI (fun _ => true) v (n + 1 - i) i = true) := by show _ = _; rw [unhide HA, unhide HS, hb]; rfl
    clear HA HS hb
    go_wp2_with fail
    go_ret
    rw [unhide HF]
    exact ⟨rfl, rfl⟩
   | false =>
    rw [hb] at ck
    have HF : Hid (exI (fun _ => true) v (n + 1 - i) i = exI (fun _ => true) v (n + 1 - (k + 1)) (k + 1)) := by show _ = _; rw [unhide HA, unhide HS, hb]; rfl
    clear HA HS hb
    go_wp2_with fail
    go_roundw
    case rel => exact ⟨k + 1, by go_num, by omega, by omega, HF, trivial⟩
    case measure => simp [intOf]; omega
  ·have hle : ¬ (k : Int) ≤ (n : Int) := by omega
   have HF : Hid (exI (fun _ => true) v (n + 1 - i) i = false) := by show _ = _; rw [unhide HA, show n + 1 - k = 0 by omega]; rfl
   clear HA
   go_wp2_with fail
   go_ret
   rw [unhide HF]
   exact ⟨rfl, rfl⟩
set_option maxHeartbeats 1000000 in
set_option maxRecDepth 100000 in
theorem exists_any (w : World) (u v : Nat → Bool) (b nb cb g ng cg i n : Nat) (hu : ∀ k, i ≤ k → k ≤ n → w.cell? ⟨b, k, none⟩ = some (.bool (u k))) (hv : ∀ k, i ≤ k → k ≤ n → w.cell? ⟨g, k, none⟩ = some (.bool (v k))) (hnb : n < nb) (hn : n < ng) (hcb : nb ≤ 100000000000000) (hi : i ≤ n + 1) :
  Calls Tryz.prog 205 #[.slice (some ⟨b, 0, none⟩) nb cb, .slice (some ⟨g, 0, none⟩) ng cg, .int .i64 i, .int .i64 n] w fun e w' => e = .returned (.bool (exI u v (n + 1 - i) i)) ∧ w' = w := by
 have HU := hide hu
 have HV := hide hv
 clear hv hu
 go_enter Tryz.func205, Tryz.ntmps205
 go_wp2_with fail
 go_loopw [9] (fun x wr => ∃ k : Nat, x = .int .i64 (k : Int) ∧ i ≤ k ∧ k ≤ n + 1 ∧ Hid (exI u v (n + 1 - i) i = exI u v (n + 1 - k) k) ∧ Hid (w = wr)) (fun v _ => n + 1 - (intOf v).toNat)
 case atStart => exact ⟨i, rfl, Nat.le_refl _, hi, rfl, rfl⟩
 case round =>
  obtain ⟨k, rfl, hik, hkn, HA, HW⟩ := hrel
  have hw := unhide HW
  subst hw
  clear HW
  by_cases hlt : k ≤ n
  ·have ck := unhide HV k hik hlt
   have cu := unhide HU k hik hlt
   have hle : (k : Int) ≤ (n : Int) := by omega
   have HS : Hid (exI u v (n + 1 - k) k = (v k || (u k && exI u v (n + 1 - (k + 1)) (k + 1)))) := by
    show _ = _
    rw [show n + 1 - k = (n + 1 - (k + 1)) + 1 by omega, exI]
   cases hb : v k with
   | true =>
    rw [hb] at ck
    have HF : Hid (exI u v (n + 1 - i) i = true) := by show _ = _; rw [unhide HA, unhide HS, hb]; rfl
    clear HA HS hb cu
    go_wp2_with fail
    go_ret
    rw [unhide HF]
    exact ⟨rfl, rfl⟩
   | false =>
    rw [hb] at ck
    cases hb2 : u k with
    | false =>
     rw [hb2] at cu
     have HF : Hid (exI u v (n + 1 - i) i = false) := by show _ = _; rw [unhide HA, unhide HS, hb, hb2]; rfl
     clear HA HS hb hb2
     go_wp2_with fail
     go_ret
     rw [unhide HF]
     exact ⟨rfl, rfl⟩
    | true =>
     rw [hb2] at cu
     have HF : Hid (exI u v (n + 1 - i) i = exI u v (n + 1 - (k + 1)) (k + 1)) := by show _ = _; rw [unhide HA, unhide HS, hb, hb2]; rfl
     clear HA HS hb hb2
     go_wp2_with fail
     go_roundw
     case rel => exact ⟨k + 1, by go_num, by omega, by omega, HF, trivial⟩
     case measure => simp [intOf]; omega
  ·have hle : ¬ (k : Int) ≤ (n : Int) := by omega
   have HF : Hid (exI u v (n + 1 - i) i = false) := by show _ = _; rw [unhide HA, show n + 1 - k = 0 by omega]; rfl
   clear HA
   go_wp2_with fail
   go_ret
   rw [unhide HF]
   exact ⟨rfl, rfl⟩
def opV (k : Nat) (y : Bool) (u v : Nat → Bool) (i n : Nat) : Bool :=
 if k = 0 then y else if k = 1 then true else if k = 2 then false else if k = 3 then decide (n < i) else if k = 4 then !u i
 else if k = 5 then decide (i + 1 ≤ n) && u (i + 1) else if k = 6 then decide (n < i + 1) || u (i + 1)
 else if k = 7 then exI (fun _ => true) u (n + 1 - i) i else if k = 8 then alI u (n + 1 - i) i else if k = 9 then exI u v (n + 1 - i) i
 else if k = 10 then u i && v i else if k = 11 then u i || v i else !u i || v i
structure NdAt (w : World) (nb k : Nat) (op : Int) (a b t : Int) : Prop where
 ex : ∃ g0 n0 c0 g1 n1 c1 g2 n2 c2 g3 n3 c3 x, w.heap[nb]? = some (.cells #[.slice (some ⟨g0, 0, none⟩) n0 c0, .slice (some ⟨g1, 0, none⟩) n1 c1, .slice (some ⟨g2, 0, none⟩) n2 c2, .slice (some ⟨g3, 0, none⟩) n3 c3, x] 294 (0, 0)) ∧
  k < n0 ∧ k < n1 ∧ k < n2 ∧ k < n3 ∧ w.cell? ⟨g0, k, none⟩ = some (.int .u8 op) ∧ w.cell? ⟨g1, k, none⟩ = some (.int .i64 a) ∧ w.cell? ⟨g2, k, none⟩ = some (.int .i64 b) ∧ w.cell? ⟨g3, k, none⟩ = some (.int .i64 t)
structure RowB (w : World) (n : Nat) (u : Nat → Bool) (g m c : Nat) : Prop where
 len : n + 2 ≤ m
 top : m ≤ 100000000000000
 at_ : ∀ i, 1 ≤ i → i ≤ n + 1 → w.cell? ⟨g, i, none⟩ = some (.bool (u i))
set_option maxHeartbeats 2000000 in
set_option maxRecDepth 100000 in
theorem at_true (w : World) (nb k : Nat) (t : Int) (j n : Nat) (tt : Option Addr) (tc : Nat) (bel : Value) (_hj : j ≤ n) (_hn : n ≤ 10000000000000)
  (hN : NdAt w nb k (refO 1) (-1) (-1) t) :
  Calls Tryz.prog 180 #[.pointer (some ⟨nb, 0, none⟩), .int .i64 k, .int .i64 (j + 1 : Nat), (.slice tt n tc), bel] w fun e w' => e = .returned (.bool (opV 1 false (fun _ => true) (fun _ => true) (j + 1) n)) ∧ ∃ d, w' = w.drewN d := by
 obtain ⟨g0, n0, c0, g1, n1, c1, g2, n2, c2, g3, n3, c3, x, hb, k0, k1, k2, k3, e0, e1, e2, e3⟩ := hN.ex
 have bc := fun o => cell_of_blk hb o
 clear hb hN
 replace e0 : w.cell? ⟨g0, k, none⟩ = some (.int .u8 116) := e0
 go_enter Tryz.func180, Tryz.ntmps180
 go_wp2_with fail
 go_ret
 exact ⟨rfl, 0, rfl⟩
set_option maxHeartbeats 2000000 in
set_option maxRecDepth 100000 in
theorem at_false (w : World) (nb k : Nat) (t : Int) (j n : Nat) (tt : Option Addr) (tc : Nat) (bel : Value) (_hj : j ≤ n) (_hn : n ≤ 10000000000000)
  (hN : NdAt w nb k (refO 2) (-1) (-1) t) :
  Calls Tryz.prog 180 #[.pointer (some ⟨nb, 0, none⟩), .int .i64 k, .int .i64 (j + 1 : Nat), (.slice tt n tc), bel] w fun e w' => e = .returned (.bool (opV 2 false (fun _ => true) (fun _ => true) (j + 1) n)) ∧ ∃ d, w' = w.drewN d := by
 obtain ⟨g0, n0, c0, g1, n1, c1, g2, n2, c2, g3, n3, c3, x, hb, k0, k1, k2, k3, e0, e1, e2, e3⟩ := hN.ex
 have bc := fun o => cell_of_blk hb o
 clear hb hN
 replace e0 : w.cell? ⟨g0, k, none⟩ = some (.int .u8 102) := e0
 go_enter Tryz.func180, Tryz.ntmps180
 go_wp2_with fail
 go_ret
 exact ⟨rfl, 0, rfl⟩
set_option maxHeartbeats 2000000 in
set_option maxRecDepth 100000 in
theorem at_end (w : World) (nb k : Nat) (t : Int) (j n : Nat) (tt : Option Addr) (tc : Nat) (bel : Value) (_hj : j ≤ n) (_hn : n ≤ 10000000000000)
  (hN : NdAt w nb k (refO 3) (-1) (-1) t) :
  Calls Tryz.prog 180 #[.pointer (some ⟨nb, 0, none⟩), .int .i64 k, .int .i64 (j + 1 : Nat), (.slice tt n tc), bel] w fun e w' => e = .returned (.bool (opV 3 false (fun _ => true) (fun _ => true) (j + 1) n)) ∧ ∃ d, w' = w.drewN d := by
 obtain ⟨g0, n0, c0, g1, n1, c1, g2, n2, c2, g3, n3, c3, x, hb, k0, k1, k2, k3, e0, e1, e2, e3⟩ := hN.ex
 have bc := fun o => cell_of_blk hb o
 clear hb hN
 replace e0 : w.cell? ⟨g0, k, none⟩ = some (.int .u8 101) := e0
 go_enter Tryz.func180, Tryz.ntmps180
 go_wp2_with fail
 go_ret
 refine ⟨?_, 0, rfl⟩
 simp [opV]; omega
set_option maxHeartbeats 2000000 in
set_option maxRecDepth 100000 in
theorem at_not (w : World) (nb k : Nat) (t : Int) (j n : Nat) (tt : Option Addr) (tc : Nat) (bg bn bcap : Nat) (ka : Nat) (ua uc : Nat) (u : Nat → Bool) (um : Nat) (hka : w.cell? ⟨bg, ka, none⟩ = some (.slice (some ⟨ua, 0, none⟩) um uc)) (hkl : ka < bn) (hu : RowB w n u ua um uc) (_hj : j ≤ n) (_hn : n ≤ 10000000000000)
  (hN : NdAt w nb k (refO 4) (ka : Nat) (-1) t) :
  Calls Tryz.prog 180 #[.pointer (some ⟨nb, 0, none⟩), .int .i64 k, .int .i64 (j + 1 : Nat), (.slice tt n tc), (.slice (some ⟨bg, 0, none⟩) bn bcap)] w fun e w' => e = .returned (.bool (opV 4 false u (fun _ => true) (j + 1) n)) ∧ ∃ d, w' = w.drewN d := by
 obtain ⟨g0, n0, c0, g1, n1, c1, g2, n2, c2, g3, n3, c3, x, hb, k0, k1, k2, k3, e0, e1, e2, e3⟩ := hN.ex
 have bc := fun o => cell_of_blk hb o
 clear hb hN
 replace e0 : w.cell? ⟨g0, k, none⟩ = some (.int .u8 33) := e0
 have hum := hu.len
 have hut := hu.top
 have HU := hide hu.at_
 have cu := unhide HU (j + 1) (by omega) (by omega)
 clear hu
 go_enter Tryz.func180, Tryz.ntmps180
 go_wp2_with fail
 go_ret
 refine ⟨?_, 0, rfl⟩
 simp [opV]
set_option maxHeartbeats 2000000 in
set_option maxRecDepth 100000 in
theorem at_next (w : World) (nb k : Nat) (t : Int) (j n : Nat) (tt : Option Addr) (tc : Nat) (bg bn bcap : Nat) (ka : Nat) (ua uc : Nat) (u : Nat → Bool) (um : Nat) (hka : w.cell? ⟨bg, ka, none⟩ = some (.slice (some ⟨ua, 0, none⟩) um uc)) (hkl : ka < bn) (hu : RowB w n u ua um uc) (_hj : j ≤ n) (_hn : n ≤ 10000000000000)
  (hN : NdAt w nb k (refO 5) (ka : Nat) (-1) t) :
  Calls Tryz.prog 180 #[.pointer (some ⟨nb, 0, none⟩), .int .i64 k, .int .i64 (j + 1 : Nat), (.slice tt n tc), (.slice (some ⟨bg, 0, none⟩) bn bcap)] w fun e w' => e = .returned (.bool (opV 5 false u (fun _ => true) (j + 1) n)) ∧ ∃ d, w' = w.drewN d := by
 obtain ⟨g0, n0, c0, g1, n1, c1, g2, n2, c2, g3, n3, c3, x, hb, k0, k1, k2, k3, e0, e1, e2, e3⟩ := hN.ex
 have bc := fun o => cell_of_blk hb o
 clear hb hN
 replace e0 : w.cell? ⟨g0, k, none⟩ = some (.int .u8 88) := e0
 have hum := hu.len
 have hut := hu.top
 have HU := hide hu.at_
 clear hu
 by_cases hjn : j + 1 < n
 ·have cu := unhide HU (j + 1 + 1) (by omega) (by omega)
  have hx : (j : Int) + 1 + 1 ≤ (n : Int) := by omega
  go_enter Tryz.func180, Tryz.ntmps180
  go_wp2_with fail
  go_ret
  refine ⟨ret_bool ?_, 0, rfl⟩
  rw [show opV 5 false u (fun _ => true) (j + 1) n = (decide (j + 1 + 1 ≤ n) && u (j + 1 + 1)) from rfl, show decide (j + 1 + 1 ≤ n) = true from decide_eq_true (by omega), Bool.true_and]
 ·have hx : ¬ (j : Int) + 1 + 1 ≤ (n : Int) := by omega
  go_enter Tryz.func180, Tryz.ntmps180
  go_wp2_with fail
  go_ret
  refine ⟨ret_bool ?_, 0, rfl⟩
  rw [show opV 5 false u (fun _ => true) (j + 1) n = (decide (j + 1 + 1 ≤ n) && u (j + 1 + 1)) from rfl, show decide (j + 1 + 1 ≤ n) = false from decide_eq_false (by omega), Bool.false_and]
set_option maxHeartbeats 2000000 in
set_option maxRecDepth 100000 in
theorem at_weak (w : World) (nb k : Nat) (t : Int) (j n : Nat) (tt : Option Addr) (tc : Nat) (bg bn bcap : Nat) (ka : Nat) (ua uc : Nat) (u : Nat → Bool) (um : Nat) (hka : w.cell? ⟨bg, ka, none⟩ = some (.slice (some ⟨ua, 0, none⟩) um uc)) (hkl : ka < bn) (hu : RowB w n u ua um uc) (_hj : j ≤ n) (_hn : n ≤ 10000000000000)
  (hN : NdAt w nb k (refO 6) (ka : Nat) (-1) t) :
  Calls Tryz.prog 180 #[.pointer (some ⟨nb, 0, none⟩), .int .i64 k, .int .i64 (j + 1 : Nat), (.slice tt n tc), (.slice (some ⟨bg, 0, none⟩) bn bcap)] w fun e w' => e = .returned (.bool (opV 6 false u (fun _ => true) (j + 1) n)) ∧ ∃ d, w' = w.drewN d := by
 obtain ⟨g0, n0, c0, g1, n1, c1, g2, n2, c2, g3, n3, c3, x, hb, k0, k1, k2, k3, e0, e1, e2, e3⟩ := hN.ex
 have bc := fun o => cell_of_blk hb o
 clear hb hN
 replace e0 : w.cell? ⟨g0, k, none⟩ = some (.int .u8 78) := e0
 have hum := hu.len
 have hut := hu.top
 have HU := hide hu.at_
 clear hu
 by_cases hjn : j + 1 < n
 ·have cu := unhide HU (j + 1 + 1) (by omega) (by omega)
  have hx : ¬ (n : Int) < (j : Int) + 1 + 1 := by omega
  go_enter Tryz.func180, Tryz.ntmps180
  go_wp2_with fail
  go_ret
  refine ⟨ret_bool ?_, 0, rfl⟩
  rw [show opV 6 false u (fun _ => true) (j + 1) n = (decide (n < j + 1 + 1) || u (j + 1 + 1)) from rfl, show decide (n < j + 1 + 1) = false from decide_eq_false (by omega), Bool.false_or]
 ·have hx : (n : Int) < (j : Int) + 1 + 1 := by omega
  go_enter Tryz.func180, Tryz.ntmps180
  go_wp2_with fail
  go_ret
  refine ⟨ret_bool ?_, 0, rfl⟩
  rw [show opV 6 false u (fun _ => true) (j + 1) n = (decide (n < j + 1 + 1) || u (j + 1 + 1)) from rfl, show decide (n < j + 1 + 1) = true from decide_eq_true (by omega), Bool.true_or]
set_option maxHeartbeats 2000000 in
set_option maxRecDepth 100000 in
theorem at_fin (w : World) (nb k : Nat) (t : Int) (j n : Nat) (tt : Option Addr) (tc : Nat) (bg bn bcap : Nat) (ka : Nat) (ua uc : Nat) (u : Nat → Bool) (um : Nat) (hka : w.cell? ⟨bg, ka, none⟩ = some (.slice (some ⟨ua, 0, none⟩) um uc)) (hkl : ka < bn) (hu : RowB w n u ua um uc) (_hj : j ≤ n) (_hn : n ≤ 10000000000000)
  (hN : NdAt w nb k (refO 7) (ka : Nat) (-1) t) :
  Calls Tryz.prog 180 #[.pointer (some ⟨nb, 0, none⟩), .int .i64 k, .int .i64 (j + 1 : Nat), (.slice tt n tc), (.slice (some ⟨bg, 0, none⟩) bn bcap)] w fun e w' => e = .returned (.bool (opV 7 false u (fun _ => true) (j + 1) n)) ∧ ∃ d, w' = w.drewN d := by
 obtain ⟨g0, n0, c0, g1, n1, c1, g2, n2, c2, g3, n3, c3, x, hb, k0, k1, k2, k3, e0, e1, e2, e3⟩ := hN.ex
 have bc := fun o => cell_of_blk hb o
 clear hb hN
 replace e0 : w.cell? ⟨g0, k, none⟩ = some (.int .u8 70) := e0
 have hum := hu.len
 have hut := hu.top
 have HU := hide hu.at_
 clear hu
 go_enter Tryz.func180, Tryz.ntmps180
 go_wp2_with fail
 refine (exists_nil w u ua um uc (j + 1) n (fun i h1 h2 => unhide HU i (by omega) (by omega)) (by omega) hut (by omega)).mono ?_
 rintro e w' ⟨rfl, rfl⟩
 go_wp2_with fail
 go_ret
 refine ⟨ret_bool ?_, 0, rfl⟩
 simp [opV]
set_option maxHeartbeats 2000000 in
set_option maxRecDepth 100000 in
theorem at_glob (w : World) (nb k : Nat) (t : Int) (j n : Nat) (tt : Option Addr) (tc : Nat) (bg bn bcap : Nat) (ka : Nat) (ua uc : Nat) (u : Nat → Bool) (um : Nat) (hka : w.cell? ⟨bg, ka, none⟩ = some (.slice (some ⟨ua, 0, none⟩) um uc)) (hkl : ka < bn) (hu : RowB w n u ua um uc) (_hj : j ≤ n) (_hn : n ≤ 10000000000000)
  (hN : NdAt w nb k (refO 8) (ka : Nat) (-1) t) :
  Calls Tryz.prog 180 #[.pointer (some ⟨nb, 0, none⟩), .int .i64 k, .int .i64 (j + 1 : Nat), (.slice tt n tc), (.slice (some ⟨bg, 0, none⟩) bn bcap)] w fun e w' => e = .returned (.bool (opV 8 false u (fun _ => true) (j + 1) n)) ∧ ∃ d, w' = w.drewN d := by
 obtain ⟨g0, n0, c0, g1, n1, c1, g2, n2, c2, g3, n3, c3, x, hb, k0, k1, k2, k3, e0, e1, e2, e3⟩ := hN.ex
 have bc := fun o => cell_of_blk hb o
 clear hb hN
 replace e0 : w.cell? ⟨g0, k, none⟩ = some (.int .u8 71) := e0
 have hum := hu.len
 have hut := hu.top
 have HU := hide hu.at_
 clear hu
 go_enter Tryz.func180, Tryz.ntmps180
 go_wp2_with fail
 refine (always_any w u ua um uc (j + 1) n (fun i h1 h2 => unhide HU i (by omega) (by omega)) (by omega) hut (by omega)).mono ?_
 rintro e w' ⟨rfl, rfl⟩
 go_wp2_with fail
 go_ret
 refine ⟨ret_bool ?_, 0, rfl⟩
 simp [opV]
set_option maxHeartbeats 2000000 in
set_option maxRecDepth 100000 in
theorem at_until (w : World) (nb k : Nat) (t : Int) (j n : Nat) (tt : Option Addr) (tc : Nat) (bg bn bcap : Nat) (ka : Nat) (ua uc : Nat) (u : Nat → Bool) (um : Nat) (hka : w.cell? ⟨bg, ka, none⟩ = some (.slice (some ⟨ua, 0, none⟩) um uc)) (hkl : ka < bn) (hu : RowB w n u ua um uc) (kb : Nat) (va vc : Nat) (v : Nat → Bool) (vm : Nat) (hkb : w.cell? ⟨bg, kb, none⟩ = some (.slice (some ⟨va, 0, none⟩) vm vc)) (hkm : kb < bn) (hv : RowB w n v va vm vc) (_hj : j ≤ n) (_hn : n ≤ 10000000000000)
  (hN : NdAt w nb k (refO 9) (ka : Nat) (kb : Nat) t) :
  Calls Tryz.prog 180 #[.pointer (some ⟨nb, 0, none⟩), .int .i64 k, .int .i64 (j + 1 : Nat), (.slice tt n tc), (.slice (some ⟨bg, 0, none⟩) bn bcap)] w fun e w' => e = .returned (.bool (opV 9 false u v (j + 1) n)) ∧ ∃ d, w' = w.drewN d := by
 obtain ⟨g0, n0, c0, g1, n1, c1, g2, n2, c2, g3, n3, c3, x, hb, k0, k1, k2, k3, e0, e1, e2, e3⟩ := hN.ex
 have bc := fun o => cell_of_blk hb o
 clear hb hN
 replace e0 : w.cell? ⟨g0, k, none⟩ = some (.int .u8 85) := e0
 have hum := hu.len
 have hut := hu.top
 have HU := hide hu.at_
 clear hu
 have hvm := hv.len
 have hvt := hv.top
 have HV := hide hv.at_
 clear hv
 go_enter Tryz.func180, Tryz.ntmps180
 go_wp2_with fail
 refine (exists_any w u v ua um uc va vm vc (j + 1) n (fun i h1 h2 => unhide HU i (by omega) (by omega)) (fun i h1 h2 => unhide HV i (by omega) (by omega)) (by omega) (by omega) hut (by omega)).mono ?_
 rintro e w' ⟨rfl, rfl⟩
 go_wp2_with fail
 go_ret
 refine ⟨ret_bool ?_, 0, rfl⟩
 simp [opV]
set_option maxHeartbeats 2000000 in
set_option maxRecDepth 100000 in
theorem at_and (w : World) (nb k : Nat) (t : Int) (j n : Nat) (tt : Option Addr) (tc : Nat) (bg bn bcap : Nat) (ka : Nat) (ua uc : Nat) (u : Nat → Bool) (um : Nat) (hka : w.cell? ⟨bg, ka, none⟩ = some (.slice (some ⟨ua, 0, none⟩) um uc)) (hkl : ka < bn) (hu : RowB w n u ua um uc) (kb : Nat) (va vc : Nat) (v : Nat → Bool) (vm : Nat) (hkb : w.cell? ⟨bg, kb, none⟩ = some (.slice (some ⟨va, 0, none⟩) vm vc)) (hkm : kb < bn) (hv : RowB w n v va vm vc) (_hj : j ≤ n) (_hn : n ≤ 10000000000000)
  (hN : NdAt w nb k (refO 10) (ka : Nat) (kb : Nat) t) :
  Calls Tryz.prog 180 #[.pointer (some ⟨nb, 0, none⟩), .int .i64 k, .int .i64 (j + 1 : Nat), (.slice tt n tc), (.slice (some ⟨bg, 0, none⟩) bn bcap)] w fun e w' => e = .returned (.bool (opV 10 false u v (j + 1) n)) ∧ ∃ d, w' = w.drewN d := by
 obtain ⟨g0, n0, c0, g1, n1, c1, g2, n2, c2, g3, n3, c3, x, hb, k0, k1, k2, k3, e0, e1, e2, e3⟩ := hN.ex
 have bc := fun o => cell_of_blk hb o
 clear hb hN
 replace e0 : w.cell? ⟨g0, k, none⟩ = some (.int .u8 38) := e0
 have hum := hu.len
 have hut := hu.top
 have HU := hide hu.at_
 have cu := unhide HU (j + 1) (by omega) (by omega)
 clear hu
 have hvm := hv.len
 have hvt := hv.top
 have HV := hide hv.at_
 have cv := unhide HV (j + 1) (by omega) (by omega)
 clear hv
 cases hb : u (j + 1) <;> rw [hb] at cu
 ·go_enter Tryz.func180, Tryz.ntmps180
  go_wp2_with fail
  go_ret
  refine ⟨?_, 0, rfl⟩
  simp [opV, hb]
 ·go_enter Tryz.func180, Tryz.ntmps180
  go_wp2_with fail
  go_ret
  refine ⟨?_, 0, rfl⟩
  simp [opV, hb]
set_option maxHeartbeats 2000000 in
set_option maxRecDepth 100000 in
theorem at_or (w : World) (nb k : Nat) (t : Int) (j n : Nat) (tt : Option Addr) (tc : Nat) (bg bn bcap : Nat) (ka : Nat) (ua uc : Nat) (u : Nat → Bool) (um : Nat) (hka : w.cell? ⟨bg, ka, none⟩ = some (.slice (some ⟨ua, 0, none⟩) um uc)) (hkl : ka < bn) (hu : RowB w n u ua um uc) (kb : Nat) (va vc : Nat) (v : Nat → Bool) (vm : Nat) (hkb : w.cell? ⟨bg, kb, none⟩ = some (.slice (some ⟨va, 0, none⟩) vm vc)) (hkm : kb < bn) (hv : RowB w n v va vm vc) (_hj : j ≤ n) (_hn : n ≤ 10000000000000)
  (hN : NdAt w nb k (refO 11) (ka : Nat) (kb : Nat) t) :
  Calls Tryz.prog 180 #[.pointer (some ⟨nb, 0, none⟩), .int .i64 k, .int .i64 (j + 1 : Nat), (.slice tt n tc), (.slice (some ⟨bg, 0, none⟩) bn bcap)] w fun e w' => e = .returned (.bool (opV 11 false u v (j + 1) n)) ∧ ∃ d, w' = w.drewN d := by
 obtain ⟨g0, n0, c0, g1, n1, c1, g2, n2, c2, g3, n3, c3, x, hb, k0, k1, k2, k3, e0, e1, e2, e3⟩ := hN.ex
 have bc := fun o => cell_of_blk hb o
 clear hb hN
 replace e0 : w.cell? ⟨g0, k, none⟩ = some (.int .u8 124) := e0
 have hum := hu.len
 have hut := hu.top
 have HU := hide hu.at_
 have cu := unhide HU (j + 1) (by omega) (by omega)
 clear hu
 have hvm := hv.len
 have hvt := hv.top
 have HV := hide hv.at_
 have cv := unhide HV (j + 1) (by omega) (by omega)
 clear hv
 cases hb : u (j + 1) <;> rw [hb] at cu
 ·go_enter Tryz.func180, Tryz.ntmps180
  go_wp2_with fail
  go_ret
  refine ⟨?_, 0, rfl⟩
  simp [opV, hb]
 ·go_enter Tryz.func180, Tryz.ntmps180
  go_wp2_with fail
  go_ret
  refine ⟨?_, 0, rfl⟩
  simp [opV, hb]
set_option maxHeartbeats 2000000 in
set_option maxRecDepth 100000 in
theorem at_imp (w : World) (nb k : Nat) (t : Int) (j n : Nat) (tt : Option Addr) (tc : Nat) (bg bn bcap : Nat) (ka : Nat) (ua uc : Nat) (u : Nat → Bool) (um : Nat) (hka : w.cell? ⟨bg, ka, none⟩ = some (.slice (some ⟨ua, 0, none⟩) um uc)) (hkl : ka < bn) (hu : RowB w n u ua um uc) (kb : Nat) (va vc : Nat) (v : Nat → Bool) (vm : Nat) (hkb : w.cell? ⟨bg, kb, none⟩ = some (.slice (some ⟨va, 0, none⟩) vm vc)) (hkm : kb < bn) (hv : RowB w n v va vm vc) (_hj : j ≤ n) (_hn : n ≤ 10000000000000)
  (hN : NdAt w nb k (refO 12) (ka : Nat) (kb : Nat) t) :
  Calls Tryz.prog 180 #[.pointer (some ⟨nb, 0, none⟩), .int .i64 k, .int .i64 (j + 1 : Nat), (.slice tt n tc), (.slice (some ⟨bg, 0, none⟩) bn bcap)] w fun e w' => e = .returned (.bool (opV 12 false u v (j + 1) n)) ∧ ∃ d, w' = w.drewN d := by
 obtain ⟨g0, n0, c0, g1, n1, c1, g2, n2, c2, g3, n3, c3, x, hb, k0, k1, k2, k3, e0, e1, e2, e3⟩ := hN.ex
 have bc := fun o => cell_of_blk hb o
 clear hb hN
 replace e0 : w.cell? ⟨g0, k, none⟩ = some (.int .u8 62) := e0
 have hum := hu.len
 have hut := hu.top
 have HU := hide hu.at_
 have cu := unhide HU (j + 1) (by omega) (by omega)
 clear hu
 have hvm := hv.len
 have hvt := hv.top
 have HV := hide hv.at_
 have cv := unhide HV (j + 1) (by omega) (by omega)
 clear hv
 cases hb : u (j + 1) <;> rw [hb] at cu
 ·go_enter Tryz.func180, Tryz.ntmps180
  go_wp2_with fail
  go_ret
  refine ⟨?_, 0, rfl⟩
  simp [opV, hb]
 ·go_enter Tryz.func180, Tryz.ntmps180
  go_wp2_with fail
  go_ret
  refine ⟨?_, 0, rfl⟩
  simp [opV, hb]
set_option maxHeartbeats 2000000 in
set_option maxRecDepth 100000 in
theorem at_atom_in (w : World) (nb k : Nat) (t tr : Int) (j n tg tc : Nat) (bel : Value) (hj : j < n) (_hn : n ≤ 10000000000000) (ht : w.cell? ⟨tg, j, none⟩ = some (.int .i64 tr)) (hN : NdAt w nb k (refO 0) (-1) (-1) t) :
  Calls Tryz.prog 180 #[.pointer (some ⟨nb, 0, none⟩), .int .i64 k, .int .i64 (j + 1 : Nat), .slice (some ⟨tg, 0, none⟩) n tc, bel] w fun e w' => e = .returned (.bool (tr == t)) ∧ ∃ d, w' = w.drewN d := by
 obtain ⟨g0, n0, c0, g1, n1, c1, g2, n2, c2, g3, n3, c3, x, hb, k0, k1, k2, k3, e0, e1, e2, e3⟩ := hN.ex
 have bc := fun o => cell_of_blk hb o
 clear hb hN
 replace e0 : w.cell? ⟨g0, k, none⟩ = some (.int .u8 97) := e0
 have hx : (j : Int) + 1 ≤ (n : Int) := by omega
 go_enter Tryz.func180, Tryz.ntmps180
 go_wp2_with fail
 go_quiet (fail)
 go_wp2_with fail
 go_ret
 exact ⟨rfl, nq, rfl⟩
set_option maxHeartbeats 2000000 in
set_option maxRecDepth 100000 in
theorem at_atom_out (w : World) (nb k : Nat) (t : Int) (j n : Nat) (tt : Option Addr) (tc : Nat) (bel : Value) (hj : n ≤ j) (_hn : j ≤ 10000000000000) (hN : NdAt w nb k (refO 0) (-1) (-1) t) :
  Calls Tryz.prog 180 #[.pointer (some ⟨nb, 0, none⟩), .int .i64 k, .int .i64 (j + 1 : Nat), .slice tt n tc, bel] w fun e w' => e = .returned (.bool false) ∧ ∃ d, w' = w.drewN d := by
 obtain ⟨g0, n0, c0, g1, n1, c1, g2, n2, c2, g3, n3, c3, x, hb, k0, k1, k2, k3, e0, e1, e2, e3⟩ := hN.ex
 have bc := fun o => cell_of_blk hb o
 clear hb hN
 replace e0 : w.cell? ⟨g0, k, none⟩ = some (.int .u8 97) := e0
 have hx : decide ((j : Int) + 1 ≤ (n : Int)) = false := decide_eq_false (by omega)
 go_enter Tryz.func180, Tryz.ntmps180
 go_wp2_with fail
 go_quiet (fail)
 go_wp2_with fail
 go_ret
 exact ⟨rfl, nq, rfl⟩
end Go.Proofs.YtidakhhekofkoaaGreatDoor
