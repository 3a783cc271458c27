/- The program's strings.Builder: copyCheck and WriteString. -/
import Derived.Test.YtidakhhekofkoaaGreatDoorZ34
import Derived.Test.YtidakhhekofkoaaGreatDoorZ07
import Derived.Test.YtidakhhekofkoaaGreatDoorZ20
import Derived.Test.YtidakhhekofkoaaGreatDoorZ25
import Derived.Test.YtidakhhekofkoaaGreatDoorZ29
set_option linter.unusedSimpArgs false
namespace Go.Proofs.YtidakhhekofkoaaGreatDoor
open Go.RowKit Go.Deep
theorem row_buP {w : World} {no : Option Addr} {nn nc n : Nat} {cs : List Value} (h : w.ownsRow 0 144 3 (.slice no nn nc) n cs) : nn = n ∧ (n ≠ 0 → ∃ g, no = some ⟨g, 0, none⟩ ∧ n ≤ nc ∧ nc ≤ maxLen ∧ ∃ cur, w.heap[g]? = some (.cells cur 144 (0, 0)) ∧ cur.toList.take (n * 3) = cs) := by
 obtain ⟨_, h2 | ⟨g, cap, cur, hv, _, hh, hle, hcap, _, htake⟩⟩ := h
 ·obtain ⟨h3, h4⟩ := h2
  cases h3
  exact ⟨h4.symm, fun hne => absurd h4 hne⟩
 ·cases hv
  exact ⟨rfl, fun _ => ⟨g, rfl, hle, hcap, cur, hh, htake⟩⟩
theorem nodesL_snoc : ∀ (l : List Rl) (r : Rl), nodesL (l ++ [r]) = nodesL l + sizeF (ruleF r)
 | [], r => by simp [nodesL]
 | x :: l, r => by rw [List.cons_append, nodesL, nodesL, nodesL_snoc l r]; omega
set_option maxHeartbeats 2000000 in
set_option maxRecDepth 100000 in
theorem mnodes_any (w : World) (rs : List Rl) (a1 : Option Addr) (a2 a3 : Nat) (m1 : Option Addr) (m2 m3 : Nat) (cells : List Value) (hr : w.ownsRow 0 144 3 (.slice m1 m2 m3) rs.length cells) (hp : BuP w rs cells) (hrs : rs.length ≤ 401) (hsz : ∀ r ∈ rs, sizeF (ruleF r) ≤ 100000) :
  Calls Tryz.prog 72 #[.agg #[.slice a1 a2 a3, .slice m1 m2 m3]] w fun e w' => e = .returned (.int .i64 (nodesL rs)) ∧ Below w.heap.size w w' := by
 obtain ⟨hn2, hrow2⟩ := row_buP hr
 have hn2a : m2 ≤ rs.length := by omega
 have hn2b : rs.length ≤ m2 := by omega
 have HROW := hide hrow2
 have HP := hide hp
 have HSZ := hide hsz
 clear hr hp hn2 hrow2 hsz
 go_enter Tryz.func72, Tryz.ntmps72
 go_wp2_with fail
 go_loopw [3, 9] (fun v i wr => ∃ k : Nat, i = .int .i64 (k : Int) ∧ v = .int .i64 (nodesL (rs.take k)) ∧ k ≤ rs.length ∧ Below w.heap.size w wr) (fun _ i _ => rs.length - (intOf i).toNat)
 case atStart => exact ⟨0, rfl, rfl, Nat.zero_le _, (Below.refl _ _).alloc (Nat.le_refl _) _⟩
 case round =>
  obtain ⟨k, rfl, rfl, hkk, hbel⟩ := hrel
  by_cases hlt : k < rs.length
  ·obtain ⟨r, rr, ht⟩ : ∃ r rr, rs.drop k = r :: rr := by
    cases hd : rs.drop k with
    | nil => have := congrArg List.length hd; simp at this; omega
    | cons r rr => exact ⟨r, rr, rfl⟩
   obtain ⟨g, hno, hle, hcap, cur, hc1, hc2⟩ := unhide HROW (by omega)
   unfold maxLen at hcap
   have hgl0 := lt_of_blk hc1
   obtain ⟨wd, ao, an, ac, p, g0, g1, g2, g3⟩ := (unhide HP).at k ht
   have hcw := (hbel.block _ hgl0).trans hc1
   have d0 := (cell_of_blk hcw (k * 3)).trans (take_at (k := k * 3) (o := 0) hc2 (by omega) g0)
   have d1 := (cell_of_blk hcw (k * 3 + 1)).trans (take_at hc2 (by omega) g1)
   have d2 := (cell_of_blk hcw (k * 3 + 2)).trans (take_at hc2 (by omega) g2)
   have hwl : w.heap.size ≤ wr.heap.size := hbel.size
   have hgl : g < wr.heap.size := by omega
   subst hno
   have HIG := hide (g3.keep (KB.below (w := w) (w' := wr.alloc (.cells #[.string wd, .slice ao an ac, .pointer p] 144)) (hbel.alloc hwl _))).1
   have hmem : r ∈ rs := List.mem_of_mem_drop (by rw [ht]; exact List.mem_cons_self)
   have hs1 := unhide HSZ r hmem
   have hs2 : nodesL (rs.take k) ≤ 40100000 := by
    have h1 := nodesL_le 100000 (rs.take k) (fun x hx => unhide HSZ x (List.mem_of_mem_take hx))
    have h2 : (rs.take k).length ≤ 401 := by rw [List.length_take]; omega
    exact Nat.le_trans h1 (Nat.mul_le_mul_right 100000 h2)
   have HTS := hide (nodesL_snoc (rs.take k) r)
   have HTK := hide (take_snoc ht)
   have hkn : (k : Int) < (m2 : Int) := by omega
   have HBEL := hide hbel
   clear hbel ht hc1 hc2 hcw cur g0 g1 g2 g3 hmem
   go_wp2_with fail
   refine (nodes_any (ruleF r) _ p (unhide HIG) hs1).mono ?_
   rintro e w2 ⟨rfl, n, rfl⟩
   generalize hT : nodesL (rs.take k) = T at *
   generalize hZ : sizeF (ruleF r) = Z at *
   go_wp2_with fail
   go_roundw
   case rel => exact ⟨k + 1, by go_num, by rw [unhide HTK, unhide HTS]; go_num, by omega, ((unhide HBEL).alloc hwl _).trans ((bdn _ n).mono (by simp; omega))⟩
   case measure => simp [intOf]; omega
  ·have hke : rs.length ≤ k := by omega
   have hkn : ¬ (k : Int) < (m2 : Int) := by omega
   rw [List.take_of_length_le hke]
   go_wp2_with fail
   go_ret
   exact ⟨rfl, hbel⟩
theorem call_k {al : List Tk} {Q : Tk → Prop} {m : Nat} {r : Rl} (hQ : ∀ t, Q t → TkOk t) (hg : RlGood Q m r) (hc : r.call = true) (h : fCall al r = []) : CallK r := by
 rcases hg with ⟨_, _, _, _, x, hx, hxk, hargs⟩ | ⟨h1, _⟩
 ·unfold fCall at h
  obtain ⟨_, h2⟩ := List.append_eq_nil_iff.1 h
  obtain ⟨h3, h4⟩ := List.append_eq_nil_iff.1 h2
  obtain ⟨h5, h6⟩ := List.append_eq_nil_iff.1 h4
  have hn : tplNo r.word.s.toList ≤ 11 := by
   rcases Nat.lt_or_ge 11 (tplNo r.word.s.toList) with hh | hh
   ·rw [if_neg (by omega)] at h3; cases h3
   ·exact hh
  have hlen : ¬ r.args.length < (tplTakes (tplNo r.word.s.toList)).length := by
   intro hh; rw [if_pos hh] at h6; cases h6
  have hbad : ∀ {ks : List UInt8} {t : Tk} {l : List Tk}, fArgs al ks (t :: l) = [] → badArg ks t = false ∧ fArgs al ks.tail l = [] := by
   intro ks t l he
   rw [fArgs, fArg] at he
   obtain ⟨e1, e2⟩ := List.append_eq_nil_iff.1 he
   obtain ⟨_, e3⟩ := List.append_eq_nil_iff.1 e1
   refine ⟨?_, e2⟩
   cases hb : badArg ks t with
   | false => rfl
   | true => rw [if_pos hb] at e3; cases e3
  rcases takes_len hn with ⟨ht, hk⟩ | ⟨ht, hk⟩ | ⟨ht, hk⟩
  ·rcases hargs with ha | ⟨y, hy, hyk, ha⟩
   ·exact Or.inl ⟨hk, x, ha, hxk⟩
   ·rw [ha, ht] at h5
    have := hbad (hbad h5).2
    exact absurd this.1 (by simp [badArg])
  ·rcases hargs with ha | ⟨y, hy, hyk, ha⟩
   ·rw [ha, ht] at hlen; exact absurd (by simp) hlen
   ·rw [ha, ht] at h5
    have hb := (hbad (hbad h5).2).1
    rcases hyk with hyk | hyk
    ·simp [badArg, hyk] at hb
    ·obtain ⟨c, hc1, hc2, hc3⟩ := dig_ok (hQ y hy) hyk
     exact Or.inr (Or.inl ⟨hk, x, y, ha, hxk, hyk, c, hc1, hc2, hc3⟩)
  ·rcases hargs with ha | ⟨y, hy, hyk, ha⟩
   ·rw [ha, ht] at hlen; exact absurd (by simp) hlen
   ·rw [ha, ht] at h5
    have hb := (hbad (hbad h5).2).1
    rcases hyk with hyk | hyk
    ·exact Or.inr (Or.inr ⟨⟨hk, hn⟩, x, y, ha, hxk, hyk⟩)
    ·simp [badArg, hyk] at hb
 ·rw [h1] at hc; cases hc
theorem good_args {Q : Tk → Prop} {m : Nat} {r : Rl} (hQ : ∀ t, Q t → TkOk t) (hg : RlGood Q m r) : RlArgs r := by
 intro hc
 rcases hg with ⟨_, _, _, _, x, hx, hxk, hargs⟩ | ⟨h1, _⟩
 ·rcases hargs with ha | ⟨y, hy, hyk, ha⟩
  ·rw [ha]
   refine ⟨fun t ht => ?_, by simp, by simp⟩
   rw [List.mem_singleton] at ht; subst ht; exact Or.inl hxk
  ·rw [ha]
   refine ⟨fun t ht => ?_, by simp, by simp⟩
   rcases List.mem_cons.1 ht with rfl | ht
   ·exact Or.inl hxk
   ·rw [List.mem_singleton] at ht; subst ht
    rcases hyk with hyk | hyk
    ·exact Or.inl hyk
    ·exact Or.inr ⟨hyk, dig_ok (hQ _ hy) hyk⟩
 ·rw [h1] at hc; cases hc
theorem good_rlf {Q : Tk → Prop} {m : Nat} {r : Rl} (hg : RlGood Q m r) : RlF r := by
 intro hc
 rcases hg with ⟨_, _, _, h, _⟩ | ⟨h1, _⟩
 ·exact h
 ·rw [h1] at hc; cases hc
def RdP (s : ByteArray) (w w' : World) (e : Ending) : Prop :=
 Below w.heap.size w w' ∧ match readM s with
 | .error x => e = .returned (.tuple #[.agg #[.slice none 0 0, .slice none 0 0], .agg #[.int .i64 x.1, .int .i64 x.2]])
 | .ok (al, rs) => ∃ a1 a2 a3 m1 m2 m3 cells, e = .returned (.tuple #[.agg #[.slice a1 a2 a3, .slice m1 m2 m3], .agg #[.int .i64 0, .int .i64 0]]) ∧ w'.ownsRow 0 9 1 (.slice a1 a2 a3) al.length (strC al) ∧ w'.ownsRow 0 144 3 (.slice m1 m2 m3) rs.length cells ∧ BuP w' rs cells
theorem RdP.err {s : ByteArray} {w w' : World} {e : Ending} {x : Nat × Nat} (hb : Below w.heap.size w w') (h : readM s = .error x) (he : e = .returned (.tuple #[.agg #[.slice none 0 0, .slice none 0 0], .agg #[.int .i64 x.1, .int .i64 x.2]])) : RdP s w w' e := by
 refine ⟨hb, ?_⟩; rw [h]; exact he
theorem good_sz {m : Nat} {r : Rl} (hg : RlGood TkS m r) : ∀ t ∈ r.args, t.s.size ≤ 400 := by
 rcases hg with ⟨_, _, _, _, x, hx, _, ha | ⟨y, hy, _, ha⟩⟩ | ⟨_, _, _, ha⟩
 ·rw [ha]; intro t ht; rcases List.mem_singleton.1 ht with rfl; exact hx.2
 ·rw [ha]; intro t ht; rcases List.mem_cons.1 ht with rfl | ht
  ·exact hx.2
  ·rcases List.mem_singleton.1 ht with rfl; exact hy.2
 ·rw [ha]; intro t ht; exact (List.not_mem_nil ht).elim
def put2 (w : World) (h : Nat) (u v x y : Value) : World := (((w.setCell ⟨h, 0, none⟩ u).setCell ⟨h, 1, none⟩ v).setCell ⟨h + 1, 0, none⟩ x).setCell ⟨h + 1, 1, none⟩ y
theorem put2_fin {w : World} {h : Nat} {a b c d : Value} (u v x y : Value) (h1 : w.heap[h]? = some (.cells #[a, b] 78 (0, 0))) (h2 : w.heap[h + 1]? = some (.cells #[c, d] 80 (0, 0))) :
  (put2 w h u v x y).heap[h]? = some (.cells #[u, v] 78 (0, 0)) ∧ (put2 w h u v x y).heap[h + 1]? = some (.cells #[x, y] 80 (0, 0)) := by
 have e1 : ((w.setCell ⟨h, 0, none⟩ u).setCell ⟨h, 1, none⟩ v).heap[h]? = some (.cells #[u, v] 78 (0, 0)) := blk_set (blk_set h1 0 u) 1 v
 have e2 : ((w.setCell ⟨h, 0, none⟩ u).setCell ⟨h, 1, none⟩ v).heap[h + 1]? = some (.cells #[c, d] 80 (0, 0)) := (Below.heap_setCell _ _ _ _ (by show h + 1 ≠ h; omega)).trans ((Below.heap_setCell _ _ _ _ (by show h + 1 ≠ h; omega)).trans h2)
 refine ⟨?_, blk_set (blk_set e2 0 x) 1 y⟩
 exact (Below.heap_setCell _ _ _ _ (by show h ≠ h + 1; omega)).trans ((Below.heap_setCell _ _ _ _ (by show h ≠ h + 1; omega)).trans e1)
theorem put2_grown (w : World) (h : Nat) (u v x y : Value) {b : Nat} (h1 : b ≠ h) (h2 : b ≠ h + 1) : (put2 w h u v x y).heap[b]? = w.heap[b]? :=
 (Below.heap_setCell _ _ _ _ h2).trans ((Below.heap_setCell _ _ _ _ h2).trans ((Below.heap_setCell _ _ _ _ h1).trans (Below.heap_setCell _ _ _ _ h1)))
theorem put2_below {w0 w : World} {h : Nat} (u v x y : Value) (hb : Below w0.heap.size w0 w) (hh : w0.heap.size ≤ h) : Below w0.heap.size w0 (put2 w h u v x y) :=
 (((hb.setCell (p := ⟨h, 0, none⟩) hh _).setCell (p := ⟨h, 1, none⟩) hh _).setCell (p := ⟨h + 1, 0, none⟩) (by show _ ≤ h + 1; omega) _).setCell (p := ⟨h + 1, 1, none⟩) (by show _ ≤ h + 1; omega) _
theorem put2_kb {w : World} {h : Nat} {a b c d : Value} (h1 : w.heap[h]? = some (.cells #[a, b] 78 (0, 0))) (h2 : w.heap[h + 1]? = some (.cells #[c, d] 80 (0, 0))) (u v x y : Value) : KB w (put2 w h u v x y) := by
 intro k cc ty m hk ht
 rw [put2_grown]
 ·exact hk
 ·rintro rfl; rw [h1] at hk; injection hk with hk; injection hk with _ e _; subst e; revert ht; decide
 ·rintro rfl; rw [h2] at hk; injection hk with hk; injection hk with _ e _; subst e; revert ht; decide
theorem put2_owns {w : World} {h : Nat} {a b c d : Value} (h1 : w.heap[h]? = some (.cells #[a, b] 78 (0, 0))) (h2 : w.heap[h + 1]? = some (.cells #[c, d] 80 (0, 0))) (u v x y : Value) {n : Nat} {t : Value} {xs : List Value} (ho : w.ownsRow 0 144 3 t n xs) : (put2 w h u v x y).ownsRow 0 144 3 t n xs := by
 obtain ⟨e1, e2⟩ := ho
 refine ⟨e1, ?_⟩
 rcases e2 with e2 | ⟨g, cap, cur, hv, hg, hh, r⟩
 ·exact Or.inl e2
 ·refine Or.inr ⟨g, cap, cur, hv, hg, ?_, r⟩
  rw [put2_grown]
  ·exact hh
  ·rintro rfl; rw [h1] at hh; injection hh with hh; injection hh with _ e _; revert e; decide
  ·rintro rfl; rw [h2] at hh; injection hh with hh; injection hh with _ e _; revert e; decide
set_option maxHeartbeats 4000000 in
set_option maxRecDepth 100000 in
theorem read_any (s : ByteArray) (w : World) (hG : GV w) : Calls Tryz.prog 39 #[.string s] w fun e w' => RdP s w w' e := by
 have hbz : Below w.heap.size w ((w.alloc (.cells #[.slice none 0 0, .slice none 0 0] 78)).alloc (.cells #[.int .i64 0, .int .i64 0] 80)) := ((Below.refl _ _).alloc (Nat.le_refl _) _).alloc (by simp) _
 have hm0 : ((w.alloc (.cells #[.slice none 0 0, .slice none 0 0] 78)).alloc (.cells #[.int .i64 0, .int .i64 0] 80)).heap[w.heap.size]? = some (.cells #[.slice none 0 0, .slice none 0 0] 78 (0, 0)) := (Below.heap_alloc _ _ _ (by simp)).trans (blk_alloc _ _)
 have hf0 : ((w.alloc (.cells #[.slice none 0 0, .slice none 0 0] 78)).alloc (.cells #[.int .i64 0, .int .i64 0] 80)).heap[w.heap.size + 1]? = some (.cells #[.int .i64 0, .int .i64 0] 80 (0, 0)) := blk_alloc' _ _ _ (by simp)
 have HBZ := hide hbz
 have HM0 := hide hm0
 have HF0 := hide hf0
 have HGV := hide (hG.later hbz)
 by_cases hs : 400 < s.size
 ·have HL : Hid (readM s = .error (0, 1)) := by show _ = _; unfold readM; rw [if_pos hs]
  have hs' : (400 : Int) < (s.size : Int) := by omega
  clear hbz hm0 hf0 hs hG
  go_enter Tryz.func39, Tryz.ntmps39
  go_wp2_with fail
  refine bodyPost_ret (v := .tuple #[.agg #[.slice none 0 0, .slice none 0 0], .agg #[.int .i64 0, .int .i64 1]]) (by simp [results, Tryz.results39, go_sem]) rfl ?_
  exact RdP.err (((Below.refl _ _).alloc (Nat.le_refl _) _).alloc (by simp) _) (unhide HL) rfl
 ·have HL : Hid (readM s = rdOf s.size (modelRead (lexR s (s.size + 1) 0))) := by show _ = _; unfold readM; rw [if_neg hs]
  have hs1 : s.size ≤ 400 := by omega
  have hs' : ¬ (400 : Int) < (s.size : Int) := by omega
  have hll : (lexR s (s.size + 1) 0).length ≤ 401 := by have := lexR_len s (s.size + 1) 0 (Nat.zero_le _); omega
  have HLL := hide hll
  have HQ : Hid (∀ t ∈ lexR s (s.size + 1) 0, TkS t) := fun t ht => ⟨lexR_ok s _ _ t ht, by have := lexR_small s _ 0 (Nat.zero_le _) t ht; omega⟩
  have HUP := hide (lexR_up s (s.size + 1) 0 (Nat.zero_le _)).2
  have HPA := hide (fun W hW => parse_any s W hs1 hW)
  generalize lexR s (s.size + 1) 0 = L at *
  clear hbz hm0 hf0 hs hG hll
  go_enter Tryz.func39, Tryz.ntmps39
  go_wp2_with (go_at_call 69; refine (unhide HPA _ (unhide HGV)).mono ?_)
  rintro e w1 ⟨hb1, o1, n1, k1, o2, n2, k2, ⟨al, rs, cells, q, rfl, hmr, ha1, hr1, hp1⟩ | ⟨q, rfl, hmr⟩⟩
  ·have HMR := hide hmr
   have hg := modelRead_good TkS L al rs hmr (unhide HQ)
   have hal : al.length ≤ 401 := by have := hg.2.2.1; have := unhide HLL; omega
   have hrl : rs.length ≤ 401 := by have := hg.2.2.2.2; have := unhide HLL; omega
   have HZA : Hid (∀ t ∈ al, t.s.size ≤ 400) := fun t ht => (hg.1 t ht).1.2
   have HRG : Hid (∀ r ∈ rs, RlGood TkS 401 r) := fun r hr => (hg.2.2.2.1 r hr).mono (unhide HLL)
   have HTE : Hid (tells (0, 0) (pFaults al rs) = meets (0, 0) (faults al rs)) := tells_eq hmr (unhide HUP) (fun r hr => good_rlf (unhide HRG r hr))
   have HLM : Hid (readM s = rdOf s.size (.ok (al, rs))) := by show _ = _; rw [unhide HL, hmr]
   rw [show Hid (readM s = rdOf s.size (.ok (al, rs))) = Hid (readM s = if (meets (0, 0) (faults al rs)).2 ≠ 0 then .error (meets (0, 0) (faults al rs)) else if 16 < nodesL rs then .error (s.size, 4) else .ok (al, rs)) from rfl] at HLM
   have hm1 := (hb1.block _ (lt_of_blk (unhide HM0))).trans (unhide HM0)
   have hf1 := (hb1.block _ (lt_of_blk (unhide HF0))).trans (unhide HF0)
   have hz1 : w.heap.size + 1 < w1.heap.size := lt_of_blk hf1
   have hbs : Below w1.heap.size w1 (w1.alloc (.cells #[.slice o1 n1 k1, .slice o2 n2 k2] 128)) := (Below.refl _ _).alloc (Nat.le_refl _) _
   have HB1 := hide (((unhide HBZ).trans (hb1.mono (by simp; omega))).alloc (by omega) (.cells #[.slice o1 n1 k1, .slice o2 n2 k2] 128))
   have HM1 := hide ((hbs.block _ (by omega)).trans hm1)
   have HF1 := hide ((hbs.block _ hz1).trans hf1)
   have HA1 := hide (owns_later ha1 hbs)
   have HR1 := hide (owns_later hr1 hbs)
   have HP1 := hide (hp1.keep (KQ.below hbs))
   have hsx : (w1.alloc (.cells #[.slice o1 n1 k1, .slice o2 n2 k2] 128)).heap[w1.heap.size]? = some (.cells #[.slice o1 n1 k1, .slice o2 n2 k2] 128 (0, 0)) := blk_alloc _ _
   have HSX := hide hsx
   clear hmr hg hm1 hf1 hb1 ha1 hr1 hp1 hsx hbs HM0 HF0 HBZ HGV HPA HL
   go_wp2_with fail
   generalize w1.alloc (.cells #[.slice o1 n1 k1, .slice o2 n2 k2] 128) = w2 at *
   refine (check_any w2 al rs o1 n1 k1 o2 n2 k2 cells (unhide HA1) (unhide HR1) (unhide HP1) (fun r hr => good_args (fun t h => h.1) (unhide HRG r hr)) hal hrl).mono ?_
   rintro e w3 ⟨rfl, hb3⟩
   rw [unhide HTE]
   generalize hZ : meets (0, 0) (faults al rs) = z at *
   have HZ := hide hZ
   have hz2 : w1.heap.size < w2.heap.size := lt_of_blk (unhide HSX)
   have HB3 := hide ((unhide HB1).trans (hb3.mono (unhide HB1).size))
   have hm3 := (hb3.block _ (lt_of_blk (unhide HM1))).trans (unhide HM1)
   have hf3 := (hb3.block _ (lt_of_blk (unhide HF1))).trans (unhide HF1)
   have hs3 := (hb3.block _ (lt_of_blk (unhide HSX))).trans (unhide HSX)
   have HM3 := hide hm3
   have HF3 := hide hf3
   have HS3 := hide hs3
   have HA3 := hide (owns_later (unhide HA1) hb3)
   have HR3 := hide (owns_later (unhide HR1) hb3)
   have HP3 := hide ((unhide HP1).keep (KQ.below hb3))
   have hz3 : w.heap.size + 1 < w3.heap.size := lt_of_blk hf3
   have hz4 : w.heap.size < w3.heap.size := by omega
   have hz5 : w1.heap.size < w3.heap.size := lt_of_blk hs3
   have rc0 := fun o => cell_of_blk hm3 o
   have fc0 := fun o => cell_of_blk hf3 o
   have rf := fun o => frozen_of_blk hm3 o
   have ff := fun o => frozen_of_blk hf3 o
   have sc := fun o => cell_of_blk hs3 o
   clear hZ hb3 hm3 hf3 hs3 HM1 HF1 HSX HA1 HR1 HP1 HB1 HTE
   by_cases hx : z.2 = 0
   ·have hx' : ((z.2 : Nat) : Int) = 0 := by omega
    have HLN : Hid (readM s = if 16 < nodesL rs then .error (s.size, 4) else .ok (al, rs)) := by show _ = _; rw [unhide HLM, if_neg (by simp [hx])]
    have HFN : Hid (faults al rs = []) := meets_zero (faults_errs al rs) (by rw [unhide HZ]; exact hx)
    have HCK : Hid (∀ r ∈ rs, r.call = true → CallK r) := fun r hr hc => call_k (fun t h => h.1) ((unhide HRG) r hr) hc ((fRules_nil (List.append_eq_nil_iff.1 (unhide HFN)).2 r hr).2 hc)
    have HOK : Hid (∀ r ∈ rs, r.call = true → CallOk r) := fun r hr hc => call_ok (fun t h => h.1) ((unhide HRG) r hr) hc ((fRules_nil (List.append_eq_nil_iff.1 (unhide HFN)).2 r hr).2 hc)
    have HNS : Hid (∀ r ∈ rs, sizeF (ruleF r) ≤ 100000) := fun r hr => by have := ruleF_size ((unhide HRG) r hr) ((unhide HOK) r hr); omega
    clear HFN HLM hx HZ HOK
    have hbf : Below w3.heap.size w3 (w3.alloc (.cells #[.int .i64 z.1, .int .i64 0] 80)) := (Below.refl _ _).alloc (Nat.le_refl _) _
    have HA4 := hide (owns_later (unhide HA3) hbf)
    have HR4 := hide (owns_later (unhide HR3) hbf)
    have HP4 := hide ((unhide HP3).keep (KQ.below hbf))
    have HB4 := hide ((unhide HB3).trans (hbf.mono (unhide HB3).size))
    have HM4 := hide ((hbf.block _ hz4).trans (unhide HM3))
    have HF4 := hide ((hbf.block _ hz3).trans (unhide HF3))
    clear hbf HA3 HR3 HP3 HB3
    go_wp2_with fail
    refine (build_any _ al rs o1 n1 k1 o2 n2 k2 cells (unhide HA4) (unhide HR4) (unhide HP4) (unhide HCK) hal hrl (unhide HZA) (fun r hr => good_sz (unhide HRG r hr))).mono ?_
    rintro e w5 ⟨hb5, a1, a2, a3, m1, m2, m3, cs, rfl, ha5, hr5, hp5⟩
    have hm5 := (hb5.block _ (lt_of_blk (unhide HM4))).trans (unhide HM4)
    have hf5 := (hb5.block _ (lt_of_blk (unhide HF4))).trans (unhide HF4)
    have HB5 := hide ((unhide HB4).trans (hb5.mono (unhide HB4).size))
    have hbm : Below w5.heap.size w5 (w5.alloc (.cells #[.slice a1 a2 a3, .slice m1 m2 m3] 78)) := (Below.refl _ _).alloc (Nat.le_refl _) _
    have HA6 := hide (owns_later ha5 hbm)
    have HR6 := hide (owns_later hr5 hbm)
    have HP6 := hide (hp5.keep (KB.below hbm))
    have HB6 := hide ((unhide HB5).trans (hbm.mono (unhide HB5).size))
    have HM6 := hide ((hbm.block _ (lt_of_blk hm5)).trans hm5)
    have HF6 := hide ((hbm.block _ (lt_of_blk hf5)).trans hf5)
    have hx6 : (w5.alloc (.cells #[.slice a1 a2 a3, .slice m1 m2 m3] 78)).heap[w5.heap.size]? = some (.cells #[.slice a1 a2 a3, .slice m1 m2 m3] 78 (0, 0)) := blk_alloc _ _
    have HX6 := hide hx6
    clear rc0 fc0 rf ff sc hb5 ha5 hr5 hp5 hm5 hf5 hbm hx6 HA4 HR4 HP4 HB4 HM4 HF4
    go_wp2_with fail
    generalize w5.alloc (.cells #[.slice a1 a2 a3, .slice m1 m2 m3] 78) = w6 at *
    refine (mnodes_any w6 rs a1 a2 a3 m1 m2 m3 cs (unhide HR6) (unhide HP6) hrl (unhide HNS)).mono ?_
    rintro e w7 ⟨rfl, hb7⟩
    have HA7 := hide (owns_later (unhide HA6) hb7)
    have HR7 := hide (owns_later (unhide HR6) hb7)
    have HP7 := hide ((unhide HP6).keep (KB.below hb7))
    have HB7 := hide ((unhide HB6).trans (hb7.mono (unhide HB6).size))
    have hm7 := (hb7.block _ (lt_of_blk (unhide HM6))).trans (unhide HM6)
    have hf7 := (hb7.block _ (lt_of_blk (unhide HF6))).trans (unhide HF6)
    have hx7 := (hb7.block _ (lt_of_blk (unhide HX6))).trans (unhide HX6)
    have HM7 := hide hm7
    have HF7 := hide hf7
    have hz7 : w.heap.size + 1 < w7.heap.size := lt_of_blk hf7
    have hz8 : w.heap.size < w7.heap.size := by omega
    have hz9 : w5.heap.size < w7.heap.size := lt_of_blk hx7
    have rc0 := fun o => cell_of_blk hm7 o
    have fc0 := fun o => cell_of_blk hf7 o
    have rf := fun o => frozen_of_blk hm7 o
    have ff := fun o => frozen_of_blk hf7 o
    have xc := fun o => cell_of_blk hx7 o
    clear hb7 hm7 hf7 hx7 HA6 HR6 HP6 HB6 HM6 HF6 HX6
    generalize hN : nodesL rs = n at *
    have HN := hide hN
    clear hN
    by_cases hx : 16 < n
    ·have hx' : (16 : Int) < (n : Int) := by omega
     have HLE : Hid (readM s = .error (s.size, 4)) := by show _ = _; rw [unhide HLN, if_pos hx]
     clear xc HLN
     go_wp2_with fail
     clear rc0 fc0
     obtain ⟨f1, f2⟩ := put2_fin (.slice none 0 0) (.slice none 0 0) (.int .i64 s.size) (.int .i64 4) (unhide HM7) (unhide HF7)
     have rc := fun o => cell_of_blk f1 o
     have fc := fun o => cell_of_blk f2 o
     unfold put2 at rc fc
     refine bodyPost_ret (v := .tuple #[.agg #[.slice none 0 0, .slice none 0 0], .agg #[.int .i64 s.size, .int .i64 4]]) (by simp [results, Tryz.results39, go_sem, rc, fc]) rfl ?_
     exact RdP.err (put2_below _ _ _ _ (unhide HB7) (Nat.le_refl _)) (unhide HLE) rfl
    ·have hx' : ¬ (16 : Int) < (n : Int) := by omega
     have HLE : Hid (readM s = .ok (al, rs)) := by show _ = _; rw [unhide HLN, if_neg hx]
     clear HLN
     go_wp2_with fail
     clear rc0 fc0 xc
     obtain ⟨f1, f2⟩ := put2_fin (.slice a1 a2 a3) (.slice m1 m2 m3) (.int .i64 0) (.int .i64 0) (unhide HM7) (unhide HF7)
     have rc := fun o => cell_of_blk f1 o
     have fc := fun o => cell_of_blk f2 o
     unfold put2 at rc fc
     refine bodyPost_ret (v := .tuple #[.agg #[.slice a1 a2 a3, .slice m1 m2 m3], .agg #[.int .i64 0, .int .i64 0]]) (by simp [results, Tryz.results39, go_sem, rc, fc]) rfl ?_
     refine ⟨put2_below _ _ _ _ (unhide HB7) (Nat.le_refl _), ?_⟩
     rw [unhide HLE]
     refine ⟨a1, a2, a3, m1, m2, m3, cs, rfl, ?_, ?_, ?_⟩
     ·exact (put2_kb (unhide HM7) (unhide HF7) _ _ _ _).owns (unhide HA7)
     ·exact put2_owns (unhide HM7) (unhide HF7) _ _ _ _ (unhide HR7)
     ·exact (unhide HP7).keep (put2_kb (unhide HM7) (unhide HF7) _ _ _ _)
   ·have hx' : ¬ ((z.2 : Nat) : Int) = 0 := by omega
    have HLE : Hid (readM s = .error z) := by show _ = _; rw [unhide HLM, if_pos hx]
    clear HLM hx HA3 HR3 HP3 sc
    go_wp2_with fail
    go_region
    go_wp2_with fail
    clear rc0 fc0
    obtain ⟨f1, f2⟩ := put2_fin (.slice none 0 0) (.slice none 0 0) (.int .i64 z.1) (.int .i64 z.2) (unhide HM3) (unhide HF3)
    have rc := fun o => cell_of_blk ((Below.heap_alloc _ (.cells #[.int .i64 z.1, .int .i64 z.2] 80) _ (lt_of_blk f1)).trans f1) o
    have fc := fun o => cell_of_blk ((Below.heap_alloc _ (.cells #[.int .i64 z.1, .int .i64 z.2] 80) _ (lt_of_blk f2)).trans f2) o
    unfold put2 at rc fc
    refine bodyPost_ret (v := .tuple #[.agg #[.slice none 0 0, .slice none 0 0], .agg #[.int .i64 z.1, .int .i64 z.2]]) (by simp [results, Tryz.results39, go_sem, rc, fc]) rfl ?_
    exact RdP.err ((put2_below _ _ _ _ (unhide HB3) (Nat.le_refl _)).alloc (put2_below _ _ _ _ (unhide HB3) (Nat.le_refl _)).size _).drew (unhide HLE) rfl
  ·have HL2 : Hid (readM s = .error (q, 2)) := by show _ = _; rw [unhide HL, hmr]; rfl
   have hm1 := (hb1.block _ (lt_of_blk (unhide HM0))).trans (unhide HM0)
   have hf1 := (hb1.block _ (lt_of_blk (unhide HF0))).trans (unhide HF0)
   have HB1 := hide ((unhide HBZ).trans (hb1.mono (by simp; omega)))
   have hz1 : w.heap.size + 1 < w1.heap.size := lt_of_blk hf1
   have hz0 : w.heap.size < w1.heap.size := by omega
   have HM2 := hide hm1
   have HF2 := hide hf1
   have rf := fun o => frozen_of_blk hm1 o
   have ff := fun o => frozen_of_blk hf1 o
   have rc0 := fun o => cell_of_blk hm1 o
   have fc0 := fun o => cell_of_blk hf1 o
   clear hm1 hf1 hb1 hmr
   go_wp2_with fail
   clear rc0 fc0
   obtain ⟨f1, f2⟩ := put2_fin (.slice none 0 0) (.slice none 0 0) (.int .i64 q) (.int .i64 2) (unhide HM2) (unhide HF2)
   have rc := fun o => cell_of_blk ((Below.heap_alloc _ (.cells #[.slice o1 n1 k1, .slice o2 n2 k2] 128) _ (lt_of_blk f1)).trans f1) o
   have fc := fun o => cell_of_blk ((Below.heap_alloc _ (.cells #[.slice o1 n1 k1, .slice o2 n2 k2] 128) _ (lt_of_blk f2)).trans f2) o
   unfold put2 at rc fc
   refine bodyPost_ret (v := .tuple #[.agg #[.slice none 0 0, .slice none 0 0], .agg #[.int .i64 q, .int .i64 2]]) (by simp [results, Tryz.results39, go_sem, rc, fc]) rfl ?_
   exact RdP.err ((put2_below _ _ _ _ (unhide HB1) (Nat.le_refl _)).alloc (put2_below _ _ _ _ (unhide HB1) (Nat.le_refl _)).size _) (unhide HL2) rfl
end Go.Proofs.YtidakhhekofkoaaGreatDoor
