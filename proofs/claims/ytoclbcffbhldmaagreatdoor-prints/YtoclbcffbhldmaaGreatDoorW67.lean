/- Plain mathematics of the program's text and of what its check lets through. -/
import Derived.Test.YtoclbcffbhldmaaGreatDoorW25
import Derived.Test.YtoclbcffbhldmaaGreatDoorOrd
import Derived.Test.YtoclbcffbhldmaaGreatDoorF90
import Derived.Test.YtoclbcffbhldmaaGreatDoorQ69
import Derived.Test.YtoclbcffbhldmaaGreatDoorK36
set_option linter.unusedSimpArgs false
namespace Go.Proofs.YtoclbcffbhldmaaGreatDoor
open Go.RowKit Go.Deep

theorem ba_ext {a b : ByteArray} (h : a.data.toList = b.data.toList) : a = b := ByteArray.ext (Array.toList_inj.1 h)
theorem txtActs_tail : ∀ (l : List Tk) (out : ByteArray) (i : Nat), (txtActs out (i + 1) l).data.toList = out.data.toList ++ Lib.joinTail [44, 32] ((l.map (·.s)).map (·.data.toList))
  | [], out, i => by simp [txtActs, Lib.joinTail]
  | t :: r, out, i => by
    rw [txtActs, if_pos (Nat.succ_pos i), txtActs_tail r _ (i + 1)]
    simp [Lib.joinTail, ByteArray.data_append]
theorem mH_eq {al : List Tk} (h : al ≠ []) : mH al = txtActs ⟨#[97, 99, 116, 115, 32]⟩ 0 al ++ ⟨#[59, 10]⟩ := by
  cases al with
  | nil => exact absurd rfl h
  | cons t r =>
    unfold mH
    congr 1
    apply ba_ext
    rw [txtActs, if_neg (Nat.lt_irrefl 0), txtActs_tail]
    unfold jnB
    rw [List.map_cons, List.map_cons, Lib.join_cons]
    simp [ByteArray.data_append]
theorem ruL_eq {Q : Tk → Prop} {m : Nat} {r : Rl} (hg : RlGood Q m r) (out : ByteArray) : txtRule out r = out ++ ruL r := by
  unfold txtRule ruL ruT
  rcases hg with ⟨hc, -, -, -, x, -, -, ha | ⟨y, -, -, ha⟩⟩ | ⟨hc, -, -, -⟩
  · rw [if_pos hc, if_pos hc, ha, if_neg (by simp)]
    apply ba_ext
    simp [ByteArray.data_append, jnB, argS, Lib.join_one]
  · rw [if_pos hc, if_pos hc, ha, if_pos (by simp)]
    apply ba_ext
    simp [ByteArray.data_append, jnB, argS, Lib.join_cons, Lib.joinTail]
  · rw [if_neg (by rw [hc]; decide), if_neg (by rw [hc]; decide)]
    apply ba_ext
    simp [ByteArray.data_append]
theorem mT_eq {Q : Tk → Prop} {m : Nat} : ∀ {rs : List Rl} (out : ByteArray), (∀ r ∈ rs, RlGood Q m r) → mT out rs = txtRules out rs
  | [], _, _ => rfl
  | r :: l, out, h => by
    rw [mT, txtRules, ruL_eq (h r List.mem_cons_self), mT_eq _ (fun x hx => h x (List.mem_cons_of_mem _ hx))]
theorem mtxt_eq {Q : Tk → Prop} {m : Nat} {al : List Tk} {rs : List Rl} (h : al ≠ []) (hg : ∀ r ∈ rs, RlGood Q m r) : mT (mH al) rs = txtM al rs := by
  rw [mT_eq _ hg, mH_eq h]; rfl
theorem joinTail_len {l : List (List UInt8)} (h : ∀ x ∈ l, x.length ≤ 400) : (Lib.joinTail [44, 32] l).length ≤ l.length * 402 := by
  induction l with
  | nil => simp [Lib.joinTail]
  | cons x r ih =>
    have h1 := h x List.mem_cons_self
    have h2 := ih (fun y hy => h y (List.mem_cons_of_mem _ hy))
    unfold Lib.joinTail at h2 ⊢
    simp at h2 ⊢
    omega
theorem jnB_size {al : List Tk} (h : ∀ t ∈ al, t.s.size ≤ 400) (hl : al.length ≤ 401) : (jnB al).size ≤ 200000 := by
  cases al with
  | nil => simp [jnB, Lib.join_nil, ByteArray.size]
  | cons t r =>
    have h1 := h t List.mem_cons_self
    have h2 := joinTail_len (l := (r.map (·.s)).map (·.data.toList)) (fun x hx => by
      rw [List.map_map] at hx
      obtain ⟨y, hy, rfl⟩ := List.mem_map.1 hx
      exact h y (List.mem_cons_of_mem _ hy))
    have e : (jnB (t :: r)).size = t.s.size + (Lib.joinTail [44, 32] ((r.map (·.s)).map (·.data.toList))).length := by
      unfold jnB
      rw [List.map_cons, List.map_cons, Lib.join_cons]
      show (List.toArray _).size = _
      rw [List.size_toArray, List.length_append]; rfl
    rw [e]
    simp only [List.length_map] at h2
    rw [List.length_cons] at hl
    omega
theorem ruT_size {r : Rl} (hg : RlGood TkS 401 r) : (ruT r).size ≤ 200000 := by
  unfold ruT
  rcases hg with ⟨hc, hq, -, -, x, hx, -, ha⟩ | ⟨hc, hf, hs, -⟩
  · rw [if_pos hc]
    have h1 := hq.2
    have h2 : (jnB r.args).size ≤ 100000 := by
      have h3 := hx.2
      rcases ha with ha | ⟨y, hy, -, ha⟩
      · rw [ha]; simp only [jnB, List.map_cons, List.map_nil, Lib.join_one]; show x.s.size ≤ _; omega
      · have h4 := hy.2
        have e : (jnB [x, y]).size = x.s.size + (2 + y.s.size) := by
          have e2 : jnB [x, y] = x.s ++ ⟨#[44, 32]⟩ ++ y.s := by
            apply ba_ext; simp [jnB, Lib.join_cons, Lib.joinTail, ByteArray.data_append]
          rw [e2, ByteArray.size_append, ByteArray.size_append, show (⟨#[44, 32]⟩ : ByteArray).size = 2 from rfl]; omega
        rw [ha, e]; omega
    rw [ByteArray.size_append, ByteArray.size_append, ByteArray.size_append, show (⟨#[40]⟩ : ByteArray).size = 1 from rfl, show (⟨#[41]⟩ : ByteArray).size = 1 from rfl]; omega
  · rw [if_neg (by rw [hc]; decide)]
    have := txtF_size (m := 400) (fun t (ht : TkS t) => ht.2) hf
    exact Nat.le_trans this (Nat.le_trans (Nat.mul_le_mul_left 407 hs) (by decide))
theorem call_k {al : List Tk} {Q : Tk → Prop} {m : Nat} {r : Rl} (hQ : ∀ t, Q t → TkOk t) (hg : RlGood Q m r) (hc : r.call = true) (h : fCall al r = []) : CallK r := by
  rcases hg with ⟨_, _, _, _, x, hx, hxk, hargs⟩ | ⟨h1, _⟩
  · unfold fCall at h
    obtain ⟨_, h2⟩ := List.append_eq_nil_iff.1 h
    obtain ⟨h3, h4⟩ := List.append_eq_nil_iff.1 h2
    obtain ⟨h5, h6⟩ := List.append_eq_nil_iff.1 h4
    have hn : tplNo r.word.s.toList ≤ 11 := by
      rcases Nat.lt_or_ge 11 (tplNo r.word.s.toList) with hh | hh
      · rw [if_neg (by omega)] at h3; cases h3
      · exact hh
    have hlen : ¬ r.args.length < (tplTakes (tplNo r.word.s.toList)).length := by
      intro hh; rw [if_pos hh] at h6; cases h6
    have hbad : ∀ {ks : List UInt8} {t : Tk} {l : List Tk}, fArgs al ks (t :: l) = [] → badArg ks t = false ∧ fArgs al ks.tail l = [] := by
      intro ks t l he
      rw [fArgs, fArg] at he
      obtain ⟨e1, e2⟩ := List.append_eq_nil_iff.1 he
      obtain ⟨_, e3⟩ := List.append_eq_nil_iff.1 e1
      refine ⟨?_, e2⟩
      cases hb : badArg ks t with
      | false => rfl
      | true => rw [if_pos hb] at e3; cases e3
    rcases takes_len hn with ⟨ht, hk⟩ | ⟨ht, hk⟩ | ⟨ht, hk⟩
    · rcases hargs with ha | ⟨y, hy, hyk, ha⟩
      · exact Or.inl ⟨hk, x, ha, hxk⟩
      · rw [ha, ht] at h5
        have := hbad (hbad h5).2
        exact absurd this.1 (by simp [badArg])
    · rcases hargs with ha | ⟨y, hy, hyk, ha⟩
      · rw [ha, ht] at hlen; exact absurd (by simp) hlen
      · rw [ha, ht] at h5
        have hb := (hbad (hbad h5).2).1
        rcases hyk with hyk | hyk
        · simp [badArg, hyk] at hb
        · obtain ⟨c, hc1, hc2, hc3⟩ := dig_ok (hQ y hy) hyk
          exact Or.inr (Or.inl ⟨hk, x, y, ha, hxk, hyk, c, hc1, hc2, hc3⟩)
    · rcases hargs with ha | ⟨y, hy, hyk, ha⟩
      · rw [ha, ht] at hlen; exact absurd (by simp) hlen
      · rw [ha, ht] at h5
        have hb := (hbad (hbad h5).2).1
        rcases hyk with hyk | hyk
        · exact Or.inr (Or.inr ⟨⟨hk, hn⟩, x, y, ha, hxk, hyk⟩)
        · simp [badArg, hyk] at hb
  · rw [h1] at hc; cases hc
theorem good_args {Q : Tk → Prop} {m : Nat} {r : Rl} (hQ : ∀ t, Q t → TkOk t) (hg : RlGood Q m r) : RlArgs r := by
  intro hc
  rcases hg with ⟨_, _, _, _, x, hx, hxk, hargs⟩ | ⟨h1, _⟩
  · rcases hargs with ha | ⟨y, hy, hyk, ha⟩
    · rw [ha]
      refine ⟨fun t ht => ?_, by simp, by simp⟩
      rw [List.mem_singleton] at ht; subst ht; exact Or.inl hxk
    · rw [ha]
      refine ⟨fun t ht => ?_, by simp, by simp⟩
      rcases List.mem_cons.1 ht with rfl | ht
      · exact Or.inl hxk
      · rw [List.mem_singleton] at ht; subst ht
        rcases hyk with hyk | hyk
        · exact Or.inl hyk
        · exact Or.inr ⟨hyk, dig_ok (hQ _ hy) hyk⟩
  · rw [h1] at hc; cases hc
theorem good_rlf {Q : Tk → Prop} {m : Nat} {r : Rl} (hg : RlGood Q m r) : RlF r := by
  intro hc
  rcases hg with ⟨_, _, _, h, _⟩ | ⟨h1, _⟩
  · exact h
  · rw [h1] at hc; cases hc
theorem callK_word {r : Rl} (h : CallK r) : r.word.s.toList ≠ [] := by
  intro e
  unfold CallK at h
  rw [e] at h
  rcases h with ⟨h, _⟩ | ⟨⟨_, h⟩, _⟩ | ⟨⟨_, h⟩, _⟩ <;> exact absurd h (by decide)
end Go.Proofs.YtoclbcffbhldmaaGreatDoor
/- The program's Read. -/
set_option linter.unusedSimpArgs false
namespace Go.Proofs.YtoclbcffbhldmaaGreatDoor
open Go.RowKit Go.Deep

/-- What Read leaves. -/
def RdP (s : ByteArray) (w w' : World) (e : Ending) : Prop :=
  Below w.heap.size w w' ∧ match readM s with
  | .error x => e = .returned (.tuple #[.agg #[.slice none 0 0, .slice none 0 0], .agg #[.int .i64 x.1, .int .i64 x.2]])
  | .ok (al, rs) => ∃ a1 a2 a3 m1 m2 m3 cells, e = .returned (.tuple #[.agg #[.slice a1 a2 a3, .slice m1 m2 m3], .agg #[.int .i64 0, .int .i64 0]]) ∧ w'.ownsRow 0 9 1 (.slice a1 a2 a3) al.length (strC al) ∧ w'.ownsRow 0 162 3 (.slice m1 m2 m3) rs.length cells ∧ BuP w' rs cells
theorem RdP.err {s : ByteArray} {w w' : World} {e : Ending} {x : Nat × Nat} (hb : Below w.heap.size w w') (h : readM s = .error x) (he : e = .returned (.tuple #[.agg #[.slice none 0 0, .slice none 0 0], .agg #[.int .i64 x.1, .int .i64 x.2]])) : RdP s w w' e := by
  refine ⟨hb, ?_⟩; rw [h]; exact he
/-- The two results, written. -/
def put2 (w : World) (h : Nat) (u v x y : Value) : World := (((w.setCell ⟨h, 0, none⟩ u).setCell ⟨h, 1, none⟩ v).setCell ⟨h + 1, 0, none⟩ x).setCell ⟨h + 1, 1, none⟩ y
theorem put2_fin {w : World} {h : Nat} {a b c d : Value} (u v x y : Value) (h1 : w.heap[h]? = some (.cells #[a, b] 109 (0, 0))) (h2 : w.heap[h + 1]? = some (.cells #[c, d] 111 (0, 0))) :
    (put2 w h u v x y).heap[h]? = some (.cells #[u, v] 109 (0, 0)) ∧ (put2 w h u v x y).heap[h + 1]? = some (.cells #[x, y] 111 (0, 0)) := by
  have e1 : ((w.setCell ⟨h, 0, none⟩ u).setCell ⟨h, 1, none⟩ v).heap[h]? = some (.cells #[u, v] 109 (0, 0)) := blk_set (blk_set h1 0 u) 1 v
  have e2 : ((w.setCell ⟨h, 0, none⟩ u).setCell ⟨h, 1, none⟩ v).heap[h + 1]? = some (.cells #[c, d] 111 (0, 0)) := (Below.heap_setCell _ _ _ _ (by show h + 1 ≠ h; omega)).trans ((Below.heap_setCell _ _ _ _ (by show h + 1 ≠ h; omega)).trans h2)
  refine ⟨?_, blk_set (blk_set e2 0 x) 1 y⟩
  exact (Below.heap_setCell _ _ _ _ (by show h ≠ h + 1; omega)).trans ((Below.heap_setCell _ _ _ _ (by show h ≠ h + 1; omega)).trans e1)
theorem put2_grown (w : World) (h : Nat) (u v x y : Value) {b : Nat} (h1 : b ≠ h) (h2 : b ≠ h + 1) : (put2 w h u v x y).heap[b]? = w.heap[b]? :=
  (Below.heap_setCell _ _ _ _ h2).trans ((Below.heap_setCell _ _ _ _ h2).trans ((Below.heap_setCell _ _ _ _ h1).trans (Below.heap_setCell _ _ _ _ h1)))
theorem put2_below {w0 w : World} {h : Nat} (u v x y : Value) (hb : Below w0.heap.size w0 w) (hh : w0.heap.size ≤ h) : Below w0.heap.size w0 (put2 w h u v x y) :=
  (((hb.setCell (p := ⟨h, 0, none⟩) hh _).setCell (p := ⟨h, 1, none⟩) hh _).setCell (p := ⟨h + 1, 0, none⟩) (by show _ ≤ h + 1; omega) _).setCell (p := ⟨h + 1, 1, none⟩) (by show _ ≤ h + 1; omega) _

theorem put2_kb {w : World} {h : Nat} {a b c d : Value} (h1 : w.heap[h]? = some (.cells #[a, b] 109 (0, 0))) (h2 : w.heap[h + 1]? = some (.cells #[c, d] 111 (0, 0))) (u v x y : Value) : KB w (put2 w h u v x y) := by
  intro k cc ty m hk ht
  rw [put2_grown]
  · exact hk
  · rintro rfl; rw [h1] at hk; injection hk with hk; injection hk with _ e _; subst e; revert ht; decide
  · rintro rfl; rw [h2] at hk; injection hk with hk; injection hk with _ e _; subst e; revert ht; decide
theorem put2_owns {w : World} {h : Nat} {a b c d : Value} (h1 : w.heap[h]? = some (.cells #[a, b] 109 (0, 0))) (h2 : w.heap[h + 1]? = some (.cells #[c, d] 111 (0, 0))) (u v x y : Value) {n : Nat} {t : Value} {xs : List Value} (ho : w.ownsRow 0 162 3 t n xs) : (put2 w h u v x y).ownsRow 0 162 3 t n xs := by
  obtain ⟨e1, e2⟩ := ho
  refine ⟨e1, ?_⟩
  rcases e2 with e2 | ⟨g, cap, cur, hv, hg, hh, r⟩
  · exact Or.inl e2
  · refine Or.inr ⟨g, cap, cur, hv, hg, ?_, r⟩
    rw [put2_grown]
    · exact hh
    · rintro rfl; rw [h1] at hh; injection hh with hh; injection hh with _ e _; revert e; decide
    · rintro rfl; rw [h2] at hh; injection hh with hh; injection hh with _ e _; revert e; decide

set_option maxHeartbeats 4000000 in
set_option maxRecDepth 100000 in
theorem read_any (s : ByteArray) (w : World) (hG : GV w) : Calls Tryz.prog 55 #[.string s] w fun e w' => RdP s w w' e := by
  have hbz : Below w.heap.size w ((w.alloc (.cells #[.slice none 0 0, .slice none 0 0] 109)).alloc (.cells #[.int .i64 0, .int .i64 0] 111)) := ((Below.refl _ _).alloc (Nat.le_refl _) _).alloc (by simp) _
  have hm0 : ((w.alloc (.cells #[.slice none 0 0, .slice none 0 0] 109)).alloc (.cells #[.int .i64 0, .int .i64 0] 111)).heap[w.heap.size]? = some (.cells #[.slice none 0 0, .slice none 0 0] 109 (0, 0)) := (Below.heap_alloc _ _ _ (by simp)).trans (blk_alloc _ _)
  have hf0 : ((w.alloc (.cells #[.slice none 0 0, .slice none 0 0] 109)).alloc (.cells #[.int .i64 0, .int .i64 0] 111)).heap[w.heap.size + 1]? = some (.cells #[.int .i64 0, .int .i64 0] 111 (0, 0)) := blk_alloc' _ _ _ (by simp)
  have HBZ := hide hbz
  have HM0 := hide hm0
  have HF0 := hide hf0
  have HGV := hide (hG.later hbz)
  by_cases hs : 400 < s.size
  · have HL : Hid (readM s = .error (0, 1)) := by show _ = _; unfold readM; rw [if_pos hs]
    have hs' : (400 : Int) < (s.size : Int) := by omega
    clear hbz hm0 hf0 hs hG
    go_enter Tryz.func55, Tryz.ntmps55
    go_wp2_with fail
    refine bodyPost_ret (v := .tuple #[.agg #[.slice none 0 0, .slice none 0 0], .agg #[.int .i64 0, .int .i64 1]]) (by simp [results, Tryz.results55, go_sem]) rfl ?_
    exact RdP.err (((Below.refl _ _).alloc (Nat.le_refl _) _).alloc (by simp) _) (unhide HL) rfl
  · have HL : Hid (readM s = rdOf s.size (modelRead (lexR s (s.size + 1) 0))) := by show _ = _; unfold readM; rw [if_neg hs]
    have hs1 : s.size ≤ 400 := by omega
    have hs' : ¬ (400 : Int) < (s.size : Int) := by omega
    have hll : (lexR s (s.size + 1) 0).length ≤ 401 := by have := lexR_len s (s.size + 1) 0 (Nat.zero_le _); omega
    have HLL := hide hll
    have HQ : Hid (∀ t ∈ lexR s (s.size + 1) 0, TkS t) := fun t ht => ⟨lexR_ok s _ _ t ht, by have := lexR_small s _ 0 (Nat.zero_le _) t ht; omega⟩
    have HUP := hide (lexR_up s (s.size + 1) 0 (Nat.zero_le _)).2
    have HPA := hide (fun W hW => parse_any s W hs1 hW)
    generalize lexR s (s.size + 1) 0 = L at *
    clear hbz hm0 hf0 hs hG hll
    go_enter Tryz.func55, Tryz.ntmps55
    go_wp2_with (go_at_call 74; refine (unhide HPA _ (unhide HGV)).mono ?_)
    rintro e w1 ⟨hb1, o1, n1, k1, o2, n2, k2, ⟨al, rs, cells, q, rfl, hmr, ha1, hr1, hp1⟩ | ⟨q, rfl, hmr⟩⟩
    · have HMR := hide hmr
      have hg := modelRead_good TkS L al rs hmr (unhide HQ)
      have hal : al.length ≤ 401 := by have := hg.2.2.1; have := unhide HLL; omega
      have hrl : rs.length ≤ 401 := by have := hg.2.2.2.2; have := unhide HLL; omega
      have HRG : Hid (∀ r ∈ rs, RlGood TkS 401 r) := fun r hr => (hg.2.2.2.1 r hr).mono (unhide HLL)
      have HTE : Hid (tells (0, 0) (pFaults al rs) = meets (0, 0) (faults al rs)) := tells_eq hmr (unhide HUP) (fun r hr => good_rlf (unhide HRG r hr))
      have HLM : Hid (readM s = rdOf s.size (.ok (al, rs))) := by show _ = _; rw [unhide HL, hmr]
      rw [show Hid (readM s = rdOf s.size (.ok (al, rs))) = Hid (readM s = if (meets (0, 0) (faults al rs)).2 ≠ 0 then .error (meets (0, 0) (faults al rs)) else if 16 < nodesL rs then .error (s.size, 4) else .ok (al, rs)) from rfl] at HLM
      have hm1 := (hb1.block _ (lt_of_blk (unhide HM0))).trans (unhide HM0)
      have hf1 := (hb1.block _ (lt_of_blk (unhide HF0))).trans (unhide HF0)
      have hz1 : w.heap.size + 1 < w1.heap.size := lt_of_blk hf1
      have hbs : Below w1.heap.size w1 (w1.alloc (.cells #[.slice o1 n1 k1, .slice o2 n2 k2] 146)) := (Below.refl _ _).alloc (Nat.le_refl _) _
      have HB1 := hide (((unhide HBZ).trans (hb1.mono (by simp; omega))).alloc (by omega) (.cells #[.slice o1 n1 k1, .slice o2 n2 k2] 146))
      have HM1 := hide ((hbs.block _ (by omega)).trans hm1)
      have HF1 := hide ((hbs.block _ hz1).trans hf1)
      have HA1 := hide (owns_later ha1 hbs)
      have HR1 := hide (owns_later hr1 hbs)
      have HP1 := hide (hp1.keep (KQ.below hbs))
      have hsx : (w1.alloc (.cells #[.slice o1 n1 k1, .slice o2 n2 k2] 146)).heap[w1.heap.size]? = some (.cells #[.slice o1 n1 k1, .slice o2 n2 k2] 146 (0, 0)) := blk_alloc _ _
      have HSX := hide hsx
      clear hmr hg hm1 hf1 hb1 ha1 hr1 hp1 hsx hbs HM0 HF0 HBZ HGV HPA HL
      go_wp2_with fail
      generalize w1.alloc (.cells #[.slice o1 n1 k1, .slice o2 n2 k2] 146) = w2 at *
      refine (check_any w2 al rs o1 n1 k1 o2 n2 k2 cells (unhide HA1) (unhide HR1) (unhide HP1) (fun r hr => good_args (fun t h => h.1) (unhide HRG r hr)) hal hrl).mono ?_
      rintro e w3 ⟨rfl, hb3⟩
      rw [unhide HTE]
      generalize hZ : meets (0, 0) (faults al rs) = z at *
      have HZ := hide hZ
      have hz2 : w1.heap.size < w2.heap.size := lt_of_blk (unhide HSX)
      have HB3 := hide ((unhide HB1).trans (hb3.mono (unhide HB1).size))
      have hm3 := (hb3.block _ (lt_of_blk (unhide HM1))).trans (unhide HM1)
      have hf3 := (hb3.block _ (lt_of_blk (unhide HF1))).trans (unhide HF1)
      have hs3 := (hb3.block _ (lt_of_blk (unhide HSX))).trans (unhide HSX)
      have HM3 := hide hm3
      have HF3 := hide hf3
      have HS3 := hide hs3
      have HA3 := hide (owns_later (unhide HA1) hb3)
      have HR3 := hide (owns_later (unhide HR1) hb3)
      have HP3 := hide ((unhide HP1).keep (KQ.below hb3))
      have hz3 : w.heap.size + 1 < w3.heap.size := lt_of_blk hf3
      have hz4 : w.heap.size < w3.heap.size := by omega
      have hz5 : w1.heap.size < w3.heap.size := lt_of_blk hs3
      have rc0 := fun o => cell_of_blk hm3 o
      have fc0 := fun o => cell_of_blk hf3 o
      have rf := fun o => frozen_of_blk hm3 o
      have ff := fun o => frozen_of_blk hf3 o
      have sc := fun o => cell_of_blk hs3 o
      clear hZ hb3 hm3 hf3 hs3 HM1 HF1 HSX HA1 HR1 HP1 HB1 HTE
      by_cases hx : z.2 = 0
      · have hx' : ((z.2 : Nat) : Int) = 0 := by omega
        have HLN : Hid (readM s = if 16 < nodesL rs then .error (s.size, 4) else .ok (al, rs)) := by show _ = _; rw [unhide HLM, if_neg (by simp [hx])]
        have HFN : Hid (faults al rs = []) := meets_zero (faults_errs al rs) (by rw [unhide HZ]; exact hx)
        have HCK : Hid (∀ r ∈ rs, r.call = true → CallK r) := fun r hr hc => call_k (fun t h => h.1) ((unhide HRG) r hr) hc ((fRules_nil (List.append_eq_nil_iff.1 (unhide HFN)).2 r hr).2 hc)
        have HOK : Hid (∀ r ∈ rs, r.call = true → CallOk r) := fun r hr hc => call_ok (fun t h => h.1) ((unhide HRG) r hr) hc ((fRules_nil (List.append_eq_nil_iff.1 (unhide HFN)).2 r hr).2 hc)
        have HNS : Hid (∀ r ∈ rs, sizeF (ruleF r) ≤ 100000) := fun r hr => by have := ruleF_size ((unhide HRG) r hr) ((unhide HOK) r hr); omega
        clear HFN HLM hx HZ HOK
        have hbf : Below w3.heap.size w3 (w3.alloc (.cells #[.int .i64 z.1, .int .i64 0] 111)) := (Below.refl _ _).alloc (Nat.le_refl _) _
        have HA4 := hide (owns_later (unhide HA3) hbf)
        have HR4 := hide (owns_later (unhide HR3) hbf)
        have HP4 := hide ((unhide HP3).keep (KQ.below hbf))
        have HB4 := hide ((unhide HB3).trans (hbf.mono (unhide HB3).size))
        have HM4 := hide ((hbf.block _ hz4).trans (unhide HM3))
        have HF4 := hide ((hbf.block _ hz3).trans (unhide HF3))
        clear hbf HA3 HR3 HP3 HB3
        go_wp2_with fail
        refine (build_any _ al rs o1 n1 k1 o2 n2 k2 cells (unhide HA4) (unhide HR4) (unhide HP4) (unhide HCK) hal hrl).mono ?_
        rintro e w5 ⟨hb5, a1, a2, a3, m1, m2, m3, cs, rfl, ha5, hr5, hp5⟩
        have hm5 := (hb5.block _ (lt_of_blk (unhide HM4))).trans (unhide HM4)
        have hf5 := (hb5.block _ (lt_of_blk (unhide HF4))).trans (unhide HF4)
        have HB5 := hide ((unhide HB4).trans (hb5.mono (unhide HB4).size))
        have hbm : Below w5.heap.size w5 (w5.alloc (.cells #[.slice a1 a2 a3, .slice m1 m2 m3] 109)) := (Below.refl _ _).alloc (Nat.le_refl _) _
        have HA6 := hide (owns_later ha5 hbm)
        have HR6 := hide (owns_later hr5 hbm)
        have HP6 := hide (hp5.keep (KB.below hbm))
        have HB6 := hide ((unhide HB5).trans (hbm.mono (unhide HB5).size))
        have HM6 := hide ((hbm.block _ (lt_of_blk hm5)).trans hm5)
        have HF6 := hide ((hbm.block _ (lt_of_blk hf5)).trans hf5)
        have hx6 : (w5.alloc (.cells #[.slice a1 a2 a3, .slice m1 m2 m3] 109)).heap[w5.heap.size]? = some (.cells #[.slice a1 a2 a3, .slice m1 m2 m3] 109 (0, 0)) := blk_alloc _ _
        have HX6 := hide hx6
        clear rc0 fc0 rf ff sc hb5 ha5 hr5 hp5 hm5 hf5 hbm hx6 HA4 HR4 HP4 HB4 HM4 HF4
        go_wp2_with fail
        generalize w5.alloc (.cells #[.slice a1 a2 a3, .slice m1 m2 m3] 109) = w6 at *
        refine (mnodes_any w6 rs a1 a2 a3 m1 m2 m3 cs (unhide HR6) (unhide HP6) hrl (unhide HNS)).mono ?_
        rintro e w7 ⟨rfl, hb7⟩
        have HA7 := hide (owns_later (unhide HA6) hb7)
        have HR7 := hide (owns_later (unhide HR6) hb7)
        have HP7 := hide ((unhide HP6).keep (KB.below hb7))
        have HB7 := hide ((unhide HB6).trans (hb7.mono (unhide HB6).size))
        have hm7 := (hb7.block _ (lt_of_blk (unhide HM6))).trans (unhide HM6)
        have hf7 := (hb7.block _ (lt_of_blk (unhide HF6))).trans (unhide HF6)
        have hx7 := (hb7.block _ (lt_of_blk (unhide HX6))).trans (unhide HX6)
        have HM7 := hide hm7
        have HF7 := hide hf7
        have hz7 : w.heap.size + 1 < w7.heap.size := lt_of_blk hf7
        have hz8 : w.heap.size < w7.heap.size := by omega
        have hz9 : w5.heap.size < w7.heap.size := lt_of_blk hx7
        have rc0 := fun o => cell_of_blk hm7 o
        have fc0 := fun o => cell_of_blk hf7 o
        have rf := fun o => frozen_of_blk hm7 o
        have ff := fun o => frozen_of_blk hf7 o
        have xc := fun o => cell_of_blk hx7 o
        clear hb7 hm7 hf7 hx7 HA6 HR6 HP6 HB6 HM6 HF6 HX6
        generalize hN : nodesL rs = n at *
        have HN := hide hN
        clear hN
        by_cases hx : 16 < n
        · have hx' : (16 : Int) < (n : Int) := by omega
          have HLE : Hid (readM s = .error (s.size, 4)) := by show _ = _; rw [unhide HLN, if_pos hx]
          clear xc HLN
          go_wp2_with fail
          clear rc0 fc0
          obtain ⟨f1, f2⟩ := put2_fin (.slice none 0 0) (.slice none 0 0) (.int .i64 s.size) (.int .i64 4) (unhide HM7) (unhide HF7)
          have rc := fun o => cell_of_blk f1 o
          have fc := fun o => cell_of_blk f2 o
          unfold put2 at rc fc
          refine bodyPost_ret (v := .tuple #[.agg #[.slice none 0 0, .slice none 0 0], .agg #[.int .i64 s.size, .int .i64 4]]) (by simp [results, Tryz.results55, go_sem, rc, fc]) rfl ?_
          exact RdP.err (put2_below _ _ _ _ (unhide HB7) (Nat.le_refl _)) (unhide HLE) rfl
        · have hx' : ¬ (16 : Int) < (n : Int) := by omega
          have HLE : Hid (readM s = .ok (al, rs)) := by show _ = _; rw [unhide HLN, if_neg hx]
          clear HLN
          go_wp2_with fail
          clear rc0 fc0 xc
          obtain ⟨f1, f2⟩ := put2_fin (.slice a1 a2 a3) (.slice m1 m2 m3) (.int .i64 0) (.int .i64 0) (unhide HM7) (unhide HF7)
          have rc := fun o => cell_of_blk f1 o
          have fc := fun o => cell_of_blk f2 o
          unfold put2 at rc fc
          refine bodyPost_ret (v := .tuple #[.agg #[.slice a1 a2 a3, .slice m1 m2 m3], .agg #[.int .i64 0, .int .i64 0]]) (by simp [results, Tryz.results55, go_sem, rc, fc]) rfl ?_
          refine ⟨put2_below _ _ _ _ (unhide HB7) (Nat.le_refl _), ?_⟩
          rw [unhide HLE]
          refine ⟨a1, a2, a3, m1, m2, m3, cs, rfl, ?_, ?_, ?_⟩
          · exact (put2_kb (unhide HM7) (unhide HF7) _ _ _ _).owns (unhide HA7)
          · exact put2_owns (unhide HM7) (unhide HF7) _ _ _ _ (unhide HR7)
          · exact (unhide HP7).keep (put2_kb (unhide HM7) (unhide HF7) _ _ _ _)
      · have hx' : ¬ ((z.2 : Nat) : Int) = 0 := by omega
        have HLE : Hid (readM s = .error z) := by show _ = _; rw [unhide HLM, if_pos hx]
        clear HLM hx HA3 HR3 HP3 sc
        go_wp2_with fail
        go_region
        go_wp2_with fail
        clear rc0 fc0
        obtain ⟨f1, f2⟩ := put2_fin (.slice none 0 0) (.slice none 0 0) (.int .i64 z.1) (.int .i64 z.2) (unhide HM3) (unhide HF3)
        have rc := fun o => cell_of_blk ((Below.heap_alloc _ (.cells #[.int .i64 z.1, .int .i64 z.2] 111) _ (lt_of_blk f1)).trans f1) o
        have fc := fun o => cell_of_blk ((Below.heap_alloc _ (.cells #[.int .i64 z.1, .int .i64 z.2] 111) _ (lt_of_blk f2)).trans f2) o
        unfold put2 at rc fc
        refine bodyPost_ret (v := .tuple #[.agg #[.slice none 0 0, .slice none 0 0], .agg #[.int .i64 z.1, .int .i64 z.2]]) (by simp [results, Tryz.results55, go_sem, rc, fc]) rfl ?_
        exact RdP.err ((put2_below _ _ _ _ (unhide HB3) (Nat.le_refl _)).alloc (put2_below _ _ _ _ (unhide HB3) (Nat.le_refl _)).size _).drew (unhide HLE) rfl
    · have HL2 : Hid (readM s = .error (q, 2)) := by show _ = _; rw [unhide HL, hmr]; rfl
      have hm1 := (hb1.block _ (lt_of_blk (unhide HM0))).trans (unhide HM0)
      have hf1 := (hb1.block _ (lt_of_blk (unhide HF0))).trans (unhide HF0)
      have HB1 := hide ((unhide HBZ).trans (hb1.mono (by simp; omega)))
      have hz1 : w.heap.size + 1 < w1.heap.size := lt_of_blk hf1
      have hz0 : w.heap.size < w1.heap.size := by omega
      have HM2 := hide hm1
      have HF2 := hide hf1
      have rf := fun o => frozen_of_blk hm1 o
      have ff := fun o => frozen_of_blk hf1 o
      have rc0 := fun o => cell_of_blk hm1 o
      have fc0 := fun o => cell_of_blk hf1 o
      clear hm1 hf1 hb1 hmr
      go_wp2_with fail
      clear rc0 fc0
      obtain ⟨f1, f2⟩ := put2_fin (.slice none 0 0) (.slice none 0 0) (.int .i64 q) (.int .i64 2) (unhide HM2) (unhide HF2)
      have rc := fun o => cell_of_blk ((Below.heap_alloc _ (.cells #[.slice o1 n1 k1, .slice o2 n2 k2] 146) _ (lt_of_blk f1)).trans f1) o
      have fc := fun o => cell_of_blk ((Below.heap_alloc _ (.cells #[.slice o1 n1 k1, .slice o2 n2 k2] 146) _ (lt_of_blk f2)).trans f2) o
      unfold put2 at rc fc
      refine bodyPost_ret (v := .tuple #[.agg #[.slice none 0 0, .slice none 0 0], .agg #[.int .i64 q, .int .i64 2]]) (by simp [results, Tryz.results55, go_sem, rc, fc]) rfl ?_
      exact RdP.err ((put2_below _ _ _ _ (unhide HB1) (Nat.le_refl _)).alloc (put2_below _ _ _ _ (unhide HB1) (Nat.le_refl _)).size _) (unhide HL2) rfl
end Go.Proofs.YtoclbcffbhldmaaGreatDoor
