/- The program's reader: number, text, numbers. -/
import Derived.Test.YtidakhhekofkoaaGreatDoorX33
import Derived.Test.YtidakhhekofkoaaGreatDoorX34
import Derived.BigQuiet
set_option linter.unusedSimpArgs false
set_option linter.unusedVariables false
namespace Go.Proofs.YtidakhhekofkoaaGreatDoor
open Go.RowKit Go.Deep
def intC (l : List Nat) : List Value := l.map fun n : Nat => Value.int .i64 (n : Int)
theorem intC_len (l : List Nat) : (intC l).length = l.length := by unfold intC; rw [List.length_map]
theorem intC_app (l r : List Nat) : intC (l ++ r) = intC l ++ intC r := by unfold intC; rw [List.map_append]
theorem Tryz.infoI64 : (Tryz.prog.info? 3).map (fun i => (i.zero, i.size, i.bytes)) = some (some (.int .i64 0), 1, 8) := by kernel_rfl
def rowTo (L : List Nat) (c k : Nat) : List Nat := L.take k ++ List.replicate (c - k) 0
theorem rowTo_len {L : List Nat} {c k : Nat} (hL : k ≤ L.length) (hk : k ≤ c) : (rowTo L c k).length = c := by unfold rowTo; simp; omega
theorem rowTo_succ {L M : List Nat} {c k x : Nat} (hk : k < c) (hL : L.length = k) (hM : M = L ++ [x]) : rowTo M c (k + 1) = (rowTo L c k).set k x := by
 subst hM
 unfold rowTo
 obtain ⟨m, hm⟩ : ∃ m, c - k = m + 1 := ⟨c - k - 1, by omega⟩
 rw [hm, show c - (k + 1) = m by omega, List.take_of_length_le (by simp [hL]), List.take_of_length_le (by omega), List.set_append_right _ _ (by omega), hL, Nat.sub_self, List.replicate_succ, List.set_cons_zero]
 simp
def rowC (l : List Nat) : Array Value := (intC l).toArray
theorem rowC_set (l : List Nat) (k x : Nat) : (rowC l).setIfInBounds k (.int .i64 (x : Int)) = rowC (l.set k x) := by
 unfold rowC intC
 rw [List.setIfInBounds_toArray, List.map_set]
theorem rowC_at {l : List Nat} {k x : Nat} (h : l[k]? = some x) : (rowC l)[k]? = some (.int .i64 (x : Int)) := by
 unfold rowC intC
 rw [List.getElem?_toArray, List.getElem?_map, h]
 rfl
theorem rowC_zero (n : Nat) : rowC (List.replicate n 0) = Array.replicate n (.int .i64 0) := by unfold rowC intC; simp
theorem rowC_owns {w : World} {g base n : Nat} {l : List Nat} (h : w.heap[g]? = some (.cells (rowC l) 3 (0, 0))) (hb : base ≤ g) (hn : l.length = n) (hm : n ≤ 1000000) : w.ownsRow base 3 1 (.slice (some ⟨g, 0, none⟩) n n) n (intC l) := by
 refine ⟨by rw [intC_len, hn, Nat.mul_one], .inr ⟨g, n, _, rfl, hb, h, Nat.le_refl _, by unfold maxLen; omega, ?_, ?_⟩⟩
 ·unfold rowC; rw [List.size_toArray, intC_len, hn, Nat.mul_one]
 ·unfold rowC
  rw [List.take_of_length_le (by simp [intC_len, hn])]
def strsC (l : List ByteArray) : List Value := l.map Value.string
structure TbW (w : World) (base : Nat) (A F X : Value) (t : Tb) (rv : List Value) : Prop where
 acts : w.ownsRow base 9 1 A t.acts.length (strsC t.acts)
 fl : w.ownsRow base 3 1 F t.fl.length (intC t.fl)
 nx : w.ownsRow base 33 1 X t.nx.length rv
 rows : ∀ (j : Nat) (r : List Nat), t.nx[j]? = some r → ∃ g c, rv[j]? = some (.slice (some ⟨g, 0, none⟩) r.length c) ∧ w.ownsRow base 3 1 (.slice (some ⟨g, 0, none⟩) r.length c) r.length (intC r)
 rf : ∀ v ∈ rv, v.ownBlock ≠ F.ownBlock
 rr : rv.Pairwise fun u v => u.ownBlock ≠ v.ownBlock
theorem TbW.rl {w : World} {base : Nat} {A F X : Value} {t : Tb} {rv : List Value} (h : TbW w base A F X t rv) : rv.length = t.nx.length := by
 have := h.nx.1
 rw [Nat.mul_one] at this
 exact this
theorem own_at {w : World} {base e size n : Nat} {v : Value} {xs : List Value} (h : w.ownsRow base e size v n xs) {b : Nat} (hb : v.ownBlock = some b) : ∃ c, w.heap[b]? = some (.cells c e (0, 0)) := by
 obtain ⟨_, ⟨hv, _⟩ | ⟨g, cap, cur, hv, _, hg, _⟩⟩ := h
 ·rw [hv] at hb; cases hb
 ·rw [hv] at hb
  cases hb
  exact ⟨cur, hg⟩
theorem owns_other {w w' : World} {base e size n : Nat} {v : Value} {xs : List Value} {row : Option Nat} (h : w.ownsRow base e size v n xs) (hg : w.grownBy w' row) (hne : ∀ b, row = some b → v.ownBlock ≠ some b) : w'.ownsRow base e size v n xs := by
 refine owns_keep h hg ?_
 cases hv : v.ownBlock with
 | none => exact Or.inl rfl
 | some k => exact Or.inr (fun e => hne k e.symm hv)
theorem TbW.other {w w' : World} {base : Nat} {A F X : Value} {t : Tb} {rv : List Value} {row : Option Nat} (h : TbW w base A F X t rv) (hg : w.grownBy w' row) (hne : ∀ b, row = some b → ∀ c m, w.heap[b]? ≠ some (.cells c 9 m) ∧ w.heap[b]? ≠ some (.cells c 3 m) ∧ w.heap[b]? ≠ some (.cells c 33 m)) : TbW w' base A F X t rv := by
 refine ⟨owns_other h.acts hg fun b hb e => ?_, owns_other h.fl hg fun b hb e => ?_, owns_other h.nx hg fun b hb e => ?_, fun j r hr => ?_, h.rf, h.rr⟩
 ·obtain ⟨c, hc⟩ := own_at h.acts e; exact (hne b hb c (0, 0)).1 hc
 ·obtain ⟨c, hc⟩ := own_at h.fl e; exact (hne b hb c (0, 0)).2.1 hc
 ·obtain ⟨c, hc⟩ := own_at h.nx e; exact (hne b hb c (0, 0)).2.2 hc
 ·obtain ⟨g, c, h1, h2⟩ := h.rows j r hr
  exact ⟨g, c, h1, owns_other h2 hg fun b hb e => by obtain ⟨c', hc⟩ := own_at h2 e; exact (hne b hb c' (0, 0)).2.1 hc⟩
theorem TbW.later {w w' : World} {base : Nat} {A F X : Value} {t : Tb} {rv : List Value} (h : TbW w base A F X t rv) (hb : Below w.heap.size w w') : TbW w' base A F X t rv :=
 h.other (grown_below hb none) (fun b e => by cases e)
theorem TbW.flag {w w' : World} {base : Nat} {A F F' X : Value} {t : Tb} {rv : List Value} (h : TbW w base A F X t rv) {f : Nat} (ho : w'.ownsRow base 3 1 F' (t.fl.length + 1) (intC t.fl ++ [.int .i64 (f : Int)])) (hg : w.grownBy w' F.ownBlock) {g' : Nat} (hF' : F'.ownBlock = some g') (hat : F.ownBlock = some g' ∨ w.heap.size ≤ g') : TbW w' base A F' X ⟨t.acts, t.fl ++ [f], t.nx⟩ rv := by
 have hty : ∀ {e n : Nat} {v : Value} {xs : List Value}, w.ownsRow base e 1 v n xs → e ≠ 3 → ∀ b, F.ownBlock = some b → v.ownBlock ≠ some b := fun {e n v xs} k hne b hb e1 => by
  obtain ⟨c, hc⟩ := own_at h.fl hb
  exact own_ty k e1 hc (fun e => hne e.symm)
 have hrow : ∀ v ∈ rv, ∃ g r c, v = .slice (some ⟨g, 0, none⟩) r c ∧ g < w.heap.size := fun v hv => by
  obtain ⟨j, hj⟩ := List.mem_iff_getElem?.1 hv
  have hjl : j < t.nx.length := by have := (List.getElem?_eq_some_iff.1 hj).1; have := h.rl; omega
  obtain ⟨g, c, h1, h2⟩ := h.rows j _ (List.getElem?_eq_getElem hjl)
  rw [hj] at h1
  cases h1
  exact ⟨g, _, c, rfl, (own_lt h2 g rfl).2⟩
 refine ⟨owns_other h.acts hg (hty h.acts (by decide)), ?_, owns_other h.nx hg (hty h.nx (by decide)), fun j r hr => ?_, fun v hv => ?_, h.rr⟩
 ·have e : intC (t.fl ++ [f]) = intC t.fl ++ [.int .i64 (f : Int)] := by rw [intC_app]; rfl
  show w'.ownsRow base _ 1 F' (t.fl ++ [f]).length (intC (t.fl ++ [f]))
  rw [e, List.length_append]
  exact ho
 ·obtain ⟨g, c, h1, h2⟩ := h.rows j r hr
  refine ⟨g, c, h1, owns_other h2 hg fun b hb e => ?_⟩
  exact h.rf _ (List.mem_of_getElem? h1) (e.trans hb.symm)
 ·obtain ⟨g, r, c, rfl, hlt⟩ := hrow v hv
  rw [hF']
  intro e
  have e' : g = g' := Option.some.inj e
  subst e'
  rcases hat with hat | hat
  ·exact h.rf _ hv hat.symm
  ·omega
theorem TbW.row {w w' : World} {base : Nat} {A F X X' : Value} {t : Tb} {rv : List Value} (h : TbW w base A F X t rv) {g c : Nat} {r : List Nat} (hr : w.ownsRow base 3 1 (.slice (some ⟨g, 0, none⟩) r.length c) r.length (intC r)) (hF : F.ownBlock ≠ some g) (hv : ∀ v ∈ rv, v.ownBlock ≠ some g)
  (ho : w'.ownsRow base 33 1 X' (t.nx.length + 1) (rv ++ [.slice (some ⟨g, 0, none⟩) r.length c])) (hg : w.grownBy w' X.ownBlock) : TbW w' base A F X' ⟨t.acts, t.fl, t.nx ++ [r]⟩ (rv ++ [.slice (some ⟨g, 0, none⟩) r.length c]) := by
 have hty : ∀ {e n : Nat} {v : Value} {xs : List Value}, w.ownsRow base e 1 v n xs → e ≠ 33 → ∀ b, X.ownBlock = some b → v.ownBlock ≠ some b := fun {e n v xs} k hne b hb e1 => by
  obtain ⟨c, hc⟩ := own_at h.nx hb
  exact own_ty k e1 hc (fun e => hne e.symm)
 have hl := h.rl
 refine ⟨owns_other h.acts hg (hty h.acts (by decide)), owns_other h.fl hg (hty h.fl (by decide)), ?_, fun j q hq => ?_, fun v hv' => ?_, ?_⟩
 ·show w'.ownsRow base _ 1 X' (t.nx ++ [r]).length _
  rw [List.length_append]
  exact ho
 ·rcases Nat.lt_or_ge j t.nx.length with hj | hj
  ·rw [List.getElem?_append_left hj] at hq
   obtain ⟨g2, c2, h1, h2⟩ := h.rows j q hq
   exact ⟨g2, c2, by rw [List.getElem?_append_left (by omega)]; exact h1, owns_other h2 hg (hty h2 (by decide))⟩
  ·rw [List.getElem?_append_right hj] at hq
   have hj0 : j - t.nx.length = 0 := by
    have := (List.getElem?_eq_some_iff.1 hq).1
    simp at this
    omega
   rw [hj0] at hq
   have hqr : r = q := by simpa using hq
   subst hqr
   refine ⟨g, c, ?_, owns_other hr hg (hty hr (by decide))⟩
   rw [List.getElem?_append_right (by omega), hl, hj0]
   rfl
 ·rcases List.mem_append.1 hv' with h1 | h1
  ·exact h.rf v h1
  ·rw [List.mem_singleton.1 h1]
   exact fun e => hF e.symm
 ·rw [List.pairwise_append]
  refine ⟨h.rr, by simp, fun a ha b hb => ?_⟩
  rw [List.mem_singleton.1 hb]
  exact hv a ha
theorem TbW.read {w : World} {base : Nat} {ao fo no : Option Addr} {na ac nf fc nn nc : Nat} {t : Tb} {rv : List Value} (h : TbW w base (.slice ao na ac) (.slice fo nf fc) (.slice no nn nc) t rv) (hl : t.acts.length ≤ 1000 ∧ t.nx.length ≤ 1000 ∧ t.fl.length ≤ 1000 ∧ ∀ r ∈ t.nx, r.length ≤ 1000) : TbI w ao fo no ac t.z ∧ na = t.acts.length ∧ nf = t.fl.length ∧ nn = t.nx.length := by
 have len : ∀ {e n k c : Nat} {o : Option Addr} {xs : List Value}, w.ownsRow base e 1 (.slice o n c) k xs → n = k ∧ k ≤ c := fun {e n k c o xs} ho => by
  obtain ⟨_, ⟨hv, hn⟩ | ⟨g, cap, cur, hv, _, _, hle, _⟩⟩ := ho
  ·cases hv; exact ⟨hn.symm, by omega⟩
  ·cases hv; exact ⟨rfl, hle⟩
 obtain ⟨e1, k1⟩ := len h.acts
 obtain ⟨e2, _⟩ := len h.fl
 obtain ⟨e3, _⟩ := len h.nx
 subst e1; subst e2; subst e3
 refine ⟨⟨fun j x hx => ?_, fun j x hx => ?_, fun j r hr => ?_, k1, ?_, ?_, ?_, fun r hr => ?_⟩, rfl, rfl, rfl⟩
 ·have hx' : t.acts[j]? = some x := hx
  have hj := (List.getElem?_eq_some_iff.1 hx').1
  obtain ⟨g, h1, h2, h3⟩ := owns1_at h.acts hj
  exact ⟨g, 0, h1, h2, by rw [Nat.zero_add, h3]; unfold strsC; rw [List.getElem?_map, hx']; rfl⟩
 ·have hx' : (zI t.fl)[j]? = some x := hx
  unfold zI at hx'
  rw [List.getElem?_map] at hx'
  cases e : t.fl[j]? with
  | none => rw [e] at hx'; cases hx'
  | some f =>
   rw [e] at hx'
   have hf : (f : Int) = x := Option.some.inj hx'
   have hj := (List.getElem?_eq_some_iff.1 e).1
   obtain ⟨g, h1, h2, h3⟩ := owns1_at h.fl hj
   exact ⟨g, 0, h1, h2, by rw [Nat.zero_add, h3, ← hf]; unfold intC; rw [List.getElem?_map, e]; rfl⟩
 ·have hr' : (t.nx.map zI)[j]? = some r := hr
  rw [List.getElem?_map] at hr'
  cases e : t.nx[j]? with
  | none => rw [e] at hr'; cases hr'
  | some q =>
   rw [e] at hr'
   have hq : zI q = r := Option.some.inj hr'
   subst hq
   have hj := (List.getElem?_eq_some_iff.1 e).1
   obtain ⟨g, h1, h2, h3⟩ := owns1_at h.nx hj
   obtain ⟨g2, c2, h4, h5⟩ := h.rows j q e
   refine ⟨g, 0, some ⟨g2, 0, none⟩, c2, h1, h2, by rw [Nat.zero_add, h3, h4]; unfold zI; rw [List.length_map], fun i x hx => ?_⟩
   unfold zI at hx
   rw [List.getElem?_map] at hx
   cases e2 : q[i]? with
   | none => rw [e2] at hx; cases hx
   | some y =>
    rw [e2] at hx
    have hy : (y : Int) = x := Option.some.inj hx
    obtain ⟨g3, k1, k2, k3⟩ := owns1_at h5 (List.getElem?_eq_some_iff.1 e2).1
    cases k1
    exact ⟨g2, 0, rfl, k2, by rw [Nat.zero_add, k3, ← hy]; unfold intC; rw [List.getElem?_map, e2]; rfl⟩
 ·have := hl.1; show t.acts.length ≤ _; omega
 ·show (zI t.fl).length ≤ _; unfold zI; rw [List.length_map]; have := hl.2.2.1; omega
 ·show (t.nx.map zI).length ≤ _; rw [List.length_map]; have := hl.2.1; omega
 ·have hr' : r ∈ t.nx.map zI := hr
  obtain ⟨q, hq, rfl⟩ := List.mem_map.1 hr'
  have := hl.2.2.2 q hq
  unfold zI
  rw [List.length_map]
  omega
def DecP (ty : List Value → Value) (w : World) (o : Option Tb) (w' : World) (e : Ending) : Prop :=
 Below w.heap.size w w' ∧ match o with
 | none => e = .returned (.tuple #[.agg #[.slice none 0 0, .slice none 0 0, .slice none 0 0], ty []])
 | some t => ∃ A F X rv, e = .returned (.tuple #[.agg #[A, F, X], ty [.bool true]]) ∧ TbW w' w.heap.size A F X t rv
def okB : List Value → Value
 | [] => .bool false
 | _ => .bool true
theorem TbW.mono {w : World} {base base' : Nat} {A F X : Value} {t : Tb} {rv : List Value} (h : TbW w base A F X t rv) (hb : base' ≤ base) : TbW w base' A F X t rv :=
 ⟨owns_mono h.acts hb, owns_mono h.fl hb, owns_mono h.nx hb, fun j r hr => by obtain ⟨g, c, h1, h2⟩ := h.rows j r hr; exact ⟨g, c, h1, owns_mono h2 hb⟩, h.rf, h.rr⟩
def setT (w : World) (b : Nat) (A F X : Value) : World := ((w.setCell ⟨b, 0, none⟩ A).setCell ⟨b, 1, none⟩ F).setCell ⟨b, 2, none⟩ X
theorem setT_blk {w : World} {b : Nat} {a f x : Value} (h : w.heap[b]? = some (.cells #[a, f, x] 36 (0, 0))) (A F X : Value) : (setT w b A F X).heap[b]? = some (.cells #[A, F, X] 36 (0, 0)) := blk_set (blk_set (blk_set h 0 A) 1 F) 2 X
theorem setT_grown (w : World) (b : Nat) (A F X : Value) : w.grownBy (setT w b A F X) (some b) := ((grown_set _ _ _ _).trans (grown_set _ _ _ _)).trans (grown_set _ _ _ _)
theorem setT_below {w0 w : World} {b : Nat} (h : Below w0.heap.size w0 w) (hb : w0.heap.size ≤ b) (A F X : Value) : Below w0.heap.size w0 (setT w b A F X) := h.grown (setT_grown w b A F X) h.size (fun k hk => by cases hk; exact hb)
theorem setT_tab {w : World} {b : Nat} {c : Array Value} (hc : w.heap[b]? = some (.cells c 36 (0, 0))) {base : Nat} {A F X A' F' X' : Value} {t : Tb} {rv : List Value} (h : TbW w base A F X t rv) : TbW (setT w b A' F' X') base A F X t rv :=
 h.other (setT_grown w b A' F' X') (fun k hk c' m => by
  cases hk
  rw [hc]
  refine ⟨?_, ?_, ?_⟩ <;> (intro e; injection e with e; injection e with _ e _; revert e; decide))
set_option maxHeartbeats 2000000 in
set_option maxRecDepth 100000 in
theorem same_any (w : World) (ao bo : Option Addr) (ac bc : Nat) (l m : List ByteArray) (h1 : TxS w ao l) (h2 : TxS w bo m) (hl : l.length ≤ 10000000000000) (hm : m.length ≤ 10000000000000) :
  Calls Tryz.prog 23 #[.slice ao l.length ac, .slice bo m.length bc] w fun e w' => TellsB (l = m) e ∧ Below w.heap.size w w' := by
 have H1 := hide h1
 have H2 := hide h2
 clear h1 h2
 by_cases hlm : l.length = m.length
 ·generalize hn : m.length = n at *
  have HN := hide hn
  have HL := hide hlm
  rw [hlm]
  clear hn hlm hl
  go_enter Tryz.func23, Tryz.ntmps23
  go_wp2_with fail
  go_loopw [5] (fun x wr => ∃ k : Nat, k ≤ n ∧ x = .int .i64 k ∧ Hid (Below w.heap.size w wr) ∧ Hid (l.take k = m.take k)) (fun x _ => n - (intOf x).toNat)
  case atStart => exact ⟨0, Nat.zero_le _, rfl, Below.refl _ _, rfl⟩
  case round =>
   obtain ⟨k, hk, rfl, HB, HK⟩ := hrel
   by_cases hlt : k < n
   ·have hkn : (k : Int) < (n : Int) := by omega
    have hkl : k < l.length := by rw [unhide HL]; exact hlt
    have hkm : k < m.length := by rw [unhide HN]; exact hlt
    obtain ⟨b, off, rfl, hb, hc⟩ := (unhide H1).later (unhide HB) k l[k] (List.getElem?_eq_getElem hkl)
    obtain ⟨b2, off2, rfl, hb2, hc2⟩ := (unhide H2).later (unhide HB) k m[k] (List.getElem?_eq_getElem hkm)
    have HX := hide (List.getElem?_eq_getElem hkl)
    have HY := hide (List.getElem?_eq_getElem hkm)
    generalize l[k] = x at *
    generalize m[k] = y at *
    by_cases hxy : x = y
    ·subst hxy
     have HK2 : Hid (l.take (k + 1) = m.take (k + 1)) := by
      show _ = _
      rw [List.take_add_one, List.take_add_one, unhide HX, unhide HY, unhide HK]
     go_wp2_with fail
     go_quiet (fail)
     go_wp2_with fail
     go_roundw
     case rel => exact ⟨k + 1, by omega, by go_num, (unhide HB).trans (((bdn _ _).mono (unhide HB).size)), HK2⟩
     case measure => simp [intOf]; omega
    ·have HNE : Hid (¬ l = m) := fun e => by
      have h1 := unhide HX
      rw [e, unhide HY] at h1
      exact hxy (Option.some.inj h1).symm
     have hne : (x.toList == y.toList) = false := beq_eq_false_iff_ne.2 fun e => hxy (by
      apply byte_inj
      rw [ByteArray.toList_eq, ByteArray.toList_eq] at e
      exact e)
     clear hxy
     go_wp2_with fail
     go_quiet (fail)
     go_wp2_with fail
     go_ret
     exact ⟨TellsB.no (unhide HNE), (unhide HB).trans (((bdn _ _).mono (unhide HB).size))⟩
   ·have hkn : ¬ (k : Int) < (n : Int) := by omega
    have HE : Hid (l = m) := by
     have := unhide HK
     rw [List.take_of_length_le (by rw [unhide HL]; omega), List.take_of_length_le (by rw [unhide HN]; omega)] at this
     exact this
    go_wp2_with fail
    go_ret
    exact ⟨TellsB.yes (unhide HE), unhide HB⟩
 ·have hi : ¬ (l.length : Int) = (m.length : Int) := by omega
  have HNE : Hid (¬ l = m) := fun e => hlm (by rw [e])
  clear hlm
  go_enter Tryz.func23, Tryz.ntmps23
  go_wp2_with fail
  go_ret
  exact ⟨TellsB.no (unhide HNE), Below.refl _ _⟩
theorem Tz.ext' {z y : Tz} (h1 : z.acts = y.acts) (h2 : z.fl = y.fl) (h3 : z.nx = y.nx) : z = y := by
 cases z; cases y; simp_all
structure TwB (w W : World) (T U : Array Value) : Prop where
 b0 : W.heap[w.heap.size]? = some (.cells T 36 (0, 0))
 b1 : W.heap[w.heap.size + 1]? = some (.cells U 36 (0, 0))
 bel : Below w.heap.size w W
theorem TwB.later {w W W' : World} {T U : Array Value} (h : TwB w W T U) (hb : Below W.heap.size W W') : TwB w W' T U :=
 ⟨(hb.block _ (lt_of_blk h.b0)).trans h.b0, (hb.block _ (lt_of_blk h.b1)).trans h.b1, h.bel.trans (hb.mono h.bel.size)⟩
set_option maxHeartbeats 8000000 in
set_option maxRecDepth 100000 in
theorem kalike_any (w : World) (ao fo no : Option Addr) (ac fc nc na nf nn : Nat) (bo go ho : Option Addr) (bc gc hc nb ng nh : Nat) (z y : Tz) (hz : TbI w ao fo no ac z) (hy : TbI w bo go ho bc y)
  (e1 : na = z.acts.length) (e2 : nf = z.fl.length) (e3 : nn = z.nx.length) (e4 : nb = y.acts.length) (e5 : ng = y.fl.length) (e6 : nh = y.nx.length) :
  Calls Tryz.prog 25 #[.agg #[.slice ao na ac, .slice fo nf fc, .slice no nn nc], .agg #[.slice bo nb bc, .slice go ng gc, .slice ho nh hc]] w fun e w' => TellsB (z = y) e ∧ Below w.heap.size w w' := by
 have h0 : TwB w ((w.alloc (.cells #[.slice ao na ac, .slice fo nf fc, .slice no nn nc] 36)).alloc (.cells #[.slice bo nb bc, .slice go ng gc, .slice ho nh hc] 36)) #[.slice ao na ac, .slice fo nf fc, .slice no nn nc] #[.slice bo nb bc, .slice go ng gc, .slice ho nh hc] :=
  ⟨(Below.heap_alloc _ _ _ (by simp)).trans (blk_alloc _ _), blk_alloc' _ _ _ (by simp), ((Below.refl _ _).alloc (Nat.le_refl _) _).alloc (by simp) _⟩
 have HSM : Hid (Calls Tryz.prog 23 #[.slice ao na ac, .slice bo nb bc] ((w.alloc (.cells #[.slice ao na ac, .slice fo nf fc, .slice no nn nc] 36)).alloc (.cells #[.slice bo nb bc, .slice go ng gc, .slice ho nh hc] 36)) fun e w' => TellsB (z.acts = y.acts) e ∧ Below ((w.alloc (.cells #[.slice ao na ac, .slice fo nf fc, .slice no nn nc] 36)).alloc (.cells #[.slice bo nb bc, .slice go ng gc, .slice ho nh hc] 36)).heap.size ((w.alloc (.cells #[.slice ao na ac, .slice fo nf fc, .slice no nn nc] 36)).alloc (.cells #[.slice bo nb bc, .slice go ng gc, .slice ho nh hc] 36)) w') := by
  have := same_any _ ao bo ac bc z.acts y.acts (hz.acts.later h0.bel) (hy.acts.later h0.bel) hz.al hy.al
  rw [← e1, ← e4] at this
  exact this
 have HZ := hide hz
 have HY := hide hy
 have H0 := hide h0
 have E2 := hide e2
 have E3 := hide e3
 have E5 := hide e5
 have E6 := hide e6
 have k2 : nf ≤ 10000000000000 := by have := hz.fll; omega
 have k3 : nn ≤ 10000000000000 := by have := hz.nxl; omega
 have k5 : ng ≤ 10000000000000 := by have := hy.fll; omega
 have k6 : nh ≤ 10000000000000 := by have := hy.nxl; omega
 clear hz hy h0 e1 e2 e3 e4 e5 e6
 go_enter Tryz.func25, Tryz.ntmps25
 go_wp2_with fail
 refine (unhide HSM).mono ?_
 generalize ((w.alloc (.cells #[.slice ao na ac, .slice fo nf fc, .slice no nn nc] 36)).alloc (.cells #[.slice bo nb bc, .slice go ng gc, .slice ho nh hc] 36)) = W0 at *
 rintro e w1 ⟨⟨b, rfl, hb⟩, hb1⟩
 have HT := hide ((unhide H0).later hb1)
 clear hb1 HSM H0
 have c00 : w1.cell? ⟨w.heap.size, 0, none⟩ = some (.slice ao na ac) := cell_of_blk (unhide HT).b0 0
 have c01 : w1.cell? ⟨w.heap.size, 1, none⟩ = some (.slice fo nf fc) := cell_of_blk (unhide HT).b0 1
 have c02 : w1.cell? ⟨w.heap.size, 2, none⟩ = some (.slice no nn nc) := cell_of_blk (unhide HT).b0 2
 have c11 : w1.cell? ⟨w.heap.size + 1, 1, none⟩ = some (.slice go ng gc) := cell_of_blk (unhide HT).b1 1
 have c12 : w1.cell? ⟨w.heap.size + 1, 2, none⟩ = some (.slice ho nh hc) := cell_of_blk (unhide HT).b1 2
 have l0 := lt_of_blk (unhide HT).b0
 have l1 := lt_of_blk (unhide HT).b1
 cases b with
 | false =>
  have HN : Hid (¬ z = y) := fun e => absurd (hb.2 (by rw [e])) (by decide)
  clear hb
  go_wp2_with fail
  go_ret
  exact ⟨TellsB.no (unhide HN), (unhide HT).bel⟩
 | true =>
  have HA := hide (hb.1 rfl)
  clear hb
  by_cases hf : nf = ng
  ·subst hf
   by_cases hn : nn = nh
   ·subst hn
    go_wp2_with fail
    clear c00 c01 c02 c11 c12 l0 l1
    go_loopw [6] (fun x wr => ∃ k : Nat, k ≤ nf ∧ x = .int .i64 k ∧ Hid (TwB w wr #[.slice ao na ac, .slice fo nf fc, .slice no nn nc] #[.slice bo nb bc, .slice go nf gc, .slice ho nn hc]) ∧ Hid (z.fl.take k = y.fl.take k)) (fun x _ => nf - (intOf x).toNat)
    case atStart => exact ⟨0, Nat.zero_le _, rfl, HT, rfl⟩
    case round =>
     obtain ⟨k, hk, rfl, HT2, HK⟩ := hrel
     have c01 : wr.cell? ⟨w.heap.size, 1, none⟩ = some (.slice fo nf fc) := cell_of_blk (unhide HT2).b0 1
     have c02 : wr.cell? ⟨w.heap.size, 2, none⟩ = some (.slice no nn nc) := cell_of_blk (unhide HT2).b0 2
     have c11 : wr.cell? ⟨w.heap.size + 1, 1, none⟩ = some (.slice go nf gc) := cell_of_blk (unhide HT2).b1 1
     have l0 := lt_of_blk (unhide HT2).b0
     have l1 := lt_of_blk (unhide HT2).b1
     by_cases hlt : k < nf
     ·have hkn : (k : Int) < (nf : Int) := by omega
      have hkl : k < z.fl.length := by have := unhide E2; omega
      have hkm : k < y.fl.length := by have := unhide E5; omega
      obtain ⟨b, off, rfl, hb, hcc⟩ := ((unhide HZ).later (unhide HT2).bel).fl k z.fl[k] (List.getElem?_eq_getElem hkl)
      obtain ⟨b2, off2, rfl, hb2, hcc2⟩ := ((unhide HY).later (unhide HT2).bel).fl k y.fl[k] (List.getElem?_eq_getElem hkm)
      have HX := hide (List.getElem?_eq_getElem hkl)
      have HYY := hide (List.getElem?_eq_getElem hkm)
      generalize z.fl[k] = x at *
      generalize y.fl[k] = v at *
      by_cases hxv : x = v
      ·subst hxv
       have HK2 : Hid (z.fl.take (k + 1) = y.fl.take (k + 1)) := by
        show _ = _
        rw [List.take_add_one, List.take_add_one, unhide HX, unhide HYY, unhide HK]
       go_wp2_with fail
       go_quiet (fail)
       go_wp2_with fail
       go_roundw
       case rel => exact ⟨k + 1, by omega, by go_num, (unhide HT2).later (bdn _ _), HK2⟩
       case measure => simp [intOf]; omega
      ·have HNE : Hid (¬ z = y) := fun e => by
        have h1 := unhide HX
        rw [e, unhide HYY] at h1
        exact hxv (Option.some.inj h1).symm
       go_wp2_with fail
       go_quiet (fail)
       go_wp2_with fail
       go_ret
       exact ⟨TellsB.no (unhide HNE), ((unhide HT2).later (bdn _ _)).bel⟩
     ·have hkn : ¬ (k : Int) < (nf : Int) := by omega
      have HFE : Hid (z.fl = y.fl) := by
       have := unhide HK
       rw [List.take_of_length_le (by have := unhide E2; omega), List.take_of_length_le (by have := unhide E5; omega)] at this
       exact this
      go_wp2_with fail
      clear c01 c02 c11 l0 l1 HK HT
      rename World => wR
      go_loopw [7] (fun x wr => ∃ k : Nat, k ≤ nn ∧ x = .int .i64 k ∧ Hid (TwB w wr #[.slice ao na ac, .slice fo nf fc, .slice no nn nc] #[.slice bo nb bc, .slice go nf gc, .slice ho nn hc]) ∧ Hid (z.nx.take k = y.nx.take k)) (fun x _ => nn - (intOf x).toNat)
      case atStart => exact ⟨0, Nat.zero_le _, rfl, HT2, rfl⟩
      case round =>
       obtain ⟨k, hk, rfl, HT3, HK⟩ := hrel
       have c02 : wr.cell? ⟨w.heap.size, 2, none⟩ = some (.slice no nn nc) := cell_of_blk (unhide HT3).b0 2
       have c12 : wr.cell? ⟨w.heap.size + 1, 2, none⟩ = some (.slice ho nn hc) := cell_of_blk (unhide HT3).b1 2
       have l0 := lt_of_blk (unhide HT3).b0
       have l1 := lt_of_blk (unhide HT3).b1
       by_cases hlt : k < nn
       ·have hkn : (k : Int) < (nn : Int) := by omega
        have hkl : k < z.nx.length := by have := unhide E3; omega
        have hkm : k < y.nx.length := by have := unhide E6; omega
        have HRZ := hide ((unhide HZ).nx k z.nx[k] (List.getElem?_eq_getElem hkl))
        have HRY := hide ((unhide HY).nx k y.nx[k] (List.getElem?_eq_getElem hkm))
        have HX := hide (List.getElem?_eq_getElem hkl)
        have HYY := hide (List.getElem?_eq_getElem hkm)
        have hr13 := (unhide HZ).rl _ (List.getElem_mem hkl)
        have hq13 := (unhide HY).rl _ (List.getElem_mem hkm)
        generalize z.nx[k] = r at *
        generalize y.nx[k] = q at *
        obtain ⟨b, off, ro, rc, hno, hb0, hcc0, hr0⟩ := unhide HRZ
        obtain ⟨b2, off2, qo, qc, hho, hb20, hcc20, hq0⟩ := unhide HRY
        have hcc := (bcell3 (unhide HT3).bel _ _ hb0).trans hcc0
        have hcc2 := (bcell3 (unhide HT3).bel _ _ hb20).trans hcc20
        have hb : b < wr.heap.size := Nat.lt_of_lt_of_le hb0 (unhide HT3).bel.size
        have hb2 : b2 < wr.heap.size := Nat.lt_of_lt_of_le hb20 (unhide HT3).bel.size
        subst hno
        subst hho
        have HR := hide hr0
        have HQ := hide hq0
        have HC0 := hide hcc0
        have HC20 := hide hcc20
        clear hr0 hq0 hcc0 hcc20 HRZ HRY
        generalize hrl : r.length = rl at *
        generalize hql : q.length = ql at *
        have HRL := hide hrl
        have HQL := hide hql
        clear hrl hql
        by_cases hrq : rl = ql
        ·subst hrq
         go_wp2_with fail
         go_quiet (fail)
         go_wp2_with fail
         clear c02 c12 l0 l1 hcc hcc2 hb hb2
         rename World => wS
         go_loopw [8] (fun x wr => ∃ j : Nat, j ≤ rl ∧ x = .int .i64 j ∧ Hid (TwB w wr #[.slice ao na ac, .slice fo nf fc, .slice (some ⟨b, off, none⟩) nn nc] #[.slice bo nb bc, .slice go nf gc, .slice (some ⟨b2, off2, none⟩) nn hc]) ∧ Hid (r.take j = q.take j)) (fun x _ => rl - (intOf x).toNat)
         case atStart => exact ⟨0, Nat.zero_le _, rfl, (unhide HT3).later (bdn _ _), rfl⟩
         case round =>
          obtain ⟨j, hj, rfl, HT5, HJ⟩ := hrel
          have c02 : wr.cell? ⟨w.heap.size, 2, none⟩ = some (.slice (some ⟨b, off, none⟩) nn nc) := cell_of_blk (unhide HT5).b0 2
          have c12 : wr.cell? ⟨w.heap.size + 1, 2, none⟩ = some (.slice (some ⟨b2, off2, none⟩) nn hc) := cell_of_blk (unhide HT5).b1 2
          have l0 := lt_of_blk (unhide HT5).b0
          have l1 := lt_of_blk (unhide HT5).b1
          have hcc := (bcell3 (unhide HT5).bel _ _ hb0).trans (unhide HC0)
          have hcc2 := (bcell3 (unhide HT5).bel _ _ hb20).trans (unhide HC20)
          have hb : b < wr.heap.size := Nat.lt_of_lt_of_le hb0 (unhide HT5).bel.size
          have hb2 : b2 < wr.heap.size := Nat.lt_of_lt_of_le hb20 (unhide HT5).bel.size
          by_cases hjl : j < rl
          ·have hjn : (j : Int) < (rl : Int) := by omega
           have hjr : j < r.length := by rw [unhide HRL]; exact hjl
           have hjq : j < q.length := by rw [unhide HQL]; exact hjl
           obtain ⟨d, doff, hdo, hd, hdc⟩ := (unhide HR).later (unhide HT5).bel j r[j] (List.getElem?_eq_getElem hjr)
           obtain ⟨d2, doff2, hdo2, hd2, hdc2⟩ := (unhide HQ).later (unhide HT5).bel j q[j] (List.getElem?_eq_getElem hjq)
           have HRJ := hide (List.getElem?_eq_getElem hjr)
           have HQJ := hide (List.getElem?_eq_getElem hjq)
           subst hdo
           subst hdo2
           generalize r[j] = x at *
           generalize q[j] = v at *
           by_cases hxv : x = v
           ·subst hxv
            have HJ2 : Hid (r.take (j + 1) = q.take (j + 1)) := by
             show _ = _
             rw [List.take_add_one, List.take_add_one, unhide HRJ, unhide HQJ, unhide HJ]
            go_wp2_with fail
            go_quiet (fail)
            go_wp2_with fail
            go_roundw
            case rel => exact ⟨j + 1, by omega, by go_num, (unhide HT5).later (bdn _ _), HJ2⟩
            case measure => simp [intOf]; omega
           ·have HNE : Hid (¬ z = y) := fun e => by
             have h1 := unhide HX
             rw [e, unhide HYY] at h1
             have h2 := Option.some.inj h1
             have h3 := unhide HRJ
             rw [← h2, unhide HQJ] at h3
             exact hxv (Option.some.inj h3).symm
            go_wp2_with fail
            go_quiet (fail)
            go_wp2_with fail
            go_ret
            exact ⟨TellsB.no (unhide HNE), ((unhide HT5).later (bdn _ _)).bel⟩
          ·have hjn : ¬ (j : Int) < (rl : Int) := by omega
           have HK2 : Hid (z.nx.take (k + 1) = y.nx.take (k + 1)) := by
            show _ = _
            have h1 := unhide HJ
            rw [List.take_of_length_le (by rw [unhide HRL]; omega), List.take_of_length_le (by rw [unhide HQL]; omega)] at h1
            rw [List.take_add_one, List.take_add_one, unhide HX, unhide HYY, unhide HK, h1]
           go_wp2_with fail
           go_roundw
           case rel => exact ⟨k + 1, by omega, by go_num, HT5, HK2⟩
           case measure => simp [intOf]; omega
        ·have hi : ¬ (rl : Int) = (ql : Int) := by omega
         have HNE : Hid (¬ z = y) := fun e => by
          have h1 := unhide HX
          rw [e, unhide HYY] at h1
          have h2 := Option.some.inj h1
          exact hrq (by rw [← unhide HRL, ← unhide HQL, h2])
         clear hrq
         go_wp2_with fail
         go_quiet (fail)
         go_wp2_with fail
         go_ret
         exact ⟨TellsB.no (unhide HNE), ((unhide HT3).later (bdn _ _)).bel⟩
       ·have hkn : ¬ (k : Int) < (nn : Int) := by omega
        have HNX : Hid (z.nx = y.nx) := by
         have := unhide HK
         rw [List.take_of_length_le (by have := unhide E3; omega), List.take_of_length_le (by have := unhide E6; omega)] at this
         exact this
        go_wp2_with fail
        go_ret
        exact ⟨TellsB.yes (Tz.ext' (unhide HA) (unhide HFE) (unhide HNX)), (unhide HT3).bel⟩
   ·have hi : ¬ (nn : Int) = (nh : Int) := by omega
    have HN : Hid (¬ z = y) := fun e => hn (by rw [unhide E3, unhide E6, e])
    clear hn
    go_wp2_with fail
    go_ret
    exact ⟨TellsB.no (unhide HN), (unhide HT).bel⟩
  ·have hi : ¬ (nf : Int) = (ng : Int) := by omega
   have HN : Hid (¬ z = y) := fun e => hf (by rw [unhide E2, unhide E5, e])
   clear hf
   go_wp2_with fail
   go_ret
   exact ⟨TellsB.no (unhide HN), (unhide HT).bel⟩
end Go.Proofs.YtidakhhekofkoaaGreatDoor
