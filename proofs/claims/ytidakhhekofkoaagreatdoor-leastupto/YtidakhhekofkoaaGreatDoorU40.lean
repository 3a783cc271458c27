/- The program's reader: number, text, numbers. -/
import Derived.Test.YtidakhhekofkoaaGreatDoorU30
import Derived.Test.YtidakhhekofkoaaGreatDoorU31
import Derived.BigQuiet
set_option linter.unusedSimpArgs false
set_option linter.unusedVariables false
namespace Go.Proofs.YtidakhhekofkoaaGreatDoor
open Go.RowKit Go.Deep
def intC (l : List Nat) : List Value := l.map fun n : Nat => Value.int .i64 (n : Int)
theorem intC_len (l : List Nat) : (intC l).length = l.length := by unfold intC; rw [List.length_map]
theorem intC_app (l r : List Nat) : intC (l ++ r) = intC l ++ intC r := by unfold intC; rw [List.map_append]
theorem Tryz.infoI64 : (Tryz.prog.info? 3).map (fun i => (i.zero, i.size, i.bytes)) = some (some (.int .i64 0), 1, 8) := by kernel_rfl
def rowTo (L : List Nat) (c k : Nat) : List Nat := L.take k ++ List.replicate (c - k) 0
theorem rowTo_len {L : List Nat} {c k : Nat} (hL : k ≤ L.length) (hk : k ≤ c) : (rowTo L c k).length = c := by unfold rowTo; simp; omega
theorem rowTo_succ {L M : List Nat} {c k x : Nat} (hk : k < c) (hL : L.length = k) (hM : M = L ++ [x]) : rowTo M c (k + 1) = (rowTo L c k).set k x := by
 subst hM
 unfold rowTo
 obtain ⟨m, hm⟩ : ∃ m, c - k = m + 1 := ⟨c - k - 1, by omega⟩
 rw [hm, show c - (k + 1) = m by omega, List.take_of_length_le (by simp [hL]), List.take_of_length_le (by omega), List.set_append_right _ _ (by omega), hL, Nat.sub_self, List.replicate_succ, List.set_cons_zero]
 simp
def rowC (l : List Nat) : Array Value := (intC l).toArray
theorem rowC_set (l : List Nat) (k x : Nat) : (rowC l).setIfInBounds k (.int .i64 (x : Int)) = rowC (l.set k x) := by
 unfold rowC intC
 rw [List.setIfInBounds_toArray, List.map_set]
theorem rowC_at {l : List Nat} {k x : Nat} (h : l[k]? = some x) : (rowC l)[k]? = some (.int .i64 (x : Int)) := by
 unfold rowC intC
 rw [List.getElem?_toArray, List.getElem?_map, h]
 rfl
theorem rowC_zero (n : Nat) : rowC (List.replicate n 0) = Array.replicate n (.int .i64 0) := by unfold rowC intC; simp
theorem rowC_owns {w : World} {g base n : Nat} {l : List Nat} (h : w.heap[g]? = some (.cells (rowC l) 3 (0, 0))) (hb : base ≤ g) (hn : l.length = n) (hm : n ≤ 1000000) : w.ownsRow base 3 1 (.slice (some ⟨g, 0, none⟩) n n) n (intC l) := by
 refine ⟨by rw [intC_len, hn, Nat.mul_one], .inr ⟨g, n, _, rfl, hb, h, Nat.le_refl _, by unfold maxLen; omega, ?_, ?_⟩⟩
 ·unfold rowC; rw [List.size_toArray, intC_len, hn, Nat.mul_one]
 ·unfold rowC
  rw [List.take_of_length_le (by simp [intC_len, hn])]
def strsC (l : List ByteArray) : List Value := l.map Value.string
structure TbW (w : World) (base : Nat) (A F X : Value) (t : Tb) (rv : List Value) : Prop where
 acts : w.ownsRow base 9 1 A t.acts.length (strsC t.acts)
 fl : w.ownsRow base 3 1 F t.fl.length (intC t.fl)
 nx : w.ownsRow base 33 1 X t.nx.length rv
 rows : ∀ (j : Nat) (r : List Nat), t.nx[j]? = some r → ∃ g c, rv[j]? = some (.slice (some ⟨g, 0, none⟩) r.length c) ∧ w.ownsRow base 3 1 (.slice (some ⟨g, 0, none⟩) r.length c) r.length (intC r)
 rf : ∀ v ∈ rv, v.ownBlock ≠ F.ownBlock
 rr : rv.Pairwise fun u v => u.ownBlock ≠ v.ownBlock
theorem TbW.rl {w : World} {base : Nat} {A F X : Value} {t : Tb} {rv : List Value} (h : TbW w base A F X t rv) : rv.length = t.nx.length := by
 have := h.nx.1
 rw [Nat.mul_one] at this
 exact this
theorem own_at {w : World} {base e size n : Nat} {v : Value} {xs : List Value} (h : w.ownsRow base e size v n xs) {b : Nat} (hb : v.ownBlock = some b) : ∃ c, w.heap[b]? = some (.cells c e (0, 0)) := by
 obtain ⟨_, ⟨hv, _⟩ | ⟨g, cap, cur, hv, _, hg, _⟩⟩ := h
 ·rw [hv] at hb; cases hb
 ·rw [hv] at hb
  cases hb
  exact ⟨cur, hg⟩
theorem owns_other {w w' : World} {base e size n : Nat} {v : Value} {xs : List Value} {row : Option Nat} (h : w.ownsRow base e size v n xs) (hg : w.grownBy w' row) (hne : ∀ b, row = some b → v.ownBlock ≠ some b) : w'.ownsRow base e size v n xs := by
 refine owns_keep h hg ?_
 cases hv : v.ownBlock with
 | none => exact Or.inl rfl
 | some k => exact Or.inr (fun e => hne k e.symm hv)
theorem TbW.other {w w' : World} {base : Nat} {A F X : Value} {t : Tb} {rv : List Value} {row : Option Nat} (h : TbW w base A F X t rv) (hg : w.grownBy w' row) (hne : ∀ b, row = some b → ∀ c m, w.heap[b]? ≠ some (.cells c 9 m) ∧ w.heap[b]? ≠ some (.cells c 3 m) ∧ w.heap[b]? ≠ some (.cells c 33 m)) : TbW w' base A F X t rv := by
 refine ⟨owns_other h.acts hg fun b hb e => ?_, owns_other h.fl hg fun b hb e => ?_, owns_other h.nx hg fun b hb e => ?_, fun j r hr => ?_, h.rf, h.rr⟩
 ·obtain ⟨c, hc⟩ := own_at h.acts e; exact (hne b hb c (0, 0)).1 hc
 ·obtain ⟨c, hc⟩ := own_at h.fl e; exact (hne b hb c (0, 0)).2.1 hc
 ·obtain ⟨c, hc⟩ := own_at h.nx e; exact (hne b hb c (0, 0)).2.2 hc
 ·obtain ⟨g, c, h1, h2⟩ := h.rows j r hr
  exact ⟨g, c, h1, owns_other h2 hg fun b hb e => by obtain ⟨c', hc⟩ := own_at h2 e; exact (hne b hb c' (0, 0)).2.1 hc⟩
theorem TbW.later {w w' : World} {base : Nat} {A F X : Value} {t : Tb} {rv : List Value} (h : TbW w base A F X t rv) (hb : Below w.heap.size w w') : TbW w' base A F X t rv :=
 h.other (grown_below hb none) (fun b e => by cases e)
theorem TbW.flag {w w' : World} {base : Nat} {A F F' X : Value} {t : Tb} {rv : List Value} (h : TbW w base A F X t rv) {f : Nat} (ho : w'.ownsRow base 3 1 F' (t.fl.length + 1) (intC t.fl ++ [.int .i64 (f : Int)])) (hg : w.grownBy w' F.ownBlock) {g' : Nat} (hF' : F'.ownBlock = some g') (hat : F.ownBlock = some g' ∨ w.heap.size ≤ g') : TbW w' base A F' X ⟨t.acts, t.fl ++ [f], t.nx⟩ rv := by
 have hty : ∀ {e n : Nat} {v : Value} {xs : List Value}, w.ownsRow base e 1 v n xs → e ≠ 3 → ∀ b, F.ownBlock = some b → v.ownBlock ≠ some b := fun {e n v xs} k hne b hb e1 => by
  obtain ⟨c, hc⟩ := own_at h.fl hb
  exact own_ty k e1 hc (fun e => hne e.symm)
 have hrow : ∀ v ∈ rv, ∃ g r c, v = .slice (some ⟨g, 0, none⟩) r c ∧ g < w.heap.size := fun v hv => by
  obtain ⟨j, hj⟩ := List.mem_iff_getElem?.1 hv
  have hjl : j < t.nx.length := by have := (List.getElem?_eq_some_iff.1 hj).1; have := h.rl; omega
  obtain ⟨g, c, h1, h2⟩ := h.rows j _ (List.getElem?_eq_getElem hjl)
  rw [hj] at h1
  cases h1
  exact ⟨g, _, c, rfl, (own_lt h2 g rfl).2⟩
 refine ⟨owns_other h.acts hg (hty h.acts (by decide)), ?_, owns_other h.nx hg (hty h.nx (by decide)), fun j r hr => ?_, fun v hv => ?_, h.rr⟩
 ·have e : intC (t.fl ++ [f]) = intC t.fl ++ [.int .i64 (f : Int)] := by rw [intC_app]; rfl
  show w'.ownsRow base _ 1 F' (t.fl ++ [f]).length (intC (t.fl ++ [f]))
  rw [e, List.length_append]
  exact ho
 ·obtain ⟨g, c, h1, h2⟩ := h.rows j r hr
  refine ⟨g, c, h1, owns_other h2 hg fun b hb e => ?_⟩
  exact h.rf _ (List.mem_of_getElem? h1) (e.trans hb.symm)
 ·obtain ⟨g, r, c, rfl, hlt⟩ := hrow v hv
  rw [hF']
  intro e
  have e' : g = g' := Option.some.inj e
  subst e'
  rcases hat with hat | hat
  ·exact h.rf _ hv hat.symm
  ·omega
theorem TbW.row {w w' : World} {base : Nat} {A F X X' : Value} {t : Tb} {rv : List Value} (h : TbW w base A F X t rv) {g c : Nat} {r : List Nat} (hr : w.ownsRow base 3 1 (.slice (some ⟨g, 0, none⟩) r.length c) r.length (intC r)) (hF : F.ownBlock ≠ some g) (hv : ∀ v ∈ rv, v.ownBlock ≠ some g)
  (ho : w'.ownsRow base 33 1 X' (t.nx.length + 1) (rv ++ [.slice (some ⟨g, 0, none⟩) r.length c])) (hg : w.grownBy w' X.ownBlock) : TbW w' base A F X' ⟨t.acts, t.fl, t.nx ++ [r]⟩ (rv ++ [.slice (some ⟨g, 0, none⟩) r.length c]) := by
 have hty : ∀ {e n : Nat} {v : Value} {xs : List Value}, w.ownsRow base e 1 v n xs → e ≠ 33 → ∀ b, X.ownBlock = some b → v.ownBlock ≠ some b := fun {e n v xs} k hne b hb e1 => by
  obtain ⟨c, hc⟩ := own_at h.nx hb
  exact own_ty k e1 hc (fun e => hne e.symm)
 have hl := h.rl
 refine ⟨owns_other h.acts hg (hty h.acts (by decide)), owns_other h.fl hg (hty h.fl (by decide)), ?_, fun j q hq => ?_, fun v hv' => ?_, ?_⟩
 ·show w'.ownsRow base _ 1 X' (t.nx ++ [r]).length _
  rw [List.length_append]
  exact ho
 ·rcases Nat.lt_or_ge j t.nx.length with hj | hj
  ·rw [List.getElem?_append_left hj] at hq
   obtain ⟨g2, c2, h1, h2⟩ := h.rows j q hq
   exact ⟨g2, c2, by rw [List.getElem?_append_left (by omega)]; exact h1, owns_other h2 hg (hty h2 (by decide))⟩
  ·rw [List.getElem?_append_right hj] at hq
   have hj0 : j - t.nx.length = 0 := by
    have := (List.getElem?_eq_some_iff.1 hq).1
    simp at this
    omega
   rw [hj0] at hq
   have hqr : r = q := by simpa using hq
   subst hqr
   refine ⟨g, c, ?_, owns_other hr hg (hty hr (by decide))⟩
   rw [List.getElem?_append_right (by omega), hl, hj0]
   rfl
 ·rcases List.mem_append.1 hv' with h1 | h1
  ·exact h.rf v h1
  ·rw [List.mem_singleton.1 h1]
   exact fun e => hF e.symm
 ·rw [List.pairwise_append]
  refine ⟨h.rr, by simp, fun a ha b hb => ?_⟩
  rw [List.mem_singleton.1 hb]
  exact hv a ha
theorem TbW.read {w : World} {base : Nat} {ao fo no : Option Addr} {na ac nf fc nn nc : Nat} {t : Tb} {rv : List Value} (h : TbW w base (.slice ao na ac) (.slice fo nf fc) (.slice no nn nc) t rv) (hl : t.acts.length ≤ 1000 ∧ t.nx.length ≤ 1000 ∧ t.fl.length ≤ 1000 ∧ ∀ r ∈ t.nx, r.length ≤ 1000) : TbI w ao fo no ac t.z ∧ na = t.acts.length ∧ nf = t.fl.length ∧ nn = t.nx.length := by
 have len : ∀ {e n k c : Nat} {o : Option Addr} {xs : List Value}, w.ownsRow base e 1 (.slice o n c) k xs → n = k ∧ k ≤ c := fun {e n k c o xs} ho => by
  obtain ⟨_, ⟨hv, hn⟩ | ⟨g, cap, cur, hv, _, _, hle, _⟩⟩ := ho
  ·cases hv; exact ⟨hn.symm, by omega⟩
  ·cases hv; exact ⟨rfl, hle⟩
 obtain ⟨e1, k1⟩ := len h.acts
 obtain ⟨e2, _⟩ := len h.fl
 obtain ⟨e3, _⟩ := len h.nx
 subst e1; subst e2; subst e3
 refine ⟨⟨fun j x hx => ?_, fun j x hx => ?_, fun j r hr => ?_, k1, ?_, ?_, ?_, fun r hr => ?_⟩, rfl, rfl, rfl⟩
 ·have hx' : t.acts[j]? = some x := hx
  have hj := (List.getElem?_eq_some_iff.1 hx').1
  obtain ⟨g, h1, h2, h3⟩ := owns1_at h.acts hj
  exact ⟨g, 0, h1, h2, by rw [Nat.zero_add, h3]; unfold strsC; rw [List.getElem?_map, hx']; rfl⟩
 ·have hx' : (zI t.fl)[j]? = some x := hx
  unfold zI at hx'
  rw [List.getElem?_map] at hx'
  cases e : t.fl[j]? with
  | none => rw [e] at hx'; cases hx'
  | some f =>
   rw [e] at hx'
   have hf : (f : Int) = x := Option.some.inj hx'
   have hj := (List.getElem?_eq_some_iff.1 e).1
   obtain ⟨g, h1, h2, h3⟩ := owns1_at h.fl hj
   exact ⟨g, 0, h1, h2, by rw [Nat.zero_add, h3, ← hf]; unfold intC; rw [List.getElem?_map, e]; rfl⟩
 ·have hr' : (t.nx.map zI)[j]? = some r := hr
  rw [List.getElem?_map] at hr'
  cases e : t.nx[j]? with
  | none => rw [e] at hr'; cases hr'
  | some q =>
   rw [e] at hr'
   have hq : zI q = r := Option.some.inj hr'
   subst hq
   have hj := (List.getElem?_eq_some_iff.1 e).1
   obtain ⟨g, h1, h2, h3⟩ := owns1_at h.nx hj
   obtain ⟨g2, c2, h4, h5⟩ := h.rows j q e
   refine ⟨g, 0, some ⟨g2, 0, none⟩, c2, h1, h2, by rw [Nat.zero_add, h3, h4]; unfold zI; rw [List.length_map], fun i x hx => ?_⟩
   unfold zI at hx
   rw [List.getElem?_map] at hx
   cases e2 : q[i]? with
   | none => rw [e2] at hx; cases hx
   | some y =>
    rw [e2] at hx
    have hy : (y : Int) = x := Option.some.inj hx
    obtain ⟨g3, k1, k2, k3⟩ := owns1_at h5 (List.getElem?_eq_some_iff.1 e2).1
    cases k1
    exact ⟨g2, 0, rfl, k2, by rw [Nat.zero_add, k3, ← hy]; unfold intC; rw [List.getElem?_map, e2]; rfl⟩
 ·have := hl.1; show t.acts.length ≤ _; omega
 ·show (zI t.fl).length ≤ _; unfold zI; rw [List.length_map]; have := hl.2.2.1; omega
 ·show (t.nx.map zI).length ≤ _; rw [List.length_map]; have := hl.2.1; omega
 ·have hr' : r ∈ t.nx.map zI := hr
  obtain ⟨q, hq, rfl⟩ := List.mem_map.1 hr'
  have := hl.2.2.2 q hq
  unfold zI
  rw [List.length_map]
  omega
def DecP (ty : List Value → Value) (w : World) (o : Option Tb) (w' : World) (e : Ending) : Prop :=
 Below w.heap.size w w' ∧ match o with
 | none => e = .returned (.tuple #[.agg #[.slice none 0 0, .slice none 0 0, .slice none 0 0], ty []])
 | some t => ∃ A F X rv, e = .returned (.tuple #[.agg #[A, F, X], ty [.bool true]]) ∧ TbW w' w.heap.size A F X t rv
def okB : List Value → Value
 | [] => .bool false
 | _ => .bool true
theorem TbW.mono {w : World} {base base' : Nat} {A F X : Value} {t : Tb} {rv : List Value} (h : TbW w base A F X t rv) (hb : base' ≤ base) : TbW w base' A F X t rv :=
 ⟨owns_mono h.acts hb, owns_mono h.fl hb, owns_mono h.nx hb, fun j r hr => by obtain ⟨g, c, h1, h2⟩ := h.rows j r hr; exact ⟨g, c, h1, owns_mono h2 hb⟩, h.rf, h.rr⟩
def setT (w : World) (b : Nat) (A F X : Value) : World := ((w.setCell ⟨b, 0, none⟩ A).setCell ⟨b, 1, none⟩ F).setCell ⟨b, 2, none⟩ X
theorem setT_blk {w : World} {b : Nat} {a f x : Value} (h : w.heap[b]? = some (.cells #[a, f, x] 36 (0, 0))) (A F X : Value) : (setT w b A F X).heap[b]? = some (.cells #[A, F, X] 36 (0, 0)) := blk_set (blk_set (blk_set h 0 A) 1 F) 2 X
theorem setT_grown (w : World) (b : Nat) (A F X : Value) : w.grownBy (setT w b A F X) (some b) := ((grown_set _ _ _ _).trans (grown_set _ _ _ _)).trans (grown_set _ _ _ _)
theorem setT_below {w0 w : World} {b : Nat} (h : Below w0.heap.size w0 w) (hb : w0.heap.size ≤ b) (A F X : Value) : Below w0.heap.size w0 (setT w b A F X) := h.grown (setT_grown w b A F X) h.size (fun k hk => by cases hk; exact hb)
theorem setT_tab {w : World} {b : Nat} {c : Array Value} (hc : w.heap[b]? = some (.cells c 36 (0, 0))) {base : Nat} {A F X A' F' X' : Value} {t : Tb} {rv : List Value} (h : TbW w base A F X t rv) : TbW (setT w b A' F' X') base A F X t rv :=
 h.other (setT_grown w b A' F' X') (fun k hk c' m => by
  cases hk
  rw [hc]
  refine ⟨?_, ?_, ?_⟩ <;> (intro e; injection e with e; injection e with _ e _; revert e; decide))
structure TwB (w W : World) (T U : Array Value) : Prop where
 b0 : W.heap[w.heap.size]? = some (.cells T 36 (0, 0))
 b1 : W.heap[w.heap.size + 1]? = some (.cells U 36 (0, 0))
 bel : Below w.heap.size w W
theorem TwB.later {w W W' : World} {T U : Array Value} (h : TwB w W T U) (hb : Below W.heap.size W W') : TwB w W' T U :=
 ⟨(hb.block _ (lt_of_blk h.b0)).trans h.b0, (hb.block _ (lt_of_blk h.b1)).trans h.b1, h.bel.trans (hb.mono h.bel.size)⟩
end Go.Proofs.YtidakhhekofkoaaGreatDoor
