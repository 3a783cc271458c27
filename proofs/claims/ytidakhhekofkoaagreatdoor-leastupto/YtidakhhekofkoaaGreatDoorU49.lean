/- back: the way on which a pair was met. -/
import Derived.Test.YtidakhhekofkoaaGreatDoorU42
import Derived.Test.YtidakhhekofkoaaGreatDoorU48
import Derived.Laws.AppendOwnNone
import Derived.Test.YtidakhhekofkoaaGreatDoorU40
set_option linter.unusedSimpArgs false
set_option linter.unusedVariables false
namespace Go.Proofs.YtidakhhekofkoaaGreatDoor
open Go.RowKit Go.Deep
def idxL (l : List Nat) (x : Nat) : Nat := (fnd x l 0).getD 0
theorem idxL_of {l : List Nat} (hd : l.Nodup) {i x : Nat} (h : l[i]? = some x) : idxL l x = i := by
 unfold idxL
 cases e : fnd x l 0 with
 | none => exact absurd (List.mem_of_getElem? h) (fnd_none e)
 | some j =>
  have h2 := (fnd_some e).2
  rw [Nat.sub_zero] at h2
  exact ((List.getElem?_inj (List.getElem?_eq_some_iff.1 h).1 hd).1 (h.trans h2.symm)).symm
def LstI (w : World) (base : Nat) (v : List Nat) (val : Value) : Prop :=
 (v = [] ∧ val = .slice none 0 0) ∨ ∃ g c, val = .slice (some ⟨g, 0, none⟩) v.length c ∧ w.ownsRow base 3 1 (.slice (some ⟨g, 0, none⟩) v.length c) v.length (intC v) ∧ 0 < v.length
def BackP (st : Nat → Nat → Nat) (A s0 z j : Nat) (w w' : World) (e : Ending) : Prop :=
 ∃ v val, e = .returned val ∧ LstI w' w.heap.size v val ∧ v.length ≤ j ∧ (∀ a ∈ v, a < A) ∧ v.foldl st s0 = z ∧ Below w.heap.size w w'
set_option maxHeartbeats 4000000 in
set_option maxRecDepth 100000 in
theorem kback_any (w : World) (st : Nat → Nat → Nat) (A N s0 : Nat) (l : List Nat) (fr by_ : List Int) (hP : ParOk st A N s0 l fr by_) (hN : N ≤ 10000) (fb gb fc gc : Nat) (hF : InS w (some ⟨fb, 0, none⟩) fr) (hB : InS w (some ⟨gb, 0, none⟩) by_) (j z : Nat) (hz : l[j]? = some z) :
  Calls Tryz.prog 44 #[.slice (some ⟨fb, 0, none⟩) N fc, .slice (some ⟨gb, 0, none⟩) N gc, .int .i64 (z : Int)] w fun e w' => BackP st A s0 z j w w' e := by
 have HP := hide hP
 have HF := hide hF
 have HB := hide hB
 have hjl : j < N := by have := (List.getElem?_eq_some_iff.1 hz).1; have := hP.few; omega
 have HZ := hide hz
 obtain ⟨i0, hi0, hz0, hz1, hz2⟩ := info_parts Tryz.infoI64
 clear hP hF hB hz
 go_enter Tryz.func44, Tryz.ntmps44
 go_wp2_with fail
 go_loopw [2, 7] (fun x val wr => ∃ (i y : Nat) (v : List Nat), x = .int .i64 (y : Int) ∧ Hid (l[i]? = some y) ∧ v.length + i ≤ j ∧ Hid (LstI wr w.heap.size v val) ∧ Hid (∀ a ∈ v, a < A) ∧ Hid (v.foldl st y = z) ∧ Hid (Below w.heap.size w wr)) (fun x _ _ => idxL l (intOf x).toNat)
 case atStart => exact ⟨j, z, [], rfl, HZ, by simp, Or.inl ⟨rfl, rfl⟩, fun a ha => by simp at ha, rfl, Below.refl _ _⟩
 case round =>
  obtain ⟨i, y, v, rfl, HY, hvi, HV, HVA, HVF, HBW⟩ := hrel
  have hyN : y < N := (unhide HP).lt y (List.mem_of_getElem? (unhide HY))
  have hyn : (y : Int) < (N : Int) := by omega
  rcases (unhide HP).at (unhide HY) with ⟨e0, hf⟩ | ⟨i', y', a, hi', hy', hf, hb, haA, hst⟩
  ·obtain ⟨b, off, hbo, hbl, hbc⟩ := (unhide HF).later (unhide HBW) y _ hf
   cases hbo
   have hbc' : wr.cell? ⟨fb, y, none⟩ = some (.int .i64 (-1)) := by simpa using hbc
   have HE0 := hide e0
   clear hbc hf e0
   go_wp2_with fail
   go_ret
   exact ⟨v, _, rfl, unhide HV, by omega, unhide HVA, by rw [← unhide HE0]; exact unhide HVF, unhide HBW⟩
  ·obtain ⟨b, off, hbo, hbl, hbc⟩ := (unhide HF).later (unhide HBW) y _ hf
   cases hbo
   have hbc' : wr.cell? ⟨fb, y, none⟩ = some (.int .i64 ((y' : Int) + 1)) := by simpa using hbc
   obtain ⟨b, off, hbo, hgl, hgc⟩ := (unhide HB).later (unhide HBW) y _ hb
   cases hbo
   have hgc' : wr.cell? ⟨gb, y, none⟩ = some (.int .i64 (a : Int)) := by simpa using hgc
   have hpos : 0 < (y' : Int) + 1 := by omega
   have hyN' : y' < N := (unhide HP).lt y' (List.mem_of_getElem? hy')
   have HY' := hide hy'
   have HST := hide hst
   have hidx : idxL l y' < idxL l y := by rw [idxL_of (unhide HP).nd (unhide HY), idxL_of (unhide HP).nd hy']; exact hi'
   have HFR := hide hf
   clear hbc hgc hf hb hy' hst
   have hba : Below wr.heap.size wr (wr.alloc (.cells #[.int .i64 (a : Int)] 3)) := (Below.refl _ _).alloc (Nat.le_refl _) _
   have HBA := hide ((unhide HBW).trans (hba.mono (unhide HBW).size))
   have hws := (unhide HBW).size
   have HOW : Hid ((wr.alloc (.cells #[.int .i64 (a : Int)] 3)).ownsRow w.heap.size 3 1 (.slice (some ⟨wr.heap.size, 0, none⟩) 1 1) 1 (intC [a])) := World.ownsRow_lit wr #[.int .i64 (a : Int)] 1 hws (by decide) rfl
   have HVF' : Hid ((a :: v).foldl st y' = z) := by
    show _ = _
    rw [List.foldl_cons, ← unhide HST]
    exact unhide HVF
   have HVA' : Hid (∀ b ∈ a :: v, b < A) := fun b hb => by
    rcases List.mem_cons.1 hb with rfl | hb
    ·exact haA
    ·exact unhide HVA b hb
   rcases unhide HV with ⟨hv0, rfl⟩ | ⟨g, c, rfl, how, hvp⟩
   ·subst hv0
    go_wp2_with (at_builtin; go_must (refine wpList_append_own_none rfl _ _ 33 rfl w.heap.size 3 i0 1 Tryz.underlying33 hi0 _ 1 (intC [a]) rfl (unhide HOW) rfl ?_))
    have f1 : (wr.alloc (.cells #[.int .i64 (a : Int)] 3)).cell? ⟨fb, y, none⟩ = some (.int .i64 ((y' : Int) + 1)) := (bcell3 hba _ _ hbl).trans hbc'
    have f2 : fb < (wr.alloc (.cells #[.int .i64 (a : Int)] 3)).heap.size := Nat.lt_of_lt_of_le hbl hba.size
    clear hbc' hgc' hbl hgl hba
    generalize wr.alloc (.cells #[.int .i64 (a : Int)] 3) = w2 at *
    go_wp2_with fail
    go_roundw
    case rel => exact ⟨i', y', [a], by go_num, HY', by simp at *; omega, Or.inr ⟨_, 1, rfl, unhide HOW, by simp⟩, HVA', HVF', HBA⟩
    case measure => simpa [intOf] using hidx
   ·have HV2 := hide (owns_later how hba)
    have hvl : v.length ≤ 10000 := by omega
    clear how
    go_wp2_with (at_builtin; go_must (refine wpList_append_lies _ rfl _ _ 33 rfl w.heap.size 3 i0 (.int .i64 0) 1 8 Tryz.underlying33 hi0 hz0 hz1 hz2 rfl (by decide) _ 1 (intC [a]) rfl (unhide HOW) ⟨g, 0, none⟩ v.length c (intC v) rfl ?c0 ?c1 ?c2 ?c7 ?c3 ?c4 ?c5 (wr.heap.size + 1) ?c6 ?_))
    case c0 => unfold intC; simp
    case c1 =>
     intro q u hq
     have hq' : q < v.length := by have := (List.getElem?_eq_some_iff.1 hq).1; unfold intC at this; simpa using this
     obtain ⟨b, h3, _, h5⟩ := owns1_at (unhide HV2) hq'
     cases h3
     rw [Addr.add_lit, Nat.zero_add, h5]
     exact hq
    case c2 => intro u hu; unfold intC at hu; obtain ⟨x, _, rfl⟩ := List.mem_map.1 hu; rfl
    case c7 => exact hvp
    case c3 => unfold maxLen; omega
    case c4 => omega
    case c5 => simp; omega
    case c6 => simp
    intro g8 cap8 w8 ho8 hg8 _ _
    have hlen : 1 + v.length = (a :: v).length := by rw [List.length_cons]; omega
    have hapc : intC [a] ++ intC v = intC (a :: v) := rfl
    rw [hlen, hapc] at ho8
    have hb8 : Below w.heap.size w w8 := (unhide HBA).grown hg8 (by simp; omega) (fun b hb => by cases hb; exact hws)
    have HO8 := hide ho8
    have HB8 := hide hb8
    have f1 : w8.cell? ⟨fb, y, none⟩ = some (.int .i64 ((y' : Int) + 1)) := by
     obtain ⟨b, off, hbo, hbl, hbc⟩ := (unhide HF).later hb8 y _ ((unhide HFR))
     cases hbo
     simpa using hbc
    have f2 : fb < w8.heap.size := Nat.lt_of_lt_of_le hbl (Nat.le_trans hba.size hg8.size)
    rw [hlen]
    clear hbc' hgc' hbl hgl hba ho8 hb8 hg8 hlen hapc
    generalize hvl8 : (a :: v).length = n8 at *
    have HV8 := hide hvl8
    clear hvl8
    go_wp2_with fail
    go_roundw
    case rel => exact ⟨i', y', a :: v, by go_num, HY', by simp; omega, Or.inr ⟨g8, cap8, by rw [unhide HV8], by rw [unhide HV8]; exact unhide HO8, by simp⟩, HVA', HVF', HB8⟩
    case measure => simpa [intOf] using hidx
theorem LstI.mono {w : World} {base base' : Nat} {v : List Nat} {val : Value} (h : LstI w base v val) (hb : base' ≤ base) : LstI w base' v val := by
 rcases h with h | ⟨g, c, h1, h2, h3⟩
 ·exact Or.inl h
 ·exact Or.inr ⟨g, c, h1, owns_mono h2 hb, h3⟩
theorem own_ge {w : World} {base e n c g : Nat} {xs : List Value} (h : w.ownsRow base e 1 (.slice (some ⟨g, 0, none⟩) n c) n xs) : base ≤ g ∧ g < w.heap.size := by
 obtain ⟨_, ⟨h1, _⟩ | ⟨g', cap, cur, hv, hbg, hrow, _⟩⟩ := h
 ·cases h1
 ·cases hv
  exact ⟨hbg, lt_of_blk hrow⟩
def intZ (l : List Int) : Array Value := (l.map (Value.int .i64)).toArray
theorem intZ_at {l : List Int} {k : Nat} {x : Int} (h : l[k]? = some x) : (intZ l)[k]? = some (.int .i64 x) := by
 unfold intZ
 rw [List.getElem?_toArray, List.getElem?_map, h]
 rfl
theorem intZ_set (l : List Int) (k : Nat) (x : Int) : (intZ l).setIfInBounds k (.int .i64 x) = intZ (l.set k x) := by
 unfold intZ
 rw [List.setIfInBounds_toArray, List.map_set]
theorem intZ_rep (n : Nat) : intZ (List.replicate n 0) = Array.replicate n (.int .i64 0) := by unfold intZ; simp
structure ApS (w wr : World) (T U : Array Value) (fr by_ : List Int) (l : List Nat) (g c : Nat) : Prop where
 bx : TwB w wr T U
 fr : wr.heap[w.heap.size + 2]? = some (.cells (intZ fr) 3 (0, 0))
 by_ : wr.heap[w.heap.size + 3]? = some (.cells (intZ by_) 3 (0, 0))
 td : wr.ownsRow (w.heap.size + 4) 3 1 (.slice (some ⟨g, 0, none⟩) l.length c) l.length (intC l)
theorem ApS.later {w wr wr' : World} {T U : Array Value} {fr by_ : List Int} {l : List Nat} {g c : Nat} (h : ApS w wr T U fr by_ l g c) (hb : Below wr.heap.size wr wr') : ApS w wr' T U fr by_ l g c :=
 ⟨h.bx.later hb, (hb.block _ (lt_of_blk h.fr)).trans h.fr, (hb.block _ (lt_of_blk h.by_)).trans h.by_, owns_later h.td hb⟩
theorem ApS.frI {w wr : World} {T U : Array Value} {fr by_ : List Int} {l : List Nat} {g c : Nat} (h : ApS w wr T U fr by_ l g c) : InS wr (some ⟨w.heap.size + 2, 0, none⟩) fr := fun j x hx =>
 ⟨_, 0, rfl, lt_of_blk h.fr, by rw [Nat.zero_add, cell_of_blk h.fr, intZ_at hx]⟩
theorem ApS.byI {w wr : World} {T U : Array Value} {fr by_ : List Int} {l : List Nat} {g c : Nat} (h : ApS w wr T U fr by_ l g c) : InS wr (some ⟨w.heap.size + 3, 0, none⟩) by_ := fun j x hx =>
 ⟨_, 0, rfl, lt_of_blk h.by_, by rw [Nat.zero_add, cell_of_blk h.by_, intZ_at hx]⟩
theorem ApS.todo {w wr : World} {T U : Array Value} {fr by_ : List Int} {l : List Nat} {g c : Nat} (h : ApS w wr T U fr by_ l g c) {i z : Nat} (hz : l[i]? = some z) : wr.cell? ⟨g, i, none⟩ = some (.int .i64 (z : Int)) ∧ g < wr.heap.size := by
 obtain ⟨b, h3, h4, h5⟩ := owns1_at h.td (List.getElem?_eq_some_iff.1 hz).1
 cases h3
 refine ⟨?_, h4⟩
 rw [h5]
 unfold intC
 rw [List.getElem?_map, hz]
 rfl
theorem ApS.other {w wr wr' : World} {T U : Array Value} {fr by_ fr' by' : List Int} {l : List Nat} {g c k : Nat} (h : ApS w wr T U fr by_ l g c) (hg : wr.grownBy wr' (some k)) (hk : k = w.heap.size + 2 ∨ k = w.heap.size + 3)
  (h1 : wr'.heap[w.heap.size + 2]? = some (.cells (intZ fr') 3 (0, 0))) (h2 : wr'.heap[w.heap.size + 3]? = some (.cells (intZ by') 3 (0, 0))) : ApS w wr' T U fr' by' l g c := by
 have hge := own_ge h.td
 refine ⟨⟨(hg.block _ (lt_of_blk h.bx.b0) (fun e => by cases e; omega)).trans h.bx.b0, (hg.block _ (lt_of_blk h.bx.b1) (fun e => by cases e; omega)).trans h.bx.b1, h.bx.bel.grown hg h.bx.bel.size (fun b hb => by cases hb; omega)⟩, h1, h2, ?_⟩
 exact owns_other h.td hg (fun b hb e => by cases hb; have e' : g = k := Option.some.inj e; omega)
theorem ApS.setF {w wr : World} {T U : Array Value} {fr by_ : List Int} {l : List Nat} {g c : Nat} (h : ApS w wr T U fr by_ l g c) (z : Nat) (x : Int) : ApS w (wr.setCell ⟨w.heap.size + 2, z, none⟩ (.int .i64 x)) T U (fr.set z x) by_ l g c :=
 h.other (grown_set _ _ _ _) (Or.inl rfl) (by have := blk_set h.fr z (.int .i64 x); rw [intZ_set] at this; exact this) ((Below.heap_setCell _ _ _ _ (by show w.heap.size + 3 ≠ w.heap.size + 2; omega)).trans h.by_)
theorem ApS.setB {w wr : World} {T U : Array Value} {fr by_ : List Int} {l : List Nat} {g c : Nat} (h : ApS w wr T U fr by_ l g c) (z : Nat) (x : Int) : ApS w (wr.setCell ⟨w.heap.size + 3, z, none⟩ (.int .i64 x)) T U fr (by_.set z x) l g c :=
 h.other (grown_set _ _ _ _) (Or.inr rfl) ((Below.heap_setCell _ _ _ _ (by show w.heap.size + 2 ≠ w.heap.size + 3; omega)).trans h.fr) (by have := blk_set h.by_ z (.int .i64 x); rw [intZ_set] at this; exact this)
theorem ApS.app {w wr wr' : World} {T U : Array Value} {fr by_ : List Int} {l : List Nat} {g c g' c' z : Nat} (h : ApS w wr T U fr by_ l g c) (hg : wr.grownBy wr' (some g)) (ho : wr'.ownsRow (w.heap.size + 4) 3 1 (.slice (some ⟨g', 0, none⟩) (l.length + 1) c') (l.length + 1) (intC l ++ [.int .i64 (z : Int)])) : ApS w wr' T U fr by_ (l ++ [z]) g' c' := by
 have hge := own_ge h.td
 refine ⟨⟨(hg.block _ (lt_of_blk h.bx.b0) (fun e => by cases e; omega)).trans h.bx.b0, (hg.block _ (lt_of_blk h.bx.b1) (fun e => by cases e; omega)).trans h.bx.b1, h.bx.bel.grown hg h.bx.bel.size (fun b hb => by cases hb; omega)⟩, (hg.block _ (lt_of_blk h.fr) (fun e => by cases e; omega)).trans h.fr, (hg.block _ (lt_of_blk h.by_) (fun e => by cases e; omega)).trans h.by_, ?_⟩
 have e1 : (l ++ [z]).length = l.length + 1 := by simp
 have e2 : intC (l ++ [z]) = intC l ++ [.int .i64 (z : Int)] := by unfold intC; simp
 rw [e1, e2]
 exact ho
theorem ApS.start {w W0 : World} {T U : Array Value} (h : TwB w W0 T U) (hs : W0.heap.size = w.heap.size + 2) (F B : List Int) (s0 : Nat) :
  ApS w (((W0.alloc (.cells (intZ F) 3)).alloc (.cells (intZ B) 3)).alloc (.cells #[.int .i64 (s0 : Int)] 3)) T U F B [s0] (w.heap.size + 1 + 1 + 1 + 1) 1 := by
 have e1 : (W0.alloc (.cells (intZ F) 3)).heap.size = w.heap.size + 3 := by simp [hs]
 have e2 : ((W0.alloc (.cells (intZ F) 3)).alloc (.cells (intZ B) 3)).heap.size = w.heap.size + 4 := by simp [hs]
 refine ⟨h.later ((((Below.refl _ _).alloc (Nat.le_refl _) _).alloc (by simp) _).alloc (by simp; omega) _), ?_, ?_, ?_⟩
 ·rw [Below.heap_alloc _ _ _ (by omega), Below.heap_alloc _ _ _ (by omega)]
  exact blk_alloc' _ _ _ hs.symm
 ·rw [Below.heap_alloc _ _ _ (by omega)]
  exact blk_alloc' _ _ _ e1.symm
 ·have := World.ownsRow_lit (base := w.heap.size + 4) (e := 3) (size := 1) ((W0.alloc (.cells (intZ F) 3)).alloc (.cells (intZ B) 3)) #[.int .i64 (s0 : Int)] 1 (by omega) (by decide) rfl
  rw [e2] at this
  exact this
theorem fnd_no {z : Nat} {l : List Nat} (h : z ∉ l) : fnd z l 0 = none := by
 cases e : fnd z l 0 with
 | none => rfl
 | some j => exact absurd (List.mem_of_getElem? (fnd_some e).2) h
theorem numb_in {z : Nat} {l : List Nat} (h : z ∈ l) : (numb l z).1 = l := by
 unfold numb
 cases e : fnd z l 0 with
 | none => exact absurd h (fnd_none e)
 | some j => rfl
theorem numb_out {z : Nat} {l : List Nat} (h : z ∉ l) : (numb l z).1 = l ++ [z] := by
 unfold numb
 rw [fnd_no h]
theorem pr_acc {t u : Tb} (ht : RightT t) (hu : RightT u) {A n p q s0 z : Nat} (hA : t.acts.length = A) (hB : u.acts.length = A) (hn : u.nx.length = n) (hp : p < t.nx.length) (hq : q < n) (hs : s0 = p * u.nx.length + q) {v : List Nat} (hv : ∀ a ∈ v, a < A) (hz : v.foldl (stPr t u) s0 = z) : runT t p v = z / n ∧ runT u q v = z % n := by
 obtain ⟨h1, _, h3⟩ := pr_run ht hu hA.symm hB.symm v p q hv hp (by omega)
 rw [← hs, hz, hn] at h1
 rw [hn] at h3
 rw [h1, (pair_div h3).1, (pair_div h3).2]
 exact ⟨rfl, rfl⟩
def ApP (t u : Tb) (A p q : Nat) (w w' : World) (e : Ending) : Prop :=
 (∃ v val, e = .returned (.tuple #[val, .bool true]) ∧ LstI w' w.heap.size v val ∧ (∀ a ∈ v, a < A) ∧ v.length ≤ 10000 ∧ accT t (runT t p v) ≠ accT u (runT u q v)) ∨
  (e = .returned (.tuple #[.slice none 0 0, .bool false]) ∧ ∀ v : List Nat, (∀ a ∈ v, a < A) → accT t (runT t p v) = accT u (runT u q v))
theorem small_mul {x y : Nat} (hx : x ≤ 100) (hy : y ≤ 100) : x * y ≤ 10000 := Nat.mul_le_mul hx hy
set_option maxHeartbeats 8000000 in
set_option maxRecDepth 100000 in
theorem apart_any (w : World) (t u : Tb) (A m n ab a0 fb f0 nb n0 ac fc nc bb b0 gb g0 hb h0 bc gc hc : Nat) (rb ro rc qb qo qc : Nat → Nat) (hT : TbL w t A m ab a0 fb f0 nb n0 rb ro rc) (hU : TbL w u A n bb b0 gb g0 hb h0 qb qo qc) (p q : Nat) (hp : p < m) (hq : q < n) :
  Calls Tryz.prog 24 #[.agg #[.slice (some ⟨ab, a0, none⟩) A ac, .slice (some ⟨fb, f0, none⟩) m fc, .slice (some ⟨nb, n0, none⟩) m nc], .agg #[.slice (some ⟨bb, b0, none⟩) A bc, .slice (some ⟨gb, g0, none⟩) n gc, .slice (some ⟨hb, h0, none⟩) n hc], .int .i64 (p : Int), .int .i64 (q : Int)] w fun e w' => ApP t u A p q w w' e ∧ Below w.heap.size w w' := by
 have hA1 := hT.A1
 have hA6 := hT.A6
 have hm1 := hT.n1
 have hm100 := hT.n100
 have hn1 := hU.n1
 have hn100 := hU.n100
 have HT := hide hT
 have HU := hide hU
 obtain ⟨pn, hpn⟩ : ∃ pn : Nat, pn = p * n := ⟨_, rfl⟩
 obtain ⟨NN, hNN⟩ : ∃ NN : Nat, NN = m * n := ⟨_, rfl⟩
 obtain ⟨s0, hs0⟩ : ∃ s0 : Nat, s0 = pn + q := ⟨_, rfl⟩
 have hNN4 : NN ≤ 10000 := by rw [hNN]; exact small_mul hm100 hn100
 have hsN : s0 < NN := by rw [hs0, hpn, hNN]; exact pair_lt hp hq
 have HS0 := hide (show s0 = p * u.nx.length + q by rw [hs0, hpn, hU.hn])
 have HNN := hide hNN
 have hNNi : (m : Int) * (n : Int) = (NN : Int) := by rw [hNN]; rfl
 have hpni : (p : Int) * (n : Int) = (pn : Int) := by rw [hpn]; rfl
 have hpn4 : pn ≤ 10000 := by omega
 have hs0i : (pn : Int) + (q : Int) = (s0 : Int) := by rw [hs0]; rfl
 have hsNi : (s0 : Int) < (NN : Int) := by omega
 obtain ⟨i0, hi0, hz0, hz1, hz2⟩ := info_parts Tryz.infoI64
 have hmk := fun (w : World) => make_run (P := Tryz.prog) w 33 3 i0 (.int .i64 0) Tryz.underlying33 hi0 hz0 hz1 rfl (by omega) NN (by omega)
 clear hT hU hpn hNN hs0
 have hTw : TwB w ((w.alloc (.cells #[.slice (some ⟨ab, a0, none⟩) A ac, .slice (some ⟨fb, f0, none⟩) m fc, .slice (some ⟨nb, n0, none⟩) m nc] 36)).alloc (.cells #[.slice (some ⟨bb, b0, none⟩) A bc, .slice (some ⟨gb, g0, none⟩) n gc, .slice (some ⟨hb, h0, none⟩) n hc] 36)) #[.slice (some ⟨ab, a0, none⟩) A ac, .slice (some ⟨fb, f0, none⟩) m fc, .slice (some ⟨nb, n0, none⟩) m nc] #[.slice (some ⟨bb, b0, none⟩) A bc, .slice (some ⟨gb, g0, none⟩) n gc, .slice (some ⟨hb, h0, none⟩) n hc] :=
  ⟨(Below.heap_alloc _ _ _ (by simp)).trans (blk_alloc _ _), blk_alloc' _ _ _ (by simp), ((Below.refl _ _).alloc (Nat.le_refl _) _).alloc (by simp) _⟩
 have c01 := cell_of_blk hTw.b0 1
 have c11 := cell_of_blk hTw.b1 1
 have l0 := lt_of_blk hTw.b0
 have l1 := lt_of_blk hTw.b1
 have HTW := hide hTw
 clear hTw
 go_enter Tryz.func24, Tryz.ntmps24
 go_wp2_with fail
 clear c01 c11 l0 l1 hmk
 have hWs : ((w.alloc (.cells #[.slice (some ⟨ab, a0, none⟩) A ac, .slice (some ⟨fb, f0, none⟩) m fc, .slice (some ⟨nb, n0, none⟩) m nc] 36)).alloc (.cells #[.slice (some ⟨bb, b0, none⟩) A bc, .slice (some ⟨gb, g0, none⟩) n gc, .slice (some ⟨hb, h0, none⟩) n hc] 36)).heap.size = w.heap.size + 2 := by simp
 generalize ((w.alloc (.cells #[.slice (some ⟨ab, a0, none⟩) A ac, .slice (some ⟨fb, f0, none⟩) m fc, .slice (some ⟨nb, n0, none⟩) m nc] 36)).alloc (.cells #[.slice (some ⟨bb, b0, none⟩) A bc, .slice (some ⟨gb, g0, none⟩) n gc, .slice (some ⟨hb, h0, none⟩) n hc] 36)) = W0 at *
 go_loopw [13, 14] (fun tv x wr => ∃ (i : Nat) (l : List Nat) (rows : List (List Nat)) (fr by_ : List Int) (g c : Nat), i ≤ l.length ∧ x = .int .i64 i ∧ tv = .slice (some ⟨g, 0, none⟩) l.length c ∧ Hid (ApS w wr #[.slice (some ⟨ab, a0, none⟩) A ac, .slice (some ⟨fb, f0, none⟩) m fc, .slice (some ⟨nb, n0, none⟩) m nc] #[.slice (some ⟨bb, b0, none⟩) A bc, .slice (some ⟨gb, g0, none⟩) n gc, .slice (some ⟨hb, h0, none⟩) n hc] fr by_ l g c) ∧ Hid (ParOk (stPr t u) A NN s0 l fr by_) ∧ Hid (Bfs (stPr t u) (List.range A) s0 i l rows) ∧ Hid (∀ z ∈ l.take i, accT t (z / n) = accT u (z % n))) (fun _ x _ => NN - (intOf x).toNat)
 case atStart =>
  refine ⟨0, [s0], [], _, _, _, 1, Nat.zero_le _, rfl, rfl, ?_, ParOk.start hsN, Bfs.start _ _ _, fun z hz => by simp at hz⟩
  have := ApS.start (unhide HTW) hWs ((List.replicate NN 0).set s0 (-1)) (List.replicate NN 0) s0
  rw [← intZ_set, intZ_rep] at this
  exact this
 case round =>
  obtain ⟨i, l, rows, fr, by_, g, c, hi, rfl, rfl, HAS, HPO, HBF, HEQ⟩ := hrel
  have hlN : l.length ≤ NN := (unhide HPO).few
  by_cases hil : i < l.length
  ·have hin : (i : Int) < (l.length : Int) := by omega
   obtain ⟨z, hz⟩ : ∃ z, l[i]? = some z := ⟨_, List.getElem?_eq_getElem hil⟩
   have hzN : z < NN := (unhide HPO).lt z (List.mem_of_getElem? hz)
   obtain ⟨x, hx⟩ : ∃ x, x = z / n := ⟨_, rfl⟩
   obtain ⟨y, hy⟩ : ∃ y, y = z % n := ⟨_, rfl⟩
   have hxm : x < m := by rw [hx]; exact Nat.div_lt_of_lt_mul (by rw [Nat.mul_comm, ← unhide HNN]; exact hzN)
   have hyn : y < n := by rw [hy]; exact Nat.mod_lt _ (by omega)
   have hdiv : (z : Int).tdiv (n : Int) = (x : Int) := by rw [hx, Int.tdiv_eq_ediv_of_nonneg (by omega)]; rfl
   have hmod : (z : Int).tmod (n : Int) = (y : Int) := by rw [hy, Int.tmod_eq_emod_of_nonneg (by omega)]; rfl
   have hn0 : ¬ (n : Int) = 0 := by omega
   have hxi : (x : Int) < (m : Int) := by omega
   have hyi : (y : Int) < (n : Int) := by omega
   obtain ⟨htc, htl⟩ := (unhide HAS).todo hz
   have c01 := cell_of_blk (unhide HAS).bx.b0 1
   have c11 := cell_of_blk (unhide HAS).bx.b1 1
   have l0 := lt_of_blk (unhide HAS).bx.b0
   have l1 := lt_of_blk (unhide HAS).bx.b1
   have hft := ((unhide HT).later (unhide HAS).bx.bel).fla x hxm
   have hfu := ((unhide HU).later (unhide HAS).bx.bel).fla y hyn
   have hlt := ((unhide HT).later (unhide HAS).bx.bel).lf
   have hlu := ((unhide HU).later (unhide HAS).bx.bel).lf
   have HZ := hide hz
   have HX := hide hx
   have HY := hide hy
   clear hz hx hy
   by_cases hacc : accT t x = accT u y
   ·have heq : (flT t x : Int).tmod 2 = (flT u y : Int).tmod 2 := by rw [acc_mod, acc_mod, hacc]
    have HACC := hide hacc
    clear hacc
    go_wp2_with fail
    go_quiet (fail)
    go_wp2_with fail
    clear htc htl c01 c11 l0 l1 hft hfu hlt hlu heq hdiv hmod
    rename World => wR
    go_loopw [13, 17] (fun tv x' wr => ∃ (a : Nat) (M qr : List Nat) (fr by_ : List Int) (g c : Nat), a ≤ A ∧ x' = .int .i64 a ∧ tv = .slice (some ⟨g, 0, none⟩) M.length c ∧ Hid (ApS w wr #[.slice (some ⟨ab, a0, none⟩) A ac, .slice (some ⟨fb, f0, none⟩) m fc, .slice (some ⟨nb, n0, none⟩) m nc] #[.slice (some ⟨bb, b0, none⟩) A bc, .slice (some ⟨gb, g0, none⟩) n gc, .slice (some ⟨hb, h0, none⟩) n hc] fr by_ M g c) ∧ Hid (ParOk (stPr t u) A NN s0 M fr by_) ∧ Hid (rowN (stPr t u) z (List.range a) l = (M, qr))) (fun _ x _ => A - (intOf x).toNat)
    case atStart => exact ⟨0, l, [], fr, by_, g, c, Nat.zero_le _, rfl, rfl, (unhide HAS).later (bdn _ _), HPO, rfl⟩
    case round =>
     obtain ⟨a, M, qr, fr2, by2, g2, c2, ha, rfl, rfl, HAS2, HPO2, HRN⟩ := hrel
     have hspec := rowN_spec (stPr t u) z (List.range a) l
     rw [unhide HRN] at hspec
     obtain ⟨⟨xs, hMx, _⟩, _, _, _⟩ := hspec
     have hMx' : M = l ++ xs := hMx
     have hMz : M[i]? = some z := by rw [hMx', List.getElem?_append_left hil]; exact unhide HZ
     have hML : M.length ≤ NN := (unhide HPO2).few
     have hiM : i < M.length := (List.getElem?_eq_some_iff.1 hMz).1
     have hiMi : (i : Int) < (M.length : Int) := by omega
     have HMZ := hide hMz
     have HMX := hide hMx'
     clear hMx hMx' hMz
     have c00 := cell_of_blk (unhide HAS2).bx.b0 0
     have l0 := lt_of_blk (unhide HAS2).bx.b0
     have l1 := lt_of_blk (unhide HAS2).bx.b1
     by_cases haA : a < A
     ·have hai : (a : Int) < (A : Int) := by omega
      have c02 := cell_of_blk (unhide HAS2).bx.b0 2
      have c12 := cell_of_blk (unhide HAS2).bx.b1 2
      have k1m := (unhide HT).lt hxm haA
      have k2n := (unhide HU).lt hyn haA
      have hTr := ((unhide HT).later (unhide HAS2).bx.bel).row x hxm
      have hUr := ((unhide HU).later (unhide HAS2).bx.bel).row y hyn
      have hTn := ((unhide HT).later (unhide HAS2).bx.bel).nxt x a hxm haA
      have hUn := ((unhide HU).later (unhide HAS2).bx.bel).nxt y a hyn haA
      have hTl := ((unhide HT).later (unhide HAS2).bx.bel).ln
      have hUl := ((unhide HU).later (unhide HAS2).bx.bel).ln
      have hTq := ((unhide HT).later (unhide HAS2).bx.bel).lr x hxm
      have hUq := ((unhide HU).later (unhide HAS2).bx.bel).lr y hyn
      obtain ⟨kn, hkn⟩ : ∃ kn, kn = nxT t x a * n := ⟨_, rfl⟩
      obtain ⟨z', hz'⟩ : ∃ z', z' = kn + nxT u y a := ⟨_, rfl⟩
      have hzst : stPr t u z a = z' := by
       unfold stPr
       rw [hz', hkn, (unhide HU).hn, ← unhide HX, ← unhide HY]
       rfl
      have hzN' : z' < NN := by rw [hz', hkn, unhide HNN]; exact pair_lt k1m k2n
      have hkni : (nxT t x a : Int) * (n : Int) = (kn : Int) := by rw [hkn]; rfl
      have hkn4 : kn ≤ 10000 := by omega
      have hzi : (kn : Int) + (nxT u y a : Int) = (z' : Int) := by rw [hz']; rfl
      have hzNi : (z' : Int) < (NN : Int) := by omega
      have HZST := hide hzst
      clear hkn hz' hzst
      generalize nxT t x a = k1 at *
      generalize nxT u y a = k2 at *
      obtain ⟨f, hf⟩ : ∃ f, fr2[z']? = some f := ⟨_, List.getElem?_eq_getElem (by rw [(unhide HPO2).n1]; exact hzN')⟩
      have hfc : wr.cell? ⟨w.heap.size + 2, z', none⟩ = some (.int .i64 f) := by rw [cell_of_blk (unhide HAS2).fr, intZ_at hf]
      have hfl := lt_of_blk (unhide HAS2).fr
      have hfz := (unhide HPO2).zero hzN' hf
      have HSUC : Hid ((rowN (stPr t u) z (List.range (a + 1)) l).1 = (numb M z').1) := by
       show _ = _
       rw [List.range_succ, rowN_append, unhide HRN, unhide HZST]
      by_cases hf0 : f = 0
      ·have hnm := hfz.1 hf0
       rw [hf0] at hfc
       have HPO3 : Hid (ParOk (stPr t u) A NN s0 (M ++ [z']) (fr2.set z' ((z : Int) + 1)) (by2.set z' (a : Int))) := by
        have := (unhide HPO2).more (unhide HMZ) haA (by rw [unhide HZST]; exact hzN') (by rw [unhide HZST]; exact hnm)
        rw [unhide HZST] at this
        exact this
       have HNO := hide (numb_out hnm)
       obtain ⟨htc, htl⟩ := (unhide HAS2).todo (unhide HMZ)
       have hffr := frozen_of_blk (unhide HAS2).fr z'
       obtain ⟨f2, hf2⟩ : ∃ f2, by2[z']? = some f2 := ⟨_, List.getElem?_eq_getElem (by rw [(unhide HPO2).n2]; exact hzN')⟩
       have hgc : wr.cell? ⟨w.heap.size + 3, z', none⟩ = some (.int .i64 f2) := by rw [cell_of_blk (unhide HAS2).by_, intZ_at hf2]
       have hgl := lt_of_blk (unhide HAS2).by_
       have hgfr := frozen_of_blk (unhide HAS2).by_ z'
       have hws := (unhide HAS2).bx.bel.size
       clear hfz hf hf2 hnm
       go_wp2_with fail
       go_quiet (fail)
       go_wp2_with (at_builtin; go_must (refine wpList_append_lies _ rfl _ _ 33 rfl (w.heap.size + 4) 3 i0 (.int .i64 0) 1 8 Tryz.underlying33 hi0 hz0 hz1 hz2 rfl (by decide) _ M.length (intC M) rfl ?c0 _ 1 1 [.int .i64 (z' : Int)] rfl rfl ?c1 ?c2 (by decide) ?c3 ?c4 ?c5 _ rfl ?_))
       case c0 => exact ((((unhide HAS2).later (bdn _ _)).setF z' _).setB z' _).td.alloc _
       case c1 =>
        intro j u hj
        match j, hj with
        | 0, hj => simp at hj; subst hj; exact cell_of_blk (blk_alloc' _ _ _ (by simp)) 0
        | j + 1, hj => simp at hj
       case c2 => intro u hu; simp at hu; subst hu; rfl
       case c3 => unfold maxLen; omega
       case c4 => omega
       case c5 => simp; omega
       intro g8 c8 w8 ho8 hg8 _ _
       have HAS3 := hide (ApS.app (((((unhide HAS2).later (bdn _ _)).setF z' ((z : Int) + 1)).setB z' (a : Int)).later ((Below.refl _ _).alloc (Nat.le_refl _) _)) hg8 ho8)
       have hl8 : (M ++ [z']).length = M.length + 1 := by simp
       have HRN3 : Hid (rowN (stPr t u) z (List.range (a + 1)) l = (M ++ [z'], (rowN (stPr t u) z (List.range (a + 1)) l).2)) := Prod.ext ((unhide HSUC).trans (unhide HNO)) rfl
       clear ho8 hg8 htc htl hffr hgc hgl hgfr hfc hfl c00 c02 c12 l0 l1 hTr hUr hTn hUn hTl hUl hTq hUq
       go_wp2_with fail
       go_roundw
       case rel => exact ⟨a + 1, M ++ [z'], _, _, _, g8, c8, by omega, by go_num, by rw [hl8], HAS3, HPO3, HRN3⟩
       case measure => simp [intOf]; omega
      ·have hnm : z' ∈ M := Classical.byContradiction fun h => hf0 (hfz.2 h)
       have HRN3 : Hid (rowN (stPr t u) z (List.range (a + 1)) l = (M, (rowN (stPr t u) z (List.range (a + 1)) l).2)) := Prod.ext ((unhide HSUC).trans (numb_in hnm)) rfl
       clear hfz hf hnm
       go_wp2_with fail
       go_quiet (fail)
       go_wp2_with fail
       go_roundw
       case rel => exact ⟨a + 1, M, _, fr2, by2, g2, c2, by omega, by go_num, rfl, (unhide HAS2).later (bdn _ _), HPO2, HRN3⟩
       case measure => simp [intOf]; omega
     ·have hai : ¬ (a : Int) < (A : Int) := by omega
      obtain rfl : a = A := by omega
      have HBF3 : Hid (Bfs (stPr t u) (List.range a) s0 (i + 1) M (rows ++ [qr])) := by
       have := (unhide HBF).step (unhide HZ)
       rw [unhide HRN] at this
       exact this
      have HEQ3 : Hid (∀ z ∈ M.take (i + 1), accT t (z / n) = accT u (z % n)) := by
       intro z2 hz2
       rw [unhide HMX, List.take_append_of_le_length (by omega), List.take_add_one, unhide HZ] at hz2
       rcases List.mem_append.1 hz2 with h | h
       ·exact unhide HEQ z2 h
       ·have h' : z2 = z := by simpa using h
        rw [h', ← unhide HX, ← unhide HY]
        exact unhide HACC
      go_wp2_with fail
      go_roundw
      case rel => exact ⟨i + 1, M, _, fr2, by2, g2, c2, by omega, by go_num, rfl, HAS2, HPO2, HBF3, HEQ3⟩
      case measure => simp [intOf]; omega
   ·have hne : ¬ (flT t x : Int).tmod 2 = (flT u y : Int).tmod 2 := fun e => hacc (by
     rw [acc_mod, acc_mod] at e
     cases h1 : accT t x <;> cases h2 : accT u y <;> simp_all)
    have HACC := hide hacc
    have hne2 : ¬ (flT t x : Int) % 2 = (flT u y : Int) % 2 := fun e => hne (by rw [Int.tmod_eq_emod_of_nonneg (by omega), Int.tmod_eq_emod_of_nonneg (by omega)]; exact e)
    clear hacc
    go_wp2_with fail
    go_quiet (fail)
    go_wp2_with fail
    refine (kback_any _ (stPr t u) A NN s0 l fr by_ (unhide HPO) hNN4 (w.heap.size + 2) (w.heap.size + 3) NN NN ((unhide HAS).later (bdn _ _)).frI ((unhide HAS).later (bdn _ _)).byI i z (unhide HZ)).mono ?_
    rintro e w2 ⟨v, val, rfl, hls, hvl, hva, hvf, hb2⟩
    have HB2 := hide (((unhide HAS).later (bdn _ _)).bx.bel.trans (hb2.mono ((unhide HAS).later (bdn _ _)).bx.bel.size))
    have HLS := hide (hls.mono ((unhide HAS).later (bdn _ _)).bx.bel.size)
    have HV := hide (And.intro hva hvf)
    clear hls hva hvf hb2 htc htl c01 c11 l0 l1 hft hfu hlt hlu hne hne2 hdiv hmod
    go_wp2_with fail
    refine bodyPost_ret (v := .tuple #[val, .bool true]) (by simp [results, Tryz.results24, go_sem]) rfl ?_
    refine ⟨Or.inl ⟨v, val, rfl, unhide HLS, (unhide HV).1, by omega, ?_⟩, unhide HB2⟩
    obtain ⟨e1, e2⟩ := pr_acc (unhide HT).rt (unhide HU).rt (unhide HT).hA (unhide HU).hA (unhide HU).hn (by rw [(unhide HT).hn]; exact hp) hq (unhide HS0) (unhide HV).1 (unhide HV).2
    rw [e1, e2, ← unhide HX, ← unhide HY]
    exact unhide HACC
  ·have hin : ¬ (i : Int) < (l.length : Int) := by omega
   obtain rfl : i = l.length := by omega
   go_wp2_with fail
   refine bodyPost_ret (v := .tuple #[.slice none 0 0, .bool false]) (by simp [results, Tryz.results24, go_sem]) rfl ?_
   refine ⟨Or.inr ⟨rfl, fun v hv => ?_⟩, (unhide HAS).bx.bel⟩
   have hmem := bfs_all (unhide HBF) v s0 hv (List.mem_of_getElem? (unhide HBF).first)
   obtain ⟨e1, e2⟩ := pr_acc (unhide HT).rt (unhide HU).rt (unhide HT).hA (unhide HU).hA (unhide HU).hn (by rw [(unhide HT).hn]; exact hp) hq (unhide HS0) hv rfl
   rw [e1, e2]
   exact unhide HEQ _ (by rw [List.take_length]; exact hmem)
theorem metRow_le : ∀ {r : List Nat} {m m' : Nat}, metRow m r = some m' → m ≤ m'
 | [], m, m', h => by cases h; exact Nat.le_refl _
 | k :: r, m, m', h => by
  rw [metRow] at h
  split at h
  ·cases h
  ·have := metRow_le h
   split at this <;> omega
theorem metAll_le {n : Nat} : ∀ {rs : List (List Nat)} {i m : Nat}, metAll n i m rs → m ≤ n
 | [], i, m, h => Nat.le_of_eq h
 | r :: rs, i, m, h => by
  obtain ⟨_, m', h1, h2⟩ := h
  exact Nat.le_trans (metRow_le h1) (metAll_le h2)
theorem metRow_step {m k m' : Nat} {r : List Nat} (h : metRow m (k :: r) = some m') : k ≤ m ∧ metRow (if k = m then m + 1 else m) r = some m' := by
 rw [metRow] at h
 split at h
 ·cases h
 ·exact ⟨by omega, h⟩
theorem row_drop {t : Tb} (h : RightT t) {i a : Nat} (hi : i < t.nx.length) (ha : a < t.acts.length) : (t.nx[i]?.getD []).drop a = nxT t i a :: (t.nx[i]?.getD []).drop (a + 1) := by
 obtain ⟨r, k, h1, h2, _⟩ := h.step hi ha
 have hl := (List.getElem?_eq_some_iff.1 h2).1
 unfold nxT
 rw [h1]
 simp only [Option.getD_some]
 rw [h2, List.drop_eq_getElem_cons hl]
 congr 1
 rw [List.getElem?_eq_getElem hl] at h2
 exact Option.some.inj h2
set_option maxHeartbeats 8000000 in
set_option maxRecDepth 100000 in
theorem least_any (w : World) (t : Tb) (A n ab a0 fb f0 nb n0 ac fc nc : Nat) (rb ro rc : Nat → Nat) (hL : TbL w t A n ab a0 fb f0 nb n0 rb ro rc) (hM : metAll n 0 1 t.nx)
  (hD : ∀ i j, i < n → j < n → i ≠ j → ∃ v : List Nat, (∀ a ∈ v, a < A) ∧ accT t (runT t i v) ≠ accT t (runT t j v)) :
  Calls Tryz.prog 21 #[.agg #[.slice (some ⟨ab, a0, none⟩) A ac, .slice (some ⟨fb, f0, none⟩) n fc, .slice (some ⟨nb, n0, none⟩) n nc]] w fun e w' => e = .returned (.bool true) ∧ Below w.heap.size w w' := by
 have hA1 := hL.A1
 have hA6 := hL.A6
 have hn1 := hL.n1
 have hn100 := hL.n100
 have HL := hide hL
 have HM := hide hM
 have HD := hide hD
 have H0 := hide (OnB.start w #[.slice (some ⟨ab, a0, none⟩) A ac, .slice (some ⟨fb, f0, none⟩) n fc, .slice (some ⟨nb, n0, none⟩) n nc])
 clear hL hM hD
 go_enter Tryz.func21, Tryz.ntmps21
 go_wp2_with fail
 generalize w.alloc (.cells #[.slice (some ⟨ab, a0, none⟩) A ac, .slice (some ⟨fb, f0, none⟩) n fc, .slice (some ⟨nb, n0, none⟩) n nc] 36) = W0 at *
 go_loopw [3, 4] (fun mv x wr => ∃ i m : Nat, i ≤ n ∧ x = .int .i64 i ∧ mv = .int .i64 m ∧ Hid (OnB w wr #[.slice (some ⟨ab, a0, none⟩) A ac, .slice (some ⟨fb, f0, none⟩) n fc, .slice (some ⟨nb, n0, none⟩) n nc]) ∧ Hid (metAll n i m (t.nx.drop i))) (fun _ x _ => n - (intOf x).toNat)
 case atStart => exact ⟨0, 1, Nat.zero_le _, rfl, rfl, H0, HM⟩
 case round =>
  obtain ⟨i, m, hi, rfl, rfl, H1, HMA⟩ := hrel
  have c01 := cell_of_blk (unhide H1).b0 1
  have l0 := lt_of_blk (unhide H1).b0
  by_cases hil : i < n
  ·have hin : (i : Int) < (n : Int) := by omega
   have hir : i < t.nx.length := by rw [(unhide HL).hn]; exact hil
   have hma := unhide HMA
   rw [List.drop_eq_getElem_cons hir] at hma
   obtain ⟨him, m', hmr, hmn⟩ := hma
   have hm'n := metAll_le hmn
   have hmr2 : metRow m ((t.nx[i]?.getD []).drop 0) = some m' := by rw [List.getElem?_eq_getElem hir]; exact hmr
   have HMR := hide hmr2
   have HMN := hide hmn
   have him' : ¬ (m : Int) ≤ (i : Int) := by omega
   clear hmr hmr2 hmn
   go_wp2_with fail
   clear c01 l0
   rename World => wR
   go_loopw [3, 5] (fun mv x wr => ∃ a c : Nat, a ≤ A ∧ x = .int .i64 a ∧ mv = .int .i64 c ∧ Hid (OnB w wr #[.slice (some ⟨ab, a0, none⟩) A ac, .slice (some ⟨fb, f0, none⟩) n fc, .slice (some ⟨nb, n0, none⟩) n nc]) ∧ Hid (metRow c ((t.nx[i]?.getD []).drop a) = some m')) (fun _ x _ => A - (intOf x).toNat)
   case atStart => exact ⟨0, m, Nat.zero_le _, rfl, rfl, H1, HMR⟩
   case round =>
    obtain ⟨a, c, ha, rfl, rfl, H2, HMC⟩ := hrel
    have c00 := cell_of_blk (unhide H2).b0 0
    have l0 := lt_of_blk (unhide H2).b0
    have hcm := metRow_le (unhide HMC)
    by_cases hal : a < A
    ·have han : (a : Int) < (A : Int) := by omega
     have c02 := cell_of_blk (unhide H2).b0 2
     have hrow := ((unhide HL).later (unhide H2).bel).row i hil
     have hnx := ((unhide HL).later (unhide H2).bel).nxt i a hil hal
     have hln := ((unhide HL).later (unhide H2).bel).ln
     have hlr := ((unhide HL).later (unhide H2).bel).lr i hil
     have hst := unhide HMC
     rw [row_drop (unhide HL).rt hir (by rw [(unhide HL).hA]; exact hal)] at hst
     obtain ⟨hkc, hst2⟩ := metRow_step hst
     clear hst
     have hkc' : ¬ (c : Int) < (nxT t i a : Int) := by omega
     by_cases hk : nxT t i a = c
     ·rw [if_pos hk] at hst2
      have HST := hide hst2
      have hki : (nxT t i a : Int) = (c : Int) := by omega
      clear hst2 hk
      go_wp2_with fail
      go_roundw
      case rel => exact ⟨a + 1, c + 1, by omega, by go_num, by go_num, H2, HST⟩
      case measure => simp [intOf]; omega
     ·rw [if_neg hk] at hst2
      have HST := hide hst2
      have hki : ¬ (nxT t i a : Int) = (c : Int) := by omega
      clear hst2 hk
      go_wp2_with fail
      go_roundw
      case rel => exact ⟨a + 1, c, by omega, by go_num, rfl, H2, HST⟩
      case measure => simp [intOf]; omega
    ·have han : ¬ (a : Int) < (A : Int) := by omega
     have hcm' : c = m' := by
      have := unhide HMC
      rw [List.drop_of_length_le (by
       rw [List.getElem?_eq_getElem hir]
       have := ((unhide HL).rt.rs _ (List.getElem_mem hir)).1
       have := (unhide HL).hA
       rw [Option.getD_some]
       omega)] at this
      exact Option.some.inj this
     subst hcm'
     go_wp2_with fail
     clear c00 l0
     rename World => wS
     go_loopw [7] (fun x wr => ∃ k : Nat, k ≤ i ∧ x = .int .i64 k ∧ Hid (OnB w wr #[.slice (some ⟨ab, a0, none⟩) A ac, .slice (some ⟨fb, f0, none⟩) n fc, .slice (some ⟨nb, n0, none⟩) n nc])) (fun x _ => i - (intOf x).toNat)
     case atStart => exact ⟨0, Nat.zero_le _, rfl, H2⟩
     case round =>
      obtain ⟨k, hk, rfl, H3⟩ := hrel
      have b0 := cell_of_blk (unhide H3).b0 0
      have b1 := cell_of_blk (unhide H3).b0 1
      have b2 := cell_of_blk (unhide H3).b0 2
      have l0 := lt_of_blk (unhide H3).b0
      by_cases hki : k < i
      ·have hkn : (k : Int) < (i : Int) := by omega
       have HAP := hide (apart_any wr t t A n n ab a0 fb f0 nb n0 ac fc nc ab a0 fb f0 nb n0 ac fc nc rb ro rc rb ro rc ((unhide HL).later (unhide H3).bel) ((unhide HL).later (unhide H3).bel) i k hil (by omega))
       go_wp2_with fail
       refine (unhide HAP).mono ?_
       rintro e w4 ⟨hap, hb4⟩
       have H4 := hide ((unhide H3).later hb4)
       have hap2 : ∃ val, e = .returned (.tuple #[val, .bool true]) := by
        rcases hap with ⟨v, val, h1, _⟩ | ⟨_, h2⟩
        ·exact ⟨val, h1⟩
        ·obtain ⟨v, hv, hne⟩ := unhide HD i k hil (by omega) (by omega)
         exact absurd (h2 v hv) hne
       obtain ⟨val, rfl⟩ := hap2
       clear hap hb4 HAP b0 b1 b2 l0
       go_wp2_with fail
       go_roundw
       case rel => exact ⟨k + 1, by omega, by go_num, H4⟩
       case measure => simp [intOf]; omega
      ·have hkn : ¬ (k : Int) < (i : Int) := by omega
       go_wp2_with fail
       go_roundw
       case rel => exact ⟨i + 1, c, by omega, by go_num, rfl, H3, HMN⟩
       case measure => simp [intOf]; omega
  ·have hin : ¬ (i : Int) < (n : Int) := by omega
   have hmn : m = n := by
    have := unhide HMA
    rw [List.drop_of_length_le (by rw [(unhide HL).hn]; omega)] at this
    exact this
   subst hmn
   go_wp2_with fail
   go_ret
   exact ⟨rfl, (unhide H1).bel⟩
def pickZ (c : Int) (n : Nat) : Nat := if c < 0 then ((-(c + 1)).tmod (n : Int)).toNat else (c.tmod (n : Int)).toNat
theorem pickZ_lt (c : Int) {n : Nat} (hn : 0 < n) : pickZ c n < n := by
 unfold pickZ
 split
 ·have h1 := Int.tmod_nonneg (n : Int) (show 0 ≤ -(c + 1) by omega)
  have h2 := Int.tmod_lt_of_pos (-(c + 1)) (show (0 : Int) < (n : Int) by omega)
  omega
 ·have h1 := Int.tmod_nonneg (n : Int) (show 0 ≤ c by omega)
  have h2 := Int.tmod_lt_of_pos c (show (0 : Int) < (n : Int) by omega)
  omega
set_option maxHeartbeats 1000000 in
theorem kpick_eq (w : World) (c : Int) (n : Nat) (h0 : -9223372036854775808 ≤ c) (h1 : c ≤ 9223372036854775807) (hn : 0 < n) (hn2 : n ≤ 1000000) :
  Calls Tryz.prog 28 #[.int .i64 c, .int .i64 (n : Int)] w fun e w' => e = .returned (.int .i64 (pickZ c n : Int)) ∧ w' = w := by
 have hni : ¬ (n : Int) = 0 := by omega
 by_cases hc : c < 0
 ·have HP : Hid (Ending.returned (.int .i64 (-((c + 1).tmod (n : Int)))) = Ending.returned (.int .i64 (pickZ c n : Int))) := by
   show _ = _
   have := Int.tmod_nonneg (n : Int) (show 0 ≤ -(c + 1) by omega)
   unfold pickZ
   rw [if_pos hc, Int.toNat_of_nonneg this, Int.neg_tmod]
  go_enter Tryz.func28, Tryz.ntmps28
  go_wp2_with fail
  go_ret
  exact ⟨unhide HP, rfl⟩
 ·have HP : Hid (Ending.returned (.int .i64 (c % (n : Int))) = Ending.returned (.int .i64 (pickZ c n : Int))) := by
   show _ = _
   have := Int.tmod_nonneg (n : Int) (show 0 ≤ c by omega)
   unfold pickZ
   rw [if_neg hc, Int.toNat_of_nonneg this, Int.tmod_eq_emod_of_nonneg (by omega)]
  go_enter Tryz.func28, Tryz.ntmps28
  go_wp2_with fail
  go_ret
  exact ⟨unhide HP, rfl⟩
def nmT (t : Tb) (a : Nat) : ByteArray := (t.acts[a]?).getD ⟨#[]⟩
theorem own_base {w : World} {base e n : Nat} {v : Value} {xs : List Value} (h : w.ownsRow base e 1 v n xs) {b : Nat} (hb : v.ownBlock = some b) : base ≤ b := by
 obtain ⟨_, ⟨h1, _⟩ | ⟨g', cap, cur, hv, hbg, _⟩⟩ := h
 ·rw [h1] at hb; cases hb
 ·rw [hv] at hb; cases hb; exact hbg
theorem OnB.grown {w W W' : World} {T : Array Value} (h : OnB w W T) {row : Option Nat} (hg : W.grownBy W' row) (hr : ∀ b, row = some b → w.heap.size + 1 ≤ b) : OnB w W' T :=
 ⟨(hg.block _ (lt_of_blk h.b0) (fun e => by have := hr _ e.symm; omega)).trans h.b0, h.bel.grown hg h.bel.size (fun b hb => by have := hr b hb; omega)⟩
theorem owns_txs {w : World} {base n c : Nat} {o : Option Addr} {l : List ByteArray} (h : w.ownsRow base 9 1 (.slice o n c) n (strsC l)) (hl : l.length = n) : TxS w o l := fun j x hx => by
 have hj := (List.getElem?_eq_some_iff.1 hx).1
 obtain ⟨g, rfl, h4, h5⟩ := owns1_at h (i := j) (by omega)
 refine ⟨g, 0, rfl, h4, ?_⟩
 rw [Nat.zero_add, h5]
 unfold strsC
 rw [List.getElem?_map, hx]
 rfl
theorem owns_ins {w : World} {base n c : Nat} {o : Option Addr} {l : List Nat} (h : w.ownsRow base 3 1 (.slice o n c) n (intC l)) (hl : l.length = n) : InS w o (zI l) := fun j x hx => by
 unfold zI at hx
 rw [List.getElem?_map] at hx
 cases e : l[j]? with
 | none => rw [e] at hx; cases hx
 | some y =>
  rw [e] at hx
  cases hx
  have hj := (List.getElem?_eq_some_iff.1 e).1
  obtain ⟨g, rfl, h4, h5⟩ := owns1_at h (i := j) (by omega)
  refine ⟨g, 0, rfl, h4, ?_⟩
  rw [Nat.zero_add, h5]
  unfold intC
  rw [List.getElem?_map, e]
  rfl
def EvP (t : Tb) (A R : Nat) (w w' : World) (e : Ending) : Prop := ∃ (v : List Nat) (lo ko : Option Addr) (lc kc : Nat), e = .returned (.tuple #[.slice lo R lc, .slice ko R kc]) ∧ v.length = R ∧ (∀ a ∈ v, a < A) ∧ TxS w' lo (v.map (nmT t)) ∧ InS w' ko (zI v) ∧ Below w.heap.size w w'
set_option maxHeartbeats 4000000 in
set_option maxRecDepth 100000 in
theorem events_any (w : World) (t : Tb) (A n ab a0 fb f0 nb n0 ac fc nc : Nat) (rb ro rc : Nat → Nat) (hL : TbL w t A n ab a0 fb f0 nb n0 rb ro rc) (rw_ : Option Addr) (wc R : Nat) (raw : List Int) (hRl : raw.length = R) (hI : InS w rw_ raw) (hr : ∀ x ∈ raw, -9223372036854775808 ≤ x ∧ x ≤ 9223372036854775807) (hmax : R ≤ 2000000) :
  Calls Tryz.prog 19 #[.agg #[.slice (some ⟨ab, a0, none⟩) A ac, .slice (some ⟨fb, f0, none⟩) n fc, .slice (some ⟨nb, n0, none⟩) n nc], .slice rw_ R wc] w fun e w' => EvP t A R w w' e := by
 have hA1 := hL.A1
 have hA6 := hL.A6
 have HL := hide hL
 have HI := hide hI
 have HRL := hide hRl
 have HRR := hide hr
 obtain ⟨i0, hi0, hz0, hz1, hz2⟩ := info_parts Tryz.infoStr
 obtain ⟨j0, hj0, hy0, hy1, hy2⟩ := info_parts Tryz.infoI64
 have H0 := hide (OnB.start w #[.slice (some ⟨ab, a0, none⟩) A ac, .slice (some ⟨fb, f0, none⟩) n fc, .slice (some ⟨nb, n0, none⟩) n nc])
 clear hL hI hRl hr
 obtain ⟨pk, hpk⟩ : ∃ pk : List Nat, pk = raw.map (fun x => pickZ x A) := ⟨_, rfl⟩
 have HPL : Hid (pk.length = R) := by show _ = _; rw [hpk, List.length_map]; exact unhide HRL
 have HPA : Hid (∀ a ∈ pk, a < A) := fun a ha => by
  rw [hpk] at ha
  obtain ⟨x, _, rfl⟩ := List.mem_map.1 ha
  exact pickZ_lt x (by omega)
 have HPK := hide hpk
 clear hpk
 go_enter Tryz.func19, Tryz.ntmps19
 go_wp2_with fail
 generalize w.alloc (.cells #[.slice (some ⟨ab, a0, none⟩) A ac, .slice (some ⟨fb, f0, none⟩) n fc, .slice (some ⟨nb, n0, none⟩) n nc] 36) = W0 at *
 go_loopw [6, 7, 8] (fun tv kv x wr => ∃ (i : Nat) (lo : Option Addr) (lc : Nat) (ko : Option Addr) (kc : Nat), i ≤ R ∧ x = .int .i64 i ∧ tv = .slice lo i lc ∧ kv = .slice ko i kc ∧ Hid (OnB w wr #[.slice (some ⟨ab, a0, none⟩) A ac, .slice (some ⟨fb, f0, none⟩) n fc, .slice (some ⟨nb, n0, none⟩) n nc]) ∧ Hid (wr.ownsRow (w.heap.size + 1) 9 1 (.slice lo i lc) i (strsC ((pk.take i).map (nmT t)))) ∧ Hid (wr.ownsRow (w.heap.size + 1) 3 1 (.slice ko i kc) i (intC (pk.take i)))) (fun _ _ x _ => R - (intOf x).toNat)
 case atStart => exact ⟨0, none, 0, none, 0, Nat.zero_le _, rfl, rfl, rfl, H0, ⟨rfl, Or.inl ⟨rfl, rfl⟩⟩, ⟨rfl, Or.inl ⟨rfl, rfl⟩⟩⟩
 case round =>
  obtain ⟨i, lo, lc, ko, kc, hi, rfl, rfl, rfl, H1, HOL, HOK⟩ := hrel
  have c00 := cell_of_blk (unhide H1).b0 0
  have l0 := lt_of_blk (unhide H1).b0
  by_cases hil : i < R
  ·have hin : (i : Int) < (R : Int) := by omega
   have hir : i < raw.length := by rw [unhide HRL]; exact hil
   obtain ⟨b, off, rfl, hbl, hbc⟩ := (unhide HI).later (unhide H1).bel i raw[i] (List.getElem?_eq_getElem hir)
   have hrr := unhide HRR raw[i] (List.getElem_mem hir)
   have hpi : pk[i]? = some (pickZ raw[i] A) := by rw [unhide HPK, List.getElem?_map, List.getElem?_eq_getElem hir]; rfl
   have haA : pickZ raw[i] A < A := pickZ_lt _ (by omega)
   have HKE := hide (fun W => kpick_eq W raw[i] A hrr.1 hrr.2 (by omega) (by omega))
   generalize raw[i] = x at *
   have haA' : pickZ x A < t.acts.length := by rw [(unhide HL).hA]; exact haA
   have hac := ((unhide HL).later (unhide H1).bel).act (pickZ x A) t.acts[pickZ x A] (List.getElem?_eq_getElem haA')
   have hla := ((unhide HL).later (unhide H1).bel).la
   have hnm : nmT t (pickZ x A) = t.acts[pickZ x A] := by unfold nmT; rw [List.getElem?_eq_getElem haA']; rfl
   rw [← hnm] at hac
   have hnxt : pk.take (i + 1) = pk.take i ++ [pickZ x A] := by rw [List.take_add_one, hpi]; rfl
   have HNX := hide hnxt
   have hai : (pickZ x A : Int) < (A : Int) := by omega
   clear hnm hpi hrr hnxt
   generalize pickZ x A = a at *
   obtain ⟨s, hs⟩ : ∃ s, s = nmT t a := ⟨_, rfl⟩
   rw [← hs] at hac
   have HSN := hide hs
   clear hs
   go_wp2_with fail
   go_quiet (first | (go_at_call 28; exact Calls.quiet_of_same (unhide HKE _)))
   go_wp2_with (at_builtin; go_must (refine wpList_append_lies _ rfl _ _ 25 rfl (w.heap.size + 1) 9 i0 (.string ⟨#[]⟩) 1 16 Tryz.underlying25 hi0 hz0 hz1 hz2 rfl (by decide) _ i (strsC ((pk.take i).map (nmT t))) rfl ?c0 _ 1 1 [.string s] rfl rfl ?c1 ?c2 (by decide) ?c3 ?c4 ?c5 _ rfl ?_))
   case c0 => exact (owns_later (unhide HOL) (bdn _ _)).alloc _
   case c1 =>
    intro j u hj
    match j, hj with
    | 0, hj => simp at hj; subst hj; exact cell_of_blk (blk_alloc' _ _ _ (by simp)) 0
    | j + 1, hj => simp at hj
   case c2 => intro u hu; simp at hu; subst hu; rfl
   case c3 => unfold maxLen; omega
   case c4 => omega
   case c5 => have := (unhide H1).bel.size; simp; omega
   intro g8 c8 w8 ho8 hg8 _ _
   have hba8 : Below wr.heap.size wr ((wr.drewN nq).alloc (.cells #[.string s] 9)) := (bdn wr nq).trans (((Below.refl _ _).alloc (Nat.le_refl _) _).mono (bdn wr nq).size)
   have H8 := hide (((unhide H1).later hba8).grown hg8 (fun b hb => own_base (unhide HOL) hb))
   have HOK8 := hide (owns_other (owns_later (unhide HOK) hba8) hg8 (fun b hb e => by
    obtain ⟨c, hc⟩ := own_at (owns_later (unhide HOL) hba8) hb
    exact own_ty (owns_later (unhide HOK) hba8) e hc (by decide)))
   have HO8 := hide ho8
   clear ho8 hg8 hba8 HOL HOK hac hla hbc hbl c00 l0
   go_wp2_with (at_builtin; go_must (refine wpList_append_lies _ rfl _ _ 33 rfl (w.heap.size + 1) 3 j0 (.int .i64 0) 1 8 Tryz.underlying33 hj0 hy0 hy1 hy2 rfl (by decide) _ i (intC (pk.take i)) rfl ?d0 _ 1 1 [.int .i64 (a : Int)] rfl rfl ?d1 ?d2 (by decide) ?d3 ?d4 ?d5 _ rfl ?_))
   case d0 => exact (unhide HOK8).alloc _
   case d1 =>
    intro j u hj
    match j, hj with
    | 0, hj => simp at hj; subst hj; exact cell_of_blk (blk_alloc' _ _ _ (by simp)) 0
    | j + 1, hj => simp at hj
   case d2 => intro u hu; simp at hu; subst hu; rfl
   case d3 => unfold maxLen; omega
   case d4 => omega
   case d5 => have := (unhide H8).bel.size; have := lt_of_blk (unhide H8).b0; simp; omega
   intro g9 c9 w9 ho9 hg9 _ _
   have hba9 : Below w8.heap.size w8 (w8.alloc (.cells #[.int .i64 (a : Int)] 3)) := (Below.refl _ _).alloc (Nat.le_refl _) _
   have H9 := hide (((unhide H8).later hba9).grown hg9 (fun b hb => own_base (unhide HOK8) hb))
   have HOL9 := hide (owns_other (owns_later (unhide HO8) hba9) hg9 (fun b hb e => by
    obtain ⟨c, hc⟩ := own_at (owns_later (unhide HOK8) hba9) hb
    exact own_ty (owns_later (unhide HO8) hba9) e hc (by decide)))
   have HOL10 : Hid (w9.ownsRow (w.heap.size + 1) 9 1 (.slice (some ⟨g8, 0, none⟩) (i + 1) c8) (i + 1) (strsC ((pk.take (i + 1)).map (nmT t)))) := by
    have e : strsC ((pk.take (i + 1)).map (nmT t)) = strsC ((pk.take i).map (nmT t)) ++ [.string s] := by
     rw [unhide HNX, List.map_append]
     unfold strsC
     rw [List.map_append, unhide HSN]
     rfl
    show World.ownsRow _ _ _ _ _ _ _
    rw [e, List.map_take]
    exact unhide HOL9
   have HOK10 : Hid (w9.ownsRow (w.heap.size + 1) 3 1 (.slice (some ⟨g9, 0, none⟩) (i + 1) c9) (i + 1) (intC (pk.take (i + 1)))) := by
    show World.ownsRow _ _ _ _ _ _ _
    rw [unhide HNX, intC_app]
    exact ho9
   clear ho9 hg9 hba9 HOL9 H8 HO8 HOK8
   go_wp2_with fail
   go_roundw
   case rel => exact ⟨i + 1, some ⟨g8, 0, none⟩, c8, some ⟨g9, 0, none⟩, c9, by omega, by go_num, rfl, rfl, H9, HOL10, HOK10⟩
   case measure => simp [intOf]; omega
  ·have hin : ¬ (i : Int) < (R : Int) := by omega
   obtain rfl : i = R := by omega
   go_wp2_with fail
   refine bodyPost_ret (v := .tuple #[.slice lo i lc, .slice ko i kc]) (by simp [results, Tryz.results19, go_sem]) rfl ?_
   have hta : pk.take i = pk := List.take_of_length_le (by rw [unhide HPL]; exact Nat.le_refl _)
   have hol := unhide HOL
   have hok := unhide HOK
   rw [hta] at hol hok
   exact ⟨pk, lo, ko, lc, kc, rfl, unhide HPL, unhide HPA, owns_txs hol (by rw [List.length_map]; exact unhide HPL), owns_ins hok (unhide HPL), (unhide H1).bel⟩
end Go.Proofs.YtidakhhekofkoaaGreatDoor
