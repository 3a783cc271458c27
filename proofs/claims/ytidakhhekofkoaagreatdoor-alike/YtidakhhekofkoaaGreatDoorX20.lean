/- The program's parser in memory; next, fail, take, skip. -/
import Derived.Test.YtidakhhekofkoaaGreatDoorX19
import Derived.Test.YtidakhhekofkoaaGreatDoorX14
set_option linter.unusedSimpArgs false
namespace Go.Proofs.YtidakhhekofkoaaGreatDoor
open Go.RowKit Go.Deep
theorem grownBy_drew {w w' : World} {row : Option Nat} (h : w.grownBy w' row) : w.grownBy w'.drew row := ⟨h.os, h.tape, h.output, h.size, h.block⟩
structure PP (w : World) (pb g cap B : Nat) (L : List Tk) (i : Nat) (bad : Bool) (q : Nat) (NM : List Tk) : Prop where
 blk : ∃ no nn nc, w.heap[pb]? = some (.cells #[.slice (some ⟨g, i * 3, none⟩) (L.length - i) (cap - i), .bool bad, .int .i64 q, .slice no nn nc] 194 (0, 0)) ∧ w.ownsRow B 201 3 (.slice no nn nc) NM.length (tkCellsP NM)
 row : ∃ cur, w.heap[g]? = some (.cells cur 201 (0, 0)) ∧ cur.toList.take (L.length * 3) = tkCellsP L
 le : L.length ≤ cap
 capLe : cap ≤ maxLen
 len : L.length ≤ 401
 lt : i < L.length
 fe : FE L
 ok : ∀ t ∈ L, TkIn 400 t
 gB : g < B
 pB : pb < B
 hB : B ≤ w.heap.size
 nm : bad = false → NM.length ≤ i
theorem tkCellsP_at (L : List Tk) (i : Nat) (t : Tk) (r : List Tk) (h : L.drop i = t :: r) :
  (tkCellsP L)[i * 3]? = some (.int .i64 t.k) ∧ (tkCellsP L)[i * 3 + 1]? = some (.string t.s) ∧ (tkCellsP L)[i * 3 + 2]? = some (.int .i64 t.p) := by
 induction L generalizing i with
 | nil => simp at h
 | cons u L ih =>
  cases i with
  | zero => simp at h; obtain ⟨rfl, rfl⟩ := h; simp [tkCellsP]
  | succ i =>
   have := ih i (by simpa using h)
   have e : tkCellsP (u :: L) = [.int .i64 u.k, .string u.s, .int .i64 u.p] ++ tkCellsP L := by simp [tkCellsP]
   rw [e]
   refine ⟨?_, ?_, ?_⟩
   ·rw [List.getElem?_append_right (by simp; omega)]; simpa [Nat.add_mul] using this.1
   ·rw [List.getElem?_append_right (by simp; omega)]
    have e2 : (i + 1) * 3 + 1 - 3 = i * 3 + 1 := by omega
    simpa [e2] using this.2.1
   ·rw [List.getElem?_append_right (by simp; omega)]
    have e2 : (i + 1) * 3 + 2 - 3 = i * 3 + 2 := by omega
    simpa [e2] using this.2.2
theorem row_tok {w : World} {g : Nat} {L : List Tk} (h : ∃ cur, w.heap[g]? = some (.cells cur 201 (0, 0)) ∧ cur.toList.take (L.length * 3) = tkCellsP L) {j : Nat} {t : Tk} {r : List Tk} (ht : L.drop j = t :: r) :
  w.cell? ⟨g, j * 3, none⟩ = some (.int .i64 t.k) ∧ w.cell? ⟨g, j * 3 + 1, none⟩ = some (.string t.s) ∧ w.cell? ⟨g, j * 3 + 2, none⟩ = some (.int .i64 t.p) := by
 obtain ⟨cur, h1, h2⟩ := h
 have h3 := tkCellsP_at L j t r ht
 have hj : j < L.length := by
  rcases Nat.lt_or_ge j L.length with h | h
  ·exact h
  ·rw [List.drop_eq_nil_of_le h] at ht; cases ht
 rw [← h2, List.getElem?_take, List.getElem?_take, List.getElem?_take, if_pos (by omega), if_pos (by omega), if_pos (by omega)] at h3
 refine ⟨?_, ?_, ?_⟩ <;> rw [cell_of_blk h1, ← Array.getElem?_toList]
 ·exact h3.1
 ·exact h3.2.1
 ·exact h3.2.2
theorem PP.tok {w : World} {pb g cap B : Nat} {L : List Tk} {i : Nat} {bad : Bool} {q : Nat} {NM : List Tk} (h : PP w pb g cap B L i bad q NM) {t : Tk} {r : List Tk} (ht : PL L i = t :: r) :
  w.cell? ⟨g, i * 3, none⟩ = some (.int .i64 t.k) ∧ w.cell? ⟨g, i * 3 + 1, none⟩ = some (.string t.s) ∧ w.cell? ⟨g, i * 3 + 2, none⟩ = some (.int .i64 t.p) := by
 obtain ⟨r', hr⟩ := PL_head ht
 exact row_tok h.row hr
theorem PP.gLt {w : World} {pb g cap B : Nat} {L : List Tk} {i : Nat} {bad : Bool} {q : Nat} {NM : List Tk} (h : PP w pb g cap B L i bad q NM) : g < w.heap.size := by
 obtain ⟨cur, h1, _⟩ := h.row; exact lt_of_blk h1
theorem PP.pLt {w : World} {pb g cap B : Nat} {L : List Tk} {i : Nat} {bad : Bool} {q : Nat} {NM : List Tk} (h : PP w pb g cap B L i bad q NM) : pb < w.heap.size := by
 obtain ⟨_, _, _, h1, _⟩ := h.blk; exact lt_of_blk h1
theorem PP.ne {w : World} {pb g cap B : Nat} {L : List Tk} {i : Nat} {bad : Bool} {q : Nat} {NM : List Tk} (h : PP w pb g cap B L i bad q NM) : g ≠ pb := by
 rintro rfl
 obtain ⟨cur, h1, _⟩ := h.row
 obtain ⟨_, _, _, h2, _⟩ := h.blk
 rw [h1] at h2
 simp at h2
theorem PP.later {w w' : World} {pb g cap B : Nat} {L : List Tk} {i : Nat} {bad : Bool} {q : Nat} {NM : List Tk} (h : PP w pb g cap B L i bad q NM) (hb : Below w.heap.size w w') : PP w' pb g cap B L i bad q NM := by
 obtain ⟨no, nn, nc, h1, h2⟩ := h.blk
 obtain ⟨cur, h3, h4⟩ := h.row
 exact ⟨⟨no, nn, nc, (hb.block _ (lt_of_blk h1)).trans h1, owns_later h2 hb⟩, ⟨cur, (hb.block _ (lt_of_blk h3)).trans h3, h4⟩, h.le, h.capLe, h.len, h.lt, h.fe, h.ok, h.gB, h.pB, by have := hb.size; have := h.hB; omega, h.nm⟩
theorem PP.alloc {w : World} {pb g cap B : Nat} {L : List Tk} {i : Nat} {bad : Bool} {q : Nat} {NM : List Tk} (h : PP w pb g cap B L i bad q NM) (o : Obj) : PP (w.alloc o) pb g cap B L i bad q NM :=
 h.later ((Below.refl _ _).alloc (Nat.le_refl _) _)
def pbl (g cap n i : Nat) (bad : Bool) (q : Nat) (no : Option Addr) (nn nc : Nat) : Obj :=
 .cells #[.slice (some ⟨g, i * 3, none⟩) (n - i) (cap - i), .bool bad, .int .i64 q, .slice no nn nc] 194 (0, 0)
structure Mv (w w' : World) (pb g cap n i : Nat) (bad : Bool) (q j : Nat) (bad' : Bool) (q' : Nat) : Prop where
 gr : w.grownBy w' (some pb)
 onto : ∀ no nn nc, w.heap[pb]? = some (pbl g cap n i bad q no nn nc) → w'.heap[pb]? = some (pbl g cap n j bad' q' no nn nc)
theorem Mv.trans {w w1 w2 : World} {pb g cap n i q j q1 k q2 : Nat} {b b1 b2 : Bool} (h : Mv w w1 pb g cap n i b q j b1 q1) (h' : Mv w1 w2 pb g cap n j b1 q1 k b2 q2) : Mv w w2 pb g cap n i b q k b2 q2 :=
 ⟨h.gr.trans h'.gr, fun no nn nc e => h'.onto no nn nc (h.onto no nn nc e)⟩
theorem Mv.refl (w : World) (pb g cap n i : Nat) (b : Bool) (q : Nat) : Mv w w pb g cap n i b q i b q := ⟨World.grownBy.refl _ _, fun _ _ _ e => e⟩
theorem Mv.alloc {w w1 : World} {pb g cap n i q j q1 : Nat} {b b1 : Bool} (h : Mv w w1 pb g cap n i b q j b1 q1) (o : Obj) : Mv w (w1.alloc o) pb g cap n i b q j b1 q1 :=
 ⟨grown_alloc h.gr o, fun no nn nc e => by have := h.onto no nn nc e; exact (Below.heap_alloc _ _ _ (lt_of_blk this)).trans this⟩
theorem Mv.setNew {w w1 : World} {pb g cap n i q j q1 : Nat} {b b1 : Bool} (h : Mv w w1 pb g cap n i b q j b1 q1) {c : Nat} (hc : w.heap.size ≤ c) (hp : pb < w.heap.size) (o : Nat) (v : Value) : Mv w (w1.setCell ⟨c, o, none⟩ v) pb g cap n i b q j b1 q1 :=
 ⟨grown_setNew h.gr hc o v, fun no nn nc e => (Below.heap_setCell _ _ _ _ (by show pb ≠ c; omega)).trans (h.onto no nn nc e)⟩
theorem Mv.setNew3 {w w1 : World} {pb g cap n i q j q1 : Nat} {b b1 : Bool} (h : Mv w w1 pb g cap n i b q j b1 q1) {c : Nat} (hc : w.heap.size ≤ c) (hp : pb < w.heap.size) (v0 v1 v2 : Value) : Mv w (((w1.setCell ⟨c, 0, none⟩ v0).setCell ⟨c, 1, none⟩ v1).setCell ⟨c, 2, none⟩ v2) pb g cap n i b q j b1 q1 :=
 ((h.setNew hc hp 0 v0).setNew hc hp 1 v1).setNew hc hp 2 v2
theorem PP.move {w w' : World} {pb g cap B : Nat} {L : List Tk} {i : Nat} {bad : Bool} {q : Nat} {NM : List Tk} (h : PP w pb g cap B L i bad q NM) {j q' : Nat} {bad' : Bool} (hm : Mv w w' pb g cap L.length i bad q j bad' q')
  (hj : j < L.length) (hn : bad' = false → NM.length ≤ j) : PP w' pb g cap B L j bad' q' NM := by
 obtain ⟨no, nn, nc, h1, h2⟩ := h.blk
 obtain ⟨cur, h3, h4⟩ := h.row
 have hne : (Value.slice no nn nc).ownBlock ≠ some pb := by
  intro e
  have := own_lt h2 pb e
  have := h.pB
  omega
 exact ⟨⟨no, nn, nc, hm.onto _ _ _ h1, owns_keep h2 hm.gr (Or.inr hne)⟩, ⟨cur, (hm.gr.block _ (lt_of_blk h3) (by have := h.ne; intro e; cases e; exact this rfl)).trans h3, h4⟩, h.le, h.capLe, h.len, hj, h.fe, h.ok, h.gB, h.pB, by have := hm.gr.size; have := h.hB; omega, hn⟩
def fq (bad : Bool) (q p : Nat) : Nat := if bad = true then q else p
set_option maxHeartbeats 400000 in
theorem pnext_any (w : World) (pb g cap B : Nat) (L : List Tk) (i : Nat) (bad : Bool) (q : Nat) (NM : List Tk) (t : Tk) (r : List Tk) (h : PP w pb g cap B L i bad q NM) (ht : PL L i = t :: r) :
  Calls Tryz.prog 155 #[.pointer (some ⟨pb, 0, none⟩)] w fun e w' => e = .returned (.int .i64 t.k) ∧ w' = w := by
 obtain ⟨no, nn, nc, h1, _⟩ := h.blk
 obtain ⟨t0, t1, t2⟩ := h.tok ht
 have hlt := h.lt
 have hp := h.pLt
 have hg := h.gLt
 have bc := fun o => cell_of_blk h1 o
 clear h h1 ht
 go_enter Tryz.func155, Tryz.ntmps155
 go_wp2_with fail
 go_ret
 exact ⟨rfl, rfl⟩
set_option maxHeartbeats 1000000 in
theorem pfail_any (w : World) (pb g cap B : Nat) (L : List Tk) (i : Nat) (bad : Bool) (q : Nat) (NM : List Tk) (t : Tk) (r : List Tk) (h : PP w pb g cap B L i bad q NM) (ht : PL L i = t :: r) :
  Calls Tryz.prog 191 #[.pointer (some ⟨pb, 0, none⟩)] w fun e w' => e = .returned (.tuple #[]) ∧ Mv w w' pb g cap L.length i bad q (L.length - 1) true (fq bad q t.p) := by
 obtain ⟨no, nn, nc, h1, _⟩ := h.blk
 obtain ⟨t0, t1, t2⟩ := h.tok ht
 have hlt := h.lt
 have hlen := h.len
 have hcap := h.le
 have hmax := h.capLe
 unfold maxLen at hmax
 have hp := h.pLt
 have hg := h.gLt
 have bc := fun o => cell_of_blk h1 o
 have bf := fun o => frozen_of_blk h1 o
 have HP := hide h
 have HT := hide ht
 have H1 := hide h1
 clear h h1 ht
 go_enter Tryz.func191, Tryz.ntmps191
 have e1 : i * 3 + (L.length - i - 1) * 3 = (L.length - 1) * 3 := by omega
 have e2 : L.length - i - (L.length - i - 1) = L.length - (L.length - 1) := by omega
 have e3 : cap - i - (L.length - i - 1) = cap - (L.length - 1) := by omega
 have E1 := hide e1
 have E2 := hide e2
 have E3 := hide e3
 clear e1 e2 e3
 cases bad
 ·go_wp2_with fail
  go_region
  rw [unhide E1, unhide E2, unhide E3]
  go_end0
  have hg := grownBy_drew ((grown_set w pb 1 (.bool true)).trans ((grown_set _ pb 2 (.int .i64 t.p)).trans (grown_set _ pb 0 (.slice (some ⟨g, (L.length - 1) * 3, none⟩) (L.length - (L.length - 1)) (cap - (L.length - 1))))))
  exact ⟨rfl, hg, fun no nn nc h => blk_set (blk_set (blk_set h 1 _) 2 _) 0 _⟩
 ·go_wp2_with fail
  go_region
  rw [unhide E1, unhide E2, unhide E3]
  go_end0
  have hg := grownBy_drew (grown_set w pb 0 (.slice (some ⟨g, (L.length - 1) * 3, none⟩) (L.length - (L.length - 1)) (cap - (L.length - 1))))
  exact ⟨rfl, hg, fun no nn nc h => blk_set h 0 _⟩
set_option maxHeartbeats 1000000 in
theorem ptake_no (k : Nat) (w : World) (pb g cap B : Nat) (L : List Tk) (i : Nat) (bad : Bool) (q : Nat) (NM : List Tk) (t : Tk) (r : List Tk) (h : PP w pb g cap B L i bad q NM) (ht : PL L i = t :: r) (hk : t.k ≠ k) :
  Calls Tryz.prog 153 #[.pointer (some ⟨pb, 0, none⟩), .int .i64 (k : Int)] w fun e w' => e = .returned (tkP t) ∧ Mv w w' pb g cap L.length i bad q (L.length - 1) true (fq bad q t.p) := by
 obtain ⟨no, nn, nc, h1, _⟩ := h.blk
 obtain ⟨t0, t1, t2⟩ := h.tok ht
 have hlt := h.lt
 have hp := h.pLt
 have hg := h.gLt
 have bc := fun o => cell_of_blk h1 o
 have hkb : ((t.k : Int) != (k : Int)) = true := by simp; omega
 have HP := hide h
 have HT := hide ht
 clear h h1 ht hk
 go_enter Tryz.func153, Tryz.ntmps153
 go_wp2_with fail
 refine (pfail_any _ pb g cap B L i bad q NM t r (((unhide HP).alloc _).alloc _) (unhide HT)).mono ?_
 rintro e w1 ⟨rfl, hm1⟩
 have hg1 := hm1.gr
 have hrb : w1.heap[w.heap.size]? = some (.cells #[.int .i64 0, .string ⟨#[]⟩, .int .i64 0] 201 (0, 0)) := (hg1.block _ (by simp; omega) (by simp; omega)).trans ((Below.heap_alloc _ _ _ (by simp)).trans (blk_alloc _ _))
 have hbx : w1.heap[w.heap.size + 1]? = some (.cells #[.int .i64 t.k, .string t.s, .int .i64 t.p] 201 (0, 0)) := (hg1.block _ (by simp) (by simp; omega)).trans (blk_alloc' _ _ _ (by simp))
 have HM := hide ((((Mv.refl w pb g cap L.length i bad q).alloc _).alloc _).trans hm1)
 have rc := fun o => cell_of_blk hrb o
 have rf := fun o => frozen_of_blk hrb o
 have xc := fun o => cell_of_blk hbx o
 have hz : w.heap.size + 1 < w1.heap.size := lt_of_blk hbx
 have HRB := hide hrb
 clear hg1 hm1 hrb hbx bc t0 t1 t2
 go_wp2_with fail
 clear rc
 have hfin : (((w1.setCell ⟨w.heap.size, 0, none⟩ (.int .i64 t.k)).setCell ⟨w.heap.size, 1, none⟩ (.string t.s)).setCell ⟨w.heap.size, 2, none⟩ (.int .i64 t.p)).heap[w.heap.size]? = some (.cells #[.int .i64 t.k, .string t.s, .int .i64 t.p] 201 (0, 0)) := blk_set (blk_set (blk_set (unhide HRB) 0 _) 1 _) 2 _
 have rc := fun o => cell_of_blk hfin o
 refine bodyPost_ret (v := tkP t) (by simp [results, Tryz.results153, go_sem, rc, tkP]) rfl ⟨rfl, (unhide HM).setNew3 (Nat.le_refl _) hp _ _ _⟩
set_option maxHeartbeats 1000000 in
theorem ptake_yes (k : Nat) (w : World) (pb g cap B : Nat) (L : List Tk) (i : Nat) (bad : Bool) (q : Nat) (NM : List Tk) (t : Tk) (r : List Tk) (h : PP w pb g cap B L i bad q NM) (ht : PL L i = t :: r) (hk : t.k = k) (hk2 : 2 ≤ k) :
  Calls Tryz.prog 153 #[.pointer (some ⟨pb, 0, none⟩), .int .i64 (k : Int)] w fun e w' => e = .returned (tkP t) ∧ Mv w w' pb g cap L.length i bad q (i + 1) bad q := by
 obtain ⟨no, nn, nc, h1, _⟩ := h.blk
 obtain ⟨t0, t1, t2⟩ := h.tok ht
 have hlt := h.lt
 have hlen := h.len
 have hnx := h.fe.nextLt ht (by omega)
 have hle := h.le
 have hmax := h.capLe
 unfold maxLen at hmax
 have hp := h.pLt
 have hg := h.gLt
 have bc := fun o => cell_of_blk h1 o
 have bf := fun o => frozen_of_blk h1 o
 have hkb : ((t.k : Int) != (k : Int)) = false := by simp; omega
 have hkz : ((k : Int) != 0) = true := by simp; omega
 have hc1 : ¬ cap - i = 1 := by omega
 have e1 : i * 3 + 3 = (i + 1) * 3 := by omega
 have e2 : L.length - i - 1 = L.length - (i + 1) := by omega
 have e3 : cap - i - 1 = cap - (i + 1) := by omega
 have E1 := hide e1
 have E2 := hide e2
 have E3 := hide e3
 clear h h1 ht hk e1 e2 e3 hk2
 go_enter Tryz.func153, Tryz.ntmps153
 go_wp2_with fail
 rw [unhide E1, unhide E2, unhide E3]
 refine bodyPost_ret (v := tkP t) (by simp [results, Tryz.results153, go_sem, tkP]) rfl ⟨rfl, ?_⟩
 have hm : Mv w (w.setCell ⟨pb, 0, none⟩ (.slice (some ⟨g, (i + 1) * 3, none⟩) (L.length - (i + 1)) (cap - (i + 1)))) pb g cap L.length i bad q (i + 1) bad q := ⟨grown_set _ _ _ _, fun no nn nc h => blk_set h 0 _⟩
 exact (hm.alloc _).alloc _
set_option maxHeartbeats 1000000 in
theorem ptake_end (w : World) (pb g cap B : Nat) (L : List Tk) (i : Nat) (bad : Bool) (q : Nat) (NM : List Tk) (t : Tk) (r : List Tk) (h : PP w pb g cap B L i bad q NM) (ht : PL L i = t :: r) (hk : t.k = 0) :
  Calls Tryz.prog 153 #[.pointer (some ⟨pb, 0, none⟩), .int .i64 0] w fun e w' => e = .returned (tkP t) ∧ Mv w w' pb g cap L.length i bad q i bad q := by
 obtain ⟨no, nn, nc, h1, _⟩ := h.blk
 obtain ⟨t0, t1, t2⟩ := h.tok ht
 have hlt := h.lt
 have hp := h.pLt
 have hg := h.gLt
 have bc := fun o => cell_of_blk h1 o
 have hkb : ((t.k : Int) != 0) = false := by simp; omega
 clear h h1 ht hk
 go_enter Tryz.func153, Tryz.ntmps153
 go_wp2_with fail
 refine bodyPost_ret (v := tkP t) (by simp [results, Tryz.results153, go_sem, tkP]) rfl ⟨rfl, ?_⟩
 exact ((Mv.refl _ _ _ _ _ _ _ _).alloc _).alloc _
set_option maxHeartbeats 1000000 in
theorem pskip_no (k : Nat) (w : World) (pb g cap B : Nat) (L : List Tk) (i : Nat) (bad : Bool) (q : Nat) (NM : List Tk) (t : Tk) (r : List Tk) (h : PP w pb g cap B L i bad q NM) (ht : PL L i = t :: r) (hk : t.k ≠ k) :
  Calls Tryz.prog 154 #[.pointer (some ⟨pb, 0, none⟩), .int .i64 (k : Int)] w fun e w' => e = .returned (.bool false) ∧ w' = w := by
 have hkb : ((t.k : Int) != (k : Int)) = true := by simp; omega
 have HP := hide h
 have HT := hide ht
 clear h ht hk
 go_enter Tryz.func154, Tryz.ntmps154
 go_wp2_with fail
 refine (pnext_any _ pb g cap B L i bad q NM t r (unhide HP) (unhide HT)).mono ?_
 rintro e w1 ⟨rfl, rfl⟩
 go_wp2_with fail
 go_ret
 exact ⟨rfl, rfl⟩
set_option maxHeartbeats 1000000 in
theorem pskip_yes (k : Nat) (w : World) (pb g cap B : Nat) (L : List Tk) (i : Nat) (bad : Bool) (q : Nat) (NM : List Tk) (t : Tk) (r : List Tk) (h : PP w pb g cap B L i bad q NM) (ht : PL L i = t :: r) (hk : t.k = k) (hk2 : 2 ≤ k) :
  Calls Tryz.prog 154 #[.pointer (some ⟨pb, 0, none⟩), .int .i64 (k : Int)] w fun e w' => e = .returned (.bool true) ∧ Mv w w' pb g cap L.length i bad q (i + 1) bad q := by
 have hkb : ((t.k : Int) != (k : Int)) = false := by simp; omega
 have HP := hide h
 have HT := hide ht
 have HK := hide hk
 clear h ht hk
 go_enter Tryz.func154, Tryz.ntmps154
 go_wp2_with fail
 refine (pnext_any _ pb g cap B L i bad q NM t r (unhide HP) (unhide HT)).mono ?_
 rintro e w1 ⟨rfl, rfl⟩
 go_wp2_with fail
 refine (ptake_yes k _ pb g cap B L i bad q NM t r (unhide HP) (unhide HT) (unhide HK) hk2).mono ?_
 rintro e w2 ⟨rfl, hm⟩
 have HM := hide hm
 clear hm
 go_wp2_with fail
 go_ret
 exact ⟨rfl, unhide HM⟩
end Go.Proofs.YtidakhhekofkoaaGreatDoor
namespace Go.Proofs.YtidakhhekofkoaaGreatDoor
open Go.Deep
def lvs : Fm → List Tk
 | .nil => []
 | .node _ _ a l r => (if a.1 = 0 then [⟨2, a.2.1, a.2.2⟩] else []) ++ (lvs l ++ lvs r)
theorem lvs_one {k : Nat} (hk : k ≠ 0) (f : Fm) : lvs (one k f) = lvs f := by
 show (if k = 0 then _ else []) ++ (lvs f ++ []) = lvs f
 rw [if_neg hk, List.append_nil]; rfl
theorem lvs_two {k : Nat} (hk : k ≠ 0) (f g : Fm) : lvs (two k f g) = lvs f ++ lvs g := by
 show (if k = 0 then _ else []) ++ (lvs f ++ lvs g) = _
 rw [if_neg hk]; rfl
theorem lvs_leaf {k : Nat} (hk : k ≠ 0) (s : ByteArray) (p : Nat) : lvs (leaf k s p) = [] := by
 show (if k = 0 then _ else []) ++ ([] ++ []) = []
 rw [if_neg hk]; rfl
theorem lvs_name (s : ByteArray) (p : Nat) : lvs (leaf 0 s p) = [⟨2, s, p⟩] := rfl
theorem fFm_lvs (al : List Tk) : ∀ f, fFm al f = (lvs f).flatMap (fun t => fName al t.s t.p)
 | .nil => rfl
 | .node _ _ a l r => by
  rw [fFm, lvs, List.flatMap_append, List.flatMap_append, ← fFm_lvs al l, ← fFm_lvs al r]
  congr 1
  split
  ·simp
  ·rfl
theorem sub_tail {α : Type} (l : List α) : l.tail.Sublist l := List.tail_sublist l
theorem sub_join {α : Type} {m m2 l l1 l2 : List α} (h : (m ++ l1).Sublist l) (h2 : (m2 ++ l2).Sublist l1) : ((m ++ m2) ++ l2).Sublist l := by
 rw [List.append_assoc]; exact (List.Sublist.append (List.Sublist.refl m) h2).trans h
theorem sub_weak {α : Type} {m l l1 l2 : List α} (h : (m ++ l1).Sublist l) (h2 : l2.Sublist l1) : (m ++ l2).Sublist l := (List.Sublist.append (List.Sublist.refl m) h2).trans h
theorem pf_lvs : ∀ n lev f l f' l', pf n lev f l = .ok (f', l') → lev ≤ 6 → ∃ ms, lvs f' = (if 5 ≤ lev then lvs f else []) ++ ms ∧ (ms ++ l').Sublist l
 | 0, _, _, _, _, _, h, _ => by simp [pf] at h
 | n + 1, 0, f, l, f', l', h, _ => by
  rw [pf] at h
  split at h
  ·cases h
  ·rename_i a l1 e
   obtain ⟨m1, e1, s1⟩ := pf_lvs n 1 .nil l a l1 e (by omega)
   split at h
   ·split at h
    ·cases h
    ·rename_i b l2 e2
     obtain ⟨m2, g2, s2⟩ := pf_lvs n 0 .nil l1.tail b l2 e2 (by omega)
     cases h
     exact ⟨m1 ++ m2, by rw [lvs_two (by decide), e1, g2]; rfl, sub_join s1 (s2.trans (sub_tail _))⟩
   ·cases h; exact ⟨m1, e1, s1⟩
 | n + 1, 1, f, l, f', l', h, _ => by
  rw [pf] at h
  split at h
  ·cases h
  ·rename_i a l1 e
   obtain ⟨m1, e1, s1⟩ := pf_lvs n 2 .nil l a l1 e (by omega)
   obtain ⟨m2, e2, s2⟩ := pf_lvs n 5 a l1 f' l' h (by omega)
   exact ⟨m1 ++ m2, by rw [e2, if_pos (by decide), e1]; rfl, sub_join s1 s2⟩
 | n + 1, 2, f, l, f', l', h, _ => by
  rw [pf] at h
  split at h
  ·cases h
  ·rename_i a l1 e
   obtain ⟨m1, e1, s1⟩ := pf_lvs n 3 .nil l a l1 e (by omega)
   obtain ⟨m2, e2, s2⟩ := pf_lvs n 6 a l1 f' l' h (by omega)
   exact ⟨m1 ++ m2, by rw [e2, if_pos (by decide), e1]; rfl, sub_join s1 s2⟩
 | n + 1, 3, f, l, f', l', h, _ => by
  rw [pf] at h
  split at h
  ·cases h
  ·rename_i a l1 e
   obtain ⟨m1, e1, s1⟩ := pf_lvs n 4 .nil l a l1 e (by omega)
   split at h
   ·split at h
    ·cases h
    ·rename_i b l2 e2
     obtain ⟨m2, g2, s2⟩ := pf_lvs n 4 .nil l1.tail b l2 e2 (by omega)
     cases h
     exact ⟨m1 ++ m2, by rw [lvs_two (by decide), e1, g2]; rfl, sub_join s1 (s2.trans (sub_tail _))⟩
   ·cases h; exact ⟨m1, e1, s1⟩
 | n + 1, 4, f, l, f', l', h, _ => by
  rw [pf] at h
  split at h
  ·rename_i hop
   split at h
   ·cases h
   ·rename_i a l1 e
    obtain ⟨m1, e1, s1⟩ := pf_lvs n 4 .nil l.tail a l1 e (by omega)
    cases h
    exact ⟨m1, by rw [lvs_one hop, e1]; rfl, s1.trans (sub_tail _)⟩
  ·split at h
   ·split at h
    ·cases h
    ·rename_i a l1 e
     obtain ⟨m1, e1, s1⟩ := pf_lvs n 0 .nil l.tail a l1 e (by omega)
     split at h
     ·cases h; exact ⟨m1, e1, sub_weak (s1.trans (sub_tail _)) (sub_tail _)⟩
     ·cases h
   ·split at h
    ·rename_i hw
     cases h; exact ⟨[], by rw [lvs_leaf (by omega)]; rfl, sub_tail _⟩
    ·split at h
     ·rename_i hk
      cases h
      obtain ⟨t, r, hl, ht⟩ := headK_ne hk (by decide)
      subst hl
      refine ⟨[t], ?_, List.Sublist.refl _⟩
      rw [lvs_name]
      cases t with
      | mk k s p => cases ht; rfl
     ·cases h
 | n + 1, 5, f, l, f', l', h, _ => by
  rw [pf] at h
  split at h
  ·split at h
   ·cases h
   ·rename_i b l1 e
    obtain ⟨m1, e1, s1⟩ := pf_lvs n 2 .nil l.tail b l1 e (by omega)
    obtain ⟨m2, e2, s2⟩ := pf_lvs n 5 _ l1 f' l' h (by omega)
    exact ⟨m1 ++ m2, by rw [e2, if_pos (by decide), lvs_two (by decide), e1, if_neg (by decide)]; simp, (sub_join s1 s2).trans (sub_tail _)⟩
  ·cases h; exact ⟨[], by simp, List.Sublist.refl _⟩
 | n + 1, 6, f, l, f', l', h, _ => by
  rw [pf] at h
  split at h
  ·split at h
   ·cases h
   ·rename_i b l1 e
    obtain ⟨m1, e1, s1⟩ := pf_lvs n 3 .nil l.tail b l1 e (by omega)
    obtain ⟨m2, e2, s2⟩ := pf_lvs n 6 _ l1 f' l' h (by omega)
    exact ⟨m1 ++ m2, by rw [e2, if_pos (by decide), lvs_two (by decide), e1, if_neg (by decide)]; simp, (sub_join s1 s2).trans (sub_tail _)⟩
  ·cases h; exact ⟨[], by simp, List.Sublist.refl _⟩
 | n + 1, k + 7, f, l, f', l', h, hl => by omega
def rlPl (r : Rl) : List Nat := if r.call = true then r.word.p :: (r.args.map Tk.p ++ [r.fin]) else (lvs r.f).map Tk.p
theorem subP {a b : List Tk} (h : a.Sublist b) : (a.map Tk.p).Sublist (b.map Tk.p) := h.map _
theorem head_split' {l : List Tk} {k : Nat} (h : headK l = k) (hk : k ≠ 0) : l.map Tk.p = headP l :: l.tail.map Tk.p := by
 obtain ⟨t, r, rfl, _⟩ := headK_ne h hk; rfl
theorem headT_p (l : List Tk) : (headT l).p = headP l := by cases l <;> rfl
theorem ruleRead_sub {l : List Tk} {r : Rl} {l' : List Tk} (h : ruleRead l = .ok (r, l')) : (rlPl r ++ l'.map Tk.p).Sublist (l.map Tk.p) := by
 unfold ruleRead at h
 split at h
 ·rename_i h1
  obtain ⟨h1, h2⟩ := h1
  split at h
  ·rename_i h3
   split at h
   ·rename_i h4
    split at h
    ·rename_i h5
     split at h
     ·rename_i h6
      cases h
      unfold rlPl
      rw [if_pos rfl, head_split' h1 (by decide), head_split' h2 (by decide), head_split' h3 (by decide), head_split' h4 (by decide)]
      have h7 : l.tail.tail.tail.tail.map Tk.p = headP l.tail.tail.tail.tail :: l.tail.tail.tail.tail.tail.map Tk.p := by
       rcases h5 with h5 | h5 <;> exact head_split' h5 (by decide)
      rw [head_split' h6 (by decide)] at h7
      simp only [List.map_cons, List.map_nil, headT_p, List.cons_append, List.nil_append]
      refine List.Sublist.cons_cons _ (List.Sublist.cons _ (List.Sublist.cons_cons _ (List.Sublist.cons _ ?_)))
      rw [h7]
      exact List.Sublist.refl _
     ·cases h
    ·cases h
   ·split at h
    ·rename_i h4
     cases h
     unfold rlPl
     rw [if_pos rfl, head_split' h1 (by decide), head_split' h2 (by decide), head_split' h3 (by decide), head_split' h4 (by decide)]
     simp only [List.map_cons, List.map_nil, headT_p, List.cons_append, List.nil_append]
     exact List.Sublist.cons_cons _ (List.Sublist.cons _ (List.Sublist.refl _))
    ·cases h
  ·cases h
 ·split at h
  ·cases h
  ·rename_i f l1 e
   cases h
   obtain ⟨ms, e1, s1⟩ := pf_lvs _ _ _ _ _ _ e (by omega)
   have : lvs f = ms := by rw [e1]; rfl
   unfold rlPl
   rw [if_neg (by intro h; cases h), this, ← List.map_append]
   exact subP s1
theorem actsRead_sub : ∀ n l ts l', actsRead n l = .ok (ts, l') → (ts.map Tk.p ++ l'.map Tk.p).Sublist (l.map Tk.p)
 | 0, _, _, _, h => by simp [actsRead] at h
 | n + 1, l, ts, l', h => by
  rw [actsRead] at h
  split at h
  ·rename_i h1
   split at h
   ·rename_i h2
    split at h
    ·cases h
    ·rename_i ts1 l1 e
     cases h
     have := actsRead_sub n _ _ _ e
     rw [head_split' h1 (by decide), List.map_cons, headT_p, List.cons_append]
     exact List.Sublist.cons_cons _ (this.trans (subP (sub_tail _)))
   ·cases h
    rw [head_split' h1 (by decide), List.map_cons, headT_p]
    exact List.Sublist.refl _
  ·cases h
theorem rulesRead_sub : ∀ n l rs, rulesRead n l = .ok rs → (rs.flatMap (fun r => r.pl :: rlPl r)).Sublist (l.map Tk.p)
 | 0, _, _, h => by simp [rulesRead] at h
 | n + 1, l, rs, h => by
  rw [rulesRead] at h
  split at h
  ·cases h; exact List.nil_sublist _
  ·split at h
   ·rename_i h1
    split at h
    ·cases h
    ·rename_i r l1 e
     split at h
     ·split at h
      ·cases h
      ·rename_i rs1 e2
       cases h
       have h3 := ruleRead_sub e
       have h4 := rulesRead_sub n _ _ e2
       rw [head_split' h1 (by decide), List.flatMap_cons, List.cons_append]
       refine List.Sublist.cons_cons _ ((List.Sublist.append (List.Sublist.refl _) (h4.trans (subP (sub_tail _)))).trans ?_)
       exact h3
     ·cases h
   ·cases h
theorem modelRead_sub {l al : List Tk} {rs : List Rl} (h : modelRead l = .ok (al, rs)) : (al.map Tk.p ++ rs.flatMap (fun r => r.pl :: rlPl r)).Sublist (l.map Tk.p) := by
 unfold modelRead at h
 split at h
 ·split at h
  ·cases h
  ·rename_i al1 l1 e
   split at h
   ·split at h
    ·cases h
    ·rename_i rs1 e2
     cases h
     have h1 := actsRead_sub _ _ _ _ e
     have h2 := rulesRead_sub _ _ _ e2
     exact (List.Sublist.append (List.Sublist.refl _) (h2.trans (subP (sub_tail _)))).trans (h1.trans (subP (sub_tail _)))
   ·cases h
 ·cases h
theorem lexR_up (s : ByteArray) : ∀ n i, i ≤ s.size → (∀ t ∈ lexR s n i, i ≤ t.p) ∧ ((lexR s n i).map Tk.p).Pairwise (· < ·)
 | 0, i, _ => ⟨fun _ h => by simp [lexR] at h, List.Pairwise.nil⟩
 | n + 1, i, hi => by
  have h1 := upTo_le isBl s i hi
  have h2 := lexAt_p s _ h1
  have h0 := upTo_ge isBl s i
  by_cases hk : (lexAt s (upTo isBl s i)).k ≤ 1
  ·rw [lexR_stop s n i hk]
   exact ⟨fun t ht => by rw [List.mem_singleton] at ht; subst ht; omega, List.pairwise_singleton _ _⟩
  ·rw [lexR_go s n i hk]
   have ha := lex_adv s i hi hk
   have h4 := lexAt_pos s _ h1 (by omega)
   obtain ⟨i1, i2⟩ := lexR_up s n _ ha.2
   refine ⟨fun t ht => ?_, ?_⟩
   ·rcases List.mem_cons.1 ht with rfl | ht
    ·omega
    ·have := i1 t ht; omega
   ·rw [List.map_cons]
    refine List.Pairwise.cons (fun p hp => ?_) i2
    obtain ⟨t, ht, rfl⟩ := List.mem_map.1 hp
    have := i1 t ht; omega
def Blk (p lo hi : Nat) (l : List (Nat × Nat)) : Prop := (∀ f ∈ l, f.1 = p ∧ lo ≤ f.2 ∧ f.2 ≤ hi) ∧ l.Pairwise (fun f g => f.2 ≤ g.2)
theorem Blk.nil (p lo hi : Nat) : Blk p lo hi [] := ⟨fun _ h => (List.not_mem_nil h).elim, List.Pairwise.nil⟩
theorem Blk.one {p lo hi e : Nat} (h : lo ≤ e) (h' : e ≤ hi) : Blk p lo hi [(p, e)] := ⟨fun f hf => by rw [List.mem_singleton] at hf; subst hf; exact ⟨rfl, h, h'⟩, List.pairwise_singleton _ _⟩
theorem Blk.ite {p lo hi : Nat} {c : Prop} [Decidable c] {l m : List (Nat × Nat)} (h : Blk p lo hi l) (k : Blk p lo hi m) : Blk p lo hi (if c then l else m) := by split <;> assumption
theorem Blk.append {p lo mid mid' hi : Nat} {l m : List (Nat × Nat)} (h : Blk p lo mid l) (k : Blk p mid' hi m) (hm : mid ≤ mid') (hlo : lo ≤ mid') (hhi : mid ≤ hi) : Blk p lo hi (l ++ m) := by
 refine ⟨fun f hf => ?_, List.pairwise_append.2 ⟨h.2, k.2, fun a ha b hb => ?_⟩⟩
 ·rcases List.mem_append.1 hf with hf | hf
  ·have := h.1 f hf; exact ⟨this.1, this.2.1, by omega⟩
  ·have := k.1 f hf; exact ⟨this.1, by omega, this.2.2⟩
 ·have h1 := h.1 a ha; have h2 := k.1 b hb; omega
def Cov : List Nat → List (Nat × Nat) → Prop
 | [], l => l = []
 | p :: ps, l => ∃ a b, l = a ++ b ∧ (∃ lo hi, Blk p lo hi a) ∧ Cov ps b
theorem Cov.append : ∀ {ps qs : List Nat} {l m : List (Nat × Nat)}, Cov ps l → Cov qs m → Cov (ps ++ qs) (l ++ m)
 | [], _, l, m, h, k => by cases h; exact k
 | p :: ps, qs, l, m, ⟨a, b, e, h1, h2⟩, k => ⟨a, b ++ m, by rw [e, List.append_assoc], h1, Cov.append h2 k⟩
theorem Cov.one {p lo hi : Nat} {l : List (Nat × Nat)} (h : Blk p lo hi l) : Cov [p] l := ⟨l, [], by simp, ⟨lo, hi, h⟩, rfl⟩
theorem Cov.cons {p lo hi : Nat} {ps : List Nat} {l m : List (Nat × Nat)} (h : Blk p lo hi l) (k : Cov ps m) : Cov (p :: ps) (l ++ m) := ⟨l, m, rfl, ⟨lo, hi, h⟩, k⟩
def Srt (l : List (Nat × Nat)) : Prop := l.Pairwise (fun f g => f.1 < g.1 ∨ (f.1 = g.1 ∧ f.2 ≤ g.2))
theorem Cov.mem : ∀ {ps : List Nat} {l : List (Nat × Nat)}, Cov ps l → ∀ f ∈ l, f.1 ∈ ps
 | [], _, h, f, hf => by cases h; exact (List.not_mem_nil hf).elim
 | p :: ps, l, ⟨a, b, e, ⟨lo, hi, h1⟩, h2⟩, f, hf => by
  rw [e] at hf
  rcases List.mem_append.1 hf with hf | hf
  ·rw [(h1.1 f hf).1]; exact List.mem_cons_self
  ·exact List.mem_cons_of_mem _ (Cov.mem h2 f hf)
theorem Cov.srt : ∀ {ps : List Nat} {l : List (Nat × Nat)}, Cov ps l → ps.Pairwise (· < ·) → Srt l
 | [], _, h, _ => by cases h; exact List.Pairwise.nil
 | p :: ps, l, ⟨a, b, e, ⟨lo, hi, h1⟩, h2⟩, hp => by
  rw [e]
  obtain ⟨hp1, hp2⟩ := List.pairwise_cons.1 hp
  refine List.pairwise_append.2 ⟨?_, Cov.srt h2 hp2, fun x hx y hy => Or.inl ?_⟩
  ·exact h1.2.imp_of_mem (fun hx hy hxy => Or.inr ⟨by rw [(h1.1 _ hx).1, (h1.1 _ hy).1], hxy⟩)
  ·rw [(h1.1 x hx).1]; exact hp1 _ (Cov.mem h2 y hy)
theorem fName_blk (al : List Tk) (s : ByteArray) (p : Nat) : Blk p 1 3 (fName al s p) :=
 Blk.append (mid := 1) (mid' := 3) (Blk.ite (Blk.one (by omega) (by omega)) (Blk.nil _ _ _)) (Blk.ite (Blk.nil _ _ _) (Blk.one (by omega) (by omega))) (by omega) (by omega) (by omega)
theorem dups_blk (a : Tk) : ∀ l, Blk a.p 3 3 (dups l a)
 | [] => Blk.nil _ _ _
 | _ :: r => Blk.append (mid := 3) (mid' := 3) (Blk.ite (Blk.one (by omega) (by omega)) (Blk.nil _ _ _)) (dups_blk a r) (by omega) (by omega) (by omega)
theorem fAct_blk (pre : List Tk) (i : Nat) (a : Tk) : Blk a.p 1 4 (fAct pre i a) :=
 Blk.append (mid := 1) (mid' := 3) (Blk.ite (Blk.one (by omega) (by omega)) (Blk.nil _ _ _)) (Blk.append (mid := 3) (mid' := 4) (dups_blk a pre) (Blk.ite (Blk.one (by omega) (by omega)) (Blk.nil _ _ _)) (by omega) (by omega) (by omega)) (by omega) (by omega) (by omega)
theorem fActs_cov (al : List Tk) : ∀ i l, Cov (l.map Tk.p) (fActs al i l)
 | _, [] => rfl
 | i, a :: r => Cov.cons (fAct_blk _ i a) (fActs_cov al (i + 1) r)
theorem fArg_blk (al : List Tk) (ks : List UInt8) (t : Tk) : Blk t.p 1 4 (fArg al ks t) :=
 Blk.append (mid := 3) (mid' := 4) (Blk.ite (fName_blk al _ _) (Blk.nil _ _ _)) (Blk.ite (Blk.one (by omega) (by omega)) (Blk.nil _ _ _)) (by omega) (by omega) (by omega)
theorem fArgs_cov (al : List Tk) : ∀ (ks : List UInt8) (l : List Tk), Cov (l.map Tk.p) (fArgs al ks l)
 | _, [] => by rw [fArgs]; exact rfl
 | ks, t :: r => by rw [fArgs]; exact Cov.cons (fArg_blk al ks t) (fArgs_cov al _ r)
theorem names_cov (al : List Tk) : ∀ l : List Tk, Cov (l.map Tk.p) (l.flatMap (fun t => fName al t.s t.p))
 | [] => rfl
 | _ :: r => Cov.cons (fName_blk al _ _) (names_cov al r)
theorem fCall_cov (al : List Tk) (r : Rl) : Cov (r.word.p :: (r.args.map Tk.p ++ [r.fin])) (fCall al r) := by
 unfold fCall
 rw [← List.append_assoc]
 refine Cov.cons (lo := 1) (hi := 3) (Blk.append (mid := 1) (mid' := 3) (Blk.ite (Blk.one (by omega) (by omega)) (Blk.nil _ _ _)) (Blk.ite (Blk.nil _ _ _) (Blk.one (by omega) (by omega))) (by omega) (by omega) (by omega)) ?_
 exact Cov.append (fArgs_cov al _ _) (Cov.one (lo := 4) (hi := 4) (Blk.ite (Blk.one (by omega) (by omega)) (Blk.nil _ _ _)))
def RlF (r : Rl) : Prop := r.call = true → r.f = .nil
theorem fRule_cov (al : List Tk) (i : Nat) (r : Rl) (h : RlF r) : Cov (r.pl :: rlPl r) (fRule al i r) := by
 unfold fRule
 refine Cov.cons (lo := 4) (hi := 4) (Blk.ite (Blk.one (by omega) (by omega)) (Blk.nil _ _ _)) ?_
 unfold rlPl
 by_cases hc : r.call = true
 ·rw [if_pos hc, if_pos hc, h hc]; exact fCall_cov al r
 ·rw [if_neg hc, if_neg hc, List.append_nil, fFm_lvs]; exact names_cov al _
theorem fRules_cov (al : List Tk) : ∀ i (rs : List Rl), (∀ r ∈ rs, RlF r) → Cov (rs.flatMap (fun r => r.pl :: rlPl r)) (fRules al i rs)
 | _, [], _ => rfl
 | i, r :: l, h => by
  rw [List.flatMap_cons, fRules]
  exact Cov.append (fRule_cov al i r (h r List.mem_cons_self)) (fRules_cov al (i + 1) l (fun x hx => h x (List.mem_cons_of_mem _ hx)))
theorem faults_srt {l al : List Tk} {rs : List Rl} (h : modelRead l = .ok (al, rs)) (hu : (l.map Tk.p).Pairwise (· < ·)) (hf : ∀ r ∈ rs, RlF r) : Srt (faults al rs) :=
 Cov.srt (Cov.append (fActs_cov al 0 al) (fRules_cov al 0 rs hf)) (List.Pairwise.sublist (modelRead_sub h) hu)
def tell (x : Nat × Nat) (p e : Nat) : Nat × Nat := if x.2 = 0 ∨ p < x.1 then (p, e) else x
def tells (x : Nat × Nat) (l : List (Nat × Nat)) : Nat × Nat := l.foldl (fun x f => tell x f.1 f.2) x
theorem tells_append (x : Nat × Nat) (l m : List (Nat × Nat)) : tells x (l ++ m) = tells (tells x l) m := List.foldl_append
theorem tells_keep {x : Nat × Nat} (hx : x.2 ≠ 0) : ∀ {l : List (Nat × Nat)}, (∀ f ∈ l, x.1 ≤ f.1) → tells x l = x
 | [], _ => rfl
 | f :: l, h => by
  have h1 := h f List.mem_cons_self
  show tells (tell x f.1 f.2) l = x
  have : tell x f.1 f.2 = x := if_neg (by omega)
  rw [this]
  exact tells_keep hx (fun g hg => h g (List.mem_cons_of_mem _ hg))
theorem meets_keep {x : Nat × Nat} (hx : x.2 ≠ 0) : ∀ {l : List (Nat × Nat)}, (∀ f ∈ l, x.1 < f.1 ∨ (x.1 = f.1 ∧ x.2 ≤ f.2)) → meets x l = x
 | [], _ => rfl
 | f :: l, h => by
  have h1 := h f List.mem_cons_self
  show meets (meet x f.1 f.2) l = x
  have : meet x f.1 f.2 = x := if_neg (by omega)
  rw [this]
  exact meets_keep hx (fun g hg => h g (List.mem_cons_of_mem _ hg))
theorem tells_srt {l : List (Nat × Nat)} (h : Srt l) (he : Errs l) : tells (0, 0) l = (l.head?).getD (0, 0) := by
 cases l with
 | nil => rfl
 | cons f l =>
  show tells (tell (0, 0) f.1 f.2) l = f
  have : tell (0, 0) f.1 f.2 = f := if_pos (Or.inl rfl)
  rw [this]
  exact tells_keep (he f List.mem_cons_self) (fun g hg => by have := (List.pairwise_cons.1 h).1 g hg; omega)
theorem meets_srt {l : List (Nat × Nat)} (h : Srt l) (he : Errs l) : meets (0, 0) l = (l.head?).getD (0, 0) := by
 cases l with
 | nil => rfl
 | cons f l =>
  show meets (meet (0, 0) f.1 f.2) l = f
  have : meet (0, 0) f.1 f.2 = f := if_pos (Or.inl rfl)
  rw [this]
  exact meets_keep (he f List.mem_cons_self) (List.pairwise_cons.1 h).1
def pAct (pre : List Tk) (i : Nat) (a : Tk) : List (Nat × Nat) := fLong a ++ ((if hasN pre a.s = true then [(a.p, 3)] else []) ++ (if 6 ≤ i then [(a.p, 4)] else []))
def pActs (al : List Tk) : Nat → List Tk → List (Nat × Nat)
 | _, [] => []
 | i, a :: r => pAct (al.take i) i a ++ pActs al (i + 1) r
def pCall (al : List Tk) (r : Rl) : List (Nat × Nat) :=
 fLong r.word ++ (if tplNo r.word.s.toList ≤ 11 then fArgs al (tplTakes (tplNo r.word.s.toList)) r.args ++ (if r.args.length < (tplTakes (tplNo r.word.s.toList)).length then [(r.fin, 4)] else []) else [(r.word.p, 3)])
def pRule (al : List Tk) (i : Nat) (r : Rl) : List (Nat × Nat) := (if 4 ≤ i then [(r.pl, 4)] else []) ++ (if r.call = true then pCall al r else (lvs r.f).flatMap (fun t => fName al t.s t.p))
def pRules (al : List Tk) : Nat → List Rl → List (Nat × Nat)
 | _, [] => []
 | i, r :: l => pRule al i r ++ pRules al (i + 1) l
def pFaults (al : List Tk) (rs : List Rl) : List (Nat × Nat) := pActs al 0 al ++ pRules al 0 rs
def Hd (a b : List (Nat × Nat)) : Prop := a.Sublist b ∧ a.head? = b.head?
theorem Hd.refl (a : List (Nat × Nat)) : Hd a a := ⟨List.Sublist.refl _, rfl⟩
theorem Hd.append {a b c d : List (Nat × Nat)} (h : Hd a b) (k : Hd c d) : Hd (a ++ c) (b ++ d) := ⟨h.1.append k.1, by rw [List.head?_append, List.head?_append, h.2, k.2]⟩
theorem dups_hd (a : Tk) : ∀ l, Hd (if hasN l a.s = true then [(a.p, 3)] else []) (dups l a)
 | [] => Hd.refl _
 | t :: r => by
  rw [hasN, dups]
  by_cases h : t.s.toList = a.s.toList
  ·rw [if_pos h, if_pos h, if_pos rfl]
   exact ⟨List.Sublist.cons_cons _ (List.nil_sublist _), rfl⟩
  ·rw [if_neg h, if_neg h]; exact dups_hd a r
theorem pActs_hd (al : List Tk) : ∀ i l, Hd (pActs al i l) (fActs al i l)
 | _, [] => Hd.refl _
 | i, a :: r => Hd.append (Hd.append (Hd.refl _) (Hd.append (dups_hd a _) (Hd.refl _))) (pActs_hd al (i + 1) r)
theorem pCall_hd (al : List Tk) (r : Rl) : Hd (pCall al r) (fCall al r) := by
 unfold pCall fCall
 refine Hd.append (Hd.refl _) ?_
 by_cases h : tplNo r.word.s.toList ≤ 11
 ·rw [if_pos h, if_pos h]; exact Hd.refl _
 ·rw [if_neg h, if_neg h]; exact ⟨List.Sublist.cons_cons _ (List.nil_sublist _), rfl⟩
theorem pRule_hd (al : List Tk) (i : Nat) (r : Rl) (h : RlF r) : Hd (pRule al i r) (fRule al i r) := by
 unfold pRule fRule
 refine Hd.append (Hd.refl _) ?_
 by_cases hc : r.call = true
 ·rw [if_pos hc, if_pos hc, h hc]; exact pCall_hd al r
 ·rw [if_neg hc, if_neg hc, List.append_nil, fFm_lvs]; exact Hd.refl _
theorem pRules_hd (al : List Tk) : ∀ i (rs : List Rl), (∀ r ∈ rs, RlF r) → Hd (pRules al i rs) (fRules al i rs)
 | _, [], _ => Hd.refl _
 | i, r :: l, h => Hd.append (pRule_hd al i r (h r List.mem_cons_self)) (pRules_hd al (i + 1) l (fun x hx => h x (List.mem_cons_of_mem _ hx)))
theorem tells_eq {l al : List Tk} {rs : List Rl} (h : modelRead l = .ok (al, rs)) (hu : (l.map Tk.p).Pairwise (· < ·)) (hf : ∀ r ∈ rs, RlF r) : tells (0, 0) (pFaults al rs) = meets (0, 0) (faults al rs) := by
 have h1 : Hd (pFaults al rs) (faults al rs) := Hd.append (pActs_hd al 0 al) (pRules_hd al 0 rs hf)
 have h2 := faults_srt h hu hf
 have h3 := faults_errs al rs
 rw [tells_srt (List.Pairwise.sublist h1.1 h2) (fun f hf => h3 f (h1.1.subset hf)), meets_srt h2 h3, h1.2]
end Go.Proofs.YtidakhhekofkoaaGreatDoor
