/- The program's parser in memory; next, fail, take, skip. -/
import Derived.Test.YtoclbcffbhldmaaGreatDoorP4
import Derived.Test.YtoclbcffbhldmaaGreatDoorR8
set_option linter.unusedSimpArgs false
namespace Go.Proofs.YtoclbcffbhldmaaGreatDoor
open Go.RowKit Go.Deep

theorem grownBy_drew {w w' : World} {row : Option Nat} (h : w.grownBy w' row) : w.grownBy w'.drew row := ⟨h.os, h.tape, h.output, h.size, h.block⟩
/-- The parser lies at block pb: its tokens L lie at block g; it stands at token i; the names so far are NM, in a block from B on. -/
structure PP (w : World) (pb g cap B : Nat) (L : List Tk) (i : Nat) (bad : Bool) (q : Nat) (NM : List Tk) : Prop where
  blk : ∃ no nn nc, w.heap[pb]? = some (.cells #[.slice (some ⟨g, i * 3, none⟩) (L.length - i) (cap - i), .bool bad, .int .i64 q, .slice no nn nc] 194 (0, 0)) ∧ w.ownsRow B 201 3 (.slice no nn nc) NM.length (tkCellsP NM)
  row : ∃ cur, w.heap[g]? = some (.cells cur 201 (0, 0)) ∧ cur.toList.take (L.length * 3) = tkCellsP L
  le : L.length ≤ cap
  capLe : cap ≤ maxLen
  len : L.length ≤ 401
  lt : i < L.length
  fe : FE L
  ok : ∀ t ∈ L, TkIn 400 t
  gB : g < B
  pB : pb < B
  hB : B ≤ w.heap.size
  nm : bad = false → NM.length ≤ i

theorem tkCellsP_at (L : List Tk) (i : Nat) (t : Tk) (r : List Tk) (h : L.drop i = t :: r) :
    (tkCellsP L)[i * 3]? = some (.int .i64 t.k) ∧ (tkCellsP L)[i * 3 + 1]? = some (.string t.s) ∧ (tkCellsP L)[i * 3 + 2]? = some (.int .i64 t.p) := by
  induction L generalizing i with
  | nil => simp at h
  | cons u L ih =>
    cases i with
    | zero => simp at h; obtain ⟨rfl, rfl⟩ := h; simp [tkCellsP]
    | succ i =>
      have := ih i (by simpa using h)
      have e : tkCellsP (u :: L) = [.int .i64 u.k, .string u.s, .int .i64 u.p] ++ tkCellsP L := by simp [tkCellsP]
      rw [e]
      refine ⟨?_, ?_, ?_⟩
      · rw [List.getElem?_append_right (by simp; omega)]; simpa [Nat.add_mul] using this.1
      · rw [List.getElem?_append_right (by simp; omega)]
        have e2 : (i + 1) * 3 + 1 - 3 = i * 3 + 1 := by omega
        simpa [e2] using this.2.1
      · rw [List.getElem?_append_right (by simp; omega)]
        have e2 : (i + 1) * 3 + 2 - 3 = i * 3 + 2 := by omega
        simpa [e2] using this.2.2
theorem row_tok {w : World} {g : Nat} {L : List Tk} (h : ∃ cur, w.heap[g]? = some (.cells cur 201 (0, 0)) ∧ cur.toList.take (L.length * 3) = tkCellsP L) {j : Nat} {t : Tk} {r : List Tk} (ht : L.drop j = t :: r) :
    w.cell? ⟨g, j * 3, none⟩ = some (.int .i64 t.k) ∧ w.cell? ⟨g, j * 3 + 1, none⟩ = some (.string t.s) ∧ w.cell? ⟨g, j * 3 + 2, none⟩ = some (.int .i64 t.p) := by
  obtain ⟨cur, h1, h2⟩ := h
  have h3 := tkCellsP_at L j t r ht
  have hj : j < L.length := by
    rcases Nat.lt_or_ge j L.length with h | h
    · exact h
    · rw [List.drop_eq_nil_of_le h] at ht; cases ht
  rw [← h2, List.getElem?_take, List.getElem?_take, List.getElem?_take, if_pos (by omega), if_pos (by omega), if_pos (by omega)] at h3
  refine ⟨?_, ?_, ?_⟩ <;> rw [cell_of_blk h1, ← Array.getElem?_toList]
  · exact h3.1
  · exact h3.2.1
  · exact h3.2.2
theorem PP.tok {w : World} {pb g cap B : Nat} {L : List Tk} {i : Nat} {bad : Bool} {q : Nat} {NM : List Tk} (h : PP w pb g cap B L i bad q NM) {t : Tk} {r : List Tk} (ht : PL L i = t :: r) :
    w.cell? ⟨g, i * 3, none⟩ = some (.int .i64 t.k) ∧ w.cell? ⟨g, i * 3 + 1, none⟩ = some (.string t.s) ∧ w.cell? ⟨g, i * 3 + 2, none⟩ = some (.int .i64 t.p) := by
  obtain ⟨r', hr⟩ := PL_head ht
  exact row_tok h.row hr
theorem PP.gLt {w : World} {pb g cap B : Nat} {L : List Tk} {i : Nat} {bad : Bool} {q : Nat} {NM : List Tk} (h : PP w pb g cap B L i bad q NM) : g < w.heap.size := by
  obtain ⟨cur, h1, _⟩ := h.row; exact lt_of_blk h1
theorem PP.pLt {w : World} {pb g cap B : Nat} {L : List Tk} {i : Nat} {bad : Bool} {q : Nat} {NM : List Tk} (h : PP w pb g cap B L i bad q NM) : pb < w.heap.size := by
  obtain ⟨_, _, _, h1, _⟩ := h.blk; exact lt_of_blk h1
theorem PP.ne {w : World} {pb g cap B : Nat} {L : List Tk} {i : Nat} {bad : Bool} {q : Nat} {NM : List Tk} (h : PP w pb g cap B L i bad q NM) : g ≠ pb := by
  rintro rfl
  obtain ⟨cur, h1, _⟩ := h.row
  obtain ⟨_, _, _, h2, _⟩ := h.blk
  rw [h1] at h2
  simp at h2
theorem PP.later {w w' : World} {pb g cap B : Nat} {L : List Tk} {i : Nat} {bad : Bool} {q : Nat} {NM : List Tk} (h : PP w pb g cap B L i bad q NM) (hb : Below w.heap.size w w') : PP w' pb g cap B L i bad q NM := by
  obtain ⟨no, nn, nc, h1, h2⟩ := h.blk
  obtain ⟨cur, h3, h4⟩ := h.row
  exact ⟨⟨no, nn, nc, (hb.block _ (lt_of_blk h1)).trans h1, owns_later h2 hb⟩, ⟨cur, (hb.block _ (lt_of_blk h3)).trans h3, h4⟩, h.le, h.capLe, h.len, h.lt, h.fe, h.ok, h.gB, h.pB, by have := hb.size; have := h.hB; omega, h.nm⟩
theorem PP.alloc {w : World} {pb g cap B : Nat} {L : List Tk} {i : Nat} {bad : Bool} {q : Nat} {NM : List Tk} (h : PP w pb g cap B L i bad q NM) (o : Obj) : PP (w.alloc o) pb g cap B L i bad q NM :=
  h.later ((Below.refl _ _).alloc (Nat.le_refl _) _)
/-- The parser's block. -/
def pbl (g cap n i : Nat) (bad : Bool) (q : Nat) (no : Option Addr) (nn nc : Nat) : Obj :=
  .cells #[.slice (some ⟨g, i * 3, none⟩) (n - i) (cap - i), .bool bad, .int .i64 q, .slice no nn nc] 194 (0, 0)
/-- The parser's block is written, in its first three cells, and nothing else of what was there. -/
structure Mv (w w' : World) (pb g cap n i : Nat) (bad : Bool) (q j : Nat) (bad' : Bool) (q' : Nat) : Prop where
  gr : w.grownBy w' (some pb)
  onto : ∀ no nn nc, w.heap[pb]? = some (pbl g cap n i bad q no nn nc) → w'.heap[pb]? = some (pbl g cap n j bad' q' no nn nc)
theorem Mv.trans {w w1 w2 : World} {pb g cap n i q j q1 k q2 : Nat} {b b1 b2 : Bool} (h : Mv w w1 pb g cap n i b q j b1 q1) (h' : Mv w1 w2 pb g cap n j b1 q1 k b2 q2) : Mv w w2 pb g cap n i b q k b2 q2 :=
  ⟨h.gr.trans h'.gr, fun no nn nc e => h'.onto no nn nc (h.onto no nn nc e)⟩
theorem Mv.refl (w : World) (pb g cap n i : Nat) (b : Bool) (q : Nat) : Mv w w pb g cap n i b q i b q := ⟨World.grownBy.refl _ _, fun _ _ _ e => e⟩
theorem Mv.alloc {w w1 : World} {pb g cap n i q j q1 : Nat} {b b1 : Bool} (h : Mv w w1 pb g cap n i b q j b1 q1) (o : Obj) : Mv w (w1.alloc o) pb g cap n i b q j b1 q1 :=
  ⟨grown_alloc h.gr o, fun no nn nc e => by have := h.onto no nn nc e; exact (Below.heap_alloc _ _ _ (lt_of_blk this)).trans this⟩
theorem Mv.drew {w w1 : World} {pb g cap n i q j q1 : Nat} {b b1 : Bool} (h : Mv w w1 pb g cap n i b q j b1 q1) : Mv w w1.drew pb g cap n i b q j b1 q1 := ⟨grownBy_drew h.gr, h.onto⟩
theorem Mv.setNew {w w1 : World} {pb g cap n i q j q1 : Nat} {b b1 : Bool} (h : Mv w w1 pb g cap n i b q j b1 q1) {c : Nat} (hc : w.heap.size ≤ c) (hp : pb < w.heap.size) (o : Nat) (v : Value) : Mv w (w1.setCell ⟨c, o, none⟩ v) pb g cap n i b q j b1 q1 :=
  ⟨grown_setNew h.gr hc o v, fun no nn nc e => (Below.heap_setCell _ _ _ _ (by show pb ≠ c; omega)).trans (h.onto no nn nc e)⟩
theorem Mv.setNew3 {w w1 : World} {pb g cap n i q j q1 : Nat} {b b1 : Bool} (h : Mv w w1 pb g cap n i b q j b1 q1) {c : Nat} (hc : w.heap.size ≤ c) (hp : pb < w.heap.size) (v0 v1 v2 : Value) : Mv w (((w1.setCell ⟨c, 0, none⟩ v0).setCell ⟨c, 1, none⟩ v1).setCell ⟨c, 2, none⟩ v2) pb g cap n i b q j b1 q1 :=
  ((h.setNew hc hp 0 v0).setNew hc hp 1 v1).setNew hc hp 2 v2
theorem PP.move {w w' : World} {pb g cap B : Nat} {L : List Tk} {i : Nat} {bad : Bool} {q : Nat} {NM : List Tk} (h : PP w pb g cap B L i bad q NM) {j q' : Nat} {bad' : Bool} (hm : Mv w w' pb g cap L.length i bad q j bad' q')
    (hj : j < L.length) (hn : bad' = false → NM.length ≤ j) : PP w' pb g cap B L j bad' q' NM := by
  obtain ⟨no, nn, nc, h1, h2⟩ := h.blk
  obtain ⟨cur, h3, h4⟩ := h.row
  have hne : (Value.slice no nn nc).ownBlock ≠ some pb := by
    intro e
    have := own_lt h2 pb e
    have := h.pB
    omega
  exact ⟨⟨no, nn, nc, hm.onto _ _ _ h1, owns_keep h2 hm.gr (Or.inr hne)⟩, ⟨cur, (hm.gr.block _ (lt_of_blk h3) (by have := h.ne; intro e; cases e; exact this rfl)).trans h3, h4⟩, h.le, h.capLe, h.len, hj, h.fe, h.ok, h.gB, h.pB, by have := hm.gr.size; have := h.hB; omega, hn⟩
/-- The place that a parser keeps when it fails. -/
def fq (bad : Bool) (q p : Nat) : Nat := if bad = true then q else p

set_option maxHeartbeats 400000 in
theorem pnext_any (w : World) (pb g cap B : Nat) (L : List Tk) (i : Nat) (bad : Bool) (q : Nat) (NM : List Tk) (t : Tk) (r : List Tk) (h : PP w pb g cap B L i bad q NM) (ht : PL L i = t :: r) :
    Calls Tryz.prog 130 #[.pointer (some ⟨pb, 0, none⟩)] w fun e w' => e = .returned (.int .i64 t.k) ∧ w' = w := by
  obtain ⟨no, nn, nc, h1, _⟩ := h.blk
  obtain ⟨t0, t1, t2⟩ := h.tok ht
  have hlt := h.lt
  have hp := h.pLt
  have hg := h.gLt
  have bc := fun o => cell_of_blk h1 o
  clear h h1 ht
  go_enter Tryz.func130, Tryz.ntmps130
  go_wp2_with fail
  go_ret
  exact ⟨rfl, rfl⟩

set_option maxHeartbeats 1000000 in
theorem pfail_any (w : World) (pb g cap B : Nat) (L : List Tk) (i : Nat) (bad : Bool) (q : Nat) (NM : List Tk) (t : Tk) (r : List Tk) (h : PP w pb g cap B L i bad q NM) (ht : PL L i = t :: r) :
    Calls Tryz.prog 160 #[.pointer (some ⟨pb, 0, none⟩)] w fun e w' => e = .returned (.tuple #[]) ∧ Mv w w' pb g cap L.length i bad q (L.length - 1) true (fq bad q t.p) := by
  obtain ⟨no, nn, nc, h1, _⟩ := h.blk
  obtain ⟨t0, t1, t2⟩ := h.tok ht
  have hlt := h.lt
  have hlen := h.len
  have hcap := h.le
  have hmax := h.capLe
  unfold maxLen at hmax
  have hp := h.pLt
  have hg := h.gLt
  have bc := fun o => cell_of_blk h1 o
  have bf := fun o => frozen_of_blk h1 o
  have HP := hide h
  have HT := hide ht
  have H1 := hide h1
  clear h h1 ht
  go_enter Tryz.func160, Tryz.ntmps160
  have e1 : i * 3 + (L.length - i - 1) * 3 = (L.length - 1) * 3 := by omega
  have e2 : L.length - i - (L.length - i - 1) = L.length - (L.length - 1) := by omega
  have e3 : cap - i - (L.length - i - 1) = cap - (L.length - 1) := by omega
  have E1 := hide e1
  have E2 := hide e2
  have E3 := hide e3
  clear e1 e2 e3
  cases bad
  · go_wp2_with fail
    go_region
    rw [unhide E1, unhide E2, unhide E3]
    go_end0
    have hg := grownBy_drew ((grown_set w pb 1 (.bool true)).trans ((grown_set _ pb 2 (.int .i64 t.p)).trans (grown_set _ pb 0 (.slice (some ⟨g, (L.length - 1) * 3, none⟩) (L.length - (L.length - 1)) (cap - (L.length - 1))))))
    exact ⟨rfl, hg, fun no nn nc h => blk_set (blk_set (blk_set h 1 _) 2 _) 0 _⟩
  · go_wp2_with fail
    go_region
    rw [unhide E1, unhide E2, unhide E3]
    go_end0
    have hg := grownBy_drew (grown_set w pb 0 (.slice (some ⟨g, (L.length - 1) * 3, none⟩) (L.length - (L.length - 1)) (cap - (L.length - 1))))
    exact ⟨rfl, hg, fun no nn nc h => blk_set h 0 _⟩

set_option maxHeartbeats 1000000 in
theorem ptake_no (k : Nat) (w : World) (pb g cap B : Nat) (L : List Tk) (i : Nat) (bad : Bool) (q : Nat) (NM : List Tk) (t : Tk) (r : List Tk) (h : PP w pb g cap B L i bad q NM) (ht : PL L i = t :: r) (hk : t.k ≠ k) :
    Calls Tryz.prog 128 #[.pointer (some ⟨pb, 0, none⟩), .int .i64 (k : Int)] w fun e w' => e = .returned (tkP t) ∧ Mv w w' pb g cap L.length i bad q (L.length - 1) true (fq bad q t.p) := by
  obtain ⟨no, nn, nc, h1, _⟩ := h.blk
  obtain ⟨t0, t1, t2⟩ := h.tok ht
  have hlt := h.lt
  have hp := h.pLt
  have hg := h.gLt
  have bc := fun o => cell_of_blk h1 o
  have hkb : ((t.k : Int) != (k : Int)) = true := by simp; omega
  have HP := hide h
  have HT := hide ht
  clear h h1 ht hk
  go_enter Tryz.func128, Tryz.ntmps128
  go_wp2_with fail
  refine (pfail_any _ pb g cap B L i bad q NM t r (((unhide HP).alloc _).alloc _) (unhide HT)).mono ?_
  rintro e w1 ⟨rfl, hm1⟩
  have hg1 := hm1.gr
  have hrb : w1.heap[w.heap.size]? = some (.cells #[.int .i64 0, .string ⟨#[]⟩, .int .i64 0] 201 (0, 0)) := (hg1.block _ (by simp; omega) (by simp; omega)).trans ((Below.heap_alloc _ _ _ (by simp)).trans (blk_alloc _ _))
  have hbx : w1.heap[w.heap.size + 1]? = some (.cells #[.int .i64 t.k, .string t.s, .int .i64 t.p] 201 (0, 0)) := (hg1.block _ (by simp) (by simp; omega)).trans (blk_alloc' _ _ _ (by simp))
  have HM := hide ((((Mv.refl w pb g cap L.length i bad q).alloc _).alloc _).trans hm1)
  have rc := fun o => cell_of_blk hrb o
  have rf := fun o => frozen_of_blk hrb o
  have xc := fun o => cell_of_blk hbx o
  have hz : w.heap.size + 1 < w1.heap.size := lt_of_blk hbx
  have HRB := hide hrb
  clear hg1 hm1 hrb hbx bc t0 t1 t2
  go_wp2_with fail
  clear rc
  have hfin : (((w1.setCell ⟨w.heap.size, 0, none⟩ (.int .i64 t.k)).setCell ⟨w.heap.size, 1, none⟩ (.string t.s)).setCell ⟨w.heap.size, 2, none⟩ (.int .i64 t.p)).heap[w.heap.size]? = some (.cells #[.int .i64 t.k, .string t.s, .int .i64 t.p] 201 (0, 0)) := blk_set (blk_set (blk_set (unhide HRB) 0 _) 1 _) 2 _
  have rc := fun o => cell_of_blk hfin o
  refine bodyPost_ret (v := tkP t) (by simp [results, Tryz.results128, go_sem, rc, tkP]) rfl ⟨rfl, (unhide HM).setNew3 (Nat.le_refl _) hp _ _ _⟩

set_option maxHeartbeats 1000000 in
theorem ptake_yes (k : Nat) (w : World) (pb g cap B : Nat) (L : List Tk) (i : Nat) (bad : Bool) (q : Nat) (NM : List Tk) (t : Tk) (r : List Tk) (h : PP w pb g cap B L i bad q NM) (ht : PL L i = t :: r) (hk : t.k = k) (hk2 : 2 ≤ k) :
    Calls Tryz.prog 128 #[.pointer (some ⟨pb, 0, none⟩), .int .i64 (k : Int)] w fun e w' => e = .returned (tkP t) ∧ Mv w w' pb g cap L.length i bad q (i + 1) bad q := by
  obtain ⟨no, nn, nc, h1, _⟩ := h.blk
  obtain ⟨t0, t1, t2⟩ := h.tok ht
  have hlt := h.lt
  have hlen := h.len
  have hnx := h.fe.nextLt ht (by omega)
  have hle := h.le
  have hmax := h.capLe
  unfold maxLen at hmax
  have hp := h.pLt
  have hg := h.gLt
  have bc := fun o => cell_of_blk h1 o
  have bf := fun o => frozen_of_blk h1 o
  have hkb : ((t.k : Int) != (k : Int)) = false := by simp; omega
  have hkz : ((k : Int) != 0) = true := by simp; omega
  have hc1 : ¬ cap - i = 1 := by omega
  have e1 : i * 3 + 3 = (i + 1) * 3 := by omega
  have e2 : L.length - i - 1 = L.length - (i + 1) := by omega
  have e3 : cap - i - 1 = cap - (i + 1) := by omega
  have E1 := hide e1
  have E2 := hide e2
  have E3 := hide e3
  clear h h1 ht hk e1 e2 e3 hk2
  go_enter Tryz.func128, Tryz.ntmps128
  go_wp2_with fail
  rw [unhide E1, unhide E2, unhide E3]
  refine bodyPost_ret (v := tkP t) (by simp [results, Tryz.results128, go_sem, tkP]) rfl ⟨rfl, ?_⟩
  have hm : Mv w (w.setCell ⟨pb, 0, none⟩ (.slice (some ⟨g, (i + 1) * 3, none⟩) (L.length - (i + 1)) (cap - (i + 1)))) pb g cap L.length i bad q (i + 1) bad q := ⟨grown_set _ _ _ _, fun no nn nc h => blk_set h 0 _⟩
  exact (hm.alloc _).alloc _

set_option maxHeartbeats 1000000 in
theorem ptake_end (w : World) (pb g cap B : Nat) (L : List Tk) (i : Nat) (bad : Bool) (q : Nat) (NM : List Tk) (t : Tk) (r : List Tk) (h : PP w pb g cap B L i bad q NM) (ht : PL L i = t :: r) (hk : t.k = 0) :
    Calls Tryz.prog 128 #[.pointer (some ⟨pb, 0, none⟩), .int .i64 0] w fun e w' => e = .returned (tkP t) ∧ Mv w w' pb g cap L.length i bad q i bad q := by
  obtain ⟨no, nn, nc, h1, _⟩ := h.blk
  obtain ⟨t0, t1, t2⟩ := h.tok ht
  have hlt := h.lt
  have hp := h.pLt
  have hg := h.gLt
  have bc := fun o => cell_of_blk h1 o
  have hkb : ((t.k : Int) != 0) = false := by simp; omega
  clear h h1 ht hk
  go_enter Tryz.func128, Tryz.ntmps128
  go_wp2_with fail
  refine bodyPost_ret (v := tkP t) (by simp [results, Tryz.results128, go_sem, tkP]) rfl ⟨rfl, ?_⟩
  exact ((Mv.refl _ _ _ _ _ _ _ _).alloc _).alloc _

set_option maxHeartbeats 1000000 in
theorem pskip_no (k : Nat) (w : World) (pb g cap B : Nat) (L : List Tk) (i : Nat) (bad : Bool) (q : Nat) (NM : List Tk) (t : Tk) (r : List Tk) (h : PP w pb g cap B L i bad q NM) (ht : PL L i = t :: r) (hk : t.k ≠ k) :
    Calls Tryz.prog 129 #[.pointer (some ⟨pb, 0, none⟩), .int .i64 (k : Int)] w fun e w' => e = .returned (.bool false) ∧ w' = w := by
  have hkb : ((t.k : Int) != (k : Int)) = true := by simp; omega
  have HP := hide h
  have HT := hide ht
  clear h ht hk
  go_enter Tryz.func129, Tryz.ntmps129
  go_wp2_with fail
  refine (pnext_any _ pb g cap B L i bad q NM t r (unhide HP) (unhide HT)).mono ?_
  rintro e w1 ⟨rfl, rfl⟩
  go_wp2_with fail
  go_ret
  exact ⟨rfl, rfl⟩

set_option maxHeartbeats 1000000 in
theorem pskip_yes (k : Nat) (w : World) (pb g cap B : Nat) (L : List Tk) (i : Nat) (bad : Bool) (q : Nat) (NM : List Tk) (t : Tk) (r : List Tk) (h : PP w pb g cap B L i bad q NM) (ht : PL L i = t :: r) (hk : t.k = k) (hk2 : 2 ≤ k) :
    Calls Tryz.prog 129 #[.pointer (some ⟨pb, 0, none⟩), .int .i64 (k : Int)] w fun e w' => e = .returned (.bool true) ∧ Mv w w' pb g cap L.length i bad q (i + 1) bad q := by
  have hkb : ((t.k : Int) != (k : Int)) = false := by simp; omega
  have HP := hide h
  have HT := hide ht
  have HK := hide hk
  clear h ht hk
  go_enter Tryz.func129, Tryz.ntmps129
  go_wp2_with fail
  refine (pnext_any _ pb g cap B L i bad q NM t r (unhide HP) (unhide HT)).mono ?_
  rintro e w1 ⟨rfl, rfl⟩
  go_wp2_with fail
  refine (ptake_yes k _ pb g cap B L i bad q NM t r (unhide HP) (unhide HT) (unhide HK) hk2).mono ?_
  rintro e w2 ⟨rfl, hm⟩
  have HM := hide hm
  clear hm
  go_wp2_with fail
  go_ret
  exact ⟨rfl, unhide HM⟩
end Go.Proofs.YtoclbcffbhldmaaGreatDoor
