/- The program's templates: the table; Find. -/
import Derived.Test.YtidakhhekofkoaaGreatDoorK21
import Derived.Laws.EntriesVeiled
set_option linter.unusedSimpArgs false
open List renaming setIfInBounds_toArray → zA, set_cons_zero → zB, set_cons_succ → zC, getElem_toArray → zD, getElem_cons_succ → zE, getElem_cons_zero → zF
namespace Go.Proofs.YtidakhhekofkoaaGreatDoor
open Go.RowKit Go.Deep
def tws : List (List UInt8) := [[105, 110, 105, 116], [108, 97, 115, 116], [115, 111, 109, 101], [102, 101, 119], [114, 101, 115, 112, 111, 110, 115, 101], [112, 114, 101, 99, 101, 100, 101], [99, 104, 97, 105, 110], [98, 101, 102, 111, 114, 101], [119, 105, 116, 104], [97, 112, 97, 114, 116], [110, 101, 118, 101, 114], [110, 111, 116, 110, 101, 120, 116]]
def noFrom (l : List UInt8) : List (List UInt8) → Nat → Nat
 | [], k => k
 | x :: r, k => if l = x then k else noFrom l r (k + 1)
theorem tplNo_from (l : List UInt8) : tplNo l = noFrom l tws 0 := rfl
def twB (k : Nat) : ByteArray := ⟨(tws.getD k []).toArray⟩
def fnNo (k : Nat) : Nat := [228, 229, 230, 232, 234, 235, 236, 237, 238, 239, 240, 241].getD k 0
def tkB (b k : Nat) : Nat := if k ≤ 1 then b else if k ≤ 3 then b + 1 + 1 else b + 1
def tkL (k : Nat) : Nat := if k ≤ 1 then 1 else 2
def tabC (b : Nat) : Array Value := #[.string ⟨#[105, 110, 105, 116]⟩, .slice (some ⟨b, 0, none⟩) 1 1, .func (.func 228) #[] #[], .string ⟨#[108, 97, 115, 116]⟩, .slice (some ⟨b, 0, none⟩) 1 1, .func (.func 229) #[] #[], .string ⟨#[115, 111, 109, 101]⟩, .slice (some ⟨b + 1 + 1, 0, none⟩) 2 2, .func (.func 230) #[] #[], .string ⟨#[102, 101, 119]⟩, .slice (some ⟨b + 1 + 1, 0, none⟩) 2 2, .func (.func 232) #[] #[], .string ⟨#[114, 101, 115, 112, 111, 110, 115, 101]⟩, .slice (some ⟨b + 1, 0, none⟩) 2 2, .func (.func 234) #[] #[], .string ⟨#[112, 114, 101, 99, 101, 100, 101]⟩, .slice (some ⟨b + 1, 0, none⟩) 2 2, .func (.func 235) #[] #[], .string ⟨#[99, 104, 97, 105, 110]⟩, .slice (some ⟨b + 1, 0, none⟩) 2 2, .func (.func 236) #[] #[], .string ⟨#[98, 101, 102, 111, 114, 101]⟩, .slice (some ⟨b + 1, 0, none⟩) 2 2, .func (.func 237) #[] #[], .string ⟨#[119, 105, 116, 104]⟩, .slice (some ⟨b + 1, 0, none⟩) 2 2, .func (.func 238) #[] #[], .string ⟨#[97, 112, 97, 114, 116]⟩, .slice (some ⟨b + 1, 0, none⟩) 2 2, .func (.func 239) #[] #[], .string ⟨#[110, 101, 118, 101, 114]⟩, .slice (some ⟨b + 1, 0, none⟩) 2 2, .func (.func 240) #[] #[], .string ⟨#[110, 111, 116, 110, 101, 120, 116]⟩, .slice (some ⟨b + 1, 0, none⟩) 2 2, .func (.func 241) #[] #[]]
theorem to12 {k : Nat} (h : k < 12) : k = 0 ∨ k = 1 ∨ k = 2 ∨ k = 3 ∨ k = 4 ∨ k = 5 ∨ k = 6 ∨ k = 7 ∨ k = 8 ∨ k = 9 ∨ k = 10 ∨ k = 11 := by omega
theorem tab_at (b k : Nat) (h : k < 12) : (tabC b)[k * 3]? = some (.string (twB k)) ∧ (tabC b)[k * 3 + 1]? = some (.slice (some ⟨tkB b k, 0, none⟩) (tkL k) (tkL k)) ∧ (tabC b)[k * 3 + 2]? = some (.func (.func (fnNo k)) #[] #[]) := by
 rcases to12 h with rfl | rfl | rfl | rfl | rfl | rfl | rfl | rfl | rfl | rfl | rfl | rfl <;> exact ⟨rfl, rfl, rfl⟩
theorem noFrom_step (l : List UInt8) (k : Nat) (h : k < 12) : noFrom l (tws.drop k) k = if l = (twB k).toList then k else noFrom l (tws.drop (k + 1)) (k + 1) := by
 have hl : k < tws.length := h
 have e : tws.drop k = tws.getD k [] :: tws.drop (k + 1) := by
  rw [List.drop_eq_getElem_cons hl]; simp [List.getD, List.getElem?_eq_getElem hl]
 have e2 : (twB k).toList = tws.getD k [] := by rw [ByteArray.toList_eq]; rfl
 rw [e, noFrom, e2]
structure TkAt (w : World) (b : Nat) : Prop where
 b0 : w.heap[b]? = some (.cells #[.int .i64 0] 314 (0, 0))
 b1 : w.heap[b + 1]? = some (.cells #[.int .i64 0, .int .i64 0] 314 (0, 0))
 b2 : w.heap[b + 1 + 1]? = some (.cells #[.int .i64 0, .int .i64 1] 314 (0, 0))
theorem TkAt.later {w w' : World} {b : Nat} (h : TkAt w b) (hb : Below w.heap.size w w') : TkAt w' b :=
 ⟨(hb.block _ (lt_of_blk h.b0)).trans h.b0, (hb.block _ (lt_of_blk h.b1)).trans h.b1, (hb.block _ (lt_of_blk h.b2)).trans h.b2⟩
set_option maxHeartbeats 1000000 in
theorem templates_any (w : World) :
  Calls Tryz.prog 195 #[] w fun e w' => e = .returned (.slice (some ⟨w.heap.size + 1 + 1 + 1, 0, none⟩) 12 12) ∧ w' = (((w.alloc (.cells #[.int .i64 0] 314)).alloc (.cells #[.int .i64 0, .int .i64 0] 314)).alloc (.cells #[.int .i64 0, .int .i64 1] 314)).alloc (.cells (tabC w.heap.size) 265) := by
 go_enter Tryz.func195, Tryz.ntmps195
 go_wp2_with fail
 go_ret
 exact ⟨rfl, rfl⟩
def FindPost (s : ByteArray) (w w' : World) (e : Ending) : Prop :=
  Below w.heap.size w w' ∧ ∃ b, w.heap.size ≤ b ∧ TkAt w' b ∧
    ((tplNo s.toList ≤ 11 ∧ e = .returned (.tuple #[.agg #[.string (twB (tplNo s.toList)), (.slice (some ⟨tkB b (tplNo s.toList), 0, none⟩) (tkL (tplNo s.toList)) (tkL (tplNo s.toList))), (.func (.func (fnNo (tplNo s.toList))) #[] #[])], .bool true])) ∨
     (¬ tplNo s.toList ≤ 11 ∧ e = .returned (.tuple #[.agg #[.string ⟨#[]⟩, .slice none 0 0, .nilFunc], .bool false])))
set_option maxHeartbeats 2000000 in
set_option maxRecDepth 100000 in
theorem find_any (s : ByteArray) (w : World) : Calls Tryz.prog 163 #[.string s] w fun e w' => FindPost s w w' e := by
 go_enter Tryz.func163, Tryz.ntmps163
 go_wp2_with fail
 refine (templates_any _).mono ?_
 rintro e w1 ⟨rfl, hw1⟩
 have hsz : (w.alloc (.cells #[.string ⟨#[]⟩, .slice none 0 0, .nilFunc] 265)).heap.size = w.heap.size + 1 := by simp
 rw [hsz] at hw1
 simp only [hsz]
 have hrb : w1.heap[w.heap.size]? = some (.cells #[.string ⟨#[]⟩, .slice none 0 0, .nilFunc] 265 (0, 0)) := by
  rw [hw1]
  exact (Below.heap_alloc _ _ _ (by simp; omega)).trans ((Below.heap_alloc _ _ _ (by simp; omega)).trans ((Below.heap_alloc _ _ _ (by simp; omega)).trans ((Below.heap_alloc _ _ _ (by simp)).trans (blk_alloc _ _))))
 have htk : TkAt w1 (w.heap.size + 1) := by
  rw [hw1]
  exact ⟨(Below.heap_alloc _ _ _ (by simp)).trans ((Below.heap_alloc _ _ _ (by simp)).trans ((Below.heap_alloc _ _ _ (by simp)).trans (blk_alloc' _ _ _ (by simp)))), (Below.heap_alloc _ _ _ (by simp)).trans ((Below.heap_alloc _ _ _ (by simp)).trans (blk_alloc' _ _ _ (by simp))), (Below.heap_alloc _ _ _ (by simp)).trans (blk_alloc' _ _ _ (by simp))⟩
 have htb : w1.heap[w.heap.size + 1 + 1 + 1 + 1]? = some (.cells (tabC (w.heap.size + 1)) 265 (0, 0)) := by
  rw [hw1]
  exact blk_alloc' _ _ _ (by simp)
 have hB : Below w.heap.size w w1 := by
  rw [hw1]
  exact (((((Below.refl _ _).alloc (Nat.le_refl _) _).alloc (by simp) _).alloc (by simp; omega) _).alloc (by simp; omega) _).alloc (by simp; omega) _
 generalize htbe : w.heap.size + 1 + 1 + 1 + 1 = tb at *
 have htbl : w.heap.size < tb := by omega
 have HRB := hide hrb
 have HTK := hide htk
 have HTB := hide htb
 have HBW := hide hB
 clear hw1 hsz hrb htk htb hB htbe
 go_wp2_with fail
 go_loopw [8] (fun i wr => ∃ k : Nat, i = .int .i64 (k : Int) ∧ k ≤ 12 ∧ Hid (tplNo s.toList = noFrom s.toList (tws.drop k) k) ∧ Below w1.heap.size w1 wr) (fun i _ => 12 - (intOf i).toNat)
 case atStart => exact ⟨0, rfl, by omega, tplNo_from _, Below.refl _ _⟩
 case round =>
  obtain ⟨k, rfl, hk12, H, hb⟩ := hrel
  have hrb := (hb.block _ (lt_of_blk (unhide HRB))).trans (unhide HRB)
  have htb := (hb.block _ (lt_of_blk (unhide HTB))).trans (unhide HTB)
  have HRB2 := hide hrb
  have HTK2 := hide ((unhide HTK).later hb)
  have hrl : w.heap.size < wr.heap.size := lt_of_blk hrb
  have htl : tb < wr.heap.size := lt_of_blk htb
  have rc := fun o => cell_of_blk hrb o
  have rf := fun o => frozen_of_blk hrb o
  have HB := hide hb
  by_cases hk : k < 12
  ·obtain ⟨c0, c1, c2⟩ := tab_at (w.heap.size + 1) k hk
   have d0 := (cell_of_blk htb (k * 3)).trans c0
   have d1 := (cell_of_blk htb (k * 3 + 1)).trans c1
   have d2 := (cell_of_blk htb (k * 3 + 2)).trans c2
   have HS := hide (noFrom_step s.toList k hk)
   clear hb hrb htb c0 c1 c2
   go_wp2_with fail
   ·have he : s.toList = (twB k).toList := by simp_all
    have hno : tplNo s.toList = k := by rw [unhide H, unhide HS, if_pos he]
    have hfin : (((wr.setCell ⟨w.heap.size, 0, none⟩ (.string (twB k))).setCell ⟨w.heap.size, 1, none⟩ (.slice (some ⟨tkB (w.heap.size + 1) k, 0, none⟩) (tkL k) (tkL k))).setCell ⟨w.heap.size, 2, none⟩ (.func (.func (fnNo k)) #[] #[])).heap[w.heap.size]? = some (.cells #[.string (twB k), (.slice (some ⟨tkB (w.heap.size + 1) k, 0, none⟩) (tkL k) (tkL k)), (.func (.func (fnNo k)) #[] #[])] 265 (0, 0)) := blk_set (blk_set (blk_set (unhide HRB2) 0 _) 1 _) 2 _
    have rc2 := fun o => cell_of_blk hfin o
    clear rc
    refine bodyPost_ret (v := .tuple #[.agg #[.string (twB k), (.slice (some ⟨tkB (w.heap.size + 1) k, 0, none⟩) (tkL k) (tkL k)), (.func (.func (fnNo k)) #[] #[])], .bool true]) (by simp [results, Tryz.results163, go_sem, rc2, hrl]) rfl ?_
    refine ⟨(((((unhide HBW).trans ((unhide HB).mono (unhide HBW).size)).setCell (Nat.le_refl _) _).setCell (Nat.le_refl _) _).setCell (Nat.le_refl _) _).alloc (by simp [World.setCell]; omega) _, w.heap.size + 1, by omega, ?_, Or.inl ⟨by omega, by rw [hno]⟩⟩
    have h3 := unhide HTK2
    exact (show TkAt _ _ from ⟨(Below.heap_setCell _ _ _ _ (by show w.heap.size + 1 ≠ w.heap.size; omega)).trans ((Below.heap_setCell _ _ _ _ (by show w.heap.size + 1 ≠ w.heap.size; omega)).trans ((Below.heap_setCell _ _ _ _ (by show w.heap.size + 1 ≠ w.heap.size; omega)).trans h3.b0)), (Below.heap_setCell _ _ _ _ (by show w.heap.size + 1 + 1 ≠ w.heap.size; omega)).trans ((Below.heap_setCell _ _ _ _ (by show w.heap.size + 1 + 1 ≠ w.heap.size; omega)).trans ((Below.heap_setCell _ _ _ _ (by show w.heap.size + 1 + 1 ≠ w.heap.size; omega)).trans h3.b1)), (Below.heap_setCell _ _ _ _ (by show w.heap.size + 1 + 1 + 1 ≠ w.heap.size; omega)).trans ((Below.heap_setCell _ _ _ _ (by show w.heap.size + 1 + 1 + 1 ≠ w.heap.size; omega)).trans ((Below.heap_setCell _ _ _ _ (by show w.heap.size + 1 + 1 + 1 ≠ w.heap.size; omega)).trans h3.b2))⟩).later ((Below.refl _ _).alloc (Nat.le_refl _) _)
   ·have he : ¬ s.toList = (twB k).toList := by intro e; simp_all
    go_round
    case rel => exact ⟨k + 1, by go_num, by omega, by show _ = _; rw [unhide H, unhide HS, if_neg he], (unhide HB).alloc (unhide HB).size _⟩
    case measure => simp [intOf]; omega
  ·have hk' : k = 12 := by omega
   have HK := hide hk'
   clear hb hrb htb hk'
   go_wp2_with fail
   have hno : tplNo s.toList = 12 := by rw [unhide H, unhide HK]; rfl
   have hfin : (((wr.setCell ⟨w.heap.size, 0, none⟩ (.string ⟨#[]⟩)).setCell ⟨w.heap.size, 1, none⟩ (.slice none 0 0)).setCell ⟨w.heap.size, 2, none⟩ .nilFunc).heap[w.heap.size]? = some (.cells #[.string ⟨#[]⟩, .slice none 0 0, .nilFunc] 265 (0, 0)) := blk_set (blk_set (blk_set (unhide HRB2) 0 _) 1 _) 2 _
   have rc2 := fun o => cell_of_blk hfin o
   clear rc
   refine bodyPost_ret (v := .tuple #[.agg #[.string ⟨#[]⟩, .slice none 0 0, .nilFunc], .bool false]) (by simp [results, Tryz.results163, go_sem, rc2]) rfl ?_
   refine ⟨((((unhide HBW).trans ((unhide HB).mono (unhide HBW).size)).setCell (Nat.le_refl _) _).setCell (Nat.le_refl _) _).setCell (Nat.le_refl _) _, w.heap.size + 1, by omega, ?_, Or.inr ⟨by omega, rfl⟩⟩
   have h3 := unhide HTK2
   exact ⟨(Below.heap_setCell _ _ _ _ (by show w.heap.size + 1 ≠ w.heap.size; omega)).trans ((Below.heap_setCell _ _ _ _ (by show w.heap.size + 1 ≠ w.heap.size; omega)).trans ((Below.heap_setCell _ _ _ _ (by show w.heap.size + 1 ≠ w.heap.size; omega)).trans h3.b0)), (Below.heap_setCell _ _ _ _ (by show w.heap.size + 1 + 1 ≠ w.heap.size; omega)).trans ((Below.heap_setCell _ _ _ _ (by show w.heap.size + 1 + 1 ≠ w.heap.size; omega)).trans ((Below.heap_setCell _ _ _ _ (by show w.heap.size + 1 + 1 ≠ w.heap.size; omega)).trans h3.b1)), (Below.heap_setCell _ _ _ _ (by show w.heap.size + 1 + 1 + 1 ≠ w.heap.size; omega)).trans ((Below.heap_setCell _ _ _ _ (by show w.heap.size + 1 + 1 + 1 ≠ w.heap.size; omega)).trans ((Below.heap_setCell _ _ _ _ (by show w.heap.size + 1 + 1 + 1 ≠ w.heap.size; omega)).trans h3.b2))⟩
set_option maxHeartbeats 1000000 in
theorem number_any (t : Tk) (c : UInt8) (w : World) (hs : t.s = ⟨#[c]⟩) (h1 : 48 ≤ c.toNat) (h2 : c.toNat ≤ 57) :
  Calls Tryz.prog 161 #[tkP t] w fun e w' => e = .returned (.int .i64 ((c.toNat - 48 : Nat) : Int)) ∧ Below w.heap.size w w' := by
 unfold tkP
 rw [hs]
 have h3 : (48 : Int) ≤ (c.toNat : Int) := by omega
 have h4 : (c.toNat : Int) ≤ 57 := by omega
 clear hs
 go_enter Tryz.func161, Tryz.ntmps161
 go_wp2_with fail
 go_ret
 refine ⟨ret_int ?_, (Below.refl _ _).alloc (Nat.le_refl _) _⟩
 show ((c.toNat : Int) - 48) % 256 = _
 omega
def ArgOk (t : Tk) : Prop := t.k = 2 ∨ (t.k = 3 ∧ ∃ d : UInt8, t.s = ⟨#[d]⟩ ∧ 48 ≤ d.toNat ∧ d.toNat ≤ 57)
def parm (c : UInt8) : Int := if c.toNat = 110 then 0 else 1
set_option maxHeartbeats 1000000 in
theorem fits_any (t : Tk) (c : UInt8) (w : World) (hc : c = 110 ∨ c = 100) (ht : ArgOk t) :
  Calls Tryz.prog 194 #[tkP t, .int .i64 (parm c)] w fun e w' => e = .returned (.bool (!badArg [c] t)) ∧ Below w.heap.size w w' := by
 rcases hc with rfl | rfl
 ·have hp : parm 110 = 0 := rfl
  rw [hp]
  rcases ht with hk | ⟨hk, d, hd, h1, h2⟩
  ·have e2 : ((t.k : Int) == 2) = true := beqT (c := 2) hk
   have HB : Hid (badArg [110] t = false) := by show _ = _; simp [badArg, hk]
   unfold tkP
   clear hk hp
   go_enter Tryz.func194, Tryz.ntmps194
   go_wp2_with fail
   go_ret
   exact ⟨ret_bool (by rw [unhide HB]; rfl), (Below.refl _ _).alloc (Nat.le_refl _) _⟩
  ·have e2 : ((t.k : Int) == 2) = false := beqF (c := 2) (by omega)
   have HB : Hid (badArg [110] t = true) := by show _ = _; simp [badArg, hk]
   unfold tkP
   clear hk hp hd h1 h2
   go_enter Tryz.func194, Tryz.ntmps194
   go_wp2_with fail
   go_ret
   exact ⟨ret_bool (by rw [unhide HB]; rfl), (Below.refl _ _).alloc (Nat.le_refl _) _⟩
 ·have hp : parm 100 = 1 := rfl
  rw [hp]
  rcases ht with hk | ⟨hk, d, hd, h1, h2⟩
  ·have e3 : ((t.k : Int) == 3) = false := beqF (c := 3) (by omega)
   have HB : Hid (badArg [100] t = true) := by show _ = _; simp [badArg, hk]
   unfold tkP
   clear hk hp
   go_enter Tryz.func194, Tryz.ntmps194
   go_wp2_with fail
   go_ret
   exact ⟨ret_bool (by rw [unhide HB]; rfl), (Below.refl _ _).alloc (Nat.le_refl _) _⟩
  ·have e3 : ((t.k : Int) == 3) = true := beqT (c := 3) hk
   have HB : Hid (badArg [100] t = (decide (d.toNat < 49) || decide (51 < d.toNat))) := by show _ = _; simp [badArg, hk, hd]
   have HN := hide (fun w => number_any t d w hd h1 h2)
   obtain ⟨m, hm⟩ : ∃ m : Nat, m = d.toNat - 48 := ⟨_, rfl⟩
   rw [← hm] at HN
   have HM := hide hm
   have hm9 : m ≤ 9 := by omega
   have HD := hide h1
   clear hk hp hd hm h1 h2
   by_cases hz : (1 : Int) ≤ (m : Int)
   ·by_cases h3 : (m : Int) ≤ 3
    ·have HR : Hid ((!(decide (d.toNat < 49) || decide (51 < d.toNat))) = true) := by
      have := unhide HM
      have := unhide HD
      show _ = _
      rw [decide_eq_false (by omega), decide_eq_false (by omega)]; rfl
     go_enter Tryz.func194, Tryz.ntmps194
     unfold tkP at *
     go_wp2_with (go_at_call 161; refine ((unhide HN) _).mono ?_; rintro e w1 ⟨rfl, hb1⟩; have HB1 := hide hb1; have hbx := (hb1.block w.heap.size (by simp)).trans (blk_alloc _ _); have xc := fun o => cell_of_blk hbx o; have hxl : w.heap.size < w1.heap.size := lt_of_blk hbx; clear hb1 hbx)
     refine ((unhide HN) _).mono ?_
     rintro e w2 ⟨rfl, hb2⟩
     have HB2 := hide hb2
     clear hb2
     go_wp2_with fail
     go_ret
     exact ⟨ret_bool (by rw [unhide HB, unhide HR]), (((Below.refl _ _).alloc (Nat.le_refl _) _).trans ((unhide HB1).mono (by simp))).trans ((unhide HB2).mono (by omega))⟩
    ·have HR : Hid ((!(decide (d.toNat < 49) || decide (51 < d.toNat))) = false) := by
      have := unhide HM
      have := unhide HD
      show _ = _
      rw [decide_eq_true (p := 51 < d.toNat) (by omega)]; simp
     go_enter Tryz.func194, Tryz.ntmps194
     unfold tkP at *
     go_wp2_with (go_at_call 161; refine ((unhide HN) _).mono ?_; rintro e w1 ⟨rfl, hb1⟩; have HB1 := hide hb1; have hbx := (hb1.block w.heap.size (by simp)).trans (blk_alloc _ _); have xc := fun o => cell_of_blk hbx o; have hxl : w.heap.size < w1.heap.size := lt_of_blk hbx; clear hb1 hbx)
     refine ((unhide HN) _).mono ?_
     rintro e w2 ⟨rfl, hb2⟩
     have HB2 := hide hb2
     clear hb2
     go_wp2_with fail
     go_ret
     exact ⟨ret_bool (by rw [unhide HB, unhide HR]; exact decide_eq_false (by omega)), (((Below.refl _ _).alloc (Nat.le_refl _) _).trans ((unhide HB1).mono (by simp))).trans ((unhide HB2).mono (by omega))⟩
   ·have HR : Hid ((!(decide (d.toNat < 49) || decide (51 < d.toNat))) = false) := by
     have := unhide HM
     have := unhide HD
     show _ = _
     rw [decide_eq_true (p := d.toNat < 49) (by omega)]; simp
    go_enter Tryz.func194, Tryz.ntmps194
    unfold tkP at *
    go_wp2_with (go_at_call 161; refine ((unhide HN) _).mono ?_; rintro e w1 ⟨rfl, hb1⟩; have HB1 := hide hb1; have hbx := (hb1.block w.heap.size (by simp)).trans (blk_alloc _ _); have xc := fun o => cell_of_blk hbx o; have hxl : w.heap.size < w1.heap.size := lt_of_blk hbx; clear hb1 hbx)
    go_ret
    exact ⟨ret_bool (by rw [unhide HB, unhide HR]), ((Below.refl _ _).alloc (Nat.le_refl _) _).trans ((unhide HB1).mono (by simp))⟩
theorem tk_len {n : Nat} (h : n ≤ 11) : (tplTakes n).length = tkL n := by
 unfold tplTakes tkL
 repeat' split
 all_goals first | rfl | omega
theorem tk_cell {w : World} {b n k : Nat} {c : UInt8} {r : List UInt8} (h : TkAt w b) (hn : n ≤ 11) (hk : (tplTakes n).drop k = c :: r) : w.cell? ⟨tkB b n, k, none⟩ = some (.int .i64 (parm c)) ∧ (c = 110 ∨ c = 100) ∧ tkB b n < w.heap.size := by
 have hkl : k < (tplTakes n).length := by
  rcases Nat.lt_or_ge k (tplTakes n).length with h | h
  ·exact h
  ·rw [List.drop_eq_nil_of_le h] at hk; cases hk
 rcases takes_len hn with ⟨ht, hl⟩ | ⟨ht, hl⟩ | ⟨ht, hl⟩
 ·have hb : tkB b n = b := if_pos hl
  rw [ht] at hk hkl
  have : k = 0 := by simp at hkl; omega
  subst this
  have hc : c = 110 := ((List.cons.inj hk).1).symm
  subst hc
  rw [hb]
  exact ⟨cell_of_blk h.b0 0, Or.inl rfl, lt_of_blk h.b0⟩
 ·have hb : tkB b n = b + 1 + 1 := by unfold tkB; rw [if_neg (by omega), if_pos hl.2]
  rw [ht] at hk hkl
  rw [hb]
  have : k = 0 ∨ k = 1 := by simp at hkl; omega
  rcases this with rfl | rfl
  ·have hc : c = 110 := ((List.cons.inj hk).1).symm
   subst hc
   exact ⟨cell_of_blk h.b2 0, Or.inl rfl, lt_of_blk h.b2⟩
  ·have hc : c = 100 := ((List.cons.inj hk).1).symm
   subst hc
   exact ⟨cell_of_blk h.b2 1, Or.inr rfl, lt_of_blk h.b2⟩
 ·have hb : tkB b n = b + 1 := by unfold tkB; rw [if_neg (by omega), if_neg (by omega)]
  rw [ht] at hk hkl
  rw [hb]
  have : k = 0 ∨ k = 1 := by simp at hkl; omega
  rcases this with rfl | rfl
  ·have hc : c = 110 := ((List.cons.inj hk).1).symm
   subst hc
   exact ⟨cell_of_blk h.b1 0, Or.inl rfl, lt_of_blk h.b1⟩
  ·have hc : c = 110 := ((List.cons.inj hk).1).symm
   subst hc
   exact ⟨cell_of_blk h.b1 1, Or.inl rfl, lt_of_blk h.b1⟩
theorem keepC {w w' : World} {cb B b ty : Nat} {A : List Tk} {x : Nat × Nat} {c : Array Value} {m : Nat × Nat} (hc : CK w cb B A x) (hf : CF cb B w w') (hb : w.heap[b]? = some (.cells c ty m)) (h1 : ty ≠ 9) (h2 : ty ≠ 198) : w'.heap[b]? = some (.cells c ty m) :=
 box_cf hf hb h1 (by
  rintro rfl
  obtain ⟨ao, an, ac, h3, _⟩ := hc.blk
  rw [h3] at hb; injection hb with hb; injection hb with _ e _; exact h2 e.symm)
structure QS (W : World) (kb g b tb : Nat) (r : Rl) (ac : Nat) (xx : Tk) (n : Nat) : Prop where
 kx : W.heap[kb]? = some (cbl r.word (some ⟨g, 0, none⟩) r.args.length ac xx)
 gx : ∃ cur, W.heap[g]? = some (.cells cur 201 (0, 0)) ∧ cur.toList.take (r.args.length * 3) = tkCellsP r.args
 tk : TkAt W b
 tx : W.heap[tb]? = some (.cells #[.string (twB n), .slice (some ⟨tkB b n, 0, none⟩) (tkL n) (tkL n), .func (.func (fnNo n)) #[] #[]] 265 (0, 0))
theorem QS.keep {w w' : World} {cb B : Nat} {A : List Tk} {x : Nat × Nat} (hc : CK w cb B A x) (hf : CF cb B w w') {kb g b tb : Nat} {r : Rl} {ac : Nat} {xx : Tk} {n : Nat} (h : QS w kb g b tb r ac xx n) : QS w' kb g b tb r ac xx n := by
 obtain ⟨cur, h1, h2⟩ := h.gx
 exact ⟨keepC hc hf h.kx (by decide) (by decide), ⟨cur, keepC hc hf h1 (by decide) (by decide), h2⟩, ⟨keepC hc hf h.tk.b0 (by decide) (by decide), keepC hc hf h.tk.b1 (by decide) (by decide), keepC hc hf h.tk.b2 (by decide) (by decide)⟩, keepC hc hf h.tx (by decide) (by decide)⟩
theorem fArgs_at {A : List Tk} {ks : List UInt8} {l : List Tk} {k : Nat} {t : Tk} {r : List Tk} (h : l.drop k = t :: r) : fArgs A (ks.drop k) (l.drop k) = fArg A (ks.drop k) t ++ fArgs A (ks.drop (k + 1)) (l.drop (k + 1)) := by
 rw [h, dropTl h, fArgs, List.tail_drop]
theorem badArg_drop {ks : List UInt8} {k : Nat} {c : UInt8} {r : List UInt8} {t : Tk} (h : ks.drop k = c :: r) : badArg (ks.drop k) t = badArg [c] t := by rw [h]; rfl
theorem badArg_nil {ks : List UInt8} {k : Nat} {t : Tk} (h : ks.length ≤ k) : badArg (ks.drop k) t = true := by rw [List.drop_eq_nil_of_le h]; rfl
set_option maxHeartbeats 8000000 in
set_option maxRecDepth 100000 in
theorem checkCall_any (w : World) (cb B : Nat) (A : List Tk) (x : Nat × Nat) (r : Rl) (kb g ac : Nat) (xx : Tk) (h : CK w cb B A x)
  (hk : w.heap[kb]? = some (cbl r.word (some ⟨g, 0, none⟩) r.args.length ac xx)) (hx : xx.p = r.fin) (hrow : ∃ cur, w.heap[g]? = some (.cells cur 201 (0, 0)) ∧ cur.toList.take (r.args.length * 3) = tkCellsP r.args) (hargs : ∀ t ∈ r.args, ArgOk t) (hl : r.args.length ≤ 2) :
  Calls Tryz.prog 160 #[.pointer (some ⟨cb, 0, none⟩), .pointer (some ⟨kb, 0, none⟩)] w fun e w' => e = .returned (.tuple #[]) ∧ CK w' cb B A (tells x (pCall A r)) ∧ CF cb B w w' := by
 have HC := hide h
 have HK := hide hk
 have HX := hide hx
 have HROW := hide hrow
 have HARG := hide hargs
 have hcl := h.lt
 have hkl := lt_of_blk hk
 unfold cbl at hk
 have kc := fun o => cell_of_blk hk o
 clear h hk hx hrow hargs
 go_enter Tryz.func160, Tryz.ntmps160
 go_wp2_with fail
 refine (checkLength_any _ cb B A x r.word (unhide HC)).mono ?_
 rintro e w1 ⟨rfl, hc1, hf1⟩
 have hk1 := keepC (unhide HC) hf1 (unhide HK) (by decide) (by decide)
 have hrow1 : ∃ cur, w1.heap[g]? = some (.cells cur 201 (0, 0)) ∧ cur.toList.take (r.args.length * 3) = tkCellsP r.args := by
  obtain ⟨cur, h1, h2⟩ := unhide HROW
  exact ⟨cur, keepC (unhide HC) hf1 h1 (by decide) (by decide), h2⟩
 have HC1 := hide hc1
 have HF1 := hide hf1
 have HK1 := hide hk1
 have HROW1 := hide hrow1
 have hkl1 := lt_of_blk hk1
 clear kc
 have kc := fun o => cell_of_blk hk1 o
 clear hc1 hf1 hk1 hrow1 HROW HK
 go_wp2_with fail
 refine (find_any r.word.s _).mono ?_
 rintro e w2 ⟨hb2, b, hbb, htk2, hcase⟩
 have HC2 := hide ((unhide HC1).later hb2)
 have HF2 := hide ((unhide HF1).trans (CF.below hb2))
 have hk2 := (hb2.block _ hkl1).trans (unhide HK1)
 have hrow2 : ∃ cur, w2.heap[g]? = some (.cells cur 201 (0, 0)) ∧ cur.toList.take (r.args.length * 3) = tkCellsP r.args := by
  obtain ⟨cur, h1, h2⟩ := unhide HROW1
  exact ⟨cur, (hb2.block _ (lt_of_blk h1)).trans h1, h2⟩
 have HK2 := hide hk2
 have HROW2 := hide hrow2
 have HTK2 := hide htk2
 have hkl2 := lt_of_blk hk2
 clear kc
 unfold cbl at hk2
 have kc := fun o => cell_of_blk hk2 o
 clear hb2 hk2 hrow2 htk2 HK1 HROW1 HC1 HF1
 rcases hcase with ⟨hn, rfl⟩ | ⟨hn, rfl⟩
 ·obtain ⟨n, hne⟩ : ∃ n, n = tplNo r.word.s.toList := ⟨_, rfl⟩
  rw [← hne] at hn ⊢
  have HPC : Hid (tells x (pCall A r) = tells (tells (tells x (fLong r.word)) (fArgs A (tplTakes n) r.args)) (if r.args.length < (tplTakes n).length then [(r.fin, 4)] else [])) := by
   show _ = _
   unfold pCall
   rw [← hne, if_pos hn, tells_append, tells_append]
  have htl := tk_len hn
  have HTL := hide htl
  have HNE := hide hne
  clear hne htl
  go_wp2_with fail
  go_loopw [37] (fun i wr => ∃ (k : Nat) (y : Nat × Nat), i = .int .i64 (k : Int) ∧ k ≤ r.args.length ∧ CK wr cb B A y ∧ CF cb B w wr ∧ Hid (tells (tells x (fLong r.word)) (fArgs A (tplTakes n) r.args) = tells y (fArgs A ((tplTakes n).drop k) (r.args.drop k))) ∧ QS wr kb g b w2.heap.size r ac xx n) (fun i _ => r.args.length - (intOf i).toNat)
  case atStart =>
   obtain ⟨cur, h1, h2⟩ := unhide HROW2
   refine ⟨0, tells x (fLong r.word), rfl, Nat.zero_le _, (unhide HC2).alloc _, (unhide HF2).trans (CF.below ((Below.refl _ _).alloc (Nat.le_refl _) _)), rfl, ⟨(Below.heap_alloc _ _ _ hkl2).trans (unhide HK2), ⟨cur, (Below.heap_alloc _ _ _ (lt_of_blk h1)).trans h1, h2⟩, (unhide HTK2).later ((Below.refl _ _).alloc (Nat.le_refl _) _), blk_alloc _ _⟩⟩
  case round =>
   clear kc
   obtain ⟨k, y, rfl, hkk, hcr, hfr, HY, hq⟩ := hrel
   have HCR := hide hcr
   have HFR := hide hfr
   have HQ := hide hq
   have hkx := hq.kx
   have htx := hq.tx
   have hkl3 := lt_of_blk hkx
   have htl3 := lt_of_blk htx
   unfold cbl at hkx
   have kc := fun o => cell_of_blk hkx o
   have tc := fun o => cell_of_blk htx o
   by_cases hlt : k < r.args.length
   ·obtain ⟨t, rr, ht⟩ : ∃ t rr, r.args.drop k = t :: rr := by
     cases hd : r.args.drop k with
     | nil => have := congrArg List.length hd; simp at this; omega
     | cons t rr => exact ⟨t, rr, rfl⟩
    obtain ⟨c0, c1, c2⟩ := row_tok hq.gx ht
    have hgl : g < wr.heap.size := by obtain ⟨cur, h1, _⟩ := hq.gx; exact lt_of_blk h1
    have hok : ArgOk t := unhide HARG t (List.mem_of_mem_drop (by rw [ht]; exact List.mem_cons_self))
    have HOK := hide hok
    have HFA := hide (fArgs_at (A := A) (ks := tplTakes n) ht)
    clear hcr hfr hq hkx htx ht hok
    go_upto_if 44 with fail
    go_cut [] (fun wc => CK wc cb B A (tells y (if t.k = 2 then fName A t.s t.p else [])) ∧ CF cb B w wc ∧ QS wc kb g b w2.heap.size r ac xx n ∧ wc.heap[wr.heap.size]? = some (.cells #[.int .i64 t.k, .string t.s, .int .i64 t.p] 201 (0, 0)))
    case first =>
     by_cases hk2 : t.k = 2
     ·have e2 : ((t.k : Int) == 2) = true := beqT (c := 2) hk2
      have HT : Hid (tells y (if t.k = 2 then fName A t.s t.p else []) = tells y (fName A t.s t.p)) := by show _ = _; rw [if_pos hk2]
      clear hk2
      go_wp2_with fail
      refine (checkKnown_any _ cb B A y t ((unhide HCR).alloc _)).mono ?_
      rintro e w3 ⟨rfl, hc3, hf3⟩
      have HC3 := hide hc3
      have HF3 := hide hf3
      clear hc3 hf3
      go_wp2_with fail
      go_meet
      rw [unhide HT]
      refine ⟨unhide HC3, ((unhide HFR).trans (CF.below ((Below.refl _ _).alloc (Nat.le_refl _) _))).trans (unhide HF3), ?_, keepC ((unhide HCR).alloc _) (unhide HF3) (blk_alloc _ _) (by decide) (by decide)⟩
      exact QS.keep ((unhide HCR).alloc _) (unhide HF3) (QS.keep (unhide HCR) (CF.below (cb := cb) (B := B) ((Below.refl _ _).alloc (Nat.le_refl _) _)) (unhide HQ))
     ·have e2 : ((t.k : Int) == 2) = false := beqF (c := 2) hk2
      have HT : Hid (tells y (if t.k = 2 then fName A t.s t.p else []) = y) := by show _ = _; rw [if_neg hk2]; rfl
      clear hk2
      go_wp2_with fail
      go_meet
      rw [unhide HT]
      exact ⟨(unhide HCR).alloc _, (unhide HFR).trans (CF.below ((Below.refl _ _).alloc (Nat.le_refl _) _)), QS.keep (unhide HCR) (CF.below (cb := cb) (B := B) ((Below.refl _ _).alloc (Nat.le_refl _) _)) (unhide HQ), blk_alloc _ _⟩
    case rest =>
     clear kc tc c0 c1 c2
     obtain ⟨hc4, hf4, hq4, hbx4⟩ := hcut
     have htx4 := hq4.tx
     have htl4 := lt_of_blk htx4
     have hxl4 := lt_of_blk hbx4
     have tc := fun o => cell_of_blk htx4 o
     have xc := fun o => cell_of_blk hbx4 o
     have HC4 := hide hc4
     have HF4 := hide hf4
     have HQ4 := hide hq4
     have HBX4 := hide hbx4
     clear hc4 hf4 hbx4 htx4
     generalize wr.heap.size = xb at *
     by_cases hkn : (tplTakes n).length ≤ k
     ·have hge : ((tkL n : Nat) : Int) ≤ (k : Int) := by rw [← unhide HTL]; omega
      have HBAD := hide (badArg_nil (t := t) hkn)
      go_wp2_with fail
      refine wp_region_held_drew (S := fun w' => w'.cell? ⟨w2.heap.size, 1, none⟩ = some (.slice (some ⟨tkB b n, 0, none⟩) (tkL n) (tkL n)) ∧ w'.cell? ⟨xb, 0, none⟩ = some (.int .i64 t.k) ∧ w'.cell? ⟨xb, 1, none⟩ = some (.string t.s) ∧ w'.cell? ⟨xb, 2, none⟩ = some (.int .i64 t.p)) (by kernel_rfl) ?_ (fun hHeld => ?_)
      ·exact ⟨tc 1, xc 0, xc 1, xc 2⟩
      refine wpAnyH_take (i := 0) (v := .int .i64 (k : Int)) rfl (by kernel_rfl) (by kernel_rfl) (by kernel_rfl) (fun _ _ _ h => h) (Or.inl ⟨by kernel_rfl, fun w hw => by obtain ⟨s0, s1, s2, s3⟩ := hw; go_simp⟩) hHeld ?_
      try simp only [Act.put, zA, zB, zC, zD, zE, zF]
      refine wpAnyH_take (i := 1) (v := .pointer (some ⟨w2.heap.size, 1, none⟩)) rfl (by kernel_rfl) (by kernel_rfl) (by kernel_rfl) (fun _ _ _ h => h) (Or.inl ⟨by kernel_rfl, fun w hw => by obtain ⟨s0, s1, s2, s3⟩ := hw; go_simp⟩) hHeld ?_
      try simp only [Act.put, zA, zB, zC, zD, zE, zF]
      refine wpAnyH_take (i := 2) (v := .slice (some ⟨tkB b n, 0, none⟩) (tkL n) (tkL n)) rfl (by kernel_rfl) (by kernel_rfl) (by kernel_rfl) (fun _ _ _ h => h) (Or.inl ⟨by kernel_rfl, fun w hw => by obtain ⟨s0, s1, s2, s3⟩ := hw; go_simp⟩) hHeld ?_
      try simp only [Act.put, zA, zB, zC, zD, zE, zF]
      refine wpAnyH_take (i := 3) (v := .int .i64 (tkL n : Int)) rfl (by kernel_rfl) (by kernel_rfl) (by kernel_rfl) (fun _ _ _ h => h) (Or.inl ⟨by kernel_rfl, fun w hw => by obtain ⟨s0, s1, s2, s3⟩ := hw; go_simp⟩) hHeld ?_
      try simp only [Act.put, zA, zB, zC, zD, zE, zF]
      refine wpAnyH_take (i := 4) (v := .bool true) rfl (by kernel_rfl) (by kernel_rfl) (by kernel_rfl) (fun _ _ _ h => h) (Or.inl ⟨by kernel_rfl, fun w hw => by obtain ⟨s0, s1, s2, s3⟩ := hw; go_simp⟩) hHeld ?_
      try simp only [Act.put, zA, zB, zC, zD, zE, zF]
      refine wpAnyH_take (i := 5) (v := .bool true) rfl (by kernel_rfl) (by kernel_rfl) (by kernel_rfl) (fun _ _ _ h => h) (Or.inl ⟨by kernel_rfl, fun w hw => by obtain ⟨s0, s1, s2, s3⟩ := hw; go_simp⟩) hHeld ?_
      try simp only [Act.put, zA, zB, zC, zD, zE, zF]
      refine wpAnyH_take (i := 6) (v := undef) rfl (by kernel_rfl) (by kernel_rfl) (by kernel_rfl) (fun _ _ _ h => h) (Or.inr ⟨by kernel_rfl, rfl⟩) hHeld ?_
      try simp only [Act.put, zA, zB, zC, zD, zE, zF]
      refine wpAnyH_take (i := 7) (v := undef) rfl (by kernel_rfl) (by kernel_rfl) (by kernel_rfl) (fun _ _ _ h => h) (Or.inr ⟨by kernel_rfl, rfl⟩) hHeld ?_
      try simp only [Act.put, zA, zB, zC, zD, zE, zF]
      refine wpAnyH_take (i := 8) (v := undef) rfl (by kernel_rfl) (by kernel_rfl) (by kernel_rfl) (fun _ _ _ h => h) (Or.inr ⟨by kernel_rfl, rfl⟩) hHeld ?_
      try simp only [Act.put, zA, zB, zC, zD, zE, zF]
      refine wpAnyH_take (i := 9) (v := undef) rfl (by kernel_rfl) (by kernel_rfl) (by kernel_rfl) (fun _ _ _ h => h) (Or.inr ⟨by kernel_rfl, rfl⟩) hHeld ?_
      try simp only [Act.put, zA, zB, zC, zD, zE, zF]
      refine wpAnyH_take (i := 10) (v := undef) rfl (by kernel_rfl) (by kernel_rfl) (by kernel_rfl) (fun _ _ _ h => h) (Or.inr ⟨by kernel_rfl, rfl⟩) hHeld ?_
      try simp only [Act.put, zA, zB, zC, zD, zE, zF]
      refine wpAnyH_take (i := 11) (v := undef) rfl (by kernel_rfl) (by kernel_rfl) (by kernel_rfl) (fun _ _ _ h => h) (Or.inr ⟨by kernel_rfl, rfl⟩) hHeld ?_
      try simp only [Act.put, zA, zB, zC, zD, zE, zF]
      refine wpAnyH_take (i := 12) (v := undef) rfl (by kernel_rfl) (by kernel_rfl) (by kernel_rfl) (fun _ _ _ h => h) (Or.inr ⟨by kernel_rfl, rfl⟩) hHeld ?_
      try simp only [Act.put, zA, zB, zC, zD, zE, zF]
      refine wpAnyH_take (i := 13) (v := undef) rfl (by kernel_rfl) (by kernel_rfl) (by kernel_rfl) (fun _ _ _ h => h) (Or.inr ⟨by kernel_rfl, rfl⟩) hHeld ?_
      try simp only [Act.put, zA, zB, zC, zD, zE, zF]
      refine wpAnyH_take (i := 14) (v := .bool true) rfl (by kernel_rfl) (by kernel_rfl) (by kernel_rfl) (fun _ _ _ h => h) (Or.inl ⟨by kernel_rfl, fun w hw => by obtain ⟨s0, s1, s2, s3⟩ := hw; go_simp⟩) hHeld ?_
      try simp only [Act.put, zA, zB, zC, zD, zE, zF]
      refine wpAnyH_done (by kernel_rfl) ?_ _
      clear hHeld
      clear tc xc
      have xc := fun o => cell_of_blk (unhide HBX4) o
      go_wp2_with fail
      refine (tell_any _ cb B A _ t.p 4 ((unhide HC4).later (Below.refl _ _).drew)).mono ?_
      rintro e w5 ⟨rfl, hc5, hg5⟩
      have HC5 := hide hc5
      have HF5 := hide ((CF.below (cb := cb) (B := B) (Below.refl wc.heap.size wc).drew).trans (CF.grown hg5))
      clear hc5 hg5
      go_wp2_with fail
      go_roundw
      case rel =>
       refine ⟨k + 1, _, by go_num, by omega, unhide HC5, (unhide HF4).trans (unhide HF5), ?_, QS.keep (unhide HC4) (unhide HF5) (unhide HQ4)⟩
       show _ = _
       rw [unhide HY, unhide HFA, tells_append, fArg, unhide HBAD, if_pos rfl, tells_append]; rfl
      case measure => simp [intOf]; omega
     ·have hlk : k < (tplTakes n).length := by omega
      obtain ⟨c, rc, hcd⟩ : ∃ c rc, (tplTakes n).drop k = c :: rc := by
       cases hd : (tplTakes n).drop k with
       | nil => have := congrArg List.length hd; simp at this; omega
       | cons c rc => exact ⟨c, rc, rfl⟩
      have hlk2 : k < tkL n := by rw [← unhide HTL]; exact hlk
      obtain ⟨pc, hcc, htkl⟩ := tk_cell hq4.tk hn hcd
      have hge : ¬ ((tkL n : Nat) : Int) ≤ (k : Int) := by rw [← unhide HTL]; omega
      have hbd := badArg_drop (t := t) hcd
      obtain ⟨v, hv⟩ : ∃ v, v = badArg [c] t := ⟨_, rfl⟩
      have HFIT := hide (fun W => fits_any t c W hcc (unhide HOK))
      rw [← hv] at hbd HFIT
      have HBAD := hide hbd
      clear hq4 hcd hbd hv hkn
      go_wp2_with fail
      refine wp_region_held_drew (S := fun w' => w'.cell? ⟨w2.heap.size, 1, none⟩ = some (.slice (some ⟨tkB b n, 0, none⟩) (tkL n) (tkL n)) ∧ w'.cell? ⟨xb, 0, none⟩ = some (.int .i64 t.k) ∧ w'.cell? ⟨xb, 1, none⟩ = some (.string t.s) ∧ w'.cell? ⟨xb, 2, none⟩ = some (.int .i64 t.p) ∧ w'.cell? ⟨tkB b n, k, none⟩ = some (.int .i64 (parm c))) (by kernel_rfl) ?_ (fun hHeld => ?_)
      ·exact ⟨tc 1, xc 0, xc 1, xc 2, pc⟩
      refine wpAnyH_take (i := 0) (v := .int .i64 (k : Int)) rfl (by kernel_rfl) (by kernel_rfl) (by kernel_rfl) (fun _ _ _ h => h) (Or.inl ⟨by kernel_rfl, fun w hw => by obtain ⟨s0, s1, s2, s3, s4⟩ := hw; go_simp⟩) hHeld ?_
      try simp only [Act.put, zA, zB, zC, zD, zE, zF]
      refine wpAnyH_take (i := 1) (v := .pointer (some ⟨w2.heap.size, 1, none⟩)) rfl (by kernel_rfl) (by kernel_rfl) (by kernel_rfl) (fun _ _ _ h => h) (Or.inl ⟨by kernel_rfl, fun w hw => by obtain ⟨s0, s1, s2, s3, s4⟩ := hw; go_simp⟩) hHeld ?_
      try simp only [Act.put, zA, zB, zC, zD, zE, zF]
      refine wpAnyH_take (i := 2) (v := .slice (some ⟨tkB b n, 0, none⟩) (tkL n) (tkL n)) rfl (by kernel_rfl) (by kernel_rfl) (by kernel_rfl) (fun _ _ _ h => h) (Or.inl ⟨by kernel_rfl, fun w hw => by obtain ⟨s0, s1, s2, s3, s4⟩ := hw; go_simp⟩) hHeld ?_
      try simp only [Act.put, zA, zB, zC, zD, zE, zF]
      refine wpAnyH_take (i := 3) (v := .int .i64 (tkL n : Int)) rfl (by kernel_rfl) (by kernel_rfl) (by kernel_rfl) (fun _ _ _ h => h) (Or.inl ⟨by kernel_rfl, fun w hw => by obtain ⟨s0, s1, s2, s3, s4⟩ := hw; go_simp⟩) hHeld ?_
      try simp only [Act.put, zA, zB, zC, zD, zE, zF]
      refine wpAnyH_take (i := 4) (v := .bool false) rfl (by kernel_rfl) (by kernel_rfl) (by kernel_rfl) (fun _ _ _ h => h) (Or.inl ⟨by kernel_rfl, fun w hw => by obtain ⟨s0, s1, s2, s3, s4⟩ := hw; go_simp⟩) hHeld ?_
      try simp only [Act.put, zA, zB, zC, zD, zE, zF]
      refine wpAnyH_take (i := 5) (v := .bool false) rfl (by kernel_rfl) (by kernel_rfl) (by kernel_rfl) (fun _ _ _ h => h) (Or.inl ⟨by kernel_rfl, fun w hw => by obtain ⟨s0, s1, s2, s3, s4⟩ := hw; go_simp⟩) hHeld ?_
      try simp only [Act.put, zA, zB, zC, zD, zE, zF]
      refine wpAnyH_take (i := 6) (v := .agg #[.int .i64 t.k, .string t.s, .int .i64 t.p]) rfl (by kernel_rfl) (by kernel_rfl) (by kernel_rfl) (fun _ _ _ h => h) (Or.inl ⟨by kernel_rfl, fun w hw => by obtain ⟨s0, s1, s2, s3, s4⟩ := hw; go_simp⟩) hHeld ?_
      try simp only [Act.put, zA, zB, zC, zD, zE, zF]
      refine wpAnyH_take (i := 7) (v := .pointer (some ⟨w2.heap.size, 1, none⟩)) rfl (by kernel_rfl) (by kernel_rfl) (by kernel_rfl) (fun _ _ _ h => h) (Or.inl ⟨by kernel_rfl, fun w hw => by obtain ⟨s0, s1, s2, s3, s4⟩ := hw; go_simp⟩) hHeld ?_
      try simp only [Act.put, zA, zB, zC, zD, zE, zF]
      refine wpAnyH_take (i := 8) (v := .slice (some ⟨tkB b n, 0, none⟩) (tkL n) (tkL n)) rfl (by kernel_rfl) (by kernel_rfl) (by kernel_rfl) (fun _ _ _ h => h) (Or.inl ⟨by kernel_rfl, fun w hw => by obtain ⟨s0, s1, s2, s3, s4⟩ := hw; go_simp⟩) hHeld ?_
      try simp only [Act.put, zA, zB, zC, zD, zE, zF]
      refine wpAnyH_take (i := 9) (v := .int .i64 (k : Int)) rfl (by kernel_rfl) (by kernel_rfl) (by kernel_rfl) (fun _ _ _ h => h) (Or.inl ⟨by kernel_rfl, fun w hw => by obtain ⟨s0, s1, s2, s3, s4⟩ := hw; go_simp⟩) hHeld ?_
      try simp only [Act.put, zA, zB, zC, zD, zE, zF]
      refine wpAnyH_take (i := 10) (v := .pointer (some ⟨tkB b n, k, none⟩)) rfl (by kernel_rfl) (by kernel_rfl) (by kernel_rfl) (fun _ _ _ h => h) (Or.inl ⟨by kernel_rfl, fun w hw => by obtain ⟨s0, s1, s2, s3, s4⟩ := hw; go_simp⟩) hHeld ?_
      try simp only [Act.put, zA, zB, zC, zD, zE, zF]
      refine wpAnyH_take (i := 11) (v := .int .i64 (parm c)) rfl (by kernel_rfl) (by kernel_rfl) (by kernel_rfl) (fun _ _ _ h => h) (Or.inl ⟨by kernel_rfl, fun w hw => by obtain ⟨s0, s1, s2, s3, s4⟩ := hw; go_simp⟩) hHeld ?_
      try simp only [Act.put, zA, zB, zC, zD, zE, zF]
      refine wpAnyH_ready (rs := [12]) (by kernel_rfl) (by simp) ?_
      refine AllReadyH.cons rfl (fun K hK => ?_) AllReadyH.nil
      go_simp
      go_wp2_with (go_at_call 194; refine (unhide HFIT _).mono ?_; rintro e w5 ⟨rfl, hb5⟩)
      have hs5 : w5.cell? ⟨w2.heap.size, 1, none⟩ = some (.slice (some ⟨tkB b n, 0, none⟩) (tkL n) (tkL n)) ∧ w5.cell? ⟨xb, 0, none⟩ = some (.int .i64 t.k) ∧ w5.cell? ⟨xb, 1, none⟩ = some (.string t.s) ∧ w5.cell? ⟨xb, 2, none⟩ = some (.int .i64 t.p) ∧ w5.cell? ⟨tkB b n, k, none⟩ = some (.int .i64 (parm c)) :=
       ⟨(bcell3 hb5 _ _ htl4).trans (tc 1), (bcell3 hb5 _ _ hxl4).trans (xc 0), (bcell3 hb5 _ _ hxl4).trans (xc 1), (bcell3 hb5 _ _ hxl4).trans (xc 2), (bcell3 hb5 _ _ htkl).trans pc⟩
      refine hK.out _ _ hs5 (fun hHeld => ?_)
      clear hK K hs5
      have HC5 := hide ((unhide HC4).later (((Below.refl _ _).drew).trans hb5))
      have HF5 := hide (CF.below (cb := cb) (B := B) (((Below.refl wc.heap.size wc).drew).trans hb5))
      have hbx5 := (hb5.block _ hxl4).trans (unhide HBX4)
      have HBX5 := hide hbx5
      have hxl5 : xb < w5.heap.size := lt_of_blk hbx5
      clear hb5 hbx5 tc xc pc
      refine wpAnyH_take (i := 13) (v := .bool v) rfl (by kernel_rfl) (by kernel_rfl) (by kernel_rfl) (fun _ _ _ h => h) (Or.inl ⟨by kernel_rfl, fun w hw => by obtain ⟨s0, s1, s2, s3, s4⟩ := hw; go_simp⟩) hHeld ?_
      try simp only [Act.put, zA, zB, zC, zD, zE, zF]
      refine wpAnyH_take (i := 14) (v := .bool v) rfl (by kernel_rfl) (by kernel_rfl) (by kernel_rfl) (fun _ _ _ h => h) (Or.inl ⟨by kernel_rfl, fun w hw => by obtain ⟨s0, s1, s2, s3, s4⟩ := hw; go_simp⟩) hHeld ?_
      try simp only [Act.put, zA, zB, zC, zD, zE, zF]
      refine wpAnyH_done (by kernel_rfl) ?_ _
      clear hHeld
      have xc := fun o => cell_of_blk (unhide HBX5) o
      cases v with
      | true =>
       go_wp2_with fail
       refine (tell_any _ cb B A _ t.p 4 (unhide HC5)).mono ?_
       rintro e w6 ⟨rfl, hc6, hg6⟩
       have HC6 := hide hc6
       have HF6 := hide ((unhide HF5).trans (CF.grown hg6))
       clear hc6 hg6
       go_wp2_with fail
       go_roundw
       case rel =>
        refine ⟨k + 1, _, by go_num, by omega, unhide HC6, (unhide HF4).trans (unhide HF6), ?_, QS.keep (unhide HC4) (unhide HF6) (unhide HQ4)⟩
        show _ = _
        rw [unhide HY, unhide HFA, tells_append, fArg, unhide HBAD, if_pos rfl, tells_append]; rfl
       case measure => simp [intOf]; omega
      | false =>
       go_wp2_with fail
       go_roundw
       case rel =>
        refine ⟨k + 1, _, by go_num, by omega, unhide HC5, (unhide HF4).trans (unhide HF5), ?_, QS.keep (unhide HC4) (unhide HF5) (unhide HQ4)⟩
        show _ = _
        rw [unhide HY, unhide HFA, tells_append, fArg, unhide HBAD, tells_append]; rfl
       case measure => simp [intOf]; omega
   ·have hke : r.args.length ≤ k := by omega
    have HYY : Hid (tells (tells x (fLong r.word)) (fArgs A (tplTakes n) r.args) = y) := by
     show _ = _
     rw [unhide HY, List.drop_eq_nil_of_le hke, fArgs]; rfl
    clear hcr hfr hq hkx htx
    by_cases hll : r.args.length < (tplTakes n).length
    ·have hll' : (r.args.length : Int) < ((tkL n : Nat) : Int) := by rw [← unhide HTL]; omega
     have HLL := hide hll
     clear hll
     go_wp2_with fail
     go_quiet (fail)
     go_wp2_with fail
     refine (tell_any _ cb B A _ xx.p 4 ((unhide HCR).later (bdn _ _))).mono ?_
     rintro e w6 ⟨rfl, hc6, hg6⟩
     have HC6 := hide hc6
     have HF6 := hide ((CF.below (cb := cb) (B := B) (bdn wr nq)).trans (CF.grown hg6))
     clear hc6 hg6
     go_wp2_with fail
     go_end0
     rw [unhide HPC, unhide HYY, if_pos (unhide HLL), tells_one, ← unhide HX]
     exact ⟨rfl, unhide HC6, (unhide HFR).trans (unhide HF6)⟩
    ·have hll' : ¬ (r.args.length : Int) < ((tkL n : Nat) : Int) := by rw [← unhide HTL]; omega
     have HLL := hide hll
     clear hll
     go_wp2_with fail
     go_quiet (fail)
     go_wp2_with fail
     go_end0
     rw [unhide HPC, unhide HYY, if_neg (unhide HLL), tells_nil]
     exact ⟨rfl, (unhide HCR).later (bdn _ _), (unhide HFR).trans (CF.below (bdn _ _))⟩
 ·have HPC : Hid (tells x (pCall A r) = tell (tells x (fLong r.word)) r.word.p 3) := by
   show _ = _
   unfold pCall
   rw [if_neg hn, tells_append]; rfl
  clear hn
  go_wp2_with fail
  refine (tell_any _ cb B A _ r.word.p 3 ((unhide HC2).alloc _)).mono ?_
  rintro e w3 ⟨rfl, hc3, hg3⟩
  have HC3 := hide hc3
  have HG3 := hide hg3
  clear hc3 hg3
  go_wp2_with fail
  refine bodyPost_ret (v := .tuple #[]) (by simp [results, Tryz.results160, go_sem]) rfl ?_
  rw [unhide HPC]
  exact ⟨rfl, unhide HC3, ((unhide HF2).trans (CF.below ((Below.refl _ _).alloc (Nat.le_refl _) _))).trans (CF.grown (unhide HG3))⟩
theorem KQ.cf {w w' : World} {cb B : Nat} {A : List Tk} {x : Nat × Nat} (hc : CK w cb B A x) (hf : CF cb B w w') : KQ w w' := fun b c ty m hb ht =>
 keepC hc hf hb (by rcases ht with rfl | rfl | rfl <;> decide) (by rcases ht with rfl | rfl | rfl <;> decide)
def nmsR (r : Rl) : List Tk := if r.call = true then [] else lvs r.f
theorem RsIs.names {w : World} {r : Rl} {fp no : Option Addr} {nn nc : Nat} {cp : Option Addr} (h : RsIs w r fp no nn nc cp) : w.ownsRow 0 201 3 (.slice no nn nc) (nmsR r).length (tkCellsP (nmsR r)) := by
 unfold RsIs at h
 unfold nmsR
 by_cases hc : r.call = true
 ·rw [if_pos hc] at h
  obtain ⟨_, rfl, rfl, rfl, _⟩ := h
  rw [if_pos hc]; exact World.ownsRow_nil _ _ _ _
 ·rw [if_neg hc] at h
  rw [if_neg hc]; exact h.2.2
theorem row_tkP {w : World} {no : Option Addr} {nn nc : Nat} {L : List Tk} (h : w.ownsRow 0 201 3 (.slice no nn nc) L.length (tkCellsP L)) : nn = L.length ∧ (L ≠ [] → ∃ g, no = some ⟨g, 0, none⟩ ∧ L.length ≤ nc ∧ nc ≤ maxLen ∧ ∃ cur, w.heap[g]? = some (.cells cur 201 (0, 0)) ∧ cur.toList.take (L.length * 3) = tkCellsP L) := by
 obtain ⟨_, h2 | ⟨g, cap, cur, hv, _, hh, hle, hcap, _, htake⟩⟩ := h
 ·obtain ⟨h3, h4⟩ := h2
  cases h3
  exact ⟨h4.symm, fun hne => absurd (List.length_eq_zero_iff.1 h4) hne⟩
 ·cases hv
  exact ⟨rfl, fun _ => ⟨g, rfl, hle, hcap, cur, hh, htake⟩⟩
def RlArgs (r : Rl) : Prop := r.call = true → (∀ t ∈ r.args, ArgOk t) ∧ r.args.length ≤ 2 ∧ r.args ≠ []
set_option maxHeartbeats 8000000 in
set_option maxRecDepth 100000 in
theorem checkRule_any (w : World) (cb B : Nat) (A : List Tk) (x : Nat × Nat) (i : Nat) (r : Rl) (tk : Int) (ts : ByteArray) (fp no : Option Addr) (nn nc : Nat) (cp : Option Addr) (h : CK w cb B A x) (hr : RsIs w r fp no nn nc cp) (hargs : RlArgs r) :
  Calls Tryz.prog 116 #[.pointer (some ⟨cb, 0, none⟩), .int .i64 (i : Int), .agg #[.int .i64 tk, .string ts, .int .i64 (r.pl : Int), .pointer fp, .slice no nn nc, .pointer cp]] w fun e w' => e = .returned (.tuple #[]) ∧ CK w' cb B A (tells x (pRule A i r)) ∧ CF cb B w w' := by
 have HC := hide h
 have HR := hide hr
 have HARG := hide hargs
 have hcl := h.lt
 obtain ⟨hnn, hrow⟩ := row_tkP hr.names
 have HROW := hide hrow
 have hnn1 : nn ≤ (nmsR r).length := by omega
 have hnn2 : (nmsR r).length ≤ nn := by omega
 clear h hr hargs hrow hnn
 go_enter Tryz.func116, Tryz.ntmps116
 go_upto_if 9 with fail
 go_cut [] (fun wc => CK wc cb B A (tells x (if 4 ≤ i then [(r.pl, 4)] else [])) ∧ CF cb B w wc ∧ wc.heap[w.heap.size]? = some (.cells #[.int .i64 tk, .string ts, .int .i64 (r.pl : Int), .pointer fp, .slice no nn nc, .pointer cp] 205 (0, 0)))
 case first =>
  by_cases h4 : 4 ≤ i
  ·have h4' : (4 : Int) ≤ (i : Int) := by omega
   have HT : Hid (tells x (if 4 ≤ i then [(r.pl, 4)] else []) = tell x r.pl 4) := by show _ = _; rw [if_pos h4]; rfl
   clear h4
   go_wp2_with fail
   refine (tell_any _ cb B A x r.pl 4 ((unhide HC).alloc _)).mono ?_
   rintro e w1 ⟨rfl, hc1, hg1⟩
   have HC1 := hide hc1
   have HG1 := hide hg1
   clear hc1 hg1
   go_wp2_with fail
   go_meet
   rw [unhide HT]
   exact ⟨unhide HC1, (CF.below ((Below.refl _ _).alloc (Nat.le_refl _) _)).trans (CF.grown (unhide HG1)), ((unhide HG1).block _ (by simp) (by simp; omega)).trans (blk_alloc _ _)⟩
  ·have h4' : ¬ (4 : Int) ≤ (i : Int) := by omega
   have HT : Hid (tells x (if 4 ≤ i then [(r.pl, 4)] else []) = x) := by show _ = _; rw [if_neg h4]; rfl
   clear h4
   go_wp2_with fail
   go_meet
   rw [unhide HT]
   exact ⟨(unhide HC).alloc _, CF.below ((Below.refl _ _).alloc (Nat.le_refl _) _), blk_alloc _ _⟩
 case rest =>
  obtain ⟨hc1, hf1, hbx1⟩ := hcut
  have HBX1 := hide hbx1
  have HC1 := hide hc1
  have HF1 := hide hf1
  have hxl1 := lt_of_blk hbx1
  have xc := fun o => cell_of_blk hbx1 o
  have HPR : Hid (tells x (pRule A i r) = tells (tells (tells x (if 4 ≤ i then [(r.pl, 4)] else [])) ((nmsR r).flatMap (fun t => fName A t.s t.p))) (if r.call = true then pCall A r else [])) := by
   show _ = _
   unfold pRule nmsR
   rw [tells_append]
   by_cases hc : r.call = true
   ·rw [if_pos hc, if_pos hc, if_pos hc]; rfl
   ·rw [if_neg hc, if_neg hc, if_neg hc]; rfl
  generalize tells x (if 4 ≤ i then [(r.pl, 4)] else []) = x1 at *
  generalize nmsR r = NMS at *
  clear hc1 hf1 hbx1
  generalize wc = w1 at *
  go_wp2_with fail
  go_loopw [18] (fun i wr => ∃ (k : Nat) (y : Nat × Nat), i = .int .i64 (k : Int) ∧ k ≤ NMS.length ∧ CK wr cb B A y ∧ CF cb B w wr ∧ Hid (tells x1 (NMS.flatMap (fun t => fName A t.s t.p)) = tells y ((NMS.drop k).flatMap (fun t => fName A t.s t.p))) ∧ wr.heap[w.heap.size]? = some (.cells #[.int .i64 tk, .string ts, .int .i64 (r.pl : Int), .pointer fp, .slice no nn nc, .pointer cp] 205 (0, 0))) (fun i _ => NMS.length - (intOf i).toNat)
  case atStart => exact ⟨0, x1, rfl, Nat.zero_le _, unhide HC1, unhide HF1, rfl, unhide HBX1⟩
  case round =>
   clear xc
   obtain ⟨k, y, rfl, hkk, hcr, hfr, HY, hbx⟩ := hrel
   have HCR := hide hcr
   have HFR := hide hfr
   have HBX := hide hbx
   have hxl := lt_of_blk hbx
   have xc := fun o => cell_of_blk hbx o
   clear hcr hfr hbx
   by_cases hlt : k < NMS.length
   ·obtain ⟨t, rr, ht⟩ : ∃ t rr, NMS.drop k = t :: rr := by
     cases hd : NMS.drop k with
     | nil => have := congrArg List.length hd; simp at this; omega
     | cons t rr => exact ⟨t, rr, rfl⟩
    obtain ⟨g, hno, hle, hcap, hrw⟩ := unhide HROW (by intro e; rw [e] at hlt; simp at hlt)
    unfold maxLen at hcap
    have hrw2 : ∃ cur, wr.heap[g]? = some (.cells cur 201 (0, 0)) ∧ cur.toList.take (NMS.length * 3) = tkCellsP NMS := by
     obtain ⟨cur, h1, h2⟩ := hrw
     exact ⟨cur, KQ.cf (unhide HC) (unhide HFR) _ _ _ _ h1 (Or.inl rfl), h2⟩
    have hgl : g < wr.heap.size := by obtain ⟨cur, h1, _⟩ := hrw2; exact lt_of_blk h1
    obtain ⟨c0, c1, c2⟩ := row_tok hrw2 ht
    subst hno
    have HFA : Hid ((NMS.drop k).flatMap (fun t => fName A t.s t.p) = fName A t.s t.p ++ (NMS.drop (k + 1)).flatMap (fun t => fName A t.s t.p)) := by show _ = _; rw [ht, dropTl ht, List.flatMap_cons]
    have hnn' : (k : Int) < (nn : Int) := by omega
    clear ht hrw hrw2
    go_wp2_with fail
    refine (checkKnown_any _ cb B A y t ((unhide HCR).alloc _)).mono ?_
    rintro e w3 ⟨rfl, hc3, hf3⟩
    have HC3 := hide hc3
    have HF3 := hide ((CF.below (cb := cb) (B := B) ((Below.refl wr.heap.size wr).alloc (Nat.le_refl _) (.cells #[.int .i64 t.k, .string t.s, .int .i64 t.p] 201))).trans hf3)
    clear hc3 hf3
    go_wp2_with fail
    go_roundw
    case rel =>
     exact ⟨k + 1, _, by go_num, by omega, unhide HC3, (unhide HFR).trans (unhide HF3), by show _ = _; rw [unhide HY, unhide HFA, tells_append], keepC (unhide HCR) (unhide HF3) (unhide HBX) (by decide) (by decide)⟩
    case measure => simp [intOf]; omega
   ·have hke : NMS.length ≤ k := by omega
    have HYY : Hid (tells x1 (NMS.flatMap (fun t => fName A t.s t.p)) = y) := by show _ = _; rw [unhide HY, List.drop_eq_nil_of_le hke]; rfl
    have hnn' : ¬ (k : Int) < (nn : Int) := by omega
    by_cases hcall : r.call = true
    ·have hrs := unhide HR
     unfold RsIs at hrs
     rw [if_pos hcall] at hrs
     obtain ⟨⟨kb, ao, an, ac, xx, hcp, hkx, hxx, hao⟩, _⟩ := hrs
     obtain ⟨hA1, hA2, hA3⟩ := unhide HARG hcall
     obtain ⟨han, harow⟩ := row_tkP hao
     obtain ⟨g, hg1, _, _, hg4⟩ := harow hA3
     subst hcp han hg1
     have hkq := KQ.cf (unhide HC) (unhide HFR)
     have HKX := hide (hkq _ _ _ _ hkx (Or.inr (Or.inl rfl)))
     have HGX : Hid (∃ cur, wr.heap[g]? = some (.cells cur 201 (0, 0)) ∧ cur.toList.take (r.args.length * 3) = tkCellsP r.args) := by
      obtain ⟨cur, h1, h2⟩ := hg4
      exact ⟨cur, hkq _ _ _ _ h1 (Or.inl rfl), h2⟩
     have HXX := hide hxx
     have HA1 := hide hA1
     have HFIN : Hid (tells x (pRule A i r) = tells y (pCall A r)) := by show _ = _; rw [unhide HPR, unhide HYY, if_pos hcall]
     clear hkx hxx hg4 hao harow hA1 hA3 hcall hkq
     go_wp2_with fail
     refine (checkCall_any _ cb B A y r kb g ac xx (unhide HCR) (unhide HKX) (unhide HXX) (unhide HGX) (unhide HA1) hA2).mono ?_
     rintro e w3 ⟨rfl, hc3, hf3⟩
     have HC3 := hide hc3
     have HF3 := hide hf3
     clear hc3 hf3
     go_wp2_with fail
     go_end0
     rw [unhide HFIN]
     exact ⟨rfl, unhide HC3, (unhide HFR).trans (unhide HF3)⟩
    ·have hrs := unhide HR
     unfold RsIs at hrs
     rw [if_neg hcall] at hrs
     have hcp := hrs.1
     subst hcp
     have HFIN : Hid (tells x (pRule A i r) = y) := by show _ = _; rw [unhide HPR, unhide HYY, if_neg hcall]; rfl
     clear hrs hcall
     go_wp2_with fail
     go_end0
     rw [unhide HFIN]
     exact ⟨rfl, unhide HCR, unhide HFR⟩
theorem rulesP_at {w : World} : ∀ {rs : List Rl} {cs : List Value} (k : Nat) {r : Rl} {rr : List Rl}, RulesP w rs cs → rs.drop k = r :: rr → ∃ kk s fp no nn nc cp, cs[k * 6]? = some (.int .i64 kk) ∧ cs[k * 6 + 1]? = some (.string s) ∧ cs[k * 6 + 2]? = some (.int .i64 r.pl) ∧ cs[k * 6 + 3]? = some (.pointer fp) ∧ cs[k * 6 + 4]? = some (.slice no nn nc) ∧ cs[k * 6 + 5]? = some (.pointer cp) ∧ RsIs w r fp no nn nc cp
 | [], _, _, _, _, _, h => by simp at h
 | r0 :: rs, _, 0, _, _, ⟨kk, s, fp, no, nn, nc, cp, rest, e, h1, _⟩, h => by
  cases h; subst e
  exact ⟨kk, s, fp, no, nn, nc, cp, rfl, rfl, rfl, rfl, rfl, rfl, h1⟩
 | r0 :: rs, _, k + 1, _, _, ⟨_, _, _, _, _, _, _, rest, e, _, h2⟩, h => by
  obtain ⟨kk, s, fp, no, nn, nc, cp, g0, g1, g2, g3, g4, g5, g6⟩ := rulesP_at k h2 (by simpa using h)
  subst e
  have e0 : (k + 1) * 6 = k * 6 + 6 := by omega
  refine ⟨kk, s, fp, no, nn, nc, cp, ?_, ?_, ?_, ?_, ?_, ?_, g6⟩
  ·rw [e0]; exact g0
  ·rw [e0]; exact g1
  ·rw [e0]; exact g2
  ·rw [e0]; exact g3
  ·rw [e0]; exact g4
  ·rw [e0]; exact g5
theorem row_ruP {w : World} {no : Option Addr} {nn nc n : Nat} {cs : List Value} (h : w.ownsRow 0 205 6 (.slice no nn nc) n cs) : nn = n ∧ (n ≠ 0 → ∃ g, no = some ⟨g, 0, none⟩ ∧ n ≤ nc ∧ nc ≤ maxLen ∧ ∃ cur, w.heap[g]? = some (.cells cur 205 (0, 0)) ∧ cur.toList.take (n * 6) = cs) := by
 obtain ⟨_, h2 | ⟨g, cap, cur, hv, _, hh, hle, hcap, _, htake⟩⟩ := h
 ·obtain ⟨h3, h4⟩ := h2
  cases h3
  exact ⟨h4.symm, fun hne => absurd h4 hne⟩
 ·cases hv
  exact ⟨rfl, fun _ => ⟨g, rfl, hle, hcap, cur, hh, htake⟩⟩
theorem take_at {cur : Array Value} {cs : List Value} {n k o : Nat} {v : Value} (h : cur.toList.take n = cs) (hk : k + o < n) (hc : cs[k + o]? = some v) : cur[k + o]? = some v := by
 rw [← h, List.getElem?_take, if_pos hk] at hc
 rw [← Array.getElem?_toList]; exact hc
set_option maxHeartbeats 8000000 in
set_option maxRecDepth 100000 in
theorem check_any (w : World) (al : List Tk) (rs : List Rl) (o1 : Option Addr) (n1 k1 : Nat) (o2 : Option Addr) (n2 k2 : Nat) (cells : List Value) (ha : w.ownsRow 0 201 3 (.slice o1 n1 k1) al.length (tkCellsP al)) (hr : w.ownsRow 0 205 6 (.slice o2 n2 k2) rs.length cells) (hp : RulesP w rs cells) (hg : ∀ r ∈ rs, RlArgs r) (hal : al.length ≤ 401) (hrs : rs.length ≤ 401) :
  Calls Tryz.prog 70 #[.agg #[.slice o1 n1 k1, .slice o2 n2 k2]] w fun e w' => e = .returned (.agg #[.int .i64 ((tells (0, 0) (pFaults al rs)).1 : Nat), .int .i64 ((tells (0, 0) (pFaults al rs)).2 : Nat)]) ∧ Below w.heap.size w w' := by
 obtain ⟨hn1, hrow1⟩ := row_tkP ha
 obtain ⟨hn2, hrow2⟩ := row_ruP hr
 have hn1a : n1 ≤ al.length := by omega
 have hn1b : al.length ≤ n1 := by omega
 have hn2a : n2 ≤ rs.length := by omega
 have hn2b : rs.length ≤ n2 := by omega
 have HROW1 := hide hrow1
 have HROW2 := hide hrow2
 have HP := hide hp
 have HGD := hide hg
 clear ha hr hp hg hn1 hn2 hrow1 hrow2
 have HF : Hid (tells (0, 0) (pFaults al rs) = tells (tells (0, 0) (pActs al 0 al)) (pRules al 0 rs)) := tells_append _ _ _
 go_enter Tryz.func70, Tryz.ntmps70
 go_wp2_with fail
 have hstart : CK (((w.alloc (.cells #[.slice o1 n1 k1, .slice o2 n2 k2] 128)).alloc (.cells #[.int .i64 0, .int .i64 0] 80)).alloc (.cells #[.slice none 0 0, .int .i64 0, .int .i64 0] 198)) (w.heap.size + 1 + 1) w.heap.size [] (0, 0) :=
  ⟨⟨none, 0, 0, blk_alloc' _ _ _ (by simp), World.ownsRow_nil _ _ _ _⟩, by omega⟩
 have HST := hide hstart
 have hbw : Below w.heap.size w (((w.alloc (.cells #[.slice o1 n1 k1, .slice o2 n2 k2] 128)).alloc (.cells #[.int .i64 0, .int .i64 0] 80)).alloc (.cells #[.slice none 0 0, .int .i64 0, .int .i64 0] 198)) :=
  ((((Below.refl _ _).alloc (Nat.le_refl _) _).alloc (by simp) _).alloc (by simp; omega) _)
 have HBW := hide hbw
 have hsx : (((w.alloc (.cells #[.slice o1 n1 k1, .slice o2 n2 k2] 128)).alloc (.cells #[.int .i64 0, .int .i64 0] 80)).alloc (.cells #[.slice none 0 0, .int .i64 0, .int .i64 0] 198)).heap[w.heap.size]? = some (sbl o1 n1 k1 o2 n2 k2) := (Below.heap_alloc _ _ _ (by simp; omega)).trans ((Below.heap_alloc _ _ _ (by simp)).trans (blk_alloc _ _))
 have hrx : (((w.alloc (.cells #[.slice o1 n1 k1, .slice o2 n2 k2] 128)).alloc (.cells #[.int .i64 0, .int .i64 0] 80)).alloc (.cells #[.slice none 0 0, .int .i64 0, .int .i64 0] 198)).heap[w.heap.size + 1]? = some (.cells #[.int .i64 0, .int .i64 0] 80 (0, 0)) := (Below.heap_alloc _ _ _ (by simp)).trans (blk_alloc' _ _ _ (by simp))
 have HSX := hide hsx
 have HRX := hide hrx
 have hsz : w.heap.size + 1 + 1 + 1 = (((w.alloc (.cells #[.slice o1 n1 k1, .slice o2 n2 k2] 128)).alloc (.cells #[.int .i64 0, .int .i64 0] 80)).alloc (.cells #[.slice none 0 0, .int .i64 0, .int .i64 0] 198)).heap.size := by simp
 clear hstart hbw hsx hrx
 generalize hW0 : ((w.alloc (.cells #[.slice o1 n1 k1, .slice o2 n2 k2] 128)).alloc (.cells #[.int .i64 0, .int .i64 0] 80)).alloc (.cells #[.slice none 0 0, .int .i64 0, .int .i64 0] 198) = W0 at *
 clear hW0
 go_loopw [13] (fun i wr => ∃ (k : Nat) (y : Nat × Nat), i = .int .i64 (k : Int) ∧ k ≤ al.length ∧ CK wr (w.heap.size + 1 + 1) w.heap.size (al.take k) y ∧ CF (w.heap.size + 1 + 1) w.heap.size W0 wr ∧ Hid (tells (0, 0) (pActs al 0 al) = tells y (pActs al k (al.drop k)))) (fun i _ => al.length - (intOf i).toNat)
 case atStart => exact ⟨0, (0, 0), rfl, Nat.zero_le _, unhide HST, CF.refl _ _ _, rfl⟩
 case round =>
  obtain ⟨k, y, rfl, hkk, hcr, hfr, HY⟩ := hrel
  have HCR := hide hcr
  have HFR := hide hfr
  have hbr : Below w.heap.size w wr := (unhide HBW).trans (hfr.low (by omega) (by omega))
  have HBR := hide hbr
  have hwl : w.heap.size ≤ wr.heap.size := hbr.size
  by_cases hlt : k < al.length
  ·obtain ⟨t, rr, ht⟩ : ∃ t rr, al.drop k = t :: rr := by
    cases hd : al.drop k with
    | nil => have := congrArg List.length hd; simp at this; omega
    | cons t rr => exact ⟨t, rr, rfl⟩
   obtain ⟨g, hno, hle, hcap, cur, hc1, hc2⟩ := unhide HROW1 (by intro e; rw [e] at hlt; simp at hlt)
   unfold maxLen at hcap
   have hgl0 := lt_of_blk hc1
   have hrw2 : ∃ cur, wr.heap[g]? = some (.cells cur 201 (0, 0)) ∧ cur.toList.take (al.length * 3) = tkCellsP al := ⟨cur, (hbr.block _ hgl0).trans hc1, hc2⟩
   obtain ⟨c0, c1, c2⟩ := row_tok hrw2 ht
   have hgl : g < wr.heap.size := by omega
   subst hno
   have HPA : Hid (pActs al k (al.drop k) = pAct (al.take k) k t ++ pActs al (k + 1) (al.drop (k + 1))) := by show _ = _; rw [ht, dropTl ht, pActs]
   have HTS := hide (take_snoc ht)
   have hkn : (k : Int) < (n1 : Int) := by omega
   clear hcr hfr hbr ht hc1 hc2 hrw2 cur
   go_wp2_with fail
   refine (checkAct_any _ (w.heap.size + 1 + 1) w.heap.size (al.take k) y k t ((unhide HCR).alloc _) (by simp; omega) (by simp; omega)).mono ?_
   rintro e w3 ⟨rfl, hc3, hf3⟩
   have HC3 := hide hc3
   have HF3 := hide ((CF.below (cb := w.heap.size + 1 + 1) (B := w.heap.size) ((Below.refl wr.heap.size wr).alloc (Nat.le_refl _) (.cells #[.int .i64 t.k, .string t.s, .int .i64 t.p] 201))).trans hf3)
   clear hc3 hf3
   go_wp2_with fail
   go_roundw
   case rel =>
    exact ⟨k + 1, _, by go_num, by omega, by rw [unhide HTS]; exact unhide HC3, (unhide HFR).trans (unhide HF3), by show _ = _; rw [unhide HY, unhide HPA, tells_append]⟩
   case measure => simp [intOf]; omega
  ·have hke : al.length ≤ k := by omega
   have HYY : Hid (tells (0, 0) (pActs al 0 al) = y) := by show _ = _; rw [unhide HY, List.drop_eq_nil_of_le hke]; rfl
   have HCA : Hid (CK wr (w.heap.size + 1 + 1) w.heap.size al y) := by have := unhide HCR; rw [List.take_of_length_le hke] at this; exact this
   have hkn : ¬ (k : Int) < (n1 : Int) := by omega
   have hsx := keepC (unhide HST) hfr (unhide HSX) (by decide) (by decide)
   have hrx := keepC (unhide HST) hfr (unhide HRX) (by decide) (by decide)
   have HSX2 := hide hsx
   have HRX2 := hide hrx
   have hsl := lt_of_blk hsx
   have sc := fun o => cell_of_blk hsx o
   clear hcr hfr hbr hsx hrx HY
   generalize wr = w4 at *
   go_wp2_with fail
   go_loopw [26] (fun i wr => ∃ (k : Nat) (z : Nat × Nat), i = .int .i64 (k : Int) ∧ k ≤ rs.length ∧ CK wr (w.heap.size + 1 + 1) w.heap.size al z ∧ CF (w.heap.size + 1 + 1) w.heap.size w4 wr ∧ Hid (tells y (pRules al 0 rs) = tells z (pRules al k (rs.drop k)))) (fun i _ => rs.length - (intOf i).toNat)
   case atStart => exact ⟨0, y, rfl, Nat.zero_le _, unhide HCA, CF.refl _ _ _, rfl⟩
   case round =>
    clear sc
    obtain ⟨k, z, rfl, hkk, hcr, hfr, HZ⟩ := hrel
    have HCR2 := hide hcr
    have HFR2 := hide hfr
    have hbr : Below w.heap.size w wr := (unhide HBR).trans (hfr.low (by omega) (by omega))
    have HBR2 := hide hbr
    have hwl2 : w.heap.size ≤ wr.heap.size := hbr.size
    by_cases hlt : k < rs.length
    ·obtain ⟨r, rr, ht⟩ : ∃ r rr, rs.drop k = r :: rr := by
      cases hd : rs.drop k with
      | nil => have := congrArg List.length hd; simp at this; omega
      | cons r rr => exact ⟨r, rr, rfl⟩
     obtain ⟨g, hno, hle, hcap, cur, hc1, hc2⟩ := unhide HROW2 (by omega)
     unfold maxLen at hcap
     have hgl0 := lt_of_blk hc1
     obtain ⟨kk, s, fp, no, nn, nc, cp, g0, g1, g2, g3, g4, g5, g6⟩ := rulesP_at k (unhide HP) ht
     have hcw := (hbr.block _ hgl0).trans hc1
     have d0 := (cell_of_blk hcw (k * 6)).trans (take_at (k := k * 6) (o := 0) hc2 (by omega) g0)
     have d1 := (cell_of_blk hcw (k * 6 + 1)).trans (take_at hc2 (by omega) g1)
     have d2 := (cell_of_blk hcw (k * 6 + 2)).trans (take_at hc2 (by omega) g2)
     have d3 := (cell_of_blk hcw (k * 6 + 3)).trans (take_at hc2 (by omega) g3)
     have d4 := (cell_of_blk hcw (k * 6 + 4)).trans (take_at hc2 (by omega) g4)
     have d5 := (cell_of_blk hcw (k * 6 + 5)).trans (take_at hc2 (by omega) g5)
     have hgl : g < wr.heap.size := by omega
     subst hno
     have HRS := hide (g6.keep (KQ.below (w := w) (w' := wr.alloc (.cells #[.int .i64 kk, .string s, .int .i64 r.pl, .pointer fp, .slice no nn nc, .pointer cp] 205)) (hbr.alloc hwl2 _)))
     have HRA := hide (unhide HGD r (List.mem_of_mem_drop (by rw [ht]; exact List.mem_cons_self)))
     have HPA : Hid (pRules al k (rs.drop k) = pRule al k r ++ pRules al (k + 1) (rs.drop (k + 1))) := by show _ = _; rw [ht, dropTl ht, pRules]
     have hkn : (k : Int) < (n2 : Int) := by omega
     clear hcr hfr hbr ht hc1 hc2 hcw cur g0 g1 g2 g3 g4 g5 g6
     go_wp2_with fail
     refine (checkRule_any _ (w.heap.size + 1 + 1) w.heap.size al z k r kk s fp no nn nc cp ((unhide HCR2).alloc _) (unhide HRS) (unhide HRA)).mono ?_
     rintro e w5 ⟨rfl, hc5, hf5⟩
     have HC5 := hide hc5
     have HF5 := hide ((CF.below (cb := w.heap.size + 1 + 1) (B := w.heap.size) ((Below.refl wr.heap.size wr).alloc (Nat.le_refl _) (.cells #[.int .i64 kk, .string s, .int .i64 r.pl, .pointer fp, .slice no nn nc, .pointer cp] 205))).trans hf5)
     clear hc5 hf5
     go_wp2_with fail
     go_roundw
     case rel =>
      exact ⟨k + 1, _, by go_num, by omega, unhide HC5, (unhide HFR2).trans (unhide HF5), by show _ = _; rw [unhide HZ, unhide HPA, tells_append]⟩
     case measure => simp [intOf]; omega
    ·have hke : rs.length ≤ k := by omega
     have HZZ : Hid (tells (0, 0) (pFaults al rs) = z) := by show _ = _; rw [unhide HF, unhide HYY, unhide HZ, List.drop_eq_nil_of_le hke]; rfl
     have hkn : ¬ (k : Int) < (n2 : Int) := by omega
     have hrx := keepC (unhide HCA) hfr (unhide HRX2) (by decide) (by decide)
     obtain ⟨ao, an, ac, hb9, _⟩ := hcr.blk
     have bc := fun o => cell_of_blk hb9 o
     have rc := fun o => cell_of_blk hrx o
     have rf := fun o => frozen_of_blk hrx o
     have hrl := lt_of_blk hrx
     have hcl := hcr.lt
     have HRX3 := hide hrx
     clear hcr hfr hbr hb9 hrx
     go_wp2_with fail
     have hfin : ((wr.setCell ⟨w.heap.size + 1, 0, none⟩ (.int .i64 z.1)).setCell ⟨w.heap.size + 1, 1, none⟩ (.int .i64 z.2)).heap[w.heap.size + 1]? = some (.cells #[.int .i64 z.1, .int .i64 z.2] 80 (0, 0)) := blk_set (blk_set (unhide HRX3) 0 _) 1 _
     have rc2 := fun o => cell_of_blk hfin o
     clear rc
     refine bodyPost_ret (v := .agg #[.int .i64 z.1, .int .i64 z.2]) (by simp [results, Tryz.results70, go_sem, rc2]) rfl ?_
     rw [unhide HZZ]
     exact ⟨rfl, ((unhide HBR2).setCell (by show w.heap.size ≤ w.heap.size + 1; omega) _).setCell (by show w.heap.size ≤ w.heap.size + 1; omega) _⟩
set_option maxHeartbeats 400000 in
theorem sh_not (f : Fm) (p : Option Addr) (w : World) : Calls Tryz.prog 233 #[.pointer p] w fun e w' => ∃ v, e = .returned (.pointer v) ∧ (IsG w f p → IsG w' (one 4 f) v) ∧ Below w.heap.size w w' := by
 go_enter Tryz.func233, Tryz.ntmps233
 go_wp2_with fail
 refine (fOne_any 4 f p _).mono ?_
 rintro e w1 ⟨v, rfl, hv, hb⟩
 have HV := hide hv
 have HB := hide hb
 clear hv hb
 go_wp2_with fail
 go_ret
 exact ⟨v, rfl, unhide HV, unhide HB⟩
set_option maxHeartbeats 400000 in
theorem sh_next (f : Fm) (p : Option Addr) (w : World) : Calls Tryz.prog 267 #[.pointer p] w fun e w' => ∃ v, e = .returned (.pointer v) ∧ (IsG w f p → IsG w' (one 5 f) v) ∧ Below w.heap.size w w' := by
 go_enter Tryz.func267, Tryz.ntmps267
 go_wp2_with fail
 refine (fOne_any 5 f p _).mono ?_
 rintro e w1 ⟨v, rfl, hv, hb⟩
 have HV := hide hv
 have HB := hide hb
 clear hv hb
 go_wp2_with fail
 go_ret
 exact ⟨v, rfl, unhide HV, unhide HB⟩
set_option maxHeartbeats 400000 in
theorem sh_weakNext (f : Fm) (p : Option Addr) (w : World) : Calls Tryz.prog 274 #[.pointer p] w fun e w' => ∃ v, e = .returned (.pointer v) ∧ (IsG w f p → IsG w' (one 6 f) v) ∧ Below w.heap.size w w' := by
 go_enter Tryz.func274, Tryz.ntmps274
 go_wp2_with fail
 refine (fOne_any 6 f p _).mono ?_
 rintro e w1 ⟨v, rfl, hv, hb⟩
 have HV := hide hv
 have HB := hide hb
 clear hv hb
 go_wp2_with fail
 go_ret
 exact ⟨v, rfl, unhide HV, unhide HB⟩
set_option maxHeartbeats 400000 in
theorem sh_finally (f : Fm) (p : Option Addr) (w : World) : Calls Tryz.prog 265 #[.pointer p] w fun e w' => ∃ v, e = .returned (.pointer v) ∧ (IsG w f p → IsG w' (one 7 f) v) ∧ Below w.heap.size w w' := by
 go_enter Tryz.func265, Tryz.ntmps265
 go_wp2_with fail
 refine (fOne_any 7 f p _).mono ?_
 rintro e w1 ⟨v, rfl, hv, hb⟩
 have HV := hide hv
 have HB := hide hb
 clear hv hb
 go_wp2_with fail
 go_ret
 exact ⟨v, rfl, unhide HV, unhide HB⟩
set_option maxHeartbeats 400000 in
theorem sh_globally (f : Fm) (p : Option Addr) (w : World) : Calls Tryz.prog 270 #[.pointer p] w fun e w' => ∃ v, e = .returned (.pointer v) ∧ (IsG w f p → IsG w' (one 8 f) v) ∧ Below w.heap.size w w' := by
 go_enter Tryz.func270, Tryz.ntmps270
 go_wp2_with fail
 refine (fOne_any 8 f p _).mono ?_
 rintro e w1 ⟨v, rfl, hv, hb⟩
 have HV := hide hv
 have HB := hide hb
 clear hv hb
 go_wp2_with fail
 go_ret
 exact ⟨v, rfl, unhide HV, unhide HB⟩
set_option maxHeartbeats 400000 in
theorem sh_until (f g : Fm) (p q : Option Addr) (w : World) : Calls Tryz.prog 273 #[.pointer p, .pointer q] w fun e w' => ∃ v, e = .returned (.pointer v) ∧ (IsG w f p → IsG w g q → IsG w' (two 9 f g) v) ∧ Below w.heap.size w w' := by
 go_enter Tryz.func273, Tryz.ntmps273
 go_wp2_with fail
 refine (fTwo_any 9 f g p q _).mono ?_
 rintro e w1 ⟨v, rfl, hv, hb⟩
 have HV := hide hv
 have HB := hide hb
 clear hv hb
 go_wp2_with fail
 go_ret
 exact ⟨v, rfl, unhide HV, unhide HB⟩
set_option maxHeartbeats 400000 in
theorem sh_and (f g : Fm) (p q : Option Addr) (w : World) : Calls Tryz.prog 266 #[.pointer p, .pointer q] w fun e w' => ∃ v, e = .returned (.pointer v) ∧ (IsG w f p → IsG w g q → IsG w' (two 10 f g) v) ∧ Below w.heap.size w w' := by
 go_enter Tryz.func266, Tryz.ntmps266
 go_wp2_with fail
 refine (fTwo_any 10 f g p q _).mono ?_
 rintro e w1 ⟨v, rfl, hv, hb⟩
 have HV := hide hv
 have HB := hide hb
 clear hv hb
 go_wp2_with fail
 go_ret
 exact ⟨v, rfl, unhide HV, unhide HB⟩
set_option maxHeartbeats 400000 in
theorem sh_or (f g : Fm) (p q : Option Addr) (w : World) : Calls Tryz.prog 272 #[.pointer p, .pointer q] w fun e w' => ∃ v, e = .returned (.pointer v) ∧ (IsG w f p → IsG w g q → IsG w' (two 11 f g) v) ∧ Below w.heap.size w w' := by
 go_enter Tryz.func272, Tryz.ntmps272
 go_wp2_with fail
 refine (fTwo_any 11 f g p q _).mono ?_
 rintro e w1 ⟨v, rfl, hv, hb⟩
 have HV := hide hv
 have HB := hide hb
 clear hv hb
 go_wp2_with fail
 go_ret
 exact ⟨v, rfl, unhide HV, unhide HB⟩
set_option maxHeartbeats 400000 in
theorem sh_implies (f g : Fm) (p q : Option Addr) (w : World) : Calls Tryz.prog 271 #[.pointer p, .pointer q] w fun e w' => ∃ v, e = .returned (.pointer v) ∧ (IsG w f p → IsG w g q → IsG w' (two 12 f g) v) ∧ Below w.heap.size w w' := by
 go_enter Tryz.func271, Tryz.ntmps271
 go_wp2_with fail
 refine (fTwo_any 12 f g p q _).mono ?_
 rintro e w1 ⟨v, rfl, hv, hb⟩
 have HV := hide hv
 have HB := hide hb
 clear hv hb
 go_wp2_with fail
 go_ret
 exact ⟨v, rfl, unhide HV, unhide HB⟩
set_option maxHeartbeats 1000000 in
theorem some_any (a : ByteArray) : ∀ (n : Nat) (pa : Option Addr) (w : World), n ≤ 9 → IsG w (acF a) pa →
  Calls Tryz.prog 231 #[.pointer pa, .int .i64 (n : Int)] w fun e w' => ∃ v, e = .returned (.pointer v) ∧ IsG w' (timesF a n) v ∧ Below w.heap.size w w'
 | 0, pa, w, _, ha => by
  have HA := hide ha
  clear ha
  go_enter Tryz.func231, Tryz.ntmps231
  go_wp2_with fail
  refine (sh_finally (acF a) pa _).mono ?_
  rintro e w1 ⟨p1, rfl, h1, hb1⟩
  have G1 := hide (h1 (unhide HA))
  have HB := hide hb1
  clear h1 hb1
  go_wp2_with fail
  go_ret
  exact ⟨p1, rfl, unhide G1, unhide HB⟩
 | 1, pa, w, _, ha => by
  have HA := hide ha
  clear ha
  go_enter Tryz.func231, Tryz.ntmps231
  go_wp2_with fail
  refine (sh_finally (acF a) pa _).mono ?_
  rintro e w1 ⟨p1, rfl, h1, hb1⟩
  have G1 := hide (h1 (unhide HA))
  have HB := hide hb1
  clear h1 hb1
  go_wp2_with fail
  go_ret
  exact ⟨p1, rfl, unhide G1, unhide HB⟩
 | n + 2, pa, w, hn, ha => by
  have HA := hide ha
  have HI := hide (some_any a (n + 1))
  have hle : ¬ ((n + 2 : Nat) : Int) ≤ 1 := by omega
  have he : ((n + 2 : Nat) : Int) - 1 = ((n + 1 : Nat) : Int) := by omega
  clear ha
  generalize hm : ((n + 2 : Nat) : Int) = m at *
  have hm1 : m ≤ 100 := by omega
  have hm2 : 1 < m := by omega
  have HE := hide he
  clear he hm
  go_enter Tryz.func231, Tryz.ntmps231
  go_wp2_with fail
  rw [unhide HE]
  refine ((unhide HI) pa _ (by omega) (unhide HA)).mono ?_
  rintro e w1 ⟨p1, rfl, h1, hb1⟩
  have G1 := hide h1
  have HA := hide ((unhide HA).later hb1)
  have HB := hide hb1
  clear h1 hb1
  go_wp2_with fail
  refine (sh_next (timesF a (n + 1)) p1 _).mono ?_
  rintro e w2 ⟨p2, rfl, h2, hb2⟩
  have G2 := hide (h2 (unhide G1))
  have HA := hide ((unhide HA).later hb2)
  have HB := hide ((unhide HB).trans (hb2.mono (unhide HB).size))
  clear h2 hb2
  go_wp2_with fail
  refine (sh_and (acF a) (one 5 (timesF a (n + 1))) pa p2 _).mono ?_
  rintro e w3 ⟨p3, rfl, h3, hb3⟩
  have G3 := hide (h3 (unhide HA) (unhide G2))
  have HB := hide ((unhide HB).trans (hb3.mono (unhide HB).size))
  clear h3 hb3
  go_wp2_with fail
  refine (sh_finally (two 10 (acF a) (one 5 (timesF a (n + 1)))) p3 _).mono ?_
  rintro e w4 ⟨p4, rfl, h4, hb4⟩
  have G4 := hide (h4 (unhide G3))
  have HB := hide ((unhide HB).trans (hb4.mono (unhide HB).size))
  clear h4 hb4
  go_wp2_with fail
  go_ret
  exact ⟨p4, rfl, unhide G4, unhide HB⟩
set_option maxHeartbeats 1000000 in
theorem tp_init (a b : ByteArray) (n : Nat) (pa pb : Option Addr) (w : World) (ha : IsG w (acF a) pa) : Calls Tryz.prog 228 #[.pointer pa, .pointer pb, .int .i64 (n : Int)] w fun e w' => ∃ v, e = .returned (.pointer v) ∧ IsG w' (tplF 0 a b n) v ∧ Below w.heap.size w w' := by
 have HA := hide ha
 have HB := hide (Below.refl w.heap.size w)
 clear ha
 go_enter Tryz.func228, Tryz.ntmps228
 go_wp2_with fail
 go_ret
 exact ⟨pa, rfl, unhide HA, unhide HB⟩
set_option maxHeartbeats 1000000 in
theorem tp_last (a b : ByteArray) (n : Nat) (pa pb : Option Addr) (w : World) (ha : IsG w (acF a) pa) : Calls Tryz.prog 229 #[.pointer pa, .pointer pb, .int .i64 (n : Int)] w fun e w' => ∃ v, e = .returned (.pointer v) ∧ IsG w' (tplF 1 a b n) v ∧ Below w.heap.size w w' := by
 have HA := hide ha
 have HB := hide (Below.refl w.heap.size w)
 clear ha
 go_enter Tryz.func229, Tryz.ntmps229
 go_wp2_with fail
 refine (fWord_any 1 _).mono ?_
 rintro e w1 ⟨p1, rfl, h1, hb1⟩
 have G1 := hide h1
 have HA := hide ((unhide HA).later hb1)
 have HB := hide ((unhide HB).trans (hb1.mono (unhide HB).size))
 clear h1 hb1
 go_wp2_with fail
 refine (sh_next (leaf 1 ByteArray.empty 0) p1 _).mono ?_
 rintro e w2 ⟨p2, rfl, h2, hb2⟩
 have G2 := hide (h2 (unhide G1))
 have G1 := hide ((unhide G1).later hb2)
 have HA := hide ((unhide HA).later hb2)
 have HB := hide ((unhide HB).trans (hb2.mono (unhide HB).size))
 clear h2 hb2
 go_wp2_with fail
 refine (sh_not (one 5 (leaf 1 ByteArray.empty 0)) p2 _).mono ?_
 rintro e w3 ⟨p3, rfl, h3, hb3⟩
 have G3 := hide (h3 (unhide G2))
 have G1 := hide ((unhide G1).later hb3)
 have G2 := hide ((unhide G2).later hb3)
 have HA := hide ((unhide HA).later hb3)
 have HB := hide ((unhide HB).trans (hb3.mono (unhide HB).size))
 clear h3 hb3
 go_wp2_with fail
 refine (sh_and (acF a) (one 4 (one 5 (leaf 1 ByteArray.empty 0))) pa p3 _).mono ?_
 rintro e w4 ⟨p4, rfl, h4, hb4⟩
 have G4 := hide (h4 (unhide HA) (unhide G3))
 have G1 := hide ((unhide G1).later hb4)
 have G2 := hide ((unhide G2).later hb4)
 have G3 := hide ((unhide G3).later hb4)
 have HA := hide ((unhide HA).later hb4)
 have HB := hide ((unhide HB).trans (hb4.mono (unhide HB).size))
 clear h4 hb4
 go_wp2_with fail
 refine (sh_finally (two 10 (acF a) (one 4 (one 5 (leaf 1 ByteArray.empty 0)))) p4 _).mono ?_
 rintro e w5 ⟨p5, rfl, h5, hb5⟩
 have G5 := hide (h5 (unhide G4))
 have G1 := hide ((unhide G1).later hb5)
 have G2 := hide ((unhide G2).later hb5)
 have G3 := hide ((unhide G3).later hb5)
 have G4 := hide ((unhide G4).later hb5)
 have HA := hide ((unhide HA).later hb5)
 have HB := hide ((unhide HB).trans (hb5.mono (unhide HB).size))
 clear h5 hb5
 go_wp2_with fail
 go_ret
 exact ⟨p5, rfl, unhide G5, unhide HB⟩
set_option maxHeartbeats 1000000 in
theorem tp_some (a b : ByteArray) (n : Nat) (pa pb : Option Addr) (w : World) (ha : IsG w (acF a) pa) (hn : n ≤ 9) : Calls Tryz.prog 230 #[.pointer pa, .pointer pb, .int .i64 (n : Int)] w fun e w' => ∃ v, e = .returned (.pointer v) ∧ IsG w' (tplF 2 a b n) v ∧ Below w.heap.size w w' := by
 have HA := hide ha
 have HB := hide (Below.refl w.heap.size w)
 clear ha
 go_enter Tryz.func230, Tryz.ntmps230
 go_wp2_with fail
 refine (some_any a n _ _ hn (unhide HA)).mono ?_
 rintro e w1 ⟨p1, rfl, h1, hb1⟩
 have G1 := hide h1
 have HA := hide ((unhide HA).later hb1)
 have HB := hide ((unhide HB).trans (hb1.mono (unhide HB).size))
 clear h1 hb1
 go_wp2_with fail
 go_ret
 exact ⟨p1, rfl, unhide G1, unhide HB⟩
set_option maxHeartbeats 1000000 in
theorem tp_few (a b : ByteArray) (n : Nat) (pa pb : Option Addr) (w : World) (ha : IsG w (acF a) pa) (hn : n ≤ 9) : Calls Tryz.prog 232 #[.pointer pa, .pointer pb, .int .i64 (n : Int)] w fun e w' => ∃ v, e = .returned (.pointer v) ∧ IsG w' (tplF 3 a b n) v ∧ Below w.heap.size w w' := by
 have HA := hide ha
 have HB := hide (Below.refl w.heap.size w)
 clear ha
 go_enter Tryz.func232, Tryz.ntmps232
 go_wp2_with fail
 refine (some_any a n _ _ hn (unhide HA)).mono ?_
 rintro e w1 ⟨p1, rfl, h1, hb1⟩
 have G1 := hide h1
 have HA := hide ((unhide HA).later hb1)
 have HB := hide ((unhide HB).trans (hb1.mono (unhide HB).size))
 clear h1 hb1
 go_wp2_with fail
 refine (sh_not (timesF a n) p1 _).mono ?_
 rintro e w2 ⟨p2, rfl, h2, hb2⟩
 have G2 := hide (h2 (unhide G1))
 have G1 := hide ((unhide G1).later hb2)
 have HA := hide ((unhide HA).later hb2)
 have HB := hide ((unhide HB).trans (hb2.mono (unhide HB).size))
 clear h2 hb2
 go_wp2_with fail
 go_ret
 exact ⟨p2, rfl, unhide G2, unhide HB⟩
set_option maxHeartbeats 1000000 in
theorem tp_response (a b : ByteArray) (n : Nat) (pa pb : Option Addr) (w : World) (ha : IsG w (acF a) pa) (hb0 : IsG w (acF b) pb) : Calls Tryz.prog 234 #[.pointer pa, .pointer pb, .int .i64 (n : Int)] w fun e w' => ∃ v, e = .returned (.pointer v) ∧ IsG w' (tplF 4 a b n) v ∧ Below w.heap.size w w' := by
 have HA := hide ha
 have HBB := hide hb0
 have HB := hide (Below.refl w.heap.size w)
 clear ha hb0
 go_enter Tryz.func234, Tryz.ntmps234
 go_wp2_with fail
 refine (sh_finally (acF b) pb _).mono ?_
 rintro e w1 ⟨p1, rfl, h1, hb1⟩
 have G1 := hide (h1 (unhide HBB))
 have HA := hide ((unhide HA).later hb1)
 have HBB := hide ((unhide HBB).later hb1)
 have HB := hide ((unhide HB).trans (hb1.mono (unhide HB).size))
 clear h1 hb1
 go_wp2_with fail
 refine (sh_implies (acF a) (one 7 (acF b)) pa p1 _).mono ?_
 rintro e w2 ⟨p2, rfl, h2, hb2⟩
 have G2 := hide (h2 (unhide HA) (unhide G1))
 have G1 := hide ((unhide G1).later hb2)
 have HA := hide ((unhide HA).later hb2)
 have HBB := hide ((unhide HBB).later hb2)
 have HB := hide ((unhide HB).trans (hb2.mono (unhide HB).size))
 clear h2 hb2
 go_wp2_with fail
 refine (sh_globally (two 12 (acF a) (one 7 (acF b))) p2 _).mono ?_
 rintro e w3 ⟨p3, rfl, h3, hb3⟩
 have G3 := hide (h3 (unhide G2))
 have G1 := hide ((unhide G1).later hb3)
 have G2 := hide ((unhide G2).later hb3)
 have HA := hide ((unhide HA).later hb3)
 have HBB := hide ((unhide HBB).later hb3)
 have HB := hide ((unhide HB).trans (hb3.mono (unhide HB).size))
 clear h3 hb3
 go_wp2_with fail
 go_ret
 exact ⟨p3, rfl, unhide G3, unhide HB⟩
set_option maxHeartbeats 1000000 in
theorem tp_precede (a b : ByteArray) (n : Nat) (pa pb : Option Addr) (w : World) (ha : IsG w (acF a) pa) (hb0 : IsG w (acF b) pb) : Calls Tryz.prog 235 #[.pointer pa, .pointer pb, .int .i64 (n : Int)] w fun e w' => ∃ v, e = .returned (.pointer v) ∧ IsG w' (tplF 5 a b n) v ∧ Below w.heap.size w w' := by
 have HA := hide ha
 have HBB := hide hb0
 have HB := hide (Below.refl w.heap.size w)
 clear ha hb0
 go_enter Tryz.func235, Tryz.ntmps235
 go_wp2_with fail
 refine (sh_not (acF b) pb _).mono ?_
 rintro e w1 ⟨p1, rfl, h1, hb1⟩
 have G1 := hide (h1 (unhide HBB))
 have HA := hide ((unhide HA).later hb1)
 have HBB := hide ((unhide HBB).later hb1)
 have HB := hide ((unhide HB).trans (hb1.mono (unhide HB).size))
 clear h1 hb1
 go_wp2_with fail
 refine (sh_until (one 4 (acF b)) (acF a) p1 pa _).mono ?_
 rintro e w2 ⟨p2, rfl, h2, hb2⟩
 have G2 := hide (h2 (unhide G1) (unhide HA))
 have G1 := hide ((unhide G1).later hb2)
 have HA := hide ((unhide HA).later hb2)
 have HBB := hide ((unhide HBB).later hb2)
 have HB := hide ((unhide HB).trans (hb2.mono (unhide HB).size))
 clear h2 hb2
 go_wp2_with fail
 refine (sh_not (acF b) pb _).mono ?_
 rintro e w3 ⟨p3, rfl, h3, hb3⟩
 have G3 := hide (h3 (unhide HBB))
 have G1 := hide ((unhide G1).later hb3)
 have G2 := hide ((unhide G2).later hb3)
 have HA := hide ((unhide HA).later hb3)
 have HBB := hide ((unhide HBB).later hb3)
 have HB := hide ((unhide HB).trans (hb3.mono (unhide HB).size))
 clear h3 hb3
 go_wp2_with fail
 refine (sh_globally (one 4 (acF b)) p3 _).mono ?_
 rintro e w4 ⟨p4, rfl, h4, hb4⟩
 have G4 := hide (h4 (unhide G3))
 have G1 := hide ((unhide G1).later hb4)
 have G2 := hide ((unhide G2).later hb4)
 have G3 := hide ((unhide G3).later hb4)
 have HA := hide ((unhide HA).later hb4)
 have HBB := hide ((unhide HBB).later hb4)
 have HB := hide ((unhide HB).trans (hb4.mono (unhide HB).size))
 clear h4 hb4
 go_wp2_with fail
 refine (sh_or (two 9 (one 4 (acF b)) (acF a)) (one 8 (one 4 (acF b))) p2 p4 _).mono ?_
 rintro e w5 ⟨p5, rfl, h5, hb5⟩
 have G5 := hide (h5 (unhide G2) (unhide G4))
 have G1 := hide ((unhide G1).later hb5)
 have G2 := hide ((unhide G2).later hb5)
 have G3 := hide ((unhide G3).later hb5)
 have G4 := hide ((unhide G4).later hb5)
 have HA := hide ((unhide HA).later hb5)
 have HBB := hide ((unhide HBB).later hb5)
 have HB := hide ((unhide HB).trans (hb5.mono (unhide HB).size))
 clear h5 hb5
 go_wp2_with fail
 go_ret
 exact ⟨p5, rfl, unhide G5, unhide HB⟩
set_option maxHeartbeats 1000000 in
theorem tp_chain (a b : ByteArray) (n : Nat) (pa pb : Option Addr) (w : World) (ha : IsG w (acF a) pa) (hb0 : IsG w (acF b) pb) : Calls Tryz.prog 236 #[.pointer pa, .pointer pb, .int .i64 (n : Int)] w fun e w' => ∃ v, e = .returned (.pointer v) ∧ IsG w' (tplF 6 a b n) v ∧ Below w.heap.size w w' := by
 have HA := hide ha
 have HBB := hide hb0
 have HB := hide (Below.refl w.heap.size w)
 clear ha hb0
 go_enter Tryz.func236, Tryz.ntmps236
 go_wp2_with fail
 refine (sh_next (acF b) pb _).mono ?_
 rintro e w1 ⟨p1, rfl, h1, hb1⟩
 have G1 := hide (h1 (unhide HBB))
 have HA := hide ((unhide HA).later hb1)
 have HBB := hide ((unhide HBB).later hb1)
 have HB := hide ((unhide HB).trans (hb1.mono (unhide HB).size))
 clear h1 hb1
 go_wp2_with fail
 refine (sh_implies (acF a) (one 5 (acF b)) pa p1 _).mono ?_
 rintro e w2 ⟨p2, rfl, h2, hb2⟩
 have G2 := hide (h2 (unhide HA) (unhide G1))
 have G1 := hide ((unhide G1).later hb2)
 have HA := hide ((unhide HA).later hb2)
 have HBB := hide ((unhide HBB).later hb2)
 have HB := hide ((unhide HB).trans (hb2.mono (unhide HB).size))
 clear h2 hb2
 go_wp2_with fail
 refine (sh_globally (two 12 (acF a) (one 5 (acF b))) p2 _).mono ?_
 rintro e w3 ⟨p3, rfl, h3, hb3⟩
 have G3 := hide (h3 (unhide G2))
 have G1 := hide ((unhide G1).later hb3)
 have G2 := hide ((unhide G2).later hb3)
 have HA := hide ((unhide HA).later hb3)
 have HBB := hide ((unhide HBB).later hb3)
 have HB := hide ((unhide HB).trans (hb3.mono (unhide HB).size))
 clear h3 hb3
 go_wp2_with fail
 go_ret
 exact ⟨p3, rfl, unhide G3, unhide HB⟩
set_option maxHeartbeats 1000000 in
theorem tp_before (a b : ByteArray) (n : Nat) (pa pb : Option Addr) (w : World) (ha : IsG w (acF a) pa) (hb0 : IsG w (acF b) pb) : Calls Tryz.prog 237 #[.pointer pa, .pointer pb, .int .i64 (n : Int)] w fun e w' => ∃ v, e = .returned (.pointer v) ∧ IsG w' (tplF 7 a b n) v ∧ Below w.heap.size w w' := by
 have HA := hide ha
 have HBB := hide hb0
 have HB := hide (Below.refl w.heap.size w)
 clear ha hb0
 go_enter Tryz.func237, Tryz.ntmps237
 go_wp2_with fail
 refine (sh_not (acF b) pb _).mono ?_
 rintro e w1 ⟨p1, rfl, h1, hb1⟩
 have G1 := hide (h1 (unhide HBB))
 have HA := hide ((unhide HA).later hb1)
 have HBB := hide ((unhide HBB).later hb1)
 have HB := hide ((unhide HB).trans (hb1.mono (unhide HB).size))
 clear h1 hb1
 go_wp2_with fail
 refine (sh_next (acF b) pb _).mono ?_
 rintro e w2 ⟨p2, rfl, h2, hb2⟩
 have G2 := hide (h2 (unhide HBB))
 have G1 := hide ((unhide G1).later hb2)
 have HA := hide ((unhide HA).later hb2)
 have HBB := hide ((unhide HBB).later hb2)
 have HB := hide ((unhide HB).trans (hb2.mono (unhide HB).size))
 clear h2 hb2
 go_wp2_with fail
 refine (sh_implies (one 5 (acF b)) (acF a) p2 pa _).mono ?_
 rintro e w3 ⟨p3, rfl, h3, hb3⟩
 have G3 := hide (h3 (unhide G2) (unhide HA))
 have G1 := hide ((unhide G1).later hb3)
 have G2 := hide ((unhide G2).later hb3)
 have HA := hide ((unhide HA).later hb3)
 have HBB := hide ((unhide HBB).later hb3)
 have HB := hide ((unhide HB).trans (hb3.mono (unhide HB).size))
 clear h3 hb3
 go_wp2_with fail
 refine (sh_globally (two 12 (one 5 (acF b)) (acF a)) p3 _).mono ?_
 rintro e w4 ⟨p4, rfl, h4, hb4⟩
 have G4 := hide (h4 (unhide G3))
 have G1 := hide ((unhide G1).later hb4)
 have G2 := hide ((unhide G2).later hb4)
 have G3 := hide ((unhide G3).later hb4)
 have HA := hide ((unhide HA).later hb4)
 have HBB := hide ((unhide HBB).later hb4)
 have HB := hide ((unhide HB).trans (hb4.mono (unhide HB).size))
 clear h4 hb4
 go_wp2_with fail
 refine (sh_and (one 4 (acF b)) (one 8 (two 12 (one 5 (acF b)) (acF a))) p1 p4 _).mono ?_
 rintro e w5 ⟨p5, rfl, h5, hb5⟩
 have G5 := hide (h5 (unhide G1) (unhide G4))
 have G1 := hide ((unhide G1).later hb5)
 have G2 := hide ((unhide G2).later hb5)
 have G3 := hide ((unhide G3).later hb5)
 have G4 := hide ((unhide G4).later hb5)
 have HA := hide ((unhide HA).later hb5)
 have HBB := hide ((unhide HBB).later hb5)
 have HB := hide ((unhide HB).trans (hb5.mono (unhide HB).size))
 clear h5 hb5
 go_wp2_with fail
 go_ret
 exact ⟨p5, rfl, unhide G5, unhide HB⟩
set_option maxHeartbeats 1000000 in
theorem tp_with (a b : ByteArray) (n : Nat) (pa pb : Option Addr) (w : World) (ha : IsG w (acF a) pa) (hb0 : IsG w (acF b) pb) : Calls Tryz.prog 238 #[.pointer pa, .pointer pb, .int .i64 (n : Int)] w fun e w' => ∃ v, e = .returned (.pointer v) ∧ IsG w' (tplF 8 a b n) v ∧ Below w.heap.size w w' := by
 have HA := hide ha
 have HBB := hide hb0
 have HB := hide (Below.refl w.heap.size w)
 clear ha hb0
 go_enter Tryz.func238, Tryz.ntmps238
 go_wp2_with fail
 refine (sh_finally (acF a) pa _).mono ?_
 rintro e w1 ⟨p1, rfl, h1, hb1⟩
 have G1 := hide (h1 (unhide HA))
 have HA := hide ((unhide HA).later hb1)
 have HBB := hide ((unhide HBB).later hb1)
 have HB := hide ((unhide HB).trans (hb1.mono (unhide HB).size))
 clear h1 hb1
 go_wp2_with fail
 refine (sh_finally (acF b) pb _).mono ?_
 rintro e w2 ⟨p2, rfl, h2, hb2⟩
 have G2 := hide (h2 (unhide HBB))
 have G1 := hide ((unhide G1).later hb2)
 have HA := hide ((unhide HA).later hb2)
 have HBB := hide ((unhide HBB).later hb2)
 have HB := hide ((unhide HB).trans (hb2.mono (unhide HB).size))
 clear h2 hb2
 go_wp2_with fail
 refine (sh_implies (one 7 (acF a)) (one 7 (acF b)) p1 p2 _).mono ?_
 rintro e w3 ⟨p3, rfl, h3, hb3⟩
 have G3 := hide (h3 (unhide G1) (unhide G2))
 have G1 := hide ((unhide G1).later hb3)
 have G2 := hide ((unhide G2).later hb3)
 have HA := hide ((unhide HA).later hb3)
 have HBB := hide ((unhide HBB).later hb3)
 have HB := hide ((unhide HB).trans (hb3.mono (unhide HB).size))
 clear h3 hb3
 go_wp2_with fail
 go_ret
 exact ⟨p3, rfl, unhide G3, unhide HB⟩
set_option maxHeartbeats 1000000 in
theorem tp_apart (a b : ByteArray) (n : Nat) (pa pb : Option Addr) (w : World) (ha : IsG w (acF a) pa) (hb0 : IsG w (acF b) pb) : Calls Tryz.prog 239 #[.pointer pa, .pointer pb, .int .i64 (n : Int)] w fun e w' => ∃ v, e = .returned (.pointer v) ∧ IsG w' (tplF 9 a b n) v ∧ Below w.heap.size w w' := by
 have HA := hide ha
 have HBB := hide hb0
 have HB := hide (Below.refl w.heap.size w)
 clear ha hb0
 go_enter Tryz.func239, Tryz.ntmps239
 go_wp2_with fail
 refine (sh_finally (acF a) pa _).mono ?_
 rintro e w1 ⟨p1, rfl, h1, hb1⟩
 have G1 := hide (h1 (unhide HA))
 have HA := hide ((unhide HA).later hb1)
 have HBB := hide ((unhide HBB).later hb1)
 have HB := hide ((unhide HB).trans (hb1.mono (unhide HB).size))
 clear h1 hb1
 go_wp2_with fail
 refine (sh_finally (acF b) pb _).mono ?_
 rintro e w2 ⟨p2, rfl, h2, hb2⟩
 have G2 := hide (h2 (unhide HBB))
 have G1 := hide ((unhide G1).later hb2)
 have HA := hide ((unhide HA).later hb2)
 have HBB := hide ((unhide HBB).later hb2)
 have HB := hide ((unhide HB).trans (hb2.mono (unhide HB).size))
 clear h2 hb2
 go_wp2_with fail
 refine (sh_and (one 7 (acF a)) (one 7 (acF b)) p1 p2 _).mono ?_
 rintro e w3 ⟨p3, rfl, h3, hb3⟩
 have G3 := hide (h3 (unhide G1) (unhide G2))
 have G1 := hide ((unhide G1).later hb3)
 have G2 := hide ((unhide G2).later hb3)
 have HA := hide ((unhide HA).later hb3)
 have HBB := hide ((unhide HBB).later hb3)
 have HB := hide ((unhide HB).trans (hb3.mono (unhide HB).size))
 clear h3 hb3
 go_wp2_with fail
 refine (sh_not (two 10 (one 7 (acF a)) (one 7 (acF b))) p3 _).mono ?_
 rintro e w4 ⟨p4, rfl, h4, hb4⟩
 have G4 := hide (h4 (unhide G3))
 have G1 := hide ((unhide G1).later hb4)
 have G2 := hide ((unhide G2).later hb4)
 have G3 := hide ((unhide G3).later hb4)
 have HA := hide ((unhide HA).later hb4)
 have HBB := hide ((unhide HBB).later hb4)
 have HB := hide ((unhide HB).trans (hb4.mono (unhide HB).size))
 clear h4 hb4
 go_wp2_with fail
 go_ret
 exact ⟨p4, rfl, unhide G4, unhide HB⟩
set_option maxHeartbeats 1000000 in
theorem tp_never (a b : ByteArray) (n : Nat) (pa pb : Option Addr) (w : World) (ha : IsG w (acF a) pa) (hb0 : IsG w (acF b) pb) : Calls Tryz.prog 240 #[.pointer pa, .pointer pb, .int .i64 (n : Int)] w fun e w' => ∃ v, e = .returned (.pointer v) ∧ IsG w' (tplF 10 a b n) v ∧ Below w.heap.size w w' := by
 have HA := hide ha
 have HBB := hide hb0
 have HB := hide (Below.refl w.heap.size w)
 clear ha hb0
 go_enter Tryz.func240, Tryz.ntmps240
 go_wp2_with fail
 refine (sh_not (acF b) pb _).mono ?_
 rintro e w1 ⟨p1, rfl, h1, hb1⟩
 have G1 := hide (h1 (unhide HBB))
 have HA := hide ((unhide HA).later hb1)
 have HBB := hide ((unhide HBB).later hb1)
 have HB := hide ((unhide HB).trans (hb1.mono (unhide HB).size))
 clear h1 hb1
 go_wp2_with fail
 refine (sh_globally (one 4 (acF b)) p1 _).mono ?_
 rintro e w2 ⟨p2, rfl, h2, hb2⟩
 have G2 := hide (h2 (unhide G1))
 have G1 := hide ((unhide G1).later hb2)
 have HA := hide ((unhide HA).later hb2)
 have HBB := hide ((unhide HBB).later hb2)
 have HB := hide ((unhide HB).trans (hb2.mono (unhide HB).size))
 clear h2 hb2
 go_wp2_with fail
 refine (sh_weakNext (one 8 (one 4 (acF b))) p2 _).mono ?_
 rintro e w3 ⟨p3, rfl, h3, hb3⟩
 have G3 := hide (h3 (unhide G2))
 have G1 := hide ((unhide G1).later hb3)
 have G2 := hide ((unhide G2).later hb3)
 have HA := hide ((unhide HA).later hb3)
 have HBB := hide ((unhide HBB).later hb3)
 have HB := hide ((unhide HB).trans (hb3.mono (unhide HB).size))
 clear h3 hb3
 go_wp2_with fail
 refine (sh_implies (acF a) (one 6 (one 8 (one 4 (acF b)))) pa p3 _).mono ?_
 rintro e w4 ⟨p4, rfl, h4, hb4⟩
 have G4 := hide (h4 (unhide HA) (unhide G3))
 have G1 := hide ((unhide G1).later hb4)
 have G2 := hide ((unhide G2).later hb4)
 have G3 := hide ((unhide G3).later hb4)
 have HA := hide ((unhide HA).later hb4)
 have HBB := hide ((unhide HBB).later hb4)
 have HB := hide ((unhide HB).trans (hb4.mono (unhide HB).size))
 clear h4 hb4
 go_wp2_with fail
 refine (sh_globally (two 12 (acF a) (one 6 (one 8 (one 4 (acF b))))) p4 _).mono ?_
 rintro e w5 ⟨p5, rfl, h5, hb5⟩
 have G5 := hide (h5 (unhide G4))
 have G1 := hide ((unhide G1).later hb5)
 have G2 := hide ((unhide G2).later hb5)
 have G3 := hide ((unhide G3).later hb5)
 have G4 := hide ((unhide G4).later hb5)
 have HA := hide ((unhide HA).later hb5)
 have HBB := hide ((unhide HBB).later hb5)
 have HB := hide ((unhide HB).trans (hb5.mono (unhide HB).size))
 clear h5 hb5
 go_wp2_with fail
 go_ret
 exact ⟨p5, rfl, unhide G5, unhide HB⟩
set_option maxHeartbeats 1000000 in
theorem tp_notNext (a b : ByteArray) (n : Nat) (pa pb : Option Addr) (w : World) (ha : IsG w (acF a) pa) (hb0 : IsG w (acF b) pb) : Calls Tryz.prog 241 #[.pointer pa, .pointer pb, .int .i64 (n : Int)] w fun e w' => ∃ v, e = .returned (.pointer v) ∧ IsG w' (tplF 11 a b n) v ∧ Below w.heap.size w w' := by
 have HA := hide ha
 have HBB := hide hb0
 have HB := hide (Below.refl w.heap.size w)
 clear ha hb0
 go_enter Tryz.func241, Tryz.ntmps241
 go_wp2_with fail
 refine (sh_next (acF b) pb _).mono ?_
 rintro e w1 ⟨p1, rfl, h1, hb1⟩
 have G1 := hide (h1 (unhide HBB))
 have HA := hide ((unhide HA).later hb1)
 have HBB := hide ((unhide HBB).later hb1)
 have HB := hide ((unhide HB).trans (hb1.mono (unhide HB).size))
 clear h1 hb1
 go_wp2_with fail
 refine (sh_not (one 5 (acF b)) p1 _).mono ?_
 rintro e w2 ⟨p2, rfl, h2, hb2⟩
 have G2 := hide (h2 (unhide G1))
 have G1 := hide ((unhide G1).later hb2)
 have HA := hide ((unhide HA).later hb2)
 have HBB := hide ((unhide HBB).later hb2)
 have HB := hide ((unhide HB).trans (hb2.mono (unhide HB).size))
 clear h2 hb2
 go_wp2_with fail
 refine (sh_implies (acF a) (one 4 (one 5 (acF b))) pa p2 _).mono ?_
 rintro e w3 ⟨p3, rfl, h3, hb3⟩
 have G3 := hide (h3 (unhide HA) (unhide G2))
 have G1 := hide ((unhide G1).later hb3)
 have G2 := hide ((unhide G2).later hb3)
 have HA := hide ((unhide HA).later hb3)
 have HBB := hide ((unhide HBB).later hb3)
 have HB := hide ((unhide HB).trans (hb3.mono (unhide HB).size))
 clear h3 hb3
 go_wp2_with fail
 refine (sh_globally (two 12 (acF a) (one 4 (one 5 (acF b)))) p3 _).mono ?_
 rintro e w4 ⟨p4, rfl, h4, hb4⟩
 have G4 := hide (h4 (unhide G3))
 have G1 := hide ((unhide G1).later hb4)
 have G2 := hide ((unhide G2).later hb4)
 have G3 := hide ((unhide G3).later hb4)
 have HA := hide ((unhide HA).later hb4)
 have HBB := hide ((unhide HBB).later hb4)
 have HB := hide ((unhide HB).trans (hb4.mono (unhide HB).size))
 clear h4 hb4
 go_wp2_with fail
 go_ret
 exact ⟨p4, rfl, unhide G4, unhide HB⟩
theorem tplFn_any (k : Nat) (hk : k ≤ 11) (a b : ByteArray) (n : Nat) (pa pb : Option Addr) (w : World) (ha : IsG w (acF a) pa) (hb : 4 ≤ k → IsG w (acF b) pb) (hn : n ≤ 9) :
  Calls Tryz.prog (fnNo k) #[.pointer pa, .pointer pb, .int .i64 (n : Int)] w fun e w' => ∃ v, e = .returned (.pointer v) ∧ IsG w' (tplF k a b n) v ∧ Below w.heap.size w w' := by
 rcases to12 (show k < 12 by omega) with rfl | rfl | rfl | rfl | rfl | rfl | rfl | rfl | rfl | rfl | rfl | rfl
 ·exact tp_init a b n pa pb w ha
 ·exact tp_last a b n pa pb w ha
 ·exact tp_some a b n pa pb w ha hn
 ·exact tp_few a b n pa pb w ha hn
 ·exact tp_response a b n pa pb w ha (hb (by decide))
 ·exact tp_precede a b n pa pb w ha (hb (by decide))
 ·exact tp_chain a b n pa pb w ha (hb (by decide))
 ·exact tp_before a b n pa pb w ha (hb (by decide))
 ·exact tp_with a b n pa pb w ha (hb (by decide))
 ·exact tp_apart a b n pa pb w ha (hb (by decide))
 ·exact tp_never a b n pa pb w ha (hb (by decide))
 ·exact tp_notNext a b n pa pb w ha (hb (by decide))
end Go.Proofs.YtidakhhekofkoaaGreatDoor
