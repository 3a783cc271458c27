/- The program's templates: the table; Find. -/
import Derived.Test.YtoclbcffbhldmaaGreatDoorK2
import Derived.Laws.EntriesVeiled
set_option linter.unusedSimpArgs false
namespace Go.Proofs.YtoclbcffbhldmaaGreatDoor
open Go.RowKit Go.Deep

def tws : List (List UInt8) := [[105, 110, 105, 116], [108, 97, 115, 116], [115, 111, 109, 101], [102, 101, 119], [114, 101, 115, 112, 111, 110, 115, 101], [112, 114, 101, 99, 101, 100, 101], [99, 104, 97, 105, 110], [98, 101, 102, 111, 114, 101], [119, 105, 116, 104], [97, 112, 97, 114, 116], [110, 101, 118, 101, 114], [110, 111, 116, 110, 101, 120, 116]]
def noFrom (l : List UInt8) : List (List UInt8) → Nat → Nat
  | [], k => k
  | x :: r, k => if l = x then k else noFrom l r (k + 1)
theorem tplNo_from (l : List UInt8) : tplNo l = noFrom l tws 0 := rfl
def twB (k : Nat) : ByteArray := ⟨(tws.getD k []).toArray⟩
/-- The function of a template. -/
def fnNo (k : Nat) : Nat := [177, 178, 179, 181, 183, 184, 185, 186, 187, 188, 189, 190].getD k 0
/-- What a template takes: its list lies in one of three blocks. -/
def tkB (b k : Nat) : Nat := if k ≤ 1 then b else if k ≤ 3 then b + 1 + 1 else b + 1
def tkL (k : Nat) : Nat := if k ≤ 1 then 1 else 2
def tabC (b : Nat) : Array Value := #[.string ⟨#[105, 110, 105, 116]⟩, .slice (some ⟨b, 0, none⟩) 1 1, .func (.func 177) #[] #[], .string ⟨#[108, 97, 115, 116]⟩, .slice (some ⟨b, 0, none⟩) 1 1, .func (.func 178) #[] #[], .string ⟨#[115, 111, 109, 101]⟩, .slice (some ⟨b + 1 + 1, 0, none⟩) 2 2, .func (.func 179) #[] #[], .string ⟨#[102, 101, 119]⟩, .slice (some ⟨b + 1 + 1, 0, none⟩) 2 2, .func (.func 181) #[] #[], .string ⟨#[114, 101, 115, 112, 111, 110, 115, 101]⟩, .slice (some ⟨b + 1, 0, none⟩) 2 2, .func (.func 183) #[] #[], .string ⟨#[112, 114, 101, 99, 101, 100, 101]⟩, .slice (some ⟨b + 1, 0, none⟩) 2 2, .func (.func 184) #[] #[], .string ⟨#[99, 104, 97, 105, 110]⟩, .slice (some ⟨b + 1, 0, none⟩) 2 2, .func (.func 185) #[] #[], .string ⟨#[98, 101, 102, 111, 114, 101]⟩, .slice (some ⟨b + 1, 0, none⟩) 2 2, .func (.func 186) #[] #[], .string ⟨#[119, 105, 116, 104]⟩, .slice (some ⟨b + 1, 0, none⟩) 2 2, .func (.func 187) #[] #[], .string ⟨#[97, 112, 97, 114, 116]⟩, .slice (some ⟨b + 1, 0, none⟩) 2 2, .func (.func 188) #[] #[], .string ⟨#[110, 101, 118, 101, 114]⟩, .slice (some ⟨b + 1, 0, none⟩) 2 2, .func (.func 189) #[] #[], .string ⟨#[110, 111, 116, 110, 101, 120, 116]⟩, .slice (some ⟨b + 1, 0, none⟩) 2 2, .func (.func 190) #[] #[]]
theorem to12 {k : Nat} (h : k < 12) : k = 0 ∨ k = 1 ∨ k = 2 ∨ k = 3 ∨ k = 4 ∨ k = 5 ∨ k = 6 ∨ k = 7 ∨ k = 8 ∨ k = 9 ∨ k = 10 ∨ k = 11 := by omega
theorem tab_at (b k : Nat) (h : k < 12) : (tabC b)[k * 3]? = some (.string (twB k)) ∧ (tabC b)[k * 3 + 1]? = some (.slice (some ⟨tkB b k, 0, none⟩) (tkL k) (tkL k)) ∧ (tabC b)[k * 3 + 2]? = some (.func (.func (fnNo k)) #[] #[]) := by
  rcases to12 h with rfl | rfl | rfl | rfl | rfl | rfl | rfl | rfl | rfl | rfl | rfl | rfl <;> exact ⟨rfl, rfl, rfl⟩
theorem noFrom_step (l : List UInt8) (k : Nat) (h : k < 12) : noFrom l (tws.drop k) k = if l = (twB k).toList then k else noFrom l (tws.drop (k + 1)) (k + 1) := by
  have hl : k < tws.length := h
  have e : tws.drop k = tws.getD k [] :: tws.drop (k + 1) := by
    rw [List.drop_eq_getElem_cons hl]; simp [List.getD, List.getElem?_eq_getElem hl]
  have e2 : (twB k).toList = tws.getD k [] := by rw [ByteArray.toList_eq]; rfl
  rw [e, noFrom, e2]
/-- The blocks of what templates take. -/
structure TkAt (w : World) (b : Nat) : Prop where
  b0 : w.heap[b]? = some (.cells #[.int .i64 0] 290 (0, 0))
  b1 : w.heap[b + 1]? = some (.cells #[.int .i64 0, .int .i64 0] 290 (0, 0))
  b2 : w.heap[b + 1 + 1]? = some (.cells #[.int .i64 0, .int .i64 1] 290 (0, 0))
theorem TkAt.later {w w' : World} {b : Nat} (h : TkAt w b) (hb : Below w.heap.size w w') : TkAt w' b :=
  ⟨(hb.block _ (lt_of_blk h.b0)).trans h.b0, (hb.block _ (lt_of_blk h.b1)).trans h.b1, (hb.block _ (lt_of_blk h.b2)).trans h.b2⟩

set_option maxHeartbeats 1000000 in
theorem templates_any (w : World) :
    Calls Tryz.prog 164 #[] w fun e w' => e = .returned (.slice (some ⟨w.heap.size + 1 + 1 + 1, 0, none⟩) 12 12) ∧ w' = (((w.alloc (.cells #[.int .i64 0] 290)).alloc (.cells #[.int .i64 0, .int .i64 0] 290)).alloc (.cells #[.int .i64 0, .int .i64 1] 290)).alloc (.cells (tabC w.heap.size) 254) := by
  go_enter Tryz.func164, Tryz.ntmps164
  go_wp2_with fail
  go_ret
  exact ⟨rfl, rfl⟩

/-- What Find comes to. -/
def FindPost (s : ByteArray) (w w' : World) (e : Ending) : Prop :=
  Below w.heap.size w w' ∧ ∃ b, w.heap.size ≤ b ∧ TkAt w' b ∧
    ((tplNo s.toList ≤ 11 ∧ e = .returned (.tuple #[.agg #[.string (twB (tplNo s.toList)), (.slice (some ⟨tkB b (tplNo s.toList), 0, none⟩) (tkL (tplNo s.toList)) (tkL (tplNo s.toList))), (.func (.func (fnNo (tplNo s.toList))) #[] #[])], .bool true])) ∨
     (¬ tplNo s.toList ≤ 11 ∧ e = .returned (.tuple #[.agg #[.string ⟨#[]⟩, .slice none 0 0, .nilFunc], .bool false])))

set_option maxHeartbeats 2000000 in
set_option maxRecDepth 100000 in
theorem find_any (s : ByteArray) (w : World) : Calls Tryz.prog 138 #[.string s] w fun e w' => FindPost s w w' e := by
  go_enter Tryz.func138, Tryz.ntmps138
  go_wp2_with fail
  refine (templates_any _).mono ?_
  rintro e w1 ⟨rfl, hw1⟩
  have hsz : (w.alloc (.cells #[.string ⟨#[]⟩, .slice none 0 0, .nilFunc] 254)).heap.size = w.heap.size + 1 := by simp
  rw [hsz] at hw1
  simp only [hsz]
  have hrb : w1.heap[w.heap.size]? = some (.cells #[.string ⟨#[]⟩, .slice none 0 0, .nilFunc] 254 (0, 0)) := by
    rw [hw1]
    exact (Below.heap_alloc _ _ _ (by simp; omega)).trans ((Below.heap_alloc _ _ _ (by simp; omega)).trans ((Below.heap_alloc _ _ _ (by simp; omega)).trans ((Below.heap_alloc _ _ _ (by simp)).trans (blk_alloc _ _))))
  have htk : TkAt w1 (w.heap.size + 1) := by
    rw [hw1]
    exact ⟨(Below.heap_alloc _ _ _ (by simp)).trans ((Below.heap_alloc _ _ _ (by simp)).trans ((Below.heap_alloc _ _ _ (by simp)).trans (blk_alloc' _ _ _ (by simp)))), (Below.heap_alloc _ _ _ (by simp)).trans ((Below.heap_alloc _ _ _ (by simp)).trans (blk_alloc' _ _ _ (by simp))), (Below.heap_alloc _ _ _ (by simp)).trans (blk_alloc' _ _ _ (by simp))⟩
  have htb : w1.heap[w.heap.size + 1 + 1 + 1 + 1]? = some (.cells (tabC (w.heap.size + 1)) 254 (0, 0)) := by
    rw [hw1]
    exact blk_alloc' _ _ _ (by simp)
  have hB : Below w.heap.size w w1 := by
    rw [hw1]
    exact (((((Below.refl _ _).alloc (Nat.le_refl _) _).alloc (by simp) _).alloc (by simp; omega) _).alloc (by simp; omega) _).alloc (by simp; omega) _
  generalize htbe : w.heap.size + 1 + 1 + 1 + 1 = tb at *
  have htbl : w.heap.size < tb := by omega
  have HRB := hide hrb
  have HTK := hide htk
  have HTB := hide htb
  have HBW := hide hB
  clear hw1 hsz hrb htk htb hB htbe
  go_wp2_with fail
  go_loopw [8] (fun i wr => ∃ k : Nat, i = .int .i64 (k : Int) ∧ k ≤ 12 ∧ Hid (tplNo s.toList = noFrom s.toList (tws.drop k) k) ∧ Below w1.heap.size w1 wr) (fun i _ => 12 - (intOf i).toNat)
  case atStart => exact ⟨0, rfl, by omega, tplNo_from _, Below.refl _ _⟩
  case round =>
    obtain ⟨k, rfl, hk12, H, hb⟩ := hrel
    have hrb := (hb.block _ (lt_of_blk (unhide HRB))).trans (unhide HRB)
    have htb := (hb.block _ (lt_of_blk (unhide HTB))).trans (unhide HTB)
    have HRB2 := hide hrb
    have HTK2 := hide ((unhide HTK).later hb)
    have hrl : w.heap.size < wr.heap.size := lt_of_blk hrb
    have htl : tb < wr.heap.size := lt_of_blk htb
    have rc := fun o => cell_of_blk hrb o
    have rf := fun o => frozen_of_blk hrb o
    have HB := hide hb
    by_cases hk : k < 12
    · obtain ⟨c0, c1, c2⟩ := tab_at (w.heap.size + 1) k hk
      have d0 := (cell_of_blk htb (k * 3)).trans c0
      have d1 := (cell_of_blk htb (k * 3 + 1)).trans c1
      have d2 := (cell_of_blk htb (k * 3 + 2)).trans c2
      have HS := hide (noFrom_step s.toList k hk)
      clear hb hrb htb c0 c1 c2
      go_wp2_with fail

      · have he : s.toList = (twB k).toList := by simp_all
        have hno : tplNo s.toList = k := by rw [unhide H, unhide HS, if_pos he]
        have hfin : (((wr.setCell ⟨w.heap.size, 0, none⟩ (.string (twB k))).setCell ⟨w.heap.size, 1, none⟩ (.slice (some ⟨tkB (w.heap.size + 1) k, 0, none⟩) (tkL k) (tkL k))).setCell ⟨w.heap.size, 2, none⟩ (.func (.func (fnNo k)) #[] #[])).heap[w.heap.size]? = some (.cells #[.string (twB k), (.slice (some ⟨tkB (w.heap.size + 1) k, 0, none⟩) (tkL k) (tkL k)), (.func (.func (fnNo k)) #[] #[])] 254 (0, 0)) := blk_set (blk_set (blk_set (unhide HRB2) 0 _) 1 _) 2 _
        have rc2 := fun o => cell_of_blk hfin o
        clear rc
        refine bodyPost_ret (v := .tuple #[.agg #[.string (twB k), (.slice (some ⟨tkB (w.heap.size + 1) k, 0, none⟩) (tkL k) (tkL k)), (.func (.func (fnNo k)) #[] #[])], .bool true]) (by simp [results, Tryz.results138, go_sem, rc2, hrl]) rfl ?_
        refine ⟨(((((unhide HBW).trans ((unhide HB).mono (unhide HBW).size)).setCell (Nat.le_refl _) _).setCell (Nat.le_refl _) _).setCell (Nat.le_refl _) _).alloc (by simp [World.setCell]; omega) _, w.heap.size + 1, by omega, ?_, Or.inl ⟨by omega, by rw [hno]⟩⟩
        have h3 := unhide HTK2
        exact (show TkAt _ _ from ⟨(Below.heap_setCell _ _ _ _ (by show w.heap.size + 1 ≠ w.heap.size; omega)).trans ((Below.heap_setCell _ _ _ _ (by show w.heap.size + 1 ≠ w.heap.size; omega)).trans ((Below.heap_setCell _ _ _ _ (by show w.heap.size + 1 ≠ w.heap.size; omega)).trans h3.b0)), (Below.heap_setCell _ _ _ _ (by show w.heap.size + 1 + 1 ≠ w.heap.size; omega)).trans ((Below.heap_setCell _ _ _ _ (by show w.heap.size + 1 + 1 ≠ w.heap.size; omega)).trans ((Below.heap_setCell _ _ _ _ (by show w.heap.size + 1 + 1 ≠ w.heap.size; omega)).trans h3.b1)), (Below.heap_setCell _ _ _ _ (by show w.heap.size + 1 + 1 + 1 ≠ w.heap.size; omega)).trans ((Below.heap_setCell _ _ _ _ (by show w.heap.size + 1 + 1 + 1 ≠ w.heap.size; omega)).trans ((Below.heap_setCell _ _ _ _ (by show w.heap.size + 1 + 1 + 1 ≠ w.heap.size; omega)).trans h3.b2))⟩).later ((Below.refl _ _).alloc (Nat.le_refl _) _)
      · have he : ¬ s.toList = (twB k).toList := by intro e; simp_all
        go_round
        case rel => exact ⟨k + 1, by go_num, by omega, by show _ = _; rw [unhide H, unhide HS, if_neg he], (unhide HB).alloc (unhide HB).size _⟩
        case measure => simp [intOf]; omega
    · have hk' : k = 12 := by omega
      have HK := hide hk'
      clear hb hrb htb hk'
      go_wp2_with fail
      have hno : tplNo s.toList = 12 := by rw [unhide H, unhide HK]; rfl
      have hfin : (((wr.setCell ⟨w.heap.size, 0, none⟩ (.string ⟨#[]⟩)).setCell ⟨w.heap.size, 1, none⟩ (.slice none 0 0)).setCell ⟨w.heap.size, 2, none⟩ .nilFunc).heap[w.heap.size]? = some (.cells #[.string ⟨#[]⟩, .slice none 0 0, .nilFunc] 254 (0, 0)) := blk_set (blk_set (blk_set (unhide HRB2) 0 _) 1 _) 2 _
      have rc2 := fun o => cell_of_blk hfin o
      clear rc
      refine bodyPost_ret (v := .tuple #[.agg #[.string ⟨#[]⟩, .slice none 0 0, .nilFunc], .bool false]) (by simp [results, Tryz.results138, go_sem, rc2]) rfl ?_
      refine ⟨((((unhide HBW).trans ((unhide HB).mono (unhide HBW).size)).setCell (Nat.le_refl _) _).setCell (Nat.le_refl _) _).setCell (Nat.le_refl _) _, w.heap.size + 1, by omega, ?_, Or.inr ⟨by omega, rfl⟩⟩
      have h3 := unhide HTK2
      exact ⟨(Below.heap_setCell _ _ _ _ (by show w.heap.size + 1 ≠ w.heap.size; omega)).trans ((Below.heap_setCell _ _ _ _ (by show w.heap.size + 1 ≠ w.heap.size; omega)).trans ((Below.heap_setCell _ _ _ _ (by show w.heap.size + 1 ≠ w.heap.size; omega)).trans h3.b0)), (Below.heap_setCell _ _ _ _ (by show w.heap.size + 1 + 1 ≠ w.heap.size; omega)).trans ((Below.heap_setCell _ _ _ _ (by show w.heap.size + 1 + 1 ≠ w.heap.size; omega)).trans ((Below.heap_setCell _ _ _ _ (by show w.heap.size + 1 + 1 ≠ w.heap.size; omega)).trans h3.b1)), (Below.heap_setCell _ _ _ _ (by show w.heap.size + 1 + 1 + 1 ≠ w.heap.size; omega)).trans ((Below.heap_setCell _ _ _ _ (by show w.heap.size + 1 + 1 + 1 ≠ w.heap.size; omega)).trans ((Below.heap_setCell _ _ _ _ (by show w.heap.size + 1 + 1 + 1 ≠ w.heap.size; omega)).trans h3.b2))⟩
end Go.Proofs.YtoclbcffbhldmaaGreatDoor
