/- The reference's unary, and all of its reader of formulas. -/
import Derived.Test.YtoclbcffbhldmaaGreatDoorR3
namespace Go.Proofs.YtoclbcffbhldmaaGreatDoor
open Go.RowKit Go.Deep

def ops5 : ByteArray := ⟨#[33, 88, 78, 70, 71]⟩

theorem blk_alloc' (w : World) (o : Obj) (n : Nat) (h : n = w.heap.size) : (w.alloc o).heap[n]? = some o := by rw [h]; exact blk_alloc w o
theorem within_is (s : ByteArray) (c : UInt8) (b : Bool) (w : World) (hs : s.size ≤ maxLen) (h : hasC s.data.toList c = b) :
    Calls Tryz.prog 166 #[.string s, .int .u8 (c.toNat : Int)] w fun e w' => e = .returned (.bool b) ∧ w' = w := by
  rw [← h]; exact within_any s c w hs

set_option maxHeartbeats 1000000 in
theorem unary_fail0 (n : Nat) (w : World) (pb g cap : Nat) (L : List Tk) (i k q : Nat) (s : ByteArray) (r : List Tk) (h : PS w pb g cap L i false) (ht : L.drop i = ⟨k, s, q⟩ :: r)
    (h1 : (refK k == 111) = false) (h2 : (refK k == 110) = false) (h3 : (refK k == 119) = false) (hx : pf n 4 .nil (L.drop i) = .error q) :
    Calls Tryz.prog 207 #[.pointer (some ⟨pb, 0, none⟩)] w fun e w' => Left L pb g cap w w' e (pf n 4 .nil (L.drop i)) := by
  rw [hx]
  have HT := hide ht
  have HP := hide h
  obtain ⟨c0, c1, c2⟩ := h.cells
  clear h ht hx
  go_enter Tryz.func207, Tryz.ntmps207
  go_wp2_with (go_at_call 111; refine (now_any _ _ _ _ _ _ _ _ _ (unhide HP) (unhide HT)).mono ?_)
  rintro e w1 ⟨rfl, hb⟩
  have HP1 := hide ((unhide HP).later hb)
  have HB := hide hb
  simp only [tkR]
  clear hb c0 c1 c2
  go_wp2_with (go_at_call 167; refine (fail_any _ _ _ _ _ _ _ ((unhide HP1).alloc _)).mono ?_)
  rintro e w2 ⟨rfl, hp2, hg2⟩
  have HP2 := hide hp2
  have HG2 := hide hg2
  clear hp2 hg2
  go_wp2_with fail
  go_ret
  refine ⟨grown_alloc ((grown_alloc (grown_below (unhide HB) _) _).trans (unhide HG2)) _, _, rfl, i, ?_, (unhide HP2).alloc _⟩
  rw [unhide HT]; rfl

set_option maxHeartbeats 1000000 in
theorem unary_fail1 (n : Nat) (w : World) (pb g cap : Nat) (L : List Tk) (i k q : Nat) (c : UInt8) (r : List Tk) (h : PS w pb g cap L i false) (ht : L.drop i = ⟨k, ⟨#[c]⟩, q⟩ :: r)
    (h1 : (refK k == 111) = true) (h2 : (refK k == 110) = false) (h3 : (refK k == 119) = false) (hc : hasC ops5.data.toList c = false) (h40 : ([c] == [40]) = false) (hx : pf n 4 .nil (L.drop i) = .error q) :
    Calls Tryz.prog 207 #[.pointer (some ⟨pb, 0, none⟩)] w fun e w' => Left L pb g cap w w' e (pf n 4 .nil (L.drop i)) := by
  rw [hx]
  have HT := hide ht
  have HP := hide h
  have HC := hide hc
  obtain ⟨c0, c1, c2⟩ := h.cells
  clear h ht hx hc
  go_enter Tryz.func207, Tryz.ntmps207
  go_wp2_with (go_at_call 111; refine (now_any _ _ _ _ _ _ _ _ _ (unhide HP) (unhide HT)).mono ?_)
  rintro e w1 ⟨rfl, hb⟩
  have HP1 := hide ((unhide HP).later hb)
  have HB := hide hb
  simp only [tkR]
  clear hb c0 c1 c2
  go_wp2_with (first | (go_at_call 166; refine (within_is _ _ false _ (by decide) (unhide HC)).mono ?_; rintro e w' ⟨rfl, rfl⟩) | (go_at_call 167; refine (fail_any _ _ _ _ _ _ _ ((unhide HP1).alloc _)).mono ?_))
  rintro e w2 ⟨rfl, hp2, hg2⟩
  have HP2 := hide hp2
  have HG2 := hide hg2
  clear hp2 hg2
  go_wp2_with fail
  go_ret
  refine ⟨grown_alloc ((grown_alloc (grown_below (unhide HB) _) _).trans (unhide HG2)) _, _, rfl, i, ?_, (unhide HP2).alloc _⟩
  rw [unhide HT]; rfl

set_option maxHeartbeats 1000000 in
theorem unary_fail2 (n : Nat) (w : World) (pb g cap : Nat) (L : List Tk) (i k q : Nat) (r : List Tk) (h : PS w pb g cap L i false) (ht : L.drop i = ⟨k, ⟨#[45, 62]⟩, q⟩ :: r)
    (h1 : (refK k == 111) = true) (h2 : (refK k == 110) = false) (h3 : (refK k == 119) = false) (hx : pf n 4 .nil (L.drop i) = .error q) :
    Calls Tryz.prog 207 #[.pointer (some ⟨pb, 0, none⟩)] w fun e w' => Left L pb g cap w w' e (pf n 4 .nil (L.drop i)) := by
  rw [hx]
  have HT := hide ht
  have HP := hide h
  obtain ⟨c0, c1, c2⟩ := h.cells
  clear h ht hx
  go_enter Tryz.func207, Tryz.ntmps207
  go_wp2_with (go_at_call 111; refine (now_any _ _ _ _ _ _ _ _ _ (unhide HP) (unhide HT)).mono ?_)
  rintro e w1 ⟨rfl, hb⟩
  have HP1 := hide ((unhide HP).later hb)
  have HB := hide hb
  simp only [tkR]
  clear hb c0 c1 c2
  go_wp2_with (go_at_call 167; refine (fail_any _ _ _ _ _ _ _ ((unhide HP1).alloc _)).mono ?_)
  rintro e w2 ⟨rfl, hp2, hg2⟩
  have HP2 := hide hp2
  have HG2 := hide hg2
  clear hp2 hg2
  go_wp2_with fail
  go_ret
  refine ⟨grown_alloc ((grown_alloc (grown_below (unhide HB) _) _).trans (unhide HG2)) _, _, rfl, i, ?_, (unhide HP2).alloc _⟩
  rw [unhide HT]; rfl

set_option maxHeartbeats 1000000 in
theorem unary_fail3 (n : Nat) (w : World) (pb g cap : Nat) (L : List Tk) (i k q : Nat) (s : ByteArray) (r : List Tk) (h : PS w pb g cap L i false) (ht : L.drop i = ⟨k, s, q⟩ :: r)
    (h1 : (refK k == 111) = false) (h2 : (refK k == 110) = false) (h3 : (refK k == 119) = true) (h6 : (s.toList == [116, 114, 117, 101]) = false) (h7 : (s.toList == [102, 97, 108, 115, 101]) = false) (h8 : (s.toList == [101, 110, 100]) = false) (hx : pf n 4 .nil (L.drop i) = .error q) :
    Calls Tryz.prog 207 #[.pointer (some ⟨pb, 0, none⟩)] w fun e w' => Left L pb g cap w w' e (pf n 4 .nil (L.drop i)) := by
  rw [hx]
  have HT := hide ht
  have HP := hide h
  obtain ⟨c0, c1, c2⟩ := h.cells
  clear h ht hx
  go_enter Tryz.func207, Tryz.ntmps207
  go_wp2_with (go_at_call 111; refine (now_any _ _ _ _ _ _ _ _ _ (unhide HP) (unhide HT)).mono ?_)
  rintro e w1 ⟨rfl, hb⟩
  have HP1 := hide ((unhide HP).later hb)
  have HB := hide hb
  simp only [tkR]
  clear hb c0 c1 c2
  go_wp2_with (go_at_call 167; refine (fail_any _ _ _ _ _ _ _ ((unhide HP1).alloc _)).mono ?_)
  rintro e w2 ⟨rfl, hp2, hg2⟩
  have HP2 := hide hp2
  have HG2 := hide hg2
  clear hp2 hg2
  go_wp2_with fail
  go_ret
  refine ⟨grown_alloc ((grown_alloc (grown_below (unhide HB) _) _).trans (unhide HG2)) _, _, rfl, i, ?_, (unhide HP2).alloc _⟩
  rw [unhide HT]; rfl

set_option maxHeartbeats 1000000 in
theorem unary_name (n : Nat) (w : World) (pb g cap : Nat) (L : List Tk) (i k q : Nat) (s : ByteArray) (u : Tk) (r : List Tk) (h : PS w pb g cap L i false) (ht : L.drop i = ⟨k, s, q⟩ :: u :: r)
    (h1 : (refK k == 111) = false) (h2 : (refK k == 110) = true) (hx : pf n 4 .nil (L.drop i) = .ok (leaf 0 s q, u :: r)) :
    Calls Tryz.prog 207 #[.pointer (some ⟨pb, 0, none⟩)] w fun e w' => Left L pb g cap w w' e (pf n 4 .nil (L.drop i)) := by
  rw [hx]
  have HT := hide ht
  have HP := hide h
  have hlt := h.lt
  have hlen := h.len
  obtain ⟨c0, c1, c2⟩ := h.cells
  clear h ht hx
  go_enter Tryz.func207, Tryz.ntmps207
  go_wp2_with (go_at_call 111; refine (now_any _ _ _ _ _ _ _ _ _ (unhide HP) (unhide HT)).mono ?_)
  rintro e w1 ⟨rfl, hb⟩
  have HP1 := hide ((unhide HP).later hb)
  have HB := hide hb
  simp only [tkR]
  clear hb c0 c1 c2
  obtain ⟨c0, c1, c2⟩ := (unhide HP1).cells
  have hf := frozen_of_blk (unhide HP1).blk 1
  have hp1 := lt_of_blk (unhide HP1).blk
  go_wp2_with fail
  go_ret
  exact ⟨grown_alloc (grown_alloc ((grown_below (unhide HB) _).trans (grown_set _ _ _ _)) _) _, _, rfl, ⟨w1.heap.size + 1, none, none, rfl, blk_alloc' _ _ _ (by simp), rfl, rfl⟩, i + 1, drop_tail (unhide HT), (((unhide HP1).setI (unhide HT)).alloc _).alloc _⟩

set_option maxHeartbeats 1000000 in
theorem unary_w6 (n : Nat) (w : World) (pb g cap : Nat) (L : List Tk) (i q : Nat) (u : Tk) (r : List Tk) (h : PS w pb g cap L i false) (ht : L.drop i = ⟨6, ⟨#[116, 114, 117, 101]⟩, q⟩ :: u :: r)
    (hx : pf n 4 .nil (L.drop i) = .ok (leaf 1 ByteArray.empty 0, u :: r)) :
    Calls Tryz.prog 207 #[.pointer (some ⟨pb, 0, none⟩)] w fun e w' => Left L pb g cap w w' e (pf n 4 .nil (L.drop i)) := by
  have hr : refK 6 = 119 := rfl
  rw [hx]
  have HT := hide ht
  have HP := hide h
  have hlt := h.lt
  have hlen := h.len
  obtain ⟨c0, c1, c2⟩ := h.cells
  clear h ht hx
  go_enter Tryz.func207, Tryz.ntmps207
  go_wp2_with (go_at_call 111; refine (now_any _ _ _ _ _ _ _ _ _ (unhide HP) (unhide HT)).mono ?_)
  rintro e w1 ⟨rfl, hb⟩
  have HP1 := hide ((unhide HP).later hb)
  have HB := hide hb
  simp only [tkR]
  clear hb c0 c1 c2
  obtain ⟨c0, c1, c2⟩ := (unhide HP1).cells
  have hf := frozen_of_blk (unhide HP1).blk 1
  have hp1 := lt_of_blk (unhide HP1).blk
  simp only [hr]
  go_wp2_with fail
  go_ret
  exact ⟨grown_alloc (grown_alloc ((grown_below (unhide HB) _).trans (grown_set _ _ _ _)) _) _, _, rfl, ⟨w1.heap.size + 1, none, none, rfl, blk_alloc' _ _ _ (by simp), rfl, rfl⟩, i + 1, drop_tail (unhide HT), (((unhide HP1).setI (unhide HT)).alloc _).alloc _⟩

set_option maxHeartbeats 1000000 in
theorem unary_w7 (n : Nat) (w : World) (pb g cap : Nat) (L : List Tk) (i q : Nat) (u : Tk) (r : List Tk) (h : PS w pb g cap L i false) (ht : L.drop i = ⟨7, ⟨#[102, 97, 108, 115, 101]⟩, q⟩ :: u :: r)
    (hx : pf n 4 .nil (L.drop i) = .ok (leaf 2 ByteArray.empty 0, u :: r)) :
    Calls Tryz.prog 207 #[.pointer (some ⟨pb, 0, none⟩)] w fun e w' => Left L pb g cap w w' e (pf n 4 .nil (L.drop i)) := by
  have hr : refK 7 = 119 := rfl
  rw [hx]
  have HT := hide ht
  have HP := hide h
  have hlt := h.lt
  have hlen := h.len
  obtain ⟨c0, c1, c2⟩ := h.cells
  clear h ht hx
  go_enter Tryz.func207, Tryz.ntmps207
  go_wp2_with (go_at_call 111; refine (now_any _ _ _ _ _ _ _ _ _ (unhide HP) (unhide HT)).mono ?_)
  rintro e w1 ⟨rfl, hb⟩
  have HP1 := hide ((unhide HP).later hb)
  have HB := hide hb
  simp only [tkR]
  clear hb c0 c1 c2
  obtain ⟨c0, c1, c2⟩ := (unhide HP1).cells
  have hf := frozen_of_blk (unhide HP1).blk 1
  have hp1 := lt_of_blk (unhide HP1).blk
  simp only [hr]
  go_wp2_with fail
  go_ret
  exact ⟨grown_alloc (grown_alloc ((grown_below (unhide HB) _).trans (grown_set _ _ _ _)) _) _, _, rfl, ⟨w1.heap.size + 1, none, none, rfl, blk_alloc' _ _ _ (by simp), rfl, rfl⟩, i + 1, drop_tail (unhide HT), (((unhide HP1).setI (unhide HT)).alloc _).alloc _⟩

set_option maxHeartbeats 1000000 in
theorem unary_w8 (n : Nat) (w : World) (pb g cap : Nat) (L : List Tk) (i q : Nat) (u : Tk) (r : List Tk) (h : PS w pb g cap L i false) (ht : L.drop i = ⟨8, ⟨#[101, 110, 100]⟩, q⟩ :: u :: r)
    (hx : pf n 4 .nil (L.drop i) = .ok (leaf 3 ByteArray.empty 0, u :: r)) :
    Calls Tryz.prog 207 #[.pointer (some ⟨pb, 0, none⟩)] w fun e w' => Left L pb g cap w w' e (pf n 4 .nil (L.drop i)) := by
  have hr : refK 8 = 119 := rfl
  rw [hx]
  have HT := hide ht
  have HP := hide h
  have hlt := h.lt
  have hlen := h.len
  obtain ⟨c0, c1, c2⟩ := h.cells
  clear h ht hx
  go_enter Tryz.func207, Tryz.ntmps207
  go_wp2_with (go_at_call 111; refine (now_any _ _ _ _ _ _ _ _ _ (unhide HP) (unhide HT)).mono ?_)
  rintro e w1 ⟨rfl, hb⟩
  have HP1 := hide ((unhide HP).later hb)
  have HB := hide hb
  simp only [tkR]
  clear hb c0 c1 c2
  obtain ⟨c0, c1, c2⟩ := (unhide HP1).cells
  have hf := frozen_of_blk (unhide HP1).blk 1
  have hp1 := lt_of_blk (unhide HP1).blk
  simp only [hr]
  go_wp2_with fail
  go_ret
  exact ⟨grown_alloc (grown_alloc ((grown_below (unhide HB) _).trans (grown_set _ _ _ _)) _) _, _, rfl, ⟨w1.heap.size + 1, none, none, rfl, blk_alloc' _ _ _ (by simp), rfl, rfl⟩, i + 1, drop_tail (unhide HT), (((unhide HP1).setI (unhide HT)).alloc _).alloc _⟩

set_option maxHeartbeats 1000000 in
theorem unary_op (n : Nat) (hU : SU n) (w : World) (pb g cap : Nat) (L : List Tk) (i k q : Nat) (c : UInt8) (u : Tk) (r : List Tk) (h : PS w pb g cap L i false) (ht : L.drop i = ⟨k, ⟨#[c]⟩, q⟩ :: u :: r)
    (h1 : (refK k == 111) = true) (hc : hasC ops5.data.toList c = true) (hop : (c.toNat : Int) = refO (opOf k)) (hn : 6 * (L.drop (i + 1)).length + 1 ≤ n)
    (hx : pf (n + 1) 4 .nil (L.drop i) = (match pf n 4 .nil (L.drop (i + 1)) with | .error q => .error q | .ok (a, l1) => .ok (one (opOf k) a, l1))) :
    Calls Tryz.prog 207 #[.pointer (some ⟨pb, 0, none⟩)] w fun e w' => Left L pb g cap w w' e (pf (n + 1) 4 .nil (L.drop i)) := by
  have HU := hide hU
  have HN := hide hn
  have HC := hide hc
  have HOP := hide hop
  clear hU hn hc hop
  have HX := hide hx
  have HT := hide ht
  have HP := hide h
  have hlt := h.lt
  have hlen := h.len
  obtain ⟨c0, c1, c2⟩ := h.cells
  clear h ht hx
  go_enter Tryz.func207, Tryz.ntmps207
  go_wp2_with (go_at_call 111; refine (now_any _ _ _ _ _ _ _ _ _ (unhide HP) (unhide HT)).mono ?_)
  rintro e w1 ⟨rfl, hb⟩
  have HP1 := hide ((unhide HP).later hb)
  have HB := hide hb
  simp only [tkR]
  clear hb c0 c1 c2
  obtain ⟨c0, c1, c2⟩ := (unhide HP1).cells
  have hf := frozen_of_blk (unhide HP1).blk 1
  have hp1 := lt_of_blk (unhide HP1).blk
  go_wp2_with (first | (go_at_call 166; refine (within_is _ _ true _ (by decide) (unhide HC)).mono ?_; rintro e w' ⟨rfl, rfl⟩) | (go_at_call 207; refine ((unhide HU) _ _ _ _ _ _ (((unhide HP1).setI (unhide HT)).alloc _) (unhide HN)).mono ?_))
  rintro e w2 ⟨hg2, p2, rfl, hx2⟩
  have HG2 := hide hg2
  have hbx2 : w2.heap[w1.heap.size]? = some (.cells #[.int .u8 (refK k), .string ⟨#[c]⟩, .int .i64 q] 122 (0, 0)) :=
      (hg2.block _ (by simp) (by simp; omega)).trans (blk_alloc' _ _ _ (by simp))
  have b1 := cell_of_blk hbx2 1
  simp at b1
  clear hg2 hbx2 c0 c1 c2
  cases hpf : pf n 4 .nil (L.drop (i + 1)) with
  | error q =>
    rw [hpf] at hx2
    have HX2 : Hid (pf (n + 1) 4 .nil (L.drop i) = .error q) := by show _ = _; rw [unhide HX, hpf]
    obtain ⟨i3, hq3, hp3⟩ := hx2
    have HP3 := hide hp3
    have HQ3 := hide hq3
    clear hp3 hq3 hpf
    go_wp2_with fail
    go_ret
    rw [unhide HX2]
    exact ⟨grown_alloc ((grown_alloc ((grown_below (unhide HB) _).trans (grown_set _ _ _ _)) _).trans (unhide HG2)) _, _, rfl, i3, unhide HQ3, (unhide HP3).alloc _⟩
  | ok x =>
    obtain ⟨a, l1⟩ := x
    rw [hpf] at hx2
    have HX2 : Hid (pf (n + 1) 4 .nil (L.drop i) = .ok (one (opOf k) a, l1)) := by show _ = _; rw [unhide HX, hpf]
    obtain ⟨hf3, i3, hq3, hp3⟩ := hx2
    have HP3 := hide hp3
    have HQ3 := hide hq3
    have HF3 := hide hf3
    clear hp3 hq3 hpf hf3
    go_wp2_with fail
    go_ret
    rw [unhide HX2]
    refine ⟨grown_alloc ((grown_alloc ((grown_below (unhide HB) _).trans (grown_set _ _ _ _)) _).trans (unhide HG2)) _, _, rfl, ⟨w2.heap.size, p2, none, rfl, ?_, (unhide HF3).later ((Below.refl _ _).alloc (Nat.le_refl _) _), rfl⟩, i3, unhide HQ3, (unhide HP3).alloc _⟩
    rw [blk_alloc, ← unhide HOP]; rfl

set_option maxHeartbeats 1000000 in
theorem unary_bracket (n : Nat) (hF : SF n) (w : World) (pb g cap : Nat) (L : List Tk) (i k q : Nat) (u : Tk) (r : List Tk) (h : PS w pb g cap L i false) (ht : L.drop i = ⟨k, ⟨#[40]⟩, q⟩ :: u :: r)
    (h1 : (refK k == 111) = true) (hn : 6 * (L.drop (i + 1)).length + 5 ≤ n)
    (hx : pf (n + 1) 4 .nil (L.drop i) = (match pf n 0 .nil (L.drop (i + 1)) with | .error q => .error q | .ok (a, l1) => if headK l1 = 19 then .ok (a, l1.tail) else .error (headP l1))) :
    Calls Tryz.prog 207 #[.pointer (some ⟨pb, 0, none⟩)] w fun e w' => Left L pb g cap w w' e (pf (n + 1) 4 .nil (L.drop i)) := by
  have HU := hide hF
  have HN := hide hn
  have HC : Hid (hasC ops5.data.toList 40 = false) := by show _ = _; rfl
  clear hF hn
  have HX := hide hx
  have HT := hide ht
  have HP := hide h
  have hlt := h.lt
  have hlen := h.len
  obtain ⟨c0, c1, c2⟩ := h.cells
  clear h ht hx
  go_enter Tryz.func207, Tryz.ntmps207
  go_wp2_with (go_at_call 111; refine (now_any _ _ _ _ _ _ _ _ _ (unhide HP) (unhide HT)).mono ?_)
  rintro e w1 ⟨rfl, hb⟩
  have HP1 := hide ((unhide HP).later hb)
  have HB := hide hb
  simp only [tkR]
  clear hb c0 c1 c2
  obtain ⟨c0, c1, c2⟩ := (unhide HP1).cells
  have hf := frozen_of_blk (unhide HP1).blk 1
  have hp1 := lt_of_blk (unhide HP1).blk
  go_wp2_with (first | (go_at_call 166; refine (within_is _ _ false _ (by decide) (unhide HC)).mono ?_; rintro e w' ⟨rfl, rfl⟩) | (go_at_call 169; refine ((unhide HU) _ _ _ _ _ _ (((unhide HP1).setI (unhide HT)).alloc _) (unhide HN)).mono ?_))
  rintro e w2 ⟨hg2, p2, rfl, hx2⟩
  have HG2 := hide hg2
  clear hg2 c0 c1 c2
  cases hpf : pf n 0 .nil (L.drop (i + 1)) with
  | error q =>
    rw [hpf] at hx2
    have HX2 : Hid (pf (n + 1) 4 .nil (L.drop i) = .error q) := by show _ = _; rw [unhide HX, hpf]
    obtain ⟨i3, hq3, hp3⟩ := hx2
    obtain ⟨t3, r3, ht3⟩ := drop_ne hp3.lt
    have HP3 := hide hp3
    have HQ3 := hide hq3
    have HT3 := hide ht3
    clear hp3 hq3 hpf ht3
    go_wp2_with (go_at_call 142; refine (must_no _ 19 _ _ _ _ _ _ _ _ _ (unhide HP3) (unhide HT3) rfl (by decide) (by decide) (Or.inl rfl)).mono ?_)
    rintro e w4 ⟨rfl, hp4, hg4⟩
    have HP4 := hide hp4
    have HG4 := hide hg4
    clear hp4 hg4
    go_wp2_with fail
    go_ret
    rw [unhide HX2]
    exact ⟨((grown_alloc ((grown_below (unhide HB) _).trans (grown_set _ _ _ _)) _).trans (unhide HG2)).trans (unhide HG4), _, rfl, i3, unhide HQ3, unhide HP4⟩
  | ok x =>
    obtain ⟨a, l1⟩ := x
    rw [hpf] at hx2
    obtain ⟨hf3, i3, hq3, hp3⟩ := hx2
    subst hq3
    by_cases h19 : headK (L.drop i3) = 19
    · obtain ⟨t3, u3, r3, ht3, hk3⟩ := head_yes hp3.ends (by decide) h19
      have HX2 : Hid (pf (n + 1) 4 .nil (L.drop i) = .ok (a, L.drop (i3 + 1))) := by show _ = _; rw [unhide HX, hpf]; simp only [h19, if_true]; rw [drop_tail ht3, ht3]; rfl
      have HP3 := hide hp3
      have HF3 := hide hf3
      have HT3 := hide ht3
      have HK3 := hide hk3
      clear hp3 hpf hf3 ht3 hk3 h19
      go_wp2_with (go_at_call 142; refine (must_yes _ 19 _ _ _ _ _ _ _ _ _ (unhide HP3) (unhide HT3) rfl (by decide) (by decide) (unhide HK3)).mono ?_)
      rintro e w4 ⟨rfl, hp4, hg4⟩
      have HP4 := hide hp4
      have HG4 := hide hg4
      clear hp4 hg4
      go_wp2_with fail
      go_ret
      rw [unhide HX2]
      exact ⟨((grown_alloc ((grown_below (unhide HB) _).trans (grown_set _ _ _ _)) _).trans (unhide HG2)).trans (unhide HG4), _, rfl, (unhide HF3).keepP (unhide HP3) (unhide HG4), i3 + 1, rfl, unhide HP4⟩
    · obtain ⟨t3, r3, ht3, hk3⟩ := head_no hp3.ends h19
      have HX2 : Hid (pf (n + 1) 4 .nil (L.drop i) = .error (headP (L.drop i3))) := by show _ = _; rw [unhide HX, hpf]; simp only [h19, if_false]
      have HP3 := hide hp3
      have HT3 := hide ht3
      have HK3 := hide hk3
      clear hp3 hpf hf3 ht3 hk3 h19
      go_wp2_with (go_at_call 142; refine (must_no _ 19 _ _ _ _ _ _ _ _ _ (unhide HP3) (unhide HT3) rfl (by decide) (by decide) (Or.inr (unhide HK3))).mono ?_)
      rintro e w4 ⟨rfl, hp4, hg4⟩
      have HP4 := hide hp4
      have HG4 := hide hg4
      clear hp4 hg4
      go_wp2_with fail
      go_ret
      rw [unhide HX2]
      exact ⟨((grown_alloc ((grown_below (unhide HB) _).trans (grown_set _ _ _ _)) _).trans (unhide HG2)).trans (unhide HG4), _, rfl, i3, rfl, unhide HP4⟩
end Go.Proofs.YtoclbcffbhldmaaGreatDoor
