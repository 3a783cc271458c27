/- The program's wordKind, tokenAt. -/
import Derived.Test.YtidakhhekofkoaaGreatDoorK09
import Derived.Test.YtidakhhekofkoaaGreatDoorK05
import Derived.Deep.RegionWith
import Derived.OrdersHeld
set_option linter.unusedSimpArgs false
open List renaming setIfInBounds_toArray → zA, set_cons_zero → zB, set_cons_succ → zC, getElem_toArray → zD, getElem_cons_succ → zE, getElem_cons_zero → zF
namespace Go.Proofs.YtidakhhekofkoaaGreatDoor
open Go.RowKit Go.Deep
def wds : List (List UInt8 × Nat) := [([97, 99, 116, 115], 4), ([114, 117, 108, 101], 5), ([116, 114, 117, 101], 6), ([102, 97, 108, 115, 101], 7), ([101, 110, 100], 8)]
def lookW (l : List UInt8) : List (List UInt8 × Nat) → Nat
 | [] => 2
 | x :: r => if l = x.1 then x.2 else lookW l r
theorem wordK_look (l : List UInt8) : wordK l = lookW l wds := rfl
theorem ixW0 (w : World) : (Instr.index 321 (.agg wordsC) (.int .i64 0)).run Tryz.prog w = .ok (.agg #[.string ⟨#[97, 99, 116, 115]⟩, .int .i64 4]) w := by kernel_rfl
theorem ixW1 (w : World) : (Instr.index 321 (.agg wordsC) (.int .i64 1)).run Tryz.prog w = .ok (.agg #[.string ⟨#[114, 117, 108, 101]⟩, .int .i64 5]) w := by kernel_rfl
theorem ixW2 (w : World) : (Instr.index 321 (.agg wordsC) (.int .i64 2)).run Tryz.prog w = .ok (.agg #[.string ⟨#[116, 114, 117, 101]⟩, .int .i64 6]) w := by kernel_rfl
theorem ixW3 (w : World) : (Instr.index 321 (.agg wordsC) (.int .i64 3)).run Tryz.prog w = .ok (.agg #[.string ⟨#[102, 97, 108, 115, 101]⟩, .int .i64 7]) w := by kernel_rfl
theorem ixW4 (w : World) : (Instr.index 321 (.agg wordsC) (.int .i64 4)).run Tryz.prog w = .ok (.agg #[.string ⟨#[101, 110, 100]⟩, .int .i64 8]) w := by kernel_rfl
set_option maxHeartbeats 2000000 in
set_option maxRecDepth 100000 in
theorem wordKind_any (s : ByteArray) (w : World) (hG : GV w) :
    Calls Tryz.prog 171 #[.string s] w fun e w' => e = .returned (.int .i64 (wordK s.toList : Nat)) ∧ Below w.heap.size w w' := by
  obtain ⟨t, m, hg⟩ := hG.ws
  clear hG
  rw [wordK_look]
  go_enter Tryz.func171, Tryz.ntmps171
  go_wp2_with (refine wpList_load_row rfl 321 _ rfl 2 rfl t _ m _ hg Tryz.underlying321 rfl (by kernel_rfl) ?_)
  clear hg
  go_loopw [6] (fun i wr => ∃ z : Int, i = .int .i64 z ∧ 0 ≤ z ∧ z ≤ 5 ∧ Hid (lookW s.toList wds = lookW s.toList (wds.drop z.toNat)) ∧ Below w.heap.size w wr) (fun i _ => (5 - intOf i).toNat)
  case atStart => exact ⟨0, rfl, by omega, by omega, rfl, Below.refl _ _⟩
  case round =>
    obtain ⟨z, rfl, h0, h5, H, hb⟩ := hrel
    have HB := hide hb
    clear hb
    have hz : z = 0 ∨ z = 1 ∨ z = 2 ∨ z = 3 ∨ z = 4 ∨ z = 5 := by omega
    clear h0 h5
    have i0 := ixW0
    have i1 := ixW1
    have i2 := ixW2
    have i3 := ixW3
    have i4 := ixW4
    rcases hz with rfl | rfl | rfl | rfl | rfl | rfl
    all_goals go_wp2_with fail
    all_goals first
      | (go_ret
         refine ⟨ret_int ?_, by first | exact unhide HB | exact (unhide HB).alloc (unhide HB).size _⟩
         rw [H.out]
         first | rfl | (simp_all [lookW, wds]; done))
      | (go_round
         case rel => exact ⟨_, rfl, by decide, by decide, H.out.trans (if_neg (by intro h; clear H; simp [wds] at h; simp_all)), by first | exact unhide HB | exact (unhide HB).alloc (unhide HB).size _⟩
         case measure => simp [intOf])
theorem rest_list (s : ByteArray) (j : Nat) : (s.extract j s.size).data.toList = s.data.toList.drop j := by
 rw [Lib.extract_data, List.take_of_length_le (by rw [List.length_drop, size_data]; omega)]
theorem rest_upTo (s : ByteArray) (j : Nat) : j + upTo isLet (s.extract j s.size) 0 = upTo isLet s j := by
 unfold upTo; rw [rest_list, List.drop_zero]; omega
theorem byte_eq {a : ByteArray} {l : List UInt8} (h : a.data.toList = l) : a = ⟨l.toArray⟩ := by
 cases a with
 | mk d => simp at h; subst h; simp
theorem byte_inj {a b : ByteArray} (h : a.data.toList = b.data.toList) : a = b := (byte_eq h).trans (byte_eq rfl).symm
theorem rest_extract (s : ByteArray) (j n : Nat) (_ : j + n ≤ s.size) : (s.extract j s.size).extract 0 n = s.extract j (j + n) := by
 apply byte_inj
 rw [Lib.extract_data, rest_list, Lib.extract_data, List.drop_zero]
 congr 1; omega
def sgs : List (List UInt8 × Nat) := [([88], 9), ([78], 10), ([70], 11), ([71], 12), ([85], 13), ([45, 62], 14), ([124], 15), ([38], 16), ([33], 17), ([40], 18), ([41], 19), ([44], 20), ([59], 21)]
def lookS (l : List UInt8) : List (List UInt8 × Nat) → Option (List UInt8 × Nat)
 | [] => none
 | x :: r => if l.take x.1.length = x.1 then some x else lookS l r
def signTk (s : ByteArray) (j : Nat) : Option (List UInt8 × Nat) → Tk
 | none => ⟨1, s.extract j (j + 1), j⟩
 | some x => ⟨x.2, ⟨x.1.toArray⟩, j⟩
def look1 (c : UInt8) : Option (List UInt8 × Nat) := if c = 88 then some ([88], 9) else if c = 78 then some ([78], 10) else if c = 70 then some ([70], 11) else if c = 71 then some ([71], 12) else if c = 85 then some ([85], 13) else if c = 124 then some ([124], 15) else if c = 38 then some ([38], 16) else if c = 33 then some ([33], 17) else if c = 40 then some ([40], 18) else if c = 41 then some ([41], 19) else if c = 44 then some ([44], 20) else if c = 59 then some ([59], 21) else none
theorem look1_eq (c : UInt8) : look1 c = if signK c.toNat = 1 then none else some ([c], signK c.toNat) := by
 have aux : ∀ n : Nat, ∀ _ : n < 256, look1 (UInt8.ofNat n) = if signK n = 1 then none else some ([UInt8.ofNat n], signK n) := by
  intro n hn
  exact (by decide +kernel : ∀ m : Fin 256, look1 (UInt8.ofNat m.val) = if signK m.val = 1 then none else some ([UInt8.ofNat m.val], signK m.val)) ⟨n, hn⟩
 have := aux c.toNat (UInt8.toNat_lt c)
 rwa [UInt8.ofNat_toNat] at this
theorem lookS_one (c : UInt8) (r : List UInt8) (h : (c :: r).take 2 ≠ [45, 62]) : lookS (c :: r) sgs = look1 c := by
 have h1 : ∀ x : UInt8, ((c :: r).take 1 = [x]) = (c = x) := fun x => by simp
 simp only [lookS, sgs, look1, List.length_cons, List.length_nil, Nat.zero_add, Nat.reduceAdd, h1, h, if_false]
theorem lookS_arrow (c : UInt8) (r : List UInt8) (h : (c :: r).take 2 = [45, 62]) : lookS (c :: r) sgs = some ([45, 62], 14) := by
 have hc : c = 45 := by simp at h; exact h.1
 subst hc
 have h1 : ∀ x : UInt8, ((45 :: r).take 1 = [x]) = ((45 : UInt8) = x) := fun x => by simp
 simp only [lookS, sgs, List.length_cons, List.length_nil, Nat.zero_add, Nat.reduceAdd, h1, h]
 rfl
theorem lex_signs (s : ByteArray) (j : Nat) (h : j < s.size) (hl : isLet s[j] = false) (hd : ¬ (48 ≤ s[j].toNat ∧ s[j].toNat ≤ 57)) :
  lexAt s j = signTk s j (lookS (s.data.toList.drop j) sgs) := by
 rw [drop_at s j h]
 by_cases ha : (s[j] :: s.data.toList.drop (j + 1)).take 2 = [45, 62]
 ·rw [lookS_arrow _ _ ha]
  have h2 : j + 1 < s.size := by
   rcases Nat.lt_or_ge (j + 1) s.size with h2 | h2
   ·exact h2
   ·rw [List.drop_eq_nil_of_le (by rw [size_data]; exact h2)] at ha; simp at ha
  rw [drop_at s (j + 1) h2] at ha
  simp at ha
  exact lex_arrow s j h (by rw [ha.1]; rfl) h2 (by rw [ha.2]; rfl)
 ·rw [lookS_one _ _ ha, look1_eq, lex_sign s j h hl hd ?_]
  ·split
   ·rename_i h1; rw [h1]; rfl
   ·show (⟨signK s[j].toNat, s.extract j (j + 1), j⟩ : Tk) = ⟨signK s[j].toNat, ⟨[s[j]].toArray⟩, j⟩
    rw [byte_eq (extract_one s j h)]
  ·rintro ⟨h1, h2, h3⟩
   apply ha
   rw [drop_at s (j + 1) h2]
   have e1 : s[j] = 45 := UInt8.toNat_inj.1 h1
   have e2 : s[j + 1] = 62 := UInt8.toNat_inj.1 h3
   rw [e1, e2]; rfl
def tkP (t : Tk) : Value := .agg #[.int .i64 t.k, .string t.s, .int .i64 t.p]
def sgB (k : Nat) : ByteArray := ⟨((sgs.getD k ([], 0)).1).toArray⟩
def sgN (k : Nat) : Nat := (sgs.getD k ([], 0)).2
theorem to13 {k : Nat} (h : k < 13) : k = 0 ∨ k = 1 ∨ k = 2 ∨ k = 3 ∨ k = 4 ∨ k = 5 ∨ k = 6 ∨ k = 7 ∨ k = 8 ∨ k = 9 ∨ k = 10 ∨ k = 11 ∨ k = 12 := by omega
theorem ixS (k : Nat) (h : k < 13) (w : World) : (Instr.index 310 (.agg rsignsC) (.int .i64 (k : Int))).run Tryz.prog w = .ok (.agg #[.string (sgB k), .int .i64 (sgN k : Nat)]) w := by
 rcases to13 h with rfl | rfl | rfl | rfl | rfl | rfl | rfl | rfl | rfl | rfl | rfl | rfl | rfl <;> kernel_rfl
theorem sgB_list (k : Nat) : (sgB k).toList = (sgs.getD k ([], 0)).1 := by rw [ByteArray.toList_eq]; rfl
theorem sgB_size (k : Nat) : (sgB k).size = (sgs.getD k ([], 0)).1.length := by unfold sgB; simp [ByteArray.size]
theorem lookS_step (l : List UInt8) (k : Nat) (h : k < 13) : lookS l (sgs.drop k) = if (l.take (sgB k).size == (sgB k).toList) = true then some ((sgB k).toList, sgN k) else lookS l (sgs.drop (k + 1)) := by
 have hl : k < sgs.length := h
 have e : sgs.drop k = sgs.getD k ([], 0) :: sgs.drop (k + 1) := by
  rw [List.drop_eq_getElem_cons hl]; simp [List.getD, List.getElem?_eq_getElem hl]
 rw [e, lookS, sgB_size, sgB_list]
 simp only [beq_iff_eq]
 rfl
set_option maxHeartbeats 4000000 in
set_option maxRecDepth 100000 in
theorem tokenAt_any (s : ByteArray) (j : Nat) (w : World) (hs : s.size ≤ maxLen) (hj : j < s.size) (hG : GV w) :
  Calls Tryz.prog 152 #[.string s, .int .i64 j] w fun e w' => e = .returned (tkP (lexAt s j)) ∧ Below w.heap.size w w' := by
 have hs0 := hs
 unfold maxLen at hs
 have hru := rest_upTo s j
 have hrl := rest_list s j
 have hre := rest_extract s j
 have hrs : (s.extract j s.size).size ≤ s.size - j ∧ s.size - j ≤ (s.extract j s.size).size := by rw [ByteArray.size_extract]; omega
 obtain ⟨hrs1, hrs2⟩ := hrs
 have hr0 : ∀ h : 0 < (s.extract j s.size).size, (s.extract j s.size)[0] = s[j] := by
  intro h
  have h1 := drop_at (s.extract j s.size) 0 h
  rw [List.drop_zero, hrl, drop_at s j hj] at h1
  exact (List.cons.inj h1).1.symm
 have HG := hide hG
 have HRL := hide hrl
 have HRE := hide hre
 have HRU := hide hru
 clear hG hrl hre hru
 go_enter Tryz.func152, Tryz.ntmps152
 go_wp2_with fail
 generalize hR : s.extract j s.size = R at *
 have HR := hide hR
 clear hR
 refine (lettersEnd_any R _ (by unfold maxLen; omega)).mono ?_
 rintro e w' ⟨rfl, rfl⟩
 have hup := upTo_le isLet R 0 (Nat.zero_le _)
 generalize hn : upTo isLet R 0 = n at *
 have HN := hide hn
 clear hn
 by_cases hn0 : 0 < n
 ·have HLEX : Hid (lexAt s j = ⟨wordK (R.extract 0 n).data.toList, R.extract 0 n, j⟩) := by
   show _ = _
   rw [lex_name s j hj (upTo_pos s j hj (by have := unhide HRU; omega)), ← unhide HRU, unhide HRE n (by omega)]
  go_wp2_with fail
  refine wp_region_any (by kernel_rfl) ?_
  change wpAny _ _ _ _ _ _ _ (World.drew _)
  refine wpAny_take (i := 0) (v := .string R) rfl (by kernel_rfl) (by kernel_rfl) (by kernel_rfl) (fun _ _ _ h => h) (Or.inl ⟨by kernel_rfl, fun w => by go_simp⟩) ?_
  try simp only [Act.put, zA, zB, zC, zD, zE, zF]
  refine wpAny_take (i := 1) (v := .int .i64 (n : Int)) rfl (by kernel_rfl) (by kernel_rfl) (by kernel_rfl) (fun _ _ _ h => h) (Or.inl ⟨by kernel_rfl, fun w => by go_simp⟩) ?_
  try simp only [Act.put, zA, zB, zC, zD, zE, zF]
  refine wpAny_take (i := 2) (v := .string (R.extract 0 n)) rfl (by kernel_rfl) (by kernel_rfl) (by kernel_rfl) (fun _ _ _ h => h) (Or.inl ⟨by kernel_rfl, fun w => by go_simp⟩) ?_
  try simp only [Act.put, zA, zB, zC, zD, zE, zF]
  refine wpAny_take (i := 4) (v := .string R) rfl (by kernel_rfl) (by kernel_rfl) (by kernel_rfl) (fun _ _ _ h => h) (Or.inl ⟨by kernel_rfl, fun w => by go_simp⟩) ?_
  try simp only [Act.put, zA, zB, zC, zD, zE, zF]
  refine wpAny_take (i := 5) (v := .int .i64 (n : Int)) rfl (by kernel_rfl) (by kernel_rfl) (by kernel_rfl) (fun _ _ _ h => h) (Or.inl ⟨by kernel_rfl, fun w => by go_simp⟩) ?_
  try simp only [Act.put, zA, zB, zC, zD, zE, zF]
  refine wpAny_take (i := 6) (v := .string (R.extract 0 n)) rfl (by kernel_rfl) (by kernel_rfl) (by kernel_rfl) (fun _ _ _ h => h) (Or.inl ⟨by kernel_rfl, fun w => by go_simp⟩) ?_
  try simp only [Act.put, zA, zB, zC, zD, zE, zF]
  refine wpAny_take (i := 7) (v := .int .i64 (j : Int)) rfl (by kernel_rfl) (by kernel_rfl) (by kernel_rfl) (fun _ _ _ h => h) (Or.inl ⟨by kernel_rfl, fun w => by go_simp⟩) ?_
  try simp only [Act.put, zA, zB, zC, zD, zE, zF]
  refine wpAny_ready (rs := [3]) (by kernel_rfl) (by simp) ?_
  refine AllReady.cons rfl (fun K hK => ?_) AllReady.nil
  go_simp
  go_wp2_with (go_at_call 171; refine (wordKind_any _ _ ((unhide HG).later (((Below.refl _ _).alloc (Nat.le_refl _) _).drew))).mono ?_; rintro e w1 ⟨rfl, hb⟩)
  have HB := hide hb
  have hrb := (hb.block w.heap.size (by simp)).trans (blk_alloc _ _)
  clear hb
  have rc := fun o => cell_of_blk hrb o
  have rf := fun o => frozen_of_blk hrb o
  have hz : w.heap.size < w1.heap.size := lt_of_blk hrb
  refine wpAny_take (i := 8) (v := .agg #[.int .i64 (wordK (R.extract 0 n).toList : Nat), .string (R.extract 0 n), .int .i64 (j : Int)]) rfl (by kernel_rfl) (by kernel_rfl) (by kernel_rfl) (fun _ _ _ h => h) (Or.inl ⟨by kernel_rfl, fun w => by go_simp⟩) ?_
  try simp only [Act.put, zA, zB, zC, zD, zE, zF]
  refine wpAny_ready (rs := [9]) (by kernel_rfl) (by simp) ?_
  refine AllReady.cons rfl (fun K hK => ?_) AllReady.nil
  go_simp
  refine hK _ _ ?_
  clear hK K
  refine wpAny_done (by kernel_rfl) ?_ _
  go_wp2_with fail
  have hfin : (((w1.setCell ⟨w.heap.size, 0, none⟩ (.int .i64 (wordK (R.extract 0 n).toList : Nat))).setCell ⟨w.heap.size, 1, none⟩ (.string (R.extract 0 n))).setCell ⟨w.heap.size, 2, none⟩ (.int .i64 (j : Int))).heap[w.heap.size]? = some (.cells #[.int .i64 (wordK (R.extract 0 n).toList : Nat), .string (R.extract 0 n), .int .i64 (j : Int)] 201 (0, 0)) := blk_set (blk_set (blk_set hrb 0 _) 1 _) 2 _
  have rc2 := fun o => cell_of_blk hfin o
  refine bodyPost_ret (v := .agg #[.int .i64 (wordK (R.extract 0 n).toList : Nat), .string (R.extract 0 n), .int .i64 (j : Int)]) (by simp [results, Tryz.results152, go_sem, rc2]) rfl ⟨?_, ?_⟩
  ·rw [unhide HLEX, tkP, ByteArray.toList_eq]
  ·exact ((((((Below.refl _ _).alloc (Nat.le_refl _) _).drew).trans ((unhide HB).mono (by simp))).setCell (Nat.le_refl _) _).setCell (Nat.le_refl _) _).setCell (Nat.le_refl _) _
 ·have hnz : n = 0 := by omega
  subst hnz
  have hl : isLet s[j] = false := upTo_zero s j hj (by have := unhide HRU; omega)
  have HL := hide hl
  clear hl
  have hrp : 0 < R.size := by omega
  have hr00 := hr0 hrp
  have HR1 := hide ((unhide HRE) 1 (by omega))
  clear hr0
  have hFIN : ∀ (W : World) (a : Int) (b : ByteArray), W.heap[w.heap.size]? = some (.cells #[.int .i64 0, .string ⟨#[]⟩, .int .i64 0] 201 (0, 0)) →
    (((W.setCell ⟨w.heap.size, 0, none⟩ (.int .i64 a)).setCell ⟨w.heap.size, 1, none⟩ (.string b)).setCell ⟨w.heap.size, 2, none⟩ (.int .i64 (j : Int))).heap[w.heap.size]? = some (.cells #[.int .i64 a, .string b, .int .i64 (j : Int)] 201 (0, 0)) :=
   fun W a b h => blk_set (blk_set (blk_set h 0 _) 1 _) 2 _
  have HFIN := hide hFIN
  clear hFIN
  by_cases hd : (48 : Int) ≤ (s[j].toNat : Int) ∧ (s[j].toNat : Int) ≤ 57
  ·obtain ⟨hd1, hd2⟩ := hd
   go_wp2_with fail
   refine bodyPost_ret (v := .agg #[.int .i64 3, .string (R.extract 0 1), .int .i64 (j : Int)]) (by simp [results, Tryz.results152, go_sem]) rfl ⟨?_, (Below.refl _ _).alloc (Nat.le_refl _) _⟩
   rw [lex_digit s j hj (by omega) (by omega), unhide HR1]; rfl
  ·have HLEX := hide (lex_signs s j hj (unhide HL) (by omega))
   rw [← unhide HRL, ← ByteArray.toList_eq] at HLEX
   obtain ⟨tt, mm, hg⟩ := (unhide HG).rs
   have hg1 : (w.alloc (.cells #[.int .i64 0, .string ⟨#[]⟩, .int .i64 0] 201)).heap[1]? = some (.cells rsignsC tt mm) := (Below.heap_alloc _ _ _ (lt_of_blk hg)).trans hg
   clear hg
   have hdd : ((48 : Int) ≤ (s[j].toNat : Int) ∧ ¬ (s[j].toNat : Int) ≤ 57) ∨ ¬ (48 : Int) ≤ (s[j].toNat : Int) := by omega
   rcases hdd with ⟨hd1, hd2⟩ | hd1
   all_goals
    clear hd
    go_wp2_with (refine wpList_load_row rfl 310 _ rfl 1 rfl tt _ mm _ hg1 Tryz.underlying310 rfl (by kernel_rfl) ?_)
    clear hg1
    go_loopw [38] (fun i wr => ∃ k : Nat, i = .int .i64 (k : Int) ∧ k ≤ 13 ∧ Hid (lookS R.toList sgs = lookS R.toList (sgs.drop k)) ∧ Below (w.heap.size + 1) (w.alloc (.cells #[.int .i64 0, .string ⟨#[]⟩, .int .i64 0] 201)) wr) (fun i _ => 13 - (intOf i).toNat)
    case atStart => exact ⟨0, rfl, by omega, rfl, Below.refl _ _⟩
    case round =>
     obtain ⟨k, rfl, h5, H, hb⟩ := hrel
     have HB := hide hb
     have hrb := (hb.block w.heap.size (by simp)).trans (blk_alloc _ _)
     have hzz : w.heap.size < wr.heap.size := lt_of_blk hrb
     have rc := fun o => cell_of_blk hrb o
     have rf := fun o => frozen_of_blk hrb o
     have HRB := hide hrb
     clear hb hrb
     have HW : Hid (Below w.heap.size w wr) := ((Below.refl _ _).alloc (Nat.le_refl _) _).trans ((unhide HB).mono (by omega))
     by_cases hk : k < 13
     ·have ik := ixS k hk
      have HS := hide (lookS_step R.toList k hk)
      go_wp2_with (go_at_call 190; refine (hasPrefix_any _ _ _).mono ?_; rintro e w' ⟨rfl, rfl⟩)
      ·have hm : (R.toList.take (sgB k).size == (sgB k).toList) = true := by assumption
       have hfin := unhide HFIN wr (sgN k : Nat) (sgB k) (unhide HRB)
       have rc2 := fun o => cell_of_blk hfin o
       clear rc
       refine bodyPost_ret (v := .agg #[.int .i64 (sgN k : Nat), .string (sgB k), .int .i64 (j : Int)]) (by simp [results, Tryz.results152, go_sem, rc2, hzz]) rfl ⟨?_, ?_⟩
       ·rw [unhide HLEX, unhide H, unhide HS, if_pos hm, signTk, tkP, ByteArray.toList_eq]
       ·exact (((((unhide HW).setCell (Nat.le_refl _) _).setCell (Nat.le_refl _) _).setCell (Nat.le_refl _) _).alloc (by simp [World.setCell]; omega) _)
      ·have hm : (R.toList.take (sgB k).size == (sgB k).toList) = false := by assumption
       go_round
       case rel => exact ⟨k + 1, by go_num, by omega, (unhide H).trans ((unhide HS).trans (if_neg (by rw [hm]; decide))), (unhide HB).alloc (by omega) _⟩
       case measure => simp [intOf]; omega
     ·have hk13 : k = 13 := by omega
      have HK := hide hk13
      clear hk13
      go_wp2_with fail
      have hfin := unhide HFIN wr 1 (R.extract 0 1) (unhide HRB)
      have rc2 := fun o => cell_of_blk hfin o
      clear rc
      refine bodyPost_ret (v := .agg #[.int .i64 1, .string (R.extract 0 1), .int .i64 (j : Int)]) (by simp [results, Tryz.results152, go_sem, rc2]) rfl ⟨?_, ?_⟩
      ·rw [unhide HLEX, unhide H, unhide HK, unhide HR1]; rfl
      ·exact ((((unhide HW).setCell (Nat.le_refl _) _).setCell (Nat.le_refl _) _).setCell (Nat.le_refl _) _)
end Go.Proofs.YtidakhhekofkoaaGreatDoor
