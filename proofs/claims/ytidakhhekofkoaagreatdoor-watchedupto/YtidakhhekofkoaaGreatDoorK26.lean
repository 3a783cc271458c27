/- The program's texts and Nodes. -/
import Derived.Test.YtidakhhekofkoaaGreatDoorK24
import Derived.Test.YtidakhhekofkoaaGreatDoorK03
import Derived.Test.YtidakhhekofkoaaGreatDoorK17
set_option linter.unusedSimpArgs false
open List renaming setIfInBounds_toArray → zA, set_cons_zero → zB, set_cons_succ → zC, getElem_toArray → zD, getElem_cons_succ → zE, getElem_cons_zero → zF
namespace Go.Proofs.YtidakhhekofkoaaGreatDoor
open Go.RowKit Go.Deep
set_option maxHeartbeats 400000 in
theorem sclone_any (s : ByteArray) (hs : s.size ≤ 400) (w : World) : Calls Tryz.prog 49 #[.string s] w fun e w' => e = .returned (.string s) ∧ Below w.heap.size w w' := by
 go_enter Tryz.func49, Tryz.ntmps49
 go_wp2_with (go_at_call 90; refine (Tryz.stringslite_Clone s _ (by omega)).mono ?_; rintro e w1 ⟨rfl, hb1⟩)
 go_wp2_with fail
 go_ret
 exact ⟨rfl, hb1⟩
set_option maxHeartbeats 2000000 in
set_option maxRecDepth 100000 in
theorem texts_any (w : World) (L : List Tk) (no : Option Addr) (nn nc : Nat) (h : w.ownsRow 0 201 3 (.slice no nn nc) L.length (tkCellsP L)) (hl : L.length ≤ 401) (hz : ∀ t ∈ L, t.s.size ≤ 400) :
  Calls Tryz.prog 117 #[.slice no nn nc] w fun e w' => ∃ v, e = .returned v ∧ w'.ownsRow w.heap.size 9 1 v L.length (strC L) ∧ Below w.heap.size w w' := by
 obtain ⟨i0, hi, hz0, hz1', hz2⟩ := info_parts Tryz.infoStr
 obtain ⟨hnn, hrow⟩ := row_tkP h
 have hnn1 : nn ≤ L.length := by omega
 have hnn2 : L.length ≤ nn := by omega
 have HROW := hide hrow
 have HZ := hide hz
 clear h hnn hrow hz
 go_enter Tryz.func117, Tryz.ntmps117
 go_wp2_with fail
 go_loopw [3, 8] (fun v i wr => ∃ k : Nat, i = .int .i64 (k : Int) ∧ k ≤ L.length ∧ wr.ownsRow w.heap.size 9 1 v k (strC (L.take k)) ∧ Below w.heap.size w wr) (fun _ i _ => L.length - (intOf i).toNat)
 case atStart => exact ⟨0, rfl, Nat.zero_le _, World.ownsRow_nil _ _ _ _, Below.refl _ _⟩
 case round =>
  obtain ⟨k, rfl, hkk, hown, hbel⟩ := hrel
  by_cases hlt : k < L.length
  ·obtain ⟨t, rr, ht⟩ : ∃ t rr, L.drop k = t :: rr := by
    cases hd : L.drop k with
    | nil => have := congrArg List.length hd; simp at this; omega
    | cons t rr => exact ⟨t, rr, rfl⟩
   obtain ⟨g, hno, hle, hcap, cur, hc1, hc2⟩ := unhide HROW (by intro e; rw [e] at hlt; simp at hlt)
   unfold maxLen at hcap
   have hrw2 : ∃ cur, wr.heap[g]? = some (.cells cur 201 (0, 0)) ∧ cur.toList.take (L.length * 3) = tkCellsP L := ⟨cur, (hbel.block _ (lt_of_blk hc1)).trans hc1, hc2⟩
   obtain ⟨c0, c1, c2⟩ := row_tok hrw2 ht
   have hgl : g < wr.heap.size := by obtain ⟨cur, h1, _⟩ := hrw2; exact lt_of_blk h1
   subst hno
   have HTS := hide (take_snoc ht)
   have hts := unhide HZ t (List.mem_of_mem_drop (i := k) (ht ▸ List.mem_cons_self ..))
   have hkn : (k : Int) < (nn : Int) := by omega
   clear ht hc1 hc2 hrw2 cur
   go_wp2_with fail
   refine (sclone_any _ hts _).mono ?_
   rintro e w1 ⟨rfl, hb1⟩
   have HO1 := hide (owns_later (hown.alloc (.cells #[.int .i64 t.k, .string t.s, .int .i64 t.p] 201)) hb1)
   have HL1 := hide (own_lt hown)
   have HB1 : Hid (Below w.heap.size w w1) := (hbel.alloc hbel.size _).trans (hb1.mono (by have := hbel.size; simp; omega))
   clear hown hbel hb1
   have hz1 := (unhide HB1).size
   go_wp2_with (at_builtin; go_must (refine wpList_append_own _ rfl _ _ 25 rfl w.heap.size 9 i0 (.string ⟨#[]⟩) 1 16 Tryz.underlying25 hi hz0 hz1' hz2 rfl (by decide) _ k (strC (L.take k)) rfl ?c0 ⟨w1.heap.size, 0, none⟩ 1 1 [.string t.s] rfl rfl ?c1 ?c2 ?c3 ?c4 ?c5 ?_))
   case c0 => exact (unhide HO1).alloc _
   case c1 =>
    intro j u hj
    match j, hj with
    | 0, hj => simp at hj; subst hj; simp [Addr.add]
    | j + 1, hj => simp at hj
   case c2 => intro u hu; simp at hu; subst hu; rfl
   case c3 => unfold maxLen; omega
   case c4 => omega
   case c5 => simp; omega
   intro v' w2 hown2 hgrow _
   have HB2 : Hid (Below w.heap.size w w2) := ((unhide HB1).alloc hz1 _).grown hgrow (by simp; omega) (fun k hk => (unhide HL1 k hk).1)
   have HO2 : Hid (w2.ownsRow w.heap.size 9 1 v' (k + 1) (strC (L.take (k + 1)))) := by
    rw [unhide HTS, strC_snoc]; exact hown2
   clear hown2 hgrow
   go_wp2_with fail
   go_roundw
   case rel => exact ⟨k + 1, by go_num, by omega, unhide HO2, unhide HB2⟩
   case measure => simp [intOf]; omega
  ·have hke : k = L.length := by omega
   have hkn : ¬ (k : Int) < (nn : Int) := by omega
   have HO : Hid (wr.ownsRow w.heap.size 9 1 u3 L.length (strC L)) := by rw [← hke]; rw [hke, List.take_length] at hown; rw [hke]; exact hown
   have HB := hide hbel
   clear hown hbel hke
   go_wp2_with fail
   go_ret
   exact ⟨_, rfl, unhide HO, unhide HB⟩
theorem IsG.drewN {w : World} {f : Fm} {p : Option Addr} (h : IsG w f p) (n : Nat) : IsG (w.drewN n) f p := h.later (bdn _ _)
set_option maxHeartbeats 1600000 in
set_option maxRecDepth 1000000 in
theorem nodes_any : ∀ (f : Fm) (w : World) (p : Option Addr), IsG w f p → sizeF f ≤ 100000 →
  Calls Tryz.prog 119 #[.pointer p] w fun e w' => e = .returned (.int .i64 (sizeF f)) ∧ ∃ n, w' = w.drewN n
 | .nil, w, p, h, _ => by
  cases (show p = none from h)
  go_enter Tryz.func119, Tryz.ntmps119
  go_wp2_with fail
  go_ret
  exact ⟨rfl, 0, rfl⟩
 | .node u v a l r, w, p, h, hs => by
  obtain ⟨b, pl, pr, rfl, hb, hl, hr⟩ := h
  have IHL := hide (nodes_any l)
  have IHR := hide (nodes_any r)
  have HL := hide hl
  have HR := hide hr
  have hsl : sizeF l ≤ 100000 := by simp only [sizeF] at hs; omega
  have hsr : sizeF r ≤ 100000 := by simp only [sizeF] at hs; omega
  have hss : 1 + sizeF l + sizeF r ≤ 100000 := hs
  have bc := fun o => cell_of_blk hb o
  clear hb hl hr hs
  go_enter Tryz.func119, Tryz.ntmps119
  go_wp2_with fail
  go_quiet (first | (go_at_call_of 119 (Value.pointer pl); refine Calls.quiet_of ((unhide IHL) _ _ ?_ hsl); exact IsG.drewN (unhide HL) _) | (go_at_call_of 119 (Value.pointer pr); refine Calls.quiet_of ((unhide IHR) _ _ ?_ hsr); exact IsG.drewN (unhide HR) _))
  go_wp2_with fail
  go_ret
  exact ⟨ret_int (by simp only [sizeF]; omega), nq, rfl⟩
def BcPost (w w' : World) (wd : ByteArray) (args : List Tk) (f : Fm) (e : Ending) : Prop :=
 Below w.heap.size w w' ∧ ∃ ao an ac p, e = .returned (.agg #[.string wd, .slice ao an ac, .pointer p]) ∧ w'.ownsRow w.heap.size 9 1 (.slice ao an ac) args.length (strC args) ∧ IsG w' f p
theorem row_slice {w : World} {base e size n : Nat} {v : Value} {xs : List Value} (h : w.ownsRow base e size v n xs) : ∃ ao an ac, v = .slice ao an ac := by
 obtain ⟨_, h2 | ⟨g, cap, cur, hv, _⟩⟩ := h
 ·exact ⟨_, _, _, h2.1⟩
 ·exact ⟨_, _, _, hv⟩
theorem owns_below {w w' : World} {base e size n : Nat} {v : Value} {xs : List Value} (h : w.ownsRow base e size v n xs) (hb : Below w.heap.size w w') : w'.ownsRow base e size v n xs := owns_later h hb
theorem setG {w : World} {b ty o : Nat} {c : Array Value} {m : Nat × Nat} {v : Value} (hb : w.heap[b]? = some (.cells c ty m)) (hne : ty ≠ 270) {f : Fm} {p : Option Addr} (hf : IsG w f p) : IsG (w.setCell ⟨b, o, none⟩ v) f p :=
 hf.keep (fun q c' m' hq => Below.heap_setCell _ _ _ _ (by show q ≠ b; rintro rfl; rw [hb] at hq; injection hq with hq; injection hq with _ e _; exact hne e))
theorem callFn (k : Nat) (h : k ≤ 11) (a b c : Value) (w : World) : (callFunc (fnNo k) #[a, b, c]).run Tryz.prog w = .ok (.enter (fnNo k) #[a, b, c]) w := by
 rcases to12 (show k < 12 by omega) with rfl | rfl | rfl | rfl | rfl | rfl | rfl | rfl | rfl | rfl | rfl | rfl <;> kernel_rfl
theorem tplF_low (k : Nat) (h : k ≤ 1) (a b b' : ByteArray) (n n' : Nat) : tplF k a b n = tplF k a b' n' := by
 have : k = 0 ∨ k = 1 := by omega
 rcases this with rfl | rfl <;> rfl
theorem tplF_mid (k : Nat) (h : 2 ≤ k ∧ k ≤ 3) (a b b' : ByteArray) (n : Nat) : tplF k a b n = tplF k a b' n := by
 have : k = 2 ∨ k = 3 := by omega
 rcases this with rfl | rfl <;> rfl
theorem tplF_high (k : Nat) (h : 4 ≤ k ∧ k ≤ 11) (a b : ByteArray) (n n' : Nat) : tplF k a b n = tplF k a b n' := by
 rcases to12 (show k < 12 by omega) with rfl | rfl | rfl | rfl | rfl | rfl | rfl | rfl | rfl | rfl | rfl | rfl
 all_goals first | omega | rfl
set_option maxHeartbeats 8000000 in
set_option maxRecDepth 100000 in
theorem buildCall_A (w : World) (r : Rl) (kb g ac : Nat) (xx : Tk) (x : Tk) (hk : w.heap[kb]? = some (cbl r.word (some ⟨g, 0, none⟩) 1 ac xx)) (ho : w.ownsRow 0 201 3 (.slice (some ⟨g, 0, none⟩) 1 ac) 1 (tkCellsP [x])) (hx : x.k = 2) (hn : tplNo r.word.s.toList ≤ 1) (hz : ∀ t ∈ [x], t.s.size ≤ 400) :
  Calls Tryz.prog 118 #[.pointer (some ⟨kb, 0, none⟩)] w fun e w' => BcPost w w' r.word.s [x] (tplF (tplNo r.word.s.toList) x.s ByteArray.empty 0) e := by
 have HZZ := hide hz
 clear hz
 have HO := hide ho
 obtain ⟨-, hrow⟩ := row_tkP (L := [x]) ho
 obtain ⟨g', hg', hle, hcap, hcur⟩ := hrow (by simp)
 cases hg'
 have HCUR := hide hcur
 have HK := hide hk
 have hkl := lt_of_blk hk
 have hgl : g < w.heap.size := by obtain ⟨cur, h1, _⟩ := hcur; exact lt_of_blk h1
 unfold cbl at hk
 have kc := fun o => cell_of_blk hk o
 have e3 : ((x.k : Int) == 3) = false := beqF (c := 3) (by omega)
 have HN := hide hn
 clear hx hn
 clear ho hrow hcur hk hle hcap
 go_enter Tryz.func118, Tryz.ntmps118
 go_wp2_with fail
 go_loopw [4, 14] (fun tm i wr => ∃ (z : Int) (p0 p1 : Option Addr) (tv : Int), i = .int .i64 z ∧ tm = .int .i64 tv ∧ Below w.heap.size w wr ∧ wr.heap[w.heap.size]? = some (.cells #[.string ⟨#[]⟩, .slice none 0 0, .pointer none] 144 (0, 0)) ∧ wr.heap[w.heap.size + 1]? = some (.cells #[.pointer p0, .pointer p1] 257 (0, 0)) ∧ ((z = 0 ∧ tv = 0) ∨ (z = 1 ∧ tv = 0 ∧ IsG wr (acF x.s) p0))) (fun _ i _ => (1 - intOf i).toNat)
 case atStart =>
  refine ⟨0, none, none, 0, rfl, rfl, ((Below.refl _ _).alloc (Nat.le_refl _) _).alloc (by simp) _, (Below.heap_alloc _ _ _ (by simp)).trans (blk_alloc _ _), blk_alloc' _ _ _ (by simp), Or.inl ⟨rfl, rfl⟩⟩
 case round =>
  clear kc
  obtain ⟨z, p0, p1, tv, rfl, rfl, hbel, hrb, hab, hst⟩ := hrel
  have HB := hide hbel
  have HRB := hide hrb
  have HAB := hide hab
  have hwl := hbel.size
  have hrl : w.heap.size < wr.heap.size := lt_of_blk hrb
  have hal : w.heap.size + 1 < wr.heap.size := lt_of_blk hab
  have hkr := (hbel.block _ hkl).trans (unhide HK)
  have hkl2 : kb < wr.heap.size := by omega
  have hgl2 : g < wr.heap.size := by omega
  unfold cbl at hkr
  have kc := fun o => cell_of_blk hkr o
  have abc := fun o => cell_of_blk hab o
  have abf := fun o => frozen_of_blk hab o
  have hcr : ∃ cur, wr.heap[g]? = some (.cells cur 201 (0, 0)) ∧ cur.toList.take ([x].length * 3) = tkCellsP [x] := by
   obtain ⟨cur, h1, h2⟩ := unhide HCUR
   exact ⟨cur, (hbel.block _ (lt_of_blk h1)).trans h1, h2⟩
  clear hbel hrb hab hkr
  rcases hst with ⟨rfl, rfl⟩ | ⟨rfl, rfl, hG0⟩
  ·skip
   obtain ⟨c0, c1, c2⟩ := row_tok (j := 0) hcr rfl
   clear hcr
   go_wp2_with fail
   refine (fActivity_any x.s _).mono ?_
   rintro e w3 ⟨v, rfl, hv, hb3⟩
   have HV := hide (hv 0)
   have hrb3 := (hb3.block w.heap.size (by simp; omega)).trans ((Below.heap_alloc _ _ _ hrl).trans (unhide HRB))
   have hab3 := (hb3.block (w.heap.size + 1) (by simp; omega)).trans ((Below.heap_alloc _ _ _ hal).trans (unhide HAB))
   have HRB3 := hide hrb3
   have HAB3 := hide hab3
   have HB3 := hide (((unhide HB).alloc (by omega) _).trans (hb3.mono (by simp; omega)))
   have hal3 := lt_of_blk hab3
   clear abc abf
   have abc := fun o => cell_of_blk hab3 o
   have abf := fun o => frozen_of_blk hab3 o
   clear hv hb3 hrb3 hab3 c0 c1 c2
   go_wp2_with fail
   go_roundw
   case rel =>
    refine ⟨1, v, p1, 0, by first | rfl | go_num, rfl, (unhide HB3).setCell (by show w.heap.size ≤ w.heap.size + 1; omega) _, (Below.heap_setCell _ _ _ _ (by show w.heap.size ≠ w.heap.size + 1; omega)).trans (unhide HRB3), blk_set (unhide HAB3) 0 _, Or.inr ⟨rfl, rfl, setG (unhide HAB3) (by decide) (unhide HV)⟩⟩
   case measure => simp [intOf]
  ·have HG0 := hide hG0
   clear hG0
   clear abc abf hcr
   go_wp2_with fail
   refine (find_any r.word.s _).mono ?_
   rintro e w2 ⟨hb2, b, hbb, htk2, hcase⟩
   obtain ⟨hno, rfl⟩ : tplNo r.word.s.toList ≤ 11 ∧ e = _ := by
    rcases hcase with h | ⟨h, _⟩
    ·exact h
    ·exact absurd (by have := unhide HN; omega) h
   have hkr2 := (hb2.block _ hkl2).trans (((unhide HB).block _ hkl).trans (unhide HK))
   have hrb2 := (hb2.block _ hrl).trans (unhide HRB)
   have hab2 := (hb2.block _ hal).trans (unhide HAB)
   have HB2 := hide ((unhide HB).trans (hb2.mono hwl))
   have HG0 := hide ((unhide HG0).later hb2)
   clear hb2 htk2 hcase kc
   have hkl3 := lt_of_blk hkr2
   have hrl3 := lt_of_blk hrb2
   have hal3 := lt_of_blk hab2
   have HKR2 := hide hkr2
   have HRB2 := hide hrb2
   have HAB2 := hide hab2
   unfold cbl at hkr2
   have kc := fun o => cell_of_blk hkr2 o
   have abc := fun o => cell_of_blk hab2 o
   clear hkr2 hrb2 hab2
   generalize hNo : tplNo r.word.s.toList = no at *
   have HNOE := hide hNo
   clear hNo
   go_wp2_with fail
   refine wp_region_held_drew (S := fun w' => w'.cell? ⟨kb, 1, none⟩ = some (.string r.word.s) ∧ w'.cell? ⟨kb, 3, none⟩ = some (.slice (some ⟨g, 0, none⟩) 1 ac) ∧ w'.cell? ⟨w2.heap.size, 2, none⟩ = some (.func (.func (fnNo no)) #[] #[]) ∧ w'.cell? ⟨w.heap.size + 1, 0, none⟩ = some (.pointer p0) ∧ w'.cell? ⟨w.heap.size + 1, 1, none⟩ = some (.pointer p1)) (by kernel_rfl) ?_ (fun hHeld => ?_)
   ·refine ⟨?_, ?_, ?_, ?_, ?_⟩
    ·show (World.alloc _ _).cell? _ = _; rw [World.cell?_alloc_lt _ _ _ hkl3]; exact kc 1
    ·show (World.alloc _ _).cell? _ = _; rw [World.cell?_alloc_lt _ _ _ hkl3]; exact kc 3
    ·exact cell_of_blk (blk_alloc _ _) 2
    ·show (World.alloc _ _).cell? _ = _; rw [World.cell?_alloc_lt _ _ _ hal3]; exact abc 0
    ·show (World.alloc _ _).cell? _ = _; rw [World.cell?_alloc_lt _ _ _ hal3]; exact abc 1
   refine wpAnyH_take (i := 0) (v := .pointer (some ⟨kb, 0, none⟩)) rfl (by kernel_rfl) (by kernel_rfl) (by kernel_rfl) (fun _ _ _ h => h) (Or.inl ⟨by kernel_rfl, fun w hw => by obtain ⟨s0, s1, s2, s3, s4⟩ := hw; go_simp⟩) hHeld ?_
   try simp only [Act.put, zA, zB, zC, zD, zE, zF]
   refine wpAnyH_take (i := 1) (v := .pointer (some ⟨kb, 0, none⟩)) rfl (by kernel_rfl) (by kernel_rfl) (by kernel_rfl) (fun _ _ _ h => h) (Or.inl ⟨by kernel_rfl, fun w hw => by obtain ⟨s0, s1, s2, s3, s4⟩ := hw; go_simp⟩) hHeld ?_
   try simp only [Act.put, zA, zB, zC, zD, zE, zF]
   refine wpAnyH_take (i := 2) (v := .pointer (some ⟨kb, 0, none⟩)) rfl (by kernel_rfl) (by kernel_rfl) (by kernel_rfl) (fun _ _ _ h => h) (Or.inl ⟨by kernel_rfl, fun w hw => by obtain ⟨s0, s1, s2, s3, s4⟩ := hw; go_simp⟩) hHeld ?_
   try simp only [Act.put, zA, zB, zC, zD, zE, zF]
   refine wpAnyH_take (i := 3) (v := .pointer (some ⟨kb, 1, none⟩)) rfl (by kernel_rfl) (by kernel_rfl) (by kernel_rfl) (fun _ _ _ h => h) (Or.inl ⟨by kernel_rfl, fun w hw => by obtain ⟨s0, s1, s2, s3, s4⟩ := hw; go_simp⟩) hHeld ?_
   try simp only [Act.put, zA, zB, zC, zD, zE, zF]
   refine wpAnyH_take (i := 4) (v := .string r.word.s) rfl (by kernel_rfl) (by kernel_rfl) (by kernel_rfl) (fun _ _ _ h => h) (Or.inl ⟨by kernel_rfl, fun w hw => by obtain ⟨s0, s1, s2, s3, s4⟩ := hw; go_simp⟩) hHeld ?_
   try simp only [Act.put, zA, zB, zC, zD, zE, zF]
   refine wpAnyH_take (i := 5) (v := .pointer (some ⟨kb, 0, none⟩)) rfl (by kernel_rfl) (by kernel_rfl) (by kernel_rfl) (fun _ _ _ h => h) (Or.inl ⟨by kernel_rfl, fun w hw => by obtain ⟨s0, s1, s2, s3, s4⟩ := hw; go_simp⟩) hHeld ?_
   try simp only [Act.put, zA, zB, zC, zD, zE, zF]
   refine wpAnyH_take (i := 6) (v := .pointer (some ⟨kb, 0, none⟩)) rfl (by kernel_rfl) (by kernel_rfl) (by kernel_rfl) (fun _ _ _ h => h) (Or.inl ⟨by kernel_rfl, fun w hw => by obtain ⟨s0, s1, s2, s3, s4⟩ := hw; go_simp⟩) hHeld ?_
   try simp only [Act.put, zA, zB, zC, zD, zE, zF]
   refine wpAnyH_take (i := 7) (v := .pointer (some ⟨kb, 3, none⟩)) rfl (by kernel_rfl) (by kernel_rfl) (by kernel_rfl) (fun _ _ _ h => h) (Or.inl ⟨by kernel_rfl, fun w hw => by obtain ⟨s0, s1, s2, s3, s4⟩ := hw; go_simp⟩) hHeld ?_
   try simp only [Act.put, zA, zB, zC, zD, zE, zF]
   refine wpAnyH_take (i := 8) (v := .slice (some ⟨g, 0, none⟩) 1 ac) rfl (by kernel_rfl) (by kernel_rfl) (by kernel_rfl) (fun _ _ _ h => h) (Or.inl ⟨by kernel_rfl, fun w hw => by obtain ⟨s0, s1, s2, s3, s4⟩ := hw; go_simp⟩) hHeld ?_
   try simp only [Act.put, zA, zB, zC, zD, zE, zF]
   refine wpAnyH_take (i := 10) (v := .pointer (some ⟨w2.heap.size, 2, none⟩)) rfl (by kernel_rfl) (by kernel_rfl) (by kernel_rfl) (fun _ _ _ h => h) (Or.inl ⟨by kernel_rfl, fun w hw => by obtain ⟨s0, s1, s2, s3, s4⟩ := hw; go_simp⟩) hHeld ?_
   try simp only [Act.put, zA, zB, zC, zD, zE, zF]
   refine wpAnyH_take (i := 11) (v := .func (.func (fnNo no)) #[] #[]) rfl (by kernel_rfl) (by kernel_rfl) (by kernel_rfl) (fun _ _ _ h => h) (Or.inl ⟨by kernel_rfl, fun w hw => by obtain ⟨s0, s1, s2, s3, s4⟩ := hw; go_simp⟩) hHeld ?_
   try simp only [Act.put, zA, zB, zC, zD, zE, zF]
   refine wpAnyH_take (i := 12) (v := .pointer (some ⟨w.heap.size + 1, 0, none⟩)) rfl (by kernel_rfl) (by kernel_rfl) (by kernel_rfl) (fun _ _ _ h => h) (Or.inl ⟨by kernel_rfl, fun w hw => by obtain ⟨s0, s1, s2, s3, s4⟩ := hw; go_simp⟩) hHeld ?_
   try simp only [Act.put, zA, zB, zC, zD, zE, zF]
   refine wpAnyH_take (i := 13) (v := .pointer p0) rfl (by kernel_rfl) (by kernel_rfl) (by kernel_rfl) (fun _ _ _ h => h) (Or.inl ⟨by kernel_rfl, fun w hw => by obtain ⟨s0, s1, s2, s3, s4⟩ := hw; go_simp⟩) hHeld ?_
   try simp only [Act.put, zA, zB, zC, zD, zE, zF]
   refine wpAnyH_take (i := 14) (v := .pointer (some ⟨w.heap.size + 1, 1, none⟩)) rfl (by kernel_rfl) (by kernel_rfl) (by kernel_rfl) (fun _ _ _ h => h) (Or.inl ⟨by kernel_rfl, fun w hw => by obtain ⟨s0, s1, s2, s3, s4⟩ := hw; go_simp⟩) hHeld ?_
   try simp only [Act.put, zA, zB, zC, zD, zE, zF]
   refine wpAnyH_take (i := 15) (v := .pointer p1) rfl (by kernel_rfl) (by kernel_rfl) (by kernel_rfl) (fun _ _ _ h => h) (Or.inl ⟨by kernel_rfl, fun w hw => by obtain ⟨s0, s1, s2, s3, s4⟩ := hw; go_simp⟩) hHeld ?_
   try simp only [Act.put, zA, zB, zC, zD, zE, zF]
   refine wpAnyH_take (i := 16) (v := .int .i64 (0 : Int)) rfl (by kernel_rfl) (by kernel_rfl) (by kernel_rfl) (fun _ _ _ h => h) (Or.inl ⟨by kernel_rfl, fun w hw => by obtain ⟨s0, s1, s2, s3, s4⟩ := hw; go_simp⟩) hHeld ?_
   try simp only [Act.put, zA, zB, zC, zD, zE, zF]
   refine wpAnyH_ready (rs := [9]) (by kernel_rfl) (by simp) ?_
   refine AllReadyH.cons rfl (fun K hK => ?_) AllReadyH.nil
   go_simp
   refine (texts_any _ [x] (some ⟨g, 0, none⟩) 1 ac (owns_later (owns_below (unhide HO) (unhide HB2)) (((Below.refl _ _).alloc (Nat.le_refl _) _).drew)) (by simp) (unhide HZZ)).mono ?_
   rintro e w6 ⟨v6, rfl, hown6, hb6⟩
   obtain ⟨o6, n6, k6, hv6⟩ := row_slice hown6
   subst hv6
   have hS6 : w6.cell? ⟨kb, 1, none⟩ = some (.string r.word.s) ∧ w6.cell? ⟨kb, 3, none⟩ = some (.slice (some ⟨g, 0, none⟩) 1 ac) ∧ w6.cell? ⟨w2.heap.size, 2, none⟩ = some (.func (.func (fnNo no)) #[] #[]) ∧ w6.cell? ⟨w.heap.size + 1, 0, none⟩ = some (.pointer p0) ∧ w6.cell? ⟨w.heap.size + 1, 1, none⟩ = some (.pointer p1) :=
    ⟨(bcell3 hb6 _ _ (by simp; omega)).trans hHeld.1, (bcell3 hb6 _ _ (by simp; omega)).trans hHeld.2.1, (bcell3 hb6 _ _ (by simp)).trans hHeld.2.2.1, (bcell3 hb6 _ _ (by simp; omega)).trans hHeld.2.2.2.1, (bcell3 hb6 _ _ (by simp; omega)).trans hHeld.2.2.2.2⟩
   refine hK.out _ _ hS6 (fun hHeld => ?_)
   clear hK K hS6
   have hbz := ((Below.refl w2.heap.size w2).alloc (Nat.le_refl _) (.cells #[.string (twB no), .slice (some ⟨tkB b no, 0, none⟩) (tkL no) (tkL no), .func (.func (fnNo no)) #[] #[]] 265)).drew.trans (hb6.mono (by simp))
   have HG0 := hide ((unhide HG0).later hbz)
   have hrb6 := (hbz.block _ hrl3).trans (unhide HRB2)
   have HB6 := hide ((unhide HB2).trans (hbz.mono (by omega)))
   have HO6 := hide (owns_mono hown6 (show w.heap.size ≤ _ by simp; omega))
   have HRB6 := hide hrb6
   have hrl6 := lt_of_blk hrb6
   have hz6 := hbz.size
   clear hb6 hown6 hbz hrb6
   have cf := callFn no hno
   refine wpAnyH_ready (rs := [17]) (by kernel_rfl) (by simp) ?_
   refine AllReadyH.cons rfl (fun K hK => ?_) AllReadyH.nil
   go_simp
   refine (tplFn_any no hno x.s ByteArray.empty 0 p0 p1 _ (unhide HG0) (fun h => absurd h (by have := unhide HN; omega)) (by decide)).mono ?_
   rintro e w7 ⟨p7, rfl, hG7, hb7⟩
   have hS7 : w7.cell? ⟨kb, 1, none⟩ = some (.string r.word.s) ∧ w7.cell? ⟨kb, 3, none⟩ = some (.slice (some ⟨g, 0, none⟩) 1 ac) ∧ w7.cell? ⟨w2.heap.size, 2, none⟩ = some (.func (.func (fnNo no)) #[] #[]) ∧ w7.cell? ⟨w.heap.size + 1, 0, none⟩ = some (.pointer p0) ∧ w7.cell? ⟨w.heap.size + 1, 1, none⟩ = some (.pointer p1) :=
    ⟨(bcell3 hb7 _ _ (by omega)).trans hHeld.1, (bcell3 hb7 _ _ (by omega)).trans hHeld.2.1, (bcell3 hb7 _ _ (World.block_lt_of_cell? _ _ hHeld.2.2.1)).trans hHeld.2.2.1, (bcell3 hb7 _ _ (by omega)).trans hHeld.2.2.2.1, (bcell3 hb7 _ _ (by omega)).trans hHeld.2.2.2.2⟩
   refine hK.out _ _ hS7 (fun hHeld => ?_)
   clear hK K hS7
   have hrb7 := (hb7.block _ hrl6).trans (unhide HRB6)
   have rc7 := fun o => cell_of_blk hrb7 o
   have rf7 := fun o => frozen_of_blk hrb7 o
   have hrl7 := lt_of_blk hrb7
   have HG7 := hide hG7
   have HRB7 := hide hrb7
   have HO7 := hide (owns_later (unhide HO6) hb7)
   have HB7 := hide ((unhide HB6).trans (hb7.mono (by omega)))
   clear hG7 hb7 hrb7
   refine wpAnyH_take (i := 18) (v := .agg #[.string r.word.s, .slice o6 n6 k6, .pointer p7]) rfl (by kernel_rfl) (by kernel_rfl) (by kernel_rfl) (fun _ _ _ h => h) (Or.inl ⟨by kernel_rfl, fun w hw => by obtain ⟨s0, s1, s2, s3, s4⟩ := hw; go_simp⟩) hHeld ?_
   try simp only [Act.put, zA, zB, zC, zD, zE, zF]
   refine wpAnyH_ready (rs := [19]) (by kernel_rfl) (by simp) ?_
   refine AllReadyH.cons rfl (fun K hK => ?_) AllReadyH.nil
   go_simp
   have hfar : ∀ (q o : Nat) (v0 v1 v2 : Value), q ≠ w.heap.size → (((w7.setCell ⟨w.heap.size, 0, none⟩ v0).setCell ⟨w.heap.size, 1, none⟩ v1).setCell ⟨w.heap.size, 2, none⟩ v2).cell? ⟨q, o, none⟩ = w7.cell? ⟨q, o, none⟩ := fun q o v0 v1 v2 hq => by
    rw [World.cell?_setCell_far _ _ _ _ (by show w.heap.size ≠ q; omega), World.cell?_setCell_far _ _ _ _ (by show w.heap.size ≠ q; omega), World.cell?_setCell_far _ _ _ _ (by show w.heap.size ≠ q; omega)]
   refine hK.out _ _ ⟨(hfar _ _ _ _ _ (by omega)).trans hHeld.1, (hfar _ _ _ _ _ (by omega)).trans hHeld.2.1, (hfar _ _ _ _ _ (by omega)).trans hHeld.2.2.1, (hfar _ _ _ _ _ (by omega)).trans hHeld.2.2.2.1, (hfar _ _ _ _ _ (by omega)).trans hHeld.2.2.2.2⟩ (fun hHeld => ?_)
   clear hK K hfar hHeld
   refine wpAnyH_done (by kernel_rfl) ?_ _
   go_wp2_with fail
   have hfin : (((w7.setCell ⟨w.heap.size, 0, none⟩ (.string r.word.s)).setCell ⟨w.heap.size, 1, none⟩ (.slice o6 n6 k6)).setCell ⟨w.heap.size, 2, none⟩ (.pointer p7)).heap[w.heap.size]? = some (.cells #[.string r.word.s, .slice o6 n6 k6, .pointer p7] 144 (0, 0)) := blk_set (blk_set (blk_set (unhide HRB7) 0 _) 1 _) 2 _
   have rc8 := fun o => cell_of_blk hfin o
   clear rc7
   refine bodyPost_ret (v := .agg #[.string r.word.s, .slice o6 n6 k6, .pointer p7]) (by simp [results, Tryz.results118, go_sem, rc8]) rfl ?_
   have hnr : (Value.slice o6 n6 k6).ownBlock ≠ some w.heap.size := fun e => own_ty (unhide HO7) e (unhide HRB7) (by decide)
   refine ⟨(((unhide HB7).setCell (Nat.le_refl _) _).setCell (Nat.le_refl _) _).setCell (Nat.le_refl _) _, o6, n6, k6, p7, rfl, owns_keep (owns_keep (owns_keep (unhide HO7) (grown_set _ _ _ _) (Or.inr hnr)) (grown_set _ _ _ _) (Or.inr hnr)) (grown_set _ _ _ _) (Or.inr hnr), ?_⟩
   have hG8 := setG (o := 2) (v := .pointer p7) (blk_set (blk_set (unhide HRB7) 0 (.string r.word.s)) 1 (.slice o6 n6 k6)) (by decide) (setG (o := 1) (v := .slice o6 n6 k6) (blk_set (unhide HRB7) 0 (.string r.word.s)) (by decide) (setG (o := 0) (v := .string r.word.s) (unhide HRB7) (by decide) (unhide HG7)))
   rw [unhide HNOE]
   exact hG8
set_option maxHeartbeats 8000000 in
set_option maxRecDepth 100000 in
theorem buildCall_B (w : World) (r : Rl) (kb g ac : Nat) (xx : Tk) (x y : Tk) (hk : w.heap[kb]? = some (cbl r.word (some ⟨g, 0, none⟩) 2 ac xx)) (ho : w.ownsRow 0 201 3 (.slice (some ⟨g, 0, none⟩) 2 ac) 2 (tkCellsP [x, y])) (d : UInt8) (hx : x.k = 2) (hy : y.k = 3) (hd : y.s = ⟨#[d]⟩) (hd1 : 48 ≤ d.toNat) (hd2 : d.toNat ≤ 57) (hn : 2 ≤ tplNo r.word.s.toList ∧ tplNo r.word.s.toList ≤ 3) (hz : ∀ t ∈ [x, y], t.s.size ≤ 400) :
  Calls Tryz.prog 118 #[.pointer (some ⟨kb, 0, none⟩)] w fun e w' => BcPost w w' r.word.s [x, y] (tplF (tplNo r.word.s.toList) x.s ByteArray.empty (d.toNat - 48)) e := by
 have HZZ := hide hz
 clear hz
 have HO := hide ho
 obtain ⟨-, hrow⟩ := row_tkP (L := [x, y]) ho
 obtain ⟨g', hg', hle, hcap, hcur⟩ := hrow (by simp)
 cases hg'
 have HCUR := hide hcur
 have HK := hide hk
 have hkl := lt_of_blk hk
 have hgl : g < w.heap.size := by obtain ⟨cur, h1, _⟩ := hcur; exact lt_of_blk h1
 unfold cbl at hk
 have kc := fun o => cell_of_blk hk o
 have e3 : ((x.k : Int) == 3) = false := beqF (c := 3) (by omega)
 have f3 : ((y.k : Int) == 3) = true := beqT (c := 3) hy
 have HNUM := hide (fun w => number_any y d w hd hd1 hd2)
 have hdd : d.toNat - 48 ≤ 9 := by omega
 have HN := hide hn
 clear hx hn hy hd hd1 hd2
 clear ho hrow hcur hk hle hcap
 go_enter Tryz.func118, Tryz.ntmps118
 go_wp2_with fail
 go_loopw [4, 14] (fun tm i wr => ∃ (z : Int) (p0 p1 : Option Addr) (tv : Int), i = .int .i64 z ∧ tm = .int .i64 tv ∧ Below w.heap.size w wr ∧ wr.heap[w.heap.size]? = some (.cells #[.string ⟨#[]⟩, .slice none 0 0, .pointer none] 144 (0, 0)) ∧ wr.heap[w.heap.size + 1]? = some (.cells #[.pointer p0, .pointer p1] 257 (0, 0)) ∧ ((z = 0 ∧ tv = 0) ∨ (z = 1 ∧ tv = 0 ∧ IsG wr (acF x.s) p0) ∨ (z = 2 ∧ tv = ((d.toNat - 48 : Nat) : Int) ∧ IsG wr (acF x.s) p0))) (fun _ i _ => (2 - intOf i).toNat)
 case atStart =>
  refine ⟨0, none, none, 0, rfl, rfl, ((Below.refl _ _).alloc (Nat.le_refl _) _).alloc (by simp) _, (Below.heap_alloc _ _ _ (by simp)).trans (blk_alloc _ _), blk_alloc' _ _ _ (by simp), Or.inl ⟨rfl, rfl⟩⟩
 case round =>
  clear kc
  obtain ⟨z, p0, p1, tv, rfl, rfl, hbel, hrb, hab, hst⟩ := hrel
  have HB := hide hbel
  have HRB := hide hrb
  have HAB := hide hab
  have hwl := hbel.size
  have hrl : w.heap.size < wr.heap.size := lt_of_blk hrb
  have hal : w.heap.size + 1 < wr.heap.size := lt_of_blk hab
  have hkr := (hbel.block _ hkl).trans (unhide HK)
  have hkl2 : kb < wr.heap.size := by omega
  have hgl2 : g < wr.heap.size := by omega
  unfold cbl at hkr
  have kc := fun o => cell_of_blk hkr o
  have abc := fun o => cell_of_blk hab o
  have abf := fun o => frozen_of_blk hab o
  have hcr : ∃ cur, wr.heap[g]? = some (.cells cur 201 (0, 0)) ∧ cur.toList.take ([x, y].length * 3) = tkCellsP [x, y] := by
   obtain ⟨cur, h1, h2⟩ := unhide HCUR
   exact ⟨cur, (hbel.block _ (lt_of_blk h1)).trans h1, h2⟩
  clear hbel hrb hab hkr
  rcases hst with ⟨rfl, rfl⟩ | ⟨rfl, rfl, hG0⟩ | ⟨rfl, rfl, hG0⟩
  ·skip
   obtain ⟨c0, c1, c2⟩ := row_tok (j := 0) hcr rfl
   clear hcr
   go_wp2_with fail
   refine (fActivity_any x.s _).mono ?_
   rintro e w3 ⟨v, rfl, hv, hb3⟩
   have HV := hide (hv 0)
   have hrb3 := (hb3.block w.heap.size (by simp; omega)).trans ((Below.heap_alloc _ _ _ hrl).trans (unhide HRB))
   have hab3 := (hb3.block (w.heap.size + 1) (by simp; omega)).trans ((Below.heap_alloc _ _ _ hal).trans (unhide HAB))
   have HRB3 := hide hrb3
   have HAB3 := hide hab3
   have HB3 := hide (((unhide HB).alloc (by omega) _).trans (hb3.mono (by simp; omega)))
   have hal3 := lt_of_blk hab3
   clear abc abf
   have abc := fun o => cell_of_blk hab3 o
   have abf := fun o => frozen_of_blk hab3 o
   clear hv hb3 hrb3 hab3 c0 c1 c2
   go_wp2_with fail
   go_roundw
   case rel =>
    refine ⟨1, v, p1, 0, by first | rfl | go_num, rfl, (unhide HB3).setCell (by show w.heap.size ≤ w.heap.size + 1; omega) _, (Below.heap_setCell _ _ _ _ (by show w.heap.size ≠ w.heap.size + 1; omega)).trans (unhide HRB3), blk_set (unhide HAB3) 0 _, Or.inr (Or.inl ⟨rfl, rfl, setG (unhide HAB3) (by decide) (unhide HV)⟩)⟩
   case measure => simp [intOf]
  ·skip
   have HG0 := hide hG0
   clear hG0
   obtain ⟨c0, c1, c2⟩ := row_tok (j := 1) hcr rfl
   clear hcr
   go_wp2_with fail
   refine (unhide HNUM _).mono ?_
   rintro e w3 ⟨rfl, hb3⟩
   have hrb3 := (hb3.block w.heap.size (by simp; omega)).trans ((Below.heap_alloc _ _ _ hrl).trans (unhide HRB))
   have hab3 := (hb3.block (w.heap.size + 1) (by simp; omega)).trans ((Below.heap_alloc _ _ _ hal).trans (unhide HAB))
   have HRB3 := hide hrb3
   have HAB3 := hide hab3
   have HB3 := hide (((unhide HB).alloc (by omega) _).trans (hb3.mono (by simp; omega)))
   have HG3 := hide ((unhide HG0).later (((Below.refl _ _).alloc (Nat.le_refl _) _).trans (hb3.mono (by simp))))
   clear hb3 hrb3 hab3 c0 c1 c2
   go_wp2_with fail
   go_roundw
   case rel => exact ⟨2, p0, p1, _, by first | rfl | go_num, rfl, unhide HB3, unhide HRB3, unhide HAB3, Or.inr (Or.inr ⟨rfl, rfl, unhide HG3⟩)⟩
   case measure => simp [intOf]
  ·have HG0 := hide hG0
   clear hG0
   clear abc abf hcr
   go_wp2_with fail
   refine (find_any r.word.s _).mono ?_
   rintro e w2 ⟨hb2, b, hbb, htk2, hcase⟩
   obtain ⟨hno, rfl⟩ : tplNo r.word.s.toList ≤ 11 ∧ e = _ := by
    rcases hcase with h | ⟨h, _⟩
    ·exact h
    ·exact absurd (by have := unhide HN; omega) h
   have hkr2 := (hb2.block _ hkl2).trans (((unhide HB).block _ hkl).trans (unhide HK))
   have hrb2 := (hb2.block _ hrl).trans (unhide HRB)
   have hab2 := (hb2.block _ hal).trans (unhide HAB)
   have HB2 := hide ((unhide HB).trans (hb2.mono hwl))
   have HG0 := hide ((unhide HG0).later hb2)
   clear hb2 htk2 hcase kc
   have hkl3 := lt_of_blk hkr2
   have hrl3 := lt_of_blk hrb2
   have hal3 := lt_of_blk hab2
   have HKR2 := hide hkr2
   have HRB2 := hide hrb2
   have HAB2 := hide hab2
   unfold cbl at hkr2
   have kc := fun o => cell_of_blk hkr2 o
   have abc := fun o => cell_of_blk hab2 o
   clear hkr2 hrb2 hab2
   generalize hNo : tplNo r.word.s.toList = no at *
   have HNOE := hide hNo
   clear hNo
   go_wp2_with fail
   refine wp_region_held_drew (S := fun w' => w'.cell? ⟨kb, 1, none⟩ = some (.string r.word.s) ∧ w'.cell? ⟨kb, 3, none⟩ = some (.slice (some ⟨g, 0, none⟩) 2 ac) ∧ w'.cell? ⟨w2.heap.size, 2, none⟩ = some (.func (.func (fnNo no)) #[] #[]) ∧ w'.cell? ⟨w.heap.size + 1, 0, none⟩ = some (.pointer p0) ∧ w'.cell? ⟨w.heap.size + 1, 1, none⟩ = some (.pointer p1)) (by kernel_rfl) ?_ (fun hHeld => ?_)
   ·refine ⟨?_, ?_, ?_, ?_, ?_⟩
    ·show (World.alloc _ _).cell? _ = _; rw [World.cell?_alloc_lt _ _ _ hkl3]; exact kc 1
    ·show (World.alloc _ _).cell? _ = _; rw [World.cell?_alloc_lt _ _ _ hkl3]; exact kc 3
    ·exact cell_of_blk (blk_alloc _ _) 2
    ·show (World.alloc _ _).cell? _ = _; rw [World.cell?_alloc_lt _ _ _ hal3]; exact abc 0
    ·show (World.alloc _ _).cell? _ = _; rw [World.cell?_alloc_lt _ _ _ hal3]; exact abc 1
   refine wpAnyH_take (i := 0) (v := .pointer (some ⟨kb, 0, none⟩)) rfl (by kernel_rfl) (by kernel_rfl) (by kernel_rfl) (fun _ _ _ h => h) (Or.inl ⟨by kernel_rfl, fun w hw => by obtain ⟨s0, s1, s2, s3, s4⟩ := hw; go_simp⟩) hHeld ?_
   try simp only [Act.put, zA, zB, zC, zD, zE, zF]
   refine wpAnyH_take (i := 1) (v := .pointer (some ⟨kb, 0, none⟩)) rfl (by kernel_rfl) (by kernel_rfl) (by kernel_rfl) (fun _ _ _ h => h) (Or.inl ⟨by kernel_rfl, fun w hw => by obtain ⟨s0, s1, s2, s3, s4⟩ := hw; go_simp⟩) hHeld ?_
   try simp only [Act.put, zA, zB, zC, zD, zE, zF]
   refine wpAnyH_take (i := 2) (v := .pointer (some ⟨kb, 0, none⟩)) rfl (by kernel_rfl) (by kernel_rfl) (by kernel_rfl) (fun _ _ _ h => h) (Or.inl ⟨by kernel_rfl, fun w hw => by obtain ⟨s0, s1, s2, s3, s4⟩ := hw; go_simp⟩) hHeld ?_
   try simp only [Act.put, zA, zB, zC, zD, zE, zF]
   refine wpAnyH_take (i := 3) (v := .pointer (some ⟨kb, 1, none⟩)) rfl (by kernel_rfl) (by kernel_rfl) (by kernel_rfl) (fun _ _ _ h => h) (Or.inl ⟨by kernel_rfl, fun w hw => by obtain ⟨s0, s1, s2, s3, s4⟩ := hw; go_simp⟩) hHeld ?_
   try simp only [Act.put, zA, zB, zC, zD, zE, zF]
   refine wpAnyH_take (i := 4) (v := .string r.word.s) rfl (by kernel_rfl) (by kernel_rfl) (by kernel_rfl) (fun _ _ _ h => h) (Or.inl ⟨by kernel_rfl, fun w hw => by obtain ⟨s0, s1, s2, s3, s4⟩ := hw; go_simp⟩) hHeld ?_
   try simp only [Act.put, zA, zB, zC, zD, zE, zF]
   refine wpAnyH_take (i := 5) (v := .pointer (some ⟨kb, 0, none⟩)) rfl (by kernel_rfl) (by kernel_rfl) (by kernel_rfl) (fun _ _ _ h => h) (Or.inl ⟨by kernel_rfl, fun w hw => by obtain ⟨s0, s1, s2, s3, s4⟩ := hw; go_simp⟩) hHeld ?_
   try simp only [Act.put, zA, zB, zC, zD, zE, zF]
   refine wpAnyH_take (i := 6) (v := .pointer (some ⟨kb, 0, none⟩)) rfl (by kernel_rfl) (by kernel_rfl) (by kernel_rfl) (fun _ _ _ h => h) (Or.inl ⟨by kernel_rfl, fun w hw => by obtain ⟨s0, s1, s2, s3, s4⟩ := hw; go_simp⟩) hHeld ?_
   try simp only [Act.put, zA, zB, zC, zD, zE, zF]
   refine wpAnyH_take (i := 7) (v := .pointer (some ⟨kb, 3, none⟩)) rfl (by kernel_rfl) (by kernel_rfl) (by kernel_rfl) (fun _ _ _ h => h) (Or.inl ⟨by kernel_rfl, fun w hw => by obtain ⟨s0, s1, s2, s3, s4⟩ := hw; go_simp⟩) hHeld ?_
   try simp only [Act.put, zA, zB, zC, zD, zE, zF]
   refine wpAnyH_take (i := 8) (v := .slice (some ⟨g, 0, none⟩) 2 ac) rfl (by kernel_rfl) (by kernel_rfl) (by kernel_rfl) (fun _ _ _ h => h) (Or.inl ⟨by kernel_rfl, fun w hw => by obtain ⟨s0, s1, s2, s3, s4⟩ := hw; go_simp⟩) hHeld ?_
   try simp only [Act.put, zA, zB, zC, zD, zE, zF]
   refine wpAnyH_take (i := 10) (v := .pointer (some ⟨w2.heap.size, 2, none⟩)) rfl (by kernel_rfl) (by kernel_rfl) (by kernel_rfl) (fun _ _ _ h => h) (Or.inl ⟨by kernel_rfl, fun w hw => by obtain ⟨s0, s1, s2, s3, s4⟩ := hw; go_simp⟩) hHeld ?_
   try simp only [Act.put, zA, zB, zC, zD, zE, zF]
   refine wpAnyH_take (i := 11) (v := .func (.func (fnNo no)) #[] #[]) rfl (by kernel_rfl) (by kernel_rfl) (by kernel_rfl) (fun _ _ _ h => h) (Or.inl ⟨by kernel_rfl, fun w hw => by obtain ⟨s0, s1, s2, s3, s4⟩ := hw; go_simp⟩) hHeld ?_
   try simp only [Act.put, zA, zB, zC, zD, zE, zF]
   refine wpAnyH_take (i := 12) (v := .pointer (some ⟨w.heap.size + 1, 0, none⟩)) rfl (by kernel_rfl) (by kernel_rfl) (by kernel_rfl) (fun _ _ _ h => h) (Or.inl ⟨by kernel_rfl, fun w hw => by obtain ⟨s0, s1, s2, s3, s4⟩ := hw; go_simp⟩) hHeld ?_
   try simp only [Act.put, zA, zB, zC, zD, zE, zF]
   refine wpAnyH_take (i := 13) (v := .pointer p0) rfl (by kernel_rfl) (by kernel_rfl) (by kernel_rfl) (fun _ _ _ h => h) (Or.inl ⟨by kernel_rfl, fun w hw => by obtain ⟨s0, s1, s2, s3, s4⟩ := hw; go_simp⟩) hHeld ?_
   try simp only [Act.put, zA, zB, zC, zD, zE, zF]
   refine wpAnyH_take (i := 14) (v := .pointer (some ⟨w.heap.size + 1, 1, none⟩)) rfl (by kernel_rfl) (by kernel_rfl) (by kernel_rfl) (fun _ _ _ h => h) (Or.inl ⟨by kernel_rfl, fun w hw => by obtain ⟨s0, s1, s2, s3, s4⟩ := hw; go_simp⟩) hHeld ?_
   try simp only [Act.put, zA, zB, zC, zD, zE, zF]
   refine wpAnyH_take (i := 15) (v := .pointer p1) rfl (by kernel_rfl) (by kernel_rfl) (by kernel_rfl) (fun _ _ _ h => h) (Or.inl ⟨by kernel_rfl, fun w hw => by obtain ⟨s0, s1, s2, s3, s4⟩ := hw; go_simp⟩) hHeld ?_
   try simp only [Act.put, zA, zB, zC, zD, zE, zF]
   refine wpAnyH_take (i := 16) (v := .int .i64 (((d.toNat - 48 : Nat) : Int) : Int)) rfl (by kernel_rfl) (by kernel_rfl) (by kernel_rfl) (fun _ _ _ h => h) (Or.inl ⟨by kernel_rfl, fun w hw => by obtain ⟨s0, s1, s2, s3, s4⟩ := hw; go_simp⟩) hHeld ?_
   try simp only [Act.put, zA, zB, zC, zD, zE, zF]
   refine wpAnyH_ready (rs := [9]) (by kernel_rfl) (by simp) ?_
   refine AllReadyH.cons rfl (fun K hK => ?_) AllReadyH.nil
   go_simp
   refine (texts_any _ [x, y] (some ⟨g, 0, none⟩) 2 ac (owns_later (owns_below (unhide HO) (unhide HB2)) (((Below.refl _ _).alloc (Nat.le_refl _) _).drew)) (by simp) (unhide HZZ)).mono ?_
   rintro e w6 ⟨v6, rfl, hown6, hb6⟩
   obtain ⟨o6, n6, k6, hv6⟩ := row_slice hown6
   subst hv6
   have hS6 : w6.cell? ⟨kb, 1, none⟩ = some (.string r.word.s) ∧ w6.cell? ⟨kb, 3, none⟩ = some (.slice (some ⟨g, 0, none⟩) 2 ac) ∧ w6.cell? ⟨w2.heap.size, 2, none⟩ = some (.func (.func (fnNo no)) #[] #[]) ∧ w6.cell? ⟨w.heap.size + 1, 0, none⟩ = some (.pointer p0) ∧ w6.cell? ⟨w.heap.size + 1, 1, none⟩ = some (.pointer p1) :=
    ⟨(bcell3 hb6 _ _ (by simp; omega)).trans hHeld.1, (bcell3 hb6 _ _ (by simp; omega)).trans hHeld.2.1, (bcell3 hb6 _ _ (by simp)).trans hHeld.2.2.1, (bcell3 hb6 _ _ (by simp; omega)).trans hHeld.2.2.2.1, (bcell3 hb6 _ _ (by simp; omega)).trans hHeld.2.2.2.2⟩
   refine hK.out _ _ hS6 (fun hHeld => ?_)
   clear hK K hS6
   have hbz := ((Below.refl w2.heap.size w2).alloc (Nat.le_refl _) (.cells #[.string (twB no), .slice (some ⟨tkB b no, 0, none⟩) (tkL no) (tkL no), .func (.func (fnNo no)) #[] #[]] 265)).drew.trans (hb6.mono (by simp))
   have HG0 := hide ((unhide HG0).later hbz)
   have hrb6 := (hbz.block _ hrl3).trans (unhide HRB2)
   have HB6 := hide ((unhide HB2).trans (hbz.mono (by omega)))
   have HO6 := hide (owns_mono hown6 (show w.heap.size ≤ _ by simp; omega))
   have HRB6 := hide hrb6
   have hrl6 := lt_of_blk hrb6
   have hz6 := hbz.size
   clear hb6 hown6 hbz hrb6
   have cf := callFn no hno
   refine wpAnyH_ready (rs := [17]) (by kernel_rfl) (by simp) ?_
   refine AllReadyH.cons rfl (fun K hK => ?_) AllReadyH.nil
   go_simp
   refine (tplFn_any no hno x.s ByteArray.empty (d.toNat - 48) p0 p1 _ (unhide HG0) (fun h => absurd h (by have := unhide HN; omega)) hdd).mono ?_
   rintro e w7 ⟨p7, rfl, hG7, hb7⟩
   have hS7 : w7.cell? ⟨kb, 1, none⟩ = some (.string r.word.s) ∧ w7.cell? ⟨kb, 3, none⟩ = some (.slice (some ⟨g, 0, none⟩) 2 ac) ∧ w7.cell? ⟨w2.heap.size, 2, none⟩ = some (.func (.func (fnNo no)) #[] #[]) ∧ w7.cell? ⟨w.heap.size + 1, 0, none⟩ = some (.pointer p0) ∧ w7.cell? ⟨w.heap.size + 1, 1, none⟩ = some (.pointer p1) :=
    ⟨(bcell3 hb7 _ _ (by omega)).trans hHeld.1, (bcell3 hb7 _ _ (by omega)).trans hHeld.2.1, (bcell3 hb7 _ _ (World.block_lt_of_cell? _ _ hHeld.2.2.1)).trans hHeld.2.2.1, (bcell3 hb7 _ _ (by omega)).trans hHeld.2.2.2.1, (bcell3 hb7 _ _ (by omega)).trans hHeld.2.2.2.2⟩
   refine hK.out _ _ hS7 (fun hHeld => ?_)
   clear hK K hS7
   have hrb7 := (hb7.block _ hrl6).trans (unhide HRB6)
   have rc7 := fun o => cell_of_blk hrb7 o
   have rf7 := fun o => frozen_of_blk hrb7 o
   have hrl7 := lt_of_blk hrb7
   have HG7 := hide hG7
   have HRB7 := hide hrb7
   have HO7 := hide (owns_later (unhide HO6) hb7)
   have HB7 := hide ((unhide HB6).trans (hb7.mono (by omega)))
   clear hG7 hb7 hrb7
   refine wpAnyH_take (i := 18) (v := .agg #[.string r.word.s, .slice o6 n6 k6, .pointer p7]) rfl (by kernel_rfl) (by kernel_rfl) (by kernel_rfl) (fun _ _ _ h => h) (Or.inl ⟨by kernel_rfl, fun w hw => by obtain ⟨s0, s1, s2, s3, s4⟩ := hw; go_simp⟩) hHeld ?_
   try simp only [Act.put, zA, zB, zC, zD, zE, zF]
   refine wpAnyH_ready (rs := [19]) (by kernel_rfl) (by simp) ?_
   refine AllReadyH.cons rfl (fun K hK => ?_) AllReadyH.nil
   go_simp
   have hfar : ∀ (q o : Nat) (v0 v1 v2 : Value), q ≠ w.heap.size → (((w7.setCell ⟨w.heap.size, 0, none⟩ v0).setCell ⟨w.heap.size, 1, none⟩ v1).setCell ⟨w.heap.size, 2, none⟩ v2).cell? ⟨q, o, none⟩ = w7.cell? ⟨q, o, none⟩ := fun q o v0 v1 v2 hq => by
    rw [World.cell?_setCell_far _ _ _ _ (by show w.heap.size ≠ q; omega), World.cell?_setCell_far _ _ _ _ (by show w.heap.size ≠ q; omega), World.cell?_setCell_far _ _ _ _ (by show w.heap.size ≠ q; omega)]
   refine hK.out _ _ ⟨(hfar _ _ _ _ _ (by omega)).trans hHeld.1, (hfar _ _ _ _ _ (by omega)).trans hHeld.2.1, (hfar _ _ _ _ _ (by omega)).trans hHeld.2.2.1, (hfar _ _ _ _ _ (by omega)).trans hHeld.2.2.2.1, (hfar _ _ _ _ _ (by omega)).trans hHeld.2.2.2.2⟩ (fun hHeld => ?_)
   clear hK K hfar hHeld
   refine wpAnyH_done (by kernel_rfl) ?_ _
   go_wp2_with fail
   have hfin : (((w7.setCell ⟨w.heap.size, 0, none⟩ (.string r.word.s)).setCell ⟨w.heap.size, 1, none⟩ (.slice o6 n6 k6)).setCell ⟨w.heap.size, 2, none⟩ (.pointer p7)).heap[w.heap.size]? = some (.cells #[.string r.word.s, .slice o6 n6 k6, .pointer p7] 144 (0, 0)) := blk_set (blk_set (blk_set (unhide HRB7) 0 _) 1 _) 2 _
   have rc8 := fun o => cell_of_blk hfin o
   clear rc7
   refine bodyPost_ret (v := .agg #[.string r.word.s, .slice o6 n6 k6, .pointer p7]) (by simp [results, Tryz.results118, go_sem, rc8]) rfl ?_
   have hnr : (Value.slice o6 n6 k6).ownBlock ≠ some w.heap.size := fun e => own_ty (unhide HO7) e (unhide HRB7) (by decide)
   refine ⟨(((unhide HB7).setCell (Nat.le_refl _) _).setCell (Nat.le_refl _) _).setCell (Nat.le_refl _) _, o6, n6, k6, p7, rfl, owns_keep (owns_keep (owns_keep (unhide HO7) (grown_set _ _ _ _) (Or.inr hnr)) (grown_set _ _ _ _) (Or.inr hnr)) (grown_set _ _ _ _) (Or.inr hnr), ?_⟩
   have hG8 := setG (o := 2) (v := .pointer p7) (blk_set (blk_set (unhide HRB7) 0 (.string r.word.s)) 1 (.slice o6 n6 k6)) (by decide) (setG (o := 1) (v := .slice o6 n6 k6) (blk_set (unhide HRB7) 0 (.string r.word.s)) (by decide) (setG (o := 0) (v := .string r.word.s) (unhide HRB7) (by decide) (unhide HG7)))
   rw [unhide HNOE]
   exact hG8
set_option maxHeartbeats 8000000 in
set_option maxRecDepth 100000 in
theorem buildCall_C (w : World) (r : Rl) (kb g ac : Nat) (xx : Tk) (x y : Tk) (hk : w.heap[kb]? = some (cbl r.word (some ⟨g, 0, none⟩) 2 ac xx)) (ho : w.ownsRow 0 201 3 (.slice (some ⟨g, 0, none⟩) 2 ac) 2 (tkCellsP [x, y])) (hx : x.k = 2) (hy : y.k = 2) (hn : 4 ≤ tplNo r.word.s.toList ∧ tplNo r.word.s.toList ≤ 11) (hz : ∀ t ∈ [x, y], t.s.size ≤ 400) :
  Calls Tryz.prog 118 #[.pointer (some ⟨kb, 0, none⟩)] w fun e w' => BcPost w w' r.word.s [x, y] (tplF (tplNo r.word.s.toList) x.s y.s 0) e := by
 have HZZ := hide hz
 clear hz
 have HO := hide ho
 obtain ⟨-, hrow⟩ := row_tkP (L := [x, y]) ho
 obtain ⟨g', hg', hle, hcap, hcur⟩ := hrow (by simp)
 cases hg'
 have HCUR := hide hcur
 have HK := hide hk
 have hkl := lt_of_blk hk
 have hgl : g < w.heap.size := by obtain ⟨cur, h1, _⟩ := hcur; exact lt_of_blk h1
 unfold cbl at hk
 have kc := fun o => cell_of_blk hk o
 have e3 : ((x.k : Int) == 3) = false := beqF (c := 3) (by omega)
 have f3 : ((y.k : Int) == 3) = false := beqF (c := 3) (by omega)
 have HN := hide hn
 clear hx hn hy
 clear ho hrow hcur hk hle hcap
 go_enter Tryz.func118, Tryz.ntmps118
 go_wp2_with fail
 go_loopw [4, 14] (fun tm i wr => ∃ (z : Int) (p0 p1 : Option Addr) (tv : Int), i = .int .i64 z ∧ tm = .int .i64 tv ∧ Below w.heap.size w wr ∧ wr.heap[w.heap.size]? = some (.cells #[.string ⟨#[]⟩, .slice none 0 0, .pointer none] 144 (0, 0)) ∧ wr.heap[w.heap.size + 1]? = some (.cells #[.pointer p0, .pointer p1] 257 (0, 0)) ∧ ((z = 0 ∧ tv = 0) ∨ (z = 1 ∧ tv = 0 ∧ IsG wr (acF x.s) p0) ∨ (z = 2 ∧ tv = 0 ∧ IsG wr (acF x.s) p0 ∧ IsG wr (acF y.s) p1))) (fun _ i _ => (2 - intOf i).toNat)
 case atStart =>
  refine ⟨0, none, none, 0, rfl, rfl, ((Below.refl _ _).alloc (Nat.le_refl _) _).alloc (by simp) _, (Below.heap_alloc _ _ _ (by simp)).trans (blk_alloc _ _), blk_alloc' _ _ _ (by simp), Or.inl ⟨rfl, rfl⟩⟩
 case round =>
  clear kc
  obtain ⟨z, p0, p1, tv, rfl, rfl, hbel, hrb, hab, hst⟩ := hrel
  have HB := hide hbel
  have HRB := hide hrb
  have HAB := hide hab
  have hwl := hbel.size
  have hrl : w.heap.size < wr.heap.size := lt_of_blk hrb
  have hal : w.heap.size + 1 < wr.heap.size := lt_of_blk hab
  have hkr := (hbel.block _ hkl).trans (unhide HK)
  have hkl2 : kb < wr.heap.size := by omega
  have hgl2 : g < wr.heap.size := by omega
  unfold cbl at hkr
  have kc := fun o => cell_of_blk hkr o
  have abc := fun o => cell_of_blk hab o
  have abf := fun o => frozen_of_blk hab o
  have hcr : ∃ cur, wr.heap[g]? = some (.cells cur 201 (0, 0)) ∧ cur.toList.take ([x, y].length * 3) = tkCellsP [x, y] := by
   obtain ⟨cur, h1, h2⟩ := unhide HCUR
   exact ⟨cur, (hbel.block _ (lt_of_blk h1)).trans h1, h2⟩
  clear hbel hrb hab hkr
  rcases hst with ⟨rfl, rfl⟩ | ⟨rfl, rfl, hG0⟩ | ⟨rfl, rfl, hG0, hG1⟩
  ·skip
   obtain ⟨c0, c1, c2⟩ := row_tok (j := 0) hcr rfl
   clear hcr
   go_wp2_with fail
   refine (fActivity_any x.s _).mono ?_
   rintro e w3 ⟨v, rfl, hv, hb3⟩
   have HV := hide (hv 0)
   have hrb3 := (hb3.block w.heap.size (by simp; omega)).trans ((Below.heap_alloc _ _ _ hrl).trans (unhide HRB))
   have hab3 := (hb3.block (w.heap.size + 1) (by simp; omega)).trans ((Below.heap_alloc _ _ _ hal).trans (unhide HAB))
   have HRB3 := hide hrb3
   have HAB3 := hide hab3
   have HB3 := hide (((unhide HB).alloc (by omega) _).trans (hb3.mono (by simp; omega)))
   have hal3 := lt_of_blk hab3
   clear abc abf
   have abc := fun o => cell_of_blk hab3 o
   have abf := fun o => frozen_of_blk hab3 o
   clear hv hb3 hrb3 hab3 c0 c1 c2
   go_wp2_with fail
   go_roundw
   case rel =>
    refine ⟨1, v, p1, 0, by first | rfl | go_num, rfl, (unhide HB3).setCell (by show w.heap.size ≤ w.heap.size + 1; omega) _, (Below.heap_setCell _ _ _ _ (by show w.heap.size ≠ w.heap.size + 1; omega)).trans (unhide HRB3), blk_set (unhide HAB3) 0 _, Or.inr (Or.inl ⟨rfl, rfl, setG (unhide HAB3) (by decide) (unhide HV)⟩)⟩
   case measure => simp [intOf]
  ·skip
   have HG0 := hide hG0
   clear hG0
   obtain ⟨c0, c1, c2⟩ := row_tok (j := 1) hcr rfl
   clear hcr
   go_wp2_with fail
   refine (fActivity_any y.s _).mono ?_
   rintro e w3 ⟨v, rfl, hv, hb3⟩
   have HV := hide (hv 0)
   have hrb3 := (hb3.block w.heap.size (by simp; omega)).trans ((Below.heap_alloc _ _ _ hrl).trans (unhide HRB))
   have hab3 := (hb3.block (w.heap.size + 1) (by simp; omega)).trans ((Below.heap_alloc _ _ _ hal).trans (unhide HAB))
   have HRB3 := hide hrb3
   have HAB3 := hide hab3
   have HB3 := hide (((unhide HB).alloc (by omega) _).trans (hb3.mono (by simp; omega)))
   have HG3 := hide ((unhide HG0).later (((Below.refl _ _).alloc (Nat.le_refl _) _).trans (hb3.mono (by simp))))
   have hal3 := lt_of_blk hab3
   clear abc abf
   have abc := fun o => cell_of_blk hab3 o
   have abf := fun o => frozen_of_blk hab3 o
   clear hv hb3 hrb3 hab3 c0 c1 c2
   go_wp2_with fail
   go_roundw
   case rel => exact ⟨2, p0, v, 0, by first | rfl | go_num, rfl, (unhide HB3).setCell (by show w.heap.size ≤ w.heap.size + 1; omega) _, (Below.heap_setCell _ _ _ _ (by show w.heap.size ≠ w.heap.size + 1; omega)).trans (unhide HRB3), blk_set (unhide HAB3) 1 _, Or.inr (Or.inr ⟨rfl, rfl, setG (unhide HAB3) (by decide) (unhide HG3), setG (unhide HAB3) (by decide) (unhide HV)⟩)⟩
   case measure => simp [intOf]
  ·have HG0 := hide hG0
   have HG1 := hide hG1
   clear hG0 hG1
   clear abc abf hcr
   go_wp2_with fail
   refine (find_any r.word.s _).mono ?_
   rintro e w2 ⟨hb2, b, hbb, htk2, hcase⟩
   obtain ⟨hno, rfl⟩ : tplNo r.word.s.toList ≤ 11 ∧ e = _ := by
    rcases hcase with h | ⟨h, _⟩
    ·exact h
    ·exact absurd (by have := unhide HN; omega) h
   have hkr2 := (hb2.block _ hkl2).trans (((unhide HB).block _ hkl).trans (unhide HK))
   have hrb2 := (hb2.block _ hrl).trans (unhide HRB)
   have hab2 := (hb2.block _ hal).trans (unhide HAB)
   have HB2 := hide ((unhide HB).trans (hb2.mono hwl))
   have HG0 := hide ((unhide HG0).later hb2)
   have HG1 := hide ((unhide HG1).later hb2)
   clear hb2 htk2 hcase kc
   have hkl3 := lt_of_blk hkr2
   have hrl3 := lt_of_blk hrb2
   have hal3 := lt_of_blk hab2
   have HKR2 := hide hkr2
   have HRB2 := hide hrb2
   have HAB2 := hide hab2
   unfold cbl at hkr2
   have kc := fun o => cell_of_blk hkr2 o
   have abc := fun o => cell_of_blk hab2 o
   clear hkr2 hrb2 hab2
   generalize hNo : tplNo r.word.s.toList = no at *
   have HNOE := hide hNo
   clear hNo
   go_wp2_with fail
   refine wp_region_held_drew (S := fun w' => w'.cell? ⟨kb, 1, none⟩ = some (.string r.word.s) ∧ w'.cell? ⟨kb, 3, none⟩ = some (.slice (some ⟨g, 0, none⟩) 2 ac) ∧ w'.cell? ⟨w2.heap.size, 2, none⟩ = some (.func (.func (fnNo no)) #[] #[]) ∧ w'.cell? ⟨w.heap.size + 1, 0, none⟩ = some (.pointer p0) ∧ w'.cell? ⟨w.heap.size + 1, 1, none⟩ = some (.pointer p1)) (by kernel_rfl) ?_ (fun hHeld => ?_)
   ·refine ⟨?_, ?_, ?_, ?_, ?_⟩
    ·show (World.alloc _ _).cell? _ = _; rw [World.cell?_alloc_lt _ _ _ hkl3]; exact kc 1
    ·show (World.alloc _ _).cell? _ = _; rw [World.cell?_alloc_lt _ _ _ hkl3]; exact kc 3
    ·exact cell_of_blk (blk_alloc _ _) 2
    ·show (World.alloc _ _).cell? _ = _; rw [World.cell?_alloc_lt _ _ _ hal3]; exact abc 0
    ·show (World.alloc _ _).cell? _ = _; rw [World.cell?_alloc_lt _ _ _ hal3]; exact abc 1
   refine wpAnyH_take (i := 0) (v := .pointer (some ⟨kb, 0, none⟩)) rfl (by kernel_rfl) (by kernel_rfl) (by kernel_rfl) (fun _ _ _ h => h) (Or.inl ⟨by kernel_rfl, fun w hw => by obtain ⟨s0, s1, s2, s3, s4⟩ := hw; go_simp⟩) hHeld ?_
   try simp only [Act.put, zA, zB, zC, zD, zE, zF]
   refine wpAnyH_take (i := 1) (v := .pointer (some ⟨kb, 0, none⟩)) rfl (by kernel_rfl) (by kernel_rfl) (by kernel_rfl) (fun _ _ _ h => h) (Or.inl ⟨by kernel_rfl, fun w hw => by obtain ⟨s0, s1, s2, s3, s4⟩ := hw; go_simp⟩) hHeld ?_
   try simp only [Act.put, zA, zB, zC, zD, zE, zF]
   refine wpAnyH_take (i := 2) (v := .pointer (some ⟨kb, 0, none⟩)) rfl (by kernel_rfl) (by kernel_rfl) (by kernel_rfl) (fun _ _ _ h => h) (Or.inl ⟨by kernel_rfl, fun w hw => by obtain ⟨s0, s1, s2, s3, s4⟩ := hw; go_simp⟩) hHeld ?_
   try simp only [Act.put, zA, zB, zC, zD, zE, zF]
   refine wpAnyH_take (i := 3) (v := .pointer (some ⟨kb, 1, none⟩)) rfl (by kernel_rfl) (by kernel_rfl) (by kernel_rfl) (fun _ _ _ h => h) (Or.inl ⟨by kernel_rfl, fun w hw => by obtain ⟨s0, s1, s2, s3, s4⟩ := hw; go_simp⟩) hHeld ?_
   try simp only [Act.put, zA, zB, zC, zD, zE, zF]
   refine wpAnyH_take (i := 4) (v := .string r.word.s) rfl (by kernel_rfl) (by kernel_rfl) (by kernel_rfl) (fun _ _ _ h => h) (Or.inl ⟨by kernel_rfl, fun w hw => by obtain ⟨s0, s1, s2, s3, s4⟩ := hw; go_simp⟩) hHeld ?_
   try simp only [Act.put, zA, zB, zC, zD, zE, zF]
   refine wpAnyH_take (i := 5) (v := .pointer (some ⟨kb, 0, none⟩)) rfl (by kernel_rfl) (by kernel_rfl) (by kernel_rfl) (fun _ _ _ h => h) (Or.inl ⟨by kernel_rfl, fun w hw => by obtain ⟨s0, s1, s2, s3, s4⟩ := hw; go_simp⟩) hHeld ?_
   try simp only [Act.put, zA, zB, zC, zD, zE, zF]
   refine wpAnyH_take (i := 6) (v := .pointer (some ⟨kb, 0, none⟩)) rfl (by kernel_rfl) (by kernel_rfl) (by kernel_rfl) (fun _ _ _ h => h) (Or.inl ⟨by kernel_rfl, fun w hw => by obtain ⟨s0, s1, s2, s3, s4⟩ := hw; go_simp⟩) hHeld ?_
   try simp only [Act.put, zA, zB, zC, zD, zE, zF]
   refine wpAnyH_take (i := 7) (v := .pointer (some ⟨kb, 3, none⟩)) rfl (by kernel_rfl) (by kernel_rfl) (by kernel_rfl) (fun _ _ _ h => h) (Or.inl ⟨by kernel_rfl, fun w hw => by obtain ⟨s0, s1, s2, s3, s4⟩ := hw; go_simp⟩) hHeld ?_
   try simp only [Act.put, zA, zB, zC, zD, zE, zF]
   refine wpAnyH_take (i := 8) (v := .slice (some ⟨g, 0, none⟩) 2 ac) rfl (by kernel_rfl) (by kernel_rfl) (by kernel_rfl) (fun _ _ _ h => h) (Or.inl ⟨by kernel_rfl, fun w hw => by obtain ⟨s0, s1, s2, s3, s4⟩ := hw; go_simp⟩) hHeld ?_
   try simp only [Act.put, zA, zB, zC, zD, zE, zF]
   refine wpAnyH_take (i := 10) (v := .pointer (some ⟨w2.heap.size, 2, none⟩)) rfl (by kernel_rfl) (by kernel_rfl) (by kernel_rfl) (fun _ _ _ h => h) (Or.inl ⟨by kernel_rfl, fun w hw => by obtain ⟨s0, s1, s2, s3, s4⟩ := hw; go_simp⟩) hHeld ?_
   try simp only [Act.put, zA, zB, zC, zD, zE, zF]
   refine wpAnyH_take (i := 11) (v := .func (.func (fnNo no)) #[] #[]) rfl (by kernel_rfl) (by kernel_rfl) (by kernel_rfl) (fun _ _ _ h => h) (Or.inl ⟨by kernel_rfl, fun w hw => by obtain ⟨s0, s1, s2, s3, s4⟩ := hw; go_simp⟩) hHeld ?_
   try simp only [Act.put, zA, zB, zC, zD, zE, zF]
   refine wpAnyH_take (i := 12) (v := .pointer (some ⟨w.heap.size + 1, 0, none⟩)) rfl (by kernel_rfl) (by kernel_rfl) (by kernel_rfl) (fun _ _ _ h => h) (Or.inl ⟨by kernel_rfl, fun w hw => by obtain ⟨s0, s1, s2, s3, s4⟩ := hw; go_simp⟩) hHeld ?_
   try simp only [Act.put, zA, zB, zC, zD, zE, zF]
   refine wpAnyH_take (i := 13) (v := .pointer p0) rfl (by kernel_rfl) (by kernel_rfl) (by kernel_rfl) (fun _ _ _ h => h) (Or.inl ⟨by kernel_rfl, fun w hw => by obtain ⟨s0, s1, s2, s3, s4⟩ := hw; go_simp⟩) hHeld ?_
   try simp only [Act.put, zA, zB, zC, zD, zE, zF]
   refine wpAnyH_take (i := 14) (v := .pointer (some ⟨w.heap.size + 1, 1, none⟩)) rfl (by kernel_rfl) (by kernel_rfl) (by kernel_rfl) (fun _ _ _ h => h) (Or.inl ⟨by kernel_rfl, fun w hw => by obtain ⟨s0, s1, s2, s3, s4⟩ := hw; go_simp⟩) hHeld ?_
   try simp only [Act.put, zA, zB, zC, zD, zE, zF]
   refine wpAnyH_take (i := 15) (v := .pointer p1) rfl (by kernel_rfl) (by kernel_rfl) (by kernel_rfl) (fun _ _ _ h => h) (Or.inl ⟨by kernel_rfl, fun w hw => by obtain ⟨s0, s1, s2, s3, s4⟩ := hw; go_simp⟩) hHeld ?_
   try simp only [Act.put, zA, zB, zC, zD, zE, zF]
   refine wpAnyH_take (i := 16) (v := .int .i64 (0 : Int)) rfl (by kernel_rfl) (by kernel_rfl) (by kernel_rfl) (fun _ _ _ h => h) (Or.inl ⟨by kernel_rfl, fun w hw => by obtain ⟨s0, s1, s2, s3, s4⟩ := hw; go_simp⟩) hHeld ?_
   try simp only [Act.put, zA, zB, zC, zD, zE, zF]
   refine wpAnyH_ready (rs := [9]) (by kernel_rfl) (by simp) ?_
   refine AllReadyH.cons rfl (fun K hK => ?_) AllReadyH.nil
   go_simp
   refine (texts_any _ [x, y] (some ⟨g, 0, none⟩) 2 ac (owns_later (owns_below (unhide HO) (unhide HB2)) (((Below.refl _ _).alloc (Nat.le_refl _) _).drew)) (by simp) (unhide HZZ)).mono ?_
   rintro e w6 ⟨v6, rfl, hown6, hb6⟩
   obtain ⟨o6, n6, k6, hv6⟩ := row_slice hown6
   subst hv6
   have hS6 : w6.cell? ⟨kb, 1, none⟩ = some (.string r.word.s) ∧ w6.cell? ⟨kb, 3, none⟩ = some (.slice (some ⟨g, 0, none⟩) 2 ac) ∧ w6.cell? ⟨w2.heap.size, 2, none⟩ = some (.func (.func (fnNo no)) #[] #[]) ∧ w6.cell? ⟨w.heap.size + 1, 0, none⟩ = some (.pointer p0) ∧ w6.cell? ⟨w.heap.size + 1, 1, none⟩ = some (.pointer p1) :=
    ⟨(bcell3 hb6 _ _ (by simp; omega)).trans hHeld.1, (bcell3 hb6 _ _ (by simp; omega)).trans hHeld.2.1, (bcell3 hb6 _ _ (by simp)).trans hHeld.2.2.1, (bcell3 hb6 _ _ (by simp; omega)).trans hHeld.2.2.2.1, (bcell3 hb6 _ _ (by simp; omega)).trans hHeld.2.2.2.2⟩
   refine hK.out _ _ hS6 (fun hHeld => ?_)
   clear hK K hS6
   have hbz := ((Below.refl w2.heap.size w2).alloc (Nat.le_refl _) (.cells #[.string (twB no), .slice (some ⟨tkB b no, 0, none⟩) (tkL no) (tkL no), .func (.func (fnNo no)) #[] #[]] 265)).drew.trans (hb6.mono (by simp))
   have HG0 := hide ((unhide HG0).later hbz)
   have HG1 := hide ((unhide HG1).later hbz)
   have hrb6 := (hbz.block _ hrl3).trans (unhide HRB2)
   have HB6 := hide ((unhide HB2).trans (hbz.mono (by omega)))
   have HO6 := hide (owns_mono hown6 (show w.heap.size ≤ _ by simp; omega))
   have HRB6 := hide hrb6
   have hrl6 := lt_of_blk hrb6
   have hz6 := hbz.size
   clear hb6 hown6 hbz hrb6
   have cf := callFn no hno
   refine wpAnyH_ready (rs := [17]) (by kernel_rfl) (by simp) ?_
   refine AllReadyH.cons rfl (fun K hK => ?_) AllReadyH.nil
   go_simp
   refine (tplFn_any no hno x.s y.s 0 p0 p1 _ (unhide HG0) (fun _ => unhide HG1) (by decide)).mono ?_
   rintro e w7 ⟨p7, rfl, hG7, hb7⟩
   have hS7 : w7.cell? ⟨kb, 1, none⟩ = some (.string r.word.s) ∧ w7.cell? ⟨kb, 3, none⟩ = some (.slice (some ⟨g, 0, none⟩) 2 ac) ∧ w7.cell? ⟨w2.heap.size, 2, none⟩ = some (.func (.func (fnNo no)) #[] #[]) ∧ w7.cell? ⟨w.heap.size + 1, 0, none⟩ = some (.pointer p0) ∧ w7.cell? ⟨w.heap.size + 1, 1, none⟩ = some (.pointer p1) :=
    ⟨(bcell3 hb7 _ _ (by omega)).trans hHeld.1, (bcell3 hb7 _ _ (by omega)).trans hHeld.2.1, (bcell3 hb7 _ _ (World.block_lt_of_cell? _ _ hHeld.2.2.1)).trans hHeld.2.2.1, (bcell3 hb7 _ _ (by omega)).trans hHeld.2.2.2.1, (bcell3 hb7 _ _ (by omega)).trans hHeld.2.2.2.2⟩
   refine hK.out _ _ hS7 (fun hHeld => ?_)
   clear hK K hS7
   have hrb7 := (hb7.block _ hrl6).trans (unhide HRB6)
   have rc7 := fun o => cell_of_blk hrb7 o
   have rf7 := fun o => frozen_of_blk hrb7 o
   have hrl7 := lt_of_blk hrb7
   have HG7 := hide hG7
   have HRB7 := hide hrb7
   have HO7 := hide (owns_later (unhide HO6) hb7)
   have HB7 := hide ((unhide HB6).trans (hb7.mono (by omega)))
   clear hG7 hb7 hrb7
   refine wpAnyH_take (i := 18) (v := .agg #[.string r.word.s, .slice o6 n6 k6, .pointer p7]) rfl (by kernel_rfl) (by kernel_rfl) (by kernel_rfl) (fun _ _ _ h => h) (Or.inl ⟨by kernel_rfl, fun w hw => by obtain ⟨s0, s1, s2, s3, s4⟩ := hw; go_simp⟩) hHeld ?_
   try simp only [Act.put, zA, zB, zC, zD, zE, zF]
   refine wpAnyH_ready (rs := [19]) (by kernel_rfl) (by simp) ?_
   refine AllReadyH.cons rfl (fun K hK => ?_) AllReadyH.nil
   go_simp
   have hfar : ∀ (q o : Nat) (v0 v1 v2 : Value), q ≠ w.heap.size → (((w7.setCell ⟨w.heap.size, 0, none⟩ v0).setCell ⟨w.heap.size, 1, none⟩ v1).setCell ⟨w.heap.size, 2, none⟩ v2).cell? ⟨q, o, none⟩ = w7.cell? ⟨q, o, none⟩ := fun q o v0 v1 v2 hq => by
    rw [World.cell?_setCell_far _ _ _ _ (by show w.heap.size ≠ q; omega), World.cell?_setCell_far _ _ _ _ (by show w.heap.size ≠ q; omega), World.cell?_setCell_far _ _ _ _ (by show w.heap.size ≠ q; omega)]
   refine hK.out _ _ ⟨(hfar _ _ _ _ _ (by omega)).trans hHeld.1, (hfar _ _ _ _ _ (by omega)).trans hHeld.2.1, (hfar _ _ _ _ _ (by omega)).trans hHeld.2.2.1, (hfar _ _ _ _ _ (by omega)).trans hHeld.2.2.2.1, (hfar _ _ _ _ _ (by omega)).trans hHeld.2.2.2.2⟩ (fun hHeld => ?_)
   clear hK K hfar hHeld
   refine wpAnyH_done (by kernel_rfl) ?_ _
   go_wp2_with fail
   have hfin : (((w7.setCell ⟨w.heap.size, 0, none⟩ (.string r.word.s)).setCell ⟨w.heap.size, 1, none⟩ (.slice o6 n6 k6)).setCell ⟨w.heap.size, 2, none⟩ (.pointer p7)).heap[w.heap.size]? = some (.cells #[.string r.word.s, .slice o6 n6 k6, .pointer p7] 144 (0, 0)) := blk_set (blk_set (blk_set (unhide HRB7) 0 _) 1 _) 2 _
   have rc8 := fun o => cell_of_blk hfin o
   clear rc7
   refine bodyPost_ret (v := .agg #[.string r.word.s, .slice o6 n6 k6, .pointer p7]) (by simp [results, Tryz.results118, go_sem, rc8]) rfl ?_
   have hnr : (Value.slice o6 n6 k6).ownBlock ≠ some w.heap.size := fun e => own_ty (unhide HO7) e (unhide HRB7) (by decide)
   refine ⟨(((unhide HB7).setCell (Nat.le_refl _) _).setCell (Nat.le_refl _) _).setCell (Nat.le_refl _) _, o6, n6, k6, p7, rfl, owns_keep (owns_keep (owns_keep (unhide HO7) (grown_set _ _ _ _) (Or.inr hnr)) (grown_set _ _ _ _) (Or.inr hnr)) (grown_set _ _ _ _) (Or.inr hnr), ?_⟩
   have hG8 := setG (o := 2) (v := .pointer p7) (blk_set (blk_set (unhide HRB7) 0 (.string r.word.s)) 1 (.slice o6 n6 k6)) (by decide) (setG (o := 1) (v := .slice o6 n6 k6) (blk_set (unhide HRB7) 0 (.string r.word.s)) (by decide) (setG (o := 0) (v := .string r.word.s) (unhide HRB7) (by decide) (unhide HG7)))
   rw [unhide HNOE]
   exact hG8
def CallK (r : Rl) : Prop :=
 (tplNo r.word.s.toList ≤ 1 ∧ ∃ x, r.args = [x] ∧ x.k = 2) ∨
 ((2 ≤ tplNo r.word.s.toList ∧ tplNo r.word.s.toList ≤ 3) ∧ ∃ x y, r.args = [x, y] ∧ x.k = 2 ∧ y.k = 3 ∧ ∃ d : UInt8, y.s = ⟨#[d]⟩ ∧ 48 ≤ d.toNat ∧ d.toNat ≤ 57) ∨
 ((4 ≤ tplNo r.word.s.toList ∧ tplNo r.word.s.toList ≤ 11) ∧ ∃ x y, r.args = [x, y] ∧ x.k = 2 ∧ y.k = 2)
theorem buildCall_any (w : World) (r : Rl) (kb : Nat) (ao : Option Addr) (an ac : Nat) (xx : Tk) (hk : w.heap[kb]? = some (cbl r.word ao an ac xx)) (ho : w.ownsRow 0 201 3 (.slice ao an ac) r.args.length (tkCellsP r.args)) (hc : r.call = true) (h : CallK r) (hz : ∀ t ∈ r.args, t.s.size ≤ 400) :
  Calls Tryz.prog 118 #[.pointer (some ⟨kb, 0, none⟩)] w fun e w' => BcPost w w' r.word.s r.args (ruleF r) e := by
 obtain ⟨han, hrow⟩ := row_tkP ho
 unfold ruleF
 rw [if_pos hc]
 rcases h with ⟨hn, x, ha, hx⟩ | ⟨hn, x, y, ha, hx, hy, d, hd, hd1, hd2⟩ | ⟨hn, x, y, ha, hx, hy⟩
 ·obtain ⟨g, hg, _⟩ := hrow (by rw [ha]; simp)
  subst hg
  rw [ha] at ho han ⊢
  have han' : an = 1 := han
  subst han'
  rw [tplF_low _ hn _ (argS [x] 1) ByteArray.empty (digitN (argS [x] 1)) 0]
  exact buildCall_A w r kb g ac xx x hk ho hx hn (ha ▸ hz)
 ·obtain ⟨g, hg, _⟩ := hrow (by rw [ha]; simp)
  subst hg
  rw [ha] at ho han ⊢
  have han' : an = 2 := han
  subst han'
  have hdn : digitN (argS [x, y] 1) = d.toNat - 48 := by show digitN y.s = _; rw [hd]; rfl
  rw [hdn, tplF_mid _ hn _ (argS [x, y] 1) ByteArray.empty]
  exact buildCall_B w r kb g ac xx x y hk ho d hx hy hd hd1 hd2 hn (ha ▸ hz)
 ·obtain ⟨g, hg, _⟩ := hrow (by rw [ha]; simp)
  subst hg
  rw [ha] at ho han ⊢
  have han' : an = 2 := han
  subst han'
  rw [tplF_high _ hn _ _ (digitN (argS [x, y] 1)) 0]
  exact buildCall_C w r kb g ac xx x y hk ho hx hy hn (ha ▸ hz)
def KB (w w' : World) : Prop := ∀ (b : Nat) (c : Array Value) (ty : Nat) (m : Nat × Nat), w.heap[b]? = some (.cells c ty m) → (ty = 9 ∨ ty = 270) → w'.heap[b]? = some (.cells c ty m)
theorem KB.trans {w w1 w2 : World} (h : KB w w1) (h' : KB w1 w2) : KB w w2 := fun b c ty m hb ht => h' b c ty m (h b c ty m hb ht) ht
theorem KB.below {w w' : World} (h : Below w.heap.size w w') : KB w w' := fun b _ _ _ hb _ => (h.block b (lt_of_blk hb)).trans hb
theorem KB.grown {w w' : World} {row : Option Nat} (h : w.grownBy w' row) (hr : ∀ k, row = some k → ¬ TyAt w k 9 ∧ ¬ TyAt w k 270) : KB w w' := fun b c ty m hb ht =>
 (h.block b (lt_of_blk hb) (by
  intro e
  obtain ⟨h1, h2⟩ := hr b e.symm
  rcases ht with rfl | rfl
  ·exact h1 ⟨c, m, hb⟩
  ·exact h2 ⟨c, m, hb⟩)).trans hb
theorem KB.set {w : World} {b ty : Nat} {c : Array Value} {m : Nat × Nat} (hb : w.heap[b]? = some (.cells c ty m)) (h1 : ty ≠ 9) (h2 : ty ≠ 270) (o : Nat) (v : Value) : KB w (w.setCell ⟨b, o, none⟩ v) :=
 KB.grown (grown_set w b o v) (fun k e => by cases e; exact ⟨ty_ne hb h1, ty_ne hb h2⟩)
theorem KB.row {w w' : World} {base n : Nat} {v : Value} {xs : List Value} (ho : w.ownsRow base 144 3 v n xs) (hg : w.grownBy w' v.ownBlock) : KB w w' :=
 KB.grown hg (fun k e => by
  obtain ⟨_, c, m, hk⟩ := own_is ho e
  exact ⟨ty_ne hk (by decide), ty_ne hk (by decide)⟩)
theorem KB.owns {w w' : World} (h : KB w w') {base size n : Nat} {v : Value} {xs : List Value} (ho : w.ownsRow base 9 size v n xs) : w'.ownsRow base 9 size v n xs := by
 obtain ⟨h1, h2⟩ := ho
 refine ⟨h1, ?_⟩
 rcases h2 with h2 | ⟨g, cap, cur, hv, hg, hh, r⟩
 ·exact Or.inl h2
 ·exact Or.inr ⟨g, cap, cur, hv, hg, h _ _ _ _ hh (Or.inl rfl), r⟩
theorem KB.isG {w w' : World} (h : KB w w') {f : Fm} {v : Option Addr} (hf : IsG w f v) : IsG w' f v :=
 hf.keep (fun b c m hb => (h b c _ m hb (Or.inr rfl)).trans hb.symm)
def BuR (w : World) (r : Rl) (wd : ByteArray) (ao : Option Addr) (an ac : Nat) (p : Option Addr) : Prop :=
 IsG w (ruleF r) p ∧ (if r.call = true then wd = r.word.s ∧ w.ownsRow 0 9 1 (.slice ao an ac) r.args.length (strC r.args) else wd = ByteArray.empty)
theorem BuR.keep {w w' : World} (h : KB w w') {r : Rl} {wd : ByteArray} {ao : Option Addr} {an ac : Nat} {p : Option Addr} (hr : BuR w r wd ao an ac p) : BuR w' r wd ao an ac p := by
 obtain ⟨h1, h2⟩ := hr
 refine ⟨h.isG h1, ?_⟩
 by_cases hc : r.call = true
 ·rw [if_pos hc] at h2 ⊢; exact ⟨h2.1, h.owns h2.2⟩
 ·rw [if_neg hc] at h2 ⊢; exact h2
def BuP (w : World) : List Rl → List Value → Prop
 | [], cs => cs = []
 | r :: rs, cs => ∃ wd ao an ac p rest, cs = .string wd :: .slice ao an ac :: .pointer p :: rest ∧ BuR w r wd ao an ac p ∧ BuP w rs rest
theorem BuP.keep {w w' : World} (h : KB w w') : ∀ {rs : List Rl} {cs : List Value}, BuP w rs cs → BuP w' rs cs
 | [], _, h1 => h1
 | _ :: _, _, ⟨wd, ao, an, ac, p, rest, e, hr, hrs⟩ => ⟨wd, ao, an, ac, p, rest, e, hr.keep h, BuP.keep h hrs⟩
theorem BuP.snoc {w : World} : ∀ {rs : List Rl} {cs : List Value} {r : Rl} {wd : ByteArray} {ao : Option Addr} {an ac : Nat} {p : Option Addr}, BuP w rs cs → BuR w r wd ao an ac p → BuP w (rs ++ [r]) (cs ++ [.string wd, .slice ao an ac, .pointer p])
 | [], _, _, wd, ao, an, ac, p, h, hr => by cases h; exact ⟨wd, ao, an, ac, p, [], rfl, hr, rfl⟩
 | _ :: _, _, _, wd', ao', an', ac', p', ⟨wd, ao, an, ac, p, rest, e, h1, h2⟩, hr => ⟨wd, ao, an, ac, p, rest ++ [.string wd', .slice ao' an' ac', .pointer p'], by subst e; rfl, h1, BuP.snoc h2 hr⟩
theorem BuP.at {w : World} : ∀ {rs : List Rl} {cs : List Value} (k : Nat) {r : Rl} {rr : List Rl}, BuP w rs cs → rs.drop k = r :: rr → ∃ wd ao an ac p, cs[k * 3]? = some (.string wd) ∧ cs[k * 3 + 1]? = some (.slice ao an ac) ∧ cs[k * 3 + 2]? = some (.pointer p) ∧ BuR w r wd ao an ac p
 | [], _, _, _, _, _, h => by simp at h
 | _ :: _, _, 0, _, _, ⟨wd, ao, an, ac, p, rest, e, h1, _⟩, h => by cases h; subst e; exact ⟨wd, ao, an, ac, p, rfl, rfl, rfl, h1⟩
 | _ :: _, _, k + 1, _, _, ⟨_, _, _, _, _, rest, e, _, h2⟩, h => by
  obtain ⟨wd, ao, an, ac, p, g0, g1, g2, g3⟩ := BuP.at k h2 (by simpa using h)
  subst e
  have e0 : (k + 1) * 3 = k * 3 + 3 := by omega
  refine ⟨wd, ao, an, ac, p, ?_, ?_, ?_, g3⟩
  ·rw [e0]; exact g0
  ·rw [e0]; exact g1
  ·rw [e0]; exact g2
theorem Tryz.infoRu : (Tryz.prog.info? 144).map (fun i => (i.zero, i.size, i.bytes)) = some (some (.agg #[.string ⟨#[]⟩, .slice none 0 0, .pointer none]), 3, 48) := by kernel_rfl
def BuPost (w w' : World) (al : List Tk) (rs : List Rl) (e : Ending) : Prop :=
 Below w.heap.size w w' ∧ ∃ a1 a2 a3 m1 m2 m3 cells, e = .returned (.agg #[.slice a1 a2 a3, .slice m1 m2 m3]) ∧ w'.ownsRow 0 9 1 (.slice a1 a2 a3) al.length (strC al) ∧ w'.ownsRow 0 144 3 (.slice m1 m2 m3) rs.length cells ∧ BuP w' rs cells
structure BS (w wr : World) (mb : Nat) (al : List Tk) (rs : List Rl) (a1 : Option Addr) (a2 a3 : Nat) (o1 : Option Addr) (n1 k1 : Nat) (o2 : Option Addr) (n2 k2 : Nat) (m1 : Option Addr) (m2 m3 : Nat) (cells : List Value) : Prop where
 low : Below w.heap.size w wr
 sx : wr.heap[w.heap.size]? = some (sbl o1 n1 k1 o2 n2 k2)
 rx : wr.heap[w.heap.size + 1]? = some (.cells #[.slice none 0 0, .slice none 0 0] 78 (0, 0))
 mx : wr.heap[mb]? = some (.cells #[.slice a1 a2 a3, .slice m1 m2 m3] 78 (0, 0))
 ac : wr.ownsRow w.heap.size 9 1 (.slice a1 a2 a3) al.length (strC al)
 ru : wr.ownsRow w.heap.size 144 3 (.slice m1 m2 m3) rs.length cells
 bp : BuP wr rs cells
theorem BS.later {w wr wr' : World} {mb : Nat} {al : List Tk} {rs : List Rl} {a1 : Option Addr} {a2 a3 : Nat} {o1 : Option Addr} {n1 k1 : Nat} {o2 : Option Addr} {n2 k2 : Nat} {m1 : Option Addr} {m2 m3 : Nat} {cells : List Value} (h : BS w wr mb al rs a1 a2 a3 o1 n1 k1 o2 n2 k2 m1 m2 m3 cells) (hb : Below wr.heap.size wr wr') : BS w wr' mb al rs a1 a2 a3 o1 n1 k1 o2 n2 k2 m1 m2 m3 cells :=
 ⟨h.low.trans (hb.mono h.low.size), (hb.block _ (lt_of_blk h.sx)).trans h.sx, (hb.block _ (lt_of_blk h.rx)).trans h.rx, (hb.block _ (lt_of_blk h.mx)).trans h.mx, owns_later h.ac hb, owns_later h.ru hb, h.bp.keep (KB.below hb)⟩
theorem BS.add {w wr w2 : World} {mb : Nat} {al : List Tk} {rs : List Rl} {a1 : Option Addr} {a2 a3 : Nat} {o1 : Option Addr} {n1 k1 : Nat} {o2 : Option Addr} {n2 k2 : Nat} {m1 : Option Addr} {m2 m3 : Nat} {cells : List Value} (h : BS w wr mb al rs a1 a2 a3 o1 n1 k1 o2 n2 k2 m1 m2 m3 cells)
  (hmb : w.heap.size + 1 < mb) {q1 : Option Addr} {q2 q3 : Nat} {r : Rl} {wd : ByteArray} {ao : Option Addr} {an ac : Nat} {p : Option Addr} (hr : BuR wr r wd ao an ac p) (hg : wr.grownBy w2 (Value.slice m1 m2 m3).ownBlock) (ho : w2.ownsRow w.heap.size 144 3 (.slice q1 q2 q3) (rs.length + 1) (cells ++ [.string wd, .slice ao an ac, .pointer p])) :
  BS w (w2.setCell ⟨mb, 1, none⟩ (.slice q1 q2 q3)) mb al (rs ++ [r]) a1 a2 a3 o1 n1 k1 o2 n2 k2 q1 q2 q3 (cells ++ [.string wd, .slice ao an ac, .pointer p]) := by
 have hm2 := (hg.block mb (lt_of_blk h.mx) (fun e => own_ty h.ru e.symm h.mx (by decide))).trans h.mx
 have hkb : KB wr (w2.setCell ⟨mb, 1, none⟩ (.slice q1 q2 q3)) := (KB.row h.ru hg).trans (KB.set hm2 (by decide) (by decide) _ _)
 refine ⟨(h.low.grown hg h.low.size (fun k hk => (own_lt h.ru k hk).1)).setCell (by show w.heap.size ≤ mb; omega) _, ?_, ?_, blk_set hm2 1 _, hkb.owns h.ac, ?_, BuP.snoc (h.bp.keep hkb) (hr.keep hkb)⟩
 ·exact (Below.heap_setCell _ _ _ _ (by show w.heap.size ≠ mb; omega)).trans ((hg.block _ (lt_of_blk h.sx) (fun e => own_ty h.ru e.symm h.sx (by decide))).trans h.sx)
 ·exact (Below.heap_setCell _ _ _ _ (by show w.heap.size + 1 ≠ mb; omega)).trans ((hg.block _ (lt_of_blk h.rx) (fun e => own_ty h.ru e.symm h.rx (by decide))).trans h.rx)
 ·rw [List.length_append]
  exact owns_keep ho (grown_set _ _ _ _) (Or.inr (fun e => own_ty ho e hm2 (by decide)))
set_option maxHeartbeats 8000000 in
set_option maxRecDepth 100000 in
theorem build_any (w : World) (al : List Tk) (rs : List Rl) (o1 : Option Addr) (n1 k1 : Nat) (o2 : Option Addr) (n2 k2 : Nat) (cells : List Value) (ha : w.ownsRow 0 201 3 (.slice o1 n1 k1) al.length (tkCellsP al)) (hr : w.ownsRow 0 205 6 (.slice o2 n2 k2) rs.length cells) (hp : RulesP w rs cells) (hg : ∀ r ∈ rs, r.call = true → CallK r) (hal : al.length ≤ 401) (hrs : rs.length ≤ 401) (hza : ∀ t ∈ al, t.s.size ≤ 400) (hzr : ∀ r ∈ rs, ∀ t ∈ r.args, t.s.size ≤ 400) :
  Calls Tryz.prog 71 #[.agg #[.slice o1 n1 k1, .slice o2 n2 k2]] w fun e w' => BuPost w w' al rs e := by
 obtain ⟨m0, hm0, hmz0, hmz1, hmz2⟩ := info_parts Tryz.infoRu
 obtain ⟨hn2, hrow2⟩ := row_ruP hr
 have hn2a : n2 ≤ rs.length := by omega
 have hn2b : rs.length ≤ n2 := by omega
 have HA := hide ha
 have HZA := hide hza
 have HZR := hide hzr
 clear hza hzr
 have HROW2 := hide hrow2
 have HP := hide hp
 have HGD := hide hg
 clear ha hr hp hg hn2 hrow2
 go_enter Tryz.func71, Tryz.ntmps71
 go_wp2_with fail
 refine (texts_any _ al o1 n1 k1 (owns_later (unhide HA) (((Below.refl _ _).alloc (Nat.le_refl _) _).alloc (by simp) _)) hal (unhide HZA)).mono ?_
 rintro e w1 ⟨v1, rfl, hown1, hb1⟩
 obtain ⟨a1, a2, a3, hv1⟩ := row_slice hown1
 subst hv1
 have hsx1 : w1.heap[w.heap.size]? = some (sbl o1 n1 k1 o2 n2 k2) := (hb1.block _ (by simp; omega)).trans ((Below.heap_alloc _ _ _ (by simp)).trans (blk_alloc _ _))
 have hrx1 : w1.heap[w.heap.size + 1]? = some (.cells #[.slice none 0 0, .slice none 0 0] 78 (0, 0)) := (hb1.block _ (by simp)).trans (blk_alloc' _ _ _ (by simp))
 have hlow1 : Below w.heap.size w w1 := (((Below.refl _ _).alloc (Nat.le_refl _) _).alloc (by simp) _).trans (hb1.mono (by simp; omega))
 have hmb : w.heap.size + 1 < w1.heap.size := lt_of_blk hrx1
 have HBS : Hid (BS w (w1.alloc (.cells #[.slice a1 a2 a3, .slice none 0 0] 78)) w1.heap.size al [] a1 a2 a3 o1 n1 k1 o2 n2 k2 none 0 0 []) :=
  ⟨hlow1.alloc (by omega) _, (Below.heap_alloc _ _ _ (by omega)).trans hsx1, (Below.heap_alloc _ _ _ hmb).trans hrx1, blk_alloc _ _, (owns_mono hown1 (by simp; omega)).alloc _, World.ownsRow_nil _ _ _ _, rfl⟩
 have hsl1 : w.heap.size < w1.heap.size := by omega
 have sc := fun o => cell_of_blk (show w1.heap[w.heap.size]? = some (.cells #[.slice o1 n1 k1, .slice o2 n2 k2] 128 (0, 0)) from hsx1) o
 clear hown1 hb1 hsx1 hrx1 hlow1
 generalize hmbe : w1.heap.size = mb at *
 go_wp2_with fail
 clear sc
 subst hmbe
 go_loopw [13] (fun i wr => ∃ (k : Nat) (m1 : Option Addr) (m2 m3 : Nat) (cs : List Value), i = .int .i64 (k : Int) ∧ k ≤ rs.length ∧ BS w wr w1.heap.size al (rs.take k) a1 a2 a3 o1 n1 k1 o2 n2 k2 m1 m2 m3 cs) (fun i _ => rs.length - (intOf i).toNat)
 case atStart => exact ⟨0, none, 0, 0, [], rfl, Nat.zero_le _, unhide HBS⟩
 case round =>
  clear HBS
  obtain ⟨k, m1, m2, m3, cs, rfl, hkk, hbs⟩ := hrel
  have HBS := hide hbs
  have hwl := hbs.low.size
  have hml := lt_of_blk hbs.mx
  have mc := fun o => cell_of_blk hbs.mx o
  have mf := fun o => frozen_of_blk hbs.mx o
  generalize w1.heap.size = mb at *
  by_cases hlt : k < rs.length
  ·obtain ⟨r, rr, ht⟩ : ∃ r rr, rs.drop k = r :: rr := by
    cases hd : rs.drop k with
    | nil => have := congrArg List.length hd; simp at this; omega
    | cons r rr => exact ⟨r, rr, rfl⟩
   obtain ⟨g, hno, hle, hcap, cur, hc1, hc2⟩ := unhide HROW2 (by omega)
   unfold maxLen at hcap
   have hgl0 := lt_of_blk hc1
   obtain ⟨kk, s, fp, no, nn, nc, cp, g0, g1, g2, g3, g4, g5, g6⟩ := rulesP_at k (unhide HP) ht
   have hcw := (hbs.low.block _ hgl0).trans hc1
   have d0 := (cell_of_blk hcw (k * 6)).trans (take_at (k := k * 6) (o := 0) hc2 (by omega) g0)
   have d1 := (cell_of_blk hcw (k * 6 + 1)).trans (take_at hc2 (by omega) g1)
   have d2 := (cell_of_blk hcw (k * 6 + 2)).trans (take_at hc2 (by omega) g2)
   have d3 := (cell_of_blk hcw (k * 6 + 3)).trans (take_at hc2 (by omega) g3)
   have d4 := (cell_of_blk hcw (k * 6 + 4)).trans (take_at hc2 (by omega) g4)
   have d5 := (cell_of_blk hcw (k * 6 + 5)).trans (take_at hc2 (by omega) g5)
   have hgl : g < wr.heap.size := by omega
   subst hno
   have HRS := hide g6
   have HLOW := hide hbs.low
   have HTS := hide (take_snoc ht)
   have htl : (rs.take k).length = k := by simp; omega
   have HTL := hide htl
   have hkn : (k : Int) < (n2 : Int) := by omega
   have HGR := hide (unhide HGD r (List.mem_of_mem_drop (by rw [ht]; exact List.mem_cons_self)))
   have HZT := hide (unhide HZR r (List.mem_of_mem_drop (by rw [ht]; exact List.mem_cons_self)))
   clear hbs ht hc1 hc2 hcw cur g0 g1 g2 g3 g4 g5 g6 htl
   by_cases hcall : r.call = true
   ·have hrs := unhide HRS
    unfold RsIs at hrs
    rw [if_pos hcall] at hrs
    obtain ⟨⟨kb, ao, an, ac, xx, hcp, hkx, hxx, hao⟩, -⟩ := hrs
    subst hcp
    have HBC := hide (fun W (hW : Below w.heap.size w W) => buildCall_any W r kb ao an ac xx ((hW.block _ (lt_of_blk hkx)).trans hkx) (owns_later hao hW) hcall (unhide HGR hcall) (unhide HZT))
    have HCALL := hide hcall
    clear hkx hxx hao hcall
    go_wp2_with fail
    refine wp_region_held_drew (S := fun w' => w'.cell? ⟨wr.heap.size, 5, none⟩ = some (.pointer (some ⟨kb, 0, none⟩))) (by kernel_rfl) ?_ (fun hHeld => ?_)
    ·exact cell_of_blk (blk_alloc _ _) 5
    refine wpAnyH_take (i := 0) (v := .pointer (some ⟨mb, 1, none⟩)) rfl (by kernel_rfl) (by kernel_rfl) (by kernel_rfl) (fun _ _ _ h => h) (Or.inl ⟨by kernel_rfl, fun w hw => by have s0 := hw; go_simp⟩) hHeld ?_
    try simp only [Act.put, zA, zB, zC, zD, zE, zF]
    refine wpAnyH_take (i := 2) (v := .pointer (some ⟨wr.heap.size, 5, none⟩)) rfl (by kernel_rfl) (by kernel_rfl) (by kernel_rfl) (fun _ _ _ h => h) (Or.inl ⟨by kernel_rfl, fun w hw => by have s0 := hw; go_simp⟩) hHeld ?_
    try simp only [Act.put, zA, zB, zC, zD, zE, zF]
    refine wpAnyH_take (i := 3) (v := .pointer (some ⟨kb, 0, none⟩)) rfl (by kernel_rfl) (by kernel_rfl) (by kernel_rfl) (fun _ _ _ h => h) (Or.inl ⟨by kernel_rfl, fun w hw => by have s0 := hw; go_simp⟩) hHeld ?_
    try simp only [Act.put, zA, zB, zC, zD, zE, zF]
    refine wpAnyH_ready (rs := [1, 4]) (by kernel_rfl) (by simp) ?_
    refine AllReadyH.cons rfl (fun K hK => ?_) (AllReadyH.cons rfl (fun K hK => ?_) AllReadyH.nil)
    ·go_simp
     refine hK.out _ _ hHeld (fun hHeld => ?_)
     clear hK K
     refine wpAnyH_ready (rs := [4]) (by kernel_rfl) (by simp) ?_
     refine AllReadyH.cons rfl (fun K hK => ?_) AllReadyH.nil
     go_simp
     refine (unhide HBC _ (((unhide HLOW).alloc hwl _).drew)).mono ?_
     rintro e w3 ⟨hb3, co, cn, cc, cp3, rfl, hown3, hG3⟩
     refine hK.out _ _ ((bcell3 hb3 _ _ (by simp)).trans hHeld) (fun hHeld => ?_)
     clear hK K
     have hbz := ((Below.refl wr.heap.size wr).alloc (Nat.le_refl _) (.cells #[.int .i64 kk, .string s, .int .i64 r.pl, .pointer fp, .slice no nn nc, .pointer (some ⟨kb, 0, none⟩)] 205)).drew.trans (hb3.mono (by simp))
     have hbs3 := (unhide HBS).later hbz
     have HBS3 := hide hbs3
     have mc3 := fun o => cell_of_blk hbs3.mx o
     have hml3 := lt_of_blk hbs3.mx
     have HBR3 : Hid (BuR w3 r r.word.s co cn cc cp3) := ⟨hG3, by rw [if_pos (unhide HCALL)]; exact ⟨rfl, owns_mono hown3 (Nat.zero_le _)⟩⟩
     have hwl3 := hbs3.low.size
     have hxl3 : wr.heap.size < w3.heap.size := World.block_lt_of_cell? _ _ hHeld
     clear hb3 hown3 hG3 hbz hbs3 mc mf
     refine wpAnyH_ready (rs := [5]) (by kernel_rfl) (by simp) ?_
     refine AllReadyH.cons rfl (fun K hK => ?_) AllReadyH.nil
     go_simp
     refine hK.out _ _ (by show (World.alloc _ _).cell? _ = _; rw [World.cell?_alloc_lt _ _ _ hxl3]; exact hHeld) (fun hHeld => ?_)
     clear hK K
     refine wpAnyH_ready (rs := [6]) (by kernel_rfl) (by simp) ?_
     refine AllReadyH.cons rfl (fun K hK => ?_) AllReadyH.nil
     refine step_append_lies _ (by rfl) _ _ 76 (by rfl) w.heap.size 144 m0 (.agg #[.string ⟨#[]⟩, .slice none 0 0, .pointer none]) 3 48 Tryz.underlying76 hm0 hmz0 hmz1 hmz2 rfl (by decide) (.slice m1 m2 m3) k cs (by rfl) ?c0 ⟨w3.heap.size, 0, none⟩ 1 1 [.string r.word.s, .slice co cn cc, .pointer cp3] (by rfl) rfl ?c1 ?c2 (by decide) ?c3 ?c4 ?c5 (w3.heap.size + 1) (by simp) ?_
     case c0 => have := (unhide HBS3).ru.alloc (.cells #[.string r.word.s, .slice co cn cc, .pointer cp3] 144); rw [unhide HTL] at this; exact this
     case c1 =>
      intro j u hj
      match j, hj with
      | 0, hj => simp at hj; subst hj; simp [Addr.add]
      | 1, hj => simp at hj; subst hj; simp [Addr.add]
      | 2, hj => simp at hj; subst hj; simp [Addr.add]
      | j + 3, hj => simp at hj
     case c2 => intro u hu; simp at hu; rcases hu with rfl | rfl | rfl <;> rfl
     case c3 => unfold maxLen; omega
     case c4 => omega
     case c5 => simp; omega
     intro g4 cap4 w4 hown4 hgrow4 hat4 hlt4
     have hS4 : w4.cell? ⟨wr.heap.size, 5, none⟩ = some (.pointer (some ⟨kb, 0, none⟩)) := by
      rw [World.cell?_of_block (a := ⟨wr.heap.size, 5, none⟩) (hgrow4.block wr.heap.size (by simp; omega) (fun e => by have := own_lt (unhide HBS).ru _ e.symm; omega))]
      exact hHeld
     refine hK.out _ _ hS4 (fun hHeld => ?_)
     clear hK K hS4
     have hbs4 := ((unhide HBS3).later ((Below.refl _ _).alloc (Nat.le_refl _) _)).add hmb ((unhide HBR3).keep (KB.below ((Below.refl _ _).alloc (Nat.le_refl _) _))) hgrow4 (by rw [unhide HTL]; exact hown4)
     have hm4 := (hgrow4.block mb (by simp; omega) (fun e => own_ty (unhide HBS3).ru e.symm (unhide HBS3).mx (by decide))).trans ((Below.heap_alloc _ _ _ hml3).trans (unhide HBS3).mx)
     have mc4 := fun o => cell_of_blk hm4 o
     have mf4 := fun o => frozen_of_blk hm4 o
     have hml4 := lt_of_blk hm4
     have HBS4 := hide hbs4
     clear hbs4 hown4 hgrow4 hm4 mc3
     refine wpAnyH_take (i := 7) (v := .pointer (some ⟨mb, 1, none⟩)) rfl (by kernel_rfl) (by kernel_rfl) (by kernel_rfl) (fun _ _ _ h => h) (Or.inl ⟨by kernel_rfl, fun w hw => by have s0 := hw; go_simp⟩) hHeld ?_
     try simp only [Act.put, zA, zB, zC, zD, zE, zF]
     refine wpAnyH_ready (rs := [8]) (by kernel_rfl) (by simp) ?_
     refine AllReadyH.cons rfl (fun K hK => ?_) AllReadyH.nil
     go_simp
     refine hK.out _ _ (by show (World.setCell _ _ _).cell? _ = _; rw [World.cell?_setCell_far _ _ _ _ (by show mb ≠ wr.heap.size; omega)]; exact hHeld) (fun hHeld => ?_)
     clear hK K hHeld mc4 mf4
     refine wpAnyH_done (by kernel_rfl) ?_ _
     go_wp2_with fail
     go_roundw
     case rel => exact ⟨k + 1, _, _, _, _, by go_num, by omega, by rw [unhide HTS]; exact unhide HBS4⟩
     case measure => simp [intOf]; omega
    ·go_simp
     refine (unhide HBC _ (((unhide HLOW).alloc hwl _).drew)).mono ?_
     rintro e w3 ⟨hb3, co, cn, cc, cp3, rfl, hown3, hG3⟩
     refine hK.out _ _ ((bcell3 hb3 _ _ (by simp)).trans hHeld) (fun hHeld => ?_)
     clear hK K
     have hbz := ((Below.refl wr.heap.size wr).alloc (Nat.le_refl _) (.cells #[.int .i64 kk, .string s, .int .i64 r.pl, .pointer fp, .slice no nn nc, .pointer (some ⟨kb, 0, none⟩)] 205)).drew.trans (hb3.mono (by simp))
     have hbs3 := (unhide HBS).later hbz
     have HBS3 := hide hbs3
     have mc3 := fun o => cell_of_blk hbs3.mx o
     have hml3 := lt_of_blk hbs3.mx
     have HBR3 : Hid (BuR w3 r r.word.s co cn cc cp3) := ⟨hG3, by rw [if_pos (unhide HCALL)]; exact ⟨rfl, owns_mono hown3 (Nat.zero_le _)⟩⟩
     have hwl3 := hbs3.low.size
     have hxl3 : wr.heap.size < w3.heap.size := World.block_lt_of_cell? _ _ hHeld
     clear hb3 hown3 hG3 hbz hbs3 mc mf
     refine wpAnyH_ready (rs := [1, 5]) (by kernel_rfl) (by simp) ?_
     refine AllReadyH.cons rfl (fun K hK => ?_) (AllReadyH.cons rfl (fun K hK => ?_) AllReadyH.nil)
     ·go_simp
      refine hK.out _ _ hHeld (fun hHeld => ?_)
      clear hK K
      refine wpAnyH_ready (rs := [5]) (by kernel_rfl) (by simp) ?_
      refine AllReadyH.cons rfl (fun K hK => ?_) AllReadyH.nil
      go_simp
      refine hK.out _ _ (by show (World.alloc _ _).cell? _ = _; rw [World.cell?_alloc_lt _ _ _ hxl3]; exact hHeld) (fun hHeld => ?_)
      clear hK K
      refine wpAnyH_ready (rs := [6]) (by kernel_rfl) (by simp) ?_
      refine AllReadyH.cons rfl (fun K hK => ?_) AllReadyH.nil
      refine step_append_lies _ (by rfl) _ _ 76 (by rfl) w.heap.size 144 m0 (.agg #[.string ⟨#[]⟩, .slice none 0 0, .pointer none]) 3 48 Tryz.underlying76 hm0 hmz0 hmz1 hmz2 rfl (by decide) (.slice m1 m2 m3) k cs (by rfl) ?c0 ⟨w3.heap.size, 0, none⟩ 1 1 [.string r.word.s, .slice co cn cc, .pointer cp3] (by rfl) rfl ?c1 ?c2 (by decide) ?c3 ?c4 ?c5 (w3.heap.size + 1) (by simp) ?_
      case c0 => have := (unhide HBS3).ru.alloc (.cells #[.string r.word.s, .slice co cn cc, .pointer cp3] 144); rw [unhide HTL] at this; exact this
      case c1 =>
       intro j u hj
       match j, hj with
       | 0, hj => simp at hj; subst hj; simp [Addr.add]
       | 1, hj => simp at hj; subst hj; simp [Addr.add]
       | 2, hj => simp at hj; subst hj; simp [Addr.add]
       | j + 3, hj => simp at hj
      case c2 => intro u hu; simp at hu; rcases hu with rfl | rfl | rfl <;> rfl
      case c3 => unfold maxLen; omega
      case c4 => omega
      case c5 => simp; omega
      intro g4 cap4 w4 hown4 hgrow4 hat4 hlt4
      have hS4 : w4.cell? ⟨wr.heap.size, 5, none⟩ = some (.pointer (some ⟨kb, 0, none⟩)) := by
       rw [World.cell?_of_block (a := ⟨wr.heap.size, 5, none⟩) (hgrow4.block wr.heap.size (by simp; omega) (fun e => by have := own_lt (unhide HBS).ru _ e.symm; omega))]
       exact hHeld
      refine hK.out _ _ hS4 (fun hHeld => ?_)
      clear hK K hS4
      have hbs4 := ((unhide HBS3).later ((Below.refl _ _).alloc (Nat.le_refl _) _)).add hmb ((unhide HBR3).keep (KB.below ((Below.refl _ _).alloc (Nat.le_refl _) _))) hgrow4 (by rw [unhide HTL]; exact hown4)
      have hm4 := (hgrow4.block mb (by simp; omega) (fun e => own_ty (unhide HBS3).ru e.symm (unhide HBS3).mx (by decide))).trans ((Below.heap_alloc _ _ _ hml3).trans (unhide HBS3).mx)
      have mc4 := fun o => cell_of_blk hm4 o
      have mf4 := fun o => frozen_of_blk hm4 o
      have hml4 := lt_of_blk hm4
      have HBS4 := hide hbs4
      clear hbs4 hown4 hgrow4 hm4 mc3
      refine wpAnyH_take (i := 7) (v := .pointer (some ⟨mb, 1, none⟩)) rfl (by kernel_rfl) (by kernel_rfl) (by kernel_rfl) (fun _ _ _ h => h) (Or.inl ⟨by kernel_rfl, fun w hw => by have s0 := hw; go_simp⟩) hHeld ?_
      try simp only [Act.put, zA, zB, zC, zD, zE, zF]
      refine wpAnyH_ready (rs := [8]) (by kernel_rfl) (by simp) ?_
      refine AllReadyH.cons rfl (fun K hK => ?_) AllReadyH.nil
      go_simp
      refine hK.out _ _ (by show (World.setCell _ _ _).cell? _ = _; rw [World.cell?_setCell_far _ _ _ _ (by show mb ≠ wr.heap.size; omega)]; exact hHeld) (fun hHeld => ?_)
      clear hK K hHeld mc4 mf4
      refine wpAnyH_done (by kernel_rfl) ?_ _
      go_wp2_with fail
      go_roundw
      case rel => exact ⟨k + 1, _, _, _, _, by go_num, by omega, by rw [unhide HTS]; exact unhide HBS4⟩
      case measure => simp [intOf]; omega
     ·go_simp
      refine hK.out _ _ (by show (World.alloc _ _).cell? _ = _; rw [World.cell?_alloc_lt _ _ _ hxl3]; exact hHeld) (fun hHeld => ?_)
      clear hK K
      refine wpAnyH_ready (rs := [1]) (by kernel_rfl) (by simp) ?_
      refine AllReadyH.cons rfl (fun K hK => ?_) AllReadyH.nil
      go_simp
      refine hK.out _ _ hHeld (fun hHeld => ?_)
      clear hK K
      refine wpAnyH_ready (rs := [6]) (by kernel_rfl) (by simp) ?_
      refine AllReadyH.cons rfl (fun K hK => ?_) AllReadyH.nil
      refine step_append_lies _ (by rfl) _ _ 76 (by rfl) w.heap.size 144 m0 (.agg #[.string ⟨#[]⟩, .slice none 0 0, .pointer none]) 3 48 Tryz.underlying76 hm0 hmz0 hmz1 hmz2 rfl (by decide) (.slice m1 m2 m3) k cs (by rfl) ?c0 ⟨w3.heap.size, 0, none⟩ 1 1 [.string r.word.s, .slice co cn cc, .pointer cp3] (by rfl) rfl ?c1 ?c2 (by decide) ?c3 ?c4 ?c5 (w3.heap.size + 1) (by simp) ?_
      case c0 => have := (unhide HBS3).ru.alloc (.cells #[.string r.word.s, .slice co cn cc, .pointer cp3] 144); rw [unhide HTL] at this; exact this
      case c1 =>
       intro j u hj
       match j, hj with
       | 0, hj => simp at hj; subst hj; simp [Addr.add]
       | 1, hj => simp at hj; subst hj; simp [Addr.add]
       | 2, hj => simp at hj; subst hj; simp [Addr.add]
       | j + 3, hj => simp at hj
      case c2 => intro u hu; simp at hu; rcases hu with rfl | rfl | rfl <;> rfl
      case c3 => unfold maxLen; omega
      case c4 => omega
      case c5 => simp; omega
      intro g4 cap4 w4 hown4 hgrow4 hat4 hlt4
      have hS4 : w4.cell? ⟨wr.heap.size, 5, none⟩ = some (.pointer (some ⟨kb, 0, none⟩)) := by
       rw [World.cell?_of_block (a := ⟨wr.heap.size, 5, none⟩) (hgrow4.block wr.heap.size (by simp; omega) (fun e => by have := own_lt (unhide HBS).ru _ e.symm; omega))]
       exact hHeld
      refine hK.out _ _ hS4 (fun hHeld => ?_)
      clear hK K hS4
      have hbs4 := ((unhide HBS3).later ((Below.refl _ _).alloc (Nat.le_refl _) _)).add hmb ((unhide HBR3).keep (KB.below ((Below.refl _ _).alloc (Nat.le_refl _) _))) hgrow4 (by rw [unhide HTL]; exact hown4)
      have hm4 := (hgrow4.block mb (by simp; omega) (fun e => own_ty (unhide HBS3).ru e.symm (unhide HBS3).mx (by decide))).trans ((Below.heap_alloc _ _ _ hml3).trans (unhide HBS3).mx)
      have mc4 := fun o => cell_of_blk hm4 o
      have mf4 := fun o => frozen_of_blk hm4 o
      have hml4 := lt_of_blk hm4
      have HBS4 := hide hbs4
      clear hbs4 hown4 hgrow4 hm4 mc3
      refine wpAnyH_take (i := 7) (v := .pointer (some ⟨mb, 1, none⟩)) rfl (by kernel_rfl) (by kernel_rfl) (by kernel_rfl) (fun _ _ _ h => h) (Or.inl ⟨by kernel_rfl, fun w hw => by have s0 := hw; go_simp⟩) hHeld ?_
      try simp only [Act.put, zA, zB, zC, zD, zE, zF]
      refine wpAnyH_ready (rs := [8]) (by kernel_rfl) (by simp) ?_
      refine AllReadyH.cons rfl (fun K hK => ?_) AllReadyH.nil
      go_simp
      refine hK.out _ _ (by show (World.setCell _ _ _).cell? _ = _; rw [World.cell?_setCell_far _ _ _ _ (by show mb ≠ wr.heap.size; omega)]; exact hHeld) (fun hHeld => ?_)
      clear hK K hHeld mc4 mf4
      refine wpAnyH_done (by kernel_rfl) ?_ _
      go_wp2_with fail
      go_roundw
      case rel => exact ⟨k + 1, _, _, _, _, by go_num, by omega, by rw [unhide HTS]; exact unhide HBS4⟩
      case measure => simp [intOf]; omega
   ·have hrs := unhide HRS
    unfold RsIs at hrs
    rw [if_neg hcall] at hrs
    obtain ⟨hcp, hfg, -⟩ := hrs
    subst hcp
    have HBR3 : Hid (BuR wr r ⟨#[]⟩ none 0 0 fp) := ⟨by unfold ruleF; rw [if_neg hcall]; exact hfg.later (unhide HLOW), by rw [if_neg hcall]; rfl⟩
    clear hfg hcall
    go_wp2_with (at_builtin; go_must (refine wpList_append_own _ rfl _ _ 76 rfl w.heap.size 144 m0 (.agg #[.string ⟨#[]⟩, .slice none 0 0, .pointer none]) 3 48 Tryz.underlying76 hm0 hmz0 hmz1 hmz2 rfl (by decide) _ k cs rfl ?c0 ⟨wr.heap.size + 1, 0, none⟩ 1 1 [.string ⟨#[]⟩, .slice none 0 0, .pointer fp] rfl rfl ?c1 ?c2 ?c3 ?c4 ?c5 ?_))
    case c0 => have := ((unhide HBS).ru.alloc (.cells #[.int .i64 kk, .string s, .int .i64 r.pl, .pointer fp, .slice no nn nc, .pointer none] 205)).alloc (.cells #[.string ⟨#[]⟩, .slice none 0 0, .pointer fp] 144); rw [unhide HTL] at this; exact this
    case c1 =>
     intro j u hj
     match j, hj with
     | 0, hj => simp at hj; subst hj; simp [Addr.add]
     | 1, hj => simp at hj; subst hj; simp [Addr.add]
     | 2, hj => simp at hj; subst hj; simp [Addr.add]
     | j + 3, hj => simp at hj
    case c2 => intro u hu; simp at hu; rcases hu with rfl | rfl | rfl <;> rfl
    case c3 => unfold maxLen; omega
    case c4 => omega
    case c5 => simp; omega
    intro v4 w4 hown4 hgrow4 _
    obtain ⟨q1, q2, q3, hv4⟩ := row_slice hown4
    subst hv4
    have hbs3 := (unhide HBS).later (((Below.refl _ _).alloc (Nat.le_refl _) (.cells #[.int .i64 kk, .string s, .int .i64 r.pl, .pointer fp, .slice no nn nc, .pointer none] 205)).alloc (by simp) (.cells #[.string ⟨#[]⟩, .slice none 0 0, .pointer fp] 144))
    have hbs4 := hbs3.add hmb ((unhide HBR3).keep (KB.below (((Below.refl _ _).alloc (Nat.le_refl _) _).alloc (by simp) _))) hgrow4 (by rw [unhide HTL]; exact hown4)
    have hm4 := (hgrow4.block mb (by simp; omega) (fun e => own_ty hbs3.ru e.symm hbs3.mx (by decide))).trans hbs3.mx
    clear mc mf
    have mc4 := fun o => cell_of_blk hm4 o
    have mf4 := fun o => frozen_of_blk hm4 o
    have hml4 := lt_of_blk hm4
    have HBS4 := hide hbs4
    clear hbs4 hbs3 hown4 hgrow4 hm4
    go_wp2_with fail
    go_roundw
    case rel => exact ⟨k + 1, _, _, _, _, by go_num, by omega, by rw [unhide HTS]; exact unhide HBS4⟩
    case measure => simp [intOf]; omega
  ·have hke : rs.length ≤ k := by omega
   have hkn : ¬ (k : Int) < (n2 : Int) := by omega
   have HFULL : Hid (BS w wr mb al rs a1 a2 a3 o1 n1 k1 o2 n2 k2 m1 m2 m3 cs) := by have := unhide HBS; rw [List.take_of_length_le hke] at this; exact this
   have rc := fun o => cell_of_blk hbs.rx o
   have rf := fun o => frozen_of_blk hbs.rx o
   have hrl := lt_of_blk hbs.rx
   clear hbs
   go_wp2_with fail
   have hb := unhide HFULL
   have hfin : ((wr.setCell ⟨w.heap.size + 1, 0, none⟩ (.slice a1 a2 a3)).setCell ⟨w.heap.size + 1, 1, none⟩ (.slice m1 m2 m3)).heap[w.heap.size + 1]? = some (.cells #[.slice a1 a2 a3, .slice m1 m2 m3] 78 (0, 0)) := blk_set (blk_set hb.rx 0 _) 1 _
   have rc2 := fun o => cell_of_blk hfin o
   clear rc
   refine bodyPost_ret (v := .agg #[.slice a1 a2 a3, .slice m1 m2 m3]) (by simp [results, Tryz.results71, go_sem, rc2]) rfl ?_
   have hkb := (KB.set hb.rx (by decide) (by decide) 0 (.slice a1 a2 a3)).trans (KB.set (blk_set hb.rx 0 (.slice a1 a2 a3)) (by decide) (by decide) 1 (.slice m1 m2 m3))
   have hnr : (Value.slice m1 m2 m3).ownBlock ≠ some (w.heap.size + 1) := fun e => own_ty hb.ru e hb.rx (by decide)
   exact ⟨(hb.low.setCell (by show w.heap.size ≤ w.heap.size + 1; omega) _).setCell (by show w.heap.size ≤ w.heap.size + 1; omega) _, a1, a2, a3, m1, m2, m3, cs, rfl, owns_mono (hkb.owns hb.ac) (Nat.zero_le _), owns_mono (owns_keep (owns_keep hb.ru (grown_set _ _ _ _) (Or.inr hnr)) (grown_set _ _ _ _) (Or.inr hnr)) (Nat.zero_le _), hb.bp.keep hkb⟩
set_option maxHeartbeats 4000000 in
set_option maxRecDepth 1000000 in
theorem text_any (Q : Tk → Prop) : ∀ (f : Fm) (w : World) (p : Option Addr), IsG w f p → Fg Q f → (txtF f).size ≤ 1000000 → GVF w →
  Calls Tryz.prog 122 #[.pointer p] w fun e w' => e = .returned (.string (txtF f)) ∧ ∃ n, w' = w.drewN n
 | .nil, w, p, _, hf, _, _ => False.elim hf
 | .node u v a l r, w, p, h, hf, hz, hG => by
  obtain ⟨b, pl, pr, rfl, hb, hl, hr⟩ := h
  have hzl : (txtF l).size ≤ 1000000 ∧ (txtF r).size ≤ 1000000 := by
   rw [txtF] at hz
   rcases hf with ⟨hk, _, rfl, rfl⟩ | ⟨hk, rfl, rfl⟩ | ⟨hk, hfl, rfl⟩ | ⟨hk, hfl, hfr⟩
   ·exact ⟨Nat.zero_le _, Nat.zero_le _⟩
   ·exact ⟨Nat.zero_le _, Nat.zero_le _⟩
   ·rw [if_neg (by omega), if_neg (by omega), if_neg (by omega), if_neg (by omega), if_pos (by omega)] at hz
    simp only [ByteArray.size_append] at hz
    exact ⟨by omega, Nat.zero_le _⟩
   ·rw [if_neg (by omega), if_neg (by omega), if_neg (by omega), if_neg (by omega), if_neg (by omega)] at hz
    simp only [ByteArray.size_append] at hz
    omega
  obtain ⟨hzl, hzr⟩ := hzl
  clear hz
  have IHL := hide (text_any Q l)
  have IHR := hide (text_any Q r)
  have HL := hide hl
  have HR := hide hr
  have HGV := hide hG
  obtain ⟨gt, gm, hg⟩ := hG.fs
  have hgl := lt_of_blk hg
  have hbl := lt_of_blk hb
  clear hl hr hG
  obtain ⟨k, s, q⟩ := a
  rcases hf with ⟨hk, _, rfl, rfl⟩ | ⟨hk, rfl, rfl⟩ | ⟨hk, hfl, rfl⟩ | ⟨hk, hfl, hfr⟩
  ·have hk' : k = 0 := hk
   subst hk'
   have hb0 : w.heap[b]? = some (.cells #[.int .i64 0, .string s, .pointer pl, .pointer pr] 270 (0, 0)) := hb
   have bc := fun o => cell_of_blk hb0 o
   clear hb hb0 hg
   go_enter Tryz.func122, Tryz.ntmps122
   go_wp2_with fail
   go_ret
   exact ⟨rfl, 0, rfl⟩
  ·have hk' : k = 1 ∨ k = 2 ∨ k = 3 := by have := hk; simp at this; omega
   rcases hk' with rfl | rfl | rfl
   ·have hb0 : w.heap[b]? = some (.cells #[.int .i64 1, .string s, .pointer pl, .pointer pr] 270 (0, 0)) := hb
    have bc := fun o => cell_of_blk hb0 o
    have fc : w.cell? ⟨0, 1, none⟩ = some (.string ⟨#[116, 114, 117, 101]⟩) := cell_of_blk hg 1
    clear hb hb0 hg
    go_enter Tryz.func122, Tryz.ntmps122
    go_wp2_with fail
    go_ret
    exact ⟨rfl, 0, rfl⟩
   ·have hb0 : w.heap[b]? = some (.cells #[.int .i64 2, .string s, .pointer pl, .pointer pr] 270 (0, 0)) := hb
    have bc := fun o => cell_of_blk hb0 o
    have fc : w.cell? ⟨0, 2, none⟩ = some (.string ⟨#[102, 97, 108, 115, 101]⟩) := cell_of_blk hg 2
    clear hb hb0 hg
    go_enter Tryz.func122, Tryz.ntmps122
    go_wp2_with fail
    go_ret
    exact ⟨rfl, 0, rfl⟩
   ·have hb0 : w.heap[b]? = some (.cells #[.int .i64 3, .string s, .pointer pl, .pointer pr] 270 (0, 0)) := hb
    have bc := fun o => cell_of_blk hb0 o
    have fc : w.cell? ⟨0, 3, none⟩ = some (.string ⟨#[101, 110, 100]⟩) := cell_of_blk hg 3
    clear hb hb0 hg
    go_enter Tryz.func122, Tryz.ntmps122
    go_wp2_with fail
    go_ret
    exact ⟨rfl, 0, rfl⟩
  ·have HFL := hide hfl
   have hk' : k = 4 ∨ k = 5 ∨ k = 6 ∨ k = 7 ∨ k = 8 := by have := hk; simp at this; omega
   clear hk hfl
   rcases hk' with rfl | rfl | rfl | rfl | rfl
   ·have hb0 : w.heap[b]? = some (.cells #[.int .i64 4, .string s, .pointer pl, .pointer pr] 270 (0, 0)) := hb
    have bc := fun o => cell_of_blk hb0 o
    have fc : w.cell? ⟨0, 4, none⟩ = some (.string ⟨#[33]⟩) := cell_of_blk hg 4
    clear hb hb0 hg
    go_enter Tryz.func122, Tryz.ntmps122
    go_wp2_with fail
    go_quiet (first | (go_at_call_of 122 (Value.pointer pl); refine Calls.quiet_of ((unhide IHL) _ _ ?_ (unhide HFL) hzl ?_); exact IsG.drewN (unhide HL) _; exact (unhide HGV).later (bdn _ _)))
    go_wp2_with fail
    go_ret
    exact ⟨rfl, nq, rfl⟩
   ·have hb0 : w.heap[b]? = some (.cells #[.int .i64 5, .string s, .pointer pl, .pointer pr] 270 (0, 0)) := hb
    have bc := fun o => cell_of_blk hb0 o
    have fc : w.cell? ⟨0, 5, none⟩ = some (.string ⟨#[88]⟩) := cell_of_blk hg 5
    clear hb hb0 hg
    go_enter Tryz.func122, Tryz.ntmps122
    go_wp2_with fail
    go_quiet (first | (go_at_call_of 122 (Value.pointer pl); refine Calls.quiet_of ((unhide IHL) _ _ ?_ (unhide HFL) hzl ?_); exact IsG.drewN (unhide HL) _; exact (unhide HGV).later (bdn _ _)))
    go_wp2_with fail
    go_ret
    exact ⟨rfl, nq, rfl⟩
   ·have hb0 : w.heap[b]? = some (.cells #[.int .i64 6, .string s, .pointer pl, .pointer pr] 270 (0, 0)) := hb
    have bc := fun o => cell_of_blk hb0 o
    have fc : w.cell? ⟨0, 6, none⟩ = some (.string ⟨#[78]⟩) := cell_of_blk hg 6
    clear hb hb0 hg
    go_enter Tryz.func122, Tryz.ntmps122
    go_wp2_with fail
    go_quiet (first | (go_at_call_of 122 (Value.pointer pl); refine Calls.quiet_of ((unhide IHL) _ _ ?_ (unhide HFL) hzl ?_); exact IsG.drewN (unhide HL) _; exact (unhide HGV).later (bdn _ _)))
    go_wp2_with fail
    go_ret
    exact ⟨rfl, nq, rfl⟩
   ·have hb0 : w.heap[b]? = some (.cells #[.int .i64 7, .string s, .pointer pl, .pointer pr] 270 (0, 0)) := hb
    have bc := fun o => cell_of_blk hb0 o
    have fc : w.cell? ⟨0, 7, none⟩ = some (.string ⟨#[70]⟩) := cell_of_blk hg 7
    clear hb hb0 hg
    go_enter Tryz.func122, Tryz.ntmps122
    go_wp2_with fail
    go_quiet (first | (go_at_call_of 122 (Value.pointer pl); refine Calls.quiet_of ((unhide IHL) _ _ ?_ (unhide HFL) hzl ?_); exact IsG.drewN (unhide HL) _; exact (unhide HGV).later (bdn _ _)))
    go_wp2_with fail
    go_ret
    exact ⟨rfl, nq, rfl⟩
   ·have hb0 : w.heap[b]? = some (.cells #[.int .i64 8, .string s, .pointer pl, .pointer pr] 270 (0, 0)) := hb
    have bc := fun o => cell_of_blk hb0 o
    have fc : w.cell? ⟨0, 8, none⟩ = some (.string ⟨#[71]⟩) := cell_of_blk hg 8
    clear hb hb0 hg
    go_enter Tryz.func122, Tryz.ntmps122
    go_wp2_with fail
    go_quiet (first | (go_at_call_of 122 (Value.pointer pl); refine Calls.quiet_of ((unhide IHL) _ _ ?_ (unhide HFL) hzl ?_); exact IsG.drewN (unhide HL) _; exact (unhide HGV).later (bdn _ _)))
    go_wp2_with fail
    go_ret
    exact ⟨rfl, nq, rfl⟩
  ·have HFL := hide hfl
   have HFR := hide hfr
   have hk' : k = 9 ∨ k = 10 ∨ k = 11 ∨ k = 12 := by have := hk; simp at this; omega
   clear hk hfl hfr
   rcases hk' with rfl | rfl | rfl | rfl
   ·have hb0 : w.heap[b]? = some (.cells #[.int .i64 9, .string s, .pointer pl, .pointer pr] 270 (0, 0)) := hb
    have bc := fun o => cell_of_blk hb0 o
    have fc : w.cell? ⟨0, 9, none⟩ = some (.string ⟨#[85]⟩) := cell_of_blk hg 9
    clear hb hb0 hg
    go_enter Tryz.func122, Tryz.ntmps122
    go_wp2_with fail
    go_quiet (first | (go_at_call_of 122 (Value.pointer pl); refine Calls.quiet_of ((unhide IHL) _ _ ?_ (unhide HFL) hzl ?_); exact IsG.drewN (unhide HL) _; exact (unhide HGV).later (bdn _ _)) | (go_at_call_of 122 (Value.pointer pr); refine Calls.quiet_of ((unhide IHR) _ _ ?_ (unhide HFR) hzr ?_); exact IsG.drewN (unhide HR) _; exact (unhide HGV).later (bdn _ _)))
    go_wp2_with fail
    go_ret
    exact ⟨rfl, nq, rfl⟩
   ·have hb0 : w.heap[b]? = some (.cells #[.int .i64 10, .string s, .pointer pl, .pointer pr] 270 (0, 0)) := hb
    have bc := fun o => cell_of_blk hb0 o
    have fc : w.cell? ⟨0, 10, none⟩ = some (.string ⟨#[38]⟩) := cell_of_blk hg 10
    clear hb hb0 hg
    go_enter Tryz.func122, Tryz.ntmps122
    go_wp2_with fail
    go_quiet (first | (go_at_call_of 122 (Value.pointer pl); refine Calls.quiet_of ((unhide IHL) _ _ ?_ (unhide HFL) hzl ?_); exact IsG.drewN (unhide HL) _; exact (unhide HGV).later (bdn _ _)) | (go_at_call_of 122 (Value.pointer pr); refine Calls.quiet_of ((unhide IHR) _ _ ?_ (unhide HFR) hzr ?_); exact IsG.drewN (unhide HR) _; exact (unhide HGV).later (bdn _ _)))
    go_wp2_with fail
    go_ret
    exact ⟨rfl, nq, rfl⟩
   ·have hb0 : w.heap[b]? = some (.cells #[.int .i64 11, .string s, .pointer pl, .pointer pr] 270 (0, 0)) := hb
    have bc := fun o => cell_of_blk hb0 o
    have fc : w.cell? ⟨0, 11, none⟩ = some (.string ⟨#[124]⟩) := cell_of_blk hg 11
    clear hb hb0 hg
    go_enter Tryz.func122, Tryz.ntmps122
    go_wp2_with fail
    go_quiet (first | (go_at_call_of 122 (Value.pointer pl); refine Calls.quiet_of ((unhide IHL) _ _ ?_ (unhide HFL) hzl ?_); exact IsG.drewN (unhide HL) _; exact (unhide HGV).later (bdn _ _)) | (go_at_call_of 122 (Value.pointer pr); refine Calls.quiet_of ((unhide IHR) _ _ ?_ (unhide HFR) hzr ?_); exact IsG.drewN (unhide HR) _; exact (unhide HGV).later (bdn _ _)))
    go_wp2_with fail
    go_ret
    exact ⟨rfl, nq, rfl⟩
   ·have hb0 : w.heap[b]? = some (.cells #[.int .i64 12, .string s, .pointer pl, .pointer pr] 270 (0, 0)) := hb
    have bc := fun o => cell_of_blk hb0 o
    have fc : w.cell? ⟨0, 12, none⟩ = some (.string ⟨#[45, 62]⟩) := cell_of_blk hg 12
    clear hb hb0 hg
    go_enter Tryz.func122, Tryz.ntmps122
    go_wp2_with fail
    go_quiet (first | (go_at_call_of 122 (Value.pointer pl); refine Calls.quiet_of ((unhide IHL) _ _ ?_ (unhide HFL) hzl ?_); exact IsG.drewN (unhide HL) _; exact (unhide HGV).later (bdn _ _)) | (go_at_call_of 122 (Value.pointer pr); refine Calls.quiet_of ((unhide IHR) _ _ ?_ (unhide HFR) hzr ?_); exact IsG.drewN (unhide HR) _; exact (unhide HGV).later (bdn _ _)))
    go_wp2_with fail
    go_ret
    exact ⟨rfl, nq, rfl⟩
end Go.Proofs.YtidakhhekofkoaaGreatDoor
