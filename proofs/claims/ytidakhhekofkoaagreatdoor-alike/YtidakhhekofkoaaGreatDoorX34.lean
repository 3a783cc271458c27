/- The program's texts and Nodes. -/
import Derived.Test.YtidakhhekofkoaaGreatDoorX30
import Derived.Test.YtidakhhekofkoaaGreatDoorX31
import Derived.Test.YtidakhhekofkoaaGreatDoorX03
set_option linter.unusedSimpArgs false
open List renaming setIfInBounds_toArray → zA, set_cons_zero → zB, set_cons_succ → zC, getElem_toArray → zD, getElem_cons_succ → zE, getElem_cons_zero → zF
namespace Go.Proofs.YtidakhhekofkoaaGreatDoor
open Go.RowKit Go.Deep
set_option maxHeartbeats 400000 in
theorem sclone_any (s : ByteArray) (hs : s.size ≤ 400) (w : World) : Calls Tryz.prog 49 #[.string s] w fun e w' => e = .returned (.string s) ∧ Below w.heap.size w w' := by
 go_enter Tryz.func49, Tryz.ntmps49
 go_wp2_with (go_at_call 90; refine (Tryz.stringslite_Clone s _ (by omega)).mono ?_; rintro e w1 ⟨rfl, hb1⟩)
 go_wp2_with fail
 go_ret
 exact ⟨rfl, hb1⟩
set_option maxHeartbeats 2000000 in
set_option maxRecDepth 100000 in
theorem texts_any (w : World) (L : List Tk) (no : Option Addr) (nn nc : Nat) (h : w.ownsRow 0 201 3 (.slice no nn nc) L.length (tkCellsP L)) (hl : L.length ≤ 401) (hz : ∀ t ∈ L, t.s.size ≤ 400) :
  Calls Tryz.prog 117 #[.slice no nn nc] w fun e w' => ∃ v, e = .returned v ∧ w'.ownsRow w.heap.size 9 1 v L.length (strC L) ∧ Below w.heap.size w w' := by
 obtain ⟨i0, hi, hz0, hz1', hz2⟩ := info_parts Tryz.infoStr
 obtain ⟨hnn, hrow⟩ := row_tkP h
 have hnn1 : nn ≤ L.length := by omega
 have hnn2 : L.length ≤ nn := by omega
 have HROW := hide hrow
 have HZ := hide hz
 clear h hnn hrow hz
 go_enter Tryz.func117, Tryz.ntmps117
 go_wp2_with fail
 go_loopw [3, 8] (fun v i wr => ∃ k : Nat, i = .int .i64 (k : Int) ∧ k ≤ L.length ∧ wr.ownsRow w.heap.size 9 1 v k (strC (L.take k)) ∧ Below w.heap.size w wr) (fun _ i _ => L.length - (intOf i).toNat)
 case atStart => exact ⟨0, rfl, Nat.zero_le _, World.ownsRow_nil _ _ _ _, Below.refl _ _⟩
 case round =>
  obtain ⟨k, rfl, hkk, hown, hbel⟩ := hrel
  by_cases hlt : k < L.length
  ·obtain ⟨t, rr, ht⟩ : ∃ t rr, L.drop k = t :: rr := by
    cases hd : L.drop k with
    | nil => have := congrArg List.length hd; simp at this; omega
    | cons t rr => exact ⟨t, rr, rfl⟩
   obtain ⟨g, hno, hle, hcap, cur, hc1, hc2⟩ := unhide HROW (by intro e; rw [e] at hlt; simp at hlt)
   unfold maxLen at hcap
   have hrw2 : ∃ cur, wr.heap[g]? = some (.cells cur 201 (0, 0)) ∧ cur.toList.take (L.length * 3) = tkCellsP L := ⟨cur, (hbel.block _ (lt_of_blk hc1)).trans hc1, hc2⟩
   obtain ⟨c0, c1, c2⟩ := row_tok hrw2 ht
   have hgl : g < wr.heap.size := by obtain ⟨cur, h1, _⟩ := hrw2; exact lt_of_blk h1
   subst hno
   have HTS := hide (take_snoc ht)
   have hts := unhide HZ t (List.mem_of_mem_drop (i := k) (ht ▸ List.mem_cons_self ..))
   have hkn : (k : Int) < (nn : Int) := by omega
   clear ht hc1 hc2 hrw2 cur
   go_wp2_with fail
   refine (sclone_any _ hts _).mono ?_
   rintro e w1 ⟨rfl, hb1⟩
   have HO1 := hide (owns_later (hown.alloc (.cells #[.int .i64 t.k, .string t.s, .int .i64 t.p] 201)) hb1)
   have HL1 := hide (own_lt hown)
   have HB1 : Hid (Below w.heap.size w w1) := (hbel.alloc hbel.size _).trans (hb1.mono (by have := hbel.size; simp; omega))
   clear hown hbel hb1
   have hz1 := (unhide HB1).size
   go_wp2_with (at_builtin; go_must (refine wpList_append_own _ rfl _ _ 25 rfl w.heap.size 9 i0 (.string ⟨#[]⟩) 1 16 Tryz.underlying25 hi hz0 hz1' hz2 rfl (by decide) _ k (strC (L.take k)) rfl ?c0 ⟨w1.heap.size, 0, none⟩ 1 1 [.string t.s] rfl rfl ?c1 ?c2 ?c3 ?c4 ?c5 ?_))
   case c0 => exact (unhide HO1).alloc _
   case c1 =>
    intro j u hj
    match j, hj with
    | 0, hj => simp at hj; subst hj; simp [Addr.add]
    | j + 1, hj => simp at hj
   case c2 => intro u hu; simp at hu; subst hu; rfl
   case c3 => unfold maxLen; omega
   case c4 => omega
   case c5 => simp; omega
   intro v' w2 hown2 hgrow _
   have HB2 : Hid (Below w.heap.size w w2) := ((unhide HB1).alloc hz1 _).grown hgrow (by simp; omega) (fun k hk => (unhide HL1 k hk).1)
   have HO2 : Hid (w2.ownsRow w.heap.size 9 1 v' (k + 1) (strC (L.take (k + 1)))) := by
    rw [unhide HTS, strC_snoc]; exact hown2
   clear hown2 hgrow
   go_wp2_with fail
   go_roundw
   case rel => exact ⟨k + 1, by go_num, by omega, unhide HO2, unhide HB2⟩
   case measure => simp [intOf]; omega
  ·have hke : k = L.length := by omega
   have hkn : ¬ (k : Int) < (nn : Int) := by omega
   have HO : Hid (wr.ownsRow w.heap.size 9 1 u3 L.length (strC L)) := by rw [← hke]; rw [hke, List.take_length] at hown; rw [hke]; exact hown
   have HB := hide hbel
   clear hown hbel hke
   go_wp2_with fail
   go_ret
   exact ⟨_, rfl, unhide HO, unhide HB⟩
theorem IsG.drewN {w : World} {f : Fm} {p : Option Addr} (h : IsG w f p) (n : Nat) : IsG (w.drewN n) f p := h.later (bdn _ _)
set_option maxHeartbeats 1600000 in
set_option maxRecDepth 1000000 in
theorem nodes_any : ∀ (f : Fm) (w : World) (p : Option Addr), IsG w f p → sizeF f ≤ 100000 →
  Calls Tryz.prog 119 #[.pointer p] w fun e w' => e = .returned (.int .i64 (sizeF f)) ∧ ∃ n, w' = w.drewN n
 | .nil, w, p, h, _ => by
  cases (show p = none from h)
  go_enter Tryz.func119, Tryz.ntmps119
  go_wp2_with fail
  go_ret
  exact ⟨rfl, 0, rfl⟩
 | .node u v a l r, w, p, h, hs => by
  obtain ⟨b, pl, pr, rfl, hb, hl, hr⟩ := h
  have IHL := hide (nodes_any l)
  have IHR := hide (nodes_any r)
  have HL := hide hl
  have HR := hide hr
  have hsl : sizeF l ≤ 100000 := by simp only [sizeF] at hs; omega
  have hsr : sizeF r ≤ 100000 := by simp only [sizeF] at hs; omega
  have hss : 1 + sizeF l + sizeF r ≤ 100000 := hs
  have bc := fun o => cell_of_blk hb o
  clear hb hl hr hs
  go_enter Tryz.func119, Tryz.ntmps119
  go_wp2_with fail
  go_quiet (first | (go_at_call_of 119 (Value.pointer pl); refine Calls.quiet_of ((unhide IHL) _ _ ?_ hsl); exact IsG.drewN (unhide HL) _) | (go_at_call_of 119 (Value.pointer pr); refine Calls.quiet_of ((unhide IHR) _ _ ?_ hsr); exact IsG.drewN (unhide HR) _))
  go_wp2_with fail
  go_ret
  exact ⟨ret_int (by simp only [sizeF]; omega), nq, rfl⟩
def BcPost (w w' : World) (wd : ByteArray) (args : List Tk) (f : Fm) (e : Ending) : Prop :=
 Below w.heap.size w w' ∧ ∃ ao an ac p, e = .returned (.agg #[.string wd, .slice ao an ac, .pointer p]) ∧ w'.ownsRow w.heap.size 9 1 (.slice ao an ac) args.length (strC args) ∧ IsG w' f p
theorem row_slice {w : World} {base e size n : Nat} {v : Value} {xs : List Value} (h : w.ownsRow base e size v n xs) : ∃ ao an ac, v = .slice ao an ac := by
 obtain ⟨_, h2 | ⟨g, cap, cur, hv, _⟩⟩ := h
 ·exact ⟨_, _, _, h2.1⟩
 ·exact ⟨_, _, _, hv⟩
theorem owns_below {w w' : World} {base e size n : Nat} {v : Value} {xs : List Value} (h : w.ownsRow base e size v n xs) (hb : Below w.heap.size w w') : w'.ownsRow base e size v n xs := owns_later h hb
theorem setG {w : World} {b ty o : Nat} {c : Array Value} {m : Nat × Nat} {v : Value} (hb : w.heap[b]? = some (.cells c ty m)) (hne : ty ≠ 270) {f : Fm} {p : Option Addr} (hf : IsG w f p) : IsG (w.setCell ⟨b, o, none⟩ v) f p :=
 hf.keep (fun q c' m' hq => Below.heap_setCell _ _ _ _ (by show q ≠ b; rintro rfl; rw [hb] at hq; injection hq with hq; injection hq with _ e _; exact hne e))
theorem callFn (k : Nat) (h : k ≤ 11) (a b c : Value) (w : World) : (callFunc (fnNo k) #[a, b, c]).run Tryz.prog w = .ok (.enter (fnNo k) #[a, b, c]) w := by
 rcases to12 (show k < 12 by omega) with rfl | rfl | rfl | rfl | rfl | rfl | rfl | rfl | rfl | rfl | rfl | rfl <;> kernel_rfl
theorem tplF_low (k : Nat) (h : k ≤ 1) (a b b' : ByteArray) (n n' : Nat) : tplF k a b n = tplF k a b' n' := by
 have : k = 0 ∨ k = 1 := by omega
 rcases this with rfl | rfl <;> rfl
theorem tplF_mid (k : Nat) (h : 2 ≤ k ∧ k ≤ 3) (a b b' : ByteArray) (n : Nat) : tplF k a b n = tplF k a b' n := by
 have : k = 2 ∨ k = 3 := by omega
 rcases this with rfl | rfl <;> rfl
theorem tplF_high (k : Nat) (h : 4 ≤ k ∧ k ≤ 11) (a b : ByteArray) (n n' : Nat) : tplF k a b n = tplF k a b n' := by
 rcases to12 (show k < 12 by omega) with rfl | rfl | rfl | rfl | rfl | rfl | rfl | rfl | rfl | rfl | rfl | rfl
 all_goals first | omega | rfl
set_option maxHeartbeats 8000000 in
set_option maxRecDepth 100000 in
theorem buildCall_A (w : World) (r : Rl) (kb g ac : Nat) (xx : Tk) (x : Tk) (hk : w.heap[kb]? = some (cbl r.word (some ⟨g, 0, none⟩) 1 ac xx)) (ho : w.ownsRow 0 201 3 (.slice (some ⟨g, 0, none⟩) 1 ac) 1 (tkCellsP [x])) (hx : x.k = 2) (hn : tplNo r.word.s.toList ≤ 1) (hz : ∀ t ∈ [x], t.s.size ≤ 400) :
  Calls Tryz.prog 118 #[.pointer (some ⟨kb, 0, none⟩)] w fun e w' => BcPost w w' r.word.s [x] (tplF (tplNo r.word.s.toList) x.s ByteArray.empty 0) e := by
 have HZZ := hide hz
 clear hz
 have HO := hide ho
 obtain ⟨-, hrow⟩ := row_tkP (L := [x]) ho
 obtain ⟨g', hg', hle, hcap, hcur⟩ := hrow (by simp)
 cases hg'
 have HCUR := hide hcur
 have HK := hide hk
 have hkl := lt_of_blk hk
 have hgl : g < w.heap.size := by obtain ⟨cur, h1, _⟩ := hcur; exact lt_of_blk h1
 unfold cbl at hk
 have kc := fun o => cell_of_blk hk o
 have e3 : ((x.k : Int) == 3) = false := beqF (c := 3) (by omega)
 have HN := hide hn
 clear hx hn
 clear ho hrow hcur hk hle hcap
 go_enter Tryz.func118, Tryz.ntmps118
 go_wp2_with fail
 go_loopw [4, 14] (fun tm i wr => ∃ (z : Int) (p0 p1 : Option Addr) (tv : Int), i = .int .i64 z ∧ tm = .int .i64 tv ∧ Below w.heap.size w wr ∧ wr.heap[w.heap.size]? = some (.cells #[.string ⟨#[]⟩, .slice none 0 0, .pointer none] 144 (0, 0)) ∧ wr.heap[w.heap.size + 1]? = some (.cells #[.pointer p0, .pointer p1] 257 (0, 0)) ∧ ((z = 0 ∧ tv = 0) ∨ (z = 1 ∧ tv = 0 ∧ IsG wr (acF x.s) p0))) (fun _ i _ => (1 - intOf i).toNat)
 case atStart =>
  refine ⟨0, none, none, 0, rfl, rfl, ((Below.refl _ _).alloc (Nat.le_refl _) _).alloc (by simp) _, (Below.heap_alloc _ _ _ (by simp)).trans (blk_alloc _ _), blk_alloc' _ _ _ (by simp), Or.inl ⟨rfl, rfl⟩⟩
 case round =>
  clear kc
  obtain ⟨z, p0, p1, tv, rfl, rfl, hbel, hrb, hab, hst⟩ := hrel
  have HB := hide hbel
  have HRB := hide hrb
  have HAB := hide hab
  have hwl := hbel.size
  have hrl : w.heap.size < wr.heap.size := lt_of_blk hrb
  have hal : w.heap.size + 1 < wr.heap.size := lt_of_blk hab
  have hkr := (hbel.block _ hkl).trans (unhide HK)
  have hkl2 : kb < wr.heap.size := by omega
  have hgl2 : g < wr.heap.size := by omega
  unfold cbl at hkr
  have kc := fun o => cell_of_blk hkr o
  have abc := fun o => cell_of_blk hab o
  have abf := fun o => frozen_of_blk hab o
  have hcr : ∃ cur, wr.heap[g]? = some (.cells cur 201 (0, 0)) ∧ cur.toList.take ([x].length * 3) = tkCellsP [x] := by
   obtain ⟨cur, h1, h2⟩ := unhide HCUR
   exact ⟨cur, (hbel.block _ (lt_of_blk h1)).trans h1, h2⟩
  clear hbel hrb hab hkr
  rcases hst with ⟨rfl, rfl⟩ | ⟨rfl, rfl, hG0⟩
  ·skip
   obtain ⟨c0, c1, c2⟩ := row_tok (j := 0) hcr rfl
   clear hcr
   go_wp2_with fail
   refine (fActivity_any x.s _).mono ?_
   rintro e w3 ⟨v, rfl, hv, hb3⟩
   have HV := hide (hv 0)
   have hrb3 := (hb3.block w.heap.size (by simp; omega)).trans ((Below.heap_alloc _ _ _ hrl).trans (unhide HRB))
   have hab3 := (hb3.block (w.heap.size + 1) (by simp; omega)).trans ((Below.heap_alloc _ _ _ hal).trans (unhide HAB))
   have HRB3 := hide hrb3
   have HAB3 := hide hab3
   have HB3 := hide (((unhide HB).alloc (by omega) _).trans (hb3.mono (by simp; omega)))
   have hal3 := lt_of_blk hab3
   clear abc abf
   have abc := fun o => cell_of_blk hab3 o
   have abf := fun o => frozen_of_blk hab3 o
   clear hv hb3 hrb3 hab3 c0 c1 c2
   go_wp2_with fail
   go_roundw
   case rel =>
    refine ⟨1, v, p1, 0, by first | rfl | go_num, rfl, (unhide HB3).setCell (by show w.heap.size ≤ w.heap.size + 1; omega) _, (Below.heap_setCell _ _ _ _ (by show w.heap.size ≠ w.heap.size + 1; omega)).trans (unhide HRB3), blk_set (unhide HAB3) 0 _, Or.inr ⟨rfl, rfl, setG (unhide HAB3) (by decide) (unhide HV)⟩⟩
   case measure => simp [intOf]
  ·have HG0 := hide hG0
   clear hG0
   clear abc abf hcr
   go_wp2_with fail
   refine (find_any r.word.s _).mono ?_
   rintro e w2 ⟨hb2, b, hbb, htk2, hcase⟩
   obtain ⟨hno, rfl⟩ : tplNo r.word.s.toList ≤ 11 ∧ e = _ := by
    rcases hcase with h | ⟨h, _⟩
    ·exact h
    ·exact absurd (by have := unhide HN; omega) h
   have hkr2 := (hb2.block _ hkl2).trans (((unhide HB).block _ hkl).trans (unhide HK))
   have hrb2 := (hb2.block _ hrl).trans (unhide HRB)
   have hab2 := (hb2.block _ hal).trans (unhide HAB)
   have HB2 := hide ((unhide HB).trans (hb2.mono hwl))
   have HG0 := hide ((unhide HG0).later hb2)
   clear hb2 htk2 hcase kc
   have hkl3 := lt_of_blk hkr2
   have hrl3 := lt_of_blk hrb2
   have hal3 := lt_of_blk hab2
   have HKR2 := hide hkr2
   have HRB2 := hide hrb2
   have HAB2 := hide hab2
   unfold cbl at hkr2
   have kc := fun o => cell_of_blk hkr2 o
   have abc := fun o => cell_of_blk hab2 o
   clear hkr2 hrb2 hab2
   generalize hNo : tplNo r.word.s.toList = no at *
   have HNOE := hide hNo
   clear hNo
   go_wp2_with fail
   refine wp_region_held_drew (S := fun w' => w'.cell? ⟨kb, 1, none⟩ = some (.string r.word.s) ∧ w'.cell? ⟨kb, 3, none⟩ = some (.slice (some ⟨g, 0, none⟩) 1 ac) ∧ w'.cell? ⟨w2.heap.size, 2, none⟩ = some (.func (.func (fnNo no)) #[] #[]) ∧ w'.cell? ⟨w.heap.size + 1, 0, none⟩ = some (.pointer p0) ∧ w'.cell? ⟨w.heap.size + 1, 1, none⟩ = some (.pointer p1)) (by kernel_rfl) ?_ (fun hHeld => ?_)
   ·refine ⟨?_, ?_, ?_, ?_, ?_⟩
    ·show (World.alloc _ _).cell? _ = _; rw [World.cell?_alloc_lt _ _ _ hkl3]; exact kc 1
    ·show (World.alloc _ _).cell? _ = _; rw [World.cell?_alloc_lt _ _ _ hkl3]; exact kc 3
    ·exact cell_of_blk (blk_alloc _ _) 2
    ·show (World.alloc _ _).cell? _ = _; rw [World.cell?_alloc_lt _ _ _ hal3]; exact abc 0
    ·show (World.alloc _ _).cell? _ = _; rw [World.cell?_alloc_lt _ _ _ hal3]; exact abc 1
   refine wpAnyH_take (i := 0) (v := .pointer (some ⟨kb, 0, none⟩)) rfl (by kernel_rfl) (by kernel_rfl) (by kernel_rfl) (fun _ _ _ h => h) (Or.inl ⟨by kernel_rfl, fun w hw => by obtain ⟨s0, s1, s2, s3, s4⟩ := hw; go_simp⟩) hHeld ?_
   try simp only [Act.put, zA, zB, zC, zD, zE, zF]
   refine wpAnyH_take (i := 1) (v := .pointer (some ⟨kb, 0, none⟩)) rfl (by kernel_rfl) (by kernel_rfl) (by kernel_rfl) (fun _ _ _ h => h) (Or.inl ⟨by kernel_rfl, fun w hw => by obtain ⟨s0, s1, s2, s3, s4⟩ := hw; go_simp⟩) hHeld ?_
   try simp only [Act.put, zA, zB, zC, zD, zE, zF]
   refine wpAnyH_take (i := 2) (v := .pointer (some ⟨kb, 0, none⟩)) rfl (by kernel_rfl) (by kernel_rfl) (by kernel_rfl) (fun _ _ _ h => h) (Or.inl ⟨by kernel_rfl, fun w hw => by obtain ⟨s0, s1, s2, s3, s4⟩ := hw; go_simp⟩) hHeld ?_
   try simp only [Act.put, zA, zB, zC, zD, zE, zF]
   refine wpAnyH_take (i := 3) (v := .pointer (some ⟨kb, 1, none⟩)) rfl (by kernel_rfl) (by kernel_rfl) (by kernel_rfl) (fun _ _ _ h => h) (Or.inl ⟨by kernel_rfl, fun w hw => by obtain ⟨s0, s1, s2, s3, s4⟩ := hw; go_simp⟩) hHeld ?_
   try simp only [Act.put, zA, zB, zC, zD, zE, zF]
   refine wpAnyH_take (i := 4) (v := .string r.word.s) rfl (by kernel_rfl) (by kernel_rfl) (by kernel_rfl) (fun _ _ _ h => h) (Or.inl ⟨by kernel_rfl, fun w hw => by obtain ⟨s0, s1, s2, s3, s4⟩ := hw; go_simp⟩) hHeld ?_
   try simp only [Act.put, zA, zB, zC, zD, zE, zF]
   refine wpAnyH_take (i := 5) (v := .pointer (some ⟨kb, 0, none⟩)) rfl (by kernel_rfl) (by kernel_rfl) (by kernel_rfl) (fun _ _ _ h => h) (Or.inl ⟨by kernel_rfl, fun w hw => by obtain ⟨s0, s1, s2, s3, s4⟩ := hw; go_simp⟩) hHeld ?_
   try simp only [Act.put, zA, zB, zC, zD, zE, zF]
   refine wpAnyH_take (i := 6) (v := .pointer (some ⟨kb, 0, none⟩)) rfl (by kernel_rfl) (by kernel_rfl) (by kernel_rfl) (fun _ _ _ h => h) (Or.inl ⟨by kernel_rfl, fun w hw => by obtain ⟨s0, s1, s2, s3, s4⟩ := hw; go_simp⟩) hHeld ?_
   try simp only [Act.put, zA, zB, zC, zD, zE, zF]
   refine wpAnyH_take (i := 7) (v := .pointer (some ⟨kb, 3, none⟩)) rfl (by kernel_rfl) (by kernel_rfl) (by kernel_rfl) (fun _ _ _ h => h) (Or.inl ⟨by kernel_rfl, fun w hw => by obtain ⟨s0, s1, s2, s3, s4⟩ := hw; go_simp⟩) hHeld ?_
   try simp only [Act.put, zA, zB, zC, zD, zE, zF]
   refine wpAnyH_take (i := 8) (v := .slice (some ⟨g, 0, none⟩) 1 ac) rfl (by kernel_rfl) (by kernel_rfl) (by kernel_rfl) (fun _ _ _ h => h) (Or.inl ⟨by kernel_rfl, fun w hw => by obtain ⟨s0, s1, s2, s3, s4⟩ := hw; go_simp⟩) hHeld ?_
   try simp only [Act.put, zA, zB, zC, zD, zE, zF]
   refine wpAnyH_take (i := 10) (v := .pointer (some ⟨w2.heap.size, 2, none⟩)) rfl (by kernel_rfl) (by kernel_rfl) (by kernel_rfl) (fun _ _ _ h => h) (Or.inl ⟨by kernel_rfl, fun w hw => by obtain ⟨s0, s1, s2, s3, s4⟩ := hw; go_simp⟩) hHeld ?_
   try simp only [Act.put, zA, zB, zC, zD, zE, zF]
   refine wpAnyH_take (i := 11) (v := .func (.func (fnNo no)) #[] #[]) rfl (by kernel_rfl) (by kernel_rfl) (by kernel_rfl) (fun _ _ _ h => h) (Or.inl ⟨by kernel_rfl, fun w hw => by obtain ⟨s0, s1, s2, s3, s4⟩ := hw; go_simp⟩) hHeld ?_
   try simp only [Act.put, zA, zB, zC, zD, zE, zF]
   refine wpAnyH_take (i := 12) (v := .pointer (some ⟨w.heap.size + 1, 0, none⟩)) rfl (by kernel_rfl) (by kernel_rfl) (by kernel_rfl) (fun _ _ _ h => h) (Or.inl ⟨by kernel_rfl, fun w hw => by obtain ⟨s0, s1, s2, s3, s4⟩ := hw; go_simp⟩) hHeld ?_
   try simp only [Act.put, zA, zB, zC, zD, zE, zF]
   refine wpAnyH_take (i := 13) (v := .pointer p0) rfl (by kernel_rfl) (by kernel_rfl) (by kernel_rfl) (fun _ _ _ h => h) (Or.inl ⟨by kernel_rfl, fun w hw => by obtain ⟨s0, s1, s2, s3, s4⟩ := hw; go_simp⟩) hHeld ?_
   try simp only [Act.put, zA, zB, zC, zD, zE, zF]
   refine wpAnyH_take (i := 14) (v := .pointer (some ⟨w.heap.size + 1, 1, none⟩)) rfl (by kernel_rfl) (by kernel_rfl) (by kernel_rfl) (fun _ _ _ h => h) (Or.inl ⟨by kernel_rfl, fun w hw => by obtain ⟨s0, s1, s2, s3, s4⟩ := hw; go_simp⟩) hHeld ?_
   try simp only [Act.put, zA, zB, zC, zD, zE, zF]
   refine wpAnyH_take (i := 15) (v := .pointer p1) rfl (by kernel_rfl) (by kernel_rfl) (by kernel_rfl) (fun _ _ _ h => h) (Or.inl ⟨by kernel_rfl, fun w hw => by obtain ⟨s0, s1, s2, s3, s4⟩ := hw; go_simp⟩) hHeld ?_
   try simp only [Act.put, zA, zB, zC, zD, zE, zF]
   refine wpAnyH_take (i := 16) (v := .int .i64 (0 : Int)) rfl (by kernel_rfl) (by kernel_rfl) (by kernel_rfl) (fun _ _ _ h => h) (Or.inl ⟨by kernel_rfl, fun w hw => by obtain ⟨s0, s1, s2, s3, s4⟩ := hw; go_simp⟩) hHeld ?_
   try simp only [Act.put, zA, zB, zC, zD, zE, zF]
   refine wpAnyH_ready (rs := [9]) (by kernel_rfl) (by simp) ?_
   refine AllReadyH.cons rfl (fun K hK => ?_) AllReadyH.nil
   go_simp
   refine (texts_any _ [x] (some ⟨g, 0, none⟩) 1 ac (owns_later (owns_below (unhide HO) (unhide HB2)) (((Below.refl _ _).alloc (Nat.le_refl _) _).drew)) (by simp) (unhide HZZ)).mono ?_
   rintro e w6 ⟨v6, rfl, hown6, hb6⟩
   obtain ⟨o6, n6, k6, hv6⟩ := row_slice hown6
   subst hv6
   have hS6 : w6.cell? ⟨kb, 1, none⟩ = some (.string r.word.s) ∧ w6.cell? ⟨kb, 3, none⟩ = some (.slice (some ⟨g, 0, none⟩) 1 ac) ∧ w6.cell? ⟨w2.heap.size, 2, none⟩ = some (.func (.func (fnNo no)) #[] #[]) ∧ w6.cell? ⟨w.heap.size + 1, 0, none⟩ = some (.pointer p0) ∧ w6.cell? ⟨w.heap.size + 1, 1, none⟩ = some (.pointer p1) :=
    ⟨(bcell3 hb6 _ _ (by simp; omega)).trans hHeld.1, (bcell3 hb6 _ _ (by simp; omega)).trans hHeld.2.1, (bcell3 hb6 _ _ (by simp)).trans hHeld.2.2.1, (bcell3 hb6 _ _ (by simp; omega)).trans hHeld.2.2.2.1, (bcell3 hb6 _ _ (by simp; omega)).trans hHeld.2.2.2.2⟩
   refine hK.out _ _ hS6 (fun hHeld => ?_)
   clear hK K hS6
   have hbz := ((Below.refl w2.heap.size w2).alloc (Nat.le_refl _) (.cells #[.string (twB no), .slice (some ⟨tkB b no, 0, none⟩) (tkL no) (tkL no), .func (.func (fnNo no)) #[] #[]] 265)).drew.trans (hb6.mono (by simp))
   have HG0 := hide ((unhide HG0).later hbz)
   have hrb6 := (hbz.block _ hrl3).trans (unhide HRB2)
   have HB6 := hide ((unhide HB2).trans (hbz.mono (by omega)))
   have HO6 := hide (owns_mono hown6 (show w.heap.size ≤ _ by simp; omega))
   have HRB6 := hide hrb6
   have hrl6 := lt_of_blk hrb6
   have hz6 := hbz.size
   clear hb6 hown6 hbz hrb6
   have cf := callFn no hno
   refine wpAnyH_ready (rs := [17]) (by kernel_rfl) (by simp) ?_
   refine AllReadyH.cons rfl (fun K hK => ?_) AllReadyH.nil
   go_simp
   refine (tplFn_any no hno x.s ByteArray.empty 0 p0 p1 _ (unhide HG0) (fun h => absurd h (by have := unhide HN; omega)) (by decide)).mono ?_
   rintro e w7 ⟨p7, rfl, hG7, hb7⟩
   have hS7 : w7.cell? ⟨kb, 1, none⟩ = some (.string r.word.s) ∧ w7.cell? ⟨kb, 3, none⟩ = some (.slice (some ⟨g, 0, none⟩) 1 ac) ∧ w7.cell? ⟨w2.heap.size, 2, none⟩ = some (.func (.func (fnNo no)) #[] #[]) ∧ w7.cell? ⟨w.heap.size + 1, 0, none⟩ = some (.pointer p0) ∧ w7.cell? ⟨w.heap.size + 1, 1, none⟩ = some (.pointer p1) :=
    ⟨(bcell3 hb7 _ _ (by omega)).trans hHeld.1, (bcell3 hb7 _ _ (by omega)).trans hHeld.2.1, (bcell3 hb7 _ _ (World.block_lt_of_cell? _ _ hHeld.2.2.1)).trans hHeld.2.2.1, (bcell3 hb7 _ _ (by omega)).trans hHeld.2.2.2.1, (bcell3 hb7 _ _ (by omega)).trans hHeld.2.2.2.2⟩
   refine hK.out _ _ hS7 (fun hHeld => ?_)
   clear hK K hS7
   have hrb7 := (hb7.block _ hrl6).trans (unhide HRB6)
   have rc7 := fun o => cell_of_blk hrb7 o
   have rf7 := fun o => frozen_of_blk hrb7 o
   have hrl7 := lt_of_blk hrb7
   have HG7 := hide hG7
   have HRB7 := hide hrb7
   have HO7 := hide (owns_later (unhide HO6) hb7)
   have HB7 := hide ((unhide HB6).trans (hb7.mono (by omega)))
   clear hG7 hb7 hrb7
   refine wpAnyH_take (i := 18) (v := .agg #[.string r.word.s, .slice o6 n6 k6, .pointer p7]) rfl (by kernel_rfl) (by kernel_rfl) (by kernel_rfl) (fun _ _ _ h => h) (Or.inl ⟨by kernel_rfl, fun w hw => by obtain ⟨s0, s1, s2, s3, s4⟩ := hw; go_simp⟩) hHeld ?_
   try simp only [Act.put, zA, zB, zC, zD, zE, zF]
   refine wpAnyH_ready (rs := [19]) (by kernel_rfl) (by simp) ?_
   refine AllReadyH.cons rfl (fun K hK => ?_) AllReadyH.nil
   go_simp
   have hfar : ∀ (q o : Nat) (v0 v1 v2 : Value), q ≠ w.heap.size → (((w7.setCell ⟨w.heap.size, 0, none⟩ v0).setCell ⟨w.heap.size, 1, none⟩ v1).setCell ⟨w.heap.size, 2, none⟩ v2).cell? ⟨q, o, none⟩ = w7.cell? ⟨q, o, none⟩ := fun q o v0 v1 v2 hq => by
    rw [World.cell?_setCell_far _ _ _ _ (by show w.heap.size ≠ q; omega), World.cell?_setCell_far _ _ _ _ (by show w.heap.size ≠ q; omega), World.cell?_setCell_far _ _ _ _ (by show w.heap.size ≠ q; omega)]
   refine hK.out _ _ ⟨(hfar _ _ _ _ _ (by omega)).trans hHeld.1, (hfar _ _ _ _ _ (by omega)).trans hHeld.2.1, (hfar _ _ _ _ _ (by omega)).trans hHeld.2.2.1, (hfar _ _ _ _ _ (by omega)).trans hHeld.2.2.2.1, (hfar _ _ _ _ _ (by omega)).trans hHeld.2.2.2.2⟩ (fun hHeld => ?_)
   clear hK K hfar hHeld
   refine wpAnyH_done (by kernel_rfl) ?_ _
   go_wp2_with fail
   have hfin : (((w7.setCell ⟨w.heap.size, 0, none⟩ (.string r.word.s)).setCell ⟨w.heap.size, 1, none⟩ (.slice o6 n6 k6)).setCell ⟨w.heap.size, 2, none⟩ (.pointer p7)).heap[w.heap.size]? = some (.cells #[.string r.word.s, .slice o6 n6 k6, .pointer p7] 144 (0, 0)) := blk_set (blk_set (blk_set (unhide HRB7) 0 _) 1 _) 2 _
   have rc8 := fun o => cell_of_blk hfin o
   clear rc7
   refine bodyPost_ret (v := .agg #[.string r.word.s, .slice o6 n6 k6, .pointer p7]) (by simp [results, Tryz.results118, go_sem, rc8]) rfl ?_
   have hnr : (Value.slice o6 n6 k6).ownBlock ≠ some w.heap.size := fun e => own_ty (unhide HO7) e (unhide HRB7) (by decide)
   refine ⟨(((unhide HB7).setCell (Nat.le_refl _) _).setCell (Nat.le_refl _) _).setCell (Nat.le_refl _) _, o6, n6, k6, p7, rfl, owns_keep (owns_keep (owns_keep (unhide HO7) (grown_set _ _ _ _) (Or.inr hnr)) (grown_set _ _ _ _) (Or.inr hnr)) (grown_set _ _ _ _) (Or.inr hnr), ?_⟩
   have hG8 := setG (o := 2) (v := .pointer p7) (blk_set (blk_set (unhide HRB7) 0 (.string r.word.s)) 1 (.slice o6 n6 k6)) (by decide) (setG (o := 1) (v := .slice o6 n6 k6) (blk_set (unhide HRB7) 0 (.string r.word.s)) (by decide) (setG (o := 0) (v := .string r.word.s) (unhide HRB7) (by decide) (unhide HG7)))
   rw [unhide HNOE]
   exact hG8
set_option maxHeartbeats 8000000 in
set_option maxRecDepth 100000 in
theorem buildCall_B (w : World) (r : Rl) (kb g ac : Nat) (xx : Tk) (x y : Tk) (hk : w.heap[kb]? = some (cbl r.word (some ⟨g, 0, none⟩) 2 ac xx)) (ho : w.ownsRow 0 201 3 (.slice (some ⟨g, 0, none⟩) 2 ac) 2 (tkCellsP [x, y])) (d : UInt8) (hx : x.k = 2) (hy : y.k = 3) (hd : y.s = ⟨#[d]⟩) (hd1 : 48 ≤ d.toNat) (hd2 : d.toNat ≤ 57) (hn : 2 ≤ tplNo r.word.s.toList ∧ tplNo r.word.s.toList ≤ 3) (hz : ∀ t ∈ [x, y], t.s.size ≤ 400) :
  Calls Tryz.prog 118 #[.pointer (some ⟨kb, 0, none⟩)] w fun e w' => BcPost w w' r.word.s [x, y] (tplF (tplNo r.word.s.toList) x.s ByteArray.empty (d.toNat - 48)) e := by
 have HZZ := hide hz
 clear hz
 have HO := hide ho
 obtain ⟨-, hrow⟩ := row_tkP (L := [x, y]) ho
 obtain ⟨g', hg', hle, hcap, hcur⟩ := hrow (by simp)
 cases hg'
 have HCUR := hide hcur
 have HK := hide hk
 have hkl := lt_of_blk hk
 have hgl : g < w.heap.size := by obtain ⟨cur, h1, _⟩ := hcur; exact lt_of_blk h1
 unfold cbl at hk
 have kc := fun o => cell_of_blk hk o
 have e3 : ((x.k : Int) == 3) = false := beqF (c := 3) (by omega)
 have f3 : ((y.k : Int) == 3) = true := beqT (c := 3) hy
 have HNUM := hide (fun w => number_any y d w hd hd1 hd2)
 have hdd : d.toNat - 48 ≤ 9 := by omega
 have HN := hide hn
 clear hx hn hy hd hd1 hd2
 clear ho hrow hcur hk hle hcap
 go_enter Tryz.func118, Tryz.ntmps118
 go_wp2_with fail
 go_loopw [4, 14] (fun tm i wr => ∃ (z : Int) (p0 p1 : Option Addr) (tv : Int), i = .int .i64 z ∧ tm = .int .i64 tv ∧ Below w.heap.size w wr ∧ wr.heap[w.heap.size]? = some (.cells #[.string ⟨#[]⟩, .slice none 0 0, .pointer none] 144 (0, 0)) ∧ wr.heap[w.heap.size + 1]? = some (.cells #[.pointer p0, .pointer p1] 257 (0, 0)) ∧ ((z = 0 ∧ tv = 0) ∨ (z = 1 ∧ tv = 0 ∧ IsG wr (acF x.s) p0) ∨ (z = 2 ∧ tv = ((d.toNat - 48 : Nat) : Int) ∧ IsG wr (acF x.s) p0))) (fun _ i _ => (2 - intOf i).toNat)
 case atStart =>
  refine ⟨0, none, none, 0, rfl, rfl, ((Below.refl _ _).alloc (Nat.le_refl _) _).alloc (by simp) _, (Below.heap_alloc _ _ _ (by simp)).trans (blk_alloc _ _), blk_alloc' _ _ _ (by simp), Or.inl ⟨rfl, rfl⟩⟩
 case round =>
  clear kc
  obtain ⟨z, p0, p1, tv, rfl, rfl, hbel, hrb, hab, hst⟩ := hrel
  have HB := hide hbel
  have HRB := hide hrb
  have HAB := hide hab
  have hwl := hbel.size
  have hrl : w.heap.size < wr.heap.size := lt_of_blk hrb
  have hal : w.heap.size + 1 < wr.heap.size := lt_of_blk hab
  have hkr := (hbel.block _ hkl).trans (unhide HK)
  have hkl2 : kb < wr.heap.size := by omega
  have hgl2 : g < wr.heap.size := by omega
  unfold cbl at hkr
  have kc := fun o => cell_of_blk hkr o
  have abc := fun o => cell_of_blk hab o
  have abf := fun o => frozen_of_blk hab o
  have hcr : ∃ cur, wr.heap[g]? = some (.cells cur 201 (0, 0)) ∧ cur.toList.take ([x, y].length * 3) = tkCellsP [x, y] := by
   obtain ⟨cur, h1, h2⟩ := unhide HCUR
   exact ⟨cur, (hbel.block _ (lt_of_blk h1)).trans h1, h2⟩
  clear hbel hrb hab hkr
  rcases hst with ⟨rfl, rfl⟩ | ⟨rfl, rfl, hG0⟩ | ⟨rfl, rfl, hG0⟩
  ·skip
   obtain ⟨c0, c1, c2⟩ := row_tok (j := 0) hcr rfl
   clear hcr
   go_wp2_with fail
   refine (fActivity_any x.s _).mono ?_
   rintro e w3 ⟨v, rfl, hv, hb3⟩
   have HV := hide (hv 0)
   have hrb3 := (hb3.block w.heap.size (by simp; omega)).trans ((Below.heap_alloc _ _ _ hrl).trans (unhide HRB))
   have hab3 := (hb3.block (w.heap.size + 1) (by simp; omega)).trans ((Below.heap_alloc _ _ _ hal).trans (unhide HAB))
   have HRB3 := hide hrb3
   have HAB3 := hide hab3
   have HB3 := hide (((unhide HB).alloc (by omega) _).trans (hb3.mono (by simp; omega)))
   have hal3 := lt_of_blk hab3
   clear abc abf
   have abc := fun o => cell_of_blk hab3 o
   have abf := fun o => frozen_of_blk hab3 o
   clear hv hb3 hrb3 hab3 c0 c1 c2
   go_wp2_with fail
   go_roundw
   case rel =>
    refine ⟨1, v, p1, 0, by first | rfl | go_num, rfl, (unhide HB3).setCell (by show w.heap.size ≤ w.heap.size + 1; omega) _, (Below.heap_setCell _ _ _ _ (by show w.heap.size ≠ w.heap.size + 1; omega)).trans (unhide HRB3), blk_set (unhide HAB3) 0 _, Or.inr (Or.inl ⟨rfl, rfl, setG (unhide HAB3) (by decide) (unhide HV)⟩)⟩
   case measure => simp [intOf]
  ·skip
   have HG0 := hide hG0
   clear hG0
   obtain ⟨c0, c1, c2⟩ := row_tok (j := 1) hcr rfl
   clear hcr
   go_wp2_with fail
   refine (unhide HNUM _).mono ?_
   rintro e w3 ⟨rfl, hb3⟩
   have hrb3 := (hb3.block w.heap.size (by simp; omega)).trans ((Below.heap_alloc _ _ _ hrl).trans (unhide HRB))
   have hab3 := (hb3.block (w.heap.size + 1) (by simp; omega)).trans ((Below.heap_alloc _ _ _ hal).trans (unhide HAB))
   have HRB3 := hide hrb3
   have HAB3 := hide hab3
   have HB3 := hide (((unhide HB).alloc (by omega) _).trans (hb3.mono (by simp; omega)))
   have HG3 := hide ((unhide HG0).later (((Below.refl _ _).alloc (Nat.le_refl _) _).trans (hb3.mono (by simp))))
   clear hb3 hrb3 hab3 c0 c1 c2
   go_wp2_with fail
   go_roundw
   case rel => exact ⟨2, p0, p1, _, by first | rfl | go_num, rfl, unhide HB3, unhide HRB3, unhide HAB3, Or.inr (Or.inr ⟨rfl, rfl, unhide HG3⟩)⟩
   case measure => simp [intOf]
  ·have HG0 := hide hG0
   clear hG0
   clear abc abf hcr
   go_wp2_with fail
   refine (find_any r.word.s _).mono ?_
   rintro e w2 ⟨hb2, b, hbb, htk2, hcase⟩
   obtain ⟨hno, rfl⟩ : tplNo r.word.s.toList ≤ 11 ∧ e = _ := by
    rcases hcase with h | ⟨h, _⟩
    ·exact h
    ·exact absurd (by have := unhide HN; omega) h
   have hkr2 := (hb2.block _ hkl2).trans (((unhide HB).block _ hkl).trans (unhide HK))
   have hrb2 := (hb2.block _ hrl).trans (unhide HRB)
   have hab2 := (hb2.block _ hal).trans (unhide HAB)
   have HB2 := hide ((unhide HB).trans (hb2.mono hwl))
   have HG0 := hide ((unhide HG0).later hb2)
   clear hb2 htk2 hcase kc
   have hkl3 := lt_of_blk hkr2
   have hrl3 := lt_of_blk hrb2
   have hal3 := lt_of_blk hab2
   have HKR2 := hide hkr2
   have HRB2 := hide hrb2
   have HAB2 := hide hab2
   unfold cbl at hkr2
   have kc := fun o => cell_of_blk hkr2 o
   have abc := fun o => cell_of_blk hab2 o
   clear hkr2 hrb2 hab2
   generalize hNo : tplNo r.word.s.toList = no at *
   have HNOE := hide hNo
   clear hNo
   go_wp2_with fail
   refine wp_region_held_drew (S := fun w' => w'.cell? ⟨kb, 1, none⟩ = some (.string r.word.s) ∧ w'.cell? ⟨kb, 3, none⟩ = some (.slice (some ⟨g, 0, none⟩) 2 ac) ∧ w'.cell? ⟨w2.heap.size, 2, none⟩ = some (.func (.func (fnNo no)) #[] #[]) ∧ w'.cell? ⟨w.heap.size + 1, 0, none⟩ = some (.pointer p0) ∧ w'.cell? ⟨w.heap.size + 1, 1, none⟩ = some (.pointer p1)) (by kernel_rfl) ?_ (fun hHeld => ?_)
   ·refine ⟨?_, ?_, ?_, ?_, ?_⟩
    ·show (World.alloc _ _).cell? _ = _; rw [World.cell?_alloc_lt _ _ _ hkl3]; exact kc 1
    ·show (World.alloc _ _).cell? _ = _; rw [World.cell?_alloc_lt _ _ _ hkl3]; exact kc 3
    ·exact cell_of_blk (blk_alloc _ _) 2
    ·show (World.alloc _ _).cell? _ = _; rw [World.cell?_alloc_lt _ _ _ hal3]; exact abc 0
    ·show (World.alloc _ _).cell? _ = _; rw [World.cell?_alloc_lt _ _ _ hal3]; exact abc 1
   refine wpAnyH_take (i := 0) (v := .pointer (some ⟨kb, 0, none⟩)) rfl (by kernel_rfl) (by kernel_rfl) (by kernel_rfl) (fun _ _ _ h => h) (Or.inl ⟨by kernel_rfl, fun w hw => by obtain ⟨s0, s1, s2, s3, s4⟩ := hw; go_simp⟩) hHeld ?_
   try simp only [Act.put, zA, zB, zC, zD, zE, zF]
   refine wpAnyH_take (i := 1) (v := .pointer (some ⟨kb, 0, none⟩)) rfl (by kernel_rfl) (by kernel_rfl) (by kernel_rfl) (fun _ _ _ h => h) (Or.inl ⟨by kernel_rfl, fun w hw => by obtain ⟨s0, s1, s2, s3, s4⟩ := hw; go_simp⟩) hHeld ?_
   try simp only [Act.put, zA, zB, zC, zD, zE, zF]
   refine wpAnyH_take (i := 2) (v := .pointer (some ⟨kb, 0, none⟩)) rfl (by kernel_rfl) (by kernel_rfl) (by kernel_rfl) (fun _ _ _ h => h) (Or.inl ⟨by kernel_rfl, fun w hw => by obtain ⟨s0, s1, s2, s3, s4⟩ := hw; go_simp⟩) hHeld ?_
   try simp only [Act.put, zA, zB, zC, zD, zE, zF]
   refine wpAnyH_take (i := 3) (v := .pointer (some ⟨kb, 1, none⟩)) rfl (by kernel_rfl) (by kernel_rfl) (by kernel_rfl) (fun _ _ _ h => h) (Or.inl ⟨by kernel_rfl, fun w hw => by obtain ⟨s0, s1, s2, s3, s4⟩ := hw; go_simp⟩) hHeld ?_
   try simp only [Act.put, zA, zB, zC, zD, zE, zF]
   refine wpAnyH_take (i := 4) (v := .string r.word.s) rfl (by kernel_rfl) (by kernel_rfl) (by kernel_rfl) (fun _ _ _ h => h) (Or.inl ⟨by kernel_rfl, fun w hw => by obtain ⟨s0, s1, s2, s3, s4⟩ := hw; go_simp⟩) hHeld ?_
   try simp only [Act.put, zA, zB, zC, zD, zE, zF]
   refine wpAnyH_take (i := 5) (v := .pointer (some ⟨kb, 0, none⟩)) rfl (by kernel_rfl) (by kernel_rfl) (by kernel_rfl) (fun _ _ _ h => h) (Or.inl ⟨by kernel_rfl, fun w hw => by obtain ⟨s0, s1, s2, s3, s4⟩ := hw; go_simp⟩) hHeld ?_
   try simp only [Act.put, zA, zB, zC, zD, zE, zF]
   refine wpAnyH_take (i := 6) (v := .pointer (some ⟨kb, 0, none⟩)) rfl (by kernel_rfl) (by kernel_rfl) (by kernel_rfl) (fun _ _ _ h => h) (Or.inl ⟨by kernel_rfl, fun w hw => by obtain ⟨s0, s1, s2, s3, s4⟩ := hw; go_simp⟩) hHeld ?_
   try simp only [Act.put, zA, zB, zC, zD, zE, zF]
   refine wpAnyH_take (i := 7) (v := .pointer (some ⟨kb, 3, none⟩)) rfl (by kernel_rfl) (by kernel_rfl) (by kernel_rfl) (fun _ _ _ h => h) (Or.inl ⟨by kernel_rfl, fun w hw => by obtain ⟨s0, s1, s2, s3, s4⟩ := hw; go_simp⟩) hHeld ?_
   try simp only [Act.put, zA, zB, zC, zD, zE, zF]
   refine wpAnyH_take (i := 8) (v := .slice (some ⟨g, 0, none⟩) 2 ac) rfl (by kernel_rfl) (by kernel_rfl) (by kernel_rfl) (fun _ _ _ h => h) (Or.inl ⟨by kernel_rfl, fun w hw => by obtain ⟨s0, s1, s2, s3, s4⟩ := hw; go_simp⟩) hHeld ?_
   try simp only [Act.put, zA, zB, zC, zD, zE, zF]
   refine wpAnyH_take (i := 10) (v := .pointer (some ⟨w2.heap.size, 2, none⟩)) rfl (by kernel_rfl) (by kernel_rfl) (by kernel_rfl) (fun _ _ _ h => h) (Or.inl ⟨by kernel_rfl, fun w hw => by obtain ⟨s0, s1, s2, s3, s4⟩ := hw; go_simp⟩) hHeld ?_
   try simp only [Act.put, zA, zB, zC, zD, zE, zF]
   refine wpAnyH_take (i := 11) (v := .func (.func (fnNo no)) #[] #[]) rfl (by kernel_rfl) (by kernel_rfl) (by kernel_rfl) (fun _ _ _ h => h) (Or.inl ⟨by kernel_rfl, fun w hw => by obtain ⟨s0, s1, s2, s3, s4⟩ := hw; go_simp⟩) hHeld ?_
   try simp only [Act.put, zA, zB, zC, zD, zE, zF]
   refine wpAnyH_take (i := 12) (v := .pointer (some ⟨w.heap.size + 1, 0, none⟩)) rfl (by kernel_rfl) (by kernel_rfl) (by kernel_rfl) (fun _ _ _ h => h) (Or.inl ⟨by kernel_rfl, fun w hw => by obtain ⟨s0, s1, s2, s3, s4⟩ := hw; go_simp⟩) hHeld ?_
   try simp only [Act.put, zA, zB, zC, zD, zE, zF]
   refine wpAnyH_take (i := 13) (v := .pointer p0) rfl (by kernel_rfl) (by kernel_rfl) (by kernel_rfl) (fun _ _ _ h => h) (Or.inl ⟨by kernel_rfl, fun w hw => by obtain ⟨s0, s1, s2, s3, s4⟩ := hw; go_simp⟩) hHeld ?_
   try simp only [Act.put, zA, zB, zC, zD, zE, zF]
   refine wpAnyH_take (i := 14) (v := .pointer (some ⟨w.heap.size + 1, 1, none⟩)) rfl (by kernel_rfl) (by kernel_rfl) (by kernel_rfl) (fun _ _ _ h => h) (Or.inl ⟨by kernel_rfl, fun w hw => by obtain ⟨s0, s1, s2, s3, s4⟩ := hw; go_simp⟩) hHeld ?_
   try simp only [Act.put, zA, zB, zC, zD, zE, zF]
   refine wpAnyH_take (i := 15) (v := .pointer p1) rfl (by kernel_rfl) (by kernel_rfl) (by kernel_rfl) (fun _ _ _ h => h) (Or.inl ⟨by kernel_rfl, fun w hw => by obtain ⟨s0, s1, s2, s3, s4⟩ := hw; go_simp⟩) hHeld ?_
   try simp only [Act.put, zA, zB, zC, zD, zE, zF]
   refine wpAnyH_take (i := 16) (v := .int .i64 (((d.toNat - 48 : Nat) : Int) : Int)) rfl (by kernel_rfl) (by kernel_rfl) (by kernel_rfl) (fun _ _ _ h => h) (Or.inl ⟨by kernel_rfl, fun w hw => by obtain ⟨s0, s1, s2, s3, s4⟩ := hw; go_simp⟩) hHeld ?_
   try simp only [Act.put, zA, zB, zC, zD, zE, zF]
   refine wpAnyH_ready (rs := [9]) (by kernel_rfl) (by simp) ?_
   refine AllReadyH.cons rfl (fun K hK => ?_) AllReadyH.nil
   go_simp
   refine (texts_any _ [x, y] (some ⟨g, 0, none⟩) 2 ac (owns_later (owns_below (unhide HO) (unhide HB2)) (((Below.refl _ _).alloc (Nat.le_refl _) _).drew)) (by simp) (unhide HZZ)).mono ?_
   rintro e w6 ⟨v6, rfl, hown6, hb6⟩
   obtain ⟨o6, n6, k6, hv6⟩ := row_slice hown6
   subst hv6
   have hS6 : w6.cell? ⟨kb, 1, none⟩ = some (.string r.word.s) ∧ w6.cell? ⟨kb, 3, none⟩ = some (.slice (some ⟨g, 0, none⟩) 2 ac) ∧ w6.cell? ⟨w2.heap.size, 2, none⟩ = some (.func (.func (fnNo no)) #[] #[]) ∧ w6.cell? ⟨w.heap.size + 1, 0, none⟩ = some (.pointer p0) ∧ w6.cell? ⟨w.heap.size + 1, 1, none⟩ = some (.pointer p1) :=
    ⟨(bcell3 hb6 _ _ (by simp; omega)).trans hHeld.1, (bcell3 hb6 _ _ (by simp; omega)).trans hHeld.2.1, (bcell3 hb6 _ _ (by simp)).trans hHeld.2.2.1, (bcell3 hb6 _ _ (by simp; omega)).trans hHeld.2.2.2.1, (bcell3 hb6 _ _ (by simp; omega)).trans hHeld.2.2.2.2⟩
   refine hK.out _ _ hS6 (fun hHeld => ?_)
   clear hK K hS6
   have hbz := ((Below.refl w2.heap.size w2).alloc (Nat.le_refl _) (.cells #[.string (twB no), .slice (some ⟨tkB b no, 0, none⟩) (tkL no) (tkL no), .func (.func (fnNo no)) #[] #[]] 265)).drew.trans (hb6.mono (by simp))
   have HG0 := hide ((unhide HG0).later hbz)
   have hrb6 := (hbz.block _ hrl3).trans (unhide HRB2)
   have HB6 := hide ((unhide HB2).trans (hbz.mono (by omega)))
   have HO6 := hide (owns_mono hown6 (show w.heap.size ≤ _ by simp; omega))
   have HRB6 := hide hrb6
   have hrl6 := lt_of_blk hrb6
   have hz6 := hbz.size
   clear hb6 hown6 hbz hrb6
   have cf := callFn no hno
   refine wpAnyH_ready (rs := [17]) (by kernel_rfl) (by simp) ?_
   refine AllReadyH.cons rfl (fun K hK => ?_) AllReadyH.nil
   go_simp
   refine (tplFn_any no hno x.s ByteArray.empty (d.toNat - 48) p0 p1 _ (unhide HG0) (fun h => absurd h (by have := unhide HN; omega)) hdd).mono ?_
   rintro e w7 ⟨p7, rfl, hG7, hb7⟩
   have hS7 : w7.cell? ⟨kb, 1, none⟩ = some (.string r.word.s) ∧ w7.cell? ⟨kb, 3, none⟩ = some (.slice (some ⟨g, 0, none⟩) 2 ac) ∧ w7.cell? ⟨w2.heap.size, 2, none⟩ = some (.func (.func (fnNo no)) #[] #[]) ∧ w7.cell? ⟨w.heap.size + 1, 0, none⟩ = some (.pointer p0) ∧ w7.cell? ⟨w.heap.size + 1, 1, none⟩ = some (.pointer p1) :=
    ⟨(bcell3 hb7 _ _ (by omega)).trans hHeld.1, (bcell3 hb7 _ _ (by omega)).trans hHeld.2.1, (bcell3 hb7 _ _ (World.block_lt_of_cell? _ _ hHeld.2.2.1)).trans hHeld.2.2.1, (bcell3 hb7 _ _ (by omega)).trans hHeld.2.2.2.1, (bcell3 hb7 _ _ (by omega)).trans hHeld.2.2.2.2⟩
   refine hK.out _ _ hS7 (fun hHeld => ?_)
   clear hK K hS7
   have hrb7 := (hb7.block _ hrl6).trans (unhide HRB6)
   have rc7 := fun o => cell_of_blk hrb7 o
   have rf7 := fun o => frozen_of_blk hrb7 o
   have hrl7 := lt_of_blk hrb7
   have HG7 := hide hG7
   have HRB7 := hide hrb7
   have HO7 := hide (owns_later (unhide HO6) hb7)
   have HB7 := hide ((unhide HB6).trans (hb7.mono (by omega)))
   clear hG7 hb7 hrb7
   refine wpAnyH_take (i := 18) (v := .agg #[.string r.word.s, .slice o6 n6 k6, .pointer p7]) rfl (by kernel_rfl) (by kernel_rfl) (by kernel_rfl) (fun _ _ _ h => h) (Or.inl ⟨by kernel_rfl, fun w hw => by obtain ⟨s0, s1, s2, s3, s4⟩ := hw; go_simp⟩) hHeld ?_
   try simp only [Act.put, zA, zB, zC, zD, zE, zF]
   refine wpAnyH_ready (rs := [19]) (by kernel_rfl) (by simp) ?_
   refine AllReadyH.cons rfl (fun K hK => ?_) AllReadyH.nil
   go_simp
   have hfar : ∀ (q o : Nat) (v0 v1 v2 : Value), q ≠ w.heap.size → (((w7.setCell ⟨w.heap.size, 0, none⟩ v0).setCell ⟨w.heap.size, 1, none⟩ v1).setCell ⟨w.heap.size, 2, none⟩ v2).cell? ⟨q, o, none⟩ = w7.cell? ⟨q, o, none⟩ := fun q o v0 v1 v2 hq => by
    rw [World.cell?_setCell_far _ _ _ _ (by show w.heap.size ≠ q; omega), World.cell?_setCell_far _ _ _ _ (by show w.heap.size ≠ q; omega), World.cell?_setCell_far _ _ _ _ (by show w.heap.size ≠ q; omega)]
   refine hK.out _ _ ⟨(hfar _ _ _ _ _ (by omega)).trans hHeld.1, (hfar _ _ _ _ _ (by omega)).trans hHeld.2.1, (hfar _ _ _ _ _ (by omega)).trans hHeld.2.2.1, (hfar _ _ _ _ _ (by omega)).trans hHeld.2.2.2.1, (hfar _ _ _ _ _ (by omega)).trans hHeld.2.2.2.2⟩ (fun hHeld => ?_)
   clear hK K hfar hHeld
   refine wpAnyH_done (by kernel_rfl) ?_ _
   go_wp2_with fail
   have hfin : (((w7.setCell ⟨w.heap.size, 0, none⟩ (.string r.word.s)).setCell ⟨w.heap.size, 1, none⟩ (.slice o6 n6 k6)).setCell ⟨w.heap.size, 2, none⟩ (.pointer p7)).heap[w.heap.size]? = some (.cells #[.string r.word.s, .slice o6 n6 k6, .pointer p7] 144 (0, 0)) := blk_set (blk_set (blk_set (unhide HRB7) 0 _) 1 _) 2 _
   have rc8 := fun o => cell_of_blk hfin o
   clear rc7
   refine bodyPost_ret (v := .agg #[.string r.word.s, .slice o6 n6 k6, .pointer p7]) (by simp [results, Tryz.results118, go_sem, rc8]) rfl ?_
   have hnr : (Value.slice o6 n6 k6).ownBlock ≠ some w.heap.size := fun e => own_ty (unhide HO7) e (unhide HRB7) (by decide)
   refine ⟨(((unhide HB7).setCell (Nat.le_refl _) _).setCell (Nat.le_refl _) _).setCell (Nat.le_refl _) _, o6, n6, k6, p7, rfl, owns_keep (owns_keep (owns_keep (unhide HO7) (grown_set _ _ _ _) (Or.inr hnr)) (grown_set _ _ _ _) (Or.inr hnr)) (grown_set _ _ _ _) (Or.inr hnr), ?_⟩
   have hG8 := setG (o := 2) (v := .pointer p7) (blk_set (blk_set (unhide HRB7) 0 (.string r.word.s)) 1 (.slice o6 n6 k6)) (by decide) (setG (o := 1) (v := .slice o6 n6 k6) (blk_set (unhide HRB7) 0 (.string r.word.s)) (by decide) (setG (o := 0) (v := .string r.word.s) (unhide HRB7) (by decide) (unhide HG7)))
   rw [unhide HNOE]
   exact hG8
set_option maxHeartbeats 8000000 in
set_option maxRecDepth 100000 in
theorem buildCall_C (w : World) (r : Rl) (kb g ac : Nat) (xx : Tk) (x y : Tk) (hk : w.heap[kb]? = some (cbl r.word (some ⟨g, 0, none⟩) 2 ac xx)) (ho : w.ownsRow 0 201 3 (.slice (some ⟨g, 0, none⟩) 2 ac) 2 (tkCellsP [x, y])) (hx : x.k = 2) (hy : y.k = 2) (hn : 4 ≤ tplNo r.word.s.toList ∧ tplNo r.word.s.toList ≤ 11) (hz : ∀ t ∈ [x, y], t.s.size ≤ 400) :
  Calls Tryz.prog 118 #[.pointer (some ⟨kb, 0, none⟩)] w fun e w' => BcPost w w' r.word.s [x, y] (tplF (tplNo r.word.s.toList) x.s y.s 0) e := by
 have HZZ := hide hz
 clear hz
 have HO := hide ho
 obtain ⟨-, hrow⟩ := row_tkP (L := [x, y]) ho
 obtain ⟨g', hg', hle, hcap, hcur⟩ := hrow (by simp)
 cases hg'
 have HCUR := hide hcur
 have HK := hide hk
 have hkl := lt_of_blk hk
 have hgl : g < w.heap.size := by obtain ⟨cur, h1, _⟩ := hcur; exact lt_of_blk h1
 unfold cbl at hk
 have kc := fun o => cell_of_blk hk o
 have e3 : ((x.k : Int) == 3) = false := beqF (c := 3) (by omega)
 have f3 : ((y.k : Int) == 3) = false := beqF (c := 3) (by omega)
 have HN := hide hn
 clear hx hn hy
 clear ho hrow hcur hk hle hcap
 go_enter Tryz.func118, Tryz.ntmps118
 go_wp2_with fail
 go_loopw [4, 14] (fun tm i wr => ∃ (z : Int) (p0 p1 : Option Addr) (tv : Int), i = .int .i64 z ∧ tm = .int .i64 tv ∧ Below w.heap.size w wr ∧ wr.heap[w.heap.size]? = some (.cells #[.string ⟨#[]⟩, .slice none 0 0, .pointer none] 144 (0, 0)) ∧ wr.heap[w.heap.size + 1]? = some (.cells #[.pointer p0, .pointer p1] 257 (0, 0)) ∧ ((z = 0 ∧ tv = 0) ∨ (z = 1 ∧ tv = 0 ∧ IsG wr (acF x.s) p0) ∨ (z = 2 ∧ tv = 0 ∧ IsG wr (acF x.s) p0 ∧ IsG wr (acF y.s) p1))) (fun _ i _ => (2 - intOf i).toNat)
 case atStart =>
  refine ⟨0, none, none, 0, rfl, rfl, ((Below.refl _ _).alloc (Nat.le_refl _) _).alloc (by simp) _, (Below.heap_alloc _ _ _ (by simp)).trans (blk_alloc _ _), blk_alloc' _ _ _ (by simp), Or.inl ⟨rfl, rfl⟩⟩
 case round =>
  clear kc
  obtain ⟨z, p0, p1, tv, rfl, rfl, hbel, hrb, hab, hst⟩ := hrel
  have HB := hide hbel
  have HRB := hide hrb
  have HAB := hide hab
  have hwl := hbel.size
  have hrl : w.heap.size < wr.heap.size := lt_of_blk hrb
  have hal : w.heap.size + 1 < wr.heap.size := lt_of_blk hab
  have hkr := (hbel.block _ hkl).trans (unhide HK)
  have hkl2 : kb < wr.heap.size := by omega
  have hgl2 : g < wr.heap.size := by omega
  unfold cbl at hkr
  have kc := fun o => cell_of_blk hkr o
  have abc := fun o => cell_of_blk hab o
  have abf := fun o => frozen_of_blk hab o
  have hcr : ∃ cur, wr.heap[g]? = some (.cells cur 201 (0, 0)) ∧ cur.toList.take ([x, y].length * 3) = tkCellsP [x, y] := by
   obtain ⟨cur, h1, h2⟩ := unhide HCUR
   exact ⟨cur, (hbel.block _ (lt_of_blk h1)).trans h1, h2⟩
  clear hbel hrb hab hkr
  rcases hst with ⟨rfl, rfl⟩ | ⟨rfl, rfl, hG0⟩ | ⟨rfl, rfl, hG0, hG1⟩
  ·skip
   obtain ⟨c0, c1, c2⟩ := row_tok (j := 0) hcr rfl
   clear hcr
   go_wp2_with fail
   refine (fActivity_any x.s _).mono ?_
   rintro e w3 ⟨v, rfl, hv, hb3⟩
   have HV := hide (hv 0)
   have hrb3 := (hb3.block w.heap.size (by simp; omega)).trans ((Below.heap_alloc _ _ _ hrl).trans (unhide HRB))
   have hab3 := (hb3.block (w.heap.size + 1) (by simp; omega)).trans ((Below.heap_alloc _ _ _ hal).trans (unhide HAB))
   have HRB3 := hide hrb3
   have HAB3 := hide hab3
   have HB3 := hide (((unhide HB).alloc (by omega) _).trans (hb3.mono (by simp; omega)))
   have hal3 := lt_of_blk hab3
   clear abc abf
   have abc := fun o => cell_of_blk hab3 o
   have abf := fun o => frozen_of_blk hab3 o
   clear hv hb3 hrb3 hab3 c0 c1 c2
   go_wp2_with fail
   go_roundw
   case rel =>
    refine ⟨1, v, p1, 0, by first | rfl | go_num, rfl, (unhide HB3).setCell (by show w.heap.size ≤ w.heap.size + 1; omega) _, (Below.heap_setCell _ _ _ _ (by show w.heap.size ≠ w.heap.size + 1; omega)).trans (unhide HRB3), blk_set (unhide HAB3) 0 _, Or.inr (Or.inl ⟨rfl, rfl, setG (unhide HAB3) (by decide) (unhide HV)⟩)⟩
   case measure => simp [intOf]
  ·skip
   have HG0 := hide hG0
   clear hG0
   obtain ⟨c0, c1, c2⟩ := row_tok (j := 1) hcr rfl
   clear hcr
   go_wp2_with fail
   refine (fActivity_any y.s _).mono ?_
   rintro e w3 ⟨v, rfl, hv, hb3⟩
   have HV := hide (hv 0)
   have hrb3 := (hb3.block w.heap.size (by simp; omega)).trans ((Below.heap_alloc _ _ _ hrl).trans (unhide HRB))
   have hab3 := (hb3.block (w.heap.size + 1) (by simp; omega)).trans ((Below.heap_alloc _ _ _ hal).trans (unhide HAB))
   have HRB3 := hide hrb3
   have HAB3 := hide hab3
   have HB3 := hide (((unhide HB).alloc (by omega) _).trans (hb3.mono (by simp; omega)))
   have HG3 := hide ((unhide HG0).later (((Below.refl _ _).alloc (Nat.le_refl _) _).trans (hb3.mono (by simp))))
   have hal3 := lt_of_blk hab3
   clear abc abf
   have abc := fun o => cell_of_blk hab3 o
   have abf := fun o => frozen_of_blk hab3 o
   clear hv hb3 hrb3 hab3 c0 c1 c2
   go_wp2_with fail
   go_roundw
   case rel => exact ⟨2, p0, v, 0, by first | rfl | go_num, rfl, (unhide HB3).setCell (by show w.heap.size ≤ w.heap.size + 1; omega) _, (Below.heap_setCell _ _ _ _ (by show w.heap.size ≠ w.heap.size + 1; omega)).trans (unhide HRB3), blk_set (unhide HAB3) 1 _, Or.inr (Or.inr ⟨rfl, rfl, setG (unhide HAB3) (by decide) (unhide HG3), setG (unhide HAB3) (by decide) (unhide HV)⟩)⟩
   case measure => simp [intOf]
  ·have HG0 := hide hG0
   have HG1 := hide hG1
   clear hG0 hG1
   clear abc abf hcr
   go_wp2_with fail
   refine (find_any r.word.s _).mono ?_
   rintro e w2 ⟨hb2, b, hbb, htk2, hcase⟩
   obtain ⟨hno, rfl⟩ : tplNo r.word.s.toList ≤ 11 ∧ e = _ := by
    rcases hcase with h | ⟨h, _⟩
    ·exact h
    ·exact absurd (by have := unhide HN; omega) h
   have hkr2 := (hb2.block _ hkl2).trans (((unhide HB).block _ hkl).trans (unhide HK))
   have hrb2 := (hb2.block _ hrl).trans (unhide HRB)
   have hab2 := (hb2.block _ hal).trans (unhide HAB)
   have HB2 := hide ((unhide HB).trans (hb2.mono hwl))
   have HG0 := hide ((unhide HG0).later hb2)
   have HG1 := hide ((unhide HG1).later hb2)
   clear hb2 htk2 hcase kc
   have hkl3 := lt_of_blk hkr2
   have hrl3 := lt_of_blk hrb2
   have hal3 := lt_of_blk hab2
   have HKR2 := hide hkr2
   have HRB2 := hide hrb2
   have HAB2 := hide hab2
   unfold cbl at hkr2
   have kc := fun o => cell_of_blk hkr2 o
   have abc := fun o => cell_of_blk hab2 o
   clear hkr2 hrb2 hab2
   generalize hNo : tplNo r.word.s.toList = no at *
   have HNOE := hide hNo
   clear hNo
   go_wp2_with fail
   refine wp_region_held_drew (S := fun w' => w'.cell? ⟨kb, 1, none⟩ = some (.string r.word.s) ∧ w'.cell? ⟨kb, 3, none⟩ = some (.slice (some ⟨g, 0, none⟩) 2 ac) ∧ w'.cell? ⟨w2.heap.size, 2, none⟩ = some (.func (.func (fnNo no)) #[] #[]) ∧ w'.cell? ⟨w.heap.size + 1, 0, none⟩ = some (.pointer p0) ∧ w'.cell? ⟨w.heap.size + 1, 1, none⟩ = some (.pointer p1)) (by kernel_rfl) ?_ (fun hHeld => ?_)
   ·refine ⟨?_, ?_, ?_, ?_, ?_⟩
    ·show (World.alloc _ _).cell? _ = _; rw [World.cell?_alloc_lt _ _ _ hkl3]; exact kc 1
    ·show (World.alloc _ _).cell? _ = _; rw [World.cell?_alloc_lt _ _ _ hkl3]; exact kc 3
    ·exact cell_of_blk (blk_alloc _ _) 2
    ·show (World.alloc _ _).cell? _ = _; rw [World.cell?_alloc_lt _ _ _ hal3]; exact abc 0
    ·show (World.alloc _ _).cell? _ = _; rw [World.cell?_alloc_lt _ _ _ hal3]; exact abc 1
   refine wpAnyH_take (i := 0) (v := .pointer (some ⟨kb, 0, none⟩)) rfl (by kernel_rfl) (by kernel_rfl) (by kernel_rfl) (fun _ _ _ h => h) (Or.inl ⟨by kernel_rfl, fun w hw => by obtain ⟨s0, s1, s2, s3, s4⟩ := hw; go_simp⟩) hHeld ?_
   try simp only [Act.put, zA, zB, zC, zD, zE, zF]
   refine wpAnyH_take (i := 1) (v := .pointer (some ⟨kb, 0, none⟩)) rfl (by kernel_rfl) (by kernel_rfl) (by kernel_rfl) (fun _ _ _ h => h) (Or.inl ⟨by kernel_rfl, fun w hw => by obtain ⟨s0, s1, s2, s3, s4⟩ := hw; go_simp⟩) hHeld ?_
   try simp only [Act.put, zA, zB, zC, zD, zE, zF]
   refine wpAnyH_take (i := 2) (v := .pointer (some ⟨kb, 0, none⟩)) rfl (by kernel_rfl) (by kernel_rfl) (by kernel_rfl) (fun _ _ _ h => h) (Or.inl ⟨by kernel_rfl, fun w hw => by obtain ⟨s0, s1, s2, s3, s4⟩ := hw; go_simp⟩) hHeld ?_
   try simp only [Act.put, zA, zB, zC, zD, zE, zF]
   refine wpAnyH_take (i := 3) (v := .pointer (some ⟨kb, 1, none⟩)) rfl (by kernel_rfl) (by kernel_rfl) (by kernel_rfl) (fun _ _ _ h => h) (Or.inl ⟨by kernel_rfl, fun w hw => by obtain ⟨s0, s1, s2, s3, s4⟩ := hw; go_simp⟩) hHeld ?_
   try simp only [Act.put, zA, zB, zC, zD, zE, zF]
   refine wpAnyH_take (i := 4) (v := .string r.word.s) rfl (by kernel_rfl) (by kernel_rfl) (by kernel_rfl) (fun _ _ _ h => h) (Or.inl ⟨by kernel_rfl, fun w hw => by obtain ⟨s0, s1, s2, s3, s4⟩ := hw; go_simp⟩) hHeld ?_
   try simp only [Act.put, zA, zB, zC, zD, zE, zF]
   refine wpAnyH_take (i := 5) (v := .pointer (some ⟨kb, 0, none⟩)) rfl (by kernel_rfl) (by kernel_rfl) (by kernel_rfl) (fun _ _ _ h => h) (Or.inl ⟨by kernel_rfl, fun w hw => by obtain ⟨s0, s1, s2, s3, s4⟩ := hw; go_simp⟩) hHeld ?_
   try simp only [Act.put, zA, zB, zC, zD, zE, zF]
   refine wpAnyH_take (i := 6) (v := .pointer (some ⟨kb, 0, none⟩)) rfl (by kernel_rfl) (by kernel_rfl) (by kernel_rfl) (fun _ _ _ h => h) (Or.inl ⟨by kernel_rfl, fun w hw => by obtain ⟨s0, s1, s2, s3, s4⟩ := hw; go_simp⟩) hHeld ?_
   try simp only [Act.put, zA, zB, zC, zD, zE, zF]
   refine wpAnyH_take (i := 7) (v := .pointer (some ⟨kb, 3, none⟩)) rfl (by kernel_rfl) (by kernel_rfl) (by kernel_rfl) (fun _ _ _ h => h) (Or.inl ⟨by kernel_rfl, fun w hw => by obtain ⟨s0, s1, s2, s3, s4⟩ := hw; go_simp⟩) hHeld ?_
   try simp only [Act.put, zA, zB, zC, zD, zE, zF]
   refine wpAnyH_take (i := 8) (v := .slice (some ⟨g, 0, none⟩) 2 ac) rfl (by kernel_rfl) (by kernel_rfl) (by kernel_rfl) (fun _ _ _ h => h) (Or.inl ⟨by kernel_rfl, fun w hw => by obtain ⟨s0, s1, s2, s3, s4⟩ := hw; go_simp⟩) hHeld ?_
   try simp only [Act.put, zA, zB, zC, zD, zE, zF]
   refine wpAnyH_take (i := 10) (v := .pointer (some ⟨w2.heap.size, 2, none⟩)) rfl (by kernel_rfl) (by kernel_rfl) (by kernel_rfl) (fun _ _ _ h => h) (Or.inl ⟨by kernel_rfl, fun w hw => by obtain ⟨s0, s1, s2, s3, s4⟩ := hw; go_simp⟩) hHeld ?_
   try simp only [Act.put, zA, zB, zC, zD, zE, zF]
   refine wpAnyH_take (i := 11) (v := .func (.func (fnNo no)) #[] #[]) rfl (by kernel_rfl) (by kernel_rfl) (by kernel_rfl) (fun _ _ _ h => h) (Or.inl ⟨by kernel_rfl, fun w hw => by obtain ⟨s0, s1, s2, s3, s4⟩ := hw; go_simp⟩) hHeld ?_
   try simp only [Act.put, zA, zB, zC, zD, zE, zF]
   refine wpAnyH_take (i := 12) (v := .pointer (some ⟨w.heap.size + 1, 0, none⟩)) rfl (by kernel_rfl) (by kernel_rfl) (by kernel_rfl) (fun _ _ _ h => h) (Or.inl ⟨by kernel_rfl, fun w hw => by obtain ⟨s0, s1, s2, s3, s4⟩ := hw; go_simp⟩) hHeld ?_
   try simp only [Act.put, zA, zB, zC, zD, zE, zF]
   refine wpAnyH_take (i := 13) (v := .pointer p0) rfl (by kernel_rfl) (by kernel_rfl) (by kernel_rfl) (fun _ _ _ h => h) (Or.inl ⟨by kernel_rfl, fun w hw => by obtain ⟨s0, s1, s2, s3, s4⟩ := hw; go_simp⟩) hHeld ?_
   try simp only [Act.put, zA, zB, zC, zD, zE, zF]
   refine wpAnyH_take (i := 14) (v := .pointer (some ⟨w.heap.size + 1, 1, none⟩)) rfl (by kernel_rfl) (by kernel_rfl) (by kernel_rfl) (fun _ _ _ h => h) (Or.inl ⟨by kernel_rfl, fun w hw => by obtain ⟨s0, s1, s2, s3, s4⟩ := hw; go_simp⟩) hHeld ?_
   try simp only [Act.put, zA, zB, zC, zD, zE, zF]
   refine wpAnyH_take (i := 15) (v := .pointer p1) rfl (by kernel_rfl) (by kernel_rfl) (by kernel_rfl) (fun _ _ _ h => h) (Or.inl ⟨by kernel_rfl, fun w hw => by obtain ⟨s0, s1, s2, s3, s4⟩ := hw; go_simp⟩) hHeld ?_
   try simp only [Act.put, zA, zB, zC, zD, zE, zF]
   refine wpAnyH_take (i := 16) (v := .int .i64 (0 : Int)) rfl (by kernel_rfl) (by kernel_rfl) (by kernel_rfl) (fun _ _ _ h => h) (Or.inl ⟨by kernel_rfl, fun w hw => by obtain ⟨s0, s1, s2, s3, s4⟩ := hw; go_simp⟩) hHeld ?_
   try simp only [Act.put, zA, zB, zC, zD, zE, zF]
   refine wpAnyH_ready (rs := [9]) (by kernel_rfl) (by simp) ?_
   refine AllReadyH.cons rfl (fun K hK => ?_) AllReadyH.nil
   go_simp
   refine (texts_any _ [x, y] (some ⟨g, 0, none⟩) 2 ac (owns_later (owns_below (unhide HO) (unhide HB2)) (((Below.refl _ _).alloc (Nat.le_refl _) _).drew)) (by simp) (unhide HZZ)).mono ?_
   rintro e w6 ⟨v6, rfl, hown6, hb6⟩
   obtain ⟨o6, n6, k6, hv6⟩ := row_slice hown6
   subst hv6
   have hS6 : w6.cell? ⟨kb, 1, none⟩ = some (.string r.word.s) ∧ w6.cell? ⟨kb, 3, none⟩ = some (.slice (some ⟨g, 0, none⟩) 2 ac) ∧ w6.cell? ⟨w2.heap.size, 2, none⟩ = some (.func (.func (fnNo no)) #[] #[]) ∧ w6.cell? ⟨w.heap.size + 1, 0, none⟩ = some (.pointer p0) ∧ w6.cell? ⟨w.heap.size + 1, 1, none⟩ = some (.pointer p1) :=
    ⟨(bcell3 hb6 _ _ (by simp; omega)).trans hHeld.1, (bcell3 hb6 _ _ (by simp; omega)).trans hHeld.2.1, (bcell3 hb6 _ _ (by simp)).trans hHeld.2.2.1, (bcell3 hb6 _ _ (by simp; omega)).trans hHeld.2.2.2.1, (bcell3 hb6 _ _ (by simp; omega)).trans hHeld.2.2.2.2⟩
   refine hK.out _ _ hS6 (fun hHeld => ?_)
   clear hK K hS6
   have hbz := ((Below.refl w2.heap.size w2).alloc (Nat.le_refl _) (.cells #[.string (twB no), .slice (some ⟨tkB b no, 0, none⟩) (tkL no) (tkL no), .func (.func (fnNo no)) #[] #[]] 265)).drew.trans (hb6.mono (by simp))
   have HG0 := hide ((unhide HG0).later hbz)
   have HG1 := hide ((unhide HG1).later hbz)
   have hrb6 := (hbz.block _ hrl3).trans (unhide HRB2)
   have HB6 := hide ((unhide HB2).trans (hbz.mono (by omega)))
   have HO6 := hide (owns_mono hown6 (show w.heap.size ≤ _ by simp; omega))
   have HRB6 := hide hrb6
   have hrl6 := lt_of_blk hrb6
   have hz6 := hbz.size
   clear hb6 hown6 hbz hrb6
   have cf := callFn no hno
   refine wpAnyH_ready (rs := [17]) (by kernel_rfl) (by simp) ?_
   refine AllReadyH.cons rfl (fun K hK => ?_) AllReadyH.nil
   go_simp
   refine (tplFn_any no hno x.s y.s 0 p0 p1 _ (unhide HG0) (fun _ => unhide HG1) (by decide)).mono ?_
   rintro e w7 ⟨p7, rfl, hG7, hb7⟩
   have hS7 : w7.cell? ⟨kb, 1, none⟩ = some (.string r.word.s) ∧ w7.cell? ⟨kb, 3, none⟩ = some (.slice (some ⟨g, 0, none⟩) 2 ac) ∧ w7.cell? ⟨w2.heap.size, 2, none⟩ = some (.func (.func (fnNo no)) #[] #[]) ∧ w7.cell? ⟨w.heap.size + 1, 0, none⟩ = some (.pointer p0) ∧ w7.cell? ⟨w.heap.size + 1, 1, none⟩ = some (.pointer p1) :=
    ⟨(bcell3 hb7 _ _ (by omega)).trans hHeld.1, (bcell3 hb7 _ _ (by omega)).trans hHeld.2.1, (bcell3 hb7 _ _ (World.block_lt_of_cell? _ _ hHeld.2.2.1)).trans hHeld.2.2.1, (bcell3 hb7 _ _ (by omega)).trans hHeld.2.2.2.1, (bcell3 hb7 _ _ (by omega)).trans hHeld.2.2.2.2⟩
   refine hK.out _ _ hS7 (fun hHeld => ?_)
   clear hK K hS7
   have hrb7 := (hb7.block _ hrl6).trans (unhide HRB6)
   have rc7 := fun o => cell_of_blk hrb7 o
   have rf7 := fun o => frozen_of_blk hrb7 o
   have hrl7 := lt_of_blk hrb7
   have HG7 := hide hG7
   have HRB7 := hide hrb7
   have HO7 := hide (owns_later (unhide HO6) hb7)
   have HB7 := hide ((unhide HB6).trans (hb7.mono (by omega)))
   clear hG7 hb7 hrb7
   refine wpAnyH_take (i := 18) (v := .agg #[.string r.word.s, .slice o6 n6 k6, .pointer p7]) rfl (by kernel_rfl) (by kernel_rfl) (by kernel_rfl) (fun _ _ _ h => h) (Or.inl ⟨by kernel_rfl, fun w hw => by obtain ⟨s0, s1, s2, s3, s4⟩ := hw; go_simp⟩) hHeld ?_
   try simp only [Act.put, zA, zB, zC, zD, zE, zF]
   refine wpAnyH_ready (rs := [19]) (by kernel_rfl) (by simp) ?_
   refine AllReadyH.cons rfl (fun K hK => ?_) AllReadyH.nil
   go_simp
   have hfar : ∀ (q o : Nat) (v0 v1 v2 : Value), q ≠ w.heap.size → (((w7.setCell ⟨w.heap.size, 0, none⟩ v0).setCell ⟨w.heap.size, 1, none⟩ v1).setCell ⟨w.heap.size, 2, none⟩ v2).cell? ⟨q, o, none⟩ = w7.cell? ⟨q, o, none⟩ := fun q o v0 v1 v2 hq => by
    rw [World.cell?_setCell_far _ _ _ _ (by show w.heap.size ≠ q; omega), World.cell?_setCell_far _ _ _ _ (by show w.heap.size ≠ q; omega), World.cell?_setCell_far _ _ _ _ (by show w.heap.size ≠ q; omega)]
   refine hK.out _ _ ⟨(hfar _ _ _ _ _ (by omega)).trans hHeld.1, (hfar _ _ _ _ _ (by omega)).trans hHeld.2.1, (hfar _ _ _ _ _ (by omega)).trans hHeld.2.2.1, (hfar _ _ _ _ _ (by omega)).trans hHeld.2.2.2.1, (hfar _ _ _ _ _ (by omega)).trans hHeld.2.2.2.2⟩ (fun hHeld => ?_)
   clear hK K hfar hHeld
   refine wpAnyH_done (by kernel_rfl) ?_ _
   go_wp2_with fail
   have hfin : (((w7.setCell ⟨w.heap.size, 0, none⟩ (.string r.word.s)).setCell ⟨w.heap.size, 1, none⟩ (.slice o6 n6 k6)).setCell ⟨w.heap.size, 2, none⟩ (.pointer p7)).heap[w.heap.size]? = some (.cells #[.string r.word.s, .slice o6 n6 k6, .pointer p7] 144 (0, 0)) := blk_set (blk_set (blk_set (unhide HRB7) 0 _) 1 _) 2 _
   have rc8 := fun o => cell_of_blk hfin o
   clear rc7
   refine bodyPost_ret (v := .agg #[.string r.word.s, .slice o6 n6 k6, .pointer p7]) (by simp [results, Tryz.results118, go_sem, rc8]) rfl ?_
   have hnr : (Value.slice o6 n6 k6).ownBlock ≠ some w.heap.size := fun e => own_ty (unhide HO7) e (unhide HRB7) (by decide)
   refine ⟨(((unhide HB7).setCell (Nat.le_refl _) _).setCell (Nat.le_refl _) _).setCell (Nat.le_refl _) _, o6, n6, k6, p7, rfl, owns_keep (owns_keep (owns_keep (unhide HO7) (grown_set _ _ _ _) (Or.inr hnr)) (grown_set _ _ _ _) (Or.inr hnr)) (grown_set _ _ _ _) (Or.inr hnr), ?_⟩
   have hG8 := setG (o := 2) (v := .pointer p7) (blk_set (blk_set (unhide HRB7) 0 (.string r.word.s)) 1 (.slice o6 n6 k6)) (by decide) (setG (o := 1) (v := .slice o6 n6 k6) (blk_set (unhide HRB7) 0 (.string r.word.s)) (by decide) (setG (o := 0) (v := .string r.word.s) (unhide HRB7) (by decide) (unhide HG7)))
   rw [unhide HNOE]
   exact hG8
end Go.Proofs.YtidakhhekofkoaaGreatDoor
