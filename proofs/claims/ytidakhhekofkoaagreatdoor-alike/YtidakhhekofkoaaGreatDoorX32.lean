/- The program's Behind, Ahead, AllHold and Holds of a walk. -/
import Derived.Test.YtidakhhekofkoaaGreatDoorX28
import Derived.Test.YtidakhhekofkoaaGreatDoorX15
import Derived.Deep.DeepCutAuto
import Derived.BigQuiet
import Derived.Deep.RegionHeld
set_option linter.unusedSimpArgs false
set_option linter.unusedVariables false
open List renaming setIfInBounds_toArray → zA, set_cons_zero → zB, set_cons_succ → zC, getElem_toArray → zD, getElem_cons_succ → zE, getElem_cons_zero → zF
namespace Go.Proofs.YtidakhhekofkoaaGreatDoor
open Go.RowKit Go.Deep
set_option maxHeartbeats 1000000 in
set_option maxRecDepth 100000 in
theorem Behind_any (w : World) (S : List Sp) (so : Option Addr) (sc wh : Nat) (hS : StS w so S) (hG : StG S) :
  Calls Tryz.prog 125 #[.agg #[.slice so S.length sc, .int .u32 (wh : Int)]] w fun e w' => e = .returned (.int .u32 (walkB S [] : Nat)) ∧ Below w.heap.size w w' := by
 have HC := hide (fun W h => fill_any W S so sc wh false ⟨#[]⟩ false 0 h hG (by decide))
 have HS := hide hS
 have HW : Hid (walkB S [] = fillN S false ⟨#[]⟩ false 0) := rfl
 clear hS hG
 go_enter Tryz.func125, Tryz.ntmps125
 go_wp2_with (go_at_call 167; refine (unhide HC _ ((unhide HS).later ((Below.refl _ _).alloc (Nat.le_refl _) _))).mono ?_)
 rintro e w1 ⟨rfl, hb1⟩
 have HB1 := hide hb1
 clear hb1
 go_wp2_with fail
 go_ret
 exact ⟨rfl, ((Below.refl _ _).alloc (Nat.le_refl _) _).trans ((unhide HB1).mono (by simp))⟩
set_option maxHeartbeats 1000000 in
set_option maxRecDepth 100000 in
theorem AllHold_any (w : World) (so : Option Addr) (n sc wh p : Nat) (hw : wh < 4294967296) (hp : p < 4294967296) :
  Calls Tryz.prog 127 #[.agg #[.slice so n sc, .int .u32 (wh : Int)], .int .u32 (p : Int)] w fun e w' => e = .returned (.bool (p &&& wh == wh)) ∧ Below w.heap.size w w' := by
 have HA := hide (and32 p wh hp hw)
 go_enter Tryz.func127, Tryz.ntmps127
 go_wp2_with fail
 go_ret
 refine ⟨ret_bool ?_, (Below.refl _ _).alloc (Nat.le_refl _) _⟩
 rw [unhide HA]
 rw [Bool.eq_iff_iff]; simp only [beq_iff_eq]; omega
set_option maxHeartbeats 2000000 in
set_option maxRecDepth 100000 in
theorem Ahead_any (w : World) (S : List Sp) (so : Option Addr) (sc wh : Nat) (nx : Nat) (ev : ByteArray) (hS : StS w so S) (hG : StG S) (hnx : nx < 4294967296) :
  Calls Tryz.prog 126 #[.agg #[.slice so S.length sc, .int .u32 (wh : Int)], .int .u32 (nx : Int), .string ev] w fun e w' => e = .returned (.int .u32 (fillN S true ev (nx.testBit S.length) nx : Nat)) ∧ Below w.heap.size w w' := by
 have HC := hide (fun W h => fill_any W S so sc wh true ev (nx.testBit S.length) nx h hG hnx)
 have HH := hide (fun W => pHas_any nx S.length hnx hG.len _ rfl W)
 have HS := hide hS
 clear hS hG
 have hb0 : (w.alloc (.cells #[.slice so S.length sc, .int .u32 (wh : Int)] 149)).heap[w.heap.size]? = some (.cells #[.slice so S.length sc, .int .u32 (wh : Int)] 149 (0, 0)) := blk_alloc _ _
 have hB : Below w.heap.size w (w.alloc (.cells #[.slice so S.length sc, .int .u32 (wh : Int)] 149)) := (Below.refl _ _).alloc (Nat.le_refl _) _
 have HB0 := hide hb0
 have HBB := hide hB
 have HS1 := hide ((unhide HS).later hB)
 clear hb0 hB
 generalize hT : nx.testBit S.length = tb at *
 clear hT
 go_enter Tryz.func126, Tryz.ntmps126
 go_wp2_with fail
 generalize (w.alloc (.cells #[.slice so S.length sc, .int .u32 (wh : Int)] 149)) = W at *
 have bc := fun o => cell_of_blk (unhide HB0) o
 have hlt := lt_of_blk (unhide HB0)
 have c0 : W.cell? ⟨w.heap.size, 0, none⟩ = some (.slice so S.length sc) := bc 0
 have c1 : W.cell? ⟨w.heap.size, 1, none⟩ = some (.int .u32 (wh : Int)) := bc 1
 clear bc
 refine wp_region_held_drew (S := fun w' => w'.cell? ⟨w.heap.size, 0, none⟩ = some (.slice so S.length sc) ∧ w'.cell? ⟨w.heap.size, 1, none⟩ = some (.int .u32 (wh : Int))) (by kernel_rfl) ?_ (fun hHeld => ?_)
 ·exact ⟨c0, c1⟩
 refine wpAnyH_take (i := 0) (v := .agg #[.slice so S.length sc, .int .u32 (wh : Int)]) rfl (by kernel_rfl) (by kernel_rfl) (by kernel_rfl) (fun _ _ _ h => h) (Or.inl ⟨by kernel_rfl, fun w hw => by obtain ⟨s0, s1⟩ := hw; go_simp⟩) hHeld ?_
 try simp only [Act.put, zA, zB, zC, zD, zE, zF]
 refine wpAnyH_take (i := 1) (v := .string ev) rfl (by kernel_rfl) (by kernel_rfl) (by kernel_rfl) (fun _ _ _ h => h) (Or.inl ⟨by kernel_rfl, fun w hw => by obtain ⟨s0, s1⟩ := hw; go_simp⟩) hHeld ?_
 try simp only [Act.put, zA, zB, zC, zD, zE, zF]
 refine wpAnyH_take (i := 2) (v := .int .u32 (nx : Int)) rfl (by kernel_rfl) (by kernel_rfl) (by kernel_rfl) (fun _ _ _ h => h) (Or.inl ⟨by kernel_rfl, fun w hw => by obtain ⟨s0, s1⟩ := hw; go_simp⟩) hHeld ?_
 try simp only [Act.put, zA, zB, zC, zD, zE, zF]
 refine wpAnyH_take (i := 3) (v := .pointer (some ⟨w.heap.size, 0, none⟩)) rfl (by kernel_rfl) (by kernel_rfl) (by kernel_rfl) (fun _ _ _ h => h) (Or.inl ⟨by kernel_rfl, fun w hw => by obtain ⟨s0, s1⟩ := hw; go_simp⟩) hHeld ?_
 try simp only [Act.put, zA, zB, zC, zD, zE, zF]
 refine wpAnyH_take (i := 4) (v := .slice so S.length sc) rfl (by kernel_rfl) (by kernel_rfl) (by kernel_rfl) (fun _ _ _ h => h) (Or.inl ⟨by kernel_rfl, fun w hw => by obtain ⟨s0, s1⟩ := hw; go_simp⟩) hHeld ?_
 try simp only [Act.put, zA, zB, zC, zD, zE, zF]
 refine wpAnyH_take (i := 5) (v := .int .i64 (S.length : Int)) rfl (by kernel_rfl) (by kernel_rfl) (by kernel_rfl) (fun _ _ _ h => h) (Or.inl ⟨by kernel_rfl, fun w hw => by obtain ⟨s0, s1⟩ := hw; go_simp⟩) hHeld ?_
 try simp only [Act.put, zA, zB, zC, zD, zE, zF]
 refine wpAnyH_take (i := 7) (v := .int .u32 (nx : Int)) rfl (by kernel_rfl) (by kernel_rfl) (by kernel_rfl) (fun _ _ _ h => h) (Or.inl ⟨by kernel_rfl, fun w hw => by obtain ⟨s0, s1⟩ := hw; go_simp⟩) hHeld ?_
 try simp only [Act.put, zA, zB, zC, zD, zE, zF]
 refine wpAnyH_ready (rs := [6]) (by kernel_rfl) (by simp) ?_
 refine AllReadyH.cons rfl (fun K hK => ?_) AllReadyH.nil
 go_simp
 refine (unhide HH _).mono ?_
 rintro e w5 ⟨rfl, hw5⟩
 have h5 := hw5.symm
 clear hw5
 subst h5
 refine hK.out _ _ hHeld (fun hHeld => ?_)
 clear hK K
 refine wpAnyH_take (i := 8) (v := .agg #[.bool true, .string ev, .bool tb, .int .u32 (nx : Int), .int .u32 0]) rfl (by kernel_rfl) (by kernel_rfl) (by kernel_rfl) (fun _ _ _ h => h) (Or.inl ⟨by kernel_rfl, fun w hw => by obtain ⟨s0, s1⟩ := hw; go_simp⟩) hHeld ?_
 try simp only [Act.put, zA, zB, zC, zD, zE, zF]
 refine wpAnyH_ready (rs := [9]) (by kernel_rfl) (by simp) ?_
 refine AllReadyH.cons rfl (fun K hK => ?_) AllReadyH.nil
 go_simp
 refine (unhide HC _ ((unhide HS1).later ((Below.refl _ _).drew))).mono ?_
 rintro e w6 ⟨rfl, hb6⟩
 refine hK.out _ _ ⟨(bcell3 hb6 _ _ hlt).trans hHeld.1, (bcell3 hb6 _ _ hlt).trans hHeld.2⟩ (fun hHeld => ?_)
 clear hK K
 have HB6 := hide (((unhide HBB).trans ((((Below.refl _ _).drew).trans hb6).mono (unhide HBB).size)))
 clear hb6
 refine wpAnyH_take (i := 10) (v := .int .u32 (fillN S true ev tb nx : Nat)) rfl (by kernel_rfl) (by kernel_rfl) (by kernel_rfl) (fun _ _ _ h => h) (Or.inl ⟨by kernel_rfl, fun w hw => by obtain ⟨s0, s1⟩ := hw; go_simp⟩) hHeld ?_
 try simp only [Act.put, zA, zB, zC, zD, zE, zF]
 refine wpAnyH_done (by kernel_rfl) ?_ _
 clear hHeld
 go_wp2_with fail
 go_ret
 exact ⟨rfl, unhide HB6⟩
theorem walkB_lt32 {S : List Sp} (h : StG S) (tr : List ByteArray) : walkB S tr < 4294967296 :=
 Nat.lt_of_lt_of_le (walkB_lt S tr) (Nat.le_trans (Nat.pow_le_pow_right (by decide) (show S.length + 1 ≤ 32 by have := h.len; omega)) (by decide))
set_option maxHeartbeats 2000000 in
set_option maxRecDepth 100000 in
theorem WHolds_any (w : World) (S : List Sp) (so : Option Addr) (sc wh : Nat) (tr : List ByteArray) (tt : Option Addr) (tc : Nat) (hS : StS w so S) (hG : StG S) (hT : TxS w tt tr) (hwh : wh < 4294967296) (hn : tr.length ≤ 10000000000000) :
  Calls Tryz.prog 79 #[.agg #[.slice so S.length sc, .int .u32 (wh : Int)], .slice tt tr.length tc] w fun e w' => e = .returned (.bool (walkB S tr &&& wh == wh)) ∧ Below w.heap.size w w' := by
 have HAH := hide (fun W nx ev h h' => Ahead_any W S so sc wh nx ev h hG h')
 have HBH := hide (fun W h => Behind_any W S so sc wh h hG)
 have HAL := hide (fun W p h => AllHold_any W so S.length sc wh p hwh h)
 have HLT := hide (fun l => walkB_lt32 hG l)
 have HS := hide hS
 have HT := hide hT
 have hb0 : (w.alloc (.cells #[.slice so S.length sc, .int .u32 (wh : Int)] 149)).heap[w.heap.size]? = some (.cells #[.slice so S.length sc, .int .u32 (wh : Int)] 149 (0, 0)) := blk_alloc _ _
 have hB : Below w.heap.size w (w.alloc (.cells #[.slice so S.length sc, .int .u32 (wh : Int)] 149)) := (Below.refl _ _).alloc (Nat.le_refl _) _
 have HB0 := hide hb0
 have HBB := hide hB
 have HS1 := hide ((unhide HS).later hB)
 have HT1 := hide ((unhide HT).later hB)
 clear hS hG hT hb0 hB HS HT
 go_enter Tryz.func79, Tryz.ntmps79
 go_wp2_with (go_at_call 125; refine (unhide HBH _ (unhide HS1)).mono ?_)
 rintro e w1 ⟨rfl, hb1⟩
 generalize (w.alloc (.cells #[.slice so S.length sc, .int .u32 (wh : Int)] 149)) = W at *
 have hltW := lt_of_blk (unhide HB0)
 have HB1 := hide hb1
 clear hb1
 go_wp2_with fail
 go_loopw [5, 6] (fun pv x wr => ∃ j : Nat, j ≤ tr.length ∧ pv = .int .u32 (walkB S (tr.drop j) : Nat) ∧ x = .int .i64 ((j : Int) - 1) ∧ Hid (Below W.heap.size W wr)) (fun _ x _ => (intOf x + 1).toNat)
 case atStart => exact ⟨tr.length, Nat.le_refl _, by rw [List.drop_length], rfl, HB1⟩
 case round =>
  obtain ⟨j, hj, rfl, rfl, HBL⟩ := hrel
  have bc := fun o => cell_of_blk (((unhide HBL).block _ hltW).trans (unhide HB0)) o
  have hlt := lt_of_blk (((unhide HBL).block _ hltW).trans (unhide HB0))
  have c0 : wr.cell? ⟨w.heap.size, 0, none⟩ = some (.slice so S.length sc) := bc 0
  have c1 : wr.cell? ⟨w.heap.size, 1, none⟩ = some (.int .u32 (wh : Int)) := bc 1
  clear bc
  have HSr := hide ((unhide HS1).later (unhide HBL))
  have hpl := unhide HLT (tr.drop j)
  by_cases hj0 : 1 ≤ j
  ·obtain ⟨k, rfl⟩ : ∃ k, j = k + 1 := ⟨j - 1, by omega⟩
   have hk : k < tr.length := by omega
   have hkn : (k : Int) < (tr.length : Int) := by omega
   have hdr : walkB S (tr.drop k) = fillN S true tr[k] ((walkB S (tr.drop (k + 1))).testBit S.length) (walkB S (tr.drop (k + 1))) := by
    rw [List.drop_eq_getElem_cons hk, walkB]
   obtain ⟨b, off, hto, hbl, hcx⟩ := (unhide HT1).later (unhide HBL) k tr[k] (List.getElem?_eq_getElem hk)
   have HDR := hide hdr
   subst hto
   clear hdr
   generalize tr[k] = x at *
   generalize hP : walkB S (tr.drop (k + 1)) = P at *
   clear hP
   have hik : ((k + 1 : Nat) : Int) - 1 = (k : Int) := by omega
   rw [hik]
   clear hik
   go_wp2_with fail
   refine wp_region_held_drew (S := fun w' => w'.cell? ⟨w.heap.size, 0, none⟩ = some (.slice so S.length sc) ∧ w'.cell? ⟨w.heap.size, 1, none⟩ = some (.int .u32 (wh : Int)) ∧ w'.cell? ⟨b, off + k, none⟩ = some (.string x)) (by kernel_rfl) ?_ (fun hHeld => ?_)
   ·exact ⟨c0, c1, hcx⟩
   refine wpAnyH_take (i := 0) (v := .agg #[.slice so S.length sc, .int .u32 (wh : Int)]) rfl (by kernel_rfl) (by kernel_rfl) (by kernel_rfl) (fun _ _ _ h => h) (Or.inl ⟨by kernel_rfl, fun w hw => by obtain ⟨s0, s1, s2⟩ := hw; go_simp⟩) hHeld ?_
   try simp only [Act.put, zA, zB, zC, zD, zE, zF]
   refine wpAnyH_take (i := 1) (v := .int .u32 (P : Int)) rfl (by kernel_rfl) (by kernel_rfl) (by kernel_rfl) (fun _ _ _ h => h) (Or.inl ⟨by kernel_rfl, fun w hw => by obtain ⟨s0, s1, s2⟩ := hw; go_simp⟩) hHeld ?_
   try simp only [Act.put, zA, zB, zC, zD, zE, zF]
   refine wpAnyH_take (i := 2) (v := .slice (some ⟨b, off, none⟩) tr.length tc) rfl (by kernel_rfl) (by kernel_rfl) (by kernel_rfl) (fun _ _ _ h => h) (Or.inl ⟨by kernel_rfl, fun w hw => by obtain ⟨s0, s1, s2⟩ := hw; go_simp⟩) hHeld ?_
   try simp only [Act.put, zA, zB, zC, zD, zE, zF]
   refine wpAnyH_take (i := 3) (v := .int .i64 (k : Int)) rfl (by kernel_rfl) (by kernel_rfl) (by kernel_rfl) (fun _ _ _ h => h) (Or.inl ⟨by kernel_rfl, fun w hw => by obtain ⟨s0, s1, s2⟩ := hw; go_simp⟩) hHeld ?_
   try simp only [Act.put, zA, zB, zC, zD, zE, zF]
   refine wpAnyH_take (i := 4) (v := .pointer (some ⟨b, off + k, none⟩)) rfl (by kernel_rfl) (by kernel_rfl) (by kernel_rfl) (fun _ _ _ h => h) (Or.inl ⟨by kernel_rfl, fun w hw => by obtain ⟨s0, s1, s2⟩ := hw; go_simp⟩) hHeld ?_
   try simp only [Act.put, zA, zB, zC, zD, zE, zF]
   refine wpAnyH_take (i := 5) (v := .string x) rfl (by kernel_rfl) (by kernel_rfl) (by kernel_rfl) (fun _ _ _ h => h) (Or.inl ⟨by kernel_rfl, fun w hw => by obtain ⟨s0, s1, s2⟩ := hw; go_simp⟩) hHeld ?_
   try simp only [Act.put, zA, zB, zC, zD, zE, zF]
   refine wpAnyH_ready (rs := [6]) (by kernel_rfl) (by simp) ?_
   refine AllReadyH.cons rfl (fun K hK => ?_) AllReadyH.nil
   go_simp
   refine (unhide HAH _ P x ((unhide HSr).later ((Below.refl _ _).drew)) hpl).mono ?_
   rintro e w6 ⟨rfl, hb6⟩
   refine hK.out _ _ ⟨(bcell3 hb6 _ _ hlt).trans hHeld.1, (bcell3 hb6 _ _ hlt).trans hHeld.2.1, (bcell3 hb6 _ _ hbl).trans hHeld.2.2⟩ (fun hHeld => ?_)
   clear hK K
   have HB6 := hide (((unhide HBL).trans ((((Below.refl _ _).drew).trans hb6).mono (unhide HBL).size)))
   clear hb6
   rw [← unhide HDR]
   refine wpAnyH_take (i := 7) (v := .int .u32 (walkB S (tr.drop k) : Nat)) rfl (by kernel_rfl) (by kernel_rfl) (by kernel_rfl) (fun _ _ _ h => h) (Or.inl ⟨by kernel_rfl, fun w hw => by obtain ⟨s0, s1, s2⟩ := hw; go_simp⟩) hHeld ?_
   try simp only [Act.put, zA, zB, zC, zD, zE, zF]
   refine wpAnyH_done (by kernel_rfl) ?_ _
   clear hHeld
   go_wp2_with fail
   go_roundw
   case rel => exact ⟨k, by omega, rfl, by go_num, HB6⟩
   case measure => simp [intOf]
  ·obtain rfl : j = 0 := by omega
   rw [List.drop_zero] at hpl ⊢
   go_wp2_with (go_at_call 127; refine (unhide HAL _ _ hpl).mono ?_)
   rintro e w6 ⟨rfl, hb6⟩
   have HB6 := hide (((unhide HBB).trans ((unhide HBL).mono (unhide HBB).size)).trans (hb6.mono (by have := (unhide HBB).size; have := (unhide HBL).size; omega)))
   clear hb6
   go_wp2_with fail
   go_ret
   exact ⟨rfl, unhide HB6⟩
theorem wholeM_lt : ∀ (rs : List Rl) (S : List Sp) (w : Nat), w < 2 ^ S.length → (∀ r ∈ rs, ruleF r ≠ .nil) → wholeM rs S w < 2 ^ (stepsM rs S).length
 | [], S, w, h, _ => h
 | r :: rs, S, w, h, hn => by
  rw [wholeM, stepsM]
  have hp := sizeF_pos' (hn r (List.mem_cons_self ..))
  have hl := appS_len (ruleF r) S
  refine wholeM_lt rs _ _ (Nat.or_lt_two_pow (Nat.lt_of_lt_of_le h (Nat.pow_le_pow_right (by decide) (by omega))) (Nat.pow_lt_pow_right (by decide) (by omega))) (fun r' h' => hn r' (List.mem_cons_of_mem _ h'))
theorem appS_small {M : Nat} : ∀ (f : Fm) (S : List Sp), (∀ d ∈ S, d.a ≤ M ∧ d.b ≤ M) → (appS f S).length ≤ M → ∀ d ∈ appS f S, d.a ≤ M ∧ d.b ≤ M
 | .nil, S, h, _ => h
 | .node u v a l r, S, h, hl => by
  rw [appS_len] at hl
  have hz : sizeF (.node u v a l r) = 1 + sizeF l + sizeF r := rfl
  have e1 := appS_len l S
  have e2 := appS_len r (appS l S)
  have h1 := appS_small l S h (by omega)
  have h2 := appS_small r (appS l S) h1 (by omega)
  intro d hd
  rw [appS] at hd
  rcases List.mem_append.1 hd with hd | hd
  ·exact h2 d hd
  ·rcases List.mem_singleton.1 hd with rfl
   constructor
   ·show (if isN l then 0 else (appS l S).length - 1) ≤ M
    split <;> omega
   ·show (if isN r then 0 else (appS r (appS l S)).length - 1) ≤ M
    split <;> omega
theorem steps_small {M : Nat} : ∀ (rs : List Rl) (S : List Sp), (∀ d ∈ S, d.a ≤ M ∧ d.b ≤ M) → (stepsM rs S).length ≤ M → ∀ d ∈ stepsM rs S, d.a ≤ M ∧ d.b ≤ M
 | [], S, h, _ => h
 | r :: rs, S, h, hl => by
  rw [stepsM] at hl ⊢
  refine steps_small rs _ (appS_small (ruleF r) S h ?_) hl
  rw [stepsM_len] at hl; omega
theorem stepsM_g {al : List Tk} {rs : List Rl} (h : MGood al rs) : StG (stepsM rs []) := by
 have hs : StOk (stepsM rs []) (subsM rs) := by simpa using stepsM_ok rs [] [] StOk.nil
 have hl : (stepsM rs []).length ≤ 16 := by rw [stepsM_len]; have := h.nodes; simp; omega
 have hk := subsM_kok (fun r hr => (h.fg r hr).kok)
 have key : ∀ d ∈ stepsM rs [], d.k ≤ 12 ∧ d.a ≤ 31 ∧ d.b ≤ 31 := by
  intro d hd
  obtain ⟨j, hj, hjd⟩ := List.mem_iff_getElem.1 hd
  have hj' : (stepsM rs [])[j]? = some d := by rw [List.getElem?_eq_getElem hj, hjd]
  have hgj : j < (subsM rs).length := by rw [← hs.1]; exact hj
  have hst := hs.2 j d _ hj' (List.getElem?_eq_getElem hgj)
  have hkk := hk _ (List.getElem_mem hgj)
  have hz := steps_small (M := 16) rs [] (fun d hd => (List.not_mem_nil hd).elim) hl d hd
  have hk12 : d.k ≤ 12 := by
   generalize (subsM rs)[j] = f at *
   cases f with
   | nil => exact False.elim hst
   | node u v a l r => rw [hst.1]; exact hkk.1
  exact ⟨hk12, by omega, by omega⟩
 exact ⟨by omega, fun d hd => (key d hd).1, fun d hd => (key d hd).2.1, fun d hd => (key d hd).2.2⟩
def FpS (w : World) (o : Option Addr) (ps : List (Option Addr)) : Prop := ∀ j p, ps[j]? = some p → ∃ g, o = some ⟨g, 0, none⟩ ∧ g < w.heap.size ∧ w.cell? ⟨g, j, none⟩ = some (.pointer p)
def PsG (w : World) (rs : List Rl) (ps : List (Option Addr)) : Prop := rs.length = ps.length ∧ ∀ (j : Nat) (r : Rl) (p : Option Addr), rs[j]? = some r → ps[j]? = some p → IsG w (ruleF r) p
theorem FpS.later {w w' : World} {o : Option Addr} {ps : List (Option Addr)} (h : FpS w o ps) (hb : Below w.heap.size w w') : FpS w' o ps := fun j p hp => by
 obtain ⟨g, h1, h2, h3⟩ := h j p hp
 exact ⟨g, h1, Nat.lt_of_lt_of_le h2 hb.size, (bcell3 hb _ _ h2).trans h3⟩
theorem PsG.later {w w' : World} {rs : List Rl} {ps : List (Option Addr)} (h : PsG w rs ps) (hb : Below w.heap.size w w') : PsG w' rs ps := ⟨h.1, fun j r p h1 h2 => (h.2 j r p h1 h2).later hb⟩
structure NW (w W : World) (so : Option Addr) (sc : Nat) (S : List Sp) (wh : Nat) : Prop where
 rb : W.heap[w.heap.size]? = some (.cells #[.slice none 0 0, .int .u32 0] 149 (0, 0))
 wb : W.heap[w.heap.size + 1]? = some (.cells #[.slice so S.length sc, .int .u32 (wh : Int)] 149 (0, 0))
 own : W.ownsRow (w.heap.size + 2) 319 4 (.slice so S.length sc) S.length (spC S)
 bel : Below w.heap.size w W
theorem NW.call {w W w2 : World} {so : Option Addr} {sc : Nat} {S S' : List Sp} {wh : Nat} {e : Ending} (h : NW w W so sc S wh) (hp : ApPost (w.heap.size + 2) S' (.slice so S.length sc) W w2 e) :
  ∃ o' c', e = .returned (.slice o' S'.length c') ∧ NW w (w2.setCell ⟨w.heap.size + 1, 0, none⟩ (.slice o' S'.length c')) o' c' S' wh ∧ w2.heap[w.heap.size + 1]? = some (.cells #[.slice so S.length sc, .int .u32 (wh : Int)] 149 (0, 0)) := by
 obtain ⟨o', c', he, ho, hg, hat⟩ := hp
 have hrb : w2.heap[w.heap.size]? = some (.cells #[.slice none 0 0, .int .u32 0] 149 (0, 0)) := (hg.block _ (lt_of_blk h.rb) (fun e => own_ty h.own e.symm h.rb (by decide))).trans h.rb
 have hwb : w2.heap[w.heap.size + 1]? = some (.cells #[.slice so S.length sc, .int .u32 (wh : Int)] 149 (0, 0)) := (hg.block _ (lt_of_blk h.wb) (fun e => own_ty h.own e.symm h.wb (by decide))).trans h.wb
 have hb2 : Below w.heap.size w w2 := h.bel.grown hg h.bel.size (fun b hb => by have := (own_lt h.own b hb).1; omega)
 refine ⟨o', c', he, ⟨(Below.heap_setCell _ _ _ _ (by show w.heap.size ≠ w.heap.size + 1; omega)).trans hrb, blk_set hwb 0 _, owns_keep ho (grown_set _ _ _ _) (Or.inr (fun e => own_ty ho e hwb (by decide))), hb2.grown (grown_set _ _ _ _) hb2.size (fun b hb => by cases hb; omega)⟩, hwb⟩
theorem NW.set {w W : World} {so : Option Addr} {sc : Nat} {S : List Sp} {wh : Nat} (h : NW w W so sc S wh) (z : Int) (wh' : Nat) (hz : z = (wh' : Int)) : NW w (W.setCell ⟨w.heap.size + 1, 1, none⟩ (.int .u32 z)) so sc S wh' := by
 subst hz
 exact ⟨(Below.heap_setCell _ _ _ _ (by show w.heap.size ≠ w.heap.size + 1; omega)).trans h.rb, blk_set h.wb 1 _, owns_keep h.own (grown_set _ _ _ _) (Or.inr (fun e => own_ty h.own e h.wb (by decide))), h.bel.grown (grown_set _ _ _ _) h.bel.size (fun b hb => by cases hb; omega)⟩
theorem NW.later {w W W' : World} {so : Option Addr} {sc : Nat} {S : List Sp} {wh : Nat} (h : NW w W so sc S wh) (hb : Below W.heap.size W W') : NW w W' so sc S wh :=
 ⟨(hb.block _ (lt_of_blk h.rb)).trans h.rb, (hb.block _ (lt_of_blk h.wb)).trans h.wb, owns_later h.own hb, h.bel.trans (hb.mono h.bel.size)⟩
def NwPost (rs : List Rl) (w w' : World) (e : Ending) : Prop := ∃ so sc, e = .returned (.agg #[.slice so (stepsM rs []).length sc, .int .u32 (wholeM rs [] 0 : Nat)]) ∧ StS w' so (stepsM rs []) ∧ Below w.heap.size w w'
set_option maxHeartbeats 4000000 in
set_option maxRecDepth 100000 in
theorem NewWalk_any (w : World) (rs : List Rl) (ps : List (Option Addr)) (fo : Option Addr) (fc : Nat) (hF : FpS w fo ps) (hP : PsG w rs ps) (hn : nodesL rs ≤ 16) (hrl : rs.length ≤ 401) (hne : ∀ r ∈ rs, ruleF r ≠ .nil) :
  Calls Tryz.prog 124 #[.slice fo rs.length fc] w fun e w' => NwPost rs w w' e := by
 have HF := hide hF
 have HP := hide hP
 have HNE := hide hne
 clear hF hP hne
 have HN0 : Hid (NW w ((w.alloc (.cells #[.slice none 0 0, .int .u32 0] 149)).alloc (.cells #[.slice none 0 0, .int .u32 0] 149)) none 0 [] 0) :=
  ⟨(Below.heap_alloc _ _ _ (by simp)).trans (blk_alloc _ _), blk_alloc' _ _ _ (by simp), World.ownsRow_nil _ _ _ _, ((Below.refl _ _).alloc (Nat.le_refl _) _).alloc (by simp) _⟩
 go_enter Tryz.func124, Tryz.ntmps124
 go_wp2_with fail
 generalize ((w.alloc (.cells #[.slice none 0 0, .int .u32 0] 149)).alloc (.cells #[.slice none 0 0, .int .u32 0] 149)) = W0 at *
 go_loopw [8] (fun x wr => ∃ (k : Nat) (so : Option Addr) (sc : Nat), k ≤ rs.length ∧ x = .int .i64 k ∧ Hid (NW w wr so sc (stepsM (rs.take k) []) (wholeM (rs.take k) [] 0))) (fun x _ => rs.length - (intOf x).toNat)
 case atStart => exact ⟨0, none, 0, Nat.zero_le _, rfl, HN0⟩
 case round =>
  obtain ⟨k, so, sc, hk, rfl, HN⟩ := hrel
  by_cases hlt : k < rs.length
  ·have hkn : (k : Int) < (rs.length : Int) := by omega
   have hrk : rs[k]? = some rs[k] := List.getElem?_eq_getElem hlt
   obtain ⟨p, hpk⟩ : ∃ p, ps[k]? = some p := ⟨_, List.getElem?_eq_getElem (by have := (unhide HP).1; omega)⟩
   obtain ⟨g, hfo, hg, hcp⟩ := (unhide HF).later (unhide HN).bel k p hpk
   have HIG := hide (((unhide HP).later (unhide HN).bel).2 k _ p hrk hpk)
   have htk : rs.take (k + 1) = rs.take k ++ [rs[k]] := by rw [List.take_add_one, hrk]; rfl
   have hrn : rs[k] ∈ rs := List.getElem_mem hlt
   have hfn := unhide HNE _ hrn
   have hs1 : (stepsM (rs.take k) []).length = nodesL (rs.take k) := by rw [stepsM_len]; simp
   have hsum : nodesL (rs.take k) + sizeF (ruleF rs[k]) ≤ 16 := by
    have h1 : nodesL rs = nodesL (rs.take (k + 1)) + nodesL (rs.drop (k + 1)) := by rw [← nodesL_append, List.take_append_drop]
    rw [htk, nodesL_append] at h1
    simp only [nodesL] at h1
    omega
   have HST : Hid (stepsM (rs.take (k + 1)) [] = appS (ruleF rs[k]) (stepsM (rs.take k) [])) := by show _ = _; rw [htk, stepsM_snoc]
   have HWH : Hid (wholeM (rs.take (k + 1)) [] 0 = (wholeM (rs.take k) [] 0 ||| 2 ^ ((appS (ruleF rs[k]) (stepsM (rs.take k) [])).length - 1))) := by show _ = _; rw [htk, wholeM_snoc, stepsM_snoc]
   have hwl : wholeM (rs.take k) [] 0 < 4294967296 := Nat.lt_of_lt_of_le (wholeM_lt _ [] 0 (by decide) (fun r hr => unhide HNE r (List.mem_of_mem_take hr))) (Nat.le_trans (Nat.pow_le_pow_right (by decide) (show _ ≤ 32 by omega)) (by decide))
   have hal := appS_len (ruleF rs[k]) (stepsM (rs.take k) [])
   have hpz := sizeF_pos' hfn
   have ha1 : 1 ≤ (appS (ruleF rs[k]) (stepsM (rs.take k) [])).length := by omega
   have ha2 : (appS (ruleF rs[k]) (stepsM (rs.take k) [])).length ≤ 16 := by omega
   have hs3 : (stepsM (rs.take k) []).length + sizeF (ruleF rs[k]) ≤ 100000 := by omega
   subst hfo
   clear hrk hpk htk hrn hs1 hsum hal hpz
   generalize stepsM (rs.take k) [] = S at *
   generalize wholeM (rs.take k) [] 0 = wh at *
   generalize rs[k] = r at *
   have HAP := hide (fun W h1 h2 h3 => appendSteps_any (ruleF r) S W p (w.heap.size + 2) so sc hfn h1 h2 h3 hs3)
   generalize hfr : ruleF r = f at *
   clear hfr hs3
   have wc := fun o => cell_of_blk (unhide HN).wb o
   have hwb := lt_of_blk (unhide HN).wb
   go_wp2_with (go_at_call 166; refine (unhide HAP _ (unhide HIG) (unhide HN).own (by omega)).mono ?_)
   intro e w2 hp2
   obtain ⟨o2, c2, he2, hN2, hb2⟩ := (unhide HN).call hp2
   subst he2
   have HN2 := hide hN2
   have wc := fun o => cell_of_blk hb2 o
   have wf := fun o => frozen_of_blk hb2 o
   have hwb2 := lt_of_blk hb2
   clear hN2 hp2 hb2
   generalize hS2 : appS f S = S2 at *
   clear hS2
   obtain ⟨m, hm⟩ : ∃ m, S2.length = m + 1 := ⟨S2.length - 1, by omega⟩
   go_wp2_with fail
   have hwld : w2.setCell ⟨w.heap.size + 1, 0, none⟩ (.slice o2 S2.length c2) = w2.setCell ⟨w.heap.size + 1, 0, none⟩ (.slice o2 (m + 1) c2) := by rw [hm]
   rw [hwld] at HN2
   clear hwld wc wf hwb2
   generalize w2.setCell ⟨w.heap.size + 1, 0, none⟩ (.slice o2 (m + 1) c2) = w3 at *
   have HWE : Hid (wholeM (rs.take (k + 1)) [] 0 = (wh ||| 2 ^ m)) := by show _ = _; rw [unhide HWH, hm]; rfl
   have hm16 : m ≤ 31 := by omega
   have hblk := (unhide HN2).wb
   rw [hm] at hblk
   have wc := fun o => cell_of_blk hblk o
   have wf := fun o => frozen_of_blk hblk o
   have hwb2 := lt_of_blk hblk
   clear hblk hm HWH HAP
   go_region
   have HN3 := hide (((unhide HN2).set (bits BinOp.or IntKind.u32 (wh : Int) (2 ^ m % 4294967296)) (wh ||| 2 ^ m) (or_bit32 wh m hwl hm16)).later ((Below.refl _ _).drew))
   generalize (w3.setCell ⟨w.heap.size + 1, 1, none⟩ (.int .u32 (bits BinOp.or IntKind.u32 (wh : Int) (2 ^ m % 4294967296)))).drew = w4 at *
   generalize bits BinOp.or IntKind.u32 (wh : Int) (2 ^ m % 4294967296) = z at *
   clear wc wf hwb2
   go_wp2_with fail
   go_roundw
   case rel => exact ⟨k + 1, o2, c2, by omega, by go_num, by rw [unhide HWE, unhide HST]; exact HN3⟩
   case measure => simp [intOf]; omega
  ·have hkn : ¬ (k : Int) < (rs.length : Int) := by omega
   have hke : rs.take k = rs := List.take_of_length_le (by omega)
   rw [hke] at HN
   have wc := fun o => cell_of_blk (unhide HN).wb o
   have rc := fun o => cell_of_blk (unhide HN).rb o
   have rf := fun o => frozen_of_blk (unhide HN).rb o
   have hl1 := lt_of_blk (unhide HN).wb
   have hl0 := lt_of_blk (unhide HN).rb
   go_wp2_with fail
   have hf1 := blk_set (unhide HN).rb 0 (.slice so (stepsM rs []).length sc)
   have ho1 := owns_keep (unhide HN).own (grown_set wr w.heap.size 0 (.slice so (stepsM rs []).length sc)) (Or.inr (fun e => own_ty (unhide HN).own e (unhide HN).rb (by decide)))
   have hfin := blk_set hf1 1 (.int .u32 ((wholeM rs [] 0 : Nat) : Int))
   have ho2 := owns_keep ho1 (grown_set _ w.heap.size 1 (.int .u32 ((wholeM rs [] 0 : Nat) : Int))) (Or.inr (fun e => own_ty ho1 e hf1 (by decide)))
   have hbf : Below w.heap.size w ((wr.setCell ⟨w.heap.size, 0, none⟩ (.slice so (stepsM rs []).length sc)).setCell ⟨w.heap.size, 1, none⟩ (.int .u32 ((wholeM rs [] 0 : Nat) : Int))) := by
    have h1 := (unhide HN).bel.grown (grown_set wr w.heap.size 0 (.slice so (stepsM rs []).length sc)) (unhide HN).bel.size (fun b hb => by cases hb; exact Nat.le_refl _)
    exact h1.grown (grown_set _ _ _ _) h1.size (fun b hb => by cases hb; exact Nat.le_refl _)
   generalize ((wr.setCell ⟨w.heap.size, 0, none⟩ (.slice so (stepsM rs []).length sc)).setCell ⟨w.heap.size, 1, none⟩ (.int .u32 ((wholeM rs [] 0 : Nat) : Int))) = wf at *
   have hfin' : wf.heap[w.heap.size]? = some (.cells #[.slice so (stepsM rs []).length sc, .int .u32 ((wholeM rs [] 0 : Nat) : Int)] 149 (0, 0)) := hfin
   have fc := fun o => cell_of_blk hfin' o
   refine bodyPost_ret (v := .agg #[.slice so (stepsM rs []).length sc, .int .u32 ((wholeM rs [] 0 : Nat) : Int)]) (by simp [results, Tryz.results124, go_sem, fc]) rfl ?_
   exact ⟨so, sc, rfl, StS.of ho2, hbf⟩
end Go.Proofs.YtidakhhekofkoaaGreatDoor
