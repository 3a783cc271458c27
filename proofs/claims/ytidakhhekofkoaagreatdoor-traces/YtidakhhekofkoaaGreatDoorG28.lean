/- The reference's add: a formula's parts. -/
import Derived.Test.YtidakhhekofkoaaGreatDoorG21
import Derived.Deep.AppendLies
import Derived.Deep.RegionLaw
import Derived.BigQuiet
import Derived.Deep.RegionHeld
set_option linter.unusedSimpArgs false
open List renaming setIfInBounds_toArray → zA, set_cons_zero → zB, set_cons_succ → zC, getElem_toArray → zD, getElem_cons_succ → zE, getElem_cons_zero → zF
namespace Go.Proofs.YtidakhhekofkoaaGreatDoor
open Go.RowKit Go.Deep
def ndX (L : List Nd) (T : List Int) : Fin 5 → List Value := fun i => if i = 0 then L.map (fun d => .int .u8 (refO d.k)) else if i = 1 then L.map (fun d => .int .i64 d.a) else if i = 2 then L.map (fun d => .int .i64 d.b) else if i = 3 then L.map (fun d => .int .i64 d.t) else T.map (fun t => .int .i64 t)
def NSx (w : World) (nb B : Nat) (L : List Nd) (T : List Int) : Prop := ∃ v, NS w nb B v (ndX L T)
theorem NSx.later {w w' : World} {nb B : Nat} {L : List Nd} {T : List Int} (h : NSx w nb B L T) (hb : Below w.heap.size w w') : NSx w' nb B L T := by
 obtain ⟨v, hv⟩ := h; exact ⟨v, hv.later hb⟩
theorem ndX_add (L : List Nd) (T : List Int) (d : Nd) : upd (upd (upd (upd (ndX L T) 0 (ndX L T 0 ++ [.int .u8 (refO d.k)])) 1 (ndX L T 1 ++ [.int .i64 d.a])) 2 (ndX L T 2 ++ [.int .i64 d.b])) 3 (ndX L T 3 ++ [.int .i64 d.t]) = ndX (L ++ [d]) T := by
 funext i
 match i with
 | 0 => simp [upd, ndX]
 | 1 => simp [upd, ndX]
 | 2 => simp [upd, ndX]
 | 3 => simp [upd, ndX]
 | 4 => simp [upd, ndX]
theorem ndX_four {L : List Nd} {T : List Int} {x5 x6 x7 x8 : Fin 5 → List Value} {k : Nat} {a b t : Int} (h5 : x5 = upd (ndX L T) 0 (ndX L T 0 ++ [.int .u8 (refO k)])) (h6 : x6 = upd x5 1 (x5 1 ++ [.int .i64 a])) (h7 : x7 = upd x6 2 (x6 2 ++ [.int .i64 b])) (h8 : x8 = upd x7 3 (x7 3 ++ [.int .i64 t])) : x8 = ndX (L ++ [⟨k, a, b, t⟩]) T := by
 subst h5 h6 h7 h8
 funext i
 match i with
 | 0 => simp [upd, ndX]
 | 1 => simp [upd, ndX]
 | 2 => simp [upd, ndX]
 | 3 => simp [upd, ndX]
 | 4 => simp [upd, ndX]
theorem grow_eq {w w' : World} {a b : Value} (e : a = b) (h : w.grownBy w' b.ownBlock) : w.grownBy w' a.ownBlock := by rw [e]; exact h
def nxtT (a : Nat × ByteArray × Nat) (al : List Tk) (k : Nat) (x : Int) : Int := if a.1 = 0 then lastI a.2.1 k (al.drop k) x else x
theorem addN_len (al : List Tk) : ∀ (f : Fm) (L : List Nd), (addN al f L).1.length = L.length + sizeF f
 | .nil, L => rfl
 | .node _ _ a l r, L => by
  rw [addN]
  show ((addN al r (addN al l L).1).1 ++ [_]).length = L.length + (1 + sizeF l + sizeF r)
  rw [List.length_append, addN_len al r, addN_len al l]; simp; omega
theorem refO_ne {k : Nat} (h : k ≠ 0) (hk : k ≤ 12) : (refO k == 97) = false := by
 have h : k = 1 ∨ k = 2 ∨ k = 3 ∨ k = 4 ∨ k = 5 ∨ k = 6 ∨ k = 7 ∨ k = 8 ∨ k = 9 ∨ k = 10 ∨ k = 11 ∨ k = 12 := by omega
 rcases h with rfl | rfl | rfl | rfl | rfl | rfl | rfl | rfl | rfl | rfl | rfl | rfl <;> rfl
theorem infoB : (Tryz.prog.info? 5).map (fun i => (i.zero, i.size, i.bytes)) = some (some (.int .u8 0), 1, 1) := by kernel_rfl
theorem infoI : (Tryz.prog.info? 3).map (fun i => (i.zero, i.size, i.bytes)) = some (some (.int .i64 0), 1, 8) := by kernel_rfl
theorem NS.step {w w2 : World} {nb B : Nat} {v : Fin 5 → Value} {x : Fin 5 → List Value} (h : NS w nb B v x) (i : Fin 5) (o : Nat) (hio : i.val = o) (u : Value) {g cap n : Nat} (hn : n = (x i).length) (ho : w2.ownsRow B (fiT i) 1 (.slice (some ⟨g, 0, none⟩) (n + 1) cap) (n + 1) (x i ++ [u])) (hg : w.grownBy w2 (v i).ownBlock) (hat : (v i).ownBlock = some g ∨ g = w.heap.size) :
  ∃ v' x', NS (w2.setCell ⟨nb, o, none⟩ (.slice (some ⟨g, 0, none⟩) (n + 1) cap)) nb B v' x' ∧ NF nb B w (w2.setCell ⟨nb, o, none⟩ (.slice (some ⟨g, 0, none⟩) (n + 1) cap)) ∧ x' = upd x i (x i ++ [u]) ∧ v' i = .slice (some ⟨g, 0, none⟩) (n + 1) cap ∧ ∀ j, j ≠ i → v' j = v j := by
 subst hn hio
 obtain ⟨h1, h2⟩ := h.app i u ho hg hat
 exact ⟨_, _, h1, h2, rfl, upd_same _ _ _, fun j hj => upd_ne _ _ hj⟩
def AdPost (al : List Tk) (f : Fm) (L : List Nd) (T : List Int) (nb B : Nat) (w w' : World) (e : Ending) : Prop :=
 e = .returned (.int .i64 (addN al f L).2) ∧ NSx w' nb B (addN al f L).1 T ∧ NF nb B w w'
set_option maxHeartbeats 4000000 in
set_option maxRecDepth 100000 in
theorem add_any (Q : Tk → Prop) (al : List Tk) (o1 : Option Addr) (n1 k1 : Nat) (hlen : al.length ≤ 401) (T : List Int) (nb B : Nat) (hnb : nb < B) : ∀ (f : Fm) (L : List Nd) (w : World) (p : Option Addr), IsF w f p → (f = .nil ∨ Fg Q f) → ActsAre w o1 n1 k1 al → NSx w nb B L T → L.length + sizeF f ≤ 100000 →
  Calls Tryz.prog 179 #[.pointer (some ⟨nb, 0, none⟩), .pointer p, .slice o1 n1 k1] w fun e w' => AdPost al f L T nb B w w' e
 | .nil, L, w, p, h, _, _, hns, _ => by
  cases (show p = none from h)
  have HN := hide hns
  clear hns
  go_enter Tryz.func179, Tryz.ntmps179
  go_wp2_with fail
  go_ret
  exact ⟨rfl, unhide HN, NF.refl _ _ _⟩
 | .node u v0 a l r, L, w, p, h, hfg, ha, hns, hsz => by
  obtain ⟨b, pl, pr, rfl, hb, hl, hr⟩ := h
  have hfg' : Fg Q (.node u v0 a l r) := by rcases hfg with h | h; cases h; exact h
  have hk12 : a.1 ≤ 12 := by
   rcases hfg' with ⟨h, _⟩ | ⟨⟨_, h⟩, _⟩ | ⟨⟨_, h⟩, _⟩ | ⟨⟨_, h⟩, _⟩ <;> omega
  have hfl : l = .nil ∨ Fg Q l := by
   rcases hfg' with ⟨_, _, h, _⟩ | ⟨_, h, _⟩ | ⟨_, h, _⟩ | ⟨_, h, _⟩
   ·exact Or.inl h
   ·exact Or.inl h
   ·exact Or.inr h
   ·exact Or.inr h
  have hfr : r = .nil ∨ Fg Q r := by
   rcases hfg' with ⟨_, _, _, h⟩ | ⟨_, _, h⟩ | ⟨_, _, h⟩ | ⟨_, _, h⟩
   ·exact Or.inl h
   ·exact Or.inl h
   ·exact Or.inl h
   ·exact Or.inr h
  have hs : sizeF (.node u v0 a l r) = 1 + sizeF l + sizeF r := rfl
  have IHL := hide (fun W hW1 hW2 hW3 => add_any Q al o1 n1 k1 hlen T nb B hnb l L W pl hW1 hfl hW2 hW3 (by omega))
  have bc := fun o => cell_of_blk hb o
  have HB := hide hb
  have HL := hide hl
  have HR := hide hr
  have HA := hide ha
  have HN := hide hns
  clear hb hl hr ha hns hfg hfg'
  go_enter Tryz.func179, Tryz.ntmps179
  go_wp2_with fail
  refine (unhide IHL w (unhide HL) (unhide HA) (unhide HN)).mono ?_
  rintro e w1 ⟨rfl, hn1, hf1⟩
  clear bc
  have hb1 := hf1.kt _ _ _ _ (Or.inr rfl) (unhide HB)
  have bc := fun o => cell_of_blk hb1 o
  have HR1 := hide (hf1.kt.isF (unhide HR))
  have HA1 := hide (hf1.kt.acts (unhide HA))
  have HB1 := hide hb1
  have HN1 := hide hn1
  have HF1 := hide hf1
  have hlp : ((addN al l L).1).length + sizeF r ≤ 100000 := by have := addN_len al l L; omega
  have IHR := hide (fun W hW1 hW2 hW3 => add_any Q al o1 n1 k1 hlen T nb B hnb r (addN al l L).1 W pr hW1 hfr hW2 hW3 hlp)
  clear hb1 hn1 hf1 HB HL HR HA HN
  go_wp2_with fail
  refine (unhide IHR w1 (unhide HR1) (unhide HA1) (unhide HN1)).mono ?_
  rintro e w2 ⟨rfl, hn2, hf2⟩
  clear bc
  have hb2 := hf2.kt _ _ _ _ (Or.inr rfl) (unhide HB1)
  have HB2 := hide hb2
  have HA2 := hide (hf2.kt.acts (unhide HA1))
  have HN2 := hide hn2
  have HF2 := hide ((unhide HF1).trans hf2)
  have bc := fun o => cell_of_blk hb2 o
  have hn1l := (unhide HA2).len
  have hlq : (addN al r (addN al l L).1).1.length + 1 ≤ 100000 := by have := addN_len al l L; have := addN_len al r (addN al l L).1; omega
  clear hb2 hn2 hf2 HB1 HA1 HN1 HF1 HR1
  go_wp2_with fail
  go_loopw [9, 10] (fun v i wr => ∃ (k d : Nat) (x : Int), i = .int .i64 (k : Int) ∧ v = .int .i64 x ∧ k ≤ al.length ∧ Hid (nxtT a al 0 (-1) = nxtT a al k x) ∧ Hid (wr = w2.drewN d)) (fun _ i _ => al.length - (intOf i).toNat)
  case atStart => exact ⟨0, 0, -1, rfl, rfl, Nat.zero_le _, rfl, rfl⟩
  case round =>
   obtain ⟨k, d, x, rfl, rfl, hkk, HX, HW⟩ := hrel
   clear bc
   have HBW : Hid (Below w2.heap.size w2 wr) := by have := bdn w2 d; rw [← unhide HW] at this; exact this
   have bc := fun o => cell_of_blk (((unhide HBW).block _ (lt_of_blk (unhide HB2))).trans (unhide HB2)) o
   by_cases hlt : k < al.length
   ·obtain ⟨t, rr, ht⟩ := drop_ne hlt
    have HA3 : Hid (ActsAre wr o1 n1 k1 al) := (KT.below (unhide HBW)).acts (unhide HA2)
    obtain ⟨g, ho, hgl, _, t0, t1, t2⟩ := (unhide HA3).tok ht
    subst ho
    have hkn : (k : Int) < (n1 : Int) := by omega
    by_cases hk : a.1 = 0
    ·have HS : Hid (nxtT a al k x = nxtT a al (k + 1) (if t.s.toList = a.2.1.toList then (k : Int) else x)) := by
      show _ = _
      unfold nxtT; rw [if_pos hk, if_pos hk, ht, lastI, dropTl ht]
     have hr0 : refO a.1 = 97 := by rw [hk]; rfl
     have b0 : wr.cell? ⟨b, 0, none⟩ = some (.int .u8 97) := by rw [bc 0, hr0]; rfl
     have b1 : wr.cell? ⟨b, 1, none⟩ = some (.string a.2.1) := bc 1
     clear bc ht HA3 hk hr0
     cases he : (t.s.toList == a.2.1.toList) with
     | true =>
      have HE : Hid (t.s.toList = a.2.1.toList) := hide (by simpa using he)
      go_wp2_with fail
      go_quiet (fail)
      go_wp2_with fail
      go_roundw
      case rel => exact ⟨k + 1, d + nq, k, by go_num, rfl, by omega, by show _ = _; rw [unhide HX, unhide HS, if_pos (unhide HE)], by show _ = _; rw [unhide HW, World.drewN_drewN]⟩
      case measure => simp [intOf]; omega
     | false =>
      have HE : Hid (¬ t.s.toList = a.2.1.toList) := hide (by simpa using he)
      go_wp2_with fail
      go_quiet (fail)
      go_wp2_with fail
      go_roundw
      case rel => exact ⟨k + 1, d + nq, x, by go_num, rfl, by omega, by show _ = _; rw [unhide HX, unhide HS, if_neg (unhide HE)], by show _ = _; rw [unhide HW, World.drewN_drewN]⟩
      case measure => simp [intOf]; omega
    ·have HS : Hid (nxtT a al k x = nxtT a al (k + 1) x) := by
      show _ = _
      unfold nxtT; rw [if_neg hk, if_neg hk]
     have hr0 : (refO a.1 == 97) = false := refO_ne hk hk12
     have b0 : wr.cell? ⟨b, 0, none⟩ = some (.int .u8 (refO a.1)) := bc 0
     clear bc ht HA3 hk
     generalize refO a.1 = ro at *
     go_wp2_with fail
     go_quiet (fail)
     go_wp2_with fail
     go_roundw
     case rel => exact ⟨k + 1, d + nq, x, by go_num, rfl, by omega, by show _ = _; rw [unhide HX, unhide HS], by show _ = _; rw [unhide HW, World.drewN_drewN]⟩
     case measure => simp [intOf]; omega
   ·have hkn : ¬ (k : Int) < (n1 : Int) := by omega
    have HXE : Hid (nxtT a al 0 (-1) = x) := by
     show _ = _
     rw [unhide HX]; unfold nxtT
     split
     ·rw [List.drop_eq_nil_of_le (by omega), lastI]
     ·rfl
    obtain ⟨v, hv⟩ := (unhide HN2).later (unhide HBW)
    have HV := hide hv
    have nbc := fun o => cell_of_blk hv.blk o
    have nbf := fun o => frozen_of_blk hv.blk o
    have hnl := lt_of_blk hv.blk
    have hbl : b < wr.heap.size := by have := lt_of_blk (unhide HB2); have := (unhide HBW).size; omega
    have hBw : B ≤ wr.heap.size := hv.low
    have HFW := hide ((unhide HF2).trans (NF.below (unhide HBW) (by obtain ⟨v', hv'⟩ := unhide HN2; exact hv'.low)))
    obtain ⟨i0, hi, hz0, hz1, hz2⟩ := info_parts infoB
    obtain ⟨j0, ji, jz0, jz1, jz2⟩ := info_parts infoI
    have HP : Hid (nxtT a al 0 (-1) = if a.1 = 0 then lastI a.2.1 0 al (-1) else -1) := rfl
    have HAD : Hid (addN al (.node u v0 a l r) L = ((addN al r (addN al l L).1).1 ++ [⟨a.1, (addN al l L).2, (addN al r (addN al l L).1).2, if a.1 = 0 then lastI a.2.1 0 al (-1) else -1⟩], ((addN al r (addN al l L).1).1.length : Int))) := rfl
    have hX0 : (ndX (addN al r (addN al l L).1).1 T 0).length = (addN al r (addN al l L).1).1.length := by simp [ndX]
    clear HN2 HBW HB2 HA2 hv HX HF2 HP
    generalize (addN al r (addN al l L).1).1 = L2 at *
    go_wp2_with fail
    refine wp_region_any (by kernel_rfl) ?_
    change wpAny _ _ _ _ _ _ _ (World.drew _)
    refine wpAny_take (i := 0) (v := .pointer (some ⟨nb, 0, none⟩)) rfl (by kernel_rfl) (by kernel_rfl) (by kernel_rfl) (fun _ _ _ h => h) (Or.inl ⟨by kernel_rfl, fun w => by go_simp⟩) ?_
    try simp only [Act.put, zA, zB, zC, zD, zE, zF]
    refine wpAny_take (i := 1) (v := .pointer (some ⟨nb, 0, none⟩)) rfl (by kernel_rfl) (by kernel_rfl) (by kernel_rfl) (fun _ _ _ h => h) (Or.inl ⟨by kernel_rfl, fun w => by go_simp⟩) ?_
    try simp only [Act.put, zA, zB, zC, zD, zE, zF]
    refine wpAny_take (i := 2) (v := .pointer (some ⟨nb, 0, none⟩)) rfl (by kernel_rfl) (by kernel_rfl) (by kernel_rfl) (fun _ _ _ h => h) (Or.inl ⟨by kernel_rfl, fun w => by go_simp⟩) ?_
    try simp only [Act.put, zA, zB, zC, zD, zE, zF]
    refine wpAny_take (i := 3) (v := .pointer (some ⟨nb, 0, none⟩)) rfl (by kernel_rfl) (by kernel_rfl) (by kernel_rfl) (fun _ _ _ h => h) (Or.inl ⟨by kernel_rfl, fun w => by go_simp⟩) ?_
    try simp only [Act.put, zA, zB, zC, zD, zE, zF]
    refine wpAny_take (i := 5) (v := .pointer (some ⟨b, 0, none⟩)) rfl (by kernel_rfl) (by kernel_rfl) (by kernel_rfl) (fun _ _ _ h => h) (Or.inl ⟨by kernel_rfl, fun w => by go_simp⟩) ?_
    try simp only [Act.put, zA, zB, zC, zD, zE, zF]
    refine wpAny_take (i := 6) (v := .pointer (some ⟨b, 0, none⟩)) rfl (by kernel_rfl) (by kernel_rfl) (by kernel_rfl) (fun _ _ _ h => h) (Or.inl ⟨by kernel_rfl, fun w => by go_simp⟩) ?_
    try simp only [Act.put, zA, zB, zC, zD, zE, zF]
    refine wpAny_take (i := 7) (v := .pointer (some ⟨b, 0, none⟩)) rfl (by kernel_rfl) (by kernel_rfl) (by kernel_rfl) (fun _ _ _ h => h) (Or.inl ⟨by kernel_rfl, fun w => by go_simp⟩) ?_
    try simp only [Act.put, zA, zB, zC, zD, zE, zF]
    refine wpAny_ready (rs := [4, 8]) (by kernel_rfl) (by simp) ?_
    refine AllReady.cons rfl (fun K hK => ?_) (AllReady.cons rfl (fun K hK => ?_) AllReady.nil)
    ·go_simp
     refine hK _ _ ?_
     clear hK K
     refine wpAny_ready (rs := [8]) (by kernel_rfl) (by simp) ?_
     refine AllReady.cons rfl (fun K hK => ?_) AllReady.nil
     go_simp
     refine hK _ _ ?_
     clear hK K
     refine wpAny_ready (rs := [9]) (by kernel_rfl) (by simp) ?_
     refine AllReady.cons rfl (fun K hK => ?_) AllReady.nil
     go_simp
     refine hK _ _ ?_
     clear hK K
     refine wpAny_ready (rs := [10]) (by kernel_rfl) (by simp) ?_
     refine AllReady.cons rfl (fun K hK => ?_) AllReady.nil
     refine step_append_lies _ (by rfl) _ _ 51 (by rfl) B 5 i0 (.int .u8 0) 1 1 Tryz.underlying51 hi hz0 hz1 hz2 rfl (by decide) (v 0) (ndX L2 T 0).length (ndX L2 T 0) (by rfl) ?c0 ⟨wr.heap.size, 0, none⟩ 1 1 [.int .u8 (refO a.1)] (by rfl) rfl ?c1 ?c2 (by decide) ?c3 ?c4 ?c5 (wr.heap.size + 1) (by simp) ?_
     case c0 => exact (owns_later ((unhide HV).own 0) (((Below.refl _ _).drew).alloc (Nat.le_refl _) _))
     case c1 =>
      intro j u hj
      match j, hj with
      | 0, hj => simp at hj; subst hj; simp [Addr.add]
      | j + 1, hj => simp at hj
     case c2 => intro u hu; simp at hu; subst hu; rfl
     case c3 => rw [hX0]; unfold maxLen; omega
     case c4 => rw [hX0]; omega
     case c5 => simp; omega
     intro g4 cap4 w4 hown4 hgrow4 hat4 hlt4
     have hn4 := (hgrow4.block nb (by simp; omega) (fun e => own_ty ((unhide HV).own 0) e.symm (unhide HV).blk (by decide))).trans ((Below.heap_alloc _ _ _ hnl).trans (unhide HV).blk)
     clear nbc nbf
     have nbc := fun o => cell_of_blk hn4 o
     have nbf := fun o => frozen_of_blk hn4 o
     clear hn4
     refine hK _ _ ?_
     clear hK K
     refine wpAny_take (i := 11) (v := .pointer (some ⟨nb, 0, none⟩)) rfl (by kernel_rfl) (by kernel_rfl) (by kernel_rfl) (fun _ _ _ h => h) (Or.inl ⟨by kernel_rfl, fun w => by go_simp⟩) ?_
     try simp only [Act.put, zA, zB, zC, zD, zE, zF]
     refine wpAny_take (i := 12) (v := .pointer (some ⟨nb, 0, none⟩)) rfl (by kernel_rfl) (by kernel_rfl) (by kernel_rfl) (fun _ _ _ h => h) (Or.inl ⟨by kernel_rfl, fun w => by go_simp⟩) ?_
     try simp only [Act.put, zA, zB, zC, zD, zE, zF]
     refine wpAny_ready (rs := [13]) (by kernel_rfl) (by simp) ?_
     refine AllReady.cons rfl (fun K hK => ?_) AllReady.nil
     go_simp
     refine hK _ _ ?_
     clear hK K
     refine wpAny_done (by kernel_rfl) ?_ _
     obtain ⟨v5, x5, hv5, hf5, ex5, ev5, ew5⟩ := ((unhide HV).later (((Below.refl _ _).drew).alloc (Nat.le_refl _) (.cells #[.int .u8 (refO a.1)] 5))).step 0 0 rfl (.int .u8 (refO a.1)) hX0.symm (by rw [hX0] at hown4; exact hown4) hgrow4 (by simpa using hat4)
     have HV5 := hide hv5
     have HX5 := hide ex5
     have HE5 := hide ev5
     have HF5 := hide ((unhide HFW).trans ((NF.below (((Below.refl wr.heap.size wr).drew).alloc (Nat.le_refl _) (.cells #[.int .u8 (refO a.1)] 5)) hBw).trans hf5))
     have HM51 : Hid ((x5 1).length = L2.length) := by show _ = _; rw [unhide HX5, upd_ne _ _ (by decide)]; simp [ndX]
     have HM52 : Hid ((x5 2).length = L2.length) := by show _ = _; rw [unhide HX5, upd_ne _ _ (by decide)]; simp [ndX]
     have HM53 : Hid ((x5 3).length = L2.length) := by show _ = _; rw [unhide HX5, upd_ne _ _ (by decide)]; simp [ndX]
     have HL5 := HM51
     clear nbc nbf hv5 hf5 ex5 ev5 ew5 hown4 hgrow4 hat4 hlt4
     generalize w4.setCell ⟨nb, 0, none⟩ (.slice (some ⟨g4, 0, none⟩) (L2.length + 1) cap4) = w5 at *
     have nbc := fun o => cell_of_blk (unhide HV5).blk o
     have nbf := fun o => frozen_of_blk (unhide HV5).blk o
     have hnl := lt_of_blk (unhide HV5).blk
     have hBw := (unhide HV5).low
     go_wp2_with (at_builtin; go_must (refine wpList_append_lies _ rfl _ _ 33 rfl B 3 j0 (.int .i64 0) 1 8 Tryz.underlying33 ji jz0 jz1 jz2 rfl (by decide) _ L2.length (x5 1) rfl ?c0 ⟨w5.heap.size, 0, none⟩ 1 1 [.int .i64 (addN al l L).2] rfl rfl ?c1 ?c2 (by decide) ?c3 ?c4 ?c5 (w5.heap.size + 1) ?c6 ?_))
     case c0 => have := owns_later ((unhide HV5).own 1) ((Below.refl _ _).alloc (Nat.le_refl _) (.cells #[.int .i64 (addN al l L).2] 3)); rw [unhide HL5] at this; exact this
     case c1 =>
      intro j u hj
      match j, hj with
      | 0, hj => simp at hj; subst hj; exact cell_of_blk (blk_alloc' _ _ _ (by simp [World.setCell])) 0
      | j + 1, hj => simp at hj
     case c2 => intro u hu; simp at hu; subst hu; rfl
     case c3 => unfold maxLen; omega
     case c4 => omega
     case c5 => simp; omega
     case c6 => simp
     intro g6 cap6 q6 hown hgrow hat _
     have hnq := (hgrow.block nb (by simp; omega) (fun e => own_ty ((unhide HV5).own 1) e.symm (unhide HV5).blk (by decide))).trans ((Below.heap_alloc _ _ _ (lt_of_blk (unhide HV5).blk)).trans (unhide HV5).blk)
     obtain ⟨v6, x6, hv6, hf6, ex6, ev6, ew6⟩ := ((unhide HV5).later ((Below.refl _ _).alloc (Nat.le_refl _) (.cells #[.int .i64 (addN al l L).2] 3))).step 1 1 rfl (.int .i64 (addN al l L).2) (unhide HL5).symm hown hgrow (by simpa [World.setCell] using hat)
     clear nbc nbf
     have nbc := fun o => cell_of_blk hnq o
     have nbf := fun o => frozen_of_blk hnq o
     clear hnq
     have HV6 := hide hv6
     have HX6 := hide ex6
     have HW6 := hide ew6
     have HF6 := hide ((unhide HF5).trans ((NF.below ((Below.refl _ _).alloc (Nat.le_refl _) (.cells #[.int .i64 (addN al l L).2] 3)) (unhide HV5).low).trans hf6))
     have HL6 : Hid ((x6 2).length = L2.length) := by show _ = _; rw [unhide HX6, upd_ne _ _ (by decide)]; exact unhide HM52
     have HM63 : Hid ((x6 3).length = L2.length) := by show _ = _; rw [unhide HX6, upd_ne _ _ (by decide)]; exact unhide HM53
     have hnl6 : nb < q6.heap.size := by have := lt_of_blk (unhide HV6).blk; simpa [World.setCell] using this
     have hBw6 : B ≤ q6.heap.size := by have := (unhide HV6).low; simpa [World.setCell] using this
     clear hown hgrow hat hv6 hf6 ex6 ev6 ew6
     go_wp2_with (at_builtin; go_must (refine wpList_append_lies _ rfl _ _ 33 rfl B 3 j0 (.int .i64 0) 1 8 Tryz.underlying33 ji jz0 jz1 jz2 rfl (by decide) _ L2.length (x6 2) rfl ?c0 ⟨q6.heap.size, 0, none⟩ 1 1 [.int .i64 (addN al r (addN al l L).1).2] rfl rfl ?c1 ?c2 (by decide) ?c3 ?c4 ?c5 (q6.heap.size + 1) ?c6 ?_))
     case c0 => have := owns_later ((unhide HV6).own 2) ((Below.refl _ _).alloc (Nat.le_refl _) (.cells #[.int .i64 (addN al r (addN al l L).1).2] 3)); rw [unhide HL6, unhide HW6 2 (by decide)] at this; exact this
     case c1 =>
      intro j u hj
      match j, hj with
      | 0, hj => simp at hj; subst hj; exact cell_of_blk (blk_alloc' _ _ _ (by simp [World.setCell])) 0
      | j + 1, hj => simp at hj
     case c2 => intro u hu; simp at hu; subst hu; rfl
     case c3 => unfold maxLen; omega
     case c4 => omega
     case c5 => simp; omega
     case c6 => simp
     intro g7 cap7 q7 hown hgrow hat _
     replace hgrow := grow_eq (unhide HW6 2 (by decide)) hgrow
     replace hat : (v6 2).ownBlock = some g7 ∨ g7 = q6.heap.size + 1 := by rw [unhide HW6 2 (by decide)]; exact hat
     have hnq := (hgrow.block nb (by simp; omega) (fun e => own_ty ((unhide HV6).own 2) e.symm (unhide HV6).blk (by decide))).trans ((Below.heap_alloc _ _ _ (lt_of_blk (unhide HV6).blk)).trans (unhide HV6).blk)
     obtain ⟨v7, x7, hv7, hf7, ex7, ev7, ew7⟩ := ((unhide HV6).later ((Below.refl _ _).alloc (Nat.le_refl _) (.cells #[.int .i64 (addN al r (addN al l L).1).2] 3))).step 2 2 rfl (.int .i64 (addN al r (addN al l L).1).2) (unhide HL6).symm hown hgrow (by simpa [World.setCell] using hat)
     clear nbc nbf
     have nbc := fun o => cell_of_blk hnq o
     have nbf := fun o => frozen_of_blk hnq o
     clear hnq
     have HV7 := hide hv7
     have HX7 := hide ex7
     have HW7 := hide ew7
     have HF7 := hide ((unhide HF6).trans ((NF.below ((Below.refl _ _).alloc (Nat.le_refl _) (.cells #[.int .i64 (addN al r (addN al l L).1).2] 3)) (unhide HV6).low).trans hf7))
     have HL7 : Hid ((x7 3).length = L2.length) := by show _ = _; rw [unhide HX7, upd_ne _ _ (by decide)]; exact unhide HM63
     have hnl7 : nb < q7.heap.size := by have := lt_of_blk (unhide HV7).blk; simpa [World.setCell] using this
     have hBw7 : B ≤ q7.heap.size := by have := (unhide HV7).low; simpa [World.setCell] using this
     clear hown hgrow hat hv7 hf7 ex7 ev7 ew7
     go_wp2_with (at_builtin; go_must (refine wpList_append_lies _ rfl _ _ 33 rfl B 3 j0 (.int .i64 0) 1 8 Tryz.underlying33 ji jz0 jz1 jz2 rfl (by decide) _ L2.length (x7 3) rfl ?c0 ⟨q7.heap.size, 0, none⟩ 1 1 [.int .i64 x] rfl rfl ?c1 ?c2 (by decide) ?c3 ?c4 ?c5 (q7.heap.size + 1) ?c6 ?_))
     case c0 => have := owns_later ((unhide HV7).own 3) ((Below.refl _ _).alloc (Nat.le_refl _) (.cells #[.int .i64 x] 3)); rw [unhide HL7, unhide HW7 3 (by decide)] at this; exact this
     case c1 =>
      intro j u hj
      match j, hj with
      | 0, hj => simp at hj; subst hj; exact cell_of_blk (blk_alloc' _ _ _ (by simp [World.setCell])) 0
      | j + 1, hj => simp at hj
     case c2 => intro u hu; simp at hu; subst hu; rfl
     case c3 => unfold maxLen; omega
     case c4 => omega
     case c5 => simp; omega
     case c6 => simp
     intro g8 cap8 q8 hown hgrow hat _
     replace hgrow := grow_eq (unhide HW7 3 (by decide)) hgrow
     replace hat : (v7 3).ownBlock = some g8 ∨ g8 = q7.heap.size + 1 := by rw [unhide HW7 3 (by decide)]; exact hat
     have hnq := (hgrow.block nb (by simp; omega) (fun e => own_ty ((unhide HV7).own 3) e.symm (unhide HV7).blk (by decide))).trans ((Below.heap_alloc _ _ _ (lt_of_blk (unhide HV7).blk)).trans (unhide HV7).blk)
     obtain ⟨v8, x8, hv8, hf8, ex8, ev8, ew8⟩ := ((unhide HV7).later ((Below.refl _ _).alloc (Nat.le_refl _) (.cells #[.int .i64 x] 3))).step 3 3 rfl (.int .i64 x) (unhide HL7).symm hown hgrow (by simpa [World.setCell] using hat)
     clear nbc nbf
     have nbc := fun o => cell_of_blk hnq o
     have nbf := fun o => frozen_of_blk hnq o
     clear hnq
     have HV8 := hide hv8
     have HX8 := hide ex8
     have HW8 := hide ew8
     have HF8 := hide ((unhide HF7).trans ((NF.below ((Below.refl _ _).alloc (Nat.le_refl _) (.cells #[.int .i64 x] 3)) (unhide HV7).low).trans hf8))
     have hnl8 : nb < q8.heap.size := by have := lt_of_blk (unhide HV8).blk; simpa [World.setCell] using this
     have hBw8 : B ≤ q8.heap.size := by have := (unhide HV8).low; simpa [World.setCell] using this
     clear hown hgrow hat hv8 hf8 ex8 ev8 ew8
     have e70 : v7 0 = .slice (some ⟨g4, 0, none⟩) (L2.length + 1) cap4 := (unhide HW7 0 (by decide)).trans ((unhide HW6 0 (by decide)).trans (unhide HE5))
     have nb0 : q8.cell? ⟨nb, 0, none⟩ = some (.slice (some ⟨g4, 0, none⟩) (L2.length + 1) cap4) := (nbc 0).trans (congrArg some e70)
     have nb3 := nbc 3
     clear nbc e70
     go_wp2_with fail
     go_ret
     refine ⟨?_, ⟨v8, ?_⟩, unhide HF8⟩
     ·rw [unhide HAD]; exact ret_int (by simp)
     ·rw [unhide HAD]
      have hx := ndX_four (unhide HX5) (unhide HX6) (unhide HX7) (unhide HX8)
      have hd : x = if a.1 = 0 then lastI a.2.1 0 al (-1) else -1 := (unhide HXE).symm
      rw [← hd, ← hx]
      exact unhide HV8
    ·go_simp
     refine hK _ _ ?_
     clear hK K
     refine wpAny_ready (rs := [4, 9]) (by kernel_rfl) (by simp) ?_
     refine AllReady.cons rfl (fun K hK => ?_) (AllReady.cons rfl (fun K hK => ?_) AllReady.nil)
     ·go_simp
      refine hK _ _ ?_
      clear hK K
      refine wpAny_ready (rs := [9]) (by kernel_rfl) (by simp) ?_
      refine AllReady.cons rfl (fun K hK => ?_) AllReady.nil
      go_simp
      refine hK _ _ ?_
      clear hK K
      refine wpAny_ready (rs := [10]) (by kernel_rfl) (by simp) ?_
      refine AllReady.cons rfl (fun K hK => ?_) AllReady.nil
      refine step_append_lies _ (by rfl) _ _ 51 (by rfl) B 5 i0 (.int .u8 0) 1 1 Tryz.underlying51 hi hz0 hz1 hz2 rfl (by decide) (v 0) (ndX L2 T 0).length (ndX L2 T 0) (by rfl) ?c0 ⟨wr.heap.size, 0, none⟩ 1 1 [.int .u8 (refO a.1)] (by rfl) rfl ?c1 ?c2 (by decide) ?c3 ?c4 ?c5 (wr.heap.size + 1) (by simp) ?_
      case c0 => exact (owns_later ((unhide HV).own 0) (((Below.refl _ _).drew).alloc (Nat.le_refl _) _))
      case c1 =>
       intro j u hj
       match j, hj with
       | 0, hj => simp at hj; subst hj; simp [Addr.add]
       | j + 1, hj => simp at hj
      case c2 => intro u hu; simp at hu; subst hu; rfl
      case c3 => rw [hX0]; unfold maxLen; omega
      case c4 => rw [hX0]; omega
      case c5 => simp; omega
      intro g4 cap4 w4 hown4 hgrow4 hat4 hlt4
      have hn4 := (hgrow4.block nb (by simp; omega) (fun e => own_ty ((unhide HV).own 0) e.symm (unhide HV).blk (by decide))).trans ((Below.heap_alloc _ _ _ hnl).trans (unhide HV).blk)
      clear nbc nbf
      have nbc := fun o => cell_of_blk hn4 o
      have nbf := fun o => frozen_of_blk hn4 o
      clear hn4
      refine hK _ _ ?_
      clear hK K
      refine wpAny_take (i := 11) (v := .pointer (some ⟨nb, 0, none⟩)) rfl (by kernel_rfl) (by kernel_rfl) (by kernel_rfl) (fun _ _ _ h => h) (Or.inl ⟨by kernel_rfl, fun w => by go_simp⟩) ?_
      try simp only [Act.put, zA, zB, zC, zD, zE, zF]
      refine wpAny_take (i := 12) (v := .pointer (some ⟨nb, 0, none⟩)) rfl (by kernel_rfl) (by kernel_rfl) (by kernel_rfl) (fun _ _ _ h => h) (Or.inl ⟨by kernel_rfl, fun w => by go_simp⟩) ?_
      try simp only [Act.put, zA, zB, zC, zD, zE, zF]
      refine wpAny_ready (rs := [13]) (by kernel_rfl) (by simp) ?_
      refine AllReady.cons rfl (fun K hK => ?_) AllReady.nil
      go_simp
      refine hK _ _ ?_
      clear hK K
      refine wpAny_done (by kernel_rfl) ?_ _
      obtain ⟨v5, x5, hv5, hf5, ex5, ev5, ew5⟩ := ((unhide HV).later (((Below.refl _ _).drew).alloc (Nat.le_refl _) (.cells #[.int .u8 (refO a.1)] 5))).step 0 0 rfl (.int .u8 (refO a.1)) hX0.symm (by rw [hX0] at hown4; exact hown4) hgrow4 (by simpa using hat4)
      have HV5 := hide hv5
      have HX5 := hide ex5
      have HE5 := hide ev5
      have HF5 := hide ((unhide HFW).trans ((NF.below (((Below.refl wr.heap.size wr).drew).alloc (Nat.le_refl _) (.cells #[.int .u8 (refO a.1)] 5)) hBw).trans hf5))
      have HM51 : Hid ((x5 1).length = L2.length) := by show _ = _; rw [unhide HX5, upd_ne _ _ (by decide)]; simp [ndX]
      have HM52 : Hid ((x5 2).length = L2.length) := by show _ = _; rw [unhide HX5, upd_ne _ _ (by decide)]; simp [ndX]
      have HM53 : Hid ((x5 3).length = L2.length) := by show _ = _; rw [unhide HX5, upd_ne _ _ (by decide)]; simp [ndX]
      have HL5 := HM51
      clear nbc nbf hv5 hf5 ex5 ev5 ew5 hown4 hgrow4 hat4 hlt4
      generalize w4.setCell ⟨nb, 0, none⟩ (.slice (some ⟨g4, 0, none⟩) (L2.length + 1) cap4) = w5 at *
      have nbc := fun o => cell_of_blk (unhide HV5).blk o
      have nbf := fun o => frozen_of_blk (unhide HV5).blk o
      have hnl := lt_of_blk (unhide HV5).blk
      have hBw := (unhide HV5).low
      go_wp2_with (at_builtin; go_must (refine wpList_append_lies _ rfl _ _ 33 rfl B 3 j0 (.int .i64 0) 1 8 Tryz.underlying33 ji jz0 jz1 jz2 rfl (by decide) _ L2.length (x5 1) rfl ?c0 ⟨w5.heap.size, 0, none⟩ 1 1 [.int .i64 (addN al l L).2] rfl rfl ?c1 ?c2 (by decide) ?c3 ?c4 ?c5 (w5.heap.size + 1) ?c6 ?_))
      case c0 => have := owns_later ((unhide HV5).own 1) ((Below.refl _ _).alloc (Nat.le_refl _) (.cells #[.int .i64 (addN al l L).2] 3)); rw [unhide HL5] at this; exact this
      case c1 =>
       intro j u hj
       match j, hj with
       | 0, hj => simp at hj; subst hj; exact cell_of_blk (blk_alloc' _ _ _ (by simp [World.setCell])) 0
       | j + 1, hj => simp at hj
      case c2 => intro u hu; simp at hu; subst hu; rfl
      case c3 => unfold maxLen; omega
      case c4 => omega
      case c5 => simp; omega
      case c6 => simp
      intro g6 cap6 q6 hown hgrow hat _
      have hnq := (hgrow.block nb (by simp; omega) (fun e => own_ty ((unhide HV5).own 1) e.symm (unhide HV5).blk (by decide))).trans ((Below.heap_alloc _ _ _ (lt_of_blk (unhide HV5).blk)).trans (unhide HV5).blk)
      obtain ⟨v6, x6, hv6, hf6, ex6, ev6, ew6⟩ := ((unhide HV5).later ((Below.refl _ _).alloc (Nat.le_refl _) (.cells #[.int .i64 (addN al l L).2] 3))).step 1 1 rfl (.int .i64 (addN al l L).2) (unhide HL5).symm hown hgrow (by simpa [World.setCell] using hat)
      clear nbc nbf
      have nbc := fun o => cell_of_blk hnq o
      have nbf := fun o => frozen_of_blk hnq o
      clear hnq
      have HV6 := hide hv6
      have HX6 := hide ex6
      have HW6 := hide ew6
      have HF6 := hide ((unhide HF5).trans ((NF.below ((Below.refl _ _).alloc (Nat.le_refl _) (.cells #[.int .i64 (addN al l L).2] 3)) (unhide HV5).low).trans hf6))
      have HL6 : Hid ((x6 2).length = L2.length) := by show _ = _; rw [unhide HX6, upd_ne _ _ (by decide)]; exact unhide HM52
      have HM63 : Hid ((x6 3).length = L2.length) := by show _ = _; rw [unhide HX6, upd_ne _ _ (by decide)]; exact unhide HM53
      have hnl6 : nb < q6.heap.size := by have := lt_of_blk (unhide HV6).blk; simpa [World.setCell] using this
      have hBw6 : B ≤ q6.heap.size := by have := (unhide HV6).low; simpa [World.setCell] using this
      clear hown hgrow hat hv6 hf6 ex6 ev6 ew6
      go_wp2_with (at_builtin; go_must (refine wpList_append_lies _ rfl _ _ 33 rfl B 3 j0 (.int .i64 0) 1 8 Tryz.underlying33 ji jz0 jz1 jz2 rfl (by decide) _ L2.length (x6 2) rfl ?c0 ⟨q6.heap.size, 0, none⟩ 1 1 [.int .i64 (addN al r (addN al l L).1).2] rfl rfl ?c1 ?c2 (by decide) ?c3 ?c4 ?c5 (q6.heap.size + 1) ?c6 ?_))
      case c0 => have := owns_later ((unhide HV6).own 2) ((Below.refl _ _).alloc (Nat.le_refl _) (.cells #[.int .i64 (addN al r (addN al l L).1).2] 3)); rw [unhide HL6, unhide HW6 2 (by decide)] at this; exact this
      case c1 =>
       intro j u hj
       match j, hj with
       | 0, hj => simp at hj; subst hj; exact cell_of_blk (blk_alloc' _ _ _ (by simp [World.setCell])) 0
       | j + 1, hj => simp at hj
      case c2 => intro u hu; simp at hu; subst hu; rfl
      case c3 => unfold maxLen; omega
      case c4 => omega
      case c5 => simp; omega
      case c6 => simp
      intro g7 cap7 q7 hown hgrow hat _
      replace hgrow := grow_eq (unhide HW6 2 (by decide)) hgrow
      replace hat : (v6 2).ownBlock = some g7 ∨ g7 = q6.heap.size + 1 := by rw [unhide HW6 2 (by decide)]; exact hat
      have hnq := (hgrow.block nb (by simp; omega) (fun e => own_ty ((unhide HV6).own 2) e.symm (unhide HV6).blk (by decide))).trans ((Below.heap_alloc _ _ _ (lt_of_blk (unhide HV6).blk)).trans (unhide HV6).blk)
      obtain ⟨v7, x7, hv7, hf7, ex7, ev7, ew7⟩ := ((unhide HV6).later ((Below.refl _ _).alloc (Nat.le_refl _) (.cells #[.int .i64 (addN al r (addN al l L).1).2] 3))).step 2 2 rfl (.int .i64 (addN al r (addN al l L).1).2) (unhide HL6).symm hown hgrow (by simpa [World.setCell] using hat)
      clear nbc nbf
      have nbc := fun o => cell_of_blk hnq o
      have nbf := fun o => frozen_of_blk hnq o
      clear hnq
      have HV7 := hide hv7
      have HX7 := hide ex7
      have HW7 := hide ew7
      have HF7 := hide ((unhide HF6).trans ((NF.below ((Below.refl _ _).alloc (Nat.le_refl _) (.cells #[.int .i64 (addN al r (addN al l L).1).2] 3)) (unhide HV6).low).trans hf7))
      have HL7 : Hid ((x7 3).length = L2.length) := by show _ = _; rw [unhide HX7, upd_ne _ _ (by decide)]; exact unhide HM63
      have hnl7 : nb < q7.heap.size := by have := lt_of_blk (unhide HV7).blk; simpa [World.setCell] using this
      have hBw7 : B ≤ q7.heap.size := by have := (unhide HV7).low; simpa [World.setCell] using this
      clear hown hgrow hat hv7 hf7 ex7 ev7 ew7
      go_wp2_with (at_builtin; go_must (refine wpList_append_lies _ rfl _ _ 33 rfl B 3 j0 (.int .i64 0) 1 8 Tryz.underlying33 ji jz0 jz1 jz2 rfl (by decide) _ L2.length (x7 3) rfl ?c0 ⟨q7.heap.size, 0, none⟩ 1 1 [.int .i64 x] rfl rfl ?c1 ?c2 (by decide) ?c3 ?c4 ?c5 (q7.heap.size + 1) ?c6 ?_))
      case c0 => have := owns_later ((unhide HV7).own 3) ((Below.refl _ _).alloc (Nat.le_refl _) (.cells #[.int .i64 x] 3)); rw [unhide HL7, unhide HW7 3 (by decide)] at this; exact this
      case c1 =>
       intro j u hj
       match j, hj with
       | 0, hj => simp at hj; subst hj; exact cell_of_blk (blk_alloc' _ _ _ (by simp [World.setCell])) 0
       | j + 1, hj => simp at hj
      case c2 => intro u hu; simp at hu; subst hu; rfl
      case c3 => unfold maxLen; omega
      case c4 => omega
      case c5 => simp; omega
      case c6 => simp
      intro g8 cap8 q8 hown hgrow hat _
      replace hgrow := grow_eq (unhide HW7 3 (by decide)) hgrow
      replace hat : (v7 3).ownBlock = some g8 ∨ g8 = q7.heap.size + 1 := by rw [unhide HW7 3 (by decide)]; exact hat
      have hnq := (hgrow.block nb (by simp; omega) (fun e => own_ty ((unhide HV7).own 3) e.symm (unhide HV7).blk (by decide))).trans ((Below.heap_alloc _ _ _ (lt_of_blk (unhide HV7).blk)).trans (unhide HV7).blk)
      obtain ⟨v8, x8, hv8, hf8, ex8, ev8, ew8⟩ := ((unhide HV7).later ((Below.refl _ _).alloc (Nat.le_refl _) (.cells #[.int .i64 x] 3))).step 3 3 rfl (.int .i64 x) (unhide HL7).symm hown hgrow (by simpa [World.setCell] using hat)
      clear nbc nbf
      have nbc := fun o => cell_of_blk hnq o
      have nbf := fun o => frozen_of_blk hnq o
      clear hnq
      have HV8 := hide hv8
      have HX8 := hide ex8
      have HW8 := hide ew8
      have HF8 := hide ((unhide HF7).trans ((NF.below ((Below.refl _ _).alloc (Nat.le_refl _) (.cells #[.int .i64 x] 3)) (unhide HV7).low).trans hf8))
      have hnl8 : nb < q8.heap.size := by have := lt_of_blk (unhide HV8).blk; simpa [World.setCell] using this
      have hBw8 : B ≤ q8.heap.size := by have := (unhide HV8).low; simpa [World.setCell] using this
      clear hown hgrow hat hv8 hf8 ex8 ev8 ew8
      have e70 : v7 0 = .slice (some ⟨g4, 0, none⟩) (L2.length + 1) cap4 := (unhide HW7 0 (by decide)).trans ((unhide HW6 0 (by decide)).trans (unhide HE5))
      have nb0 : q8.cell? ⟨nb, 0, none⟩ = some (.slice (some ⟨g4, 0, none⟩) (L2.length + 1) cap4) := (nbc 0).trans (congrArg some e70)
      have nb3 := nbc 3
      clear nbc e70
      go_wp2_with fail
      go_ret
      refine ⟨?_, ⟨v8, ?_⟩, unhide HF8⟩
      ·rw [unhide HAD]; exact ret_int (by simp)
      ·rw [unhide HAD]
       have hx := ndX_four (unhide HX5) (unhide HX6) (unhide HX7) (unhide HX8)
       have hd : x = if a.1 = 0 then lastI a.2.1 0 al (-1) else -1 := (unhide HXE).symm
       rw [← hd, ← hx]
       exact unhide HV8
     ·go_simp
      refine hK _ _ ?_
      clear hK K
      refine wpAny_ready (rs := [4]) (by kernel_rfl) (by simp) ?_
      refine AllReady.cons rfl (fun K hK => ?_) AllReady.nil
      go_simp
      refine hK _ _ ?_
      clear hK K
      refine wpAny_ready (rs := [10]) (by kernel_rfl) (by simp) ?_
      refine AllReady.cons rfl (fun K hK => ?_) AllReady.nil
      refine step_append_lies _ (by rfl) _ _ 51 (by rfl) B 5 i0 (.int .u8 0) 1 1 Tryz.underlying51 hi hz0 hz1 hz2 rfl (by decide) (v 0) (ndX L2 T 0).length (ndX L2 T 0) (by rfl) ?c0 ⟨wr.heap.size, 0, none⟩ 1 1 [.int .u8 (refO a.1)] (by rfl) rfl ?c1 ?c2 (by decide) ?c3 ?c4 ?c5 (wr.heap.size + 1) (by simp) ?_
      case c0 => exact (owns_later ((unhide HV).own 0) (((Below.refl _ _).drew).alloc (Nat.le_refl _) _))
      case c1 =>
       intro j u hj
       match j, hj with
       | 0, hj => simp at hj; subst hj; simp [Addr.add]
       | j + 1, hj => simp at hj
      case c2 => intro u hu; simp at hu; subst hu; rfl
      case c3 => rw [hX0]; unfold maxLen; omega
      case c4 => rw [hX0]; omega
      case c5 => simp; omega
      intro g4 cap4 w4 hown4 hgrow4 hat4 hlt4
      have hn4 := (hgrow4.block nb (by simp; omega) (fun e => own_ty ((unhide HV).own 0) e.symm (unhide HV).blk (by decide))).trans ((Below.heap_alloc _ _ _ hnl).trans (unhide HV).blk)
      clear nbc nbf
      have nbc := fun o => cell_of_blk hn4 o
      have nbf := fun o => frozen_of_blk hn4 o
      clear hn4
      refine hK _ _ ?_
      clear hK K
      refine wpAny_take (i := 11) (v := .pointer (some ⟨nb, 0, none⟩)) rfl (by kernel_rfl) (by kernel_rfl) (by kernel_rfl) (fun _ _ _ h => h) (Or.inl ⟨by kernel_rfl, fun w => by go_simp⟩) ?_
      try simp only [Act.put, zA, zB, zC, zD, zE, zF]
      refine wpAny_take (i := 12) (v := .pointer (some ⟨nb, 0, none⟩)) rfl (by kernel_rfl) (by kernel_rfl) (by kernel_rfl) (fun _ _ _ h => h) (Or.inl ⟨by kernel_rfl, fun w => by go_simp⟩) ?_
      try simp only [Act.put, zA, zB, zC, zD, zE, zF]
      refine wpAny_ready (rs := [13]) (by kernel_rfl) (by simp) ?_
      refine AllReady.cons rfl (fun K hK => ?_) AllReady.nil
      go_simp
      refine hK _ _ ?_
      clear hK K
      refine wpAny_done (by kernel_rfl) ?_ _
      obtain ⟨v5, x5, hv5, hf5, ex5, ev5, ew5⟩ := ((unhide HV).later (((Below.refl _ _).drew).alloc (Nat.le_refl _) (.cells #[.int .u8 (refO a.1)] 5))).step 0 0 rfl (.int .u8 (refO a.1)) hX0.symm (by rw [hX0] at hown4; exact hown4) hgrow4 (by simpa using hat4)
      have HV5 := hide hv5
      have HX5 := hide ex5
      have HE5 := hide ev5
      have HF5 := hide ((unhide HFW).trans ((NF.below (((Below.refl wr.heap.size wr).drew).alloc (Nat.le_refl _) (.cells #[.int .u8 (refO a.1)] 5)) hBw).trans hf5))
      have HM51 : Hid ((x5 1).length = L2.length) := by show _ = _; rw [unhide HX5, upd_ne _ _ (by decide)]; simp [ndX]
      have HM52 : Hid ((x5 2).length = L2.length) := by show _ = _; rw [unhide HX5, upd_ne _ _ (by decide)]; simp [ndX]
      have HM53 : Hid ((x5 3).length = L2.length) := by show _ = _; rw [unhide HX5, upd_ne _ _ (by decide)]; simp [ndX]
      have HL5 := HM51
      clear nbc nbf hv5 hf5 ex5 ev5 ew5 hown4 hgrow4 hat4 hlt4
      generalize w4.setCell ⟨nb, 0, none⟩ (.slice (some ⟨g4, 0, none⟩) (L2.length + 1) cap4) = w5 at *
      have nbc := fun o => cell_of_blk (unhide HV5).blk o
      have nbf := fun o => frozen_of_blk (unhide HV5).blk o
      have hnl := lt_of_blk (unhide HV5).blk
      have hBw := (unhide HV5).low
      go_wp2_with (at_builtin; go_must (refine wpList_append_lies _ rfl _ _ 33 rfl B 3 j0 (.int .i64 0) 1 8 Tryz.underlying33 ji jz0 jz1 jz2 rfl (by decide) _ L2.length (x5 1) rfl ?c0 ⟨w5.heap.size, 0, none⟩ 1 1 [.int .i64 (addN al l L).2] rfl rfl ?c1 ?c2 (by decide) ?c3 ?c4 ?c5 (w5.heap.size + 1) ?c6 ?_))
      case c0 => have := owns_later ((unhide HV5).own 1) ((Below.refl _ _).alloc (Nat.le_refl _) (.cells #[.int .i64 (addN al l L).2] 3)); rw [unhide HL5] at this; exact this
      case c1 =>
       intro j u hj
       match j, hj with
       | 0, hj => simp at hj; subst hj; exact cell_of_blk (blk_alloc' _ _ _ (by simp [World.setCell])) 0
       | j + 1, hj => simp at hj
      case c2 => intro u hu; simp at hu; subst hu; rfl
      case c3 => unfold maxLen; omega
      case c4 => omega
      case c5 => simp; omega
      case c6 => simp
      intro g6 cap6 q6 hown hgrow hat _
      have hnq := (hgrow.block nb (by simp; omega) (fun e => own_ty ((unhide HV5).own 1) e.symm (unhide HV5).blk (by decide))).trans ((Below.heap_alloc _ _ _ (lt_of_blk (unhide HV5).blk)).trans (unhide HV5).blk)
      obtain ⟨v6, x6, hv6, hf6, ex6, ev6, ew6⟩ := ((unhide HV5).later ((Below.refl _ _).alloc (Nat.le_refl _) (.cells #[.int .i64 (addN al l L).2] 3))).step 1 1 rfl (.int .i64 (addN al l L).2) (unhide HL5).symm hown hgrow (by simpa [World.setCell] using hat)
      clear nbc nbf
      have nbc := fun o => cell_of_blk hnq o
      have nbf := fun o => frozen_of_blk hnq o
      clear hnq
      have HV6 := hide hv6
      have HX6 := hide ex6
      have HW6 := hide ew6
      have HF6 := hide ((unhide HF5).trans ((NF.below ((Below.refl _ _).alloc (Nat.le_refl _) (.cells #[.int .i64 (addN al l L).2] 3)) (unhide HV5).low).trans hf6))
      have HL6 : Hid ((x6 2).length = L2.length) := by show _ = _; rw [unhide HX6, upd_ne _ _ (by decide)]; exact unhide HM52
      have HM63 : Hid ((x6 3).length = L2.length) := by show _ = _; rw [unhide HX6, upd_ne _ _ (by decide)]; exact unhide HM53
      have hnl6 : nb < q6.heap.size := by have := lt_of_blk (unhide HV6).blk; simpa [World.setCell] using this
      have hBw6 : B ≤ q6.heap.size := by have := (unhide HV6).low; simpa [World.setCell] using this
      clear hown hgrow hat hv6 hf6 ex6 ev6 ew6
      go_wp2_with (at_builtin; go_must (refine wpList_append_lies _ rfl _ _ 33 rfl B 3 j0 (.int .i64 0) 1 8 Tryz.underlying33 ji jz0 jz1 jz2 rfl (by decide) _ L2.length (x6 2) rfl ?c0 ⟨q6.heap.size, 0, none⟩ 1 1 [.int .i64 (addN al r (addN al l L).1).2] rfl rfl ?c1 ?c2 (by decide) ?c3 ?c4 ?c5 (q6.heap.size + 1) ?c6 ?_))
      case c0 => have := owns_later ((unhide HV6).own 2) ((Below.refl _ _).alloc (Nat.le_refl _) (.cells #[.int .i64 (addN al r (addN al l L).1).2] 3)); rw [unhide HL6, unhide HW6 2 (by decide)] at this; exact this
      case c1 =>
       intro j u hj
       match j, hj with
       | 0, hj => simp at hj; subst hj; exact cell_of_blk (blk_alloc' _ _ _ (by simp [World.setCell])) 0
       | j + 1, hj => simp at hj
      case c2 => intro u hu; simp at hu; subst hu; rfl
      case c3 => unfold maxLen; omega
      case c4 => omega
      case c5 => simp; omega
      case c6 => simp
      intro g7 cap7 q7 hown hgrow hat _
      replace hgrow := grow_eq (unhide HW6 2 (by decide)) hgrow
      replace hat : (v6 2).ownBlock = some g7 ∨ g7 = q6.heap.size + 1 := by rw [unhide HW6 2 (by decide)]; exact hat
      have hnq := (hgrow.block nb (by simp; omega) (fun e => own_ty ((unhide HV6).own 2) e.symm (unhide HV6).blk (by decide))).trans ((Below.heap_alloc _ _ _ (lt_of_blk (unhide HV6).blk)).trans (unhide HV6).blk)
      obtain ⟨v7, x7, hv7, hf7, ex7, ev7, ew7⟩ := ((unhide HV6).later ((Below.refl _ _).alloc (Nat.le_refl _) (.cells #[.int .i64 (addN al r (addN al l L).1).2] 3))).step 2 2 rfl (.int .i64 (addN al r (addN al l L).1).2) (unhide HL6).symm hown hgrow (by simpa [World.setCell] using hat)
      clear nbc nbf
      have nbc := fun o => cell_of_blk hnq o
      have nbf := fun o => frozen_of_blk hnq o
      clear hnq
      have HV7 := hide hv7
      have HX7 := hide ex7
      have HW7 := hide ew7
      have HF7 := hide ((unhide HF6).trans ((NF.below ((Below.refl _ _).alloc (Nat.le_refl _) (.cells #[.int .i64 (addN al r (addN al l L).1).2] 3)) (unhide HV6).low).trans hf7))
      have HL7 : Hid ((x7 3).length = L2.length) := by show _ = _; rw [unhide HX7, upd_ne _ _ (by decide)]; exact unhide HM63
      have hnl7 : nb < q7.heap.size := by have := lt_of_blk (unhide HV7).blk; simpa [World.setCell] using this
      have hBw7 : B ≤ q7.heap.size := by have := (unhide HV7).low; simpa [World.setCell] using this
      clear hown hgrow hat hv7 hf7 ex7 ev7 ew7
      go_wp2_with (at_builtin; go_must (refine wpList_append_lies _ rfl _ _ 33 rfl B 3 j0 (.int .i64 0) 1 8 Tryz.underlying33 ji jz0 jz1 jz2 rfl (by decide) _ L2.length (x7 3) rfl ?c0 ⟨q7.heap.size, 0, none⟩ 1 1 [.int .i64 x] rfl rfl ?c1 ?c2 (by decide) ?c3 ?c4 ?c5 (q7.heap.size + 1) ?c6 ?_))
      case c0 => have := owns_later ((unhide HV7).own 3) ((Below.refl _ _).alloc (Nat.le_refl _) (.cells #[.int .i64 x] 3)); rw [unhide HL7, unhide HW7 3 (by decide)] at this; exact this
      case c1 =>
       intro j u hj
       match j, hj with
       | 0, hj => simp at hj; subst hj; exact cell_of_blk (blk_alloc' _ _ _ (by simp [World.setCell])) 0
       | j + 1, hj => simp at hj
      case c2 => intro u hu; simp at hu; subst hu; rfl
      case c3 => unfold maxLen; omega
      case c4 => omega
      case c5 => simp; omega
      case c6 => simp
      intro g8 cap8 q8 hown hgrow hat _
      replace hgrow := grow_eq (unhide HW7 3 (by decide)) hgrow
      replace hat : (v7 3).ownBlock = some g8 ∨ g8 = q7.heap.size + 1 := by rw [unhide HW7 3 (by decide)]; exact hat
      have hnq := (hgrow.block nb (by simp; omega) (fun e => own_ty ((unhide HV7).own 3) e.symm (unhide HV7).blk (by decide))).trans ((Below.heap_alloc _ _ _ (lt_of_blk (unhide HV7).blk)).trans (unhide HV7).blk)
      obtain ⟨v8, x8, hv8, hf8, ex8, ev8, ew8⟩ := ((unhide HV7).later ((Below.refl _ _).alloc (Nat.le_refl _) (.cells #[.int .i64 x] 3))).step 3 3 rfl (.int .i64 x) (unhide HL7).symm hown hgrow (by simpa [World.setCell] using hat)
      clear nbc nbf
      have nbc := fun o => cell_of_blk hnq o
      have nbf := fun o => frozen_of_blk hnq o
      clear hnq
      have HV8 := hide hv8
      have HX8 := hide ex8
      have HW8 := hide ew8
      have HF8 := hide ((unhide HF7).trans ((NF.below ((Below.refl _ _).alloc (Nat.le_refl _) (.cells #[.int .i64 x] 3)) (unhide HV7).low).trans hf8))
      have hnl8 : nb < q8.heap.size := by have := lt_of_blk (unhide HV8).blk; simpa [World.setCell] using this
      have hBw8 : B ≤ q8.heap.size := by have := (unhide HV8).low; simpa [World.setCell] using this
      clear hown hgrow hat hv8 hf8 ex8 ev8 ew8
      have e70 : v7 0 = .slice (some ⟨g4, 0, none⟩) (L2.length + 1) cap4 := (unhide HW7 0 (by decide)).trans ((unhide HW6 0 (by decide)).trans (unhide HE5))
      have nb0 : q8.cell? ⟨nb, 0, none⟩ = some (.slice (some ⟨g4, 0, none⟩) (L2.length + 1) cap4) := (nbc 0).trans (congrArg some e70)
      have nb3 := nbc 3
      clear nbc e70
      go_wp2_with fail
      go_ret
      refine ⟨?_, ⟨v8, ?_⟩, unhide HF8⟩
      ·rw [unhide HAD]; exact ret_int (by simp)
      ·rw [unhide HAD]
       have hx := ndX_four (unhide HX5) (unhide HX6) (unhide HX7) (unhide HX8)
       have hd : x = if a.1 = 0 then lastI a.2.1 0 al (-1) else -1 := (unhide HXE).symm
       rw [← hd, ← hx]
       exact unhide HV8
theorem NF.toBelow {nb B s : Nat} {w w3 w' : World} (h : Below s w w3) (hf : NF nb B w3 w') (hs : s ≤ nb) (hB : s ≤ B) : Below s w w' :=
 ⟨hf.os.trans h.os, hf.tape.trans h.tape, hf.output.trans h.output, Nat.le_trans h.size hf.size, fun b hb => (hf.low b (by omega) (by omega)).trans (h.block b hb)⟩
theorem ndX_tops {L : List Nd} {T : List Int} {k : Int} : upd (ndX L T) 4 (ndX L T 4 ++ [.int .i64 k]) = ndX L (T ++ [k]) := by
 funext i
 match i with
 | 0 => simp [upd, ndX]
 | 1 => simp [upd, ndX]
 | 2 => simp [upd, ndX]
 | 3 => simp [upd, ndX]
 | 4 => simp [upd, ndX]
theorem NS.init {w : World} {nb : Nat} (h : w.heap[nb]? = some (.cells #[.slice none 0 0, .slice none 0 0, .slice none 0 0, .slice none 0 0, .slice none 0 0] 294 (0, 0))) : NSx w nb w.heap.size [] [] := by
 refine ⟨fun _ => .slice none 0 0, ⟨h, fun i => ?_, fun i j _ k hk => by simp [Value.ownBlock] at hk, Nat.le_refl _⟩⟩
 have : ndX [] [] i = [] := by unfold ndX; simp
 rw [this]
 exact World.ownsRow_nil _ _ _ _
theorem drop_cons {α : Type} {l : List α} {k : Nat} (h : k < l.length) : ∃ t r, l.drop k = t :: r := by
 cases hd : l.drop k with
 | nil => have := congrArg List.length hd; simp at this; omega
 | cons t r => exact ⟨t, r, rfl⟩
def NdPost (al : List Tk) (rs : List Rl) (w w' : World) (e : Ending) : Prop :=
 ∃ nb B, e = .returned (.pointer (some ⟨nb, 0, none⟩)) ∧ w.heap.size ≤ nb ∧ nb < B ∧ NSx w' nb B (nodM al rs ([], [])).1 (nodM al rs ([], [])).2 ∧ Below w.heap.size w w'
set_option maxHeartbeats 4000000 in
set_option maxRecDepth 100000 in
theorem NodesOf_any (Q : Tk → Prop) (w : World) (o1 : Option Addr) (n1 k1 : Nat) (o2 : Option Addr) (n2 k2 : Nat) (al : List Tk) (rs : List Rl) (ha : ActsAre w o1 n1 k1 al) (hr : RowR w o2 n2 k2 rs) (hlen : al.length ≤ 401) (hrl : rs.length ≤ 401) (hok : ∀ r ∈ rs, r.call = true → CallOk r) (hfg : ∀ r ∈ rs, Fg Q (ruleF r)) (hnl : nodesL rs ≤ 10000) :
  Calls Tryz.prog 140 #[.agg #[.slice o1 n1 k1, .slice o2 n2 k2]] w fun e w' => NdPost al rs w w' e := by
 have HA := hide ha
 have HR := hide hr
 have HOK := hide hok
 have HFG := hide hfg
 clear ha hr hok hfg
 obtain ⟨j0, ji, jz0, jz1, jz2⟩ := info_parts infoI
 go_enter Tryz.func140, Tryz.ntmps140
 go_wp2_with (go_at_call 177; refine (Formulas_any _ _ _ _ _ _ _ rs ((unhide HR).later (((Below.refl _ _).alloc (Nat.le_refl _) _).alloc (by simp) _)) hrl (unhide HOK)).mono ?_)
 rintro e w3 ⟨v, ps, rfl, hown, hfs, hb3⟩
 obtain ⟨fo, fc, rfl⟩ := owns_val hown
 have hmb := (hb3.block w.heap.size (by simp; omega)).trans ((Below.heap_alloc _ _ _ (by simp)).trans (blk_alloc w (.cells #[.slice o1 n1 k1, .slice o2 n2 k2] 228)))
 have hnb := (hb3.block (w.heap.size + 1) (by simp)).trans (blk_alloc' (w.alloc (.cells #[.slice o1 n1 k1, .slice o2 n2 k2] 228)) (.cells #[.slice none 0 0, .slice none 0 0, .slice none 0 0, .slice none 0 0, .slice none 0 0] 294) (w.heap.size + 1) (by simp))
 have hbel3 : Below w.heap.size w w3 := (((Below.refl w.heap.size w).alloc (Nat.le_refl _) _).alloc (by simp) _).trans (hb3.mono (by simp; omega))
 have hz3 := lt_of_blk hnb
 have HOW := hide hown
 have HFS := hide hfs
 have HMB := hide hmb
 have HNB := hide hnb
 have HBEL := hide hbel3
 have HA3 := hide ((KT.below hbel3).acts (unhide HA))
 clear hown hfs hb3 hmb hnb hbel3 HA HR HOK
 go_wp2_with fail
 go_loopw [5] (fun x wr => ∃ k : Nat, k ≤ rs.length ∧ x = .int .i64 k ∧ NSx wr (w.heap.size + 1) w3.heap.size (nodM al (rs.take k) ([], [])).1 (nodM al (rs.take k) ([], [])).2 ∧ NF (w.heap.size + 1) w3.heap.size w3 wr) (fun x _ => rs.length - (intOf x).toNat)
 case atStart => exact ⟨0, Nat.zero_le _, rfl, by rw [List.take_zero]; exact NS.init (unhide HNB), NF.refl _ _ _⟩
 case round =>
  obtain ⟨k, hk, rfl, hns, hnf⟩ := hrel
  have HNS := hide hns
  have HNF := hide hnf
  clear hns hnf
  by_cases hlt : k < rs.length
  ·obtain ⟨r, l, hrd⟩ := drop_cons hlt
   have hkn : (k : Int) < (rs.length : Int) := by omega
   obtain ⟨p, hp, hF0⟩ := (unhide HFS).at hrd
   obtain ⟨g, hgo, hg, hgc⟩ := owns1_at (unhide HOW) hlt
   subst hgo
   have hgk : wr.cell? ⟨g, k, none⟩ = some (.pointer p) := by
    have e1 : w3.cell? ⟨g, k, none⟩ = some (.pointer p) := by rw [hgc, List.getElem?_map, hp]; rfl
    have e2 : wr.heap[g]? = w3.heap[g]? := (unhide HNF).low g hg (by
     intro e
     obtain ⟨_, ⟨h1, _⟩ | ⟨g', cap', cur', hv', _, hh', _⟩⟩ := unhide HOW
     ·cases h1
     ·cases hv'
      rw [e, unhide HNB] at hh'
      cases hh')
    unfold World.cell? at e1 ⊢
    simp only [e2]; exact e1
   have hm0 : wr.cell? ⟨w.heap.size, 0, none⟩ = some (.slice o1 n1 k1) := cell_of_blk (((unhide HNF).low w.heap.size (by omega) (by omega)).trans (unhide HMB)) 0
   have hIF := (unhide HNF).kt.isF hF0
   have hAC := (unhide HNF).kt.acts (unhide HA3)
   have hrm : r ∈ rs := List.mem_of_mem_drop (hrd ▸ List.mem_cons_self ..)
   have htk : rs.take (k + 1) = rs.take k ++ [r] := by
    have hrk : rs[k]? = some r := by
     have := List.getElem?_drop (xs := rs) (i := k) (j := 0)
     rw [hrd] at this; simpa using this.symm
    rw [List.take_add_one, hrk]; rfl
   have hsum : nodesL (rs.take k) + sizeF (ruleF r) ≤ 10000 := by
    have h1 : nodesL rs = nodesL (rs.take (k + 1)) + nodesL (rs.drop (k + 1)) := by rw [← nodesL_append, List.take_append_drop]
    rw [htk, nodesL_append] at h1
    simp only [nodesL] at h1
    omega
   have HADD := hide (fun W h1 h2 h3 => add_any Q al (o1 := o1) (n1 := n1) (k1 := k1) hlen (nodM al (rs.take k) ([], [])).2 (w.heap.size + 1) w3.heap.size (by omega) (ruleF r) (nodM al (rs.take k) ([], [])).1 W p h1 (Or.inr (unhide HFG r hrm)) h2 h3 (by rw [(nodM_len al (rs.take k) ([], [])).1]; simp; omega))
   have HSN : Hid (nodM al (rs.take (k + 1)) ([], []) = ((addN al (ruleF r) (nodM al (rs.take k) ([], [])).1).1, (nodM al (rs.take k) ([], [])).2 ++ [(addN al (ruleF r) (nodM al (rs.take k) ([], [])).1).2])) := by
    show _ = _
    rw [htk, nodM_snoc]
   have hTl : (nodM al (rs.take k) ([], [])).2.length = k := by rw [(nodM_len al (rs.take k) ([], [])).2]; simp; omega
   have hAl : ∀ x, ((addN al (ruleF r) (nodM al (rs.take k) ([], [])).1).2 = x) → True := fun _ _ => trivial
   have HIF := hide hIF
   have HAC := hide hAC
   have hwz : w3.heap.size ≤ wr.heap.size := (unhide HNF).size
   clear hIF hAC hF0 hp hgc hrd hrm htk hsum hAl
   generalize hNM : nodM al (rs.take k) ([], []) = NM at *
   clear hNM
   obtain ⟨L, T⟩ := NM
   have hTl' : T.length = k := hTl
   clear hTl
   generalize hAN : addN al (ruleF r) L = AN at *
   have HAN := hide hAN
   clear hAN
   go_wp2_with fail
   refine wp_region_held_drew (S := fun w' => w'.cell? ⟨g, k, none⟩ = some (.pointer p) ∧ w'.cell? ⟨w.heap.size, 0, none⟩ = some (.slice o1 n1 k1)) (by kernel_rfl) ?_ (fun hHeld => ?_)
   ·exact ⟨hgk, hm0⟩
   refine wpAnyH_take (i := 0) (v := .pointer (some ⟨w.heap.size + 1, 0, none⟩)) rfl (by kernel_rfl) (by kernel_rfl) (by kernel_rfl) (fun _ _ _ h => h) (Or.inl ⟨by kernel_rfl, fun w hw => by obtain ⟨s0, s1⟩ := hw; go_simp⟩) hHeld ?_
   try simp only [Act.put, zA, zB, zC, zD, zE, zF]
   refine wpAnyH_take (i := 1) (v := .slice (some ⟨g, 0, none⟩) rs.length fc) rfl (by kernel_rfl) (by kernel_rfl) (by kernel_rfl) (fun _ _ _ h => h) (Or.inl ⟨by kernel_rfl, fun w hw => by obtain ⟨s0, s1⟩ := hw; go_simp⟩) hHeld ?_
   try simp only [Act.put, zA, zB, zC, zD, zE, zF]
   refine wpAnyH_take (i := 2) (v := .int .i64 (k : Int)) rfl (by kernel_rfl) (by kernel_rfl) (by kernel_rfl) (fun _ _ _ h => h) (Or.inl ⟨by kernel_rfl, fun w hw => by obtain ⟨s0, s1⟩ := hw; go_simp⟩) hHeld ?_
   try simp only [Act.put, zA, zB, zC, zD, zE, zF]
   refine wpAnyH_take (i := 3) (v := .pointer (some ⟨g, k, none⟩)) rfl (by kernel_rfl) (by kernel_rfl) (by kernel_rfl) (fun _ _ _ h => h) (Or.inl ⟨by kernel_rfl, fun w hw => by obtain ⟨s0, s1⟩ := hw; go_simp⟩) hHeld ?_
   try simp only [Act.put, zA, zB, zC, zD, zE, zF]
   refine wpAnyH_take (i := 4) (v := .pointer p) rfl (by kernel_rfl) (by kernel_rfl) (by kernel_rfl) (fun _ _ _ h => h) (Or.inl ⟨by kernel_rfl, fun w hw => by obtain ⟨s0, s1⟩ := hw; go_simp⟩) hHeld ?_
   try simp only [Act.put, zA, zB, zC, zD, zE, zF]
   refine wpAnyH_take (i := 5) (v := .pointer (some ⟨w.heap.size, 0, none⟩)) rfl (by kernel_rfl) (by kernel_rfl) (by kernel_rfl) (fun _ _ _ h => h) (Or.inl ⟨by kernel_rfl, fun w hw => by obtain ⟨s0, s1⟩ := hw; go_simp⟩) hHeld ?_
   try simp only [Act.put, zA, zB, zC, zD, zE, zF]
   refine wpAnyH_take (i := 6) (v := .slice o1 n1 k1) rfl (by kernel_rfl) (by kernel_rfl) (by kernel_rfl) (fun _ _ _ h => h) (Or.inl ⟨by kernel_rfl, fun w hw => by obtain ⟨s0, s1⟩ := hw; go_simp⟩) hHeld ?_
   try simp only [Act.put, zA, zB, zC, zD, zE, zF]
   refine wpAnyH_ready (rs := [7]) (by kernel_rfl) (by simp) ?_
   refine AllReadyH.cons rfl (fun K hK => ?_) AllReadyH.nil
   go_simp
   refine (unhide HADD _ ((KT.below ((Below.refl _ _).drew)).isF (unhide HIF)) ((KT.below ((Below.refl _ _).drew)).acts (unhide HAC)) ((unhide HNS).later ((Below.refl _ _).drew))).mono ?_
   rintro e w5 ⟨rfl, hn5, hf5⟩
   rw [unhide HAN] at hn5
   have hf5' : NF (w.heap.size + 1) w3.heap.size w3 w5 := (unhide HNF).trans ((NF.below ((Below.refl _ _).drew) hwz).trans hf5)
   have hs5 : w5.cell? ⟨g, k, none⟩ = some (.pointer p) ∧ w5.cell? ⟨w.heap.size, 0, none⟩ = some (.slice o1 n1 k1) := by
    refine ⟨?_, cell_of_blk ((hf5'.low w.heap.size (by omega) (by omega)).trans (unhide HMB)) 0⟩
    have e2 : w5.heap[g]? = wr.heap[g]? := hf5.low g hg (by
     intro e
     obtain ⟨_, ⟨h1, _⟩ | ⟨g', cap', cur', hv', _, hh', _⟩⟩ := unhide HOW
     ·cases h1
     ·cases hv'
      rw [e, unhide HNB] at hh'
      cases hh')
    unfold World.cell? at hgk ⊢
    simp only [e2]; exact hgk
   refine hK.out _ _ hs5 (fun hHeld => ?_)
   clear hK K hs5
   rw [unhide HAN]
   have HF5 := hide hf5'
   obtain ⟨v, hv⟩ := hn5
   have HV := hide hv
   have nbc := fun o => cell_of_blk hv.blk o
   have nbf := fun o => frozen_of_blk hv.blk o
   have hnl5 := lt_of_blk hv.blk
   have hBw5 : w3.heap.size ≤ w5.heap.size := hv.low
   obtain ⟨to4, tc, hto⟩ := owns_val (hv.own 4)
   have hX4 : (ndX AN.1 T 4).length = k := by simp [ndX, hTl']
   rw [hX4] at hto
   have HTO := hide hto
   have HX4 := hide hX4
   have nb4 : w5.cell? ⟨w.heap.size + 1, 4, none⟩ = some (.slice to4 k tc) := (nbc 4).trans (congrArg some hto)
   clear hv hf5 hf5' hto hX4 nbc
   refine wpAnyH_take (i := 8) (v := .int .i64 AN.2) rfl (by kernel_rfl) (by kernel_rfl) (by kernel_rfl) (fun _ _ _ h => h) (Or.inl ⟨by kernel_rfl, fun w hw => by obtain ⟨s0, s1⟩ := hw; go_simp⟩) hHeld ?_
   try simp only [Act.put, zA, zB, zC, zD, zE, zF]
   refine wpAnyH_done (by kernel_rfl) ?_ _
   clear hHeld
   go_wp2_with (at_builtin; go_must (refine wpList_append_lies _ rfl _ _ 33 rfl w3.heap.size 3 j0 (.int .i64 0) 1 8 Tryz.underlying33 ji jz0 jz1 jz2 rfl (by decide) _ k (ndX AN.1 T 4) rfl ?c0 ⟨w5.heap.size, 0, none⟩ 1 1 [.int .i64 AN.2] rfl rfl ?c1 ?c2 (by decide) ?c3 ?c4 ?c5 (w5.heap.size + 1) ?c6 ?_))
   case c0 => have := owns_later ((unhide HV).own 4) ((Below.refl _ _).alloc (Nat.le_refl _) (.cells #[.int .i64 AN.2] 3)); rw [unhide HX4, unhide HTO] at this; exact this
   case c1 =>
    intro j u hj
    match j, hj with
    | 0, hj => simp at hj; subst hj; exact cell_of_blk (blk_alloc _ _) 0
    | j + 1, hj => simp at hj
   case c2 => intro u hu; simp at hu; subst hu; rfl
   case c3 => unfold maxLen; omega
   case c4 => omega
   case c5 => simp; omega
   case c6 => simp
   intro g8 cap8 q8 hown hgrow hat _
   replace hgrow := grow_eq (unhide HTO) hgrow
   replace hat : (v 4).ownBlock = some g8 ∨ g8 = w5.heap.size + 1 := by rw [unhide HTO]; exact hat
   have hnq := (hgrow.block (w.heap.size + 1) (by simp; omega) (fun e => own_ty ((unhide HV).own 4) e.symm (unhide HV).blk (by decide))).trans ((Below.heap_alloc _ _ _ (lt_of_blk (unhide HV).blk)).trans (unhide HV).blk)
   obtain ⟨v8, x8, hv8, hf8, ex8, ev8, ew8⟩ := ((unhide HV).later ((Below.refl _ _).alloc (Nat.le_refl _) (.cells #[.int .i64 AN.2] 3))).step 4 4 rfl (.int .i64 AN.2) (unhide HX4).symm hown hgrow (by simpa using hat)
   clear nbf nb4
   have nbc := fun o => cell_of_blk hnq o
   have nbf := fun o => frozen_of_blk hnq o
   have hnl8 : w.heap.size + 1 < q8.heap.size := lt_of_blk hnq
   clear hnq
   have HV8 := hide hv8
   have HX8 := hide ex8
   have HF8 := hide ((unhide HF5).trans ((NF.below ((Below.refl _ _).alloc (Nat.le_refl _) (.cells #[.int .i64 AN.2] 3)) (unhide HV).low).trans hf8))
   clear hown hgrow hat hv8 hf8 ex8 ev8 ew8
   go_wp2_with fail
   go_roundw
   case rel =>
    refine ⟨k + 1, by omega, by go_num, ?_, unhide HF8⟩
    rw [unhide HSN]
    have hx := unhide HX8
    rw [ndX_tops] at hx
    exact ⟨v8, hx ▸ unhide HV8⟩
   case measure => simp [intOf]; omega
  ·have hkn : ¬ (k : Int) < (rs.length : Int) := by omega
   have hke : rs.take k = rs := List.take_of_length_le (by omega)
   rw [hke] at HNS
   go_wp2_with fail
   go_ret
   exact ⟨_, _, rfl, by omega, by omega, unhide HNS, NF.toBelow (unhide HBEL) (unhide HNF) (by omega) (by have := (unhide HBEL).size; omega)⟩
end Go.Proofs.YtidakhhekofkoaaGreatDoor
