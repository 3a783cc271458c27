/- The program's reader: table. -/
import Derived.Test.YtidakhhekofkoaaGreatDoorZ41
import Derived.BigQuiet
set_option linter.unusedSimpArgs false
set_option linter.unusedVariables false
open List renaming setIfInBounds_toArray → zA, set_cons_zero → zB, set_cons_succ → zC, getElem_toArray → zD, getElem_cons_succ → zE, getElem_cons_zero → zF
namespace Go.Proofs.YtidakhhekofkoaaGreatDoor
open Go.RowKit Go.Deep
theorem Tryz.infoStrT : (Tryz.prog.info? 9).map (fun i => (i.zero, i.size, i.bytes)) = some (some (.string ⟨#[]⟩), 1, 16) := by kernel_rfl
theorem Tryz.infoRowT : (Tryz.prog.info? 33).map (fun i => (i.zero, i.size, i.bytes)) = some (some (.slice none 0 0), 1, 24) := by kernel_rfl
theorem TR.start {w W : World} {rb tb : Nat} {l : List UInt8} (h1 : W.heap[w.heap.size]? = some (.cells #[.slice none 0 0, .slice none 0 0, .slice none 0 0] 36 (0, 0))) (h2 : W.heap[tb]? = some (.cells #[.slice none 0 0, .slice none 0 0, .slice none 0 0] 36 (0, 0))) (h3 : w.heap.size < tb) (h4 : rb < w.heap.size) (h5 : RdA W rb l) (h6 : w.grownBy W (some rb)) :
  TR w W rb tb (.slice none 0 0) (.slice none 0 0) (.slice none 0 0) ⟨[], [], []⟩ [] l :=
 ⟨h1, h2, h3, h4, h5, h6, ⟨World.ownsRow_nil _ _ _ _, World.ownsRow_nil _ _ _ _, World.ownsRow_nil _ _ _ _, fun j r hr => by simp at hr, fun v hv => by simp at hv, List.Pairwise.nil⟩⟩
def RdTab (w : World) (rb : Nat) (t : Tb) (w' : World) (e : Ending) : Prop := ∃ A F X rv, e = .returned (.agg #[A, F, X]) ∧ TbW w' w.heap.size A F X t rv ∧ w.grownBy w' (some rb)
theorem numB_few {l : List UInt8} {n : Nat} (h : l.length ≤ n) : (numB l).2.length ≤ n := Nat.le_trans (numB_len l) h
theorem txtB_few {l : List UInt8} {n k : Nat} (h : l.length ≤ n) : (txtB k l).2.length ≤ n := by unfold txtB; simp; omega
theorem actsP_few {n : Nat} : ∀ (k : Nat) {l : List UInt8}, l.length ≤ n → (actsP k l).2.length ≤ n
 | 0, _, h => h
 | k + 1, _, h => by rw [actsP]; exact actsP_few k (txtB_few (numB_few h))
set_option maxHeartbeats 4000000 in
set_option maxRecDepth 100000 in
theorem rdtable_any (w : World) (rb : Nat) (l : List UInt8) (h : RdA w rb l) (hl : l.length ≤ 1000) :
  Calls Tryz.prog 89 #[.pointer (some ⟨rb, 0, none⟩)] w fun e w' => RdTab w rb (parB l) w' e := by
 obtain ⟨i0, hi0, hz0, hz1, hz2⟩ := info_parts Tryz.infoStrT
 obtain ⟨j0, hj0, hy0, hy1, hy2⟩ := info_parts Tryz.infoI64
 obtain ⟨k0, hk0, hx0, hx1, hx2⟩ := info_parts Tryz.infoRowT
 have hrb := h.lt
 have HA := hide h
 have hB : Below w.heap.size w (w.alloc (.cells #[.slice none 0 0, .slice none 0 0, .slice none 0 0] 36)) := (Below.refl _ _).alloc (Nat.le_refl _) _
 have HR0 := hide (h.later hB)
 have HB := hide hB
 have HBL := hide (blk_alloc w (.cells #[.slice none 0 0, .slice none 0 0, .slice none 0 0] 36))
 clear h hB
 go_enter Tryz.func89, Tryz.ntmps89
 go_wp2_with (go_at_call 134; refine (rdtext_any _ rb l 2 (unhide HR0) hl (by decide)).mono ?_)
 rintro e w1 ⟨rfl, hf1⟩
 generalize hW0 : w.alloc (.cells #[.slice none 0 0, .slice none 0 0, .slice none 0 0] 36) = W0 at *
 have hsz0 : w.heap.size < W0.heap.size := lt_of_blk (unhide HBL)
 have hb1 := (hf1.gr.block _ (lt_of_blk (unhide HBL)) (fun e => by cases e; omega)).trans (unhide HBL)
 have hl2 : (txtB 2 l).2 = l.drop 2 := rfl
 have HT0 : Hid (TR w (w1.alloc (.cells #[.slice none 0 0, .slice none 0 0, .slice none 0 0] 36)) rb w1.heap.size (.slice none 0 0) (.slice none 0 0) (.slice none 0 0) ⟨[], [], []⟩ [] (l.drop 2)) := by
  have hbb : Below w1.heap.size w1 (w1.alloc (.cells #[.slice none 0 0, .slice none 0 0, .slice none 0 0] 36)) := (Below.refl _ _).alloc (Nat.le_refl _) _
  refine TR.start ((hbb.block _ (lt_of_blk hb1)).trans hb1) (blk_alloc _ _) (Nat.lt_of_lt_of_le hsz0 hf1.gr.size) hrb (hf1.at'.later hbb) ?_
  exact ((grown_below (unhide HB) _).trans hf1.gr).trans (grown_below hbb _)
 clear hb1 hf1 hl2 hW0
 go_wp2_with (go_at_call 135; refine (rdnumber_any _ rb _ (unhide HT0).rd).mono ?_)
 rintro e w2 ⟨rfl, hf2⟩
 have HT1 := hide ((unhide HT0).read hf2)
 have htb : w.heap.size < w1.heap.size := (unhide HT0).htb
 clear hf2
 generalize w1.heap.size = tb at *
 generalize hn1 : (numB (l.drop 2)).1 = n1 at *
 generalize hl1 : (numB (l.drop 2)).2 = l1 at *
 have hn256 : n1 < 256 := by rw [← hn1]; exact numB_lt _
 have hl1f : l1.length ≤ 1000 := by rw [← hl1]; exact numB_few (by simp; omega)
 have HP1 : Hid (parA l = actsP n1 l1) := by show _ = _; unfold parA; rw [hn1, hl1]
 clear hn1 hl1
 go_wp2_with fail
 go_loopw [8] (fun x wr => ∃ (k : Nat) (ao : Option Addr) (ac : Nat), k ≤ n1 ∧ x = .int .i64 k ∧ Hid (TR w wr rb tb (.slice ao k ac) (.slice none 0 0) (.slice none 0 0) ⟨(actsP k l1).1, [], []⟩ [] (actsP k l1).2)) (fun x _ => n1 - (intOf x).toNat)
 case atStart => exact ⟨0, none, 0, Nat.zero_le _, rfl, HT1⟩
 case round =>
  obtain ⟨k, ao, ac, hk, rfl, HT⟩ := hrel
  have hc0 : wr.cell? ⟨tb, 0, none⟩ = some (.slice ao k ac) := cell_of_blk (unhide HT).blk 0
  have htl := lt_of_blk (unhide HT).blk
  have hfew := actsP_few k hl1f
  by_cases hlt : k < n1
  ·have hkn : (k : Int) < (n1 : Int) := by omega
   go_wp2_with fail
   refine wp_region_any (by kernel_rfl) ?_
   change wpAny _ _ _ _ _ _ _ (World.drew _)
   refine wpAny_take (i := 0) (v := .pointer (some ⟨tb, 0, none⟩)) rfl (by kernel_rfl) (by kernel_rfl) (by kernel_rfl) (fun _ _ _ h => h) (Or.inl ⟨by kernel_rfl, fun w => by go_simp⟩) ?_
   try simp only [Act.put, zA, zB, zC, zD, zE, zF]
   refine wpAny_take (i := 2) (v := .pointer (some ⟨rb, 0, none⟩)) rfl (by kernel_rfl) (by kernel_rfl) (by kernel_rfl) (fun _ _ _ h => h) (Or.inl ⟨by kernel_rfl, fun w => by go_simp⟩) ?_
   try simp only [Act.put, zA, zB, zC, zD, zE, zF]
   refine wpAny_take (i := 3) (v := .pointer (some ⟨rb, 0, none⟩)) rfl (by kernel_rfl) (by kernel_rfl) (by kernel_rfl) (fun _ _ _ h => h) (Or.inl ⟨by kernel_rfl, fun w => by go_simp⟩) ?_
   try simp only [Act.put, zA, zB, zC, zD, zE, zF]
   have HTD := hide ((unhide HT).later (W' := wr.drew) ((Below.refl _ _).drew))
   clear hc0 htl
   refine (fun hG => ?main) (?suf : ∀ w4 : World, Hid (TR w w4 rb tb (.slice ao k ac) (.slice none 0 0) (.slice none 0 0) ⟨(actsP k l1).1, [], []⟩ [] (txtB (numB (actsP k l1).2).1 (numB (actsP k l1).2).2).2) → (?G : World → Prop) w4)
   case main =>
    refine wpAny_ready (rs := [1, 4]) (by kernel_rfl) (by simp) ?_
    refine AllReady.cons rfl (fun K hK => ?_) (AllReady.cons rfl (fun K hK => ?_) AllReady.nil)
    ·have hcl : World.cell? _ ⟨tb, 0, none⟩ = some (Value.slice ao k ac) := cell_of_blk (unhide HTD).blk 0
     have htl := lt_of_blk (unhide HTD).blk
     go_simp
     refine hK _ _ ?_
     clear hK K
     try simp only [Act.put, zA, zB, zC, zD, zE, zF]
     clear hcl htl
     refine wpAny_ready (rs := [4]) (by kernel_rfl) (by simp) ?_
     refine AllReady.cons rfl (fun K hK => ?_) AllReady.nil
     go_simp
     refine (rdnumber_any _ rb _ (unhide HTD).rd).mono ?_
     rintro e w3 ⟨rfl, hf3⟩
     have HT3 := hide ((unhide HTD).read hf3)
     refine hK _ _ ?_
     clear hK K hf3
     try simp only [Act.put, zA, zB, zC, zD, zE, zF]
     refine wpAny_ready (rs := [5]) (by kernel_rfl) (by simp) ?_
     refine AllReady.cons rfl (fun K hK => ?_) AllReady.nil
     go_simp
     refine (rdtext_any _ rb _ _ (unhide HT3).rd (numB_few hfew) (Nat.le_of_lt (Nat.lt_of_lt_of_le (numB_lt _) (by decide)))).mono ?_
     rintro e w4 ⟨rfl, hf4⟩
     have HT4 := hide ((unhide HT3).read hf4)
     refine hK _ _ ?_
     clear hK K hf4
     try simp only [Act.put, zA, zB, zC, zD, zE, zF]
     refine wpAny_ready (rs := [6]) (by kernel_rfl) (by simp) ?_
     refine AllReady.cons rfl (fun K hK => ?_) AllReady.nil
     go_simp
     refine hK _ _ ?_
     clear hK K
     try simp only [Act.put, zA, zB, zC, zD, zE, zF]
     exact hG w4 HT4
    ·go_simp
     refine (rdnumber_any _ rb _ (unhide HTD).rd).mono ?_
     rintro e w3 ⟨rfl, hf3⟩
     have HT3 := hide ((unhide HTD).read hf3)
     refine hK _ _ ?_
     clear hK K hf3
     try simp only [Act.put, zA, zB, zC, zD, zE, zF]
     refine wpAny_ready (rs := [1, 5]) (by kernel_rfl) (by simp) ?_
     refine AllReady.cons rfl (fun K hK => ?_) (AllReady.cons rfl (fun K hK => ?_) AllReady.nil)
     ·have hcl : World.cell? _ ⟨tb, 0, none⟩ = some (Value.slice ao k ac) := cell_of_blk (unhide HT3).blk 0
      have htl := lt_of_blk (unhide HT3).blk
      go_simp
      refine hK _ _ ?_
      clear hK K
      try simp only [Act.put, zA, zB, zC, zD, zE, zF]
      clear hcl htl
      refine wpAny_ready (rs := [5]) (by kernel_rfl) (by simp) ?_
      refine AllReady.cons rfl (fun K hK => ?_) AllReady.nil
      go_simp
      refine (rdtext_any _ rb _ _ (unhide HT3).rd (numB_few hfew) (Nat.le_of_lt (Nat.lt_of_lt_of_le (numB_lt _) (by decide)))).mono ?_
      rintro e w4 ⟨rfl, hf4⟩
      have HT4 := hide ((unhide HT3).read hf4)
      refine hK _ _ ?_
      clear hK K hf4
      try simp only [Act.put, zA, zB, zC, zD, zE, zF]
      refine wpAny_ready (rs := [6]) (by kernel_rfl) (by simp) ?_
      refine AllReady.cons rfl (fun K hK => ?_) AllReady.nil
      go_simp
      refine hK _ _ ?_
      clear hK K
      try simp only [Act.put, zA, zB, zC, zD, zE, zF]
      exact hG w4 HT4
     ·go_simp
      refine (rdtext_any _ rb _ _ (unhide HT3).rd (numB_few hfew) (Nat.le_of_lt (Nat.lt_of_lt_of_le (numB_lt _) (by decide)))).mono ?_
      rintro e w4 ⟨rfl, hf4⟩
      have HT4 := hide ((unhide HT3).read hf4)
      refine hK _ _ ?_
      clear hK K hf4
      try simp only [Act.put, zA, zB, zC, zD, zE, zF]
      refine wpAny_ready (rs := [1, 6]) (by kernel_rfl) (by simp) ?_
      refine AllReady.cons rfl (fun K hK => ?_) (AllReady.cons rfl (fun K hK => ?_) AllReady.nil)
      ·have hcl : World.cell? _ ⟨tb, 0, none⟩ = some (Value.slice ao k ac) := cell_of_blk (unhide HT4).blk 0
       have htl := lt_of_blk (unhide HT4).blk
       go_simp
       refine hK _ _ ?_
       clear hK K
       try simp only [Act.put, zA, zB, zC, zD, zE, zF]
       clear hcl htl
       refine wpAny_ready (rs := [6]) (by kernel_rfl) (by simp) ?_
       refine AllReady.cons rfl (fun K hK => ?_) AllReady.nil
       go_simp
       refine hK _ _ ?_
       clear hK K
       try simp only [Act.put, zA, zB, zC, zD, zE, zF]
       exact hG w4 HT4
      ·go_simp
       refine hK _ _ ?_
       clear hK K
       try simp only [Act.put, zA, zB, zC, zD, zE, zF]
       refine wpAny_ready (rs := [1]) (by kernel_rfl) (by simp) ?_
       refine AllReady.cons rfl (fun K hK => ?_) AllReady.nil
       have hcl : World.cell? _ ⟨tb, 0, none⟩ = some (Value.slice ao k ac) := cell_of_blk ((unhide HT4).later ((Below.refl _ _).alloc (Nat.le_refl _) (.cells #[.string (txtB (numB (actsP k l1).2).1 (numB (actsP k l1).2).2).1] 9))).blk 0
       have htl := lt_of_blk ((unhide HT4).later ((Below.refl _ _).alloc (Nat.le_refl _) (.cells #[.string (txtB (numB (actsP k l1).2).1 (numB (actsP k l1).2).2).1] 9))).blk
       go_simp
       refine hK _ _ ?_
       clear hK K
       try simp only [Act.put, zA, zB, zC, zD, zE, zF]
       clear hcl htl
       exact hG w4 HT4
   case suf =>
    intro w4 HT4
    have hlk : (actsP k l1).1.length = k := actsP_len k l1
    have HS := hide (actsP_snoc k l1)
    have h4l := lt_of_blk (unhide HT4).res
    refine wpAny_ready (rs := [7]) (by kernel_rfl) (by simp) ?_
    refine AllReady.cons rfl (fun K hK => ?_) AllReady.nil
    refine step_append_lies _ (by rfl) _ _ 25 (by rfl) w.heap.size 9 i0 (.string ⟨#[]⟩) 1 16 Tryz.underlying25 hi0 hz0 hz1 hz2 rfl (by decide) (.slice ao k ac) k (strsC (actsP k l1).1) (by rfl) ?c0 ⟨w4.heap.size, 0, none⟩ 1 1 [.string (txtB (numB (actsP k l1).2).1 (numB (actsP k l1).2).2).1] (by rfl) rfl ?c1 ?c2 (by decide) ?c3 ?c4 ?c5 (w4.heap.size + 1) ?c6 ?_
    case c0 => have := (unhide HT4).tab.acts; simp only [hlk] at this; exact this.alloc _
    case c1 =>
     intro j u hj
     match j, hj with
     | 0, hj => simp at hj; subst hj; simp [Addr.add]
     | j + 1, hj => simp at hj
    case c2 => intro u hu; simp at hu; subst hu; rfl
    case c3 => unfold maxLen; omega
    case c4 => omega
    case c5 => simp; omega
    case c6 => simp
    intro g5 cap5 w5 hown hgrow hat hgl
    have hall : TbW (w4.alloc (.cells #[.string (txtB (numB (actsP k l1).2).1 (numB (actsP k l1).2).2).1] 9)) w.heap.size (.slice ao k ac) (.slice none 0 0) (.slice none 0 0) ⟨(actsP k l1).1, [], []⟩ [] := (unhide HT4).tab.later ((Below.refl _ _).alloc (Nat.le_refl _) _)
    have htra := (unhide HT4).later ((Below.refl _ _).alloc (Nat.le_refl _) (.cells #[.string (txtB (numB (actsP k l1).2).1 (numB (actsP k l1).2).2).1] 9))
    have htab := hall.act (A' := .slice (some ⟨g5, 0, none⟩) (k + 1) cap5) (s := (txtB (numB (actsP k l1).2).1 (numB (actsP k l1).2).2).1) (by simp only [hlk]; exact hown) hgrow
    have hblk := (hgrow.block tb (lt_of_blk htra.blk) (fun e => own_ty hall.acts e.symm htra.blk (by decide))).trans htra.blk
    have HT5 : Hid (TR w (w5.setCell ⟨tb, 0, none⟩ (.slice (some ⟨g5, 0, none⟩) (k + 1) cap5)) rb tb (.slice (some ⟨g5, 0, none⟩) (k + 1) cap5) (.slice none 0 0) (.slice none 0 0) ⟨(actsP (k + 1) l1).1, [], []⟩ [] (actsP (k + 1) l1).2) := by
     rw [unhide HS]
     exact htra.grow hall.acts hgrow (Or.inl rfl) htab 0 _ rfl
    have hc5 : w5.cell? ⟨tb, 0, none⟩ = some (.slice ao k ac) := cell_of_blk hblk 0
    have hf5 := frozen_of_blk hblk 0
    have hl5 := lt_of_blk hblk
    refine hK _ _ ?_
    clear hK K hall htra htab hblk hown hgrow hat hgl
    try simp only [Act.put, zA, zB, zC, zD, zE, zF]
    refine wpAny_take (i := 8) (v := .pointer (some ⟨tb, 0, none⟩)) rfl (by kernel_rfl) (by kernel_rfl) (by kernel_rfl) (fun _ _ _ h => h) (Or.inl ⟨by kernel_rfl, fun w => by go_simp⟩) ?_
    try simp only [Act.put, zA, zB, zC, zD, zE, zF]
    refine wpAny_ready (rs := [9]) (by kernel_rfl) (by simp) ?_
    refine AllReady.cons rfl (fun K hK => ?_) AllReady.nil
    go_simp
    refine hK _ _ ?_
    clear hK K hc5 hf5 hl5 h4l
    refine wpAny_done (by kernel_rfl) ?_ _
    go_wp2_with fail
    go_roundw
    case rel => exact ⟨k + 1, some ⟨g5, 0, none⟩, cap5, by omega, by go_num, HT5⟩
    case measure => simp [intOf]; omega
  ·have hkn : ¬ (k : Int) < (n1 : Int) := by omega
   have hke : k = n1 := by omega
   subst hke
   have HPA : Hid (parA l = actsP k l1) := HP1
   have hlk : (actsP k l1).1.length = k := actsP_len k l1
   have HLK := hide hlk
   have hbb : ∀ W : World, Below W.heap.size W W := fun W => Below.refl _ _
   clear hc0 htl hlk hbb
   have HN2 := hide (rdnumber_any wr rb _ (unhide HT).rd)
   go_wp2_with fail
   refine (unhide HN2).mono ?_
   rintro e w5 ⟨rfl, hf5⟩
   have HT5 := hide ((unhide HT).read hf5)
   clear hf5
   have HPB : Hid (parB l = ⟨(actsP k l1).1, (rowsP k (numB (actsP k l1).2).1 (numB (actsP k l1).2).2).1.1, (rowsP k (numB (actsP k l1).2).1 (numB (actsP k l1).2).2).1.2⟩) := by
    show _ = _
    unfold parB
    rw [unhide HPA, unhide HLK]
   have hn2f : (numB (actsP k l1).2).1 < 256 := numB_lt _
   have hl2f : (numB (actsP k l1).2).2.length ≤ 1000 := numB_few hfew
   generalize (numB (actsP k l1).2).1 = n2 at *
   generalize (numB (actsP k l1).2).2 = l2 at *
   generalize (actsP k l1).1 = acts at *
   clear hfew HN2
   go_wp2_with fail
   clear HT HP1 HT0 HT1
   rename World => wR
   go_loopw [22] (fun x wr => ∃ (q : Nat) (fo : Option Addr) (fc : Nat) (xo : Option Addr) (xc : Nat) (rv : List Value), q ≤ n2 ∧ x = .int .i64 q ∧ Hid (TR w wr rb tb (.slice ao k ac) (.slice fo q fc) (.slice xo q xc) ⟨acts, (rowsP k q l2).1.1, (rowsP k q l2).1.2⟩ rv (rowsP k q l2).2)) (fun x _ => n2 - (intOf x).toNat)
   case atStart => exact ⟨0, none, 0, none, 0, [], Nat.zero_le _, rfl, HT5⟩
   case round =>
    obtain ⟨q, fo, fc, xo, xc, rv, hq, rfl, HT⟩ := hrel
    by_cases hlt : q < n2
    ·have hqn : (q : Int) < (n2 : Int) := by omega
     have hlen := rowsP_len k q l2
     have HSN := hide (rowsP_snoc k q l2)
     generalize hr0 : (rowsP k q l2).2 = r0 at *
     generalize hf0 : (rowsP k q l2).1.1 = fl0 at *
     generalize hx0' : (rowsP k q l2).1.2 = nx0 at *
     clear hr0 hf0 hx0'
     obtain ⟨hlf, hln⟩ := hlen
     go_wp2_with fail
     refine wp_region_any (by kernel_rfl) ?_
     change wpAny _ _ _ _ _ _ _ (World.drew _)
     refine wpAny_take (i := 0) (v := .pointer (some ⟨tb, 1, none⟩)) rfl (by kernel_rfl) (by kernel_rfl) (by kernel_rfl) (fun _ _ _ h => h) (Or.inl ⟨by kernel_rfl, fun w => by go_simp⟩) ?_
     try simp only [Act.put, zA, zB, zC, zD, zE, zF]
     refine wpAny_take (i := 2) (v := .pointer (some ⟨rb, 0, none⟩)) rfl (by kernel_rfl) (by kernel_rfl) (by kernel_rfl) (fun _ _ _ h => h) (Or.inl ⟨by kernel_rfl, fun w => by go_simp⟩) ?_
     try simp only [Act.put, zA, zB, zC, zD, zE, zF]
     have HTD := hide ((unhide HT).later (W' := wr.drew) ((Below.refl _ _).drew))
     refine (fun hG => ?main1) (?suf1 : ∀ w3 : World, Hid (TR w w3 rb tb (.slice ao k ac) (.slice fo q fc) (.slice xo q xc) ⟨acts, fl0, nx0⟩ rv (numB r0).2) → (?G1 : World → Prop) w3)
     case main1 =>
      refine wpAny_ready (rs := [1, 3]) (by kernel_rfl) (by simp) ?_
      refine AllReady.cons rfl (fun K hK => ?_) (AllReady.cons rfl (fun K hK => ?_) AllReady.nil)
      ·have hcl : World.cell? _ ⟨tb, 1, none⟩ = some (Value.slice fo q fc) := cell_of_blk (unhide HTD).blk 1
       have htl := lt_of_blk (unhide HTD).blk
       go_simp
       refine hK _ _ ?_
       clear hK K
       try simp only [Act.put, zA, zB, zC, zD, zE, zF]
       clear hcl htl
       refine wpAny_ready (rs := [3]) (by kernel_rfl) (by simp) ?_
       refine AllReady.cons rfl (fun K hK => ?_) AllReady.nil
       go_simp
       refine (rdnumber_any _ rb _ (unhide HTD).rd).mono ?_
       rintro e w3 ⟨rfl, hf3⟩
       have HT3 := hide ((unhide HTD).read hf3)
       refine hK _ _ ?_
       clear hK K hf3
       try simp only [Act.put, zA, zB, zC, zD, zE, zF]
       refine wpAny_ready (rs := [4]) (by kernel_rfl) (by simp) ?_
       refine AllReady.cons rfl (fun K hK => ?_) AllReady.nil
       go_simp
       refine hK _ _ ?_
       clear hK K
       try simp only [Act.put, zA, zB, zC, zD, zE, zF]
       exact hG w3 HT3
      ·go_simp
       refine (rdnumber_any _ rb _ (unhide HTD).rd).mono ?_
       rintro e w3 ⟨rfl, hf3⟩
       have HT3 := hide ((unhide HTD).read hf3)
       refine hK _ _ ?_
       clear hK K hf3
       try simp only [Act.put, zA, zB, zC, zD, zE, zF]
       refine wpAny_ready (rs := [1, 4]) (by kernel_rfl) (by simp) ?_
       refine AllReady.cons rfl (fun K hK => ?_) (AllReady.cons rfl (fun K hK => ?_) AllReady.nil)
       ·have hcl : World.cell? _ ⟨tb, 1, none⟩ = some (Value.slice fo q fc) := cell_of_blk (unhide HT3).blk 1
        have htl := lt_of_blk (unhide HT3).blk
        go_simp
        refine hK _ _ ?_
        clear hK K
        try simp only [Act.put, zA, zB, zC, zD, zE, zF]
        clear hcl htl
        refine wpAny_ready (rs := [4]) (by kernel_rfl) (by simp) ?_
        refine AllReady.cons rfl (fun K hK => ?_) AllReady.nil
        go_simp
        refine hK _ _ ?_
        clear hK K
        try simp only [Act.put, zA, zB, zC, zD, zE, zF]
        exact hG w3 HT3
       ·go_simp
        refine hK _ _ ?_
        clear hK K
        try simp only [Act.put, zA, zB, zC, zD, zE, zF]
        refine wpAny_ready (rs := [1]) (by kernel_rfl) (by simp) ?_
        refine AllReady.cons rfl (fun K hK => ?_) AllReady.nil
        have hcl : World.cell? _ ⟨tb, 1, none⟩ = some (Value.slice fo q fc) := cell_of_blk ((unhide HT3).later ((Below.refl _ _).alloc (Nat.le_refl _) (.cells #[.int .i64 ((numB r0).1 : Int)] 3))).blk 1
        have htl := lt_of_blk ((unhide HT3).later ((Below.refl _ _).alloc (Nat.le_refl _) (.cells #[.int .i64 ((numB r0).1 : Int)] 3))).blk
        go_simp
        refine hK _ _ ?_
        clear hK K
        try simp only [Act.put, zA, zB, zC, zD, zE, zF]
        clear hcl htl
        exact hG w3 HT3
     case suf1 =>
      intro w3 HT3
      have h3l := lt_of_blk (unhide HT3).res
      refine wpAny_ready (rs := [5]) (by kernel_rfl) (by simp) ?_
      refine AllReady.cons rfl (fun K hK => ?_) AllReady.nil
      refine step_append_lies _ (by rfl) _ _ 33 (by rfl) w.heap.size 3 j0 (.int .i64 0) 1 8 Tryz.underlying33 hj0 hy0 hy1 hy2 rfl (by decide) (.slice fo q fc) q (intC fl0) (by rfl) ?d0 ⟨w3.heap.size, 0, none⟩ 1 1 [.int .i64 ((numB r0).1 : Int)] (by rfl) rfl ?d1 ?d2 (by decide) ?d3 ?d4 ?d5 (w3.heap.size + 1) ?d6 ?_
      case d0 => have := (unhide HT3).tab.fl; simp only [hlf] at this; exact this.alloc _
      case d1 =>
       intro j u hj
       match j, hj with
       | 0, hj => simp at hj; subst hj; simp [Addr.add]
       | j + 1, hj => simp at hj
      case d2 => intro u hu; simp at hu; subst hu; rfl
      case d3 => unfold maxLen; omega
      case d4 => omega
      case d5 => simp; omega
      case d6 => simp
      intro g5 cap5 w5 hown hgrow hat hgl
      have htra := (unhide HT3).later ((Below.refl _ _).alloc (Nat.le_refl _) (.cells #[.int .i64 ((numB r0).1 : Int)] 3))
      have htab := htra.tab.flag (F' := .slice (some ⟨g5, 0, none⟩) (q + 1) cap5) (f := (numB r0).1) (by simp only [hlf]; exact hown) hgrow rfl (hat.imp id (fun h => by simp; omega))
      have hblk := (hgrow.block tb (lt_of_blk htra.blk) (fun e => own_ty htra.tab.fl e.symm htra.blk (by decide))).trans htra.blk
      have HT5 := hide (htra.grow htra.tab.fl hgrow (Or.inr (Or.inl rfl)) htab 1 (.slice (some ⟨g5, 0, none⟩) (q + 1) cap5) rfl)
      have hc5 : w5.cell? ⟨tb, 1, none⟩ = some (.slice fo q fc) := cell_of_blk hblk 1
      have hf5 := frozen_of_blk hblk 1
      have hl5 := lt_of_blk hblk
      refine hK _ _ ?_
      clear hK K htra htab hblk hown hgrow hat hgl
      try simp only [Act.put, zA, zB, zC, zD, zE, zF]
      refine wpAny_take (i := 6) (v := .pointer (some ⟨tb, 1, none⟩)) rfl (by kernel_rfl) (by kernel_rfl) (by kernel_rfl) (fun _ _ _ h => h) (Or.inl ⟨by kernel_rfl, fun w => by go_simp⟩) ?_
      try simp only [Act.put, zA, zB, zC, zD, zE, zF]
      refine wpAny_ready (rs := [7]) (by kernel_rfl) (by simp) ?_
      refine AllReady.cons rfl (fun K hK => ?_) AllReady.nil
      go_simp
      refine hK _ _ ?_
      clear hK K hc5 hf5 hl5 h3l
      refine wpAny_done (by kernel_rfl) ?_ _
      generalize w5.setCell ⟨tb, 1, none⟩ (.slice (some ⟨g5, 0, none⟩) (q + 1) cap5) = w6 at *
      clear HT3
      go_wp2_with fail
      refine wp_region_any (by kernel_rfl) ?_
      change wpAny _ _ _ _ _ _ _ (World.drew _)
      refine wpAny_take (i := 0) (v := .pointer (some ⟨tb, 2, none⟩)) rfl (by kernel_rfl) (by kernel_rfl) (by kernel_rfl) (fun _ _ _ h => h) (Or.inl ⟨by kernel_rfl, fun w => by go_simp⟩) ?_
      try simp only [Act.put, zA, zB, zC, zD, zE, zF]
      refine wpAny_take (i := 2) (v := .pointer (some ⟨rb, 0, none⟩)) rfl (by kernel_rfl) (by kernel_rfl) (by kernel_rfl) (fun _ _ _ h => h) (Or.inl ⟨by kernel_rfl, fun w => by go_simp⟩) ?_
      try simp only [Act.put, zA, zB, zC, zD, zE, zF]
      refine wpAny_take (i := 3) (v := .pointer (some ⟨tb, 0, none⟩)) rfl (by kernel_rfl) (by kernel_rfl) (by kernel_rfl) (fun _ _ _ h => h) (Or.inl ⟨by kernel_rfl, fun w => by go_simp⟩) ?_
      try simp only [Act.put, zA, zB, zC, zD, zE, zF]
      have HTE := hide ((unhide HT5).later (W' := w6.drew) ((Below.refl _ _).drew))
      refine (fun hG => ?main2) (?suf2 : ∀ w7 : World, Hid (TR w w7 rb tb (.slice ao k ac) (.slice (some ⟨g5, 0, none⟩) (q + 1) cap5) (.slice xo q xc) ⟨acts, fl0 ++ [(numB r0).1], nx0⟩ rv (numsB k (numB r0).2).2) → Hid (w7.heap[w6.heap.size]? = some (.cells (rowC (numsB k (numB r0).2).1) 3 (0, 0))) → (?G2 : World → Prop) w7)
      case main2 =>
       refine wpAny_ready (rs := [1, 4]) (by kernel_rfl) (by simp) ?_
       refine AllReady.cons rfl (fun K hK => ?_) (AllReady.cons rfl (fun K hK => ?_) AllReady.nil)
       ·have hcl : World.cell? _ ⟨tb, 2, none⟩ = some (Value.slice xo q xc) := cell_of_blk (unhide HTE).blk 2
        have htl := lt_of_blk (unhide HTE).blk
        go_simp
        refine hK _ _ ?_
        clear hK K
        try simp only [Act.put, zA, zB, zC, zD, zE, zF]
        clear hcl htl
        refine wpAny_ready (rs := [4]) (by kernel_rfl) (by simp) ?_
        refine AllReady.cons rfl (fun K hK => ?_) AllReady.nil
        have hcl : World.cell? _ ⟨tb, 0, none⟩ = some (Value.slice ao k ac) := cell_of_blk (unhide HTE).blk 0
        have htl := lt_of_blk (unhide HTE).blk
        go_simp
        refine hK _ _ ?_
        clear hK K
        try simp only [Act.put, zA, zB, zC, zD, zE, zF]
        clear hcl htl
        refine wpAny_ready (rs := [5]) (by kernel_rfl) (by simp) ?_
        refine AllReady.cons rfl (fun K hK => ?_) AllReady.nil
        go_simp
        refine hK _ _ ?_
        clear hK K
        try simp only [Act.put, zA, zB, zC, zD, zE, zF]
        refine wpAny_ready (rs := [6]) (by kernel_rfl) (by simp) ?_
        refine AllReady.cons rfl (fun K hK => ?_) AllReady.nil
        go_simp
        refine (rdnumbers_any _ rb _ k (unhide HTE).rd (by omega)).mono ?_
        rintro e w7 ⟨rfl, hrow, hf7⟩
        have HT7 := hide ((unhide HTE).read hf7)
        have HROW := hide hrow
        refine hK _ _ ?_
        clear hK K hf7 hrow
        try simp only [Act.put, zA, zB, zC, zD, zE, zF]
        refine wpAny_ready (rs := [7]) (by kernel_rfl) (by simp) ?_
        refine AllReady.cons rfl (fun K hK => ?_) AllReady.nil
        go_simp
        refine hK _ _ ?_
        clear hK K
        try simp only [Act.put, zA, zB, zC, zD, zE, zF]
        exact hG w7 HT7 HROW
       ·have hcl : World.cell? _ ⟨tb, 0, none⟩ = some (Value.slice ao k ac) := cell_of_blk (unhide HTE).blk 0
        have htl := lt_of_blk (unhide HTE).blk
        go_simp
        refine hK _ _ ?_
        clear hK K
        try simp only [Act.put, zA, zB, zC, zD, zE, zF]
        clear hcl htl
        refine wpAny_ready (rs := [1, 5]) (by kernel_rfl) (by simp) ?_
        refine AllReady.cons rfl (fun K hK => ?_) (AllReady.cons rfl (fun K hK => ?_) AllReady.nil)
        ·have hcl : World.cell? _ ⟨tb, 2, none⟩ = some (Value.slice xo q xc) := cell_of_blk (unhide HTE).blk 2
         have htl := lt_of_blk (unhide HTE).blk
         go_simp
         refine hK _ _ ?_
         clear hK K
         try simp only [Act.put, zA, zB, zC, zD, zE, zF]
         clear hcl htl
         refine wpAny_ready (rs := [5]) (by kernel_rfl) (by simp) ?_
         refine AllReady.cons rfl (fun K hK => ?_) AllReady.nil
         go_simp
         refine hK _ _ ?_
         clear hK K
         try simp only [Act.put, zA, zB, zC, zD, zE, zF]
         refine wpAny_ready (rs := [6]) (by kernel_rfl) (by simp) ?_
         refine AllReady.cons rfl (fun K hK => ?_) AllReady.nil
         go_simp
         refine (rdnumbers_any _ rb _ k (unhide HTE).rd (by omega)).mono ?_
         rintro e w7 ⟨rfl, hrow, hf7⟩
         have HT7 := hide ((unhide HTE).read hf7)
         have HROW := hide hrow
         refine hK _ _ ?_
         clear hK K hf7 hrow
         try simp only [Act.put, zA, zB, zC, zD, zE, zF]
         refine wpAny_ready (rs := [7]) (by kernel_rfl) (by simp) ?_
         refine AllReady.cons rfl (fun K hK => ?_) AllReady.nil
         go_simp
         refine hK _ _ ?_
         clear hK K
         try simp only [Act.put, zA, zB, zC, zD, zE, zF]
         exact hG w7 HT7 HROW
        ·go_simp
         refine hK _ _ ?_
         clear hK K
         try simp only [Act.put, zA, zB, zC, zD, zE, zF]
         refine wpAny_ready (rs := [1, 6]) (by kernel_rfl) (by simp) ?_
         refine AllReady.cons rfl (fun K hK => ?_) (AllReady.cons rfl (fun K hK => ?_) AllReady.nil)
         ·have hcl : World.cell? _ ⟨tb, 2, none⟩ = some (Value.slice xo q xc) := cell_of_blk (unhide HTE).blk 2
          have htl := lt_of_blk (unhide HTE).blk
          go_simp
          refine hK _ _ ?_
          clear hK K
          try simp only [Act.put, zA, zB, zC, zD, zE, zF]
          clear hcl htl
          refine wpAny_ready (rs := [6]) (by kernel_rfl) (by simp) ?_
          refine AllReady.cons rfl (fun K hK => ?_) AllReady.nil
          go_simp
          refine (rdnumbers_any _ rb _ k (unhide HTE).rd (by omega)).mono ?_
          rintro e w7 ⟨rfl, hrow, hf7⟩
          have HT7 := hide ((unhide HTE).read hf7)
          have HROW := hide hrow
          refine hK _ _ ?_
          clear hK K hf7 hrow
          try simp only [Act.put, zA, zB, zC, zD, zE, zF]
          refine wpAny_ready (rs := [7]) (by kernel_rfl) (by simp) ?_
          refine AllReady.cons rfl (fun K hK => ?_) AllReady.nil
          go_simp
          refine hK _ _ ?_
          clear hK K
          try simp only [Act.put, zA, zB, zC, zD, zE, zF]
          exact hG w7 HT7 HROW
         ·go_simp
          refine (rdnumbers_any _ rb _ k (unhide HTE).rd (by omega)).mono ?_
          rintro e w7 ⟨rfl, hrow, hf7⟩
          have HT7 := hide ((unhide HTE).read hf7)
          have HROW := hide hrow
          refine hK _ _ ?_
          clear hK K hf7 hrow
          try simp only [Act.put, zA, zB, zC, zD, zE, zF]
          refine wpAny_ready (rs := [1, 7]) (by kernel_rfl) (by simp) ?_
          refine AllReady.cons rfl (fun K hK => ?_) (AllReady.cons rfl (fun K hK => ?_) AllReady.nil)
          ·have hcl : World.cell? _ ⟨tb, 2, none⟩ = some (Value.slice xo q xc) := cell_of_blk (unhide HT7).blk 2
           have htl := lt_of_blk (unhide HT7).blk
           go_simp
           refine hK _ _ ?_
           clear hK K
           try simp only [Act.put, zA, zB, zC, zD, zE, zF]
           clear hcl htl
           refine wpAny_ready (rs := [7]) (by kernel_rfl) (by simp) ?_
           refine AllReady.cons rfl (fun K hK => ?_) AllReady.nil
           go_simp
           refine hK _ _ ?_
           clear hK K
           try simp only [Act.put, zA, zB, zC, zD, zE, zF]
           exact hG w7 HT7 HROW
          ·go_simp
           refine hK _ _ ?_
           clear hK K
           try simp only [Act.put, zA, zB, zC, zD, zE, zF]
           refine wpAny_ready (rs := [1]) (by kernel_rfl) (by simp) ?_
           refine AllReady.cons rfl (fun K hK => ?_) AllReady.nil
           have hcl : World.cell? _ ⟨tb, 2, none⟩ = some (Value.slice xo q xc) := cell_of_blk ((unhide HT7).later ((Below.refl _ _).alloc (Nat.le_refl _) (.cells #[.slice (some ⟨w6.heap.size, 0, none⟩) k k] 33))).blk 2
           have htl := lt_of_blk ((unhide HT7).later ((Below.refl _ _).alloc (Nat.le_refl _) (.cells #[.slice (some ⟨w6.heap.size, 0, none⟩) k k] 33))).blk
           go_simp
           refine hK _ _ ?_
           clear hK K
           try simp only [Act.put, zA, zB, zC, zD, zE, zF]
           clear hcl htl
           exact hG w7 HT7 HROW
      case suf2 =>
       intro w7 HT7 HROW
       have h7l := lt_of_blk (unhide HT7).res
       refine wpAny_ready (rs := [8]) (by kernel_rfl) (by simp) ?_
       refine AllReady.cons rfl (fun K hK => ?_) AllReady.nil
       refine step_append_lies _ (by rfl) _ _ 34 (by rfl) w.heap.size 33 k0 (.slice none 0 0) 1 24 Tryz.underlying34 hk0 hx0 hx1 hx2 rfl (by decide) (.slice xo q xc) q rv (by rfl) ?e0 ⟨w7.heap.size, 0, none⟩ 1 1 [.slice (some ⟨w6.heap.size, 0, none⟩) k k] (by rfl) rfl ?e1 ?e2 (by decide) ?e3 ?e4 ?e5 (w7.heap.size + 1) ?e6 ?_
       case e0 => have := (unhide HT7).tab.nx; simp only [hln] at this; exact this.alloc _
       case e1 =>
        intro j u hj
        match j, hj with
        | 0, hj => simp at hj; subst hj; simp [Addr.add]
        | j + 1, hj => simp at hj
       case e2 => intro u hu; simp at hu; subst hu; rfl
       case e3 => unfold maxLen; omega
       case e4 => omega
       case e5 => simp; omega
       case e6 => simp
       intro g8 cap8 w8 hown hgrow hat hgl
       have hbb : Below w7.heap.size w7 (w7.alloc (.cells #[.slice (some ⟨w6.heap.size, 0, none⟩) k k] 33)) := (Below.refl _ _).alloc (Nat.le_refl _) _
       have htra := (unhide HT7).later hbb
       have hrowA := (hbb.block _ (lt_of_blk (unhide HROW))).trans (unhide HROW)
       have hnl : (numsB k (numB r0).2).1.length = k := numsB_len _ _
       have hwz : w.heap.size ≤ w6.heap.size := (unhide HT5).gr.size
       have hro := rowC_owns (base := w.heap.size) hrowA hwz hnl (by omega)
       have hF6 : (Value.slice (some ⟨g5, 0, none⟩) (q + 1) cap5).ownBlock ≠ some w6.heap.size := fun e => by
        have := (own_lt (unhide HT5).tab.fl _ e).2
        omega
       have hV6 : ∀ v ∈ rv, v.ownBlock ≠ some w6.heap.size := fun v hv e => by
        obtain ⟨j, hj⟩ := List.mem_iff_getElem?.1 hv
        have hjl : j < nx0.length := by have := (List.getElem?_eq_some_iff.1 hj).1; have := (unhide HT5).tab.rl; simp only at this; omega
        obtain ⟨g, c, h1, h2⟩ := (unhide HT5).tab.rows j _ (List.getElem?_eq_getElem hjl)
        rw [hj] at h1
        cases h1
        have := (own_lt h2 _ e).2
        omega
       have htab := htra.tab.row (X' := .slice (some ⟨g8, 0, none⟩) (q + 1) cap8) (g := w6.heap.size) (c := k) (r := (numsB k (numB r0).2).1) (by rw [hnl]; exact hro) hF6 hV6 (by simp only [hln, hnl]; exact hown) hgrow
       rw [hnl] at htab
       have hblk := (hgrow.block tb (lt_of_blk htra.blk) (fun e => own_ty htra.tab.nx e.symm htra.blk (by decide))).trans htra.blk
       have HT8 := hide (htra.grow htra.tab.nx hgrow (Or.inr (Or.inr rfl)) htab 2 (.slice (some ⟨g8, 0, none⟩) (q + 1) cap8) rfl)
       have hc8 : w8.cell? ⟨tb, 2, none⟩ = some (.slice xo q xc) := cell_of_blk hblk 2
       have hf8 := frozen_of_blk hblk 2
       have hl8 := lt_of_blk hblk
       refine hK _ _ ?_
       clear hK K htra htab hblk hown hgrow hat hgl hbb hrowA hro hF6 hV6 hnl hwz
       try simp only [Act.put, zA, zB, zC, zD, zE, zF]
       refine wpAny_take (i := 9) (v := .pointer (some ⟨tb, 2, none⟩)) rfl (by kernel_rfl) (by kernel_rfl) (by kernel_rfl) (fun _ _ _ h => h) (Or.inl ⟨by kernel_rfl, fun w => by go_simp⟩) ?_
       try simp only [Act.put, zA, zB, zC, zD, zE, zF]
       refine wpAny_ready (rs := [10]) (by kernel_rfl) (by simp) ?_
       refine AllReady.cons rfl (fun K hK => ?_) AllReady.nil
       go_simp
       refine hK _ _ ?_
       clear hK K hc8 hf8 hl8 h7l
       refine wpAny_done (by kernel_rfl) ?_ _
       go_wp2_with fail
       go_roundw
       case rel => exact ⟨q + 1, some ⟨g5, 0, none⟩, cap5, some ⟨g8, 0, none⟩, cap8, _, by omega, by go_num, by rw [unhide HSN]; exact HT8⟩
       case measure => simp [intOf]; omega
    ·have hqn : ¬ (q : Int) < (n2 : Int) := by omega
     have hqe : q = n2 := by omega
     subst hqe
     have hc0 : wr.cell? ⟨tb, 0, none⟩ = some (.slice ao k ac) := cell_of_blk (unhide HT).blk 0
     have hc1 : wr.cell? ⟨tb, 1, none⟩ = some (.slice fo q fc) := cell_of_blk (unhide HT).blk 1
     have hc2 : wr.cell? ⟨tb, 2, none⟩ = some (.slice xo q xc) := cell_of_blk (unhide HT).blk 2
     have hl := lt_of_blk (unhide HT).blk
     have rc := fun o => cell_of_blk (unhide HT).res o
     have rf := fun o => frozen_of_blk (unhide HT).res o
     have hrl := lt_of_blk (unhide HT).res
     go_wp2_with fail
     have hfin : (((wr.setCell ⟨w.heap.size, 0, none⟩ (.slice ao k ac)).setCell ⟨w.heap.size, 1, none⟩ (.slice fo q fc)).setCell ⟨w.heap.size, 2, none⟩ (.slice xo q xc)).heap[w.heap.size]? = some (.cells #[.slice ao k ac, .slice fo q fc, .slice xo q xc] 36 (0, 0)) := blk_set (blk_set (blk_set (unhide HT).res 0 _) 1 _) 2 _
     have hgf : wr.grownBy (((wr.setCell ⟨w.heap.size, 0, none⟩ (.slice ao k ac)).setCell ⟨w.heap.size, 1, none⟩ (.slice fo q fc)).setCell ⟨w.heap.size, 2, none⟩ (.slice xo q xc)) (some w.heap.size) := ((grown_set _ _ _ _).trans (grown_set _ _ _ _)).trans (grown_set _ _ _ _)
     have htf := (unhide HT).tab.other hgf (fun b hb c m => by
      cases hb
      rw [(unhide HT).res]
      refine ⟨?_, ?_, ?_⟩ <;> (intro e; injection e with e; injection e with _ e _; revert e; decide))
     have hgw : w.grownBy (((wr.setCell ⟨w.heap.size, 0, none⟩ (.slice ao k ac)).setCell ⟨w.heap.size, 1, none⟩ (.slice fo q fc)).setCell ⟨w.heap.size, 2, none⟩ (.slice xo q xc)) (some rb) := grown_setNew (grown_setNew (grown_setNew (unhide HT).gr (Nat.le_refl _) _ _) (Nat.le_refl _) _ _) (Nat.le_refl _) _ _
     generalize (((wr.setCell ⟨w.heap.size, 0, none⟩ (.slice ao k ac)).setCell ⟨w.heap.size, 1, none⟩ (.slice fo q fc)).setCell ⟨w.heap.size, 2, none⟩ (.slice xo q xc)) = wf at *
     have fc' := fun o => cell_of_blk hfin o
     refine bodyPost_ret (v := .agg #[.slice ao k ac, .slice fo q fc, .slice xo q xc]) (by simp [results, Tryz.results89, go_sem, fc']) rfl ?_
     exact ⟨_, _, _, rv, rfl, by rw [unhide HPB]; exact htf, hgw⟩
def DecP (ty : List Value → Value) (w : World) (o : Option Tb) (w' : World) (e : Ending) : Prop :=
 Below w.heap.size w w' ∧ match o with
 | none => e = .returned (.tuple #[.agg #[.slice none 0 0, .slice none 0 0, .slice none 0 0], ty []])
 | some t => ∃ A F X rv, e = .returned (.tuple #[.agg #[A, F, X], ty [.bool true]]) ∧ TbW w' w.heap.size A F X t rv
def okB : List Value → Value
 | [] => .bool false
 | _ => .bool true
def okE : List Value → Value
 | [] => .int .i64 6
 | _ => .int .i64 0
theorem parB_small {l : List UInt8} (hl : l.length ≤ 1000) : (parB l).acts.length ≤ 1000 ∧ (parB l).nx.length ≤ 1000 ∧ (parB l).fl.length ≤ 1000 ∧ ∀ r ∈ (parB l).nx, r.length ≤ 1000 := by
 have h1 : (parA l).1.length ≤ 1000 := by
  unfold parA
  rw [actsP_len]
  exact Nat.le_of_lt (Nat.lt_of_lt_of_le (numB_lt _) (by decide))
 have h2 := rowsP_len (parA l).1.length (numB (parA l).2).1 (numB (parA l).2).2
 have h3 := numB_lt (parA l).2
 have h4 : ∀ (c n : Nat) (m : List UInt8) (r : List Nat), r ∈ (rowsP c n m).1.2 → r.length = c := by
  intro c n
  induction n with
  | zero => intro m r h; exact (List.not_mem_nil h).elim
  | succ n ih =>
   intro m r h
   rw [rowsP] at h
   rcases List.mem_cons.1 h with rfl | h
   ·exact numsB_len _ _
   ·exact ih _ r h
 refine ⟨h1, ?_, ?_, fun r hr => ?_⟩
 ·show (rowsP _ _ _).1.2.length ≤ 1000; rw [h2.2]; omega
 ·show (rowsP _ _ _).1.1.length ≤ 1000; rw [h2.1]; omega
 ·rw [h4 _ _ _ r hr]; exact h1
theorem dec_none {b : List UInt8} (h : 1000 < b.length) : DecR b none := fun t ht e => by
 have := ht.few
 rw [e] at this
 omega
theorem TbW.mono {w : World} {base base' : Nat} {A F X : Value} {t : Tb} {rv : List Value} (h : TbW w base A F X t rv) (hb : base' ≤ base) : TbW w base' A F X t rv :=
 ⟨owns_mono h.acts hb, owns_mono h.fl hb, owns_mono h.nx hb, fun j r hr => by obtain ⟨g, c, h1, h2⟩ := h.rows j r hr; exact ⟨g, c, h1, owns_mono h2 hb⟩, h.rf, h.rr⟩
def setT (w : World) (b : Nat) (A F X : Value) : World := ((w.setCell ⟨b, 0, none⟩ A).setCell ⟨b, 1, none⟩ F).setCell ⟨b, 2, none⟩ X
theorem setT_blk {w : World} {b : Nat} {a f x : Value} (h : w.heap[b]? = some (.cells #[a, f, x] 36 (0, 0))) (A F X : Value) : (setT w b A F X).heap[b]? = some (.cells #[A, F, X] 36 (0, 0)) := blk_set (blk_set (blk_set h 0 A) 1 F) 2 X
theorem setT_grown (w : World) (b : Nat) (A F X : Value) : w.grownBy (setT w b A F X) (some b) := ((grown_set _ _ _ _).trans (grown_set _ _ _ _)).trans (grown_set _ _ _ _)
theorem setT_below {w0 w : World} {b : Nat} (h : Below w0.heap.size w0 w) (hb : w0.heap.size ≤ b) (A F X : Value) : Below w0.heap.size w0 (setT w b A F X) := h.grown (setT_grown w b A F X) h.size (fun k hk => by cases hk; exact hb)
theorem setT_tab {w : World} {b : Nat} {c : Array Value} (hc : w.heap[b]? = some (.cells c 36 (0, 0))) {base : Nat} {A F X A' F' X' : Value} {t : Tb} {rv : List Value} (h : TbW w base A F X t rv) : TbW (setT w b A' F' X') base A F X t rv :=
 h.other (setT_grown w b A' F' X') (fun k hk c' m => by
  cases hk
  rw [hc]
  refine ⟨?_, ?_, ?_⟩ <;> (intro e; injection e with e; injection e with _ e _; revert e; decide))
theorem rightZ_t (t : Tb) : RightZ t.z ↔ RightT t := ⟨fun ⟨u, e, h⟩ => by rw [Tb.z_inj e]; exact h, fun h => ⟨t, rfl, h⟩⟩
theorem Right_t (w : World) (ao fo no : Option Addr) (ac fc nc na nf nn : Nat) (t : Tb) (hI : TbI w ao fo no ac t.z) (hG : GV w) (hna : na = t.acts.length) (hnf : nf = t.fl.length) (hnn : nn = t.nx.length) :
  Calls Tryz.prog 45 #[.agg #[.slice ao na ac, .slice fo nf fc, .slice no nn nc]] w fun e w' => TellsB (RightT t) e ∧ Below w.heap.size w w' := by
 have e1 : t.z.fl.length = nf := by rw [hnf]; exact zI_len _
 have e2 : t.z.nx.length = nn := by rw [hnn]; unfold Tb.z; simp
 have e3 : t.z.acts.length = na := by rw [hna]; rfl
 have := Right_any w ao fo no ac fc nc t.z hI hG
 rw [e1, e2, e3, rightZ_t] at this
 exact this
set_option maxHeartbeats 4000000 in
set_option maxRecDepth 100000 in
theorem tread_any (w : World) (s : ByteArray) (hG : GV w) :
  Calls Tryz.prog 47 #[.string s] w fun e w' => ∃ o, DecR s.data.toList o ∧ DecP okB w o w' e := by
 have HG := hide hG
 have hbz : Below w.heap.size w (w.alloc (.cells #[.slice none 0 0, .slice none 0 0, .slice none 0 0] 36)) := (Below.refl _ _).alloc (Nat.le_refl _) _
 have HBZ := hide hbz
 have HRES := hide (blk_alloc w (.cells #[.slice none 0 0, .slice none 0 0, .slice none 0 0] 36))
 clear hG hbz
 by_cases hs : 1000 < s.size
 ·have HD : Hid (DecR s.data.toList none) := dec_none (by rw [size_data]; exact hs)
  have hsi : (1000 : Int) < (s.size : Int) := by omega
  go_enter Tryz.func47, Tryz.ntmps47
  go_wp2_with fail
  have rc := fun o => cell_of_blk (unhide HRES) o
  refine bodyPost_ret (v := .tuple #[.agg #[.slice none 0 0, .slice none 0 0, .slice none 0 0], .bool false]) (by simp [results, Tryz.results47, go_sem, rc]) rfl ?_
  exact ⟨none, unhide HD, unhide HBZ, rfl⟩
 ·have hsi : ¬ (1000 : Int) < (s.size : Int) := by omega
  have hW2 : RdA ((w.alloc (.cells #[.slice none 0 0, .slice none 0 0, .slice none 0 0] 36)).alloc (.cells #[.string s] 165)) (w.heap.size + 1) s.data.toList := ⟨s, rfl, blk_alloc' _ _ _ (by simp)⟩
  have HT := hide (rdtable_any _ _ _ hW2 (by rw [size_data]; omega))
  clear hW2
  go_enter Tryz.func47, Tryz.ntmps47
  go_wp2_with fail
  refine (unhide HT).mono ?_
  rintro e w3 ⟨A, F, X, rv, rfl, htab, hg3⟩
  have hbz2 : Below w.heap.size w ((w.alloc (.cells #[.slice none 0 0, .slice none 0 0, .slice none 0 0] 36)).alloc (.cells #[.string s] 165)) := (unhide HBZ).alloc (by simp) _
  have hb3 : Below w.heap.size w w3 := hbz2.grown hg3 hbz2.size (fun b hb => by cases hb; omega)
  have hres3 : w3.heap[w.heap.size]? = some (.cells #[.slice none 0 0, .slice none 0 0, .slice none 0 0] 36 (0, 0)) := (hg3.block _ (by simp; omega) (fun e => by have := Option.some.inj e; omega)).trans ((Below.heap_alloc _ _ _ (by simp)).trans (unhide HRES))
  obtain ⟨ao, ac, rfl⟩ := owns_val htab.acts
  obtain ⟨fo, fc, rfl⟩ := owns_val htab.fl
  obtain ⟨no, nc, rfl⟩ := owns_val htab.nx
  have hsm := parB_small (l := s.data.toList) (by rw [size_data]; omega)
  obtain ⟨hI3, _, _, _⟩ := htab.read hsm
  generalize hP : parB s.data.toList = t at *
  have HP := hide hP
  have hba : Below w3.heap.size w3 (w3.alloc (.cells #[.slice ao t.acts.length ac, .slice fo t.fl.length fc, .slice no t.nx.length nc] 36)) := (Below.refl _ _).alloc (Nat.le_refl _) _
  have HB3 := hide hb3
  have HB4 := hide (hb3.trans (hba.mono hb3.size))
  have HI4 := hide (hI3.later hba)
  have HRES4 := hide ((hba.block _ (lt_of_blk hres3)).trans hres3)
  have HTAB := hide ((htab.later hba).mono (base' := w.heap.size) (by simp; omega))
  have HBX := hide (blk_alloc w3 (.cells #[.slice ao t.acts.length ac, .slice fo t.fl.length fc, .slice no t.nx.length nc] 36))
  have hwx : w.heap.size < w3.heap.size := lt_of_blk hres3
  clear hb3 hba hI3 hsm htab hg3 hres3 hbz2 hP HT
  have HRT := hide (Right_t _ ao fo no ac fc nc _ _ _ t (unhide HI4) ((unhide HG).later (unhide HB4)) rfl rfl rfl)
  go_wp2_with fail
  refine (unhide HRT).mono ?_
  generalize w3.alloc (.cells #[.slice ao t.acts.length ac, .slice fo t.fl.length fc, .slice no t.nx.length nc] 36) = w4 at *
  rintro e w5 ⟨⟨b, rfl, hb⟩, hb5⟩
  have hbx5 := (hb5.block _ (lt_of_blk (unhide HBX))).trans (unhide HBX)
  have hre5 := (hb5.block _ (lt_of_blk (unhide HRES4))).trans (unhide HRES4)
  have HB5 := hide ((unhide HB4).trans (hb5.mono (unhide HB4).size))
  have HI5 := hide ((unhide HI4).later hb5)
  have HTAB5 := hide ((unhide HTAB).later hb5)
  have HBX5 := hide hbx5
  have HRE5 := hide hre5
  have bc := fun o => cell_of_blk hbx5 o
  have bl := lt_of_blk hbx5
  have rc := fun o => cell_of_blk hre5 o
  have rf := fun o => frozen_of_blk hre5 o
  have rl := lt_of_blk hre5
  clear hb5 hbx5 hre5 HRT HBX HRES4 HTAB HI4
  cases b with
  | false =>
   have HD : Hid (DecR s.data.toList none) := DecR.not fun h => by rw [unhide HP] at h; exact absurd (hb.2 h) (by decide)
   clear hb
   go_wp2_with fail
   change bodyPost _ _ _ _ _ (setT w5 w.heap.size (.slice none 0 0) (.slice none 0 0) (.slice none 0 0))
   have hfin := setT_blk (unhide HRE5) (.slice none 0 0) (.slice none 0 0) (.slice none 0 0)
   have hbf := setT_below (unhide HB5) (Nat.le_refl _) (.slice none 0 0) (.slice none 0 0) (.slice none 0 0)
   have htf := setT_tab (unhide HRE5) (unhide HTAB5) (A' := .slice none 0 0) (F' := .slice none 0 0) (X' := .slice none 0 0)
   generalize setT w5 w.heap.size (.slice none 0 0) (.slice none 0 0) (.slice none 0 0) = wf at *
   have fcc := fun o => cell_of_blk hfin o
   refine bodyPost_ret (v := .tuple #[.agg #[.slice none 0 0, .slice none 0 0, .slice none 0 0], .bool false]) (by simp [results, Tryz.results47, go_sem, fcc]) rfl ?_
   exact ⟨none, unhide HD, hbf, rfl⟩
  | true =>
   have HRT := hide (hb.1 rfl)
   clear hb
   have HBY := hide (Bytes_any w5 ao fo no ac fc nc _ _ _ t (unhide HI5) (unhide HRT) rfl rfl rfl)
   by_cases hE : encB t = s.data.toList
   ·have HD : Hid (DecR s.data.toList (some t)) := ⟨unhide HRT, hE⟩
    have hEs : (⟨(encB t).toArray⟩ : ByteArray) = s := byte_inj (by show (encB t) = _; exact hE)
    rw [hEs] at HBY
    clear hE hEs
    go_wp2_with fail
    refine (unhide HBY).mono ?_
    rintro e w6 ⟨rfl, hb6⟩
    have hbx6 := (hb6.block _ (lt_of_blk (unhide HBX5))).trans (unhide HBX5)
    have hre6 := (hb6.block _ (lt_of_blk (unhide HRE5))).trans (unhide HRE5)
    have HB6 := hide ((unhide HB5).trans (hb6.mono (unhide HB5).size))
    have HTAB6 := hide ((unhide HTAB5).later hb6)
    have HRE6 := hide hre6
    clear bc bl rc rf rl
    have bc := fun o => cell_of_blk hbx6 o
    have bl := lt_of_blk hbx6
    have rc := fun o => cell_of_blk hre6 o
    have rf := fun o => frozen_of_blk hre6 o
    have rl := lt_of_blk hre6
    clear hb6 hbx6 hre6
    go_wp2_with fail
    change bodyPost _ _ _ _ _ (setT w6 w.heap.size (.slice ao t.acts.length ac) (.slice fo t.fl.length fc) (.slice no t.nx.length nc))
    have hfin := setT_blk (unhide HRE6) (.slice ao t.acts.length ac) (.slice fo t.fl.length fc) (.slice no t.nx.length nc)
    have hbf := setT_below (unhide HB6) (Nat.le_refl _) (.slice ao t.acts.length ac) (.slice fo t.fl.length fc) (.slice no t.nx.length nc)
    have htf := setT_tab (unhide HRE6) (unhide HTAB6) (A' := .slice ao t.acts.length ac) (F' := .slice fo t.fl.length fc) (X' := .slice no t.nx.length nc)
    generalize setT w6 w.heap.size (.slice ao t.acts.length ac) (.slice fo t.fl.length fc) (.slice no t.nx.length nc) = wf at *
    have fcc := fun o => cell_of_blk hfin o
    refine bodyPost_ret (v := .tuple #[.agg #[.slice ao t.acts.length ac, .slice fo t.fl.length fc, .slice no t.nx.length nc], .bool true]) (by simp [results, Tryz.results47, go_sem, fcc]) rfl ?_
    exact ⟨some t, unhide HD, hbf, _, _, _, rv, rfl, htf⟩
   ·have HD : Hid (DecR s.data.toList none) := DecR.not fun h e => by
     rw [unhide HP] at e
     exact hE e
    have hne : ((⟨(encB t).toArray⟩ : ByteArray).toList == s.toList) = false := beq_eq_false_iff_ne.2 fun e => hE (by
     rw [ByteArray.toList_eq, ByteArray.toList_eq] at e
     exact e)
    generalize (⟨(encB t).toArray⟩ : ByteArray) = E at *
    clear hE
    go_wp2_with fail
    refine (unhide HBY).mono ?_
    rintro e w6 ⟨rfl, hb6⟩
    have hbx6 := (hb6.block _ (lt_of_blk (unhide HBX5))).trans (unhide HBX5)
    have hre6 := (hb6.block _ (lt_of_blk (unhide HRE5))).trans (unhide HRE5)
    have HB6 := hide ((unhide HB5).trans (hb6.mono (unhide HB5).size))
    have HTAB6 := hide ((unhide HTAB5).later hb6)
    have HRE6 := hide hre6
    clear bc bl rc rf rl
    have bc := fun o => cell_of_blk hbx6 o
    have bl := lt_of_blk hbx6
    have rc := fun o => cell_of_blk hre6 o
    have rf := fun o => frozen_of_blk hre6 o
    have rl := lt_of_blk hre6
    clear hb6 hbx6 hre6
    go_wp2_with fail
    change bodyPost _ _ _ _ _ (setT w6 w.heap.size (.slice none 0 0) (.slice none 0 0) (.slice none 0 0))
    have hfin := setT_blk (unhide HRE6) (.slice none 0 0) (.slice none 0 0) (.slice none 0 0)
    have hbf := setT_below (unhide HB6) (Nat.le_refl _) (.slice none 0 0) (.slice none 0 0) (.slice none 0 0)
    have htf := setT_tab (unhide HRE6) (unhide HTAB6) (A' := .slice none 0 0) (F' := .slice none 0 0) (X' := .slice none 0 0)
    generalize setT w6 w.heap.size (.slice none 0 0) (.slice none 0 0) (.slice none 0 0) = wf at *
    have fcc := fun o => cell_of_blk hfin o
    refine bodyPost_ret (v := .tuple #[.agg #[.slice none 0 0, .slice none 0 0, .slice none 0 0], .bool false]) (by simp [results, Tryz.results47, go_sem, fcc]) rfl ?_
    exact ⟨none, unhide HD, hbf, rfl⟩
def EncP (z : Tz) (e : Ending) : Prop := (∃ t, z = t.z ∧ RightT t ∧ e = .returned (.tuple #[.string ⟨(encB t).toArray⟩, .int .i64 0])) ∨ (¬ RightZ z ∧ e = .returned (.tuple #[.string ⟨#[]⟩, .int .i64 6]))
set_option maxHeartbeats 4000000 in
set_option maxRecDepth 100000 in
theorem Encode_any (w : World) (ao fo no : Option Addr) (ac fc nc : Nat) (z : Tz) (hI : TbI w ao fo no ac z) (hG : GV w) :
  Calls Tryz.prog 26 #[.agg #[.slice ao z.acts.length ac, .slice fo z.fl.length fc, .slice no z.nx.length nc]] w fun e w' => EncP z e ∧ Below w.heap.size w w' := by
 have hB : Below w.heap.size w (w.alloc (.cells #[.slice ao z.acts.length ac, .slice fo z.fl.length fc, .slice no z.nx.length nc] 36)) := (Below.refl _ _).alloc (Nat.le_refl _) _
 have HBL := hide (blk_alloc w (.cells #[.slice ao z.acts.length ac, .slice fo z.fl.length fc, .slice no z.nx.length nc] 36))
 have HR := hide (Right_any _ ao fo no ac fc nc z (hI.later hB) (hG.later hB))
 have HI := hide hI
 have HB := hide hB
 clear hI hB hG
 go_enter Tryz.func26, Tryz.ntmps26
 go_wp2_with fail
 refine (unhide HR).mono ?_
 generalize w.alloc (.cells #[.slice ao z.acts.length ac, .slice fo z.fl.length fc, .slice no z.nx.length nc] 36) = W at *
 rintro e w1 ⟨⟨b, rfl, hb⟩, hb1⟩
 have hbk := (hb1.block _ (lt_of_blk (unhide HBL))).trans (unhide HBL)
 have HB1 := hide ((unhide HB).trans (hb1.mono (unhide HB).size))
 have bc := fun o => cell_of_blk hbk o
 have bl := lt_of_blk hbk
 clear hb1 hbk
 cases b with
 | false =>
  have HN : Hid (¬ RightZ z) := fun h => absurd (hb.2 h) (by decide)
  clear hb
  go_wp2_with fail
  refine bodyPost_ret (v := .tuple #[.string ⟨#[]⟩, .int .i64 6]) (by simp [results, Tryz.results26, go_sem]) rfl ?_
  exact ⟨Or.inr ⟨unhide HN, rfl⟩, unhide HB1⟩
 | true =>
  obtain ⟨t, rfl, ht⟩ := hb.1 rfl
  have HT := hide ht
  have e1 : t.z.acts.length = t.acts.length := rfl
  have e2 : t.z.fl.length = t.fl.length := zI_len _
  have e3 : t.z.nx.length = t.nx.length := by unfold Tb.z; simp
  have HBY := hide (Bytes_any w1 ao fo no ac fc nc _ _ _ t ((unhide HI).later (unhide HB1)) (unhide HT) e1 e2 e3)
  clear hb ht e1 e2 e3
  go_wp2_with fail
  refine (unhide HBY).mono ?_
  rintro e w2 ⟨rfl, hb2⟩
  have HB2 := hide ((unhide HB1).trans (hb2.mono (unhide HB1).size))
  clear hb2
  go_wp2_with fail
  refine bodyPost_ret (v := .tuple #[.string ⟨(encB t).toArray⟩, .int .i64 0]) (by simp [results, Tryz.results26, go_sem]) rfl ?_
  exact ⟨Or.inl ⟨t, rfl, unhide HT, rfl⟩, unhide HB2⟩
set_option maxHeartbeats 4000000 in
set_option maxRecDepth 100000 in
theorem Decode_any (w : World) (s : ByteArray) (hG : GV w) :
  Calls Tryz.prog 27 #[.string s] w fun e w' => ∃ o, DecR s.data.toList o ∧ DecP okE w o w' e := by
 have hbz : Below w.heap.size w (w.alloc (.cells #[.slice none 0 0, .slice none 0 0, .slice none 0 0] 36)) := (Below.refl _ _).alloc (Nat.le_refl _) _
 have HRD := hide (tread_any _ s (hG.later hbz))
 have HBZ := hide hbz
 have HRES := hide (blk_alloc w (.cells #[.slice none 0 0, .slice none 0 0, .slice none 0 0] 36))
 clear hG hbz
 go_enter Tryz.func27, Tryz.ntmps27
 go_wp2_with fail
 refine (unhide HRD).mono ?_
 generalize hW : w.alloc (.cells #[.slice none 0 0, .slice none 0 0, .slice none 0 0] 36) = W at *
 have hsz : w.heap.size ≤ W.heap.size := (unhide HBZ).size
 clear hW
 rintro e w1 ⟨o, ho, hb1, hm⟩
 have HO := hide ho
 have hres := (hb1.block _ (lt_of_blk (unhide HRES))).trans (unhide HRES)
 have HB1 := hide ((unhide HBZ).trans (hb1.mono (unhide HBZ).size))
 cases o with
 | none =>
  have hm' : e = .returned (.tuple #[.agg #[.slice none 0 0, .slice none 0 0, .slice none 0 0], .bool false]) := hm
  subst hm'
  have hba : Below w1.heap.size w1 (w1.alloc (.cells #[.slice none 0 0, .slice none 0 0, .slice none 0 0] 36)) := (Below.refl _ _).alloc (Nat.le_refl _) _
  have HRE := hide ((hba.block _ (lt_of_blk hres)).trans hres)
  have HB2 := hide ((unhide HB1).trans (hba.mono (unhide HB1).size))
  have rc := fun o => cell_of_blk (unhide HRE) o
  have rf := fun o => frozen_of_blk (unhide HRE) o
  have rl := lt_of_blk (unhide HRE)
  clear hm ho hb1 hres hba
  go_wp2_with fail
  change bodyPost _ _ _ _ _ (setT (w1.alloc (.cells #[.slice none 0 0, .slice none 0 0, .slice none 0 0] 36)) w.heap.size (.slice none 0 0) (.slice none 0 0) (.slice none 0 0))
  have hfin := setT_blk (unhide HRE) (.slice none 0 0) (.slice none 0 0) (.slice none 0 0)
  have hbf := setT_below (unhide HB2) (Nat.le_refl _) (.slice none 0 0) (.slice none 0 0) (.slice none 0 0)
  generalize setT (w1.alloc (.cells #[.slice none 0 0, .slice none 0 0, .slice none 0 0] 36)) w.heap.size (.slice none 0 0) (.slice none 0 0) (.slice none 0 0) = wf at *
  have fcc := fun o => cell_of_blk hfin o
  refine bodyPost_ret (v := .tuple #[.agg #[.slice none 0 0, .slice none 0 0, .slice none 0 0], .int .i64 6]) (by simp [results, Tryz.results27, go_sem, fcc]) rfl ?_
  exact ⟨none, unhide HO, hbf, rfl⟩
 | some t =>
  obtain ⟨A, F, X, rv, he, htab⟩ := hm
  obtain ⟨ao, ac, rfl⟩ := owns_val htab.acts
  obtain ⟨fo, fc, rfl⟩ := owns_val htab.fl
  obtain ⟨no, nc, rfl⟩ := owns_val htab.nx
  have he' : e = .returned (.tuple #[.agg #[.slice ao t.acts.length ac, .slice fo t.fl.length fc, .slice no t.nx.length nc], .bool true]) := he
  subst he'
  clear he
  have hba : Below w1.heap.size w1 (w1.alloc (.cells #[.slice ao t.acts.length ac, .slice fo t.fl.length fc, .slice no t.nx.length nc] 36)) := (Below.refl _ _).alloc (Nat.le_refl _) _
  have HRE := hide ((hba.block _ (lt_of_blk hres)).trans hres)
  have HB2 := hide ((unhide HB1).trans (hba.mono (unhide HB1).size))
  have HTAB := hide ((htab.later hba).mono hsz)
  have hbx := blk_alloc w1 (.cells #[.slice ao t.acts.length ac, .slice fo t.fl.length fc, .slice no t.nx.length nc] 36)
  have rc := fun o => cell_of_blk (unhide HRE) o
  have rf := fun o => frozen_of_blk (unhide HRE) o
  have rl := lt_of_blk (unhide HRE)
  clear ho hb1 hres hba htab
  go_wp2_with fail
  change bodyPost _ _ _ _ _ (setT (w1.alloc (.cells #[.slice ao t.acts.length ac, .slice fo t.fl.length fc, .slice no t.nx.length nc] 36)) w.heap.size (.slice ao t.acts.length ac) (.slice fo t.fl.length fc) (.slice no t.nx.length nc))
  have hfin := setT_blk (unhide HRE) (.slice ao t.acts.length ac) (.slice fo t.fl.length fc) (.slice no t.nx.length nc)
  have hbf := setT_below (unhide HB2) (Nat.le_refl _) (.slice ao t.acts.length ac) (.slice fo t.fl.length fc) (.slice no t.nx.length nc)
  have htf := setT_tab (unhide HRE) (unhide HTAB) (A' := .slice ao t.acts.length ac) (F' := .slice fo t.fl.length fc) (X' := .slice no t.nx.length nc)
  generalize setT (w1.alloc (.cells #[.slice ao t.acts.length ac, .slice fo t.fl.length fc, .slice no t.nx.length nc] 36)) w.heap.size (.slice ao t.acts.length ac) (.slice fo t.fl.length fc) (.slice no t.nx.length nc) = wf at *
  have fcc := fun o => cell_of_blk hfin o
  refine bodyPost_ret (v := .tuple #[.agg #[.slice ao t.acts.length ac, .slice fo t.fl.length fc, .slice no t.nx.length nc], .int .i64 0]) (by simp [results, Tryz.results27, go_sem, fcc]) rfl ?_
  exact ⟨some t, unhide HO, hbf, _, _, _, rv, rfl, htf⟩
set_option maxHeartbeats 2000000 in
set_option maxRecDepth 100000 in
theorem same_any (w : World) (ao bo : Option Addr) (ac bc : Nat) (l m : List ByteArray) (h1 : TxS w ao l) (h2 : TxS w bo m) (hl : l.length ≤ 10000000000000) (hm : m.length ≤ 10000000000000) :
  Calls Tryz.prog 23 #[.slice ao l.length ac, .slice bo m.length bc] w fun e w' => TellsB (l = m) e ∧ Below w.heap.size w w' := by
 have H1 := hide h1
 have H2 := hide h2
 clear h1 h2
 by_cases hlm : l.length = m.length
 ·generalize hn : m.length = n at *
  have HN := hide hn
  have HL := hide hlm
  rw [hlm]
  clear hn hlm hl
  go_enter Tryz.func23, Tryz.ntmps23
  go_wp2_with fail
  go_loopw [5] (fun x wr => ∃ k : Nat, k ≤ n ∧ x = .int .i64 k ∧ Hid (Below w.heap.size w wr) ∧ Hid (l.take k = m.take k)) (fun x _ => n - (intOf x).toNat)
  case atStart => exact ⟨0, Nat.zero_le _, rfl, Below.refl _ _, rfl⟩
  case round =>
   obtain ⟨k, hk, rfl, HB, HK⟩ := hrel
   by_cases hlt : k < n
   ·have hkn : (k : Int) < (n : Int) := by omega
    have hkl : k < l.length := by rw [unhide HL]; exact hlt
    have hkm : k < m.length := by rw [unhide HN]; exact hlt
    obtain ⟨b, off, rfl, hb, hc⟩ := (unhide H1).later (unhide HB) k l[k] (List.getElem?_eq_getElem hkl)
    obtain ⟨b2, off2, rfl, hb2, hc2⟩ := (unhide H2).later (unhide HB) k m[k] (List.getElem?_eq_getElem hkm)
    have HX := hide (List.getElem?_eq_getElem hkl)
    have HY := hide (List.getElem?_eq_getElem hkm)
    generalize l[k] = x at *
    generalize m[k] = y at *
    by_cases hxy : x = y
    ·subst hxy
     have HK2 : Hid (l.take (k + 1) = m.take (k + 1)) := by
      show _ = _
      rw [List.take_add_one, List.take_add_one, unhide HX, unhide HY, unhide HK]
     go_wp2_with fail
     go_quiet (fail)
     go_wp2_with fail
     go_roundw
     case rel => exact ⟨k + 1, by omega, by go_num, (unhide HB).trans (((bdn _ _).mono (unhide HB).size)), HK2⟩
     case measure => simp [intOf]; omega
    ·have HNE : Hid (¬ l = m) := fun e => by
      have h1 := unhide HX
      rw [e, unhide HY] at h1
      exact hxy (Option.some.inj h1).symm
     have hne : (x.toList == y.toList) = false := beq_eq_false_iff_ne.2 fun e => hxy (by
      apply byte_inj
      rw [ByteArray.toList_eq, ByteArray.toList_eq] at e
      exact e)
     clear hxy
     go_wp2_with fail
     go_quiet (fail)
     go_wp2_with fail
     go_ret
     exact ⟨TellsB.no (unhide HNE), (unhide HB).trans (((bdn _ _).mono (unhide HB).size))⟩
   ·have hkn : ¬ (k : Int) < (n : Int) := by omega
    have HE : Hid (l = m) := by
     have := unhide HK
     rw [List.take_of_length_le (by rw [unhide HL]; omega), List.take_of_length_le (by rw [unhide HN]; omega)] at this
     exact this
    go_wp2_with fail
    go_ret
    exact ⟨TellsB.yes (unhide HE), unhide HB⟩
 ·have hi : ¬ (l.length : Int) = (m.length : Int) := by omega
  have HNE : Hid (¬ l = m) := fun e => hlm (by rw [e])
  clear hlm
  go_enter Tryz.func23, Tryz.ntmps23
  go_wp2_with fail
  go_ret
  exact ⟨TellsB.no (unhide HNE), Below.refl _ _⟩
def PickP (n : Nat) (e : Ending) : Prop := ∃ k : Nat, k < n ∧ e = .returned (.int .i64 (k : Int))
theorem PickP.of {n : Nat} {x : Int} (h0 : 0 ≤ x) (hn : 0 < n) : PickP n (.returned (.int .i64 (x.tmod (n : Int)))) := by
 have h1 := Int.tmod_nonneg (n : Int) h0
 have h2 := Int.tmod_lt_of_pos x (show (0 : Int) < (n : Int) by omega)
 refine ⟨(x.tmod n).toNat, by omega, ?_⟩
 rw [Int.toNat_of_nonneg h1]
set_option maxHeartbeats 1000000 in
theorem kpick_any (w : World) (c : Int) (n : Nat) (h0 : -9223372036854775808 ≤ c) (h1 : c ≤ 9223372036854775807) (hn : 0 < n) (hn2 : n ≤ 1000000) :
  Calls Tryz.prog 28 #[.int .i64 c, .int .i64 (n : Int)] w fun e w' => PickP n e ∧ w' = w := by
 have hni : ¬ (n : Int) = 0 := by omega
 by_cases hc : c < 0
 ·have HP := hide (PickP.of (n := n) (x := -(c + 1)) (by omega) hn)
  rw [Int.neg_tmod] at HP
  go_enter Tryz.func28, Tryz.ntmps28
  go_wp2_with fail
  go_ret
  exact ⟨unhide HP, rfl⟩
 ·have HP := hide (PickP.of (n := n) (x := c) (by omega) hn)
  rw [Int.tmod_eq_emod_of_nonneg (by omega)] at HP
  go_enter Tryz.func28, Tryz.ntmps28
  go_wp2_with fail
  go_ret
  exact ⟨unhide HP, rfl⟩
end Go.Proofs.YtidakhhekofkoaaGreatDoor
