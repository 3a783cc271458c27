/- The law's step Holds of a list that is nil; its looks and settle. -/
import Derived.Test.YtidakhhekofkoaaGreatDoorG44
import Derived.Laws.AppendOwnNone
import Derived.Test.YtidakhhekofkoaaGreatDoorG20
set_option linter.unusedSimpArgs false
set_option linter.unusedVariables false
namespace Go.Proofs.YtidakhhekofkoaaGreatDoor
open Go.RowKit Go.Deep
theorem lentTexts_nil (w : World) : Calls Tryz.prog 94 #[.slice none 0 0] w fun e w' => e = .returned (.slice none 0 0) ∧ w' = w := by
 have he := fun W : World => eqNil0 W
 go_enter Tryz.func94, Tryz.ntmps94
 go_wp2_with fail
 go_ret
 exact ⟨rfl, rfl⟩
theorem wholeTexts_nil (w : World) (lb : Nat) (o : Value) : Calls Tryz.prog 96 #[.pointer (some ⟨lb, 0, none⟩), o, .slice none 0 0] w fun e w' => e = .returned (.bool true) ∧ w' = w := by
 have he := fun W : World => eqNil0 W
 go_enter Tryz.func96, Tryz.ntmps96
 go_wp2_with fail
 go_ret
 exact ⟨rfl, rfl⟩
theorem TxS.nil (w : World) : TxS w none [] := fun j x h => by simp at h
set_option maxHeartbeats 4000000 in
set_option maxRecDepth 100000 in
theorem models_holds_nil (w0 w : World) (lb tn : Nat) (to_ : Option Addr) (tc : Nat) (bs : List Bk) (hI : TI w0 w lb tn to_ tc bs) (hG : GL w0 lb)
  (oa : Int) (os ot : ByteArray) (f1 : Option Addr) (f2 f3 : Nat) (m1 : Option Addr) (m2 m3 : Nat) :
  Calls Tryz.prog 54 #[.pointer (some ⟨lb, 0, none⟩), (.agg #[.int .i64 2, .int .i64 oa, .string os, .string ot, .slice none 0 0, .slice f1 f2 f3, .slice m1 m2 m3])] w fun e w' => e = .returned (.bool true) ∧ TI w0 w' lb tn to_ tc bs := by
 have hB0 : Below w.heap.size w (w.alloc (.cells #[.int .i64 2, .int .i64 oa, .string os, .string ot, .slice none 0 0, .slice f1 f2 f3, .slice m1 m2 m3] 74)) := (Below.refl _ _).alloc (Nat.le_refl _) _
 have HI := hide hI
 have HG := hide hG
 have HB0 := hide hB0
 have HBL := hide (blk_alloc w (.cells #[.int .i64 2, .int .i64 oa, .string os, .string ot, .slice none 0 0, .slice f1 f2 f3, .slice m1 m2 m3] 74))
 obtain ⟨i0, hi0, hz0, hz1, hz2⟩ := info_parts infoStr
 clear hI hG hB0
 go_enter Tryz.func54, Tryz.ntmps54
 go_wp2_with (go_at_call 94; refine (lentTexts_nil _).mono ?_)
 rintro e w1 ⟨rfl, hw1⟩
 have h1 := hw1.symm
 clear hw1
 subst h1
 generalize w.alloc (.cells #[.int .i64 2, .int .i64 oa, .string os, .string ot, .slice none 0 0, .slice f1 f2 f3, .slice m1 m2 m3] 74) = W at *
 have bc := fun o => cell_of_blk (unhide HBL) o
 have hol := lt_of_blk (unhide HBL)
 go_wp2_with (go_at_call 16; refine (Holds_n os [] 0 rfl W none 0 ((unhide HG).gvL (((unhide HI).later (unhide HB0)).bel)) (TxS.nil _) (by omega)).mono ?_)
 rintro e w2 ⟨rfl, hb2⟩
 generalize hHM : holdsM os [] = hm at *
 have HHM := hide hHM
 clear hHM
 obtain ⟨ha, he⟩ := hm
 have HB2 := hide ((unhide HB0).trans (hb2.mono (unhide HB0).size))
 have hbk2 := (hb2.block _ hol).trans (unhide HBL)
 have HK2 := hide hbk2
 have bc2 := fun o => cell_of_blk hbk2 o
 have hol2 := lt_of_blk hbk2
 clear hb2 hbk2 bc
 go_wp2_with (go_at_call 95; refine (HoldsRef_n os [] 0 rfl w2 none 0 (TxS.nil _) (by omega)).mono ?_)
 rintro e w3 ⟨rfl, hb3⟩
 rw [unhide HHM]
 have HB3 := hide ((unhide HB2).trans (hb3.mono (unhide HB2).size))
 have hbk3 := (hb3.block _ hol2).trans (unhide HK2)
 have HK3 := hide hbk3
 have bc3 := fun o => cell_of_blk hbk3 o
 have hol3 := lt_of_blk hbk3
 clear hb3 hbk3 bc2
 go_wp2_with (go_at_call 96; refine (wholeTexts_nil _ _ _).mono ?_)
 rintro e w4 ⟨rfl, hw4⟩
 have h4 := hw4.symm
 clear hw4
 subst h4
 go_wp2_with (at_builtin; go_must (refine wpList_append_own_none rfl _ _ 25 rfl w3.heap.size 9 i0 1 Tryz.underlying25 hi0 (.slice none 0 0) 0 [] rfl (World.ownsRow_nil _ _ _ _) rfl ?_))
 go_wp2_with (go_at_call 16; refine (Holds_n os [] 0 rfl w3 none 0 ((unhide HG).gvL (((unhide HI).later (unhide HB3)).bel)) (TxS.nil _) (by omega)).mono ?_)
 rintro e w5 ⟨rfl, hb5⟩
 rw [unhide HHM]
 have HB5 := hide ((unhide HB3).trans (hb5.mono (unhide HB3).size))
 have hbk5 := (hb5.block _ hol3).trans (unhide HK3)
 have bc5 := fun o => cell_of_blk hbk5 o
 have hol5 := lt_of_blk hbk5
 clear hb5 hbk5 bc3
 go_wp2_with (go_at_call 95; refine (HoldsRef_n os [] 0 rfl w5 none 0 (TxS.nil _) (by omega)).mono ?_)
 rintro e w6 ⟨rfl, hb6⟩
 rw [unhide HHM]
 have HI6 := hide ((unhide HI).later ((unhide HB5).trans (hb6.mono (unhide HB5).size)))
 clear hb6 bc5
 go_wp2_with (go_at_call 93; refine (num_any _ _).mono ?_; rintro e w8 ⟨rfl, rfl⟩)
 go_ret
 exact ⟨ret_bool (by simp), unhide HI6⟩
theorem bksC_len (bs : List Bk) : (bksC bs).length = bs.length * 5 := by
 induction bs with
 | nil => rfl
 | cons d r ih => unfold bksC at ih ⊢; rw [List.flatMap_cons, List.length_append, ih]; show 5 + _ = _; rw [List.length_cons]; omega
theorem bksC_at : ∀ {bs : List Bk} {k : Nat} {b : Bk}, bs[k]? = some b → ∀ j, j < 5 → (bksC bs)[k * 5 + j]? = (bkC b)[j]?
 | [], k, d, h, j, hj => by simp at h
 | x :: r, 0, d, h, j, hj => by
  simp at h; subst h
  show (bkC x ++ bksC r)[0 * 5 + j]? = _
  rw [Nat.zero_mul, Nat.zero_add, List.getElem?_append_left (by show j < 5; exact hj)]
 | x :: r, k + 1, d, h, j, hj => by
  show (bkC x ++ bksC r)[(k + 1) * 5 + j]? = _
  rw [List.getElem?_append_right (by show 5 ≤ _; omega), show (k + 1) * 5 + j - (bkC x).length = k * 5 + j by show (k + 1) * 5 + j - 5 = _; omega]
  exact bksC_at (by simpa using h) j hj
theorem TI.len {w0 w : World} {lb tn : Nat} {to_ : Option Addr} {tc : Nat} {bs : List Bk} (h : TI w0 w lb tn to_ tc bs) : bs.length = tn := by
 have h1 := h.bk.1
 rw [bksC_len] at h1; omega
theorem TI.book {w0 w : World} {lb tn : Nat} {to_ : Option Addr} {tc : Nat} {bs : List Bk} (h : TI w0 w lb tn to_ tc bs) {i : Nat} {b : Bk} (hb : bs[i]? = some b) :
  ∃ g, to_ = some ⟨g, 0, none⟩ ∧ g < w.heap.size ∧ w.cell? ⟨g, i * 5, none⟩ = some (.string b.mr) ∧ w.cell? ⟨g, i * 5 + 1, none⟩ = some b.l ∧ w.cell? ⟨g, i * 5 + 2, none⟩ = some b.g1 ∧ w.cell? ⟨g, i * 5 + 3, none⟩ = some b.g2 ∧ w.cell? ⟨g, i * 5 + 4, none⟩ = some b.g3 := by
 have hi : i < tn := by
  rw [← h.len]
  rcases Nat.lt_or_ge i bs.length with h | h
  ·exact h
  ·rw [List.getElem?_eq_none h] at hb; cases hb
 obtain ⟨_, ⟨h1, h2⟩ | ⟨g, cap, cur, hv, _, hrow, hle, _, hcs, htake⟩⟩ := h.bk
 ·omega
 ·cases hv
  have key : ∀ m, m < 5 → w.cell? ⟨g, i * 5 + m, none⟩ = (bkC b)[m]? := by
   intro m hm
   rw [cell_of_blk hrow, ← Array.getElem?_toList, ← bksC_at hb m hm, ← htake, List.getElem?_take, if_pos (by omega)]
  exact ⟨g, rfl, lt_of_blk hrow, key 0 (by omega), key 1 (by omega), key 2 (by omega), key 3 (by omega), key 4 (by omega)⟩
set_option maxHeartbeats 400000 in
set_option maxRecDepth 100000 in
theorem looks_texts (w0 w : World) (lb tn : Nat) (to_ : Option Addr) (tc : Nat) (bs : List Bk) (hI : TI w0 w lb tn to_ tc bs) (htn : tn ≤ 10000000000000) :
  Calls Tryz.prog 38 #[.pointer (some ⟨lb, 0, none⟩)] w fun e w' => e = .returned (.bool true) ∧ Below w.heap.size w w' := by
 have HI := hide hI
 have hlen := hI.len
 clear hI
 go_enter Tryz.func38, Tryz.ntmps38
 go_wp2_with fail
 go_loopw [3] (fun v wr => ∃ i : Nat, i ≤ tn ∧ v = .int .i64 i ∧ Hid (Below w.heap.size w wr)) (fun v _ => tn - (intOf v).toNat)
 case atStart => exact ⟨0, Nat.zero_le _, rfl, Below.refl _ _⟩
 case round =>
  obtain ⟨i, hi, rfl, HB⟩ := hrel
  have HIr := hide ((unhide HI).later (unhide HB))
  have lc := fun o => cell_of_blk (unhide HIr).lw o
  have hll := lt_of_blk (unhide HIr).lw
  by_cases hlt : i < tn
  ·have hin : (i : Int) < (tn : Int) := by omega
   have hbi : bs[i]? = some bs[i] := List.getElem?_eq_getElem (by omega)
   obtain ⟨g, hto, hg, c0, c1, c2, c3, c4⟩ := (unhide HIr).book hbi
   have HOK := hide (((unhide HIr).ok bs[i] (List.getElem_mem _)).later ((Below.refl wr.heap.size wr).alloc (Nat.le_refl _) (.cells #[.string bs[i].mr, bs[i].l, bs[i].g1, bs[i].g2, bs[i].g3] 118)))
   have HB2 := hide ((unhide HB).alloc (unhide HB).size (.cells #[.string bs[i].mr, bs[i].l, bs[i].g1, bs[i].g2, bs[i].g3] 118))
   subst hto
   clear hbi
   generalize bs[i] = b at *
   obtain ⟨bm, bl, bg1, bg2, bg3⟩ := b
   obtain ⟨o1, n1, k1, e1, _, _⟩ := id (unhide HOK).l
   obtain ⟨o2, n2, k2, e2, _, _⟩ := id (unhide HOK).g1
   obtain ⟨o3, n3, k3, e3, _, _⟩ := id (unhide HOK).g2
   obtain ⟨o4, n4, k4, e4, _, _⟩ := id (unhide HOK).g3
   replace e1 : bl = _ := e1
   replace e2 : bg1 = _ := e2
   replace e3 : bg2 = _ := e3
   replace e4 : bg3 = _ := e4
   subst e1 e2 e3 e4
   replace c0 : wr.cell? ⟨g, i * 5, none⟩ = some (.string bm) := c0
   replace c1 : wr.cell? ⟨g, i * 5 + 1, none⟩ = some (.slice o1 n1 k1) := c1
   replace c2 : wr.cell? ⟨g, i * 5 + 2, none⟩ = some (.slice o2 n2 k2) := c2
   replace c3 : wr.cell? ⟨g, i * 5 + 3, none⟩ = some (.slice o3 n3 k3) := c3
   replace c4 : wr.cell? ⟨g, i * 5 + 4, none⟩ = some (.slice o4 n4 k4) := c4
   have M1 : AllM (wr.alloc (.cells #[.string bm, .slice o1 n1 k1, .slice o2 n2 k2, .slice o3 n3 k3, .slice o4 n4 k4] 118)) (.slice o1 n1 k1) (.string bm) 9 := (unhide HOK).l
   have A1 := hide (allTexts_any (wr.alloc (.cells #[.string bm, .slice o1 n1 k1, .slice o2 n2 k2, .slice o3 n3 k3, .slice o4 n4 k4] 118)) (.slice o1 n1 k1) bm M1)
   clear M1
   have M2 : AllM (wr.alloc (.cells #[.string bm, .slice o1 n1 k1, .slice o2 n2 k2, .slice o3 n3 k3, .slice o4 n4 k4] 118)) (.slice o2 n2 k2) (.string bm) 9 := (unhide HOK).g1
   have A2 := hide (allTexts_any (wr.alloc (.cells #[.string bm, .slice o1 n1 k1, .slice o2 n2 k2, .slice o3 n3 k3, .slice o4 n4 k4] 118)) (.slice o2 n2 k2) bm M2)
   clear M2
   have M3 : AllM (wr.alloc (.cells #[.string bm, .slice o1 n1 k1, .slice o2 n2 k2, .slice o3 n3 k3, .slice o4 n4 k4] 118)) (.slice o3 n3 k3) (.string bm) 9 := (unhide HOK).g2
   have A3 := hide (allTexts_any (wr.alloc (.cells #[.string bm, .slice o1 n1 k1, .slice o2 n2 k2, .slice o3 n3 k3, .slice o4 n4 k4] 118)) (.slice o3 n3 k3) bm M3)
   clear M3
   have M4 : AllM (wr.alloc (.cells #[.string bm, .slice o1 n1 k1, .slice o2 n2 k2, .slice o3 n3 k3, .slice o4 n4 k4] 118)) (.slice o4 n4 k4) (.string bm) 9 := (unhide HOK).g3
   have A4 := hide (allTexts_any (wr.alloc (.cells #[.string bm, .slice o1 n1 k1, .slice o2 n2 k2, .slice o3 n3 k3, .slice o4 n4 k4] 118)) (.slice o4 n4 k4) bm M4)
   clear M4
   have hbb := blk_alloc wr (.cells #[.string bm, .slice o1 n1 k1, .slice o2 n2 k2, .slice o3 n3 k3, .slice o4 n4 k4] 118)
   have HBB := hide hbb
   have HB3 : Hid (Below w.heap.size w (wr.alloc (.cells #[.string bm, .slice o1 n1 k1, .slice o2 n2 k2, .slice o3 n3 k3, .slice o4 n4 k4] 118))) := HB2
   clear hbb HOK HB2
   go_wp2_with fail
   refine (unhide A1).mono ?_
   rintro e w5 ⟨rfl, hw5⟩
   have h5 := hw5.symm
   clear hw5
   subst h5
   generalize (wr.alloc (.cells #[.string bm, .slice o1 n1 k1, .slice o2 n2 k2, .slice o3 n3 k3, .slice o4 n4 k4] 118)) = W at *
   have bc := fun o => cell_of_blk (unhide HBB) o
   have hbl := lt_of_blk (unhide HBB)
   clear A1 lc c0 c1 c2 c3 c4
   go_wp2_with fail
   refine (unhide A2).mono ?_
   rintro e w5 ⟨rfl, hw5⟩
   have h5 := hw5.symm
   clear hw5
   subst h5
   go_wp2_with fail
   refine (unhide A3).mono ?_
   rintro e w5 ⟨rfl, hw5⟩
   have h5 := hw5.symm
   clear hw5
   subst h5
   go_wp2_with fail
   refine (unhide A4).mono ?_
   rintro e w5 ⟨rfl, hw5⟩
   have h5 := hw5.symm
   clear hw5
   subst h5
   go_wp2_with fail
   go_roundw
   case rel => exact ⟨i + 1, by omega, by go_num, HB3⟩
   case measure => simp [intOf]; omega
  ·have hin : ¬ (i : Int) < (tn : Int) := by omega
   go_wp2_with fail
   go_loopw [9] (fun v w2 => v = .int .i64 0 ∧ wr = w2) (fun _ _ => 0)
   case atStart => exact ⟨rfl, rfl⟩
   case round =>
    obtain ⟨rfl, hw⟩ := hrel
    subst hw
    go_wp2_with fail
    go_loopw [15] (fun v w2 => v = .int .i64 0 ∧ wr = w2) (fun _ _ => 0)
    case atStart => exact ⟨rfl, rfl⟩
    case round =>
     obtain ⟨rfl, hw⟩ := hrel
     subst hw
     go_wp2_with fail
     go_ret
     exact ⟨rfl, unhide HB⟩
set_option maxHeartbeats 2000000 in
set_option maxRecDepth 100000 in
theorem settle_texts (w : World) (lb : Nat) (dk : Value) (M : Nat) (tx ix rx : Value) (h : LWd w lb dk M tx ix rx (.slice none 0 0) (.slice none 0 0) (.slice none 0 0) (.slice none 0 0)) : Calls Tryz.prog 37 #[.pointer (some ⟨lb, 0, none⟩)] w fun e w' => e = .returned (.bool true) ∧ LWd w' lb dk M tx ix rx (.slice none 0 0) (.slice none 0 0) (.slice none 0 0) (.slice none 0 0) ∧ w.grownBy w' (some lb) := by
 have bc := fun o => cell_of_blk h o
 have bf := fun o => frozen_of_blk h o
 have H := hide h
 have hlt := lt_of_blk h
 clear h
 go_enter Tryz.func37, Tryz.ntmps37
 go_wp2_with fail
 go_loopw [3, 4] (fun o v wr => o = .bool true ∧ v = .int .i64 0 ∧ w = wr) (fun _ _ _ => 0)
 case atStart => exact ⟨rfl, rfl, rfl⟩
 case round =>
  obtain ⟨rfl, rfl, hw⟩ := hrel
  subst hw
  go_wp2_with fail
  go_loopw [3, 6] (fun o v wr => o = .bool true ∧ v = .int .i64 0 ∧ w = wr) (fun _ _ _ => 0)
  case atStart => exact ⟨rfl, rfl, rfl⟩
  case round =>
   obtain ⟨rfl, rfl, hw⟩ := hrel
   subst hw
   go_wp2_with fail
   go_loopw [8] (fun v wr => v = .int .i64 0 ∧ w = wr) (fun _ _ => 0)
   case atStart => exact ⟨rfl, rfl⟩
   case round =>
    obtain ⟨rfl, hw⟩ := hrel
    subst hw
    go_wp2_with fail
    go_loopw [9] (fun v wr => v = .int .i64 0 ∧ w = wr) (fun _ _ => 0)
    case atStart => exact ⟨rfl, rfl⟩
    case round =>
     obtain ⟨rfl, hw⟩ := hrel
     subst hw
     go_wp2_with fail
     go_ret
     exact ⟨rfl, blk_set (blk_set (blk_set (blk_set (unhide H) 5 _) 6 _) 7 _) 8 _, (((grown_set _ _ _ _).trans (grown_set _ _ _ _)).trans (grown_set _ _ _ _)).trans (grown_set _ _ _ _)⟩
theorem TI.settle {w0 w w' : World} {lb tn : Nat} {to_ : Option Addr} {tc : Nat} {bs : List Bk} (h : TI w0 w lb tn to_ tc bs) (hl : LWd w' lb (.slice none 0 0) tn (.slice to_ tn tc) (.slice none 0 0) (.slice none 0 0) (.slice none 0 0) (.slice none 0 0) (.slice none 0 0) (.slice none 0 0)) (hg : w.grownBy w' (some lb)) : TI w0 w' lb tn to_ tc bs := by
 refine ⟨hl, owns_keep h.bk hg (Or.inr (fun e => own_ty h.bk e h.lw (by decide))), fun b hb => (h.ok b hb).keep (fun x hx => ?_), h.bel.trans hg⟩
 obtain ⟨c, m, hc⟩ := hx
 refine hg.block x (lt_of_blk hc) (fun e => ?_)
 have e' : x = lb := Option.some.inj e
 have := h.lw
 unfold LWd at this
 rw [← e', hc] at this; cases this
def TxN (lb : Nat) (w : World) (o : Option Addr) (tr : List ByteArray) : Prop := ∀ j x, tr[j]? = some x → ∃ b off, o = some ⟨b, off, none⟩ ∧ b < w.heap.size ∧ b ≠ lb ∧ w.cell? ⟨b, off + j, none⟩ = some (.string x)
theorem TxN.txs {lb : Nat} {w w' : World} {o : Option Addr} {tr : List ByteArray} (h : TxN lb w o tr) (hb : w.grownBy w' (some lb)) : TxS w' o tr := fun j x hx => by
 obtain ⟨b, off, h1, h2, h3, h4⟩ := h j x hx
 refine ⟨b, off, h1, Nat.lt_of_lt_of_le h2 hb.size, ?_⟩
 have e := hb.block b h2 (fun e => h3 (Option.some.inj e))
 unfold World.cell? at h4 ⊢
 simp only [e]; exact h4
def ScL (lb : Nat) (w : World) (l1 : Option Addr) (l2 l3 : Nat) : Prop := (l1 = none ∧ l2 = 0 ∧ l3 = 0) ∨ ∃ ad tr, l1 = some ad ∧ l2 = tr.length ∧ TxN lb w (some ad) tr ∧ tr.length ≤ 8796093021952
def StPost (w0 : World) (lb tn : Nat) (w' : World) (e : Ending) : Prop := e = .returned (.bool true) ∧ ∃ tn' to' tc' bs', tn' ≤ tn + 1 ∧ TI w0 w' lb tn' to' tc' bs'
theorem models_h (w0 w : World) (lb tn : Nat) (to_ : Option Addr) (tc : Nat) (bs : List Bk) (hI : TI w0 w lb tn to_ tc bs) (hG : GL w0 lb)
  (oa : Int) (os ot : ByteArray) (l1 : Option Addr) (l2 l3 : Nat) (f1 : Option Addr) (f2 f3 : Nat) (m1 : Option Addr) (m2 m3 : Nat) (hL : ScL lb w0 l1 l2 l3) (htn : (tn + 1) * 112 ≤ 140737488355328) :
  Calls Tryz.prog 54 #[.pointer (some ⟨lb, 0, none⟩), (.agg #[.int .i64 2, .int .i64 oa, .string os, .string ot, .slice l1 l2 l3, .slice f1 f2 f3, .slice m1 m2 m3])] w fun e w' => StPost w0 lb tn w' e := by
 rcases hL with ⟨rfl, rfl, rfl⟩ | ⟨ad, tr, rfl, rfl, hT, hn⟩
 ·refine (models_holds_nil w0 w lb tn to_ tc bs hI hG oa os ot f1 f2 f3 m1 m2 m3).mono ?_
  rintro e w' ⟨rfl, h⟩
  exact ⟨rfl, tn, _, _, _, by omega, h⟩
 ·refine (models_holds w0 w lb tn to_ tc bs hI hG oa os ot tr ad l3 f1 f2 f3 m1 m2 m3 (hT.txs hI.bel) hn htn).mono ?_
  rintro e w' ⟨rfl, _, _, _, h⟩
  exact ⟨rfl, tn + 1, _, _, _, Nat.le_refl _, h⟩
set_option maxHeartbeats 2000000 in
set_option maxRecDepth 100000 in
theorem step_h (w0 w : World) (lb tn : Nat) (to_ : Option Addr) (tc : Nat) (bs : List Bk) (hI : TI w0 w lb tn to_ tc bs) (hG : GL w0 lb)
  (oa : Int) (os ot : ByteArray) (l1 : Option Addr) (l2 l3 : Nat) (f1 : Option Addr) (f2 f3 : Nat) (m1 : Option Addr) (m2 m3 : Nat) (hL : ScL lb w0 l1 l2 l3) (htn : (tn + 1) * 112 ≤ 140737488355328) :
  Calls Tryz.prog 36 #[.pointer (some ⟨lb, 0, none⟩), (.agg #[.int .i64 2, .int .i64 oa, .string os, .string ot, .slice l1 l2 l3, .slice f1 f2 f3, .slice m1 m2 m3])] w fun e w' => StPost w0 lb tn w' e := by
 have HM := hide (models_h w0 (w.alloc (.cells #[.int .i64 2, .int .i64 oa, .string os, .string ot, .slice l1 l2 l3, .slice f1 f2 f3, .slice m1 m2 m3] 74)) lb tn to_ tc bs (hI.later ((Below.refl _ _).alloc (Nat.le_refl _) _)) hG oa os ot l1 l2 l3 f1 f2 f3 m1 m2 m3 hL htn)
 clear hI hG hL htn
 go_enter Tryz.func36, Tryz.ntmps36
 go_wp2_with fail
 refine (unhide HM).mono ?_
 rintro e w1 ⟨rfl, h1⟩
 have H1 := hide h1
 clear h1
 go_wp2_with fail
 go_ret
 exact ⟨rfl, unhide H1⟩
def ScL0 (w : World) (l1 : Option Addr) (l2 l3 : Nat) : Prop := (l1 = none ∧ l2 = 0 ∧ l3 = 0) ∨ ∃ ad tr, l1 = some ad ∧ l2 = tr.length ∧ TxS w (some ad) tr ∧ tr.length ≤ 8796093021952
def Sc2 (w : World) (o : Option Addr) (n : Nat) : Prop := ∀ i, i < n → ∃ b off, o = some ⟨b, off, none⟩ ∧ b < w.heap.size ∧ ∃ (kd oa : Int) (os ot : ByteArray) (l1 : Option Addr) (l2 l3 : Nat) (f1 : Option Addr) (f2 f3 : Nat) (m1 : Option Addr) (m2 m3 : Nat),
  ScL0 w l1 l2 l3 ∧ w.cell? ⟨b, off + i * 7, none⟩ = some (.int .i64 kd) ∧ w.cell? ⟨b, off + i * 7 + 1, none⟩ = some (.int .i64 oa) ∧ w.cell? ⟨b, off + i * 7 + 2, none⟩ = some (.string os) ∧ w.cell? ⟨b, off + i * 7 + 3, none⟩ = some (.string ot) ∧
  w.cell? ⟨b, off + i * 7 + 4, none⟩ = some (.slice l1 l2 l3) ∧ w.cell? ⟨b, off + i * 7 + 5, none⟩ = some (.slice f1 f2 f3) ∧ w.cell? ⟨b, off + i * 7 + 6, none⟩ = some (.slice m1 m2 m3)
theorem ScL0.to {w W2 : World} {l1 : Option Addr} {l2 l3 : Nat} (h : ScL0 w l1 l2 l3) (hb : Below w.heap.size w W2) : ScL w.heap.size W2 l1 l2 l3 := by
 rcases h with h | ⟨ad, tr, h1, h2, h3, h4⟩
 ·exact Or.inl h
 ·refine Or.inr ⟨ad, tr, h1, h2, fun j x hx => ?_, h4⟩
  obtain ⟨b, off, k1, k2, k3⟩ := h3 j x hx
  exact ⟨b, off, k1, Nat.lt_of_lt_of_le k2 hb.size, by omega, (bcell3 hb _ _ k2).trans k3⟩
theorem cell_grown {w w' : World} {lb b o : Nat} {v : Value} (hg : w.grownBy w' (some lb)) (hb : b < w.heap.size) (hne : b ≠ lb) (h : w.cell? ⟨b, o, none⟩ = some v) : w'.cell? ⟨b, o, none⟩ = some v := by
 have e := hg.block b hb (fun e => hne (Option.some.inj e))
 unfold World.cell? at h ⊢
 simp only [e]; exact h
theorem opC_kind2 (p q : Option Addr) (i : Nat) (h2 : 4 ≤ i) (h : i < 18) : ∃ kd : Int, (opC p q)[i * 7]? = some (.int .i64 kd) ∧ 3 ≤ kd := by
 have : i = 4 ∨ i = 5 ∨ i = 6 ∨ i = 7 ∨ i = 8 ∨ i = 9 ∨ i = 10 ∨ i = 11 ∨ i = 12 ∨ i = 13 ∨ i = 14 ∨ i = 15 ∨ i = 16 ∨ i = 17 := by omega
 rcases this with rfl | rfl | rfl | rfl | rfl | rfl | rfl | rfl | rfl | rfl | rfl | rfl | rfl | rfl
 all_goals exact ⟨_, rfl, by decide⟩
set_option maxHeartbeats 4000000 in
set_option maxRecDepth 100000 in
theorem plays_traces (w : World) (o : Option Addr) (n k : Nat) (hS : Sc2 w o n) (hG : GV w) (hTab : Lib.TabIs Tryz.prog w "internal/strconv.uint64pow10" .u64 Lib.pow10Tab) (hn : n ≤ 1172812402926) :
  Calls Tryz.prog 13 #[.slice o n k, .int .i64 2, .int .i64 2] w fun e w' => e = .returned (.bool true) ∧ Below w.heap.size w w' := by
 have HS := hide hS
 have HG := hide hG
 have HTAB := hide hTab
 clear hS hG hTab
 go_enter Tryz.func13, Tryz.ntmps13
 go_wp2_with (go_at_call 35; refine (opening_any _).mono ?_; rintro e w1 ⟨rfl, rfl⟩)
 have hLW : LWd ((((w.alloc (.cells #[.slice none 0 0, .int .i64 0, .slice none 0 0, .slice none 0 0, .slice none 0 0, .slice none 0 0, .slice none 0 0, .slice none 0 0, .slice none 0 0] 71)).alloc (.cells #[.string ⟨#[97]⟩, .string ⟨#[98]⟩] 9)).alloc (.cells #[.string ⟨#[99]⟩] 9)).alloc (.cells (opC (some ⟨w.heap.size + 1, 0, none⟩) (some ⟨w.heap.size + 2, 0, none⟩)) 74)) w.heap.size (.slice none 0 0) 0 (.slice none 0 0) (.slice none 0 0) (.slice none 0 0) (.slice none 0 0) (.slice none 0 0) (.slice none 0 0) (.slice none 0 0) := (Below.heap_alloc _ _ _ (by simp; omega)).trans ((Below.heap_alloc _ _ _ (by simp; omega)).trans ((Below.heap_alloc _ _ _ (by simp)).trans (blk_alloc _ _)))
 have hP : ((((w.alloc (.cells #[.slice none 0 0, .int .i64 0, .slice none 0 0, .slice none 0 0, .slice none 0 0, .slice none 0 0, .slice none 0 0, .slice none 0 0, .slice none 0 0] 71)).alloc (.cells #[.string ⟨#[97]⟩, .string ⟨#[98]⟩] 9)).alloc (.cells #[.string ⟨#[99]⟩] 9)).alloc (.cells (opC (some ⟨w.heap.size + 1, 0, none⟩) (some ⟨w.heap.size + 2, 0, none⟩)) 74)).heap[w.heap.size + 1]? = some (.cells #[.string ⟨#[97]⟩, .string ⟨#[98]⟩] 9 (0, 0)) := (Below.heap_alloc _ _ _ (by first | (simp; done) | (simp; omega))).trans ((Below.heap_alloc _ _ _ (by first | (simp; done) | (simp; omega))).trans (blk_alloc' _ _ _ (by simp)))
 have hQ : ((((w.alloc (.cells #[.slice none 0 0, .int .i64 0, .slice none 0 0, .slice none 0 0, .slice none 0 0, .slice none 0 0, .slice none 0 0, .slice none 0 0, .slice none 0 0] 71)).alloc (.cells #[.string ⟨#[97]⟩, .string ⟨#[98]⟩] 9)).alloc (.cells #[.string ⟨#[99]⟩] 9)).alloc (.cells (opC (some ⟨w.heap.size + 1, 0, none⟩) (some ⟨w.heap.size + 2, 0, none⟩)) 74)).heap[w.heap.size + 2]? = some (.cells #[.string ⟨#[99]⟩] 9 (0, 0)) := (Below.heap_alloc _ _ _ (by simp)).trans (blk_alloc' _ _ _ (by simp))
 have hOP : ((((w.alloc (.cells #[.slice none 0 0, .int .i64 0, .slice none 0 0, .slice none 0 0, .slice none 0 0, .slice none 0 0, .slice none 0 0, .slice none 0 0, .slice none 0 0] 71)).alloc (.cells #[.string ⟨#[97]⟩, .string ⟨#[98]⟩] 9)).alloc (.cells #[.string ⟨#[99]⟩] 9)).alloc (.cells (opC (some ⟨w.heap.size + 1, 0, none⟩) (some ⟨w.heap.size + 2, 0, none⟩)) 74)).heap[w.heap.size + 3]? = some (.cells (opC (some ⟨w.heap.size + 1, 0, none⟩) (some ⟨w.heap.size + 2, 0, none⟩)) 74 (0, 0)) := blk_alloc' _ _ _ (by simp)
 have hBE : Below w.heap.size w ((((w.alloc (.cells #[.slice none 0 0, .int .i64 0, .slice none 0 0, .slice none 0 0, .slice none 0 0, .slice none 0 0, .slice none 0 0, .slice none 0 0, .slice none 0 0] 71)).alloc (.cells #[.string ⟨#[97]⟩, .string ⟨#[98]⟩] 9)).alloc (.cells #[.string ⟨#[99]⟩] 9)).alloc (.cells (opC (some ⟨w.heap.size + 1, 0, none⟩) (some ⟨w.heap.size + 2, 0, none⟩)) 74)) := ((((Below.refl _ _).alloc (Nat.le_refl _) _).alloc (by simp) _).alloc (by simp; omega) _).alloc (by simp; omega) _
 have HLW := hide hLW
 have HPP := hide hP
 have HQQ := hide hQ
 have HOP := hide hOP
 have HBE := hide hBE
 clear hLW hP hQ hOP hBE
 generalize ((((w.alloc (.cells #[.slice none 0 0, .int .i64 0, .slice none 0 0, .slice none 0 0, .slice none 0 0, .slice none 0 0, .slice none 0 0, .slice none 0 0, .slice none 0 0] 71)).alloc (.cells #[.string ⟨#[97]⟩, .string ⟨#[98]⟩] 9)).alloc (.cells #[.string ⟨#[99]⟩] 9)).alloc (.cells (opC (some ⟨w.heap.size + 1, 0, none⟩) (some ⟨w.heap.size + 2, 0, none⟩)) 74)) = W2 at *
 have hz2 : w.heap.size + 3 < W2.heap.size := lt_of_blk (unhide HOP)
 have HGL : Hid (GL W2 w.heap.size) := by
  have hg := unhide HG
  refine ⟨hg.later (unhide HBE), tab_later (unhide HTAB) (unhide HBE), ?_, ?_, ?_, ?_⟩
  ·obtain ⟨_, _, h⟩ := hg.fs; have := lt_of_blk h; omega
  ·obtain ⟨_, _, h⟩ := hg.ws; have := lt_of_blk h; omega
  ·obtain ⟨_, _, h⟩ := hg.rs; have := lt_of_blk h; omega
  ·have := tab_lt (unhide HTAB); omega
 have HTI0 : Hid (TI W2 W2 w.heap.size 0 none 0 []) := ⟨unhide HLW, World.ownsRow_nil _ _ _ _, fun b hb => (List.not_mem_nil hb).elim, World.grownBy.refl _ _⟩
 have HL2 : Hid (ScL w.heap.size W2 (some ⟨w.heap.size + 1, 0, none⟩) 2 2) := Or.inr ⟨_, [⟨#[97]⟩, ⟨#[98]⟩], rfl, rfl, fun j x hx => by
  match j, hx with
  | 0, hx => cases hx; exact ⟨_, 0, rfl, lt_of_blk (unhide HPP), by omega, (cell_of_blk (unhide HPP) 0).trans rfl⟩
  | 1, hx => cases hx; exact ⟨_, 0, rfl, lt_of_blk (unhide HPP), by omega, (cell_of_blk (unhide HPP) 1).trans rfl⟩
  | j + 2, hx => simp at hx, by decide⟩
 have HL3 : Hid (ScL w.heap.size W2 (some ⟨w.heap.size + 2, 0, none⟩) 1 1) := Or.inr ⟨_, [⟨#[99]⟩], rfl, rfl, fun j x hx => by
  match j, hx with
  | 0, hx => cases hx; exact ⟨_, 0, rfl, lt_of_blk (unhide HQQ), by omega, (cell_of_blk (unhide HQQ) 0).trans rfl⟩
  | j + 1, hx => simp at hx, by decide⟩
 clear HLW HPP HQQ
 go_loopw [9] (fun v wr => ∃ (i tn : Nat) (to_ : Option Addr) (tc : Nat) (bs : List Bk), i ≤ 18 ∧ tn ≤ i ∧ v = .int .i64 i ∧ Hid (TI W2 wr w.heap.size tn to_ tc bs)) (fun v _ => 18 - (intOf v).toNat)
 case atStart => exact ⟨0, 0, none, 0, [], Nat.zero_le _, Nat.le_refl _, rfl, HTI0⟩
 case round =>
  clear HTI0
  obtain ⟨i, tn, to_, tc, bs, hi, hti, rfl, HTI⟩ := hrel
  have hop := ((unhide HTI).bel.block _ hz2 (fun e => by have := Option.some.inj e; omega)).trans (unhide HOP)
  have hzr : w.heap.size + 3 < wr.heap.size := lt_of_blk hop
  by_cases hlt : i < 18
  ·have h3 : i = 0 ∨ i = 1 ∨ i = 2 ∨ i = 3 ∨ 4 ≤ i := by omega
   rcases h3 with rfl | rfl | rfl | rfl | h3
   ·have c0 : wr.cell? ⟨w.heap.size + 3, 0, none⟩ = some (.int .i64 1) := (cell_of_blk hop 0).trans rfl
    clear hop
    go_wp2_with fail
    go_roundw
    case rel => exact ⟨1, tn, to_, tc, bs, by omega, by omega, by go_num, HTI⟩
    case measure => simp [intOf]
   ·have c0 : wr.cell? ⟨w.heap.size + 3, 7, none⟩ = some (.int .i64 1) := (cell_of_blk hop 7).trans rfl
    clear hop
    go_wp2_with fail
    go_roundw
    case rel => exact ⟨2, tn, to_, tc, bs, by omega, by omega, by go_num, HTI⟩
    case measure => simp [intOf]
   ·have c0 : wr.cell? ⟨w.heap.size + 3, 14, none⟩ = some (.int .i64 2) := (cell_of_blk hop 14).trans rfl
    have c1 : wr.cell? ⟨w.heap.size + 3, 15, none⟩ = some (.int .i64 0) := (cell_of_blk hop 15).trans rfl
    have c2 : wr.cell? ⟨w.heap.size + 3, 16, none⟩ = some (.string ⟨#[97, 99, 116, 115, 32, 97, 44, 98, 59, 114, 117, 108, 101, 32, 114, 101, 115, 112, 111, 110, 115, 101, 40, 97, 44, 98, 41, 59]⟩) := (cell_of_blk hop 16).trans rfl
    have c3 : wr.cell? ⟨w.heap.size + 3, 17, none⟩ = some (.string ⟨#[]⟩) := (cell_of_blk hop 17).trans rfl
    have c4 : wr.cell? ⟨w.heap.size + 3, 18, none⟩ = some (.slice (some ⟨w.heap.size + 1, 0, none⟩) 2 2) := (cell_of_blk hop 18).trans rfl
    have c5 : wr.cell? ⟨w.heap.size + 3, 19, none⟩ = some (.slice none 0 0) := (cell_of_blk hop 19).trans rfl
    have c6 : wr.cell? ⟨w.heap.size + 3, 20, none⟩ = some (.slice none 0 0) := (cell_of_blk hop 20).trans rfl
    have HST := hide (step_h W2 wr w.heap.size tn to_ tc bs (unhide HTI) (unhide HGL) 0 ⟨#[97, 99, 116, 115, 32, 97, 44, 98, 59, 114, 117, 108, 101, 32, 114, 101, 115, 112, 111, 110, 115, 101, 40, 97, 44, 98, 41, 59]⟩ ⟨#[]⟩ (some ⟨w.heap.size + 1, 0, none⟩) 2 2 none 0 0 none 0 0 (unhide HL2) (by omega))
    clear hop
    go_wp2_with fail
    refine (unhide HST).mono ?_
    rintro e w3 ⟨rfl, tn', to', tc', bs', htn', hTI'⟩
    have HTI' := hide hTI'
    clear hTI' HST
    go_wp2_with fail
    go_roundw
    case rel => exact ⟨3, tn', to', tc', bs', by omega, by omega, by go_num, HTI'⟩
    case measure => simp [intOf]
   ·have c0 : wr.cell? ⟨w.heap.size + 3, 21, none⟩ = some (.int .i64 2) := (cell_of_blk hop 21).trans rfl
    have c1 : wr.cell? ⟨w.heap.size + 3, 22, none⟩ = some (.int .i64 0) := (cell_of_blk hop 22).trans rfl
    have c2 : wr.cell? ⟨w.heap.size + 3, 23, none⟩ = some (.string ⟨#[97, 99, 116, 115, 32, 97, 44, 98, 59, 114, 117, 108, 101, 32, 114, 101, 115, 112, 111, 110, 115, 101, 40, 97, 44, 98, 41, 59]⟩) := (cell_of_blk hop 23).trans rfl
    have c3 : wr.cell? ⟨w.heap.size + 3, 24, none⟩ = some (.string ⟨#[]⟩) := (cell_of_blk hop 24).trans rfl
    have c4 : wr.cell? ⟨w.heap.size + 3, 25, none⟩ = some (.slice (some ⟨w.heap.size + 2, 0, none⟩) 1 1) := (cell_of_blk hop 25).trans rfl
    have c5 : wr.cell? ⟨w.heap.size + 3, 26, none⟩ = some (.slice none 0 0) := (cell_of_blk hop 26).trans rfl
    have c6 : wr.cell? ⟨w.heap.size + 3, 27, none⟩ = some (.slice none 0 0) := (cell_of_blk hop 27).trans rfl
    have HST := hide (step_h W2 wr w.heap.size tn to_ tc bs (unhide HTI) (unhide HGL) 0 ⟨#[97, 99, 116, 115, 32, 97, 44, 98, 59, 114, 117, 108, 101, 32, 114, 101, 115, 112, 111, 110, 115, 101, 40, 97, 44, 98, 41, 59]⟩ ⟨#[]⟩ (some ⟨w.heap.size + 2, 0, none⟩) 1 1 none 0 0 none 0 0 (unhide HL3) (by omega))
    clear hop
    go_wp2_with fail
    refine (unhide HST).mono ?_
    rintro e w3 ⟨rfl, tn', to', tc', bs', htn', hTI'⟩
    have HTI' := hide hTI'
    clear hTI' HST
    go_wp2_with fail
    go_roundw
    case rel => exact ⟨4, tn', to', tc', bs', by omega, by omega, by go_num, HTI'⟩
    case measure => simp [intOf]
   ·obtain ⟨kd, hk1, hk2⟩ := opC_kind2 (some ⟨w.heap.size + 1, 0, none⟩) (some ⟨w.heap.size + 2, 0, none⟩) i h3 hlt
    have c0 : wr.cell? ⟨w.heap.size + 3, i * 7, none⟩ = some (.int .i64 kd) := (cell_of_blk hop (i * 7)).trans hk1
    have hk3 : (2 : Int) ≤ kd := by omega
    have hk4 : ¬ kd ≤ (2 : Int) := by omega
    clear hop hk1
    go_wp2_with fail
    go_roundw
    case rel => exact ⟨i + 1, tn, to_, tc, bs, by omega, by omega, by go_num, HTI⟩
    case measure => simp [intOf]; omega
  ·have hie : ¬ ((i : Int) < 18) := by omega
   have htn18 : tn ≤ 18 := by omega
   clear hop hlt hi hzr hti HOP HL2 HL3
   go_wp2_with fail
   go_loopw [11] (fun v wq => ∃ (i tn : Nat) (to_ : Option Addr) (tc : Nat) (bs : List Bk), i ≤ n ∧ i ≤ 1152921504606846976 ∧ tn ≤ 18 + i ∧ v = .int .i64 i ∧ Hid (TI W2 wq w.heap.size tn to_ tc bs)) (fun v _ => n - (intOf v).toNat)
   case atStart => exact ⟨0, tn, to_, tc, bs, Nat.zero_le _, by decide, by omega, rfl, HTI⟩
   case round =>
    clear HTI htn18
    obtain ⟨i, tn, to_, tc, bs, hi, him, hti, rfl, HTI⟩ := hrel
    have hzr : w.heap.size < wr.heap.size := lt_of_blk (unhide HTI).lw
    by_cases hlt : i < n ∧ i < 1152921504606846976
    ·obtain ⟨b, off, hob, hlb, kd, oa, os, ot, l1, l2, l3, f1, f2, f3, m1, m2, m3, hL, d0, d1, d2, d3, d4, d5, d6⟩ := (unhide HS) i hlt.1
     subst hob
     have hbW : b < W2.heap.size := Nat.lt_of_lt_of_le hlb (unhide HBE).size
     have cc : ∀ {o : Nat} {v : Value}, w.cell? ⟨b, o, none⟩ = some v → wr.cell? ⟨b, o, none⟩ = some v := fun h => cell_grown (unhide HTI).bel hbW (by omega) ((bcell3 (unhide HBE) _ _ hlb).trans h)
     have c0 := cc d0
     have c1 := cc d1
     have c2 := cc d2
     have c3 := cc d3
     have c4 := cc d4
     have c5 := cc d5
     have c6 := cc d6
     have HSL := hide (hL.to (unhide HBE))
     have hin : (i : Int) < 1152921504606846976 := by omega
     have hin2 : (i : Int) < (n : Int) := by omega
     have hbr : b < wr.heap.size := Nat.lt_of_lt_of_le hbW (unhide HTI).bel.size
     clear d0 d1 d2 d3 d4 d5 d6 hL cc
     have HTA := hide ((unhide HTI).later ((Below.refl wr.heap.size wr).alloc (Nat.le_refl _) (.cells #[.int .i64 kd, .int .i64 oa, .string os, .string ot, .slice l1 l2 l3, .slice f1 f2 f3, .slice m1 m2 m3] 74)))
     by_cases hk : kd = 2
     ·subst hk
      have HST := hide (step_h W2 _ w.heap.size tn to_ tc bs (unhide HTA) (unhide HGL) oa os ot l1 l2 l3 f1 f2 f3 m1 m2 m3 (unhide HSL) (by omega))
      go_wp2_with fail
      refine (unhide HST).mono ?_
      rintro e w3 ⟨rfl, tn', to', tc', bs', htn', hTI'⟩
      have HTI' := hide hTI'
      clear hTI' HST HTA HTI c0 c1 c2 c3 c4 c5 c6
      have h3 : (i : Int).tmod 3 = 0 ∨ (i : Int).tmod 3 = 1 ∨ (i : Int).tmod 3 = 2 := by rw [Int.tmod_eq_emod_of_nonneg (by omega)]; omega
      rcases h3 with hm | hm | hm
      ·go_wp2_with fail
       refine (looks_texts _ _ _ _ _ _ _ (unhide HTI') (by omega)).mono ?_
       rintro e w5 ⟨rfl, hb5⟩
       have HTI5 := hide ((unhide HTI').later hb5)
       clear hb5
       go_wp2_with fail
       go_roundw
       case rel => exact ⟨i + 1, tn', to', tc', bs', by omega, by omega, by omega, by go_num, HTI5⟩
       case measure => simp [intOf]; omega
      ·go_wp2_with fail
       refine (looks_texts _ _ _ _ _ _ _ (unhide HTI') (by omega)).mono ?_
       rintro e w5 ⟨rfl, hb5⟩
       have HTI5 := hide ((unhide HTI').later hb5)
       clear hb5
       go_wp2_with fail
       go_roundw
       case rel => exact ⟨i + 1, tn', to', tc', bs', by omega, by omega, by omega, by go_num, HTI5⟩
       case measure => simp [intOf]; omega
      ·go_wp2_with fail
       refine (settle_texts _ _ _ _ _ _ _ (unhide HTI').lw).mono ?_
       rintro e w4 ⟨rfl, hlw4, hg4⟩
       have HTI4 := hide ((unhide HTI').settle hlw4 hg4)
       clear hlw4 hg4
       go_wp2_with fail
       refine (looks_texts _ _ _ _ _ _ _ (unhide HTI4) (by omega)).mono ?_
       rintro e w5 ⟨rfl, hb5⟩
       have HTI5 := hide ((unhide HTI4).later hb5)
       clear hb5
       go_wp2_with fail
       go_roundw
       case rel => exact ⟨i + 1, tn', to', tc', bs', by omega, by omega, by omega, by go_num, HTI5⟩
       case measure => simp [intOf]; omega
     ·by_cases hk1 : kd < 2
      ·go_wp2_with fail
       go_roundw
       case rel => exact ⟨i + 1, tn, to_, tc, bs, by omega, by omega, by omega, by go_num, HTA⟩
       case measure => simp [intOf]; omega
      ·have hk2 : (2 : Int) < kd := by omega
       go_wp2_with fail
       go_roundw
       case rel => exact ⟨i + 1, tn, to_, tc, bs, by omega, by omega, by omega, by go_num, HTA⟩
       case measure => simp [intOf]; omega
    ·by_cases hln : i < n
     ·have hin : ¬ ((i : Int) < 1152921504606846976) := by omega
      have hin2 : (i : Int) < (n : Int) := by omega
      clear hlt
      go_wp2_with fail
      refine (settle_texts _ _ _ _ _ _ _ (unhide HTI).lw).mono ?_
      rintro e w4 ⟨rfl, hlw4, hg4⟩
      have HTI4 := hide ((unhide HTI).settle hlw4 hg4)
      clear hlw4 hg4
      go_wp2_with fail
      refine (looks_texts _ _ _ _ _ _ _ (unhide HTI4) (by omega)).mono ?_
      rintro e w5 ⟨rfl, hb5⟩
      have HTI5 := hide ((unhide HTI4).later hb5)
      clear hb5
      go_wp2_with fail
      go_ret
      exact ⟨rfl, (unhide HBE).grown (unhide HTI5).bel (unhide HBE).size (fun b hb => by have := Option.some.inj hb; omega)⟩
     ·have hin2 : ¬ ((i : Int) < (n : Int)) := by omega
      clear hlt
      go_wp2_with fail
      refine (settle_texts _ _ _ _ _ _ _ (unhide HTI).lw).mono ?_
      rintro e w4 ⟨rfl, hlw4, hg4⟩
      have HTI4 := hide ((unhide HTI).settle hlw4 hg4)
      clear hlw4 hg4
      go_wp2_with fail
      refine (looks_texts _ _ _ _ _ _ _ (unhide HTI4) (by omega)).mono ?_
      rintro e w5 ⟨rfl, hb5⟩
      have HTI5 := hide ((unhide HTI4).later hb5)
      clear hb5
      go_wp2_with fail
      go_ret
      exact ⟨rfl, (unhide HBE).grown (unhide HTI5).bel (unhide HBE).size (fun b hb => by have := Option.some.inj hb; omega)⟩
set_option maxHeartbeats 1000000 in
theorem Traces_any (w : World) (o : Option Addr) (n k : Nat) (hS : Sc2 w o n) (hG : GV w) (hTab : Lib.TabIs Tryz.prog w "internal/strconv.uint64pow10" .u64 Lib.pow10Tab) (hn : n ≤ 1172812402926) :
  Calls Tryz.prog 4 #[.slice o n k] w fun e w' => e = .returned (.bool true) ∧ Below w.heap.size w w' := by
 have HPL := hide (plays_traces w o n k hS hG hTab hn)
 clear hS hG hTab
 go_enter Tryz.func4, Tryz.ntmps4
 go_wp2_with fail
 refine (unhide HPL).mono ?_
 rintro e w1 ⟨rfl, hb⟩
 have HB := hide hb
 clear hb
 go_wp2_with fail
 go_ret
 exact ⟨rfl, unhide HB⟩
end Go.Proofs.YtidakhhekofkoaaGreatDoor
