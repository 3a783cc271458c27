/- The law's world through a script of traces; its step Holds. -/
import Derived.Test.YtidakhhekofkoaaGreatDoorG43
import Derived.Test.YtidakhhekofkoaaGreatDoorG39
set_option linter.unusedSimpArgs false
set_option linter.unusedVariables false
namespace Go.Proofs.YtidakhhekofkoaaGreatDoor
open Go.RowKit Go.Deep
structure Bk where
 mr : ByteArray
 l : Value
 g1 : Value
 g2 : Value
 g3 : Value
def bkC (b : Bk) : List Value := [.string b.mr, b.l, b.g1, b.g2, b.g3]
def bksC (bs : List Bk) : List Value := bs.flatMap bkC
theorem bksC_snoc (bs : List Bk) (b : Bk) : bksC (bs ++ [b]) = bksC bs ++ [.string b.mr, b.l, b.g1, b.g2, b.g3] := by simp [bksC, bkC]
structure BkOk (w : World) (b : Bk) : Prop where
 l : AllM w b.l (.string b.mr) 9
 g1 : AllM w b.g1 (.string b.mr) 9
 g2 : AllM w b.g2 (.string b.mr) 9
 g3 : AllM w b.g3 (.string b.mr) 9
theorem AllM.keep {w w' : World} {l v : Value} {e : Nat} (h : AllM w l v e) (hk : ∀ b, TyAt w b e → w'.heap[b]? = w.heap[b]?) : AllM w' l v e := by
 obtain ⟨o, n, c, h1, h2, h3⟩ := h
 refine ⟨o, n, c, h1, h2, fun i hi => ?_⟩
 obtain ⟨b, h4, h5, h6⟩ := h3 i hi
 have e := hk b h5
 refine ⟨b, h4, ?_, ?_⟩
 ·obtain ⟨cc, m, hc⟩ := h5; exact ⟨cc, m, e.trans hc⟩
 ·unfold World.cell? at h6 ⊢
  simp only [e]; exact h6
theorem BkOk.keep {w w' : World} {b : Bk} (h : BkOk w b) (hk : ∀ b, TyAt w b 9 → w'.heap[b]? = w.heap[b]?) : BkOk w' b := ⟨h.l.keep hk, h.g1.keep hk, h.g2.keep hk, h.g3.keep hk⟩
theorem BkOk.later {w w' : World} {b : Bk} (h : BkOk w b) (hb : Below w.heap.size w w') : BkOk w' b := h.keep (fun b ⟨_, _, hc⟩ => hb.block b (lt_of_blk hc))
structure TI (w0 w : World) (lb tn : Nat) (to_ : Option Addr) (tc : Nat) (bs : List Bk) : Prop where
 lw : LWd w lb (.slice none 0 0) tn (.slice to_ tn tc) (.slice none 0 0) (.slice none 0 0) (.slice none 0 0) (.slice none 0 0) (.slice none 0 0) (.slice none 0 0)
 bk : w.ownsRow w0.heap.size 118 5 (.slice to_ tn tc) tn (bksC bs)
 ok : ∀ b ∈ bs, BkOk w b
 bel : w0.grownBy w (some lb)
theorem TI.later {w0 w w' : World} {lb tn : Nat} {to_ : Option Addr} {tc : Nat} {bs : List Bk} (h : TI w0 w lb tn to_ tc bs) (hb : Below w.heap.size w w') : TI w0 w' lb tn to_ tc bs :=
 ⟨(hb.block _ (lt_of_blk h.lw)).trans h.lw, owns_later h.bk hb, fun b hb' => (h.ok b hb').later hb, h.bel.trans (grown_below hb _)⟩
theorem TI.mark {w0 wS w1 w' : World} {lb tn : Nat} {to_ : Option Addr} {tc : Nat} {bs : List Bk} {g N c : Nat} {e : Ending} (h : TI w0 wS lb tn to_ tc bs) (hb : Below wS.heap.size wS w1) (hg : wS.heap.size ≤ g)
  (hp : MkPost w1 lb (.slice none 0 0) tn to_ tn tc (.slice none 0 0) (.slice none 0 0) (.slice none 0 0) (.slice none 0 0) (.slice none 0 0) (.slice none 0 0) (bksC bs) w0.heap.size (.slice (some ⟨g, 0, none⟩) N c) w' e) :
  ∃ to' tc' b, TI w0 w' lb (tn + 1) to' tc' (bs ++ [b]) ∧ b.mr = mkB (tn + 1) ∧ b.l = .slice (some ⟨g, 0, none⟩) N c ∧ FrM lb (.slice (some ⟨g, 0, none⟩) N c) (.slice to_ tn tc) w1 w' := by
 obtain ⟨_, to', tc', G1, G2, G3, h1, h2, h3, h4, h5, h6, hf⟩ := hp
 have hI := h.later hb
 refine ⟨to', tc', ⟨mkB (tn + 1), .slice (some ⟨g, 0, none⟩) N c, G1, G2, G3⟩, ⟨h1, by rw [bksC_snoc]; exact h2, fun b hb' => ?_, ?_⟩, rfl, rfl, hf⟩
 ·rcases List.mem_append.1 hb' with hb' | hb'
  ·refine (h.ok b hb').keep (fun x hx => ?_)
   obtain ⟨cc, m, hc⟩ := hx
   have hlt := lt_of_blk hc
   have hc1 : w1.heap[x]? = some (.cells cc 9 m) := (hb.block x hlt).trans hc
   refine (hf.block x (Nat.lt_of_lt_of_le hlt hb.size) ?_ ?_ ?_).trans (hb.block x hlt)
   ·rintro rfl
    have := hI.lw
    unfold LWd at this
    rw [hc1] at this; cases this
   ·intro e; have e' : g = x := Option.some.inj e; omega
   ·exact fun e => own_ty hI.bk e hc1 (by decide)
  ·rcases List.mem_singleton.1 hb' with rfl
   exact ⟨h3, h4, h5, h6⟩
 ·have hI0 := hI.bel
  refine ⟨hf.os.trans hI0.os, hf.tape.trans hI0.tape, hf.output.trans hI0.output, Nat.le_trans hI0.size hf.size, fun x hx hne => ?_⟩
  refine (hf.block x (Nat.lt_of_lt_of_le hx hI0.size) (fun e => hne (by rw [e])) ?_ ?_).trans (hI0.block x hx hne)
  ·intro e; have e' : g = x := Option.some.inj e; have := h.bel.size; omega
  ·intro e; have := (own_lt hI.bk _ e).1; omega
theorem tab_lt {w : World} (h : Lib.TabIs Tryz.prog w "internal/strconv.uint64pow10" .u64 Lib.pow10Tab) : 4 < w.heap.size := by
 unfold Lib.TabIs World.var? at h
 rw [tab_glob] at h
 simp only [Option.bind_some] at h
 split at h
 ·rename_i c t m e; exact lt_of_blk e
 ·cases h
theorem tab_later {w w' : World} (h : Lib.TabIs Tryz.prog w "internal/strconv.uint64pow10" .u64 Lib.pow10Tab) (hb : Below w.heap.size w w') : Lib.TabIs Tryz.prog w' "internal/strconv.uint64pow10" .u64 Lib.pow10Tab := tab_same h (hb.block _ (tab_lt h))
structure GL (w0 : World) (lb : Nat) : Prop where
 gv : GV w0
 tab : Lib.TabIs Tryz.prog w0 "internal/strconv.uint64pow10" .u64 Lib.pow10Tab
 n1 : 0 ≠ lb
 n2 : 2 ≠ lb
 n3 : 1 ≠ lb
 n4 : 4 ≠ lb
theorem GL.gvL {w0 w : World} {lb : Nat} (h : GL w0 lb) (hb : w0.grownBy w (some lb)) : GV w := by
 obtain ⟨⟨t1, m1, h1⟩, ⟨t2, m2, h2⟩, ⟨t3, m3, h3⟩⟩ := h.gv
 exact ⟨⟨t1, m1, (hb.block _ (lt_of_blk h1) (fun e => h.n1 (Option.some.inj e))).trans h1⟩, ⟨t2, m2, (hb.block _ (lt_of_blk h2) (fun e => h.n2 (Option.some.inj e))).trans h2⟩, ⟨t3, m3, (hb.block _ (lt_of_blk h3) (fun e => h.n3 (Option.some.inj e))).trans h3⟩⟩
theorem GL.tabL {w0 w : World} {lb : Nat} (h : GL w0 lb) (hb : w0.grownBy w (some lb)) : Lib.TabIs Tryz.prog w "internal/strconv.uint64pow10" .u64 Lib.pow10Tab := tab_same h.tab (hb.block _ (tab_lt h.tab) (fun e => h.n4 (Option.some.inj e)))
theorem Holds_n (s : ByteArray) (tr : List ByteArray) (n : Nat) (hl : tr.length = n) (w : World) (tt : Option Addr) (tc : Nat) (hG : GV w) (hT : TxS w tt tr) (hn : n ≤ 10000000000000) :
  Calls Tryz.prog 16 #[.string s, .slice tt n tc] w fun e w' => e = .returned (.tuple #[.bool (holdsM s tr).1, .int .i64 (holdsM s tr).2]) ∧ Below w.heap.size w w' := by
 subst hl; exact Holds_any s tr w tt tc hG hT hn
theorem HoldsRef_n (s : ByteArray) (tr : List ByteArray) (n : Nat) (hl : tr.length = n) (w : World) (tt : Option Addr) (tc : Nat) (hT : TxS w tt tr) (hn : n ≤ 10000000000000) :
  Calls Tryz.prog 95 #[.string s, .slice tt n tc] w fun e w' => e = .returned (.tuple #[.bool (holdsM s tr).1, .int .i64 (holdsM s tr).2]) ∧ Below w.heap.size w w' := by
 subst hl; exact HoldsRef_any s tr w tt tc hT hn
theorem AllM.txs {w : World} {g N c n : Nat} {mk : ByteArray} (h : AllM w (.slice (some ⟨g, 0, none⟩) N c) (.string mk) 9) (hn : n ≤ N) : TxS w (some ⟨g, 0, none⟩) (List.replicate n mk) := by
 intro j x hx
 rw [List.getElem?_replicate] at hx
 split at hx
 ·rename_i hj
  cases hx
  obtain ⟨o, n', c', h1, _, h3⟩ := h
  cases h1
  obtain ⟨b, h4, ⟨_, _, h5⟩, h6⟩ := h3 j (by omega)
  cases h4
  exact ⟨g, 0, rfl, lt_of_blk h5, by rw [Nat.zero_add]; exact h6⟩
 ·cases hx
theorem TxS.owns {w : World} {base n : Nat} {o : Option Addr} {c : Nat} {mk : ByteArray} (h : w.ownsRow base 9 1 (.slice o n c) n (List.replicate n (.string mk))) : TxS w o (List.replicate n mk) := by
 intro j x hx
 rw [List.getElem?_replicate] at hx
 split at hx
 ·rename_i hj
  cases hx
  obtain ⟨g, h1, h2, h3⟩ := owns1_at h hj
  exact ⟨g, 0, h1, h2, by rw [Nat.zero_add, h3, List.getElem?_replicate, if_pos hj]⟩
 ·cases hx
set_option maxHeartbeats 4000000 in
set_option maxRecDepth 100000 in
theorem models_holds (w0 w : World) (lb tn : Nat) (to_ : Option Addr) (tc : Nat) (bs : List Bk) (hI : TI w0 w lb tn to_ tc bs) (hG : GL w0 lb)
  (oa : Int) (os ot : ByteArray) (tr : List ByteArray) (ad : Addr) (c : Nat) (f1 : Option Addr) (f2 f3 : Nat) (m1 : Option Addr) (m2 m3 : Nat) (hT : TxS w (some ad) tr) (hn : tr.length ≤ 8796093021952) (htn : (tn + 1) * 112 ≤ 140737488355328) :
  Calls Tryz.prog 54 #[.pointer (some ⟨lb, 0, none⟩), (.agg #[.int .i64 2, .int .i64 oa, .string os, .string ot, .slice (some ad) tr.length c, .slice f1 f2 f3, .slice m1 m2 m3])] w fun e w' => e = .returned (.bool true) ∧ ∃ to' tc' b, TI w0 w' lb (tn + 1) to' tc' (bs ++ [b]) := by
 have hB0 : Below w.heap.size w (w.alloc (.cells #[.int .i64 2, .int .i64 oa, .string os, .string ot, .slice (some ad) tr.length c, .slice f1 f2 f3, .slice m1 m2 m3] 74)) := (Below.refl _ _).alloc (Nat.le_refl _) _
 have HI := hide hI
 have HG := hide hG
 have HT := hide (hT.later hB0)
 have HB0 := hide hB0
 have HBL := hide (blk_alloc w (.cells #[.int .i64 2, .int .i64 oa, .string os, .string ot, .slice (some ad) tr.length c, .slice f1 f2 f3, .slice m1 m2 m3] 74))
 obtain ⟨i0, hi0, hz0, hz1, hz2⟩ := info_parts infoStr
 clear hI hG hT hB0
 go_enter Tryz.func54, Tryz.ntmps54
 go_wp2_with (go_at_call 94; refine (lentTexts_any _ tr ad c (unhide HT) hn).mono ?_)
 rintro e w1 ⟨g, rfl, hg, hLB, hb1⟩
 generalize w.alloc (.cells #[.int .i64 2, .int .i64 oa, .string os, .string ot, .slice (some ad) tr.length c, .slice f1 f2 f3, .slice m1 m2 m3] 74) = W at *
 have hob := lt_of_blk (unhide HBL)
 have HB1 := hide hb1
 have hbk1 := (hb1.block _ hob).trans (unhide HBL)
 have HK1 := hide hbk1
 have bc := fun o => cell_of_blk hbk1 o
 have hol := lt_of_blk hbk1
 have HLB := hide hLB
 have HT1 := hide ((unhide HT).later hb1)
 have HBW1 := hide ((unhide HB0).trans (hb1.mono (unhide HB0).size))
 have hgw : w.heap.size ≤ g := by have := (unhide HB0).size; omega
 clear hb1 hbk1 hLB hg
 have hn13 : tr.length ≤ 10000000000000 := by omega
 go_wp2_with (go_at_call 16; refine (Holds_any os tr w1 (some ⟨g, 0, none⟩) (tr.length + 8) ((unhide HG).gvL (((unhide HI).later (unhide HBW1)).bel)) (unhide HLB).txs hn13).mono ?_)
 rintro e w2 ⟨rfl, hb2⟩
 generalize hHM : holdsM os tr = hm at *
 have HHM := hide hHM
 clear hHM
 obtain ⟨ha, he⟩ := hm
 have HB2 := hide ((unhide HBW1).trans (hb2.mono (unhide HBW1).size))
 have hbk2 := (hb2.block _ hol).trans (unhide HK1)
 have HK2 := hide hbk2
 have bc2 := fun o => cell_of_blk hbk2 o
 have hol2 := lt_of_blk hbk2
 have HT2 := hide ((unhide HT1).later hb2)
 have HLB2 := hide ((unhide HLB).later hb2)
 clear hb2 hbk2 bc HT1 HLB HB1 HK1 hol
 go_wp2_with (go_at_call 95; refine (HoldsRef_any os tr w2 (some ad) c (unhide HT2) hn13).mono ?_)
 rintro e w3 ⟨rfl, hb3⟩
 rw [unhide HHM]
 have HB3 := hide ((unhide HB2).trans (hb3.mono (unhide HB2).size))
 have hbk3 := (hb3.block _ hol2).trans (unhide HK2)
 have HK3 := hide hbk3
 have bc3 := fun o => cell_of_blk hbk3 o
 have hol3 := lt_of_blk hbk3
 have HT3 := hide ((unhide HT2).later hb3)
 have HLB3 := hide ((unhide HLB2).later hb3)
 clear hb3 hbk3 bc2 HT2 HLB2 HB2 HK2 hol2 HHM
 have HI3 := hide ((unhide HI).later (unhide HB3))
 have hlbg : lb ≠ 4 := fun e => (unhide HG).n4 e.symm
 have HWH := hide (wholeTexts_any w3 lb (.slice none 0 0) tn to_ tn tc (.slice none 0 0) (.slice none 0 0) (.slice none 0 0) (.slice none 0 0) (.slice none 0 0) (.slice none 0 0) (bksC bs) w0.heap.size g tr ad c (unhide HI3).lw (unhide HI3).bk (unhide HI3).bel.size (unhide HLB3) (unhide HT3) hn htn (by omega) ((unhide HG).tabL (unhide HI3).bel) hlbg)
 clear hlbg
 go_wp2_with (go_at_call 96; refine (unhide HWH).mono ?_)
 rintro e w4 ⟨rfl, hp⟩
 obtain ⟨to', tc', b, hI4, hbm, hbl, hfr⟩ := (unhide HI).mark (unhide HB3) hgw hp
 have hbk4 : w4.heap[w.heap.size]? = _ := (hfr.block _ hol3 (fun e => by
   have h1 := (unhide HI3).lw
   unfold LWd at h1
   have h2 := unhide HK3
   rw [e, h1] at h2; cases h2) (fun e => by
   have e' : g = w.heap.size := Option.some.inj e
   obtain ⟨cur, h1, _⟩ := (unhide HLB3).blk
   rw [e', unhide HK3] at h1; cases h1) (fun e => own_ty (unhide HI3).bk e (unhide HK3) (by decide))).trans (unhide HK3)
 have hbo := (hI4.ok b (List.mem_append_right _ (List.mem_singleton.2 rfl))).l
 rw [hbl] at hbo
 have HTX4 := hide (hbo.txs (n := tr.length) (by omega))
 have HI4 := hide hI4
 have HK4 := hide hbk4
 have bc4 := fun o => cell_of_blk hbk4 o
 have hol4 := lt_of_blk hbk4
 have HG4 := hide ((unhide HG).gvL hI4.bel)
 generalize hmr : b.mr = mk at *
 clear hmr hbm hbl hfr hp hbo hI4 hbk4 bc3 HWH HLB3 HT3 HI3 HK3 HB3
 go_wp2_with (at_builtin; go_must (refine wpList_append_own _ rfl _ _ 25 rfl w4.heap.size 9 i0 (.string ⟨#[]⟩) 1 16 Tryz.underlying25 hi0 hz0 hz1 hz2 rfl (by decide) (.slice none 0 0) 0 [] rfl (World.ownsRow_nil _ _ _ _) ⟨g, 0, none⟩ tr.length (tr.length + 8) (List.replicate tr.length (.string mk)) rfl (by simp) ?e1 ?e2 ?e3 ?e4 (Nat.le_refl _) ?_))
 case e1 =>
  intro j u hj
  rw [List.getElem?_replicate] at hj
  split at hj
  ·rename_i hjn
   cases hj
   obtain ⟨b', off', h1, _, h3⟩ := unhide HTX4 j mk (by rw [List.getElem?_replicate, if_pos hjn])
   cases h1
   rw [Addr.add_lit]; exact h3
  ·cases hj
 case e2 => intro u hu; rw [List.mem_replicate] at hu; rw [hu.2]; rfl
 case e3 => unfold maxLen; omega
 case e4 => omega
 intro v5 w5 hown5 hgrow5 _
 obtain ⟨o5, k5, rfl⟩ := owns_val hown5
 have hb5 : Below w4.heap.size w4 w5 := ⟨hgrow5.os, hgrow5.tape, hgrow5.output, hgrow5.size, fun x hx => hgrow5.block x hx (by intro e; cases e)⟩
 have HTX5 := hide ((unhide HTX4).later hb5)
 have HTU5 := hide (TxS.owns hown5)
 have HB5 := hide hb5
 have hbk5 := (hb5.block _ hol4).trans (unhide HK4)
 have HK5 := hide hbk5
 have bc5 := fun o => cell_of_blk hbk5 o
 have hol5 := lt_of_blk hbk5
 have HG5 := hide ((unhide HG4).later hb5)
 clear hown5 hgrow5 hb5 hbk5 bc4
 go_wp2_with (go_at_call 16; refine (Holds_n os (List.replicate tr.length mk) tr.length (by simp) w5 _ _ (unhide HG5) (unhide HTX5) hn13).mono ?_)
 rintro e w6 ⟨rfl, hb6⟩
 generalize hHM : holdsM os (List.replicate tr.length mk) = hm2 at *
 have HHM := hide hHM
 clear hHM
 obtain ⟨ha2, he2⟩ := hm2
 have HB6 := hide ((unhide HB5).trans (hb6.mono (unhide HB5).size))
 have hbk6 := (hb6.block _ hol5).trans (unhide HK5)
 have bc6 := fun o => cell_of_blk hbk6 o
 have hol6 := lt_of_blk hbk6
 have HTU6 := hide ((unhide HTU5).later hb6)
 clear hb6 hbk6 bc5
 go_wp2_with (go_at_call 95; refine (HoldsRef_n os (List.replicate tr.length mk) tr.length (by simp) w6 _ _ (unhide HTU6) hn13).mono ?_)
 rintro e w7 ⟨rfl, hb7⟩
 rw [unhide HHM]
 have HI7 := hide ((unhide HI4).later ((unhide HB6).trans (hb7.mono (unhide HB6).size)))
 clear hb7 bc6
 go_wp2_with (go_at_call 93; refine (num_any _ _).mono ?_; rintro e w8 ⟨rfl, rfl⟩)
 go_ret
 exact ⟨ret_bool (by simp), _, _, _, unhide HI7⟩
end Go.Proofs.YtidakhhekofkoaaGreatDoor
