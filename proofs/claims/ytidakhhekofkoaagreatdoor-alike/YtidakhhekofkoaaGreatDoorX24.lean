/- The program's rule. -/
import Derived.Test.YtidakhhekofkoaaGreatDoorX23
set_option linter.unusedSimpArgs false
namespace Go.Proofs.YtidakhhekofkoaaGreatDoor
open Go.RowKit Go.Deep
def KQ (w w' : World) : Prop := ∀ (b : Nat) (c : Array Value) (ty : Nat) (m : Nat × Nat), w.heap[b]? = some (.cells c ty m) → (ty = 201 ∨ ty = 259 ∨ ty = 270) → w'.heap[b]? = some (.cells c ty m)
theorem KQ.trans {w w1 w2 : World} (h : KQ w w1) (h' : KQ w1 w2) : KQ w w2 := fun b c ty m hb ht => h' b c ty m (h b c ty m hb ht) ht
theorem KQ.below {w w' : World} (h : Below w.heap.size w w') : KQ w w' := fun b _ _ _ hb _ => (h.block b (lt_of_blk hb)).trans hb
theorem KQ.grown {w w' : World} {row : Option Nat} (h : w.grownBy w' row) (hr : ∀ k, row = some k → ¬ TyAt w k 201 ∧ ¬ TyAt w k 259 ∧ ¬ TyAt w k 270) : KQ w w' := fun b c ty m hb ht =>
 (h.block b (lt_of_blk hb) (by
  intro e
  obtain ⟨h1, h2, h3⟩ := hr b e.symm
  rcases ht with rfl | rfl | rfl
  ·exact h1 ⟨c, m, hb⟩
  ·exact h2 ⟨c, m, hb⟩
  ·exact h3 ⟨c, m, hb⟩)).trans hb
theorem ty_ne {w : World} {b ty ty' : Nat} {c : Array Value} {m : Nat × Nat} (h : w.heap[b]? = some (.cells c ty m)) (hne : ty ≠ ty') : ¬ TyAt w b ty' := by
 rintro ⟨c', m', h'⟩
 rw [h] at h'
 injection h' with h'
 injection h' with _ e _
 exact hne e
theorem KQ.set {w : World} {b ty : Nat} {c : Array Value} {m : Nat × Nat} (hb : w.heap[b]? = some (.cells c ty m)) (h1 : ty ≠ 201) (h2 : ty ≠ 259) (h3 : ty ≠ 270) (o : Nat) (v : Value) : KQ w (w.setCell ⟨b, o, none⟩ v) :=
 KQ.grown (grown_set w b o v) (fun k e => by cases e; exact ⟨ty_ne hb h1, ty_ne hb h2, ty_ne hb h3⟩)
theorem KQ.owns {w w' : World} (h : KQ w w') {base size n : Nat} {v : Value} {xs : List Value} (ho : w.ownsRow base 201 size v n xs) : w'.ownsRow base 201 size v n xs := by
 obtain ⟨h1, h2⟩ := ho
 refine ⟨h1, ?_⟩
 rcases h2 with h2 | ⟨g, cap, cur, hv, hg, hh, r⟩
 ·exact Or.inl h2
 ·exact Or.inr ⟨g, cap, cur, hv, hg, h _ _ _ _ hh (Or.inl rfl), r⟩
theorem KQ.isG {w w' : World} (h : KQ w w') {f : Fm} {v : Option Addr} (hf : IsG w f v) : IsG w' f v :=
 hf.keep (fun b c m hb => (h b c _ m hb (Or.inr (Or.inr rfl))).trans hb.symm)
def RsIs (w : World) (r : Rl) (fp no : Option Addr) (nn nc : Nat) (cp : Option Addr) : Prop :=
 if r.call = true then (∃ cb ao an ac x, cp = some ⟨cb, 0, none⟩ ∧ w.heap[cb]? = some (cbl r.word ao an ac x) ∧ x.p = r.fin ∧ w.ownsRow 0 201 3 (.slice ao an ac) r.args.length (tkCellsP r.args)) ∧ no = none ∧ nn = 0 ∧ nc = 0 ∧ fp = none
 else cp = none ∧ IsG w r.f fp ∧ w.ownsRow 0 201 3 (.slice no nn nc) (lvs r.f).length (tkCellsP (lvs r.f))
theorem RsIs.keep {w w' : World} (h : KQ w w') {r : Rl} {fp no : Option Addr} {nn nc : Nat} {cp : Option Addr} (hr : RsIs w r fp no nn nc cp) : RsIs w' r fp no nn nc cp := by
 unfold RsIs at hr ⊢
 by_cases hc : r.call = true
 ·rw [if_pos hc] at hr ⊢
  obtain ⟨⟨cb, ao, an, ac, x, h1, h2, h3, h4⟩, h5⟩ := hr
  exact ⟨⟨cb, ao, an, ac, x, h1, h _ _ _ _ h2 (Or.inr (Or.inl rfl)), h3, h.owns h4⟩, h5⟩
 ·rw [if_neg hc] at hr ⊢
  exact ⟨hr.1, h.isG hr.2.1, h.owns hr.2.2⟩
def rbl (t : Tk) (fp no : Option Addr) (nn nc : Nat) (cp : Option Addr) : Obj :=
 .cells #[.int .i64 t.k, .string t.s, .int .i64 t.p, .pointer fp, .slice no nn nc, .pointer cp] 205 (0, 0)
def RuPost (L : List Tk) (pb g cap : Nat) (w w' : World) (t : Tk) (e : Ending) (x : Except Nat (Rl × List Tk)) : Prop :=
  w.grownBy w' (some pb) ∧ ∃ fp no nn nc cp, e = .returned (.agg #[.int .i64 t.k, .string t.s, .int .i64 t.p, .pointer fp, .slice no nn nc, .pointer cp]) ∧
    ((∃ rl l1, x = .ok (rl, l1) ∧ headK l1 = 21 ∧ RsIs w' rl fp no nn nc cp ∧ ∃ B j NM, PL L j = l1.tail ∧ PP w' pb g cap B L j false 0 NM) ∨
     (∃ rl l1, x = .ok (rl, l1) ∧ headK l1 ≠ 21 ∧ ∃ B NM, PP w' pb g cap B L (L.length - 1) true (headP l1) NM) ∨
     (∃ q, x = .error q ∧ ∃ B NM, PP w' pb g cap B L (L.length - 1) true q NM))
theorem PP.clear {w : World} {pb g cap B : Nat} {L : List Tk} {i : Nat} {bad : Bool} {q : Nat} {NM : List Tk} (h : PP w pb g cap B L i bad q NM) : PP (w.setCell ⟨pb, 3, none⟩ (.slice none 0 0)) pb g cap w.heap.size L i bad q [] := by
 obtain ⟨no, nn, nc, h1, h2⟩ := h.blk
 obtain ⟨cur, h3, h4⟩ := h.row
 exact ⟨⟨none, 0, 0, blk_set h1 3 _, World.ownsRow_nil _ _ _ _⟩, ⟨cur, (Below.heap_setCell _ _ _ _ h.ne).trans h3, h4⟩, h.le, h.capLe, h.len, h.lt, h.fe, h.ok, h.gLt, h.pLt, by simp [World.setCell], fun _ => Nat.zero_le _⟩
theorem PP.ty {w : World} {pb g cap B : Nat} {L : List Tk} {i : Nat} {bad : Bool} {q : Nat} {NM : List Tk} (h : PP w pb g cap B L i bad q NM) : ∃ c m, w.heap[pb]? = some (.cells c 194 m) := by
 obtain ⟨no, nn, nc, h1, h2⟩ := h.blk
 exact ⟨_, _, h1⟩
theorem PP.kq {w w' : World} {pb g cap B : Nat} {L : List Tk} {i : Nat} {bad : Bool} {q : Nat} {NM : List Tk} (h : PP w pb g cap B L i bad q NM) (hg : w.grownBy w' (some pb)) : KQ w w' := by
 obtain ⟨c, m, hb⟩ := h.ty
 exact KQ.grown hg (fun k e => by cases e; exact ⟨ty_ne hb (by decide), ty_ne hb (by decide), ty_ne hb (by decide)⟩)
theorem PP.setTy {w : World} {pb g cap B : Nat} {L : List Tk} {i : Nat} {bad : Bool} {q : Nat} {NM : List Tk} (h : PP w pb g cap B L i bad q NM) {c ty : Nat} {cs : Array Value} {m : Nat × Nat} (hc : w.heap[c]? = some (.cells cs ty m)) (h1 : ty ≠ 201) (h2 : ty ≠ 194) (o : Nat) (v : Value) : PP (w.setCell ⟨c, o, none⟩ v) pb g cap B L i bad q NM := by
 obtain ⟨no, nn, nc, hb, ho⟩ := h.blk
 obtain ⟨cur, h3, h4⟩ := h.row
 have hcp : pb ≠ c := by rintro rfl; rw [hb] at hc; injection hc with hc; injection hc with _ e _; exact h2 e.symm
 have hcg : g ≠ c := by rintro rfl; rw [h3] at hc; injection hc with hc; injection hc with _ e _; exact h1 e.symm
 exact ⟨⟨no, nn, nc, (Below.heap_setCell _ _ _ _ hcp).trans hb, owns_keep ho (grown_set _ _ _ _) (Or.inr (fun e => own_ty ho e hc h1))⟩, ⟨cur, (Below.heap_setCell _ _ _ _ hcg).trans h3, h4⟩, h.le, h.capLe, h.len, h.lt, h.fe, h.ok, h.gB, h.pB, by simp [World.setCell]; exact h.hB, h.nm⟩
def set6 (w : World) (b : Nat) (v0 v1 v2 v3 v4 v5 : Value) : World := (((((w.setCell ⟨b, 0, none⟩ v0).setCell ⟨b, 1, none⟩ v1).setCell ⟨b, 2, none⟩ v2).setCell ⟨b, 3, none⟩ v3).setCell ⟨b, 4, none⟩ v4).setCell ⟨b, 5, none⟩ v5
theorem PP.set6 {w : World} {pb g cap B : Nat} {L : List Tk} {i : Nat} {bad : Bool} {q : Nat} {NM : List Tk} (h : PP w pb g cap B L i bad q NM) {c ty : Nat} {cs : Array Value} {m : Nat × Nat} (hc : w.heap[c]? = some (.cells cs ty m)) (h1 : ty ≠ 201) (h2 : ty ≠ 194) (v0 v1 v2 v3 v4 v5 : Value) : PP (set6 w c v0 v1 v2 v3 v4 v5) pb g cap B L i bad q NM :=
 (((((h.setTy hc h1 h2 0 v0).setTy (blk_set hc 0 v0) h1 h2 1 v1).setTy (blk_set (blk_set hc 0 v0) 1 v1) h1 h2 2 v2).setTy (blk_set (blk_set (blk_set hc 0 v0) 1 v1) 2 v2) h1 h2 3 v3).setTy (blk_set (blk_set (blk_set (blk_set hc 0 v0) 1 v1) 2 v2) 3 v3) h1 h2 4 v4).setTy (blk_set (blk_set (blk_set (blk_set (blk_set hc 0 v0) 1 v1) 2 v2) 3 v3) 4 v4) h1 h2 5 v5
theorem KQ.set6 {w : World} {b ty : Nat} {c : Array Value} {m : Nat × Nat} (hb : w.heap[b]? = some (.cells c ty m)) (h1 : ty ≠ 201) (h2 : ty ≠ 259) (h3 : ty ≠ 270) (v0 v1 v2 v3 v4 v5 : Value) : KQ w (set6 w b v0 v1 v2 v3 v4 v5) :=
 (((((KQ.set hb h1 h2 h3 0 v0).trans (KQ.set (blk_set hb 0 v0) h1 h2 h3 1 v1)).trans (KQ.set (blk_set (blk_set hb 0 v0) 1 v1) h1 h2 h3 2 v2)).trans (KQ.set (blk_set (blk_set (blk_set hb 0 v0) 1 v1) 2 v2) h1 h2 h3 3 v3)).trans (KQ.set (blk_set (blk_set (blk_set (blk_set hb 0 v0) 1 v1) 2 v2) 3 v3) h1 h2 h3 4 v4)).trans (KQ.set (blk_set (blk_set (blk_set (blk_set (blk_set hb 0 v0) 1 v1) 2 v2) 3 v3) 4 v4) h1 h2 h3 5 v5)
theorem grown_set6 {w w' : World} {row : Option Nat} (h : w.grownBy w' row) {b : Nat} (hb : w.heap.size ≤ b) (v0 v1 v2 v3 v4 v5 : Value) : w.grownBy (set6 w' b v0 v1 v2 v3 v4 v5) row :=
 grown_setNew (grown_setNew (grown_setNew (grown_setNew (grown_setNew (grown_setNew h hb 0 v0) hb 1 v1) hb 2 v2) hb 3 v3) hb 4 v4) hb 5 v5
theorem blk_set6 {w : World} {b ty : Nat} {a0 a1 a2 a3 a4 a5 : Value} {m : Nat × Nat} (hb : w.heap[b]? = some (.cells #[a0, a1, a2, a3, a4, a5] ty m)) (v0 v1 v2 v3 v4 v5 : Value) : (set6 w b v0 v1 v2 v3 v4 v5).heap[b]? = some (.cells #[v0, v1, v2, v3, v4, v5] ty m) :=
 blk_set (blk_set (blk_set (blk_set (blk_set (blk_set hb 0 v0) 1 v1) 2 v2) 3 v3) 4 v4) 5 v5
theorem PF.from {w W w3 : World} {pb B : Nat} (hg : w.grownBy W (some pb)) (hf : PF pb B W w3) (hB : w.heap.size ≤ B) : w.grownBy w3 (some pb) :=
 ⟨hf.os.trans hg.os, hf.tape.trans hg.tape, hf.output.trans hg.output, Nat.le_trans hg.size hf.size, fun k hk hne => (hf.keep k (Nat.lt_of_lt_of_le hk hg.size) (fun e => hne (by rw [e])) (Or.inl (by omega))).trans (hg.block k hk hne)⟩
theorem ruleRead_form {l : List Tk} (h : ¬ (headK l = 2 ∧ headK l.tail = 18)) : ruleRead l = (match pf (6 * l.length + 5) 0 .nil l with | .error q => .error q | .ok (f, l1) => .ok (⟨0, false, tk0, [], 0, f⟩, l1)) := by
 unfold ruleRead; rw [if_neg h]
 cases pf (6 * l.length + 5) 0 .nil l <;> rfl
structure RuMid (L : List Tk) (pb g cap : Nat) (w wc : World) (rb vb : Nat) (t : Tk) (x : Except Nat (Rl × List Tk)) : Prop where
 gr : w.grownBy wc (some pb)
 rbx : wc.heap[rb]? = some (rbl tk0 none none 0 0 none)
 ex : ∃ fp no nn nc cp B j b q NM, wc.heap[vb]? = some (rbl t fp no nn nc cp) ∧ PP wc pb g cap B L j b q NM ∧
  ((b = false ∧ q = 0 ∧ ∃ rl, x = .ok (rl, PL L j) ∧ RsIs wc rl fp no nn nc cp) ∨ (b = true ∧ j = L.length - 1 ∧ x = .error q))
set_option maxHeartbeats 4000000 in
set_option maxRecDepth 100000 in
theorem prule_any (w : World) (pb g cap B : Nat) (L : List Tk) (i : Nat) (NM : List Tk) (t : Tk) (r : List Tk) (h : PP w pb g cap B L i false 0 NM) (ht : PL L i = t :: r) (hk : t.k = 5) :
  Calls Tryz.prog 156 #[.pointer (some ⟨pb, 0, none⟩)] w fun e w' => RuPost L pb g cap w w' t e (ruleRead r) := by
 have hp0 := h.pLt
 have hr := PL_next ht (by omega)
 have hlt1 := h.fe.nextLt ht (by omega)
 obtain ⟨t1, r1, ht1⟩ := PL_some h.fe hlt1
 have hr1 : r = t1 :: r1 := by rw [← hr]; exact ht1
 have HP := hide h
 have HT := hide ht
 have HT1 := hide ht1
 have HK := hide hk
 have HR := hide hr
 have HR1 := hide hr1
 clear h ht hk ht1 hr hr1
 go_enter Tryz.func156, Tryz.ntmps156
 go_wp2_with fail
 refine (ptake_yes 5 _ _ _ _ _ _ _ _ _ _ _ _ ((unhide HP).alloc _) (unhide HT) (unhide HK) (by decide)).mono ?_
 rintro e w1 ⟨rfl, hm1⟩
 have HM1 := hide (((Mv.refl w pb g cap L.length i false 0).alloc _).trans hm1)
 have HP1 := hide (((unhide HP).alloc _).step hm1 (unhide HT) (by have := unhide HK; omega))
 have hrb1 : w1.heap[w.heap.size]? = some (rbl tk0 none none 0 0 none) := (hm1.gr.block w.heap.size (by simp) (by simp; omega)).trans (blk_alloc _ _)
 have HRB1 := hide hrb1
 have hz1 : w.heap.size < w1.heap.size := lt_of_blk hrb1
 clear hm1 hrb1
 simp only [tkP]
 go_upto_region 2 with fail
 obtain ⟨cc, hcc⟩ : ∃ cc, cc = decide (headK r = 2 ∧ headK r.tail = 18) := ⟨_, rfl⟩
 have HCC := hide hcc
 clear hcc
 go_cut [19] (fun c wc => c = .bool cc ∧ wc = w1.alloc (.cells #[.int .i64 t.k, .string t.s, .int .i64 t.p, .pointer none, .slice none 0 0, .pointer none] 205))
 case first =>
  obtain ⟨no, nn, nc, hb1, _⟩ := (unhide HP1).blk
  have bc := fun o => cell_of_blk hb1 o
  have hpb1 := (unhide HP1).pLt
  have hg1 := (unhide HP1).gLt
  have hlen := (unhide HP1).len
  clear hb1
  by_cases hn : t1.k = 2
  ·have hlt2 := (unhide HP).fe.nextLt (unhide HT1) (by omega)
   have hnn := PL_next (unhide HT1) (by omega)
   obtain ⟨u, r2, hu⟩ := PL_some (unhide HP).fe hlt2
   have hr2 : r1 = u :: r2 := by rw [← hnn]; exact hu
   obtain ⟨r3, hr3⟩ := PL_head hu
   obtain ⟨c0, c1, c2⟩ := row_tok (unhide HP1).row hr3
   have e2 : ((t1.k : Int) == 2) = true := beqT (c := 2) hn
   have c0' : w1.cell? ⟨g, (i + 1) * 3 + 3, none⟩ = some (.int .i64 u.k) := by rw [← c0]; congr 2; omega
   have hh : headK r = 2 := by rw [unhide HR1]; exact hn
   have hh2 : headK r.tail = u.k := by rw [unhide HR1, hr2]; rfl
   have HH := hide hh
   have HH2 := hide hh2
   clear hn hnn hu hr2 hr3 hh hh2 c0 c1 c2
   go_wp2_with (go_at_call 155; refine (pnext_any _ _ _ _ _ _ _ _ _ _ _ _ ((unhide HP1).alloc _) (unhide HT1)).mono ?_; rintro e w' ⟨rfl, rfl⟩)
   go_meet
   refine ⟨?_, rfl⟩
   congr 1
   rw [unhide HCC, unhide HH, unhide HH2]
   simp only [true_and]
   rw [Bool.eq_iff_iff]
   simp
   omega
  ·have e2 : ((t1.k : Int) == 2) = false := beqF (c := 2) hn
   have hh : ¬ headK r = 2 := by rw [unhide HR1]; exact hn
   have HH := hide hh
   clear hn hh
   go_wp2_with (go_at_call 155; refine (pnext_any _ _ _ _ _ _ _ _ _ _ _ _ ((unhide HP1).alloc _) (unhide HT1)).mono ?_; rintro e w' ⟨rfl, rfl⟩)
   go_meet
   exact ⟨by rw [unhide HCC, decide_eq_false (fun e => unhide HH e.1)], rfl⟩
 case rest =>
  obtain ⟨rfl, rfl⟩ := hcut
  go_upto_if 19 with fail
  go_cut [] (fun wc => RuMid L pb g cap w wc w.heap.size w1.heap.size t (ruleRead r))
  case first =>
   by_cases hcall : headK r = 2 ∧ headK r.tail = 18
   ·have hd : cc = true := (unhide HCC).trans (decide_eq_true hcall)
    subst hd
    obtain ⟨u, v, r2, hr2, hku⟩ : ∃ u v r2, r = t1 :: u :: v :: r2 ∧ u.k = 18 := by
     have hen := PL_ends (unhide HP).fe hlt1
     rw [unhide HT1] at hen
     have h1 : t1.k = 2 := by have := hcall.1; rw [unhide HR1] at this; exact this
     obtain ⟨u, r2, hr2⟩ := Ends.more hen (by omega)
     subst hr2
     have h2 : u.k = 18 := by have := hcall.2; rw [unhide HR1] at this; exact this
     obtain ⟨v, r3, hr3⟩ := Ends.more (hen.tail (by omega)) (by omega)
     subst hr3
     exact ⟨u, v, r3, unhide HR1, h2⟩
    have hk1 : t1.k = 2 := by have := hcall.1; rw [unhide HR1] at this; exact this
    have hpl : PL L (i + 1) = t1 :: u :: v :: r2 := by rw [unhide HR]; exact hr2
    have HPL := hide hpl
    have HK1 := hide hk1
    have HKU := hide hku
    clear hcall hr2 hku hpl hk1
    go_wp2_with fail
    refine (pcall_any _ pb g cap B L (i + 1) NM t1 u v r2 ((unhide HP1).alloc _) (unhide HPL) (unhide HK1) (unhide HKU)).mono ?_
    rintro e w2 ⟨cb, args, x, j, b, q, rfl, hcbw, ⟨ao, an, ac, hcb, hown⟩, hm2, hout⟩
    have hvb2 : w2.heap[w1.heap.size]? = some (rbl t none none 0 0 none) := (hm2.gr.block w1.heap.size (by simp) (by have := (unhide HP1).pLt; simp; omega)).trans (blk_alloc _ _)
    have hrb2 : w2.heap[w.heap.size]? = some (rbl tk0 none none 0 0 none) := (hm2.gr.block w.heap.size (by simp; omega) (by simp; omega)).trans ((Below.heap_alloc _ _ _ hz1).trans (unhide HRB1))
    have HM2 := hide hm2
    have HVB2 := hide hvb2
    have HRB2 := hide hrb2
    have HCB := hide hcb
    have HOWN := hide hown
    have HOUT := hide hout
    unfold rbl at hvb2
    have vc := fun o => cell_of_blk hvb2 o
    have vf := fun o => frozen_of_blk hvb2 o
    have hvl : w1.heap.size < w2.heap.size := lt_of_blk hvb2
    clear hm2 hvb2 hrb2 hcb hown hout
    go_wp2_with fail
    go_meet
    have hj : j < L.length := by
     rcases unhide HOUT with ⟨_, _, h, _⟩ | ⟨_, h, _⟩
     ·exact h.1
     ·omega
    have hcbv : cb ≠ w1.heap.size := by simp at hcbw; omega
    have hgr : w1.grownBy w2 (some pb) := (((Mv.refl w1 pb g cap L.length (i + 1) false 0).alloc _).trans (unhide HM2)).gr
    have hkq : KQ w2 (w2.setCell ⟨w1.heap.size, 5, none⟩ (.pointer (some ⟨cb, 0, none⟩))) := KQ.set (unhide HVB2) (by decide) (by decide) (by decide) _ _
    refine ⟨grown_setNew ((unhide HM1).gr.trans hgr) (by omega) _ _, (Below.heap_setCell _ _ _ _ (by show w.heap.size ≠ w1.heap.size; omega)).trans (unhide HRB2), none, none, 0, 0, some ⟨cb, 0, none⟩, B, j, b, q, NM, blk_set (unhide HVB2) 5 _, ?_, ?_⟩
    ·refine ((unhide HP1).move (((Mv.refl w1 pb g cap L.length (i + 1) false 0).alloc _).trans (unhide HM2)) hj ?_).setTy (unhide HVB2) (by decide) (by decide) _ _
     intro e
     rcases unhide HOUT with ⟨_, _, h, _⟩ | ⟨h, _, _⟩
     ·have h1 := (unhide HP1).nm rfl
      omega
     ·rw [h] at e; cases e
    ·rcases unhide HOUT with ⟨h1, h2, _, h4⟩ | ⟨h1, h2, h3⟩
     ·refine Or.inl ⟨h1, h2, _, by rw [← unhide HR]; exact h4, ?_⟩
      refine RsIs.keep hkq ?_
      unfold RsIs
      rw [if_pos rfl]
      exact ⟨⟨cb, ao, an, ac, x, rfl, unhide HCB, rfl, owns_mono (unhide HOWN) (Nat.zero_le _)⟩, rfl, rfl, rfl, rfl⟩
     ·exact Or.inr ⟨h1, h2, by rw [← unhide HR]; exact h3⟩
   ·have hd : cc = false := (unhide HCC).trans (decide_eq_false hcall)
    subst hd
    have HRR := hide (ruleRead_form hcall)
    have hpc := (unhide HP1).clear.alloc (rbl t none none 0 0 none)
    have HPC := hide hpc
    obtain ⟨no1, nn1, nc1, hb1, _⟩ := (unhide HP1).blk
    have bc := fun o => cell_of_blk hb1 o
    have bf := fun o => frozen_of_blk hb1 o
    have hpb1 := (unhide HP1).pLt
    clear hcall hpc hb1
    go_wp2_with fail
    refine (pformula_any (6 * (PL L (i + 1)).length + 5) _ _ _ _ _ _ _ _ (unhide HPC) (Nat.le_refl _)).mono ?_
    rintro e w3 ⟨hf3, p3, rfl, hx3⟩
    rw [unhide HR] at hx3
    clear bc bf
    have hsz : (w1.setCell ⟨pb, 3, none⟩ (.slice none 0 0)).heap.size = w1.heap.size := by simp [World.setCell]
    have hvb3 : w3.heap[w1.heap.size]? = some (rbl t none none 0 0 none) := (hf3.keep w1.heap.size (by simp [World.setCell]) (by omega) (Or.inr (ty_ne (blk_alloc' _ (rbl t none none 0 0 none) _ hsz.symm) (by decide)))).trans (blk_alloc' _ _ _ hsz.symm)
    have hrb3 : w3.heap[w.heap.size]? = some (rbl tk0 none none 0 0 none) := (hf3.keep w.heap.size (by simp [World.setCell]; omega) (by omega) (Or.inl hz1)).trans ((Below.heap_alloc _ _ _ (by rw [hsz]; exact hz1)).trans ((Below.heap_setCell _ _ _ _ (by show w.heap.size ≠ pb; omega)).trans (unhide HRB1)))
    have hgr3 : w.grownBy w3 (some pb) := PF.from (grown_alloc ((unhide HM1).gr.trans (grown_set _ _ _ _)) _) hf3 (by omega)
    have hmid : ∃ j b q NM3, PP w3 pb g cap w1.heap.size L j b q NM3 ∧ ((b = false ∧ q = 0 ∧ ∃ f, ruleRead r = .ok (⟨0, false, tk0, [], 0, f⟩, PL L j) ∧ IsG w3 f p3 ∧ NM3 = lvs f) ∨ (b = true ∧ j = L.length - 1 ∧ ruleRead r = .error q)) := by
     rw [unhide HRR]
     cases hpf : pf (6 * r.length + 5) 0 .nil r with
     | error q =>
      rw [hpf] at hx3
      obtain ⟨NM3, hp3⟩ := hx3
      exact ⟨_, _, q, NM3, hp3, Or.inr ⟨rfl, rfl, rfl⟩⟩
     | ok x =>
      obtain ⟨f, l1⟩ := x
      rw [hpf] at hx3
      obtain ⟨hg3, j, hl3, hp3⟩ := hx3
      subst hl3
      exact ⟨j, false, 0, _, hp3, Or.inl ⟨rfl, rfl, f, rfl, hg3, rfl⟩⟩
    obtain ⟨j, b, q, NM3, hp3, hout⟩ := hmid
    obtain ⟨no, nn, nc, hb3, hown3⟩ := hp3.blk
    have bc := fun o => cell_of_blk hb3 o
    have hpb3 := hp3.pLt
    have HP3 := hide hp3
    have HOWN3 := hide hown3
    have HOUT := hide hout
    have HVB3 := hide hvb3
    have HRB3 := hide hrb3
    have HGR3 := hide hgr3
    unfold rbl at hvb3
    have vc := fun o => cell_of_blk hvb3 o
    have vf := fun o => frozen_of_blk hvb3 o
    have hvl : w1.heap.size < w3.heap.size := lt_of_blk hvb3
    have hnev : pb ≠ w1.heap.size := by omega
    clear hf3 hx3 hvb3 hrb3 hgr3 hout hp3 hb3 hown3 hsz
    go_wp2_with fail
    go_meet
    have hk1 := (KQ.set (unhide HVB3) (by decide) (by decide) (by decide) 3 (.pointer p3)).trans (KQ.set (blk_set (unhide HVB3) 3 (.pointer p3)) (by decide) (by decide) (by decide) 4 (.slice no nn nc))
    refine ⟨grown_setNew (grown_setNew (unhide HGR3) (by omega) _ _) (by omega) _ _, (Below.heap_setCell _ _ _ _ (by show w.heap.size ≠ w1.heap.size; omega)).trans ((Below.heap_setCell _ _ _ _ (by show w.heap.size ≠ w1.heap.size; omega)).trans (unhide HRB3)), p3, no, nn, nc, none, w1.heap.size, j, b, q, NM3, blk_set (blk_set (unhide HVB3) 3 _) 4 _, ?_, ?_⟩
    ·exact ((unhide HP3).setTy (unhide HVB3) (by decide) (by decide) _ _).setTy (blk_set (unhide HVB3) 3 _) (by decide) (by decide) _ _
    ·rcases unhide HOUT with ⟨h1, h2, f, h4, h5, h6⟩ | h
     ·refine Or.inl ⟨h1, h2, _, h4, ?_⟩
      refine RsIs.keep hk1 ?_
      unfold RsIs
      rw [if_neg (by intro e; cases e)]
      subst h6
      exact ⟨rfl, h5, owns_mono (unhide HOWN3) (Nat.zero_le _)⟩
     ·exact Or.inr h
  case rest =>
   obtain ⟨hgr, hrb, fp, no, nn, nc, cp, B2, j, b, q, NM2, hvb, hpp, hout⟩ := hcut
   obtain ⟨y, r5, hy⟩ := PL_some hpp.fe hpp.lt
   obtain ⟨j2, b2, q2, hs⟩ := Stp_ex (y.k = 21) y L.length j b q
   have HY := hide hy
   have HS := hide hs
   have HPP := hide hpp
   have HGR := hide hgr
   have HRB := hide hrb
   have HVB := hide hvb
   have HOUT := hide hout
   clear hy hs hpp hgr hrb hvb hout
   go_wp2_with fail
   refine (ptake_any 21 _ pb g cap B2 L j b q NM2 y r5 (unhide HPP) (unhide HY) (by decide) j2 b2 q2 (unhide HS)).mono ?_
   rintro e w4 ⟨rfl, hm4⟩
   have hvb4 := (hm4.gr.block w1.heap.size (lt_of_blk (unhide HVB)) (by have := (unhide HP1).pLt; simp; omega)).trans (unhide HVB)
   have hrb4 := (hm4.gr.block w.heap.size (lt_of_blk (unhide HRB)) (by simp; omega)).trans (unhide HRB)
   have HM4 := hide hm4
   have HVB4 := hide hvb4
   have HRB4 := hide hrb4
   unfold rbl at hvb4 hrb4
   unfold tk0 at hrb4
   have vc := fun o => cell_of_blk hvb4 o
   have rc := fun o => cell_of_blk hrb4 o
   have rf := fun o => frozen_of_blk hrb4 o
   have hvl : w1.heap.size < w4.heap.size := lt_of_blk hvb4
   have hrl : w.heap.size < w4.heap.size := lt_of_blk hrb4
   clear hm4 hvb4 hrb4
   simp only [tkP]
   go_wp2_with fail
   have hfin := blk_set6 (unhide HRB4) (.int .i64 t.k) (.string t.s) (.int .i64 t.p) (.pointer fp) (.slice no nn nc) (.pointer cp)
   have rc2 := fun o => cell_of_blk hfin o
   clear rc
   unfold set6 at rc2
   refine bodyPost_ret (v := .agg #[.int .i64 t.k, .string t.s, .int .i64 t.p, .pointer fp, .slice no nn nc, .pointer cp]) (by simp [results, Tryz.results156, go_sem, rc2]) rfl ?_
   have hpp4 := (unhide HPP).stp (unhide HY) (fun e => by omega) (unhide HS) (unhide HM4)
   have hpp5 := hpp4.set6 (unhide HRB4) (by decide) (by decide) (.int .i64 t.k) (.string t.s) (.int .i64 t.p) (.pointer fp) (.slice no nn nc) (.pointer cp)
   have hkq := ((unhide HPP).kq (unhide HM4).gr).trans (KQ.set6 (unhide HRB4) (by decide) (by decide) (by decide) (.int .i64 t.k) (.string t.s) (.int .i64 t.p) (.pointer fp) (.slice no nn nc) (.pointer cp))
   refine ⟨grown_set6 ((unhide HGR).trans (unhide HM4).gr) (Nat.le_refl _) _ _ _ _ _ _, fp, no, nn, nc, cp, rfl, ?_⟩
   have hyk : headK (PL L j) = y.k := by rw [unhide HY]; rfl
   have hyp : headP (PL L j) = y.p := by rw [unhide HY]; rfl
   rcases unhide HOUT with ⟨rfl, rfl, rl, hx, hrs⟩ | ⟨rfl, rfl, hx⟩
   ·rcases unhide HS with ⟨hk, rfl, rfl, rfl⟩ | ⟨hk, rfl, rfl, rfl⟩
    ·exact Or.inl ⟨rl, _, hx, by rw [hyk]; exact hk, hrs.keep hkq, B2, j + 1, NM2, by rw [unhide HY]; exact PL_next (unhide HY) (by omega), hpp5⟩
    ·exact Or.inr (Or.inl ⟨rl, _, hx, by rw [hyk]; exact hk, B2, NM2, by rw [hyp]; exact hpp5⟩)
   ·obtain ⟨e0, he0, hek⟩ := PL_last (unhide HPP).fe
    rw [unhide HY] at he0
    have hye : y = e0 := (List.cons.inj he0).1
    rcases unhide HS with ⟨hk, _⟩ | ⟨hk, rfl, rfl, rfl⟩
    ·rw [hye] at hk; omega
    ·exact Or.inr (Or.inr ⟨_, hx, B2, NM2, hpp5⟩)
theorem cut_len : ∀ l : List Tk, (cut l).length ≤ l.length
 | [] => Nat.le_refl _
 | t :: r => by
  rw [cut]
  split
  ·simp
  ·simp; exact cut_len r
theorem PL_len (L : List Tk) (i : Nat) : (PL L i).length ≤ L.length := by
 unfold PL; have := cut_len (L.drop i); rw [List.length_drop] at this; omega
def actsC (m : Nat) (A : List Tk) (l : List Tk) : Except Nat (List Tk × List Tk) := if headK l = 20 then plusA A (actsRead m l.tail) else .ok (A, l)
theorem actsRead_C (m : Nat) (v : Tk) (r : List Tk) (A : List Tk) (hv : v.k = 2) : plusA A (actsRead (m + 1) (v :: r)) = actsC m (A ++ [v]) r := by
 have h1 : headK (v :: r) = 2 := hv
 rw [actsRead, if_pos h1]
 unfold actsC
 by_cases h : headK r = 20
 ·rw [if_pos (show headK (v :: r).tail = 20 from h), if_pos h]
  show plusA A (match actsRead m r.tail with | .error q => .error q | .ok (ts, l1) => .ok (v :: ts, l1)) = _
  cases actsRead m r.tail with
  | error q => rfl
  | ok x => show Except.ok _ = Except.ok _; simp
 ·rw [if_neg (show ¬ headK (v :: r).tail = 20 from h), if_neg h]; rfl
theorem actsRead_E (m : Nat) (v : Tk) (r : List Tk) (A : List Tk) (hv : v.k ≠ 2) : plusA A (actsRead m (v :: r)) = .error v.p := by
 cases m with
 | zero => rfl
 | succ m => rw [actsRead, if_neg (show ¬ headK (v :: r) = 2 from hv)]; rfl
def ActsAt (L : List Tk) (m : Nat) (A : List Tk) (j : Nat) (b : Bool) (q : Nat) : Prop :=
 (b = false ∧ q = 0 ∧ A.length + (PL L j).length ≤ 401 ∧ (PL L j).length ≤ m ∧ actsX (PL L 0) = actsC m A (PL L j)) ∨ (b = true ∧ j = L.length - 1 ∧ actsX (PL L 0) = .error q)
theorem last_of {L : List Tk} (hfe : FE L) {y : Tk} {r : List Tk} (hy : PL L (L.length - 1) = y :: r) : y.k = 0 := by
 obtain ⟨e, he, hek⟩ := PL_last hfe
 rw [hy] at he
 rw [(List.cons.inj he).1]; exact hek
theorem acts_first {L : List Tk} (hfe : FE L) (hlen : L.length ≤ 401) {t v : Tk} {r r1 : List Tk} (ht : PL L 0 = t :: r) {j0 : Nat} {b0 : Bool} {q0 : Nat} (hs0 : Stp (t.k = 4) t L.length 0 false 0 j0 b0 q0) (hv : PL L j0 = v :: r1)
  {j1 : Nat} {b1 : Bool} {q1 : Nat} (hs1 : Stp (v.k = 2) v L.length j0 b0 q0 j1 b1 q1) : ActsAt L ((PL L 0).length - 1) [v] j1 b1 q1 := by
 have h0 := PL_len L 0
 rcases hs0 with ⟨h4, rfl, rfl, rfl⟩ | ⟨h4, rfl, rfl, rfl⟩
 ·have hr : r = v :: r1 := by rw [← PL_next ht (by omega)]; exact hv
  subst hr
  have hx : actsX (PL L 0) = plusA [] (actsRead (r1.length + 1 + 1) (v :: r1)) := by
   unfold actsX
   rw [ht, if_pos (show headK (t :: v :: r1) = 4 from h4)]
   show actsRead (r1.length + 1 + 1) (v :: r1) = _
   cases actsRead (r1.length + 1 + 1) (v :: r1) <;> rfl
  rcases hs1 with ⟨hk, rfl, rfl, rfl⟩ | ⟨hk, rfl, rfl, rfl⟩
  ·have hr1 := PL_next hv (by omega)
   refine Or.inl ⟨rfl, rfl, ?_, ?_, ?_⟩
   ·rw [hr1]; rw [ht] at h0; simp at h0 ⊢; omega
   ·rw [hr1, ht]; simp
   ·rw [hx, ht, hr1]
    show _ = actsC (r1.length + 1) [v] r1
    rw [actsRead_C _ _ _ _ hk]; rfl
  ·exact Or.inr ⟨rfl, rfl, by rw [hx, actsRead_E _ _ _ _ hk]; rfl⟩
 ·have := last_of hfe hv
  rcases hs1 with ⟨hk, _⟩ | ⟨hk, rfl, rfl, rfl⟩
  ·omega
  ·refine Or.inr ⟨rfl, rfl, ?_⟩
   unfold actsX
   rw [ht, if_neg (show ¬ headK (t :: r) = 4 from h4)]; rfl
theorem acts_round {L : List Tk} (hfe : FE L) {m : Nat} {A : List Tk} {j : Nat} {b : Bool} {q : Nat} (h : ActsAt L m A j b q) {y v : Tk} {r r1 : List Tk} (hy : PL L j = y :: r) (h20 : y.k = 20) (hv : PL L (j + 1) = v :: r1)
  {j2 : Nat} {b2 : Bool} {q2 : Nat} (hs : Stp (v.k = 2) v L.length (j + 1) b q j2 b2 q2) : 1 ≤ m ∧ A.length ≤ 400 ∧ ActsAt L (m - 1) (A ++ [v]) j2 b2 q2 := by
 rcases h with ⟨rfl, rfl, h3, h4, h5⟩ | ⟨rfl, rfl, _⟩
 ·have hr : r = v :: r1 := by rw [← PL_next hy (by omega)]; exact hv
  subst hr
  rw [hy] at h3 h4 h5
  simp at h3 h4
  obtain ⟨m', rfl⟩ : ∃ m', m = m' + 1 := ⟨m - 1, by omega⟩
  have hx : actsX (PL L 0) = plusA A (actsRead (m' + 1) (v :: r1)) := by
   rw [h5]; unfold actsC; rw [if_pos (show headK (y :: v :: r1) = 20 from h20)]; rfl
  refine ⟨by omega, by omega, ?_⟩
  rcases hs with ⟨hk, rfl, rfl, rfl⟩ | ⟨hk, rfl, rfl, rfl⟩
  ·have hr1 := PL_next hv (by omega)
   refine Or.inl ⟨rfl, rfl, ?_, ?_, ?_⟩
   ·rw [hr1]; simp; omega
   ·rw [hr1]; simp; omega
   ·rw [hx, hr1]
    exact actsRead_C _ _ _ _ hk
  ·exact Or.inr ⟨rfl, rfl, by rw [hx, actsRead_E _ _ _ _ hk]; rfl⟩
 ·have := last_of hfe hy; omega
theorem acts_end {L : List Tk} {m : Nat} {A : List Tk} {j : Nat} {b : Bool} {q : Nat} (h : ActsAt L m A j b q) {y : Tk} {r : List Tk} (hy : PL L j = y :: r) (h20 : y.k ≠ 20) :
  (b = false ∧ q = 0 ∧ A.length ≤ 401 ∧ actsX (PL L 0) = .ok (A, PL L j)) ∨ (b = true ∧ j = L.length - 1 ∧ actsX (PL L 0) = .error q) := by
 rcases h with ⟨h1, h2, h3, h4, h5⟩ | h
 ·refine Or.inl ⟨h1, h2, by omega, ?_⟩
  rw [h5]; unfold actsC; rw [hy, if_neg (show ¬ headK (y :: r) = 20 from h20)]
 ·exact Or.inr h
def ModAt (L : List Tk) (m : Nat) (al : List Tk) (rs : List Rl) (j : Nat) (b : Bool) (q : Nat) : Prop :=
 (b = false ∧ q = 0 ∧ rs.length + (PL L j).length ≤ 401 ∧ (PL L j).length ≤ m ∧ modelRead (PL L 0) = plusR al rs (rulesRead m (PL L j))) ∨ (b = true ∧ j = L.length - 1 ∧ modelRead (PL L 0) = .error q)
theorem mod_first {L : List Tk} (hfe : FE L) (hlen : L.length ≤ 401) {A : List Tk} {j : Nat} {b : Bool} {q : Nat} (h : (b = false ∧ q = 0 ∧ A.length ≤ 401 ∧ actsX (PL L 0) = .ok (A, PL L j)) ∨ (b = true ∧ j = L.length - 1 ∧ actsX (PL L 0) = .error q))
  {y : Tk} {r : List Tk} (hy : PL L j = y :: r) {j2 : Nat} {b2 : Bool} {q2 : Nat} (hs : Stp (y.k = 21) y L.length j b q j2 b2 q2) : ModAt L (PL L j).length A [] j2 b2 q2 := by
 have hl := PL_len L j2
 rcases h with ⟨rfl, rfl, _, h4⟩ | ⟨rfl, rfl, h3⟩
 ·have hm : modelRead (PL L 0) = if headK (PL L j) = 21 then plusR A [] (rulesRead (PL L j).length (PL L j).tail) else .error (headP (PL L j)) := by rw [modelRead_eq, h4]
  rcases hs with ⟨hk, rfl, rfl, rfl⟩ | ⟨hk, rfl, rfl, rfl⟩
  ·have hr := PL_next hy (by omega)
   refine Or.inl ⟨rfl, rfl, ?_, ?_, ?_⟩
   ·simp; omega
   ·rw [hr, hy]; simp
   ·rw [hm, hr, hy, if_pos (show headK (y :: r) = 21 from hk)]; rfl
  ·refine Or.inr ⟨rfl, rfl, ?_⟩
   rw [hm, hy, if_neg (show ¬ headK (y :: r) = 21 from hk)]; rfl
 ·have := last_of hfe hy
  rcases hs with ⟨hk, _⟩ | ⟨hk, rfl, rfl, rfl⟩
  ·omega
  ·exact Or.inr ⟨rfl, rfl, by rw [modelRead_eq, h3]⟩
theorem rulesRead_5 (m : Nat) (t : Tk) (r : List Tk) (h5 : t.k = 5) : rulesRead (m + 1) (t :: r) = (match ruleRead r with
   | .error q => .error q
   | .ok (rl, l1) => if headK l1 = 21 then (match rulesRead m l1.tail with | .error q => .error q | .ok rs => .ok ({ rl with pl := t.p } :: rs)) else .error (headP l1)) := by
 rw [rulesRead, if_neg (show ¬ headK (t :: r) = 0 by show ¬ t.k = 0; omega), if_pos (show headK (t :: r) = 5 from h5)]
 simp only [List.tail_cons]
 cases ruleRead r with
 | error q => rfl
 | ok x => rfl
theorem mod_good {L : List Tk} {m : Nat} {al : List Tk} {rs : List Rl} {j : Nat} {b : Bool} {q : Nat} (hfe : FE L) (h : ModAt L m al rs j b q) {t : Tk} {r : List Tk} (ht : PL L j = t :: r) (h5 : t.k = 5) :
  b = false ∧ q = 0 ∧ rs.length ≤ 400 ∧ ∃ m', m = m' + 1 ∧ rs.length + r.length ≤ 400 ∧ r.length ≤ m' ∧ modelRead (PL L 0) = plusR al rs (rulesRead (m' + 1) (t :: r)) := by
 rcases h with ⟨rfl, rfl, h3, h4, h6⟩ | ⟨rfl, rfl, _⟩
 ·rw [ht] at h3 h4 h6
  simp at h3 h4
  exact ⟨rfl, rfl, by omega, m - 1, by omega, by omega, by omega, by rw [h6]; congr 2; omega⟩
 ·have := last_of hfe ht; omega
theorem mod_ok {L : List Tk} {m' : Nat} {al : List Tk} {rs : List Rl} {t : Tk} {r : List Tk} (h5 : t.k = 5) (hl : rs.length + r.length ≤ 400) (hl2 : r.length ≤ m') (h : modelRead (PL L 0) = plusR al rs (rulesRead (m' + 1) (t :: r)))
  {rl : Rl} {l1 : List Tk} (hr : ruleRead r = .ok (rl, l1)) (h21 : headK l1 = 21) {j2 : Nat} (hj : PL L j2 = l1.tail) : ModAt L m' al (rs ++ [{ rl with pl := t.p }]) j2 false 0 := by
 have hlen := ruleRead_len r rl l1 hr
 have hl1 : l1.tail.length + 1 = l1.length := headK_len (by omega)
 refine Or.inl ⟨rfl, rfl, ?_, ?_, ?_⟩
 ·rw [hj]; simp; simp at hl1; omega
 ·rw [hj]; omega
 ·rw [h, rulesRead_5 _ _ _ h5, hr, hj]
  show plusR al rs (if headK l1 = 21 then _ else _) = _
  rw [if_pos h21]
  cases rulesRead m' l1.tail with
  | error q => rfl
  | ok x => show Except.ok _ = Except.ok _; simp
theorem mod_no {L : List Tk} {m' : Nat} {al : List Tk} {rs rs' : List Rl} {t : Tk} {r : List Tk} (h5 : t.k = 5) (h : modelRead (PL L 0) = plusR al rs (rulesRead (m' + 1) (t :: r)))
  {q : Nat} (hr : (∃ rl l1, ruleRead r = .ok (rl, l1) ∧ headK l1 ≠ 21 ∧ q = headP l1) ∨ ruleRead r = .error q) : ModAt L m' al rs' (L.length - 1) true q := by
 refine Or.inr ⟨rfl, rfl, ?_⟩
 rw [h, rulesRead_5 _ _ _ h5]
 rcases hr with ⟨rl, l1, hr, hk, rfl⟩ | hr
 ·rw [hr]
  show plusR al rs (if headK l1 = 21 then _ else _) = _
  rw [if_neg hk]; rfl
 ·rw [hr]; rfl
theorem mod_end {L : List Tk} (hfe : FE L) {m : Nat} {al : List Tk} {rs : List Rl} {j : Nat} {b : Bool} {q : Nat} (h : ModAt L m al rs j b q) {t : Tk} {r : List Tk} (ht : PL L j = t :: r) (h5 : t.k ≠ 5) :
  (t.k = 0 ∧ b = false ∧ modelRead (PL L 0) = .ok (al, rs)) ∨ (t.k ≠ 0 ∧ b = false ∧ q = 0 ∧ modelRead (PL L 0) = .error t.p) ∨ (t.k = 0 ∧ b = true ∧ modelRead (PL L 0) = .error q) := by
 rcases h with ⟨rfl, rfl, h3, h4, h6⟩ | ⟨rfl, rfl, h3⟩
 ·rw [ht] at h4 h6
  obtain ⟨m', rfl⟩ : ∃ m', m = m' + 1 := ⟨m - 1, by simp at h4; omega⟩
  by_cases h0 : t.k = 0
  ·refine Or.inl ⟨h0, rfl, ?_⟩
   rw [h6, rulesRead, if_pos (show headK (t :: r) = 0 from h0)]
   simp [plusR]
  ·refine Or.inr (Or.inl ⟨h0, rfl, rfl, ?_⟩)
   rw [h6, rulesRead, if_neg (show ¬ headK (t :: r) = 0 from h0), if_neg (show ¬ headK (t :: r) = 5 from h5)]; rfl
 ·exact Or.inr (Or.inr ⟨last_of hfe ht, rfl, h3⟩)
def RulesP (w : World) : List Rl → List Value → Prop
 | [], cs => cs = []
 | r :: rs, cs => ∃ k s fp no nn nc cp rest, cs = .int .i64 k :: .string s :: .int .i64 r.pl :: .pointer fp :: .slice no nn nc :: .pointer cp :: rest ∧ RsIs w r fp no nn nc cp ∧ RulesP w rs rest
theorem RulesP.keep {w w' : World} (h : KQ w w') : ∀ {rs : List Rl} {cs : List Value}, RulesP w rs cs → RulesP w' rs cs
 | [], _, h1 => h1
 | _ :: _, _, ⟨k, s, fp, no, nn, nc, cp, rest, e, hr, hrs⟩ => ⟨k, s, fp, no, nn, nc, cp, rest, e, hr.keep h, RulesP.keep h hrs⟩
theorem RulesP.snoc {w : World} : ∀ {rs : List Rl} {cs : List Value} {r : Rl} {k : Int} {s : ByteArray} {fp no : Option Addr} {nn nc : Nat} {cp : Option Addr}, RulesP w rs cs → RsIs w r fp no nn nc cp →
  RulesP w (rs ++ [r]) (cs ++ [.int .i64 k, .string s, .int .i64 r.pl, .pointer fp, .slice no nn nc, .pointer cp])
 | [], _, _, k, s, fp, no, nn, nc, cp, h, hr => by cases h; exact ⟨k, s, fp, no, nn, nc, cp, [], rfl, hr, rfl⟩
 | _ :: _, _, r, k', s', fp', no', nn', nc', cp', ⟨k, s, fp, no, nn, nc, cp, rest, e, h1, h2⟩, hr => ⟨k, s, fp, no, nn, nc, cp, rest ++ [.int .i64 k', .string s', .int .i64 r.pl, .pointer fp', .slice no' nn' nc', .pointer cp'], by subst e; rfl, h1, RulesP.snoc h2 hr⟩
theorem RsIs.pl {w : World} {r : Rl} {fp no : Option Addr} {nn nc : Nat} {cp : Option Addr} (h : RsIs w r fp no nn nc cp) (p : Nat) : RsIs w { r with pl := p } fp no nn nc cp := h
def sbl (o1 : Option Addr) (n1 k1 : Nat) (o2 : Option Addr) (n2 k2 : Nat) : Obj := .cells #[.slice o1 n1 k1, .slice o2 n2 k2] 128 (0, 0)
structure MA (w wc : World) (pb g cap : Nat) (L A : List Tk) (j : Nat) (b : Bool) (q : Nat) : Prop where
 rbx : wc.heap[w.heap.size]? = some (sbl none 0 0 none 0 0)
 sbx : ∃ o1 n1 k1, wc.heap[w.heap.size + 1]? = some (sbl o1 n1 k1 none 0 0) ∧ wc.ownsRow w.heap.size 201 3 (.slice o1 n1 k1) A.length (tkCellsP A)
 mv : Mv w wc pb g cap L.length 0 false 0 j b q
 lt : j < L.length
structure MB (w wc : World) (pb g cap : Nat) (L al : List Tk) (rs : List Rl) (j : Nat) (b : Bool) (q : Nat) : Prop where
 rbx : wc.heap[w.heap.size]? = some (sbl none 0 0 none 0 0)
 sbx : ∃ o1 n1 k1 o2 n2 k2 nR cells, wc.heap[w.heap.size + 1]? = some (sbl o1 n1 k1 o2 n2 k2) ∧ wc.ownsRow w.heap.size 205 6 (.slice o2 n2 k2) nR cells ∧
  (b = false → wc.ownsRow w.heap.size 201 3 (.slice o1 n1 k1) al.length (tkCellsP al) ∧ nR = rs.length ∧ RulesP wc rs cells)
 gr : w.grownBy wc (some pb)
 pp : ∃ B NM, PP wc pb g cap B L j b q NM
def MoPost (L : List Tk) (pb g cap : Nat) (w w' : World) (e : Ending) : Prop :=
 w.grownBy w' (some pb) ∧ ∃ o1 n1 k1 o2 n2 k2 b q, e = .returned (.agg #[.slice o1 n1 k1, .slice o2 n2 k2]) ∧ (∃ B j NM, PP w' pb g cap B L j b q NM) ∧
  ((b = false ∧ ∃ al rs cells, modelRead (PL L 0) = .ok (al, rs) ∧ w'.ownsRow 0 201 3 (.slice o1 n1 k1) al.length (tkCellsP al) ∧ w'.ownsRow 0 205 6 (.slice o2 n2 k2) rs.length cells ∧ RulesP w' rs cells) ∨ (b = true ∧ modelRead (PL L 0) = .error q))
theorem Tryz.infoRs : (Tryz.prog.info? 205).map (fun i => (i.zero, i.size, i.bytes)) = some (some (.agg #[.int .i64 0, .string ⟨#[]⟩, .int .i64 0, .pointer none, .slice none 0 0, .pointer none]), 6, 72) := by kernel_rfl
theorem PP.row' {w w' : World} {pb g cap B : Nat} {L : List Tk} {i : Nat} {bad : Bool} {q : Nat} {NM : List Tk} (h : PP w pb g cap B L i bad q NM) {base n : Nat} {v : Value} {xs : List Value} (ho : w.ownsRow base 205 6 v n xs) (hg : w.grownBy w' v.ownBlock) : PP w' pb g cap B L i bad q NM := by
 obtain ⟨no, nn, nc, hb, hn⟩ := h.blk
 obtain ⟨cur, h3, h4⟩ := h.row
 refine ⟨⟨no, nn, nc, (hg.block pb (lt_of_blk hb) (fun e => own_ty ho e.symm hb (by decide))).trans hb, owns_keep hn hg ?_⟩, ⟨cur, (hg.block g (lt_of_blk h3) (fun e => own_ty ho e.symm h3 (by decide))).trans h3, h4⟩, h.le, h.capLe, h.len, h.lt, h.fe, h.ok, h.gB, h.pB, Nat.le_trans h.hB hg.size, h.nm⟩
 cases hob : (Value.slice no nn nc).ownBlock with
 | none => exact Or.inl rfl
 | some k =>
  refine Or.inr (fun e => ?_)
  obtain ⟨_, c, m, hk⟩ := own_is hn hob
  exact own_ty ho e.symm hk (by decide)
theorem KQ.row {w w' : World} {base n : Nat} {v : Value} {xs : List Value} (ho : w.ownsRow base 205 6 v n xs) (hg : w.grownBy w' v.ownBlock) : KQ w w' :=
 KQ.grown hg (fun k e => by
  obtain ⟨_, c, m, hk⟩ := own_is ho e
  exact ⟨ty_ne hk (by decide), ty_ne hk (by decide), ty_ne hk (by decide)⟩)
theorem grown_row {w w1 w2 : World} {pb : Nat} (h : w.grownBy w1 (some pb)) {row : Option Nat} (hg : w1.grownBy w2 row) (hr : ∀ k, row = some k → w.heap.size ≤ k) : w.grownBy w2 (some pb) :=
 ⟨hg.os.trans h.os, hg.tape.trans h.tape, hg.output.trans h.output, Nat.le_trans h.size hg.size, fun k hk hne => (hg.block k (Nat.lt_of_lt_of_le hk h.size) (fun e => by have := hr k e.symm; omega)).trans (h.block k hk hne)⟩
end Go.Proofs.YtidakhhekofkoaaGreatDoor
