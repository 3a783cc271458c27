/- The program's rule. -/
import Derived.Test.YtidakhhekofkoaaGreatDoorK19
import Derived.BigQuiet
set_option linter.unusedSimpArgs false
open List renaming setIfInBounds_toArray → zA, set_cons_zero → zB, set_cons_succ → zC, getElem_toArray → zD, getElem_cons_succ → zE, getElem_cons_zero → zF
namespace Go.Proofs.YtidakhhekofkoaaGreatDoor
open Go.RowKit Go.Deep
def KQ (w w' : World) : Prop := ∀ (b : Nat) (c : Array Value) (ty : Nat) (m : Nat × Nat), w.heap[b]? = some (.cells c ty m) → (ty = 201 ∨ ty = 259 ∨ ty = 270) → w'.heap[b]? = some (.cells c ty m)
theorem KQ.trans {w w1 w2 : World} (h : KQ w w1) (h' : KQ w1 w2) : KQ w w2 := fun b c ty m hb ht => h' b c ty m (h b c ty m hb ht) ht
theorem KQ.below {w w' : World} (h : Below w.heap.size w w') : KQ w w' := fun b _ _ _ hb _ => (h.block b (lt_of_blk hb)).trans hb
theorem KQ.grown {w w' : World} {row : Option Nat} (h : w.grownBy w' row) (hr : ∀ k, row = some k → ¬ TyAt w k 201 ∧ ¬ TyAt w k 259 ∧ ¬ TyAt w k 270) : KQ w w' := fun b c ty m hb ht =>
 (h.block b (lt_of_blk hb) (by
  intro e
  obtain ⟨h1, h2, h3⟩ := hr b e.symm
  rcases ht with rfl | rfl | rfl
  ·exact h1 ⟨c, m, hb⟩
  ·exact h2 ⟨c, m, hb⟩
  ·exact h3 ⟨c, m, hb⟩)).trans hb
theorem ty_ne {w : World} {b ty ty' : Nat} {c : Array Value} {m : Nat × Nat} (h : w.heap[b]? = some (.cells c ty m)) (hne : ty ≠ ty') : ¬ TyAt w b ty' := by
 rintro ⟨c', m', h'⟩
 rw [h] at h'
 injection h' with h'
 injection h' with _ e _
 exact hne e
theorem KQ.set {w : World} {b ty : Nat} {c : Array Value} {m : Nat × Nat} (hb : w.heap[b]? = some (.cells c ty m)) (h1 : ty ≠ 201) (h2 : ty ≠ 259) (h3 : ty ≠ 270) (o : Nat) (v : Value) : KQ w (w.setCell ⟨b, o, none⟩ v) :=
 KQ.grown (grown_set w b o v) (fun k e => by cases e; exact ⟨ty_ne hb h1, ty_ne hb h2, ty_ne hb h3⟩)
theorem KQ.owns {w w' : World} (h : KQ w w') {base size n : Nat} {v : Value} {xs : List Value} (ho : w.ownsRow base 201 size v n xs) : w'.ownsRow base 201 size v n xs := by
 obtain ⟨h1, h2⟩ := ho
 refine ⟨h1, ?_⟩
 rcases h2 with h2 | ⟨g, cap, cur, hv, hg, hh, r⟩
 ·exact Or.inl h2
 ·exact Or.inr ⟨g, cap, cur, hv, hg, h _ _ _ _ hh (Or.inl rfl), r⟩
theorem KQ.isG {w w' : World} (h : KQ w w') {f : Fm} {v : Option Addr} (hf : IsG w f v) : IsG w' f v :=
 hf.keep (fun b c m hb => (h b c _ m hb (Or.inr (Or.inr rfl))).trans hb.symm)
def RsIs (w : World) (r : Rl) (fp no : Option Addr) (nn nc : Nat) (cp : Option Addr) : Prop :=
 if r.call = true then (∃ cb ao an ac x, cp = some ⟨cb, 0, none⟩ ∧ w.heap[cb]? = some (cbl r.word ao an ac x) ∧ x.p = r.fin ∧ w.ownsRow 0 201 3 (.slice ao an ac) r.args.length (tkCellsP r.args)) ∧ no = none ∧ nn = 0 ∧ nc = 0 ∧ fp = none
 else cp = none ∧ IsG w r.f fp ∧ w.ownsRow 0 201 3 (.slice no nn nc) (lvs r.f).length (tkCellsP (lvs r.f))
theorem RsIs.keep {w w' : World} (h : KQ w w') {r : Rl} {fp no : Option Addr} {nn nc : Nat} {cp : Option Addr} (hr : RsIs w r fp no nn nc cp) : RsIs w' r fp no nn nc cp := by
 unfold RsIs at hr ⊢
 by_cases hc : r.call = true
 ·rw [if_pos hc] at hr ⊢
  obtain ⟨⟨cb, ao, an, ac, x, h1, h2, h3, h4⟩, h5⟩ := hr
  exact ⟨⟨cb, ao, an, ac, x, h1, h _ _ _ _ h2 (Or.inr (Or.inl rfl)), h3, h.owns h4⟩, h5⟩
 ·rw [if_neg hc] at hr ⊢
  exact ⟨hr.1, h.isG hr.2.1, h.owns hr.2.2⟩
def rbl (t : Tk) (fp no : Option Addr) (nn nc : Nat) (cp : Option Addr) : Obj :=
 .cells #[.int .i64 t.k, .string t.s, .int .i64 t.p, .pointer fp, .slice no nn nc, .pointer cp] 205 (0, 0)
def RuPost (L : List Tk) (pb g cap : Nat) (w w' : World) (t : Tk) (e : Ending) (x : Except Nat (Rl × List Tk)) : Prop :=
  w.grownBy w' (some pb) ∧ ∃ fp no nn nc cp, e = .returned (.agg #[.int .i64 t.k, .string t.s, .int .i64 t.p, .pointer fp, .slice no nn nc, .pointer cp]) ∧
    ((∃ rl l1, x = .ok (rl, l1) ∧ headK l1 = 21 ∧ RsIs w' rl fp no nn nc cp ∧ ∃ B j NM, PL L j = l1.tail ∧ PP w' pb g cap B L j false 0 NM) ∨
     (∃ rl l1, x = .ok (rl, l1) ∧ headK l1 ≠ 21 ∧ ∃ B NM, PP w' pb g cap B L (L.length - 1) true (headP l1) NM) ∨
     (∃ q, x = .error q ∧ ∃ B NM, PP w' pb g cap B L (L.length - 1) true q NM))
theorem PP.clear {w : World} {pb g cap B : Nat} {L : List Tk} {i : Nat} {bad : Bool} {q : Nat} {NM : List Tk} (h : PP w pb g cap B L i bad q NM) : PP (w.setCell ⟨pb, 3, none⟩ (.slice none 0 0)) pb g cap w.heap.size L i bad q [] := by
 obtain ⟨no, nn, nc, h1, h2⟩ := h.blk
 obtain ⟨cur, h3, h4⟩ := h.row
 exact ⟨⟨none, 0, 0, blk_set h1 3 _, World.ownsRow_nil _ _ _ _⟩, ⟨cur, (Below.heap_setCell _ _ _ _ h.ne).trans h3, h4⟩, h.le, h.capLe, h.len, h.lt, h.fe, h.ok, h.gLt, h.pLt, by simp [World.setCell], fun _ => Nat.zero_le _⟩
theorem PP.ty {w : World} {pb g cap B : Nat} {L : List Tk} {i : Nat} {bad : Bool} {q : Nat} {NM : List Tk} (h : PP w pb g cap B L i bad q NM) : ∃ c m, w.heap[pb]? = some (.cells c 194 m) := by
 obtain ⟨no, nn, nc, h1, h2⟩ := h.blk
 exact ⟨_, _, h1⟩
theorem PP.kq {w w' : World} {pb g cap B : Nat} {L : List Tk} {i : Nat} {bad : Bool} {q : Nat} {NM : List Tk} (h : PP w pb g cap B L i bad q NM) (hg : w.grownBy w' (some pb)) : KQ w w' := by
 obtain ⟨c, m, hb⟩ := h.ty
 exact KQ.grown hg (fun k e => by cases e; exact ⟨ty_ne hb (by decide), ty_ne hb (by decide), ty_ne hb (by decide)⟩)
theorem PP.setTy {w : World} {pb g cap B : Nat} {L : List Tk} {i : Nat} {bad : Bool} {q : Nat} {NM : List Tk} (h : PP w pb g cap B L i bad q NM) {c ty : Nat} {cs : Array Value} {m : Nat × Nat} (hc : w.heap[c]? = some (.cells cs ty m)) (h1 : ty ≠ 201) (h2 : ty ≠ 194) (o : Nat) (v : Value) : PP (w.setCell ⟨c, o, none⟩ v) pb g cap B L i bad q NM := by
 obtain ⟨no, nn, nc, hb, ho⟩ := h.blk
 obtain ⟨cur, h3, h4⟩ := h.row
 have hcp : pb ≠ c := by rintro rfl; rw [hb] at hc; injection hc with hc; injection hc with _ e _; exact h2 e.symm
 have hcg : g ≠ c := by rintro rfl; rw [h3] at hc; injection hc with hc; injection hc with _ e _; exact h1 e.symm
 exact ⟨⟨no, nn, nc, (Below.heap_setCell _ _ _ _ hcp).trans hb, owns_keep ho (grown_set _ _ _ _) (Or.inr (fun e => own_ty ho e hc h1))⟩, ⟨cur, (Below.heap_setCell _ _ _ _ hcg).trans h3, h4⟩, h.le, h.capLe, h.len, h.lt, h.fe, h.ok, h.gB, h.pB, by simp [World.setCell]; exact h.hB, h.nm⟩
def set6 (w : World) (b : Nat) (v0 v1 v2 v3 v4 v5 : Value) : World := (((((w.setCell ⟨b, 0, none⟩ v0).setCell ⟨b, 1, none⟩ v1).setCell ⟨b, 2, none⟩ v2).setCell ⟨b, 3, none⟩ v3).setCell ⟨b, 4, none⟩ v4).setCell ⟨b, 5, none⟩ v5
theorem PP.set6 {w : World} {pb g cap B : Nat} {L : List Tk} {i : Nat} {bad : Bool} {q : Nat} {NM : List Tk} (h : PP w pb g cap B L i bad q NM) {c ty : Nat} {cs : Array Value} {m : Nat × Nat} (hc : w.heap[c]? = some (.cells cs ty m)) (h1 : ty ≠ 201) (h2 : ty ≠ 194) (v0 v1 v2 v3 v4 v5 : Value) : PP (set6 w c v0 v1 v2 v3 v4 v5) pb g cap B L i bad q NM :=
 (((((h.setTy hc h1 h2 0 v0).setTy (blk_set hc 0 v0) h1 h2 1 v1).setTy (blk_set (blk_set hc 0 v0) 1 v1) h1 h2 2 v2).setTy (blk_set (blk_set (blk_set hc 0 v0) 1 v1) 2 v2) h1 h2 3 v3).setTy (blk_set (blk_set (blk_set (blk_set hc 0 v0) 1 v1) 2 v2) 3 v3) h1 h2 4 v4).setTy (blk_set (blk_set (blk_set (blk_set (blk_set hc 0 v0) 1 v1) 2 v2) 3 v3) 4 v4) h1 h2 5 v5
theorem KQ.set6 {w : World} {b ty : Nat} {c : Array Value} {m : Nat × Nat} (hb : w.heap[b]? = some (.cells c ty m)) (h1 : ty ≠ 201) (h2 : ty ≠ 259) (h3 : ty ≠ 270) (v0 v1 v2 v3 v4 v5 : Value) : KQ w (set6 w b v0 v1 v2 v3 v4 v5) :=
 (((((KQ.set hb h1 h2 h3 0 v0).trans (KQ.set (blk_set hb 0 v0) h1 h2 h3 1 v1)).trans (KQ.set (blk_set (blk_set hb 0 v0) 1 v1) h1 h2 h3 2 v2)).trans (KQ.set (blk_set (blk_set (blk_set hb 0 v0) 1 v1) 2 v2) h1 h2 h3 3 v3)).trans (KQ.set (blk_set (blk_set (blk_set (blk_set hb 0 v0) 1 v1) 2 v2) 3 v3) h1 h2 h3 4 v4)).trans (KQ.set (blk_set (blk_set (blk_set (blk_set (blk_set hb 0 v0) 1 v1) 2 v2) 3 v3) 4 v4) h1 h2 h3 5 v5)
theorem grown_set6 {w w' : World} {row : Option Nat} (h : w.grownBy w' row) {b : Nat} (hb : w.heap.size ≤ b) (v0 v1 v2 v3 v4 v5 : Value) : w.grownBy (set6 w' b v0 v1 v2 v3 v4 v5) row :=
 grown_setNew (grown_setNew (grown_setNew (grown_setNew (grown_setNew (grown_setNew h hb 0 v0) hb 1 v1) hb 2 v2) hb 3 v3) hb 4 v4) hb 5 v5
theorem blk_set6 {w : World} {b ty : Nat} {a0 a1 a2 a3 a4 a5 : Value} {m : Nat × Nat} (hb : w.heap[b]? = some (.cells #[a0, a1, a2, a3, a4, a5] ty m)) (v0 v1 v2 v3 v4 v5 : Value) : (set6 w b v0 v1 v2 v3 v4 v5).heap[b]? = some (.cells #[v0, v1, v2, v3, v4, v5] ty m) :=
 blk_set (blk_set (blk_set (blk_set (blk_set (blk_set hb 0 v0) 1 v1) 2 v2) 3 v3) 4 v4) 5 v5
theorem PF.from {w W w3 : World} {pb B : Nat} (hg : w.grownBy W (some pb)) (hf : PF pb B W w3) (hB : w.heap.size ≤ B) : w.grownBy w3 (some pb) :=
 ⟨hf.os.trans hg.os, hf.tape.trans hg.tape, hf.output.trans hg.output, Nat.le_trans hg.size hf.size, fun k hk hne => (hf.keep k (Nat.lt_of_lt_of_le hk hg.size) (fun e => hne (by rw [e])) (Or.inl (by omega))).trans (hg.block k hk hne)⟩
theorem ruleRead_form {l : List Tk} (h : ¬ (headK l = 2 ∧ headK l.tail = 18)) : ruleRead l = (match pf (6 * l.length + 5) 0 .nil l with | .error q => .error q | .ok (f, l1) => .ok (⟨0, false, tk0, [], 0, f⟩, l1)) := by
 unfold ruleRead; rw [if_neg h]
 cases pf (6 * l.length + 5) 0 .nil l <;> rfl
structure RuMid (L : List Tk) (pb g cap : Nat) (w wc : World) (rb vb : Nat) (t : Tk) (x : Except Nat (Rl × List Tk)) : Prop where
 gr : w.grownBy wc (some pb)
 rbx : wc.heap[rb]? = some (rbl tk0 none none 0 0 none)
 ex : ∃ fp no nn nc cp B j b q NM, wc.heap[vb]? = some (rbl t fp no nn nc cp) ∧ PP wc pb g cap B L j b q NM ∧
  ((b = false ∧ q = 0 ∧ ∃ rl, x = .ok (rl, PL L j) ∧ RsIs wc rl fp no nn nc cp) ∨ (b = true ∧ j = L.length - 1 ∧ x = .error q))
set_option maxHeartbeats 4000000 in
set_option maxRecDepth 100000 in
theorem prule_any (w : World) (pb g cap B : Nat) (L : List Tk) (i : Nat) (NM : List Tk) (t : Tk) (r : List Tk) (h : PP w pb g cap B L i false 0 NM) (ht : PL L i = t :: r) (hk : t.k = 5) :
  Calls Tryz.prog 156 #[.pointer (some ⟨pb, 0, none⟩)] w fun e w' => RuPost L pb g cap w w' t e (ruleRead r) := by
 have hp0 := h.pLt
 have hr := PL_next ht (by omega)
 have hlt1 := h.fe.nextLt ht (by omega)
 obtain ⟨t1, r1, ht1⟩ := PL_some h.fe hlt1
 have hr1 : r = t1 :: r1 := by rw [← hr]; exact ht1
 have HP := hide h
 have HT := hide ht
 have HT1 := hide ht1
 have HK := hide hk
 have HR := hide hr
 have HR1 := hide hr1
 clear h ht hk ht1 hr hr1
 go_enter Tryz.func156, Tryz.ntmps156
 go_wp2_with fail
 refine (ptake_yes 5 _ _ _ _ _ _ _ _ _ _ _ _ ((unhide HP).alloc _) (unhide HT) (unhide HK) (by decide)).mono ?_
 rintro e w1 ⟨rfl, hm1⟩
 have HM1 := hide (((Mv.refl w pb g cap L.length i false 0).alloc _).trans hm1)
 have HP1 := hide (((unhide HP).alloc _).step hm1 (unhide HT) (by have := unhide HK; omega))
 have hrb1 : w1.heap[w.heap.size]? = some (rbl tk0 none none 0 0 none) := (hm1.gr.block w.heap.size (by simp) (by simp; omega)).trans (blk_alloc _ _)
 have HRB1 := hide hrb1
 have hz1 : w.heap.size < w1.heap.size := lt_of_blk hrb1
 clear hm1 hrb1
 simp only [tkP]
 go_upto_region 2 with fail
 obtain ⟨cc, hcc⟩ : ∃ cc, cc = decide (headK r = 2 ∧ headK r.tail = 18) := ⟨_, rfl⟩
 have HCC := hide hcc
 clear hcc
 go_cut [19] (fun c wc => c = .bool cc ∧ wc = w1.alloc (.cells #[.int .i64 t.k, .string t.s, .int .i64 t.p, .pointer none, .slice none 0 0, .pointer none] 205))
 case first =>
  obtain ⟨no, nn, nc, hb1, _⟩ := (unhide HP1).blk
  have bc := fun o => cell_of_blk hb1 o
  have hpb1 := (unhide HP1).pLt
  have hg1 := (unhide HP1).gLt
  have hlen := (unhide HP1).len
  clear hb1
  by_cases hn : t1.k = 2
  ·have hlt2 := (unhide HP).fe.nextLt (unhide HT1) (by omega)
   have hnn := PL_next (unhide HT1) (by omega)
   obtain ⟨u, r2, hu⟩ := PL_some (unhide HP).fe hlt2
   have hr2 : r1 = u :: r2 := by rw [← hnn]; exact hu
   obtain ⟨r3, hr3⟩ := PL_head hu
   obtain ⟨c0, c1, c2⟩ := row_tok (unhide HP1).row hr3
   have e2 : ((t1.k : Int) == 2) = true := beqT (c := 2) hn
   have c0' : w1.cell? ⟨g, (i + 1) * 3 + 3, none⟩ = some (.int .i64 u.k) := by rw [← c0]; congr 2; omega
   have hh : headK r = 2 := by rw [unhide HR1]; exact hn
   have hh2 : headK r.tail = u.k := by rw [unhide HR1, hr2]; rfl
   have HH := hide hh
   have HH2 := hide hh2
   clear hn hnn hu hr2 hr3 hh hh2 c0 c1 c2
   go_wp2_with (go_at_call 155; refine (pnext_any _ _ _ _ _ _ _ _ _ _ _ _ ((unhide HP1).alloc _) (unhide HT1)).mono ?_; rintro e w' ⟨rfl, rfl⟩)
   go_meet
   refine ⟨?_, rfl⟩
   congr 1
   rw [unhide HCC, unhide HH, unhide HH2]
   simp only [true_and]
   rw [Bool.eq_iff_iff]
   simp
   omega
  ·have e2 : ((t1.k : Int) == 2) = false := beqF (c := 2) hn
   have hh : ¬ headK r = 2 := by rw [unhide HR1]; exact hn
   have HH := hide hh
   clear hn hh
   go_wp2_with (go_at_call 155; refine (pnext_any _ _ _ _ _ _ _ _ _ _ _ _ ((unhide HP1).alloc _) (unhide HT1)).mono ?_; rintro e w' ⟨rfl, rfl⟩)
   go_meet
   exact ⟨by rw [unhide HCC, decide_eq_false (fun e => unhide HH e.1)], rfl⟩
 case rest =>
  obtain ⟨rfl, rfl⟩ := hcut
  go_upto_if 19 with fail
  go_cut [] (fun wc => RuMid L pb g cap w wc w.heap.size w1.heap.size t (ruleRead r))
  case first =>
   by_cases hcall : headK r = 2 ∧ headK r.tail = 18
   ·have hd : cc = true := (unhide HCC).trans (decide_eq_true hcall)
    subst hd
    obtain ⟨u, v, r2, hr2, hku⟩ : ∃ u v r2, r = t1 :: u :: v :: r2 ∧ u.k = 18 := by
     have hen := PL_ends (unhide HP).fe hlt1
     rw [unhide HT1] at hen
     have h1 : t1.k = 2 := by have := hcall.1; rw [unhide HR1] at this; exact this
     obtain ⟨u, r2, hr2⟩ := Ends.more hen (by omega)
     subst hr2
     have h2 : u.k = 18 := by have := hcall.2; rw [unhide HR1] at this; exact this
     obtain ⟨v, r3, hr3⟩ := Ends.more (hen.tail (by omega)) (by omega)
     subst hr3
     exact ⟨u, v, r3, unhide HR1, h2⟩
    have hk1 : t1.k = 2 := by have := hcall.1; rw [unhide HR1] at this; exact this
    have hpl : PL L (i + 1) = t1 :: u :: v :: r2 := by rw [unhide HR]; exact hr2
    have HPL := hide hpl
    have HK1 := hide hk1
    have HKU := hide hku
    clear hcall hr2 hku hpl hk1
    go_wp2_with fail
    refine (pcall_any _ pb g cap B L (i + 1) NM t1 u v r2 ((unhide HP1).alloc _) (unhide HPL) (unhide HK1) (unhide HKU)).mono ?_
    rintro e w2 ⟨cb, args, x, j, b, q, rfl, hcbw, ⟨ao, an, ac, hcb, hown⟩, hm2, hout⟩
    have hvb2 : w2.heap[w1.heap.size]? = some (rbl t none none 0 0 none) := (hm2.gr.block w1.heap.size (by simp) (by have := (unhide HP1).pLt; simp; omega)).trans (blk_alloc _ _)
    have hrb2 : w2.heap[w.heap.size]? = some (rbl tk0 none none 0 0 none) := (hm2.gr.block w.heap.size (by simp; omega) (by simp; omega)).trans ((Below.heap_alloc _ _ _ hz1).trans (unhide HRB1))
    have HM2 := hide hm2
    have HVB2 := hide hvb2
    have HRB2 := hide hrb2
    have HCB := hide hcb
    have HOWN := hide hown
    have HOUT := hide hout
    unfold rbl at hvb2
    have vc := fun o => cell_of_blk hvb2 o
    have vf := fun o => frozen_of_blk hvb2 o
    have hvl : w1.heap.size < w2.heap.size := lt_of_blk hvb2
    clear hm2 hvb2 hrb2 hcb hown hout
    go_wp2_with fail
    go_meet
    have hj : j < L.length := by
     rcases unhide HOUT with ⟨_, _, h, _⟩ | ⟨_, h, _⟩
     ·exact h.1
     ·omega
    have hcbv : cb ≠ w1.heap.size := by simp at hcbw; omega
    have hgr : w1.grownBy w2 (some pb) := (((Mv.refl w1 pb g cap L.length (i + 1) false 0).alloc _).trans (unhide HM2)).gr
    have hkq : KQ w2 (w2.setCell ⟨w1.heap.size, 5, none⟩ (.pointer (some ⟨cb, 0, none⟩))) := KQ.set (unhide HVB2) (by decide) (by decide) (by decide) _ _
    refine ⟨grown_setNew ((unhide HM1).gr.trans hgr) (by omega) _ _, (Below.heap_setCell _ _ _ _ (by show w.heap.size ≠ w1.heap.size; omega)).trans (unhide HRB2), none, none, 0, 0, some ⟨cb, 0, none⟩, B, j, b, q, NM, blk_set (unhide HVB2) 5 _, ?_, ?_⟩
    ·refine ((unhide HP1).move (((Mv.refl w1 pb g cap L.length (i + 1) false 0).alloc _).trans (unhide HM2)) hj ?_).setTy (unhide HVB2) (by decide) (by decide) _ _
     intro e
     rcases unhide HOUT with ⟨_, _, h, _⟩ | ⟨h, _, _⟩
     ·have h1 := (unhide HP1).nm rfl
      omega
     ·rw [h] at e; cases e
    ·rcases unhide HOUT with ⟨h1, h2, _, h4⟩ | ⟨h1, h2, h3⟩
     ·refine Or.inl ⟨h1, h2, _, by rw [← unhide HR]; exact h4, ?_⟩
      refine RsIs.keep hkq ?_
      unfold RsIs
      rw [if_pos rfl]
      exact ⟨⟨cb, ao, an, ac, x, rfl, unhide HCB, rfl, owns_mono (unhide HOWN) (Nat.zero_le _)⟩, rfl, rfl, rfl, rfl⟩
     ·exact Or.inr ⟨h1, h2, by rw [← unhide HR]; exact h3⟩
   ·have hd : cc = false := (unhide HCC).trans (decide_eq_false hcall)
    subst hd
    have HRR := hide (ruleRead_form hcall)
    have hpc := (unhide HP1).clear.alloc (rbl t none none 0 0 none)
    have HPC := hide hpc
    obtain ⟨no1, nn1, nc1, hb1, _⟩ := (unhide HP1).blk
    have bc := fun o => cell_of_blk hb1 o
    have bf := fun o => frozen_of_blk hb1 o
    have hpb1 := (unhide HP1).pLt
    clear hcall hpc hb1
    go_wp2_with fail
    refine (pformula_any (6 * (PL L (i + 1)).length + 5) _ _ _ _ _ _ _ _ (unhide HPC) (Nat.le_refl _)).mono ?_
    rintro e w3 ⟨hf3, p3, rfl, hx3⟩
    rw [unhide HR] at hx3
    clear bc bf
    have hsz : (w1.setCell ⟨pb, 3, none⟩ (.slice none 0 0)).heap.size = w1.heap.size := by simp [World.setCell]
    have hvb3 : w3.heap[w1.heap.size]? = some (rbl t none none 0 0 none) := (hf3.keep w1.heap.size (by simp [World.setCell]) (by omega) (Or.inr (ty_ne (blk_alloc' _ (rbl t none none 0 0 none) _ hsz.symm) (by decide)))).trans (blk_alloc' _ _ _ hsz.symm)
    have hrb3 : w3.heap[w.heap.size]? = some (rbl tk0 none none 0 0 none) := (hf3.keep w.heap.size (by simp [World.setCell]; omega) (by omega) (Or.inl hz1)).trans ((Below.heap_alloc _ _ _ (by rw [hsz]; exact hz1)).trans ((Below.heap_setCell _ _ _ _ (by show w.heap.size ≠ pb; omega)).trans (unhide HRB1)))
    have hgr3 : w.grownBy w3 (some pb) := PF.from (grown_alloc ((unhide HM1).gr.trans (grown_set _ _ _ _)) _) hf3 (by omega)
    have hmid : ∃ j b q NM3, PP w3 pb g cap w1.heap.size L j b q NM3 ∧ ((b = false ∧ q = 0 ∧ ∃ f, ruleRead r = .ok (⟨0, false, tk0, [], 0, f⟩, PL L j) ∧ IsG w3 f p3 ∧ NM3 = lvs f) ∨ (b = true ∧ j = L.length - 1 ∧ ruleRead r = .error q)) := by
     rw [unhide HRR]
     cases hpf : pf (6 * r.length + 5) 0 .nil r with
     | error q =>
      rw [hpf] at hx3
      obtain ⟨NM3, hp3⟩ := hx3
      exact ⟨_, _, q, NM3, hp3, Or.inr ⟨rfl, rfl, rfl⟩⟩
     | ok x =>
      obtain ⟨f, l1⟩ := x
      rw [hpf] at hx3
      obtain ⟨hg3, j, hl3, hp3⟩ := hx3
      subst hl3
      exact ⟨j, false, 0, _, hp3, Or.inl ⟨rfl, rfl, f, rfl, hg3, rfl⟩⟩
    obtain ⟨j, b, q, NM3, hp3, hout⟩ := hmid
    obtain ⟨no, nn, nc, hb3, hown3⟩ := hp3.blk
    have bc := fun o => cell_of_blk hb3 o
    have hpb3 := hp3.pLt
    have HP3 := hide hp3
    have HOWN3 := hide hown3
    have HOUT := hide hout
    have HVB3 := hide hvb3
    have HRB3 := hide hrb3
    have HGR3 := hide hgr3
    unfold rbl at hvb3
    have vc := fun o => cell_of_blk hvb3 o
    have vf := fun o => frozen_of_blk hvb3 o
    have hvl : w1.heap.size < w3.heap.size := lt_of_blk hvb3
    have hnev : pb ≠ w1.heap.size := by omega
    clear hf3 hx3 hvb3 hrb3 hgr3 hout hp3 hb3 hown3 hsz
    go_wp2_with fail
    go_meet
    have hk1 := (KQ.set (unhide HVB3) (by decide) (by decide) (by decide) 3 (.pointer p3)).trans (KQ.set (blk_set (unhide HVB3) 3 (.pointer p3)) (by decide) (by decide) (by decide) 4 (.slice no nn nc))
    refine ⟨grown_setNew (grown_setNew (unhide HGR3) (by omega) _ _) (by omega) _ _, (Below.heap_setCell _ _ _ _ (by show w.heap.size ≠ w1.heap.size; omega)).trans ((Below.heap_setCell _ _ _ _ (by show w.heap.size ≠ w1.heap.size; omega)).trans (unhide HRB3)), p3, no, nn, nc, none, w1.heap.size, j, b, q, NM3, blk_set (blk_set (unhide HVB3) 3 _) 4 _, ?_, ?_⟩
    ·exact ((unhide HP3).setTy (unhide HVB3) (by decide) (by decide) _ _).setTy (blk_set (unhide HVB3) 3 _) (by decide) (by decide) _ _
    ·rcases unhide HOUT with ⟨h1, h2, f, h4, h5, h6⟩ | h
     ·refine Or.inl ⟨h1, h2, _, h4, ?_⟩
      refine RsIs.keep hk1 ?_
      unfold RsIs
      rw [if_neg (by intro e; cases e)]
      subst h6
      exact ⟨rfl, h5, owns_mono (unhide HOWN3) (Nat.zero_le _)⟩
     ·exact Or.inr h
  case rest =>
   obtain ⟨hgr, hrb, fp, no, nn, nc, cp, B2, j, b, q, NM2, hvb, hpp, hout⟩ := hcut
   obtain ⟨y, r5, hy⟩ := PL_some hpp.fe hpp.lt
   obtain ⟨j2, b2, q2, hs⟩ := Stp_ex (y.k = 21) y L.length j b q
   have HY := hide hy
   have HS := hide hs
   have HPP := hide hpp
   have HGR := hide hgr
   have HRB := hide hrb
   have HVB := hide hvb
   have HOUT := hide hout
   clear hy hs hpp hgr hrb hvb hout
   go_wp2_with fail
   refine (ptake_any 21 _ pb g cap B2 L j b q NM2 y r5 (unhide HPP) (unhide HY) (by decide) j2 b2 q2 (unhide HS)).mono ?_
   rintro e w4 ⟨rfl, hm4⟩
   have hvb4 := (hm4.gr.block w1.heap.size (lt_of_blk (unhide HVB)) (by have := (unhide HP1).pLt; simp; omega)).trans (unhide HVB)
   have hrb4 := (hm4.gr.block w.heap.size (lt_of_blk (unhide HRB)) (by simp; omega)).trans (unhide HRB)
   have HM4 := hide hm4
   have HVB4 := hide hvb4
   have HRB4 := hide hrb4
   unfold rbl at hvb4 hrb4
   unfold tk0 at hrb4
   have vc := fun o => cell_of_blk hvb4 o
   have rc := fun o => cell_of_blk hrb4 o
   have rf := fun o => frozen_of_blk hrb4 o
   have hvl : w1.heap.size < w4.heap.size := lt_of_blk hvb4
   have hrl : w.heap.size < w4.heap.size := lt_of_blk hrb4
   clear hm4 hvb4 hrb4
   simp only [tkP]
   go_wp2_with fail
   have hfin := blk_set6 (unhide HRB4) (.int .i64 t.k) (.string t.s) (.int .i64 t.p) (.pointer fp) (.slice no nn nc) (.pointer cp)
   have rc2 := fun o => cell_of_blk hfin o
   clear rc
   unfold set6 at rc2
   refine bodyPost_ret (v := .agg #[.int .i64 t.k, .string t.s, .int .i64 t.p, .pointer fp, .slice no nn nc, .pointer cp]) (by simp [results, Tryz.results156, go_sem, rc2]) rfl ?_
   have hpp4 := (unhide HPP).stp (unhide HY) (fun e => by omega) (unhide HS) (unhide HM4)
   have hpp5 := hpp4.set6 (unhide HRB4) (by decide) (by decide) (.int .i64 t.k) (.string t.s) (.int .i64 t.p) (.pointer fp) (.slice no nn nc) (.pointer cp)
   have hkq := ((unhide HPP).kq (unhide HM4).gr).trans (KQ.set6 (unhide HRB4) (by decide) (by decide) (by decide) (.int .i64 t.k) (.string t.s) (.int .i64 t.p) (.pointer fp) (.slice no nn nc) (.pointer cp))
   refine ⟨grown_set6 ((unhide HGR).trans (unhide HM4).gr) (Nat.le_refl _) _ _ _ _ _ _, fp, no, nn, nc, cp, rfl, ?_⟩
   have hyk : headK (PL L j) = y.k := by rw [unhide HY]; rfl
   have hyp : headP (PL L j) = y.p := by rw [unhide HY]; rfl
   rcases unhide HOUT with ⟨rfl, rfl, rl, hx, hrs⟩ | ⟨rfl, rfl, hx⟩
   ·rcases unhide HS with ⟨hk, rfl, rfl, rfl⟩ | ⟨hk, rfl, rfl, rfl⟩
    ·exact Or.inl ⟨rl, _, hx, by rw [hyk]; exact hk, hrs.keep hkq, B2, j + 1, NM2, by rw [unhide HY]; exact PL_next (unhide HY) (by omega), hpp5⟩
    ·exact Or.inr (Or.inl ⟨rl, _, hx, by rw [hyk]; exact hk, B2, NM2, by rw [hyp]; exact hpp5⟩)
   ·obtain ⟨e0, he0, hek⟩ := PL_last (unhide HPP).fe
    rw [unhide HY] at he0
    have hye : y = e0 := (List.cons.inj he0).1
    rcases unhide HS with ⟨hk, _⟩ | ⟨hk, rfl, rfl, rfl⟩
    ·rw [hye] at hk; omega
    ·exact Or.inr (Or.inr ⟨_, hx, B2, NM2, hpp5⟩)
theorem cut_len : ∀ l : List Tk, (cut l).length ≤ l.length
 | [] => Nat.le_refl _
 | t :: r => by
  rw [cut]
  split
  ·simp
  ·simp; exact cut_len r
theorem PL_len (L : List Tk) (i : Nat) : (PL L i).length ≤ L.length := by
 unfold PL; have := cut_len (L.drop i); rw [List.length_drop] at this; omega
def actsC (m : Nat) (A : List Tk) (l : List Tk) : Except Nat (List Tk × List Tk) := if headK l = 20 then plusA A (actsRead m l.tail) else .ok (A, l)
theorem actsRead_C (m : Nat) (v : Tk) (r : List Tk) (A : List Tk) (hv : v.k = 2) : plusA A (actsRead (m + 1) (v :: r)) = actsC m (A ++ [v]) r := by
 have h1 : headK (v :: r) = 2 := hv
 rw [actsRead, if_pos h1]
 unfold actsC
 by_cases h : headK r = 20
 ·rw [if_pos (show headK (v :: r).tail = 20 from h), if_pos h]
  show plusA A (match actsRead m r.tail with | .error q => .error q | .ok (ts, l1) => .ok (v :: ts, l1)) = _
  cases actsRead m r.tail with
  | error q => rfl
  | ok x => show Except.ok _ = Except.ok _; simp
 ·rw [if_neg (show ¬ headK (v :: r).tail = 20 from h), if_neg h]; rfl
theorem actsRead_E (m : Nat) (v : Tk) (r : List Tk) (A : List Tk) (hv : v.k ≠ 2) : plusA A (actsRead m (v :: r)) = .error v.p := by
 cases m with
 | zero => rfl
 | succ m => rw [actsRead, if_neg (show ¬ headK (v :: r) = 2 from hv)]; rfl
def ActsAt (L : List Tk) (m : Nat) (A : List Tk) (j : Nat) (b : Bool) (q : Nat) : Prop :=
 (b = false ∧ q = 0 ∧ A.length + (PL L j).length ≤ 401 ∧ (PL L j).length ≤ m ∧ actsX (PL L 0) = actsC m A (PL L j)) ∨ (b = true ∧ j = L.length - 1 ∧ actsX (PL L 0) = .error q)
theorem last_of {L : List Tk} (hfe : FE L) {y : Tk} {r : List Tk} (hy : PL L (L.length - 1) = y :: r) : y.k = 0 := by
 obtain ⟨e, he, hek⟩ := PL_last hfe
 rw [hy] at he
 rw [(List.cons.inj he).1]; exact hek
theorem acts_first {L : List Tk} (hfe : FE L) (hlen : L.length ≤ 401) {t v : Tk} {r r1 : List Tk} (ht : PL L 0 = t :: r) {j0 : Nat} {b0 : Bool} {q0 : Nat} (hs0 : Stp (t.k = 4) t L.length 0 false 0 j0 b0 q0) (hv : PL L j0 = v :: r1)
  {j1 : Nat} {b1 : Bool} {q1 : Nat} (hs1 : Stp (v.k = 2) v L.length j0 b0 q0 j1 b1 q1) : ActsAt L ((PL L 0).length - 1) [v] j1 b1 q1 := by
 have h0 := PL_len L 0
 rcases hs0 with ⟨h4, rfl, rfl, rfl⟩ | ⟨h4, rfl, rfl, rfl⟩
 ·have hr : r = v :: r1 := by rw [← PL_next ht (by omega)]; exact hv
  subst hr
  have hx : actsX (PL L 0) = plusA [] (actsRead (r1.length + 1 + 1) (v :: r1)) := by
   unfold actsX
   rw [ht, if_pos (show headK (t :: v :: r1) = 4 from h4)]
   show actsRead (r1.length + 1 + 1) (v :: r1) = _
   cases actsRead (r1.length + 1 + 1) (v :: r1) <;> rfl
  rcases hs1 with ⟨hk, rfl, rfl, rfl⟩ | ⟨hk, rfl, rfl, rfl⟩
  ·have hr1 := PL_next hv (by omega)
   refine Or.inl ⟨rfl, rfl, ?_, ?_, ?_⟩
   ·rw [hr1]; rw [ht] at h0; simp at h0 ⊢; omega
   ·rw [hr1, ht]; simp
   ·rw [hx, ht, hr1]
    show _ = actsC (r1.length + 1) [v] r1
    rw [actsRead_C _ _ _ _ hk]; rfl
  ·exact Or.inr ⟨rfl, rfl, by rw [hx, actsRead_E _ _ _ _ hk]; rfl⟩
 ·have := last_of hfe hv
  rcases hs1 with ⟨hk, _⟩ | ⟨hk, rfl, rfl, rfl⟩
  ·omega
  ·refine Or.inr ⟨rfl, rfl, ?_⟩
   unfold actsX
   rw [ht, if_neg (show ¬ headK (t :: r) = 4 from h4)]; rfl
theorem acts_round {L : List Tk} (hfe : FE L) {m : Nat} {A : List Tk} {j : Nat} {b : Bool} {q : Nat} (h : ActsAt L m A j b q) {y v : Tk} {r r1 : List Tk} (hy : PL L j = y :: r) (h20 : y.k = 20) (hv : PL L (j + 1) = v :: r1)
  {j2 : Nat} {b2 : Bool} {q2 : Nat} (hs : Stp (v.k = 2) v L.length (j + 1) b q j2 b2 q2) : 1 ≤ m ∧ A.length ≤ 400 ∧ ActsAt L (m - 1) (A ++ [v]) j2 b2 q2 := by
 rcases h with ⟨rfl, rfl, h3, h4, h5⟩ | ⟨rfl, rfl, _⟩
 ·have hr : r = v :: r1 := by rw [← PL_next hy (by omega)]; exact hv
  subst hr
  rw [hy] at h3 h4 h5
  simp at h3 h4
  obtain ⟨m', rfl⟩ : ∃ m', m = m' + 1 := ⟨m - 1, by omega⟩
  have hx : actsX (PL L 0) = plusA A (actsRead (m' + 1) (v :: r1)) := by
   rw [h5]; unfold actsC; rw [if_pos (show headK (y :: v :: r1) = 20 from h20)]; rfl
  refine ⟨by omega, by omega, ?_⟩
  rcases hs with ⟨hk, rfl, rfl, rfl⟩ | ⟨hk, rfl, rfl, rfl⟩
  ·have hr1 := PL_next hv (by omega)
   refine Or.inl ⟨rfl, rfl, ?_, ?_, ?_⟩
   ·rw [hr1]; simp; omega
   ·rw [hr1]; simp; omega
   ·rw [hx, hr1]
    exact actsRead_C _ _ _ _ hk
  ·exact Or.inr ⟨rfl, rfl, by rw [hx, actsRead_E _ _ _ _ hk]; rfl⟩
 ·have := last_of hfe hy; omega
theorem acts_end {L : List Tk} {m : Nat} {A : List Tk} {j : Nat} {b : Bool} {q : Nat} (h : ActsAt L m A j b q) {y : Tk} {r : List Tk} (hy : PL L j = y :: r) (h20 : y.k ≠ 20) :
  (b = false ∧ q = 0 ∧ A.length ≤ 401 ∧ actsX (PL L 0) = .ok (A, PL L j)) ∨ (b = true ∧ j = L.length - 1 ∧ actsX (PL L 0) = .error q) := by
 rcases h with ⟨h1, h2, h3, h4, h5⟩ | h
 ·refine Or.inl ⟨h1, h2, by omega, ?_⟩
  rw [h5]; unfold actsC; rw [hy, if_neg (show ¬ headK (y :: r) = 20 from h20)]
 ·exact Or.inr h
def ModAt (L : List Tk) (m : Nat) (al : List Tk) (rs : List Rl) (j : Nat) (b : Bool) (q : Nat) : Prop :=
 (b = false ∧ q = 0 ∧ rs.length + (PL L j).length ≤ 401 ∧ (PL L j).length ≤ m ∧ modelRead (PL L 0) = plusR al rs (rulesRead m (PL L j))) ∨ (b = true ∧ j = L.length - 1 ∧ modelRead (PL L 0) = .error q)
theorem mod_first {L : List Tk} (hfe : FE L) (hlen : L.length ≤ 401) {A : List Tk} {j : Nat} {b : Bool} {q : Nat} (h : (b = false ∧ q = 0 ∧ A.length ≤ 401 ∧ actsX (PL L 0) = .ok (A, PL L j)) ∨ (b = true ∧ j = L.length - 1 ∧ actsX (PL L 0) = .error q))
  {y : Tk} {r : List Tk} (hy : PL L j = y :: r) {j2 : Nat} {b2 : Bool} {q2 : Nat} (hs : Stp (y.k = 21) y L.length j b q j2 b2 q2) : ModAt L (PL L j).length A [] j2 b2 q2 := by
 have hl := PL_len L j2
 rcases h with ⟨rfl, rfl, _, h4⟩ | ⟨rfl, rfl, h3⟩
 ·have hm : modelRead (PL L 0) = if headK (PL L j) = 21 then plusR A [] (rulesRead (PL L j).length (PL L j).tail) else .error (headP (PL L j)) := by rw [modelRead_eq, h4]
  rcases hs with ⟨hk, rfl, rfl, rfl⟩ | ⟨hk, rfl, rfl, rfl⟩
  ·have hr := PL_next hy (by omega)
   refine Or.inl ⟨rfl, rfl, ?_, ?_, ?_⟩
   ·simp; omega
   ·rw [hr, hy]; simp
   ·rw [hm, hr, hy, if_pos (show headK (y :: r) = 21 from hk)]; rfl
  ·refine Or.inr ⟨rfl, rfl, ?_⟩
   rw [hm, hy, if_neg (show ¬ headK (y :: r) = 21 from hk)]; rfl
 ·have := last_of hfe hy
  rcases hs with ⟨hk, _⟩ | ⟨hk, rfl, rfl, rfl⟩
  ·omega
  ·exact Or.inr ⟨rfl, rfl, by rw [modelRead_eq, h3]⟩
theorem rulesRead_5 (m : Nat) (t : Tk) (r : List Tk) (h5 : t.k = 5) : rulesRead (m + 1) (t :: r) = (match ruleRead r with
   | .error q => .error q
   | .ok (rl, l1) => if headK l1 = 21 then (match rulesRead m l1.tail with | .error q => .error q | .ok rs => .ok ({ rl with pl := t.p } :: rs)) else .error (headP l1)) := by
 rw [rulesRead, if_neg (show ¬ headK (t :: r) = 0 by show ¬ t.k = 0; omega), if_pos (show headK (t :: r) = 5 from h5)]
 simp only [List.tail_cons]
 cases ruleRead r with
 | error q => rfl
 | ok x => rfl
theorem mod_good {L : List Tk} {m : Nat} {al : List Tk} {rs : List Rl} {j : Nat} {b : Bool} {q : Nat} (hfe : FE L) (h : ModAt L m al rs j b q) {t : Tk} {r : List Tk} (ht : PL L j = t :: r) (h5 : t.k = 5) :
  b = false ∧ q = 0 ∧ rs.length ≤ 400 ∧ ∃ m', m = m' + 1 ∧ rs.length + r.length ≤ 400 ∧ r.length ≤ m' ∧ modelRead (PL L 0) = plusR al rs (rulesRead (m' + 1) (t :: r)) := by
 rcases h with ⟨rfl, rfl, h3, h4, h6⟩ | ⟨rfl, rfl, _⟩
 ·rw [ht] at h3 h4 h6
  simp at h3 h4
  exact ⟨rfl, rfl, by omega, m - 1, by omega, by omega, by omega, by rw [h6]; congr 2; omega⟩
 ·have := last_of hfe ht; omega
theorem mod_ok {L : List Tk} {m' : Nat} {al : List Tk} {rs : List Rl} {t : Tk} {r : List Tk} (h5 : t.k = 5) (hl : rs.length + r.length ≤ 400) (hl2 : r.length ≤ m') (h : modelRead (PL L 0) = plusR al rs (rulesRead (m' + 1) (t :: r)))
  {rl : Rl} {l1 : List Tk} (hr : ruleRead r = .ok (rl, l1)) (h21 : headK l1 = 21) {j2 : Nat} (hj : PL L j2 = l1.tail) : ModAt L m' al (rs ++ [{ rl with pl := t.p }]) j2 false 0 := by
 have hlen := ruleRead_len r rl l1 hr
 have hl1 : l1.tail.length + 1 = l1.length := headK_len (by omega)
 refine Or.inl ⟨rfl, rfl, ?_, ?_, ?_⟩
 ·rw [hj]; simp; simp at hl1; omega
 ·rw [hj]; omega
 ·rw [h, rulesRead_5 _ _ _ h5, hr, hj]
  show plusR al rs (if headK l1 = 21 then _ else _) = _
  rw [if_pos h21]
  cases rulesRead m' l1.tail with
  | error q => rfl
  | ok x => show Except.ok _ = Except.ok _; simp
theorem mod_no {L : List Tk} {m' : Nat} {al : List Tk} {rs rs' : List Rl} {t : Tk} {r : List Tk} (h5 : t.k = 5) (h : modelRead (PL L 0) = plusR al rs (rulesRead (m' + 1) (t :: r)))
  {q : Nat} (hr : (∃ rl l1, ruleRead r = .ok (rl, l1) ∧ headK l1 ≠ 21 ∧ q = headP l1) ∨ ruleRead r = .error q) : ModAt L m' al rs' (L.length - 1) true q := by
 refine Or.inr ⟨rfl, rfl, ?_⟩
 rw [h, rulesRead_5 _ _ _ h5]
 rcases hr with ⟨rl, l1, hr, hk, rfl⟩ | hr
 ·rw [hr]
  show plusR al rs (if headK l1 = 21 then _ else _) = _
  rw [if_neg hk]; rfl
 ·rw [hr]; rfl
theorem mod_end {L : List Tk} (hfe : FE L) {m : Nat} {al : List Tk} {rs : List Rl} {j : Nat} {b : Bool} {q : Nat} (h : ModAt L m al rs j b q) {t : Tk} {r : List Tk} (ht : PL L j = t :: r) (h5 : t.k ≠ 5) :
  (t.k = 0 ∧ b = false ∧ modelRead (PL L 0) = .ok (al, rs)) ∨ (t.k ≠ 0 ∧ b = false ∧ q = 0 ∧ modelRead (PL L 0) = .error t.p) ∨ (t.k = 0 ∧ b = true ∧ modelRead (PL L 0) = .error q) := by
 rcases h with ⟨rfl, rfl, h3, h4, h6⟩ | ⟨rfl, rfl, h3⟩
 ·rw [ht] at h4 h6
  obtain ⟨m', rfl⟩ : ∃ m', m = m' + 1 := ⟨m - 1, by simp at h4; omega⟩
  by_cases h0 : t.k = 0
  ·refine Or.inl ⟨h0, rfl, ?_⟩
   rw [h6, rulesRead, if_pos (show headK (t :: r) = 0 from h0)]
   simp [plusR]
  ·refine Or.inr (Or.inl ⟨h0, rfl, rfl, ?_⟩)
   rw [h6, rulesRead, if_neg (show ¬ headK (t :: r) = 0 from h0), if_neg (show ¬ headK (t :: r) = 5 from h5)]; rfl
 ·exact Or.inr (Or.inr ⟨last_of hfe ht, rfl, h3⟩)
def RulesP (w : World) : List Rl → List Value → Prop
 | [], cs => cs = []
 | r :: rs, cs => ∃ k s fp no nn nc cp rest, cs = .int .i64 k :: .string s :: .int .i64 r.pl :: .pointer fp :: .slice no nn nc :: .pointer cp :: rest ∧ RsIs w r fp no nn nc cp ∧ RulesP w rs rest
theorem RulesP.keep {w w' : World} (h : KQ w w') : ∀ {rs : List Rl} {cs : List Value}, RulesP w rs cs → RulesP w' rs cs
 | [], _, h1 => h1
 | _ :: _, _, ⟨k, s, fp, no, nn, nc, cp, rest, e, hr, hrs⟩ => ⟨k, s, fp, no, nn, nc, cp, rest, e, hr.keep h, RulesP.keep h hrs⟩
theorem RulesP.snoc {w : World} : ∀ {rs : List Rl} {cs : List Value} {r : Rl} {k : Int} {s : ByteArray} {fp no : Option Addr} {nn nc : Nat} {cp : Option Addr}, RulesP w rs cs → RsIs w r fp no nn nc cp →
  RulesP w (rs ++ [r]) (cs ++ [.int .i64 k, .string s, .int .i64 r.pl, .pointer fp, .slice no nn nc, .pointer cp])
 | [], _, _, k, s, fp, no, nn, nc, cp, h, hr => by cases h; exact ⟨k, s, fp, no, nn, nc, cp, [], rfl, hr, rfl⟩
 | _ :: _, _, r, k', s', fp', no', nn', nc', cp', ⟨k, s, fp, no, nn, nc, cp, rest, e, h1, h2⟩, hr => ⟨k, s, fp, no, nn, nc, cp, rest ++ [.int .i64 k', .string s', .int .i64 r.pl, .pointer fp', .slice no' nn' nc', .pointer cp'], by subst e; rfl, h1, RulesP.snoc h2 hr⟩
theorem RsIs.pl {w : World} {r : Rl} {fp no : Option Addr} {nn nc : Nat} {cp : Option Addr} (h : RsIs w r fp no nn nc cp) (p : Nat) : RsIs w { r with pl := p } fp no nn nc cp := h
def sbl (o1 : Option Addr) (n1 k1 : Nat) (o2 : Option Addr) (n2 k2 : Nat) : Obj := .cells #[.slice o1 n1 k1, .slice o2 n2 k2] 128 (0, 0)
structure MA (w wc : World) (pb g cap : Nat) (L A : List Tk) (j : Nat) (b : Bool) (q : Nat) : Prop where
 rbx : wc.heap[w.heap.size]? = some (sbl none 0 0 none 0 0)
 sbx : ∃ o1 n1 k1, wc.heap[w.heap.size + 1]? = some (sbl o1 n1 k1 none 0 0) ∧ wc.ownsRow w.heap.size 201 3 (.slice o1 n1 k1) A.length (tkCellsP A)
 mv : Mv w wc pb g cap L.length 0 false 0 j b q
 lt : j < L.length
structure MB (w wc : World) (pb g cap : Nat) (L al : List Tk) (rs : List Rl) (j : Nat) (b : Bool) (q : Nat) : Prop where
 rbx : wc.heap[w.heap.size]? = some (sbl none 0 0 none 0 0)
 sbx : ∃ o1 n1 k1 o2 n2 k2 nR cells, wc.heap[w.heap.size + 1]? = some (sbl o1 n1 k1 o2 n2 k2) ∧ wc.ownsRow w.heap.size 205 6 (.slice o2 n2 k2) nR cells ∧
  (b = false → wc.ownsRow w.heap.size 201 3 (.slice o1 n1 k1) al.length (tkCellsP al) ∧ nR = rs.length ∧ RulesP wc rs cells)
 gr : w.grownBy wc (some pb)
 pp : ∃ B NM, PP wc pb g cap B L j b q NM
def MoPost (L : List Tk) (pb g cap : Nat) (w w' : World) (e : Ending) : Prop :=
 w.grownBy w' (some pb) ∧ ∃ o1 n1 k1 o2 n2 k2 b q, e = .returned (.agg #[.slice o1 n1 k1, .slice o2 n2 k2]) ∧ (∃ B j NM, PP w' pb g cap B L j b q NM) ∧
  ((b = false ∧ ∃ al rs cells, modelRead (PL L 0) = .ok (al, rs) ∧ w'.ownsRow 0 201 3 (.slice o1 n1 k1) al.length (tkCellsP al) ∧ w'.ownsRow 0 205 6 (.slice o2 n2 k2) rs.length cells ∧ RulesP w' rs cells) ∨ (b = true ∧ modelRead (PL L 0) = .error q))
theorem Tryz.infoRs : (Tryz.prog.info? 205).map (fun i => (i.zero, i.size, i.bytes)) = some (some (.agg #[.int .i64 0, .string ⟨#[]⟩, .int .i64 0, .pointer none, .slice none 0 0, .pointer none]), 6, 72) := by kernel_rfl
theorem PP.row' {w w' : World} {pb g cap B : Nat} {L : List Tk} {i : Nat} {bad : Bool} {q : Nat} {NM : List Tk} (h : PP w pb g cap B L i bad q NM) {base n : Nat} {v : Value} {xs : List Value} (ho : w.ownsRow base 205 6 v n xs) (hg : w.grownBy w' v.ownBlock) : PP w' pb g cap B L i bad q NM := by
 obtain ⟨no, nn, nc, hb, hn⟩ := h.blk
 obtain ⟨cur, h3, h4⟩ := h.row
 refine ⟨⟨no, nn, nc, (hg.block pb (lt_of_blk hb) (fun e => own_ty ho e.symm hb (by decide))).trans hb, owns_keep hn hg ?_⟩, ⟨cur, (hg.block g (lt_of_blk h3) (fun e => own_ty ho e.symm h3 (by decide))).trans h3, h4⟩, h.le, h.capLe, h.len, h.lt, h.fe, h.ok, h.gB, h.pB, Nat.le_trans h.hB hg.size, h.nm⟩
 cases hob : (Value.slice no nn nc).ownBlock with
 | none => exact Or.inl rfl
 | some k =>
  refine Or.inr (fun e => ?_)
  obtain ⟨_, c, m, hk⟩ := own_is hn hob
  exact own_ty ho e.symm hk (by decide)
theorem KQ.row {w w' : World} {base n : Nat} {v : Value} {xs : List Value} (ho : w.ownsRow base 205 6 v n xs) (hg : w.grownBy w' v.ownBlock) : KQ w w' :=
 KQ.grown hg (fun k e => by
  obtain ⟨_, c, m, hk⟩ := own_is ho e
  exact ⟨ty_ne hk (by decide), ty_ne hk (by decide), ty_ne hk (by decide)⟩)
theorem grown_row {w w1 w2 : World} {pb : Nat} (h : w.grownBy w1 (some pb)) {row : Option Nat} (hg : w1.grownBy w2 row) (hr : ∀ k, row = some k → w.heap.size ≤ k) : w.grownBy w2 (some pb) :=
 ⟨hg.os.trans h.os, hg.tape.trans h.tape, hg.output.trans h.output, Nat.le_trans h.size hg.size, fun k hk hne => (hg.block k (Nat.lt_of_lt_of_le hk h.size) (fun e => by have := hr k e.symm; omega)).trans (h.block k hk hne)⟩
set_option maxHeartbeats 8000000 in
set_option maxRecDepth 100000 in
theorem pmodel_any (w : World) (pb g cap B : Nat) (L : List Tk) (NM : List Tk) (h : PP w pb g cap B L 0 false 0 NM) :
  Calls Tryz.prog 114 #[.pointer (some ⟨pb, 0, none⟩)] w fun e w' => MoPost L pb g cap w w' e := by
 obtain ⟨i0, hi, hz0, hz1, hz2⟩ := info_parts Tryz.infoTokP
 obtain ⟨m0, hm0, hmz0, hmz1, hmz2⟩ := info_parts Tryz.infoRs
 have hp0 := h.pLt
 have hnm0 : NM.length ≤ 0 := h.nm rfl
 have hlen := h.len
 obtain ⟨t0, r0, ht0⟩ := PL_some h.fe h.lt
 obtain ⟨j0, b0, q0, hs0⟩ := Stp_ex (t0.k = 4) t0 L.length 0 false 0
 have hj0 : j0 < L.length := hs0.lt h.fe ht0 (fun e => by omega)
 obtain ⟨v, r1, hv⟩ := PL_some h.fe hj0
 obtain ⟨j1, b1, q1, hs1⟩ := Stp_ex (v.k = 2) v L.length j0 b0 q0
 have hj1 : j1 < L.length := hs1.lt h.fe hv (fun e => by omega)
 have HACT := hide (acts_first h.fe hlen ht0 hs0 hv hs1)
 have HP := hide h
 have HT0 := hide ht0
 have HS0 := hide hs0
 have HV := hide hv
 have HS1 := hide hs1
 have HFE := hide h.fe
 clear h ht0 hs0 hv hs1
 go_enter Tryz.func114, Tryz.ntmps114
 go_wp2_with fail
 refine (ptake_any 4 _ pb g cap B L 0 false 0 NM t0 r0 (((unhide HP).alloc _).alloc _) (unhide HT0) (by decide) j0 b0 q0 (unhide HS0)).mono ?_
 rintro e W2 ⟨rfl, hm2⟩
 have HM2 := hide ((((Mv.refl w pb g cap L.length 0 false 0).alloc _).alloc _).trans hm2)
 have HP2 := hide ((unhide HP).move (unhide HM2) hj0 (fun _ => by omega))
 have hsb : W2.heap[w.heap.size + 1]? = some (sbl none 0 0 none 0 0) := (hm2.gr.block (w.heap.size + 1) (by simp) (by simp; omega)).trans (blk_alloc' _ _ _ (by simp))
 have hrb : W2.heap[w.heap.size]? = some (sbl none 0 0 none 0 0) := (hm2.gr.block w.heap.size (by simp; omega) (by simp; omega)).trans ((Below.heap_alloc _ _ _ (by simp)).trans (blk_alloc _ _))
 have hsbl : w.heap.size + 1 < W2.heap.size := lt_of_blk hsb
 have HSB := hide hsb
 have HRB := hide hrb
 unfold sbl at hsb
 have bc := fun o => cell_of_blk hsb o
 have bf := fun o => frozen_of_blk hsb o
 have HOWN : Hid (W2.ownsRow w.heap.size 201 3 (.slice none 0 0) 0 (tkCellsP [])) := World.ownsRow_nil _ _ _ _
 have hnp : (Value.slice none 0 0).ownBlock ≠ some pb := by intro e; cases e
 clear hm2 hsb hrb
 simp only [tkP]
 go_upto_region 3 with fail
 go_cut [] (fun wc => MA w wc pb g cap L [v] j1 b1 q1 ∧ ActsAt L ((PL L 0).length - 1) [v] j1 b1 q1)
 case first =>
  refine wp_region_any (by kernel_rfl) ?_
  change wpAny _ _ _ _ _ _ _ (World.drew _)
  refine wpAny_take (i := 0) (v := .pointer (some ⟨w.heap.size + 1, 0, none⟩)) rfl (by kernel_rfl) (by kernel_rfl) (by kernel_rfl) (fun _ _ _ h => h) (Or.inl ⟨by kernel_rfl, fun w => by go_simp⟩) ?_
  try simp only [Act.put, zA, zB, zC, zD, zE, zF]
  refine wpAny_take (i := 2) (v := .pointer (some ⟨pb, 0, none⟩)) rfl (by kernel_rfl) (by kernel_rfl) (by kernel_rfl) (fun _ _ _ h => h) (Or.inl ⟨by kernel_rfl, fun w => by go_simp⟩) ?_
  try simp only [Act.put, zA, zB, zC, zD, zE, zF]
  refine wpAny_ready (rs := [1, 3]) (by kernel_rfl) (by simp) ?_
  refine AllReady.cons rfl (fun K hK => ?_) (AllReady.cons rfl (fun K hK => ?_) AllReady.nil)
  ·go_simp
   refine hK _ _ ?_
   clear hK K
   refine wpAny_ready (rs := [3]) (by kernel_rfl) (by simp) ?_
   refine AllReady.cons rfl (fun K hK => ?_) AllReady.nil
   go_simp
   go_wp2_with (go_at_call 153; refine (ptake_any 2 _ pb g cap B L j0 b0 q0 NM v r1 ((unhide HP2).later (Below.refl _ _).drew) (unhide HV) (by decide) j1 b1 q1 (unhide HS1)).mono ?_; rintro e w3 ⟨rfl, hm3⟩)
   have HM3 := hide hm3.from_drew
   have hsb3 := (hm3.gr.block (w.heap.size + 1) hsbl (by simp; omega)).trans (unhide HSB)
   have hrb3 := (hm3.gr.block w.heap.size (by show w.heap.size < W2.heap.size; omega) (by simp; omega)).trans (unhide HRB)
   have hown3 := owns_keep (unhide HOWN) hm3.from_drew.gr (Or.inr hnp)
   have hsz3 := hm3.gr.size
   have hsb3l : w.heap.size + 1 < w3.heap.size := lt_of_blk hsb3
   have HSB3 := hide hsb3
   have HRB3 := hide hrb3
   have HOWN3 := hide hown3
   unfold sbl at hsb3
   have bc3 := fun o => cell_of_blk hsb3 o
   have bf3 := fun o => frozen_of_blk hsb3 o
   clear hm3 hsb3 hown3 hrb3 bc bf
   simp only [tkP]
   refine wpAny_ready (rs := [4]) (by kernel_rfl) (by simp) ?_
   refine AllReady.cons rfl (fun K hK => ?_) AllReady.nil
   go_simp
   refine hK _ _ ?_
   clear hK K
   refine wpAny_ready (rs := [5]) (by kernel_rfl) (by simp) ?_
   refine AllReady.cons rfl (fun K hK => ?_) AllReady.nil
   refine step_append_lies _ (by rfl) _ _ 125 (by rfl) w.heap.size 201 i0 (.agg #[.int .i64 0, .string ⟨#[]⟩, .int .i64 0]) 3 32 Tryz.underlying125 hi hz0 hz1 hz2 rfl (by decide) (.slice none 0 0) 0 (tkCellsP []) (by rfl) ?c0 ⟨w3.heap.size, 0, none⟩ 1 1 [.int .i64 v.k, .string v.s, .int .i64 v.p] (by rfl) rfl ?c1 ?c2 (by decide) ?c3 ?c4 ?c5 (w3.heap.size + 1) (by simp) ?_
   case c0 => exact (unhide HOWN3).alloc _
   case c1 =>
    intro j u hj
    match j, hj with
    | 0, hj => simp at hj; subst hj; simp [Addr.add]
    | 1, hj => simp at hj; subst hj; simp [Addr.add]
    | 2, hj => simp at hj; subst hj; simp [Addr.add]
    | j + 3, hj => simp at hj
   case c2 => intro u hu; simp at hu; rcases hu with rfl | rfl | rfl <;> rfl
   case c3 => unfold maxLen; omega
   case c4 => omega
   case c5 => simp; omega
   intro g4 cap4 w4 hown4 hgrow4 hat4 hlt4
   have hsb4 := (hgrow4.block (w.heap.size + 1) (by simp; omega) (fun e => own_ty (unhide HOWN3) e.symm (unhide HSB3) (by decide))).trans ((Below.heap_alloc _ _ _ hsb3l).trans (unhide HSB3))
   have hrb4 := (hgrow4.block w.heap.size (by simp; omega) (fun e => own_ty (unhide HOWN3) e.symm (unhide HRB3) (by decide))).trans ((Below.heap_alloc _ _ _ (by omega)).trans (unhide HRB3))
   have HG4 := hide hgrow4
   have HOWN4 := hide hown4
   have HSB4 := hide hsb4
   have HRB4 := hide hrb4
   unfold sbl at hsb4
   have bc4 := fun o => cell_of_blk hsb4 o
   have bf4 := fun o => frozen_of_blk hsb4 o
   have hsb4l : w.heap.size + 1 < w4.heap.size := lt_of_blk hsb4
   refine hK _ _ ?_
   clear hK K hgrow4 hown4 hsb4 hrb4 bc3 bf3
   refine wpAny_take (i := 6) (v := .pointer (some ⟨w.heap.size + 1, 0, none⟩)) rfl (by kernel_rfl) (by kernel_rfl) (by kernel_rfl) (fun _ _ _ h => h) (Or.inl ⟨by kernel_rfl, fun w => by go_simp⟩) ?_
   try simp only [Act.put, zA, zB, zC, zD, zE, zF]
   refine wpAny_ready (rs := [7]) (by kernel_rfl) (by simp) ?_
   refine AllReady.cons rfl (fun K hK => ?_) AllReady.nil
   go_simp
   refine hK _ _ ?_
   clear hK K
   refine wpAny_done (by kernel_rfl) ?_ _
   go_wp2_with fail
   go_meet
   refine ⟨?_, unhide HACT⟩
   exact ⟨(Below.heap_setCell _ _ _ _ (by show w.heap.size ≠ w.heap.size + 1; omega)).trans (unhide HRB4), ⟨some ⟨g4, 0, none⟩, 0 + 1, cap4, blk_set (unhide HSB4) 0 _, owns_keep (unhide HOWN4) (grown_set _ _ _ _) (Or.inr (fun e => own_ty (unhide HOWN4) e (unhide HSB4) (by decide)))⟩, ((((unhide HM2).trans (unhide HM3)).alloc _).row (unhide HG4) (fun k e => (own_lt (unhide HOWN3) k e).1) hp0).setNew (by omega) hp0 _ _, hj1⟩
  ·go_simp
   go_wp2_with (go_at_call 153; refine (ptake_any 2 _ pb g cap B L j0 b0 q0 NM v r1 ((unhide HP2).later (Below.refl _ _).drew) (unhide HV) (by decide) j1 b1 q1 (unhide HS1)).mono ?_; rintro e w3 ⟨rfl, hm3⟩)
   have HM3 := hide hm3.from_drew
   have hsb3 := (hm3.gr.block (w.heap.size + 1) hsbl (by simp; omega)).trans (unhide HSB)
   have hrb3 := (hm3.gr.block w.heap.size (by show w.heap.size < W2.heap.size; omega) (by simp; omega)).trans (unhide HRB)
   have hown3 := owns_keep (unhide HOWN) hm3.from_drew.gr (Or.inr hnp)
   have hsz3 := hm3.gr.size
   have hsb3l : w.heap.size + 1 < w3.heap.size := lt_of_blk hsb3
   have HSB3 := hide hsb3
   have HRB3 := hide hrb3
   have HOWN3 := hide hown3
   unfold sbl at hsb3
   have bc3 := fun o => cell_of_blk hsb3 o
   have bf3 := fun o => frozen_of_blk hsb3 o
   clear hm3 hsb3 hown3 hrb3 bc bf
   simp only [tkP]
   refine wpAny_ready (rs := [1, 4]) (by kernel_rfl) (by simp) ?_
   refine AllReady.cons rfl (fun K hK => ?_) (AllReady.cons rfl (fun K hK => ?_) AllReady.nil)
   ·go_simp
    refine hK _ _ ?_
    clear hK K
    refine wpAny_ready (rs := [4]) (by kernel_rfl) (by simp) ?_
    refine AllReady.cons rfl (fun K hK => ?_) AllReady.nil
    go_simp
    refine hK _ _ ?_
    clear hK K
    refine wpAny_ready (rs := [5]) (by kernel_rfl) (by simp) ?_
    refine AllReady.cons rfl (fun K hK => ?_) AllReady.nil
    refine step_append_lies _ (by rfl) _ _ 125 (by rfl) w.heap.size 201 i0 (.agg #[.int .i64 0, .string ⟨#[]⟩, .int .i64 0]) 3 32 Tryz.underlying125 hi hz0 hz1 hz2 rfl (by decide) (.slice none 0 0) 0 (tkCellsP []) (by rfl) ?c0 ⟨w3.heap.size, 0, none⟩ 1 1 [.int .i64 v.k, .string v.s, .int .i64 v.p] (by rfl) rfl ?c1 ?c2 (by decide) ?c3 ?c4 ?c5 (w3.heap.size + 1) (by simp) ?_
    case c0 => exact (unhide HOWN3).alloc _
    case c1 =>
     intro j u hj
     match j, hj with
     | 0, hj => simp at hj; subst hj; simp [Addr.add]
     | 1, hj => simp at hj; subst hj; simp [Addr.add]
     | 2, hj => simp at hj; subst hj; simp [Addr.add]
     | j + 3, hj => simp at hj
    case c2 => intro u hu; simp at hu; rcases hu with rfl | rfl | rfl <;> rfl
    case c3 => unfold maxLen; omega
    case c4 => omega
    case c5 => simp; omega
    intro g4 cap4 w4 hown4 hgrow4 hat4 hlt4
    have hsb4 := (hgrow4.block (w.heap.size + 1) (by simp; omega) (fun e => own_ty (unhide HOWN3) e.symm (unhide HSB3) (by decide))).trans ((Below.heap_alloc _ _ _ hsb3l).trans (unhide HSB3))
    have hrb4 := (hgrow4.block w.heap.size (by simp; omega) (fun e => own_ty (unhide HOWN3) e.symm (unhide HRB3) (by decide))).trans ((Below.heap_alloc _ _ _ (by omega)).trans (unhide HRB3))
    have HG4 := hide hgrow4
    have HOWN4 := hide hown4
    have HSB4 := hide hsb4
    have HRB4 := hide hrb4
    unfold sbl at hsb4
    have bc4 := fun o => cell_of_blk hsb4 o
    have bf4 := fun o => frozen_of_blk hsb4 o
    have hsb4l : w.heap.size + 1 < w4.heap.size := lt_of_blk hsb4
    refine hK _ _ ?_
    clear hK K hgrow4 hown4 hsb4 hrb4 bc3 bf3
    refine wpAny_take (i := 6) (v := .pointer (some ⟨w.heap.size + 1, 0, none⟩)) rfl (by kernel_rfl) (by kernel_rfl) (by kernel_rfl) (fun _ _ _ h => h) (Or.inl ⟨by kernel_rfl, fun w => by go_simp⟩) ?_
    try simp only [Act.put, zA, zB, zC, zD, zE, zF]
    refine wpAny_ready (rs := [7]) (by kernel_rfl) (by simp) ?_
    refine AllReady.cons rfl (fun K hK => ?_) AllReady.nil
    go_simp
    refine hK _ _ ?_
    clear hK K
    refine wpAny_done (by kernel_rfl) ?_ _
    go_wp2_with fail
    go_meet
    refine ⟨?_, unhide HACT⟩
    exact ⟨(Below.heap_setCell _ _ _ _ (by show w.heap.size ≠ w.heap.size + 1; omega)).trans (unhide HRB4), ⟨some ⟨g4, 0, none⟩, 0 + 1, cap4, blk_set (unhide HSB4) 0 _, owns_keep (unhide HOWN4) (grown_set _ _ _ _) (Or.inr (fun e => own_ty (unhide HOWN4) e (unhide HSB4) (by decide)))⟩, ((((unhide HM2).trans (unhide HM3)).alloc _).row (unhide HG4) (fun k e => (own_lt (unhide HOWN3) k e).1) hp0).setNew (by omega) hp0 _ _, hj1⟩
   ·go_simp
    refine hK _ _ ?_
    clear hK K
    refine wpAny_ready (rs := [1]) (by kernel_rfl) (by simp) ?_
    refine AllReady.cons rfl (fun K hK => ?_) AllReady.nil
    go_simp
    refine hK _ _ ?_
    clear hK K
    refine wpAny_ready (rs := [5]) (by kernel_rfl) (by simp) ?_
    refine AllReady.cons rfl (fun K hK => ?_) AllReady.nil
    refine step_append_lies _ (by rfl) _ _ 125 (by rfl) w.heap.size 201 i0 (.agg #[.int .i64 0, .string ⟨#[]⟩, .int .i64 0]) 3 32 Tryz.underlying125 hi hz0 hz1 hz2 rfl (by decide) (.slice none 0 0) 0 (tkCellsP []) (by rfl) ?c0 ⟨w3.heap.size, 0, none⟩ 1 1 [.int .i64 v.k, .string v.s, .int .i64 v.p] (by rfl) rfl ?c1 ?c2 (by decide) ?c3 ?c4 ?c5 (w3.heap.size + 1) (by simp) ?_
    case c0 => exact (unhide HOWN3).alloc _
    case c1 =>
     intro j u hj
     match j, hj with
     | 0, hj => simp at hj; subst hj; simp [Addr.add]
     | 1, hj => simp at hj; subst hj; simp [Addr.add]
     | 2, hj => simp at hj; subst hj; simp [Addr.add]
     | j + 3, hj => simp at hj
    case c2 => intro u hu; simp at hu; rcases hu with rfl | rfl | rfl <;> rfl
    case c3 => unfold maxLen; omega
    case c4 => omega
    case c5 => simp; omega
    intro g4 cap4 w4 hown4 hgrow4 hat4 hlt4
    have hsb4 := (hgrow4.block (w.heap.size + 1) (by simp; omega) (fun e => own_ty (unhide HOWN3) e.symm (unhide HSB3) (by decide))).trans ((Below.heap_alloc _ _ _ hsb3l).trans (unhide HSB3))
    have hrb4 := (hgrow4.block w.heap.size (by simp; omega) (fun e => own_ty (unhide HOWN3) e.symm (unhide HRB3) (by decide))).trans ((Below.heap_alloc _ _ _ (by omega)).trans (unhide HRB3))
    have HG4 := hide hgrow4
    have HOWN4 := hide hown4
    have HSB4 := hide hsb4
    have HRB4 := hide hrb4
    unfold sbl at hsb4
    have bc4 := fun o => cell_of_blk hsb4 o
    have bf4 := fun o => frozen_of_blk hsb4 o
    have hsb4l : w.heap.size + 1 < w4.heap.size := lt_of_blk hsb4
    refine hK _ _ ?_
    clear hK K hgrow4 hown4 hsb4 hrb4 bc3 bf3
    refine wpAny_take (i := 6) (v := .pointer (some ⟨w.heap.size + 1, 0, none⟩)) rfl (by kernel_rfl) (by kernel_rfl) (by kernel_rfl) (fun _ _ _ h => h) (Or.inl ⟨by kernel_rfl, fun w => by go_simp⟩) ?_
    try simp only [Act.put, zA, zB, zC, zD, zE, zF]
    refine wpAny_ready (rs := [7]) (by kernel_rfl) (by simp) ?_
    refine AllReady.cons rfl (fun K hK => ?_) AllReady.nil
    go_simp
    refine hK _ _ ?_
    clear hK K
    refine wpAny_done (by kernel_rfl) ?_ _
    go_wp2_with fail
    go_meet
    refine ⟨?_, unhide HACT⟩
    exact ⟨(Below.heap_setCell _ _ _ _ (by show w.heap.size ≠ w.heap.size + 1; omega)).trans (unhide HRB4), ⟨some ⟨g4, 0, none⟩, 0 + 1, cap4, blk_set (unhide HSB4) 0 _, owns_keep (unhide HOWN4) (grown_set _ _ _ _) (Or.inr (fun e => own_ty (unhide HOWN4) e (unhide HSB4) (by decide)))⟩, ((((unhide HM2).trans (unhide HM3)).alloc _).row (unhide HG4) (fun k e => (own_lt (unhide HOWN3) k e).1) hp0).setNew (by omega) hp0 _ _, hj1⟩
 case rest =>
  have HCUT := hide hcut
  clear hcut bc bf HOWN hnp HSB HRB HM2 HP2 hsbl
  go_wp2_with fail
  go_loopg [] ((PL L 0).length - 1) (fun m wr => ∃ A j b q, MA w wr pb g cap L A j b q ∧ ActsAt L m A j b q)
  case atStart => exact ⟨_, _, _, _, unhide HCUT⟩
  case round =>
   clear HCUT
   obtain ⟨A, j, b, q, hma, hact⟩ := hrel
   obtain ⟨y, r2, hy⟩ := PL_some (unhide HFE) hma.lt
   have HPJ := hide ((unhide HP).move hma.mv hma.lt (fun _ => by omega))
   have HMA := hide hma
   have HY := hide hy
   have hjlt := hma.lt
   by_cases h20 : y.k = 20
   ·have hj11 : j + 1 < L.length := (unhide HFE).nextLt hy (by omega)
    obtain ⟨v, r3, hv⟩ := PL_some (unhide HFE) hj11
    obtain ⟨j2, b2, q2, hs2⟩ := Stp_ex (v.k = 2) v L.length (j + 1) b q
    have hj2 : j2 < L.length := hs2.lt (unhide HFE) hv (fun e => by omega)
    obtain ⟨hgk, hA, hact2⟩ := acts_round (unhide HFE) hact hy h20 hv hs2
    have HACT2 := hide hact2
    have HV := hide hv
    have HS2 := hide hs2
    have H20 := hide h20
    clear hma hact hy h20 hv hs2 hact2
    go_wp2_with fail
    refine (pskip_yes 20 _ _ _ _ _ _ _ _ _ _ _ _ (unhide HPJ) (unhide HY) (unhide H20) (by decide)).mono ?_
    rintro e W2 ⟨rfl, hm2⟩
    have HM2 := hide ((unhide HMA).mv.trans hm2)
    have HP2 := hide ((unhide HP).move (unhide HM2) hj11 (fun _ => by omega))
    obtain ⟨o1, n1, k1, hsb0, hown0⟩ := (unhide HMA).sbx
    have hsb := (hm2.gr.block (w.heap.size + 1) (lt_of_blk hsb0) (by simp; omega)).trans hsb0
    have hrb := (hm2.gr.block w.heap.size (lt_of_blk (unhide HMA).rbx) (by simp; omega)).trans (unhide HMA).rbx
    have hnp : (Value.slice o1 n1 k1).ownBlock ≠ some pb := own_ne hown0 hp0
    have HOWN := hide (owns_keep hown0 hm2.gr (Or.inr hnp))
    have hsbl : w.heap.size + 1 < W2.heap.size := lt_of_blk hsb
    have HSB := hide hsb
    have HRB := hide hrb
    unfold sbl at hsb
    have bc := fun o => cell_of_blk hsb o
    have bf := fun o => frozen_of_blk hsb o
    clear hm2 hsb hrb hsb0 hown0
    go_upto_region 5 with fail
    refine wp_region_any (by kernel_rfl) ?_
    change wpAny _ _ _ _ _ _ _ (World.drew _)
    refine wpAny_take (i := 0) (v := .pointer (some ⟨w.heap.size + 1, 0, none⟩)) rfl (by kernel_rfl) (by kernel_rfl) (by kernel_rfl) (fun _ _ _ h => h) (Or.inl ⟨by kernel_rfl, fun w => by go_simp⟩) ?_
    try simp only [Act.put, zA, zB, zC, zD, zE, zF]
    refine wpAny_take (i := 2) (v := .pointer (some ⟨pb, 0, none⟩)) rfl (by kernel_rfl) (by kernel_rfl) (by kernel_rfl) (fun _ _ _ h => h) (Or.inl ⟨by kernel_rfl, fun w => by go_simp⟩) ?_
    try simp only [Act.put, zA, zB, zC, zD, zE, zF]
    refine wpAny_ready (rs := [1, 3]) (by kernel_rfl) (by simp) ?_
    refine AllReady.cons rfl (fun K hK => ?_) (AllReady.cons rfl (fun K hK => ?_) AllReady.nil)
    ·go_simp
     refine hK _ _ ?_
     clear hK K
     refine wpAny_ready (rs := [3]) (by kernel_rfl) (by simp) ?_
     refine AllReady.cons rfl (fun K hK => ?_) AllReady.nil
     go_simp
     go_wp2_with (go_at_call 153; refine (ptake_any 2 _ pb g cap B L (j + 1) b q NM v r3 ((unhide HP2).later (Below.refl _ _).drew) (unhide HV) (by decide) j2 b2 q2 (unhide HS2)).mono ?_; rintro e w3 ⟨rfl, hm3⟩)
     have HM3 := hide hm3.from_drew
     have hsb3 := (hm3.gr.block (w.heap.size + 1) hsbl (by simp; omega)).trans (unhide HSB)
     have hrb3 := (hm3.gr.block w.heap.size (by show w.heap.size < W2.heap.size; omega) (by simp; omega)).trans (unhide HRB)
     have hown3 := owns_keep (unhide HOWN) hm3.from_drew.gr (Or.inr hnp)
     have hsz3 := hm3.gr.size
     have hsb3l : w.heap.size + 1 < w3.heap.size := lt_of_blk hsb3
     have HSB3 := hide hsb3
     have HRB3 := hide hrb3
     have HOWN3 := hide hown3
     unfold sbl at hsb3
     have bc3 := fun o => cell_of_blk hsb3 o
     have bf3 := fun o => frozen_of_blk hsb3 o
     clear hm3 hsb3 hown3 hrb3 bc bf
     simp only [tkP]
     refine wpAny_ready (rs := [4]) (by kernel_rfl) (by simp) ?_
     refine AllReady.cons rfl (fun K hK => ?_) AllReady.nil
     go_simp
     refine hK _ _ ?_
     clear hK K
     refine wpAny_ready (rs := [5]) (by kernel_rfl) (by simp) ?_
     refine AllReady.cons rfl (fun K hK => ?_) AllReady.nil
     refine step_append_lies _ (by rfl) _ _ 125 (by rfl) w.heap.size 201 i0 (.agg #[.int .i64 0, .string ⟨#[]⟩, .int .i64 0]) 3 32 Tryz.underlying125 hi hz0 hz1 hz2 rfl (by decide) (.slice o1 n1 k1) A.length (tkCellsP A) (by rfl) ?c0 ⟨w3.heap.size, 0, none⟩ 1 1 [.int .i64 v.k, .string v.s, .int .i64 v.p] (by rfl) rfl ?c1 ?c2 (by decide) ?c3 ?c4 ?c5 (w3.heap.size + 1) (by simp) ?_
     case c0 => exact (unhide HOWN3).alloc _
     case c1 =>
      intro j u hj
      match j, hj with
      | 0, hj => simp at hj; subst hj; simp [Addr.add]
      | 1, hj => simp at hj; subst hj; simp [Addr.add]
      | 2, hj => simp at hj; subst hj; simp [Addr.add]
      | j + 3, hj => simp at hj
     case c2 => intro u hu; simp at hu; rcases hu with rfl | rfl | rfl <;> rfl
     case c3 => unfold maxLen; omega
     case c4 => omega
     case c5 => simp; omega
     intro g4 cap4 w4 hown4 hgrow4 hat4 hlt4
     have hsb4 := (hgrow4.block (w.heap.size + 1) (by simp; omega) (fun e => own_ty (unhide HOWN3) e.symm (unhide HSB3) (by decide))).trans ((Below.heap_alloc _ _ _ hsb3l).trans (unhide HSB3))
     have hrb4 := (hgrow4.block w.heap.size (by simp; omega) (fun e => own_ty (unhide HOWN3) e.symm (unhide HRB3) (by decide))).trans ((Below.heap_alloc _ _ _ (by omega)).trans (unhide HRB3))
     have HG4 := hide hgrow4
     have HOWN4 := hide hown4
     have HSB4 := hide hsb4
     have HRB4 := hide hrb4
     unfold sbl at hsb4
     have bc4 := fun o => cell_of_blk hsb4 o
     have bf4 := fun o => frozen_of_blk hsb4 o
     have hsb4l : w.heap.size + 1 < w4.heap.size := lt_of_blk hsb4
     refine hK _ _ ?_
     clear hK K hgrow4 hown4 hsb4 hrb4 bc3 bf3
     refine wpAny_take (i := 6) (v := .pointer (some ⟨w.heap.size + 1, 0, none⟩)) rfl (by kernel_rfl) (by kernel_rfl) (by kernel_rfl) (fun _ _ _ h => h) (Or.inl ⟨by kernel_rfl, fun w => by go_simp⟩) ?_
     try simp only [Act.put, zA, zB, zC, zD, zE, zF]
     refine wpAny_ready (rs := [7]) (by kernel_rfl) (by simp) ?_
     refine AllReady.cons rfl (fun K hK => ?_) AllReady.nil
     go_simp
     refine hK _ _ ?_
     clear hK K
     refine wpAny_done (by kernel_rfl) ?_ _
     go_wp2_with fail
     go_roundg (gk - 1)
     case measure => omega
     case rel =>
      refine ⟨A ++ [v], j2, b2, q2, ?_, unhide HACT2⟩
      refine ⟨(Below.heap_setCell _ _ _ _ (by show w.heap.size ≠ w.heap.size + 1; omega)).trans (unhide HRB4), ⟨some ⟨g4, 0, none⟩, A.length + 1, cap4, blk_set (unhide HSB4) 0 _, ?_⟩, ((((unhide HM2).trans (unhide HM3)).alloc _).row (unhide HG4) (fun k e => (own_lt (unhide HOWN3) k e).1) hp0).setNew (by omega) hp0 _ _, hj2⟩
      rw [tkCellsP_snoc, List.length_append]
      exact owns_keep (unhide HOWN4) (grown_set _ _ _ _) (Or.inr (fun e => own_ty (unhide HOWN4) e (unhide HSB4) (by decide)))
    ·go_simp
     go_wp2_with (go_at_call 153; refine (ptake_any 2 _ pb g cap B L (j + 1) b q NM v r3 ((unhide HP2).later (Below.refl _ _).drew) (unhide HV) (by decide) j2 b2 q2 (unhide HS2)).mono ?_; rintro e w3 ⟨rfl, hm3⟩)
     have HM3 := hide hm3.from_drew
     have hsb3 := (hm3.gr.block (w.heap.size + 1) hsbl (by simp; omega)).trans (unhide HSB)
     have hrb3 := (hm3.gr.block w.heap.size (by show w.heap.size < W2.heap.size; omega) (by simp; omega)).trans (unhide HRB)
     have hown3 := owns_keep (unhide HOWN) hm3.from_drew.gr (Or.inr hnp)
     have hsz3 := hm3.gr.size
     have hsb3l : w.heap.size + 1 < w3.heap.size := lt_of_blk hsb3
     have HSB3 := hide hsb3
     have HRB3 := hide hrb3
     have HOWN3 := hide hown3
     unfold sbl at hsb3
     have bc3 := fun o => cell_of_blk hsb3 o
     have bf3 := fun o => frozen_of_blk hsb3 o
     clear hm3 hsb3 hown3 hrb3 bc bf
     simp only [tkP]
     refine wpAny_ready (rs := [1, 4]) (by kernel_rfl) (by simp) ?_
     refine AllReady.cons rfl (fun K hK => ?_) (AllReady.cons rfl (fun K hK => ?_) AllReady.nil)
     ·go_simp
      refine hK _ _ ?_
      clear hK K
      refine wpAny_ready (rs := [4]) (by kernel_rfl) (by simp) ?_
      refine AllReady.cons rfl (fun K hK => ?_) AllReady.nil
      go_simp
      refine hK _ _ ?_
      clear hK K
      refine wpAny_ready (rs := [5]) (by kernel_rfl) (by simp) ?_
      refine AllReady.cons rfl (fun K hK => ?_) AllReady.nil
      refine step_append_lies _ (by rfl) _ _ 125 (by rfl) w.heap.size 201 i0 (.agg #[.int .i64 0, .string ⟨#[]⟩, .int .i64 0]) 3 32 Tryz.underlying125 hi hz0 hz1 hz2 rfl (by decide) (.slice o1 n1 k1) A.length (tkCellsP A) (by rfl) ?c0 ⟨w3.heap.size, 0, none⟩ 1 1 [.int .i64 v.k, .string v.s, .int .i64 v.p] (by rfl) rfl ?c1 ?c2 (by decide) ?c3 ?c4 ?c5 (w3.heap.size + 1) (by simp) ?_
      case c0 => exact (unhide HOWN3).alloc _
      case c1 =>
       intro j u hj
       match j, hj with
       | 0, hj => simp at hj; subst hj; simp [Addr.add]
       | 1, hj => simp at hj; subst hj; simp [Addr.add]
       | 2, hj => simp at hj; subst hj; simp [Addr.add]
       | j + 3, hj => simp at hj
      case c2 => intro u hu; simp at hu; rcases hu with rfl | rfl | rfl <;> rfl
      case c3 => unfold maxLen; omega
      case c4 => omega
      case c5 => simp; omega
      intro g4 cap4 w4 hown4 hgrow4 hat4 hlt4
      have hsb4 := (hgrow4.block (w.heap.size + 1) (by simp; omega) (fun e => own_ty (unhide HOWN3) e.symm (unhide HSB3) (by decide))).trans ((Below.heap_alloc _ _ _ hsb3l).trans (unhide HSB3))
      have hrb4 := (hgrow4.block w.heap.size (by simp; omega) (fun e => own_ty (unhide HOWN3) e.symm (unhide HRB3) (by decide))).trans ((Below.heap_alloc _ _ _ (by omega)).trans (unhide HRB3))
      have HG4 := hide hgrow4
      have HOWN4 := hide hown4
      have HSB4 := hide hsb4
      have HRB4 := hide hrb4
      unfold sbl at hsb4
      have bc4 := fun o => cell_of_blk hsb4 o
      have bf4 := fun o => frozen_of_blk hsb4 o
      have hsb4l : w.heap.size + 1 < w4.heap.size := lt_of_blk hsb4
      refine hK _ _ ?_
      clear hK K hgrow4 hown4 hsb4 hrb4 bc3 bf3
      refine wpAny_take (i := 6) (v := .pointer (some ⟨w.heap.size + 1, 0, none⟩)) rfl (by kernel_rfl) (by kernel_rfl) (by kernel_rfl) (fun _ _ _ h => h) (Or.inl ⟨by kernel_rfl, fun w => by go_simp⟩) ?_
      try simp only [Act.put, zA, zB, zC, zD, zE, zF]
      refine wpAny_ready (rs := [7]) (by kernel_rfl) (by simp) ?_
      refine AllReady.cons rfl (fun K hK => ?_) AllReady.nil
      go_simp
      refine hK _ _ ?_
      clear hK K
      refine wpAny_done (by kernel_rfl) ?_ _
      go_wp2_with fail
      go_roundg (gk - 1)
      case measure => omega
      case rel =>
       refine ⟨A ++ [v], j2, b2, q2, ?_, unhide HACT2⟩
       refine ⟨(Below.heap_setCell _ _ _ _ (by show w.heap.size ≠ w.heap.size + 1; omega)).trans (unhide HRB4), ⟨some ⟨g4, 0, none⟩, A.length + 1, cap4, blk_set (unhide HSB4) 0 _, ?_⟩, ((((unhide HM2).trans (unhide HM3)).alloc _).row (unhide HG4) (fun k e => (own_lt (unhide HOWN3) k e).1) hp0).setNew (by omega) hp0 _ _, hj2⟩
       rw [tkCellsP_snoc, List.length_append]
       exact owns_keep (unhide HOWN4) (grown_set _ _ _ _) (Or.inr (fun e => own_ty (unhide HOWN4) e (unhide HSB4) (by decide)))
     ·go_simp
      refine hK _ _ ?_
      clear hK K
      refine wpAny_ready (rs := [1]) (by kernel_rfl) (by simp) ?_
      refine AllReady.cons rfl (fun K hK => ?_) AllReady.nil
      go_simp
      refine hK _ _ ?_
      clear hK K
      refine wpAny_ready (rs := [5]) (by kernel_rfl) (by simp) ?_
      refine AllReady.cons rfl (fun K hK => ?_) AllReady.nil
      refine step_append_lies _ (by rfl) _ _ 125 (by rfl) w.heap.size 201 i0 (.agg #[.int .i64 0, .string ⟨#[]⟩, .int .i64 0]) 3 32 Tryz.underlying125 hi hz0 hz1 hz2 rfl (by decide) (.slice o1 n1 k1) A.length (tkCellsP A) (by rfl) ?c0 ⟨w3.heap.size, 0, none⟩ 1 1 [.int .i64 v.k, .string v.s, .int .i64 v.p] (by rfl) rfl ?c1 ?c2 (by decide) ?c3 ?c4 ?c5 (w3.heap.size + 1) (by simp) ?_
      case c0 => exact (unhide HOWN3).alloc _
      case c1 =>
       intro j u hj
       match j, hj with
       | 0, hj => simp at hj; subst hj; simp [Addr.add]
       | 1, hj => simp at hj; subst hj; simp [Addr.add]
       | 2, hj => simp at hj; subst hj; simp [Addr.add]
       | j + 3, hj => simp at hj
      case c2 => intro u hu; simp at hu; rcases hu with rfl | rfl | rfl <;> rfl
      case c3 => unfold maxLen; omega
      case c4 => omega
      case c5 => simp; omega
      intro g4 cap4 w4 hown4 hgrow4 hat4 hlt4
      have hsb4 := (hgrow4.block (w.heap.size + 1) (by simp; omega) (fun e => own_ty (unhide HOWN3) e.symm (unhide HSB3) (by decide))).trans ((Below.heap_alloc _ _ _ hsb3l).trans (unhide HSB3))
      have hrb4 := (hgrow4.block w.heap.size (by simp; omega) (fun e => own_ty (unhide HOWN3) e.symm (unhide HRB3) (by decide))).trans ((Below.heap_alloc _ _ _ (by omega)).trans (unhide HRB3))
      have HG4 := hide hgrow4
      have HOWN4 := hide hown4
      have HSB4 := hide hsb4
      have HRB4 := hide hrb4
      unfold sbl at hsb4
      have bc4 := fun o => cell_of_blk hsb4 o
      have bf4 := fun o => frozen_of_blk hsb4 o
      have hsb4l : w.heap.size + 1 < w4.heap.size := lt_of_blk hsb4
      refine hK _ _ ?_
      clear hK K hgrow4 hown4 hsb4 hrb4 bc3 bf3
      refine wpAny_take (i := 6) (v := .pointer (some ⟨w.heap.size + 1, 0, none⟩)) rfl (by kernel_rfl) (by kernel_rfl) (by kernel_rfl) (fun _ _ _ h => h) (Or.inl ⟨by kernel_rfl, fun w => by go_simp⟩) ?_
      try simp only [Act.put, zA, zB, zC, zD, zE, zF]
      refine wpAny_ready (rs := [7]) (by kernel_rfl) (by simp) ?_
      refine AllReady.cons rfl (fun K hK => ?_) AllReady.nil
      go_simp
      refine hK _ _ ?_
      clear hK K
      refine wpAny_done (by kernel_rfl) ?_ _
      go_wp2_with fail
      go_roundg (gk - 1)
      case measure => omega
      case rel =>
       refine ⟨A ++ [v], j2, b2, q2, ?_, unhide HACT2⟩
       refine ⟨(Below.heap_setCell _ _ _ _ (by show w.heap.size ≠ w.heap.size + 1; omega)).trans (unhide HRB4), ⟨some ⟨g4, 0, none⟩, A.length + 1, cap4, blk_set (unhide HSB4) 0 _, ?_⟩, ((((unhide HM2).trans (unhide HM3)).alloc _).row (unhide HG4) (fun k e => (own_lt (unhide HOWN3) k e).1) hp0).setNew (by omega) hp0 _ _, hj2⟩
       rw [tkCellsP_snoc, List.length_append]
       exact owns_keep (unhide HOWN4) (grown_set _ _ _ _) (Or.inr (fun e => own_ty (unhide HOWN4) e (unhide HSB4) (by decide)))
   ·have HEND := hide (acts_end hact hy h20)
    have H20 := hide h20
    obtain ⟨j2, b2, q2, hs2⟩ := Stp_ex (y.k = 21) y L.length j b q
    have hj2 : j2 < L.length := hs2.lt (unhide HFE) hy (fun e => by omega)
    have HMOD := hide (mod_first (unhide HFE) hlen (unhide HEND) hy hs2)
    have HS2 := hide hs2
    clear hma hact hy h20 hs2
    go_wp2_with fail
    refine (pskip_no 20 _ _ _ _ _ _ _ _ _ _ _ _ (unhide HPJ) (unhide HY) (unhide H20)).mono ?_
    rintro e w2 ⟨rfl, hw2⟩
    have hw3 := hw2.symm
    clear hw2
    subst hw3
    go_wp2_with fail
    refine (ptake_any 21 _ pb g cap B L j b q NM y r2 (unhide HPJ) (unhide HY) (by decide) j2 b2 q2 (unhide HS2)).mono ?_
    rintro e w5 ⟨rfl, hm5⟩
    have hstart : MB w w5 pb g cap L A [] j2 b2 q2 := by
     obtain ⟨o1, n1, k1, hsb0, hown0⟩ := (unhide HMA).sbx
     exact ⟨(hm5.gr.block w.heap.size (lt_of_blk (unhide HMA).rbx) (by simp; omega)).trans (unhide HMA).rbx, ⟨o1, n1, k1, none, 0, 0, 0, [], (hm5.gr.block (w.heap.size + 1) (lt_of_blk hsb0) (by simp; omega)).trans hsb0, World.ownsRow_nil _ _ _ _, fun _ => ⟨owns_keep hown0 hm5.gr (Or.inr (own_ne hown0 hp0)), rfl, rfl⟩⟩, (unhide HMA).mv.gr.trans hm5.gr, B, NM, (unhide HP).move ((unhide HMA).mv.trans hm5) hj2 (fun _ => by omega)⟩
    have HST := hide hstart
    clear hstart hm5
    simp only [tkP]
    go_wp2_with fail
    go_loopg [] (PL L j).length (fun m wr => ∃ al rs j b q, MB w wr pb g cap L al rs j b q ∧ ModAt L m al rs j b q)
    case atStart => exact ⟨_, _, _, _, _, unhide HST, unhide HMOD⟩
    case round =>
     clear HST HMOD HMA HPJ HY HEND H20 HS2 hjlt hj2
     obtain ⟨al, rs, j, b, q, hmb, hmod⟩ := hrel
     obtain ⟨B2, NM2, hpp⟩ := hmb.pp
     obtain ⟨t, r, ht⟩ := PL_some (unhide HFE) hpp.lt
     have HPP := hide hpp
     have HT2 := hide ht
     have HGR := hide hmb.gr
     by_cases h5 : t.k = 5
     ·obtain ⟨hb, hq, hrl, m', hmm, hlr, hlm, hmr⟩ := mod_good (unhide HFE) hmod ht h5
      subst hb hq
      obtain ⟨o1, n1, k1, o2, n2, k2, nR, cells, hsb, hown, hgood⟩ := hmb.sbx
      obtain ⟨hacts, hnR, hru⟩ := hgood rfl
      subst hnR
      have hrb := hmb.rbx
      have hnp : (Value.slice o2 n2 k2).ownBlock ≠ some pb := own_ne hown hp0
      have hnpa : (Value.slice o1 n1 k1).ownBlock ≠ some pb := own_ne hacts hp0
      have e5 : ((t.k : Int) == 5) = true := beqT (c := 5) h5
      have hmm' : gk - 1 = m' := by omega
      have hgk : 1 ≤ gk := by omega
      have HOWN := hide hown
      have HACTS := hide hacts
      have HRU := hide hru
      have HMR := hide hmr
      have H5 := hide h5
      have HSB := hide hsb
      have HRB := hide hrb
      have hsbl := lt_of_blk hsb
      unfold sbl at hsb
      have bc := fun o => cell_of_blk hsb o
      have bf := fun o => frozen_of_blk hsb o
      have hmm := hmm'
      clear hmb hmod hpp ht h5 hown hacts hru hmr hsb hrb hgood hmm'
      go_wp2_with (go_at_call 155; refine (pnext_any _ _ _ _ _ _ _ _ _ _ _ _ (unhide HPP) (unhide HT2)).mono ?_; rintro e W2 ⟨rfl, hW2⟩; have hW3 := hW2.symm; clear hW2; subst hW3)
      generalize wr = W2 at *
      refine wp_region_any (by kernel_rfl) ?_
      change wpAny _ _ _ _ _ _ _ (World.drew _)
      refine wpAny_take (i := 0) (v := .pointer (some ⟨w.heap.size + 1, 1, none⟩)) rfl (by kernel_rfl) (by kernel_rfl) (by kernel_rfl) (fun _ _ _ h => h) (Or.inl ⟨by kernel_rfl, fun w => by go_simp⟩) ?_
      try simp only [Act.put, zA, zB, zC, zD, zE, zF]
      refine wpAny_take (i := 2) (v := .pointer (some ⟨pb, 0, none⟩)) rfl (by kernel_rfl) (by kernel_rfl) (by kernel_rfl) (fun _ _ _ h => h) (Or.inl ⟨by kernel_rfl, fun w => by go_simp⟩) ?_
      try simp only [Act.put, zA, zB, zC, zD, zE, zF]
      refine wpAny_ready (rs := [1, 3]) (by kernel_rfl) (by simp) ?_
      refine AllReady.cons rfl (fun K hK => ?_) (AllReady.cons rfl (fun K hK => ?_) AllReady.nil)
      ·go_simp
       refine hK _ _ ?_
       clear hK K
       refine wpAny_ready (rs := [3]) (by kernel_rfl) (by simp) ?_
       refine AllReady.cons rfl (fun K hK => ?_) AllReady.nil
       go_simp
       go_wp2_with (go_at_call 156; refine (prule_any _ pb g cap B2 L j NM2 t r ((unhide HPP).later (Below.refl _ _).drew) (unhide HT2) (unhide H5)).mono ?_; rintro e w3 ⟨hg3, fp, no, nn, nc, cp, rfl, hx3⟩)
       have hg3' := grownBy_from_drew hg3
       have HG3 := hide hg3'
       have HX3 := hide hx3
       have hsb3 := (hg3.block (w.heap.size + 1) hsbl (by simp; omega)).trans (unhide HSB)
       have hrb3 := (hg3.block w.heap.size (by show w.heap.size < W2.heap.size; omega) (by simp; omega)).trans (unhide HRB)
       have hown3 := owns_keep (unhide HOWN) hg3' (Or.inr hnp)
       have HACT3 := hide (owns_keep (unhide HACTS) hg3' (Or.inr hnpa))
       have HRU3 := hide ((unhide HRU).keep ((unhide HPP).kq hg3'))
       have hsz3 := hg3.size
       have hsb3l : w.heap.size + 1 < w3.heap.size := lt_of_blk hsb3
       have HSB3 := hide hsb3
       have HRB3 := hide hrb3
       have HOWN3 := hide hown3
       unfold sbl at hsb3
       have bc3 := fun o => cell_of_blk hsb3 o
       have bf3 := fun o => frozen_of_blk hsb3 o
       clear hg3 hg3' hsb3 hown3 hrb3 bc bf hx3
       refine wpAny_ready (rs := [4]) (by kernel_rfl) (by simp) ?_
       refine AllReady.cons rfl (fun K hK => ?_) AllReady.nil
       go_simp
       refine hK _ _ ?_
       clear hK K
       refine wpAny_ready (rs := [5]) (by kernel_rfl) (by simp) ?_
       refine AllReady.cons rfl (fun K hK => ?_) AllReady.nil
       refine step_append_lies _ (by rfl) _ _ 126 (by rfl) w.heap.size 205 m0 (.agg #[.int .i64 0, .string ⟨#[]⟩, .int .i64 0, .pointer none, .slice none 0 0, .pointer none]) 6 72 Tryz.underlying126 hm0 hmz0 hmz1 hmz2 rfl (by decide) (.slice o2 n2 k2) rs.length cells (by rfl) ?c0 ⟨w3.heap.size, 0, none⟩ 1 1 [.int .i64 t.k, .string t.s, .int .i64 t.p, .pointer fp, .slice no nn nc, .pointer cp] (by rfl) rfl ?c1 ?c2 (by decide) ?c3 ?c4 ?c5 (w3.heap.size + 1) (by simp) ?_
       case c0 => exact (unhide HOWN3).alloc _
       case c1 =>
        intro j u hj
        match j, hj with
        | 0, hj => simp at hj; subst hj; simp [Addr.add]
        | 1, hj => simp at hj; subst hj; simp [Addr.add]
        | 2, hj => simp at hj; subst hj; simp [Addr.add]
        | 3, hj => simp at hj; subst hj; simp [Addr.add]
        | 4, hj => simp at hj; subst hj; simp [Addr.add]
        | 5, hj => simp at hj; subst hj; simp [Addr.add]
        | j + 6, hj => simp at hj
       case c2 => intro u hu; simp at hu; rcases hu with rfl | rfl | rfl | rfl | rfl | rfl <;> rfl
       case c3 => unfold maxLen; omega
       case c4 => omega
       case c5 => simp; omega
       intro g4 cap4 w4 hown4 hgrow4 hat4 hlt4
       have hsb4 := (hgrow4.block (w.heap.size + 1) (by simp; omega) (fun e => own_ty (unhide HOWN3) e.symm (unhide HSB3) (by decide))).trans ((Below.heap_alloc _ _ _ hsb3l).trans (unhide HSB3))
       have hrb4 := (hgrow4.block w.heap.size (by simp; omega) (fun e => own_ty (unhide HOWN3) e.symm (unhide HRB3) (by decide))).trans ((Below.heap_alloc _ _ _ (by omega)).trans (unhide HRB3))
       have hkq4 : KQ w3 w4 := (KQ.below ((Below.refl _ _).alloc (Nat.le_refl _) _)).trans (KQ.row ((unhide HOWN3).alloc _) hgrow4)
       have HPR := hide (fun (B : Nat) (j : Nat) (b : Bool) (q : Nat) (NM : List Tk) (h : PP w3 pb g cap B L j b q NM) => PP.row' (h.alloc _) ((unhide HOWN3).alloc _) hgrow4)
       have HKQ4 := hide hkq4
       have HG4 := hide (grown_row (grown_alloc ((unhide HGR).trans (unhide HG3)) _) hgrow4 (fun k e => (own_lt (unhide HOWN3) k e).1))
       have HOWN4 := hide hown4
       have HSB4 := hide hsb4
       have HRB4 := hide hrb4
       unfold sbl at hsb4
       have bc4 := fun o => cell_of_blk hsb4 o
       have bf4 := fun o => frozen_of_blk hsb4 o
       have hsb4l : w.heap.size + 1 < w4.heap.size := lt_of_blk hsb4
       refine hK _ _ ?_
       clear hK K hgrow4 hown4 hsb4 hrb4 bc3 bf3 hkq4
       refine wpAny_take (i := 6) (v := .pointer (some ⟨w.heap.size + 1, 1, none⟩)) rfl (by kernel_rfl) (by kernel_rfl) (by kernel_rfl) (fun _ _ _ h => h) (Or.inl ⟨by kernel_rfl, fun w => by go_simp⟩) ?_
       try simp only [Act.put, zA, zB, zC, zD, zE, zF]
       refine wpAny_ready (rs := [7]) (by kernel_rfl) (by simp) ?_
       refine AllReady.cons rfl (fun K hK => ?_) AllReady.nil
       go_simp
       refine hK _ _ ?_
       clear hK K
       refine wpAny_done (by kernel_rfl) ?_ _
       go_wp2_with fail
       go_roundg (gk - 1)
       case measure => omega
       case rel =>
        have hks : KQ w4 (w4.setCell ⟨w.heap.size + 1, 1, none⟩ (.slice (some ⟨g4, 0, none⟩) (rs.length + 1) cap4)) := KQ.set (unhide HSB4) (by decide) (by decide) (by decide) _ _
        have hkk := (unhide HKQ4).trans hks
        have hro := owns_keep (unhide HOWN4) (grown_set w4 (w.heap.size + 1) 1 (.slice (some ⟨g4, 0, none⟩) (rs.length + 1) cap4)) (Or.inr (fun e => own_ty (unhide HOWN4) e (unhide HSB4) (by decide)))
        have hgg := grown_setNew (unhide HG4) (show w.heap.size ≤ w.heap.size + 1 by omega) 1 (.slice (some ⟨g4, 0, none⟩) (rs.length + 1) cap4)
        have hrb5 := (Below.heap_setCell w4 ⟨w.heap.size + 1, 1, none⟩ (.slice (some ⟨g4, 0, none⟩) (rs.length + 1) cap4) w.heap.size (by show w.heap.size ≠ w.heap.size + 1; omega)).trans (unhide HRB4)
        have hpp5 := fun B j b q NM h => (unhide HPR B j b q NM h).setTy (unhide HSB4) (by decide) (by decide) 1 (.slice (some ⟨g4, 0, none⟩) (rs.length + 1) cap4)
        rcases unhide HX3 with ⟨rl, l1, hx, h21, hrs, B3, j3, NM3, hl3, hp3⟩ | ⟨rl, l1, hx, h21, B3, NM3, hp3⟩ | ⟨q3, hx, B3, NM3, hp3⟩
        ·have := mod_ok (unhide H5) hlr hlm (unhide HMR) hx h21 hl3
         refine ⟨al, rs ++ [{ rl with pl := t.p }], j3, false, 0, ⟨hrb5, ⟨o1, n1, k1, some ⟨g4, 0, none⟩, rs.length + 1, cap4, rs.length + 1, _, blk_set (unhide HSB4) 1 _, hro, fun _ => ⟨hkk.owns (unhide HACT3), by simp, ?_⟩⟩, hgg, B3, NM3, hpp5 _ _ _ _ _ hp3⟩, by rw [hmm]; exact this⟩
         exact RulesP.snoc (r := { rl with pl := t.p }) ((unhide HRU3).keep hkk) ((hrs.pl t.p).keep hkk)
        ·exact ⟨al, rs, _, _, _, ⟨hrb5, ⟨o1, n1, k1, some ⟨g4, 0, none⟩, rs.length + 1, cap4, rs.length + 1, _, blk_set (unhide HSB4) 1 _, hro, fun e => by cases e⟩, hgg, B3, NM3, hpp5 _ _ _ _ _ hp3⟩, by rw [hmm]; exact mod_no (unhide H5) (unhide HMR) (Or.inl ⟨rl, l1, hx, h21, rfl⟩)⟩
        ·exact ⟨al, rs, _, _, _, ⟨hrb5, ⟨o1, n1, k1, some ⟨g4, 0, none⟩, rs.length + 1, cap4, rs.length + 1, _, blk_set (unhide HSB4) 1 _, hro, fun e => by cases e⟩, hgg, B3, NM3, hpp5 _ _ _ _ _ hp3⟩, by rw [hmm]; exact mod_no (unhide H5) (unhide HMR) (Or.inr hx)⟩
      ·go_simp
       go_wp2_with (go_at_call 156; refine (prule_any _ pb g cap B2 L j NM2 t r ((unhide HPP).later (Below.refl _ _).drew) (unhide HT2) (unhide H5)).mono ?_; rintro e w3 ⟨hg3, fp, no, nn, nc, cp, rfl, hx3⟩)
       have hg3' := grownBy_from_drew hg3
       have HG3 := hide hg3'
       have HX3 := hide hx3
       have hsb3 := (hg3.block (w.heap.size + 1) hsbl (by simp; omega)).trans (unhide HSB)
       have hrb3 := (hg3.block w.heap.size (by show w.heap.size < W2.heap.size; omega) (by simp; omega)).trans (unhide HRB)
       have hown3 := owns_keep (unhide HOWN) hg3' (Or.inr hnp)
       have HACT3 := hide (owns_keep (unhide HACTS) hg3' (Or.inr hnpa))
       have HRU3 := hide ((unhide HRU).keep ((unhide HPP).kq hg3'))
       have hsz3 := hg3.size
       have hsb3l : w.heap.size + 1 < w3.heap.size := lt_of_blk hsb3
       have HSB3 := hide hsb3
       have HRB3 := hide hrb3
       have HOWN3 := hide hown3
       unfold sbl at hsb3
       have bc3 := fun o => cell_of_blk hsb3 o
       have bf3 := fun o => frozen_of_blk hsb3 o
       clear hg3 hg3' hsb3 hown3 hrb3 bc bf hx3
       refine wpAny_ready (rs := [1, 4]) (by kernel_rfl) (by simp) ?_
       refine AllReady.cons rfl (fun K hK => ?_) (AllReady.cons rfl (fun K hK => ?_) AllReady.nil)
       ·go_simp
        refine hK _ _ ?_
        clear hK K
        refine wpAny_ready (rs := [4]) (by kernel_rfl) (by simp) ?_
        refine AllReady.cons rfl (fun K hK => ?_) AllReady.nil
        go_simp
        refine hK _ _ ?_
        clear hK K
        refine wpAny_ready (rs := [5]) (by kernel_rfl) (by simp) ?_
        refine AllReady.cons rfl (fun K hK => ?_) AllReady.nil
        refine step_append_lies _ (by rfl) _ _ 126 (by rfl) w.heap.size 205 m0 (.agg #[.int .i64 0, .string ⟨#[]⟩, .int .i64 0, .pointer none, .slice none 0 0, .pointer none]) 6 72 Tryz.underlying126 hm0 hmz0 hmz1 hmz2 rfl (by decide) (.slice o2 n2 k2) rs.length cells (by rfl) ?c0 ⟨w3.heap.size, 0, none⟩ 1 1 [.int .i64 t.k, .string t.s, .int .i64 t.p, .pointer fp, .slice no nn nc, .pointer cp] (by rfl) rfl ?c1 ?c2 (by decide) ?c3 ?c4 ?c5 (w3.heap.size + 1) (by simp) ?_
        case c0 => exact (unhide HOWN3).alloc _
        case c1 =>
         intro j u hj
         match j, hj with
         | 0, hj => simp at hj; subst hj; simp [Addr.add]
         | 1, hj => simp at hj; subst hj; simp [Addr.add]
         | 2, hj => simp at hj; subst hj; simp [Addr.add]
         | 3, hj => simp at hj; subst hj; simp [Addr.add]
         | 4, hj => simp at hj; subst hj; simp [Addr.add]
         | 5, hj => simp at hj; subst hj; simp [Addr.add]
         | j + 6, hj => simp at hj
        case c2 => intro u hu; simp at hu; rcases hu with rfl | rfl | rfl | rfl | rfl | rfl <;> rfl
        case c3 => unfold maxLen; omega
        case c4 => omega
        case c5 => simp; omega
        intro g4 cap4 w4 hown4 hgrow4 hat4 hlt4
        have hsb4 := (hgrow4.block (w.heap.size + 1) (by simp; omega) (fun e => own_ty (unhide HOWN3) e.symm (unhide HSB3) (by decide))).trans ((Below.heap_alloc _ _ _ hsb3l).trans (unhide HSB3))
        have hrb4 := (hgrow4.block w.heap.size (by simp; omega) (fun e => own_ty (unhide HOWN3) e.symm (unhide HRB3) (by decide))).trans ((Below.heap_alloc _ _ _ (by omega)).trans (unhide HRB3))
        have hkq4 : KQ w3 w4 := (KQ.below ((Below.refl _ _).alloc (Nat.le_refl _) _)).trans (KQ.row ((unhide HOWN3).alloc _) hgrow4)
        have HPR := hide (fun (B : Nat) (j : Nat) (b : Bool) (q : Nat) (NM : List Tk) (h : PP w3 pb g cap B L j b q NM) => PP.row' (h.alloc _) ((unhide HOWN3).alloc _) hgrow4)
        have HKQ4 := hide hkq4
        have HG4 := hide (grown_row (grown_alloc ((unhide HGR).trans (unhide HG3)) _) hgrow4 (fun k e => (own_lt (unhide HOWN3) k e).1))
        have HOWN4 := hide hown4
        have HSB4 := hide hsb4
        have HRB4 := hide hrb4
        unfold sbl at hsb4
        have bc4 := fun o => cell_of_blk hsb4 o
        have bf4 := fun o => frozen_of_blk hsb4 o
        have hsb4l : w.heap.size + 1 < w4.heap.size := lt_of_blk hsb4
        refine hK _ _ ?_
        clear hK K hgrow4 hown4 hsb4 hrb4 bc3 bf3 hkq4
        refine wpAny_take (i := 6) (v := .pointer (some ⟨w.heap.size + 1, 1, none⟩)) rfl (by kernel_rfl) (by kernel_rfl) (by kernel_rfl) (fun _ _ _ h => h) (Or.inl ⟨by kernel_rfl, fun w => by go_simp⟩) ?_
        try simp only [Act.put, zA, zB, zC, zD, zE, zF]
        refine wpAny_ready (rs := [7]) (by kernel_rfl) (by simp) ?_
        refine AllReady.cons rfl (fun K hK => ?_) AllReady.nil
        go_simp
        refine hK _ _ ?_
        clear hK K
        refine wpAny_done (by kernel_rfl) ?_ _
        go_wp2_with fail
        go_roundg (gk - 1)
        case measure => omega
        case rel =>
         have hks : KQ w4 (w4.setCell ⟨w.heap.size + 1, 1, none⟩ (.slice (some ⟨g4, 0, none⟩) (rs.length + 1) cap4)) := KQ.set (unhide HSB4) (by decide) (by decide) (by decide) _ _
         have hkk := (unhide HKQ4).trans hks
         have hro := owns_keep (unhide HOWN4) (grown_set w4 (w.heap.size + 1) 1 (.slice (some ⟨g4, 0, none⟩) (rs.length + 1) cap4)) (Or.inr (fun e => own_ty (unhide HOWN4) e (unhide HSB4) (by decide)))
         have hgg := grown_setNew (unhide HG4) (show w.heap.size ≤ w.heap.size + 1 by omega) 1 (.slice (some ⟨g4, 0, none⟩) (rs.length + 1) cap4)
         have hrb5 := (Below.heap_setCell w4 ⟨w.heap.size + 1, 1, none⟩ (.slice (some ⟨g4, 0, none⟩) (rs.length + 1) cap4) w.heap.size (by show w.heap.size ≠ w.heap.size + 1; omega)).trans (unhide HRB4)
         have hpp5 := fun B j b q NM h => (unhide HPR B j b q NM h).setTy (unhide HSB4) (by decide) (by decide) 1 (.slice (some ⟨g4, 0, none⟩) (rs.length + 1) cap4)
         rcases unhide HX3 with ⟨rl, l1, hx, h21, hrs, B3, j3, NM3, hl3, hp3⟩ | ⟨rl, l1, hx, h21, B3, NM3, hp3⟩ | ⟨q3, hx, B3, NM3, hp3⟩
         ·have := mod_ok (unhide H5) hlr hlm (unhide HMR) hx h21 hl3
          refine ⟨al, rs ++ [{ rl with pl := t.p }], j3, false, 0, ⟨hrb5, ⟨o1, n1, k1, some ⟨g4, 0, none⟩, rs.length + 1, cap4, rs.length + 1, _, blk_set (unhide HSB4) 1 _, hro, fun _ => ⟨hkk.owns (unhide HACT3), by simp, ?_⟩⟩, hgg, B3, NM3, hpp5 _ _ _ _ _ hp3⟩, by rw [hmm]; exact this⟩
          exact RulesP.snoc (r := { rl with pl := t.p }) ((unhide HRU3).keep hkk) ((hrs.pl t.p).keep hkk)
         ·exact ⟨al, rs, _, _, _, ⟨hrb5, ⟨o1, n1, k1, some ⟨g4, 0, none⟩, rs.length + 1, cap4, rs.length + 1, _, blk_set (unhide HSB4) 1 _, hro, fun e => by cases e⟩, hgg, B3, NM3, hpp5 _ _ _ _ _ hp3⟩, by rw [hmm]; exact mod_no (unhide H5) (unhide HMR) (Or.inl ⟨rl, l1, hx, h21, rfl⟩)⟩
         ·exact ⟨al, rs, _, _, _, ⟨hrb5, ⟨o1, n1, k1, some ⟨g4, 0, none⟩, rs.length + 1, cap4, rs.length + 1, _, blk_set (unhide HSB4) 1 _, hro, fun e => by cases e⟩, hgg, B3, NM3, hpp5 _ _ _ _ _ hp3⟩, by rw [hmm]; exact mod_no (unhide H5) (unhide HMR) (Or.inr hx)⟩
       ·go_simp
        refine hK _ _ ?_
        clear hK K
        refine wpAny_ready (rs := [1]) (by kernel_rfl) (by simp) ?_
        refine AllReady.cons rfl (fun K hK => ?_) AllReady.nil
        go_simp
        refine hK _ _ ?_
        clear hK K
        refine wpAny_ready (rs := [5]) (by kernel_rfl) (by simp) ?_
        refine AllReady.cons rfl (fun K hK => ?_) AllReady.nil
        refine step_append_lies _ (by rfl) _ _ 126 (by rfl) w.heap.size 205 m0 (.agg #[.int .i64 0, .string ⟨#[]⟩, .int .i64 0, .pointer none, .slice none 0 0, .pointer none]) 6 72 Tryz.underlying126 hm0 hmz0 hmz1 hmz2 rfl (by decide) (.slice o2 n2 k2) rs.length cells (by rfl) ?c0 ⟨w3.heap.size, 0, none⟩ 1 1 [.int .i64 t.k, .string t.s, .int .i64 t.p, .pointer fp, .slice no nn nc, .pointer cp] (by rfl) rfl ?c1 ?c2 (by decide) ?c3 ?c4 ?c5 (w3.heap.size + 1) (by simp) ?_
        case c0 => exact (unhide HOWN3).alloc _
        case c1 =>
         intro j u hj
         match j, hj with
         | 0, hj => simp at hj; subst hj; simp [Addr.add]
         | 1, hj => simp at hj; subst hj; simp [Addr.add]
         | 2, hj => simp at hj; subst hj; simp [Addr.add]
         | 3, hj => simp at hj; subst hj; simp [Addr.add]
         | 4, hj => simp at hj; subst hj; simp [Addr.add]
         | 5, hj => simp at hj; subst hj; simp [Addr.add]
         | j + 6, hj => simp at hj
        case c2 => intro u hu; simp at hu; rcases hu with rfl | rfl | rfl | rfl | rfl | rfl <;> rfl
        case c3 => unfold maxLen; omega
        case c4 => omega
        case c5 => simp; omega
        intro g4 cap4 w4 hown4 hgrow4 hat4 hlt4
        have hsb4 := (hgrow4.block (w.heap.size + 1) (by simp; omega) (fun e => own_ty (unhide HOWN3) e.symm (unhide HSB3) (by decide))).trans ((Below.heap_alloc _ _ _ hsb3l).trans (unhide HSB3))
        have hrb4 := (hgrow4.block w.heap.size (by simp; omega) (fun e => own_ty (unhide HOWN3) e.symm (unhide HRB3) (by decide))).trans ((Below.heap_alloc _ _ _ (by omega)).trans (unhide HRB3))
        have hkq4 : KQ w3 w4 := (KQ.below ((Below.refl _ _).alloc (Nat.le_refl _) _)).trans (KQ.row ((unhide HOWN3).alloc _) hgrow4)
        have HPR := hide (fun (B : Nat) (j : Nat) (b : Bool) (q : Nat) (NM : List Tk) (h : PP w3 pb g cap B L j b q NM) => PP.row' (h.alloc _) ((unhide HOWN3).alloc _) hgrow4)
        have HKQ4 := hide hkq4
        have HG4 := hide (grown_row (grown_alloc ((unhide HGR).trans (unhide HG3)) _) hgrow4 (fun k e => (own_lt (unhide HOWN3) k e).1))
        have HOWN4 := hide hown4
        have HSB4 := hide hsb4
        have HRB4 := hide hrb4
        unfold sbl at hsb4
        have bc4 := fun o => cell_of_blk hsb4 o
        have bf4 := fun o => frozen_of_blk hsb4 o
        have hsb4l : w.heap.size + 1 < w4.heap.size := lt_of_blk hsb4
        refine hK _ _ ?_
        clear hK K hgrow4 hown4 hsb4 hrb4 bc3 bf3 hkq4
        refine wpAny_take (i := 6) (v := .pointer (some ⟨w.heap.size + 1, 1, none⟩)) rfl (by kernel_rfl) (by kernel_rfl) (by kernel_rfl) (fun _ _ _ h => h) (Or.inl ⟨by kernel_rfl, fun w => by go_simp⟩) ?_
        try simp only [Act.put, zA, zB, zC, zD, zE, zF]
        refine wpAny_ready (rs := [7]) (by kernel_rfl) (by simp) ?_
        refine AllReady.cons rfl (fun K hK => ?_) AllReady.nil
        go_simp
        refine hK _ _ ?_
        clear hK K
        refine wpAny_done (by kernel_rfl) ?_ _
        go_wp2_with fail
        go_roundg (gk - 1)
        case measure => omega
        case rel =>
         have hks : KQ w4 (w4.setCell ⟨w.heap.size + 1, 1, none⟩ (.slice (some ⟨g4, 0, none⟩) (rs.length + 1) cap4)) := KQ.set (unhide HSB4) (by decide) (by decide) (by decide) _ _
         have hkk := (unhide HKQ4).trans hks
         have hro := owns_keep (unhide HOWN4) (grown_set w4 (w.heap.size + 1) 1 (.slice (some ⟨g4, 0, none⟩) (rs.length + 1) cap4)) (Or.inr (fun e => own_ty (unhide HOWN4) e (unhide HSB4) (by decide)))
         have hgg := grown_setNew (unhide HG4) (show w.heap.size ≤ w.heap.size + 1 by omega) 1 (.slice (some ⟨g4, 0, none⟩) (rs.length + 1) cap4)
         have hrb5 := (Below.heap_setCell w4 ⟨w.heap.size + 1, 1, none⟩ (.slice (some ⟨g4, 0, none⟩) (rs.length + 1) cap4) w.heap.size (by show w.heap.size ≠ w.heap.size + 1; omega)).trans (unhide HRB4)
         have hpp5 := fun B j b q NM h => (unhide HPR B j b q NM h).setTy (unhide HSB4) (by decide) (by decide) 1 (.slice (some ⟨g4, 0, none⟩) (rs.length + 1) cap4)
         rcases unhide HX3 with ⟨rl, l1, hx, h21, hrs, B3, j3, NM3, hl3, hp3⟩ | ⟨rl, l1, hx, h21, B3, NM3, hp3⟩ | ⟨q3, hx, B3, NM3, hp3⟩
         ·have := mod_ok (unhide H5) hlr hlm (unhide HMR) hx h21 hl3
          refine ⟨al, rs ++ [{ rl with pl := t.p }], j3, false, 0, ⟨hrb5, ⟨o1, n1, k1, some ⟨g4, 0, none⟩, rs.length + 1, cap4, rs.length + 1, _, blk_set (unhide HSB4) 1 _, hro, fun _ => ⟨hkk.owns (unhide HACT3), by simp, ?_⟩⟩, hgg, B3, NM3, hpp5 _ _ _ _ _ hp3⟩, by rw [hmm]; exact this⟩
          exact RulesP.snoc (r := { rl with pl := t.p }) ((unhide HRU3).keep hkk) ((hrs.pl t.p).keep hkk)
         ·exact ⟨al, rs, _, _, _, ⟨hrb5, ⟨o1, n1, k1, some ⟨g4, 0, none⟩, rs.length + 1, cap4, rs.length + 1, _, blk_set (unhide HSB4) 1 _, hro, fun e => by cases e⟩, hgg, B3, NM3, hpp5 _ _ _ _ _ hp3⟩, by rw [hmm]; exact mod_no (unhide H5) (unhide HMR) (Or.inl ⟨rl, l1, hx, h21, rfl⟩)⟩
         ·exact ⟨al, rs, _, _, _, ⟨hrb5, ⟨o1, n1, k1, some ⟨g4, 0, none⟩, rs.length + 1, cap4, rs.length + 1, _, blk_set (unhide HSB4) 1 _, hro, fun e => by cases e⟩, hgg, B3, NM3, hpp5 _ _ _ _ _ hp3⟩, by rw [hmm]; exact mod_no (unhide H5) (unhide HMR) (Or.inr hx)⟩
     ·have e5 : ((t.k : Int) == 5) = false := beqF (c := 5) h5
      have hend := mod_end (unhide HFE) hmod ht h5
      obtain ⟨j', b', q', hT, hj', hn', hgd, hbd⟩ : ∃ j' b' q', (Calls Tryz.prog 153 #[.pointer (some ⟨pb, 0, none⟩), .int .i64 0] wr fun e w' => e = .returned (tkP t) ∧ Mv wr w' pb g cap L.length j b q j' b' q') ∧ j' < L.length ∧ (b' = false → NM2.length ≤ j') ∧ (b' = false → b = false ∧ modelRead (PL L 0) = .ok (al, rs)) ∧ (b' = true → modelRead (PL L 0) = .error q') := by
       rcases hend with ⟨h0, hb, hx⟩ | ⟨h0, hb, hq, hx⟩ | ⟨h0, hb, hx⟩
       ·exact ⟨j, b, q, ptake_end wr pb g cap B2 L j b q NM2 t r hpp ht h0, hpp.lt, fun e => hpp.nm e, fun e => ⟨hb, hx⟩, fun e => by rw [hb] at e; cases e⟩
       ·subst hb hq
        exact ⟨L.length - 1, true, t.p, ptake_no 0 wr pb g cap B2 L j false 0 NM2 t r hpp ht h0, by have := hpp.lt; omega, fun e => (by cases e), fun e => (by cases e), fun _ => hx⟩
       ·exact ⟨j, b, q, ptake_end wr pb g cap B2 L j b q NM2 t r hpp ht h0, hpp.lt, fun e => hpp.nm e, fun e => (by rw [hb] at e; cases e), fun _ => hx⟩
      obtain ⟨o1, n1, k1, o2, n2, k2, nR, cells, hsb, hown, hgood⟩ := hmb.sbx
      have hrb := hmb.rbx
      have HTT := hide hT
      have HN' := hide hn'
      have HGD := hide hgd
      have HBD := hide hbd
      have HSB := hide hsb
      have HRB := hide hrb
      have HOWN := hide hown
      have HGOOD := hide hgood
      clear hmb hmod hpp ht h5 hend hT hn' hgd hbd hsb hrb hown hgood
      go_wp2_with (go_at_call 155; refine (pnext_any _ _ _ _ _ _ _ _ _ _ _ _ (unhide HPP) (unhide HT2)).mono ?_; rintro e W2 ⟨rfl, hW2⟩; have hW3 := hW2.symm; clear hW2; subst hW3)
      refine (unhide HTT).mono ?_
      rintro e w6 ⟨rfl, hm6⟩
      have hsb6 := (hm6.gr.block (w.heap.size + 1) (lt_of_blk (unhide HSB)) (by simp; omega)).trans (unhide HSB)
      have hrb6 := (hm6.gr.block w.heap.size (lt_of_blk (unhide HRB)) (by simp; omega)).trans (unhide HRB)
      have HM6 := hide hm6
      have HSB6 := hide hsb6
      have HRB6 := hide hrb6
      unfold sbl at hsb6 hrb6
      have sc := fun o => cell_of_blk hsb6 o
      have rc := fun o => cell_of_blk hrb6 o
      have rf := fun o => frozen_of_blk hrb6 o
      have hsl6 : w.heap.size + 1 < w6.heap.size := lt_of_blk hsb6
      have hrl6 : w.heap.size < w6.heap.size := by omega
      clear hm6 hsb6 hrb6 HTT
      simp only [tkP]
      go_wp2_with fail
      have hfin : ((w6.setCell ⟨w.heap.size, 0, none⟩ (.slice o1 n1 k1)).setCell ⟨w.heap.size, 1, none⟩ (.slice o2 n2 k2)).heap[w.heap.size]? = some (sbl o1 n1 k1 o2 n2 k2) := blk_set (blk_set (unhide HRB6) 0 _) 1 _
      unfold sbl at hfin
      have rc2 := fun o => cell_of_blk hfin o
      clear rc
      refine bodyPost_ret (v := .agg #[.slice o1 n1 k1, .slice o2 n2 k2]) (by simp [results, Tryz.results114, go_sem, rc2]) rfl ?_
      have hpp6 := (unhide HPP).move (unhide HM6) hj' (unhide HN')
      have hpp7 := (hpp6.setTy (unhide HRB6) (by decide) (by decide) 0 (.slice o1 n1 k1)).setTy (blk_set (unhide HRB6) 0 (.slice o1 n1 k1)) (by decide) (by decide) 1 (.slice o2 n2 k2)
      have hkq := ((unhide HPP).kq (unhide HM6).gr).trans ((KQ.set (unhide HRB6) (by decide) (by decide) (by decide) 0 (.slice o1 n1 k1)).trans (KQ.set (blk_set (unhide HRB6) 0 (.slice o1 n1 k1)) (by decide) (by decide) (by decide) 1 (.slice o2 n2 k2)))
      have hro6 := owns_keep (unhide HOWN) (unhide HM6).gr (Or.inr (own_ne (unhide HOWN) hp0))
      have hnr : (Value.slice o2 n2 k2).ownBlock ≠ some w.heap.size := fun e => own_ty hro6 e (unhide HRB6) (by decide)
      have hro7 := owns_keep (owns_keep hro6 (grown_set w6 w.heap.size 0 (.slice o1 n1 k1)) (Or.inr hnr)) (grown_set _ w.heap.size 1 (.slice o2 n2 k2)) (Or.inr hnr)
      refine ⟨grown_setNew (grown_setNew ((unhide HGR).trans (unhide HM6).gr) (Nat.le_refl _) _ _) (Nat.le_refl _) _ _, o1, n1, k1, o2, n2, k2, b', q', rfl, ⟨B2, j', NM2, hpp7⟩, ?_⟩
      cases hb' : b' with
      | true => exact Or.inr ⟨rfl, unhide HBD hb'⟩
      | false =>
       obtain ⟨hb, hx⟩ := unhide HGD hb'
       obtain ⟨ha, hnR, hru⟩ := unhide HGOOD hb
       subst hnR
       exact Or.inl ⟨rfl, al, rs, cells, hx, owns_mono (hkq.owns ha) (Nat.zero_le _), owns_mono hro7 (Nat.zero_le _), hru.keep hkq⟩
def PaPost (l : List Tk) (w w' : World) (e : Ending) : Prop :=
  Below w.heap.size w w' ∧ ∃ o1 n1 k1 o2 n2 k2,
    ((∃ al rs cells q, e = .returned (.tuple #[.agg #[.slice o1 n1 k1, .slice o2 n2 k2], .int .i64 q, .bool true]) ∧ modelRead l = .ok (al, rs) ∧ w'.ownsRow 0 201 3 (.slice o1 n1 k1) al.length (tkCellsP al) ∧ w'.ownsRow 0 205 6 (.slice o2 n2 k2) rs.length cells ∧ RulesP w' rs cells) ∨
     (∃ q : Nat, e = .returned (.tuple #[.agg #[.slice o1 n1 k1, .slice o2 n2 k2], .int .i64 q, .bool false]) ∧ modelRead l = .error q))
set_option maxHeartbeats 2000000 in
set_option maxRecDepth 100000 in
theorem parse_any (s : ByteArray) (w : World) (hs : s.size ≤ 400) (hG : GV w) :
  Calls Tryz.prog 69 #[.string s] w fun e w' => PaPost (lexR s (s.size + 1) 0) w w' e := by
 have hfe := lexP_fe s (s.size + 1) 0 (Nat.zero_le _) (by omega)
 have hin := lexP_in s (s.size + 1) 0 (Nat.zero_le _)
 have hlen := lexP_len s (s.size + 1) 0 (Nat.zero_le _)
 have hcut := cut_lexP s (s.size + 1) 0
 have HSC := hide (fun w hG => scan_any s w hs hG)
 generalize lexP s (s.size + 1) 0 = L at *
 rw [← hcut]
 have hpl : cut L = PL L 0 := rfl
 rw [hpl]
 clear hpl hcut
 have HFE := hide hfe
 have HIN := hide hin
 have HG := hide hG
 clear hfe hin hG
 go_enter Tryz.func69, Tryz.ntmps69
 go_wp2_with fail
 refine (unhide HSC _ ((unhide HG).alloc _)).mono ?_
 rintro e w1 ⟨v1, rfl, hown1, hb1⟩
 obtain ⟨hl1, h1 | ⟨g, cap, cur, hv1, hgb, hrow, hle, hcap, hcs, htake⟩⟩ := hown1
 ·exact absurd h1.2 (by intro e; have := (unhide HFE).ne; rw [List.length_eq_zero_iff] at e; exact this e)
 subst hv1
 have hgl := lt_of_blk hrow
 have HPP : Hid (PP (w1.alloc (.cells #[.slice (some ⟨g, 0, none⟩) L.length cap, .bool false, .int .i64 0, .slice none 0 0] 194)) w1.heap.size g cap (w1.heap.size + 1) L 0 false 0 []) := by
  have hL : 0 < L.length := List.length_pos_iff.2 (unhide HFE).ne
  refine ⟨⟨none, 0, 0, ?_, World.ownsRow_nil _ _ _ _⟩, ⟨cur, (Below.heap_alloc _ _ _ hgl).trans hrow, htake⟩, hle, hcap, by omega, hL, unhide HFE, fun t ht => ?_, by omega, by omega, by simp, fun _ => Nat.le_refl _⟩
  ·rw [blk_alloc]; simp
  ·obtain ⟨h1, h2, h3⟩ := unhide HIN t ht; exact ⟨h1, by omega, by omega⟩
 have hz1 : w.heap.size < w1.heap.size := by have := hb1.size; simp at this; omega
 have HR1 := hide (show w1.heap[w.heap.size]? = some (sbl none 0 0 none 0 0) from (hb1.block _ (by simp)).trans (blk_alloc _ _))
 have HB1 := hide (((Below.refl w.heap.size w).alloc (Nat.le_refl _) (sbl none 0 0 none 0 0)).trans (hb1.mono (by simp)))
 clear hb1 hrow htake hcs hle hcap hl1 hgb
 go_wp2_with fail
 refine (pmodel_any _ _ _ _ _ _ _ (unhide HPP)).mono ?_
 rintro e w2 ⟨hg2, o1, n1, k1, o2, n2, k2, b, q, rfl, ⟨B, j, NM, hp2⟩, hx2⟩
 have HX2 := hide hx2
 have HB2 := hide (below_grown ((unhide HB1).alloc (by omega) _) hg2 (by omega))
 have hr2 := (hg2.block w.heap.size (by simp; omega) (by simp; omega)).trans ((Below.heap_alloc _ _ _ hz1).trans (unhide HR1))
 have HR2 := hide hr2
 have hz2 : w1.heap.size < w2.heap.size := by have := hg2.size; simp at this; omega
 obtain ⟨no, nn, nc, hpb2, _⟩ := hp2.blk
 have bc := fun o => cell_of_blk hpb2 o
 have HP2 := hide hp2
 have hz3 : w.heap.size < w2.heap.size := by omega
 unfold sbl at hr2
 have rc := fun o => cell_of_blk hr2 o
 have rf := fun o => frozen_of_blk hr2 o
 clear hg2 hx2 hp2 hpb2 hr2
 go_wp2_with fail
 go_region
 go_wp2_with fail
 have hfin : ((w2.setCell ⟨w.heap.size, 0, none⟩ (.slice o1 n1 k1)).setCell ⟨w.heap.size, 1, none⟩ (.slice o2 n2 k2)).heap[w.heap.size]? = some (sbl o1 n1 k1 o2 n2 k2) := blk_set (blk_set (unhide HR2) 0 _) 1 _
 unfold sbl at hfin
 have rc2 := fun o => cell_of_blk hfin o
 clear rc
 refine bodyPost_ret (v := .tuple #[.agg #[.slice o1 n1 k1, .slice o2 n2 k2], .int .i64 q, .bool !b]) (by simp [results, Tryz.results69, go_sem, rc2, hz3]) rfl ?_
 refine ⟨((((unhide HB2).setCell (Nat.le_refl _) _).setCell (Nat.le_refl _) _).alloc (by simp [World.setCell]; omega) _).drew, o1, n1, k1, o2, n2, k2, ?_⟩
 have hk := ((KQ.set (unhide HR2) (by decide) (by decide) (by decide) 0 (.slice o1 n1 k1)).trans (KQ.set (blk_set (unhide HR2) 0 (.slice o1 n1 k1)) (by decide) (by decide) (by decide) 1 (.slice o2 n2 k2))).trans (KQ.below ((Below.refl _ _).alloc (Nat.le_refl _) (.cells #[.slice o1 n1 k1, .slice o2 n2 k2] 128)).drew)
 rcases unhide HX2 with ⟨rfl, al, rs, cells, hx, ha, hr, hru⟩ | ⟨rfl, hx⟩
 ·have hnr : (Value.slice o2 n2 k2).ownBlock ≠ some w.heap.size := fun e => own_ty hr e (unhide HR2) (by decide)
  exact Or.inl ⟨al, rs, cells, q, rfl, hx, hk.owns ha, owns_later (owns_keep (owns_keep hr (grown_set w2 w.heap.size 0 (.slice o1 n1 k1)) (Or.inr hnr)) (grown_set _ w.heap.size 1 (.slice o2 n2 k2)) (Or.inr hnr)) ((Below.refl _ _).alloc (Nat.le_refl _) _).drew, hru.keep hk⟩
 ·exact Or.inr ⟨q, rfl, hx⟩
def strC (A : List Tk) : List Value := A.map (fun t => .string t.s)
theorem strC_snoc (A : List Tk) (t : Tk) : strC (A ++ [t]) = strC A ++ [.string t.s] := by simp [strC]
theorem strC_at {A : List Tk} {k : Nat} {t : Tk} {r : List Tk} (h : A.drop k = t :: r) : (strC A)[k]? = some (.string t.s) := by
 unfold strC
 rw [List.getElem?_map]
 have : A[k]? = some t := by
  have := congrArg (fun l => l[0]?) h
  simpa using this
 rw [this]; rfl
theorem row_str {w : World} {B : Nat} {v : Value} {A : List Tk} (h : w.ownsRow B 9 1 v A.length (strC A)) : (v = .slice none 0 0 ∧ A = []) ∨ ∃ g cap, v = .slice (some ⟨g, 0, none⟩) A.length cap ∧ g < w.heap.size ∧ A.length ≤ cap ∧ cap ≤ maxLen ∧ ∀ k t r, A.drop k = t :: r → w.cell? ⟨g, k, none⟩ = some (.string t.s) := by
 obtain ⟨_, h2 | ⟨g, cap, cur, hv, _, hh, hle, hcap, _, htake⟩⟩ := h
 ·exact Or.inl ⟨h2.1, List.length_eq_zero_iff.1 h2.2⟩
 ·refine Or.inr ⟨g, cap, hv, lt_of_blk hh, hle, hcap, fun k t r hk => ?_⟩
  have hj : k < A.length := by
   rcases Nat.lt_or_ge k A.length with h | h
   ·exact h
   ·rw [List.drop_eq_nil_of_le h] at hk; cases hk
  have := strC_at hk
  rw [← htake, List.getElem?_take, if_pos (by omega)] at this
  rw [cell_of_blk hh, ← Array.getElem?_toList]
  exact this
theorem hasN_at {A : List Tk} {s : ByteArray} {k : Nat} {t : Tk} {r : List Tk} (h : A.drop k = t :: r) : hasN (A.drop k) s = if t.s.toList = s.toList then true else hasN (A.drop (k + 1)) s := by
 rw [h, dropTl h, hasN]
set_option maxHeartbeats 1000000 in
theorem index_any (A : List Tk) (s : ByteArray) (v : Value) (B : Nat) (w : World) (h : w.ownsRow B 9 1 v A.length (strC A)) :
  Calls Tryz.prog 123 #[v, .string s] w fun e w' => ∃ z : Int, e = .returned (.int .i64 z) ∧ decide (0 ≤ z) = hasN A s ∧ w' = w := by
 rcases row_str h with ⟨rfl, rfl⟩ | ⟨g, cap, rfl, hg, hle, hcap, hc⟩
 ·clear h
  go_enter Tryz.func123, Tryz.ntmps123
  go_wp2_with fail
  go_loop [8] (fun x => x = .int .i64 0) (fun x => 0)
  case atStart => rfl
  case round =>
   subst hrel
   go_wp2_with fail
   go_ret
   exact ⟨-1, rfl, rfl, rfl⟩
 ·unfold maxLen at hcap
  have HC := hide hc
  clear h hc
  go_enter Tryz.func123, Tryz.ntmps123
  go_wp2_with fail
  go_loop [8] (fun x => ∃ k : Nat, k ≤ A.length ∧ x = .int .i64 (k : Int) ∧ Hid (hasN A s = hasN (A.drop k) s)) (fun x => A.length - (intOf x).toNat)
  case atStart => exact ⟨0, Nat.zero_le _, rfl, rfl⟩
  case round =>
   obtain ⟨k, hk, rfl, H⟩ := hrel
   by_cases hlt : k < A.length
   ·obtain ⟨t, r, ht⟩ : ∃ t r, A.drop k = t :: r := by
     cases hd : A.drop k with
     | nil => have := congrArg List.length hd; simp at this; omega
     | cons t r => exact ⟨t, r, rfl⟩
    have hc := unhide HC k t r ht
    have HA := hide (hasN_at (s := s) ht)
    clear ht
    go_wp2_with fail
    ·have he : t.s.toList = s.toList := by simp_all
     go_ret
     exact ⟨k, rfl, by rw [H.out, unhide HA, if_pos he]; simp, rfl⟩
    ·have he : ¬ t.s.toList = s.toList := by intro e; simp_all
     go_round
     case rel => exact ⟨k + 1, by omega, by go_num, by show _ = _; rw [H.out, unhide HA, if_neg he]⟩
     case measure => simp [intOf]; omega
   ·go_wp2_with fail
    go_ret
    refine ⟨-1, rfl, ?_, rfl⟩
    rw [H.out, List.drop_eq_nil_of_le (by omega)]; rfl
set_option maxHeartbeats 1000000 in
theorem contains_any (A : List Tk) (s : ByteArray) (v : Value) (B : Nat) (w : World) (h : w.ownsRow B 9 1 v A.length (strC A)) :
  Calls Tryz.prog 77 #[v, .string s] w fun e w' => e = .returned (.bool (hasN A s)) ∧ w' = w := by
 have HI := hide (index_any A s v B w h)
 clear h
 go_enter Tryz.func77, Tryz.ntmps77
 go_wp2_with fail
 refine (unhide HI).mono ?_
 rintro e w1 ⟨z, rfl, hz, rfl⟩
 have HZ := hide hz
 clear hz
 go_wp2_with fail
 go_ret
 exact ⟨ret_bool (unhide HZ), rfl⟩
structure CK (w : World) (cb B : Nat) (A : List Tk) (x : Nat × Nat) : Prop where
 blk : ∃ ao an ac, w.heap[cb]? = some (.cells #[.slice ao an ac, .int .i64 x.1, .int .i64 x.2] 198 (0, 0)) ∧ w.ownsRow B 9 1 (.slice ao an ac) A.length (strC A)
 hB : B ≤ cb
theorem CK.lt {w : World} {cb B : Nat} {A : List Tk} {x : Nat × Nat} (h : CK w cb B A x) : cb < w.heap.size := by
 obtain ⟨_, _, _, h1, _⟩ := h.blk; exact lt_of_blk h1
theorem CK.later {w w' : World} {cb B : Nat} {A : List Tk} {x : Nat × Nat} (h : CK w cb B A x) (hb : Below w.heap.size w w') : CK w' cb B A x := by
 obtain ⟨ao, an, ac, h1, h2⟩ := h.blk
 exact ⟨⟨ao, an, ac, (hb.block _ (lt_of_blk h1)).trans h1, owns_later h2 hb⟩, h.hB⟩
theorem CK.alloc {w : World} {cb B : Nat} {A : List Tk} {x : Nat × Nat} (h : CK w cb B A x) (o : Obj) : CK (w.alloc o) cb B A x := h.later ((Below.refl _ _).alloc (Nat.le_refl _) _)
structure CF (cb B : Nat) (w w' : World) : Prop where
 os : w'.os = w.os
 tape : w'.tape = w.tape
 output : w'.output = w.output
 size : w.heap.size ≤ w'.heap.size
 keep : ∀ k, k < w.heap.size → k ≠ cb → (k < B ∨ ¬ TyAt w k 9) → w'.heap[k]? = w.heap[k]?
theorem CF.refl (cb B : Nat) (w : World) : CF cb B w w := ⟨rfl, rfl, rfl, Nat.le_refl _, fun _ _ _ _ => rfl⟩
theorem CF.trans {cb B : Nat} {w w1 w2 : World} (h : CF cb B w w1) (h' : CF cb B w1 w2) : CF cb B w w2 :=
 ⟨h'.os.trans h.os, h'.tape.trans h.tape, h'.output.trans h.output, Nat.le_trans h.size h'.size, fun k hk hp hc => by
  have e := h.keep k hk hp hc
  refine (h'.keep k (Nat.lt_of_lt_of_le hk h.size) hp ?_).trans e
  rcases hc with hc | hc
  ·exact Or.inl hc
  ·refine Or.inr ?_
   rintro ⟨c, m, hh⟩
   exact hc ⟨c, m, by rw [← e]; exact hh⟩⟩
theorem CF.grown {cb B : Nat} {w w' : World} (h : w.grownBy w' (some cb)) : CF cb B w w' := ⟨h.os, h.tape, h.output, h.size, fun k hk hp _ => h.block k hk (by intro e; cases e; exact hp rfl)⟩
theorem CF.below {cb B : Nat} {w w' : World} (h : Below w.heap.size w w') : CF cb B w w' := CF.grown (grown_below h _)
theorem CF.row {cb B : Nat} {w w' : World} {v : Value} {n : Nat} {xs : List Value} (hown : w.ownsRow B 9 1 v n xs) (h : w.grownBy w' v.ownBlock) : CF cb B w w' :=
 ⟨h.os, h.tape, h.output, h.size, fun k hk _ hc => h.block k hk (by
  intro e
  have := own_is hown e.symm
  rcases hc with hc | hc
  ·omega
  ·exact hc this.2)⟩
theorem CF.low {cb B : Nat} {w w' : World} (h : CF cb B w w') (hc : B ≤ cb) (hB : B ≤ w.heap.size) : Below B w w' := ⟨h.os, h.tape, h.output, h.size, fun k hk => h.keep k (by omega) (by omega) (Or.inl hk)⟩
theorem CK.told {w w' : World} {cb B : Nat} {A : List Tk} {x y : Nat × Nat} (h : CK w cb B A x) (hg : w.grownBy w' (some cb)) (hb : ∀ ao an ac, w.heap[cb]? = some (.cells #[.slice ao an ac, .int .i64 x.1, .int .i64 x.2] 198 (0, 0)) → w'.heap[cb]? = some (.cells #[.slice ao an ac, .int .i64 y.1, .int .i64 y.2] 198 (0, 0))) : CK w' cb B A y := by
 obtain ⟨ao, an, ac, h1, h2⟩ := h.blk
 exact ⟨⟨ao, an, ac, hb _ _ _ h1, owns_keep h2 hg (Or.inr (fun e => own_ty h2 e h1 (by decide)))⟩, h.hB⟩
set_option maxHeartbeats 1000000 in
theorem tell_any (w : World) (cb B : Nat) (A : List Tk) (x : Nat × Nat) (p e : Nat) (h : CK w cb B A x) :
  Calls Tryz.prog 158 #[.pointer (some ⟨cb, 0, none⟩), .int .i64 (p : Int), .int .i64 (e : Int)] w fun r w' => r = .returned (.tuple #[]) ∧ CK w' cb B A (tell x p e) ∧ w.grownBy w' (some cb) := by
 obtain ⟨ao, an, ac, h1, _⟩ := h.blk
 have bc := fun o => cell_of_blk h1 o
 have bf := fun o => frozen_of_blk h1 o
 have hlt := h.lt
 have HC := hide h
 clear h h1
 by_cases h0 : x.2 = 0
 ·have e0 : ((x.2 : Int) == 0) = true := beqT (c := 0) h0
  have HT : Hid (tell x p e = (p, e)) := if_pos (Or.inl h0)
  clear h0
  go_enter Tryz.func158, Tryz.ntmps158
  go_wp2_with fail
  go_end0
  rw [unhide HT]
  exact ⟨rfl, (unhide HC).told ((grown_set _ _ _ _).trans (grown_set _ _ _ _)) (fun _ _ _ h => blk_set (blk_set h 1 _) 2 _), (grown_set _ _ _ _).trans (grown_set _ _ _ _)⟩
 ·have e0 : ((x.2 : Int) == 0) = false := beqF (c := 0) h0
  by_cases hp : p < x.1
  ·have hp' : (p : Int) < (x.1 : Int) := by omega
   have HT : Hid (tell x p e = (p, e)) := if_pos (Or.inr hp)
   clear h0 hp
   go_enter Tryz.func158, Tryz.ntmps158
   go_wp2_with fail
   go_end0
   rw [unhide HT]
   exact ⟨rfl, (unhide HC).told ((grown_set _ _ _ _).trans (grown_set _ _ _ _)) (fun _ _ _ h => blk_set (blk_set h 1 _) 2 _), (grown_set _ _ _ _).trans (grown_set _ _ _ _)⟩
  ·have hp' : ¬ (p : Int) < (x.1 : Int) := by omega
   have HT : Hid (tell x p e = x) := if_neg (by omega)
   clear h0 hp
   go_enter Tryz.func158, Tryz.ntmps158
   go_wp2_with fail
   go_end0
   rw [unhide HT]
   exact ⟨rfl, unhide HC, World.grownBy.refl _ _⟩
theorem tells_one (x : Nat × Nat) (p e : Nat) : tells x [(p, e)] = tell x p e := rfl
theorem tells_nil (x : Nat × Nat) : tells x [] = x := rfl
set_option maxHeartbeats 1000000 in
theorem checkLength_any (w : World) (cb B : Nat) (A : List Tk) (x : Nat × Nat) (t : Tk) (h : CK w cb B A x) :
  Calls Tryz.prog 157 #[.pointer (some ⟨cb, 0, none⟩), tkP t] w fun r w' => r = .returned (.tuple #[]) ∧ CK w' cb B A (tells x (fLong t)) ∧ CF cb B w w' := by
 have HC := hide h
 clear h
 unfold tkP
 by_cases hl : 8 < t.s.size
 ·have hl' : (8 : Int) < (t.s.size : Int) := by omega
  have HT : Hid (tells x (fLong t) = tell x t.p 1) := by show _ = _; unfold fLong; rw [if_pos hl]; rfl
  clear hl
  go_enter Tryz.func157, Tryz.ntmps157
  go_wp2_with fail
  refine (tell_any _ cb B A x t.p 1 ((unhide HC).alloc _)).mono ?_
  rintro e w1 ⟨rfl, hc1, hg1⟩
  have HC1 := hide hc1
  have HG1 := hide hg1
  clear hc1 hg1
  go_wp2_with fail
  go_end0
  rw [unhide HT]
  exact ⟨rfl, unhide HC1, (CF.below ((Below.refl _ _).alloc (Nat.le_refl _) _)).trans (CF.grown (unhide HG1))⟩
 ·have hl' : ¬ (8 : Int) < (t.s.size : Int) := by omega
  have HT : Hid (tells x (fLong t) = x) := by show _ = _; unfold fLong; rw [if_neg hl]; rfl
  clear hl
  go_enter Tryz.func157, Tryz.ntmps157
  go_wp2_with fail
  go_end0
  rw [unhide HT]
  exact ⟨rfl, (unhide HC).alloc _, CF.below ((Below.refl _ _).alloc (Nat.le_refl _) _)⟩
end Go.Proofs.YtidakhhekofkoaaGreatDoor
