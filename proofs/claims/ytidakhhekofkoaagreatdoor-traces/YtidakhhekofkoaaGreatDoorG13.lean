/- The reference's rule. -/
import Derived.Test.YtidakhhekofkoaaGreatDoorG10
import Derived.Test.YtidakhhekofkoaaGreatDoorG05
import Derived.Deep.RegionWith
import Derived.OrdersHeld
set_option linter.unusedSimpArgs false
open List renaming setIfInBounds_toArray → zA, set_cons_zero → zB, set_cons_succ → zC, getElem_toArray → zD, getElem_cons_succ → zE, getElem_cons_zero → zF
namespace Go.Proofs.YtidakhhekofkoaaGreatDoor
open Go.RowKit Go.Deep
def rlV (a b : Int) (s : ByteArray) (c : Int) (o : Option Addr) (n k : Nat) (d : Int) (p : Option Addr) : Value :=
 .agg #[.int .i64 a, .int .u8 b, .string s, .int .i64 c, .slice o n k, .int .i64 d, .pointer p]
def RlIs (w : World) (r : Rl) (a b : Int) (s : ByteArray) (c : Int) (o : Option Addr) (n k : Nat) (d : Int) (p : Option Addr) : Prop :=
 a = r.pl ∧ (if r.call = true then b = refK r.word.k ∧ s = r.word.s ∧ c = r.word.p ∧ w.ownsRow 0 232 3 (.slice o n k) r.args.length (tkCellsR r.args) ∧ d = r.fin ∧ p = none
  else IsF w r.f p ∧ p.isSome = true)
def RLeft (L : List Tk) (pb g cap : Nat) (w w' : World) (e : Ending) (x : Except Nat (Rl × List Tk)) : Prop :=
 w.grownBy w' (some pb) ∧ ∃ a b s c o n k d p, e = .returned (rlV a b s c o n k d p) ∧ (match x with
  | .ok (r, l) => RlIs w' r a b s c o n k d p ∧ ∃ j, L.drop j = l ∧ PS w' pb g cap L j false
  | .error q => ∃ j, headP (L.drop j) = q ∧ PS w' pb g cap L j true)
theorem pf_node : ∀ n lev f l f' l', (5 ≤ lev → f ≠ .nil) → pf n lev f l = .ok (f', l') → f' ≠ .nil
 | 0, _, _, _, _, _, _, h => by simp [pf] at h
 | n + 1, 0, f, l, f', l', _, h => by
  rw [pf] at h
  split at h
  ·cases h
  ·rename_i a l1 e
   have h1 := pf_node n 1 .nil l a l1 (by omega) e
   split at h
   ·split at h
    ·cases h
    ·cases h; intro hh; cases hh
   ·cases h; exact h1
 | n + 1, 1, f, l, f', l', _, h => by
  rw [pf] at h
  split at h
  ·cases h
  ·rename_i a l1 e
   exact pf_node n 5 a l1 f' l' (fun _ => pf_node n 2 .nil l a l1 (by omega) e) h
 | n + 1, 2, f, l, f', l', _, h => by
  rw [pf] at h
  split at h
  ·cases h
  ·rename_i a l1 e
   exact pf_node n 6 a l1 f' l' (fun _ => pf_node n 3 .nil l a l1 (by omega) e) h
 | n + 1, 3, f, l, f', l', _, h => by
  rw [pf] at h
  split at h
  ·cases h
  ·rename_i a l1 e
   have h1 := pf_node n 4 .nil l a l1 (by omega) e
   split at h
   ·split at h
    ·cases h
    ·cases h; intro hh; cases hh
   ·cases h; exact h1
 | n + 1, 4, f, l, f', l', _, h => by
  rw [pf] at h
  split at h
  ·split at h
   ·cases h
   ·cases h; intro hh; cases hh
  ·split at h
   ·split at h
    ·cases h
    ·rename_i a l1 e
     have h1 := pf_node n 0 .nil l.tail a l1 (by omega) e
     split at h
     ·cases h; exact h1
     ·cases h
   ·split at h
    ·cases h; intro hh; cases hh
    ·split at h
     ·cases h; intro hh; cases hh
     ·cases h
 | n + 1, 5, f, l, f', l', hf, h => by
  rw [pf] at h
  split at h
  ·split at h
   ·cases h
   ·exact pf_node n 5 _ _ f' l' (fun _ => by intro hh; cases hh) h
  ·cases h; exact hf (by omega)
 | n + 1, 6, f, l, f', l', hf, h => by
  rw [pf] at h
  split at h
  ·split at h
   ·cases h
   ·exact pf_node n 6 _ _ f' l' (fun _ => by intro hh; cases hh) h
  ·cases h; exact hf (by omega)
 | n + 1, k + 7, f, l, f', l', hf, h => by
  rw [pf] at h; cases h; exact hf (by omega)
theorem IsF.some {w : World} {f : Fm} {p : Option Addr} (h : IsF w f p) (hn : f ≠ .nil) : p.isSome = true := by
 cases f with
 | nil => exact absurd rfl hn
 | node => obtain ⟨b, pl, pr, rfl, _⟩ := h; rfl
def TyAt (w : World) (b ty : Nat) : Prop := ∃ c m, w.heap[b]? = some (.cells c ty m)
theorem TyAt.set {w : World} {b ty : Nat} (h : TyAt w b ty) (a : Addr) (v : Value) : TyAt (w.setCell a v) b ty := by
 obtain ⟨c, m, h⟩ := h
 unfold TyAt
 simp only [World.setCell, Array.getElem?_modify]
 split
 ·rw [h]; exact ⟨_, _, rfl⟩
 ·exact ⟨c, m, h⟩
theorem IsF.set {w : World} {b ty o : Nat} {v : Value} (ht : TyAt w b ty) (hne : ty ≠ 292) {f : Fm} {p : Option Addr} (hf : IsF w f p) : IsF (w.setCell ⟨b, o, none⟩ v) f p :=
 hf.keep (grown_set w b o v) (fun k c m e => by cases e; obtain ⟨c', m', h⟩ := ht; rw [h]; intro e; injection e with e; injection e with _ e _; exact hne e)
theorem field0 (x p : Int) (s : ByteArray) (w : World) : (Instr.field 232 (.agg #[.int .u8 x, .string s, .int .i64 p]) 0).run Tryz.prog w = .ok (.int .u8 x) w := by kernel_rfl
theorem field2 (x p : Int) (s : ByteArray) (w : World) : (Instr.field 232 (.agg #[.int .u8 x, .string s, .int .i64 p]) 2).run Tryz.prog w = .ok (.int .i64 p) w := by kernel_rfl
set_option maxHeartbeats 1000000 in
set_option maxRecDepth 100000 in
theorem rule_formula (w : World) (pb g cap : Nat) (L : List Tk) (i : Nat) (h : PS w pb g cap L i false) (hno : headK (L.drop i) ≠ 2) :
  Calls Tryz.prog 248 #[.pointer (some ⟨pb, 0, none⟩)] w fun e w' => RLeft L pb g cap w w' e (ruleRead (L.drop i)) := by
 obtain ⟨t, r, ht, hk⟩ := head_no h.ends hno
 have hr : (refK t.k != 110) = true := by rw [refK_n]; simp [hk]
 have HT := hide ht
 have HP := hide h
 obtain ⟨c0, c1, c2⟩ := h.cells
 have hp0 := lt_of_blk h.blk
 have HNO : Hid (headK (L.drop i) = t.k) := by show _ = _; rw [ht]; rfl
 have HK := hide hk
 clear h ht hno hk
 have fl0 := field0
 go_enter Tryz.func248, Tryz.ntmps248
 go_wp2_with fail
 refine wp_region_any (by kernel_rfl) ?_
 change wpAny _ _ _ _ _ _ _ (World.drew _)
 refine wpAny_take (i := 0) (v := .pointer (some ⟨pb, 0, none⟩)) rfl (by kernel_rfl) (by kernel_rfl) (by kernel_rfl) (fun _ _ _ h => h) (Or.inl ⟨by kernel_rfl, fun w => by go_simp⟩) ?_
 try simp only [Act.put, zA, zB, zC, zD, zE, zF]
 refine wpAny_ready (rs := [1]) (by kernel_rfl) (by simp) ?_
 refine AllReady.cons rfl (fun K hK => ?_) AllReady.nil
 go_simp
 go_wp2_with (go_at_call 201; refine (now_any _ _ _ _ _ _ _ _ _ ((unhide HP).later (by exact (((Below.refl _ _).alloc (Nat.le_refl _) _).alloc (by simp) _).drew)) (unhide HT)).mono ?_; rintro e w1 ⟨rfl, hb⟩; simp only [tkR])
 refine wpAny_take (i := 2) (v := .int .u8 (refK t.k)) rfl (by kernel_rfl) (by kernel_rfl) (by kernel_rfl) (fun _ _ _ h => h) (Or.inl ⟨by kernel_rfl, fun w => by go_simp⟩) ?_
 try simp only [Act.put, zA, zB, zC, zD, zE, zF]
 refine wpAny_take (i := 3) (v := .bool true) rfl (by kernel_rfl) (by kernel_rfl) (by kernel_rfl) (fun _ _ _ h => h) (Or.inl ⟨by kernel_rfl, fun w => by go_simp⟩) ?_
 try simp only [Act.put, zA, zB, zC, zD, zE, zF]
 refine wpAny_take (i := 4) (v := .bool true) rfl (by kernel_rfl) (by kernel_rfl) (by kernel_rfl) (fun _ _ _ h => h) (Or.inl ⟨by kernel_rfl, fun w => by go_simp⟩) ?_
 try simp only [Act.put, zA, zB, zC, zD, zE, zF]
 refine wpAny_take (i := 5) (v := undef) rfl (by kernel_rfl) (by kernel_rfl) (by kernel_rfl) (fun _ _ _ h => h) (Or.inr ⟨by kernel_rfl, rfl⟩) ?_
 try simp only [Act.put, zA, zB, zC, zD, zE, zF]
 refine wpAny_take (i := 6) (v := undef) rfl (by kernel_rfl) (by kernel_rfl) (by kernel_rfl) (fun _ _ _ h => h) (Or.inr ⟨by kernel_rfl, rfl⟩) ?_
 try simp only [Act.put, zA, zB, zC, zD, zE, zF]
 refine wpAny_take (i := 7) (v := undef) rfl (by kernel_rfl) (by kernel_rfl) (by kernel_rfl) (fun _ _ _ h => h) (Or.inr ⟨by kernel_rfl, rfl⟩) ?_
 try simp only [Act.put, zA, zB, zC, zD, zE, zF]
 refine wpAny_take (i := 8) (v := undef) rfl (by kernel_rfl) (by kernel_rfl) (by kernel_rfl) (fun _ _ _ h => h) (Or.inr ⟨by kernel_rfl, rfl⟩) ?_
 try simp only [Act.put, zA, zB, zC, zD, zE, zF]
 refine wpAny_take (i := 9) (v := undef) rfl (by kernel_rfl) (by kernel_rfl) (by kernel_rfl) (fun _ _ _ h => h) (Or.inr ⟨by kernel_rfl, rfl⟩) ?_
 try simp only [Act.put, zA, zB, zC, zD, zE, zF]
 refine wpAny_take (i := 10) (v := undef) rfl (by kernel_rfl) (by kernel_rfl) (by kernel_rfl) (fun _ _ _ h => h) (Or.inr ⟨by kernel_rfl, rfl⟩) ?_
 try simp only [Act.put, zA, zB, zC, zD, zE, zF]
 refine wpAny_take (i := 11) (v := undef) rfl (by kernel_rfl) (by kernel_rfl) (by kernel_rfl) (fun _ _ _ h => h) (Or.inr ⟨by kernel_rfl, rfl⟩) ?_
 try simp only [Act.put, zA, zB, zC, zD, zE, zF]
 refine wpAny_take (i := 12) (v := undef) rfl (by kernel_rfl) (by kernel_rfl) (by kernel_rfl) (fun _ _ _ h => h) (Or.inr ⟨by kernel_rfl, rfl⟩) ?_
 try simp only [Act.put, zA, zB, zC, zD, zE, zF]
 refine wpAny_take (i := 13) (v := undef) rfl (by kernel_rfl) (by kernel_rfl) (by kernel_rfl) (fun _ _ _ h => h) (Or.inr ⟨by kernel_rfl, rfl⟩) ?_
 try simp only [Act.put, zA, zB, zC, zD, zE, zF]
 refine wpAny_take (i := 14) (v := undef) rfl (by kernel_rfl) (by kernel_rfl) (by kernel_rfl) (fun _ _ _ h => h) (Or.inr ⟨by kernel_rfl, rfl⟩) ?_
 try simp only [Act.put, zA, zB, zC, zD, zE, zF]
 refine wpAny_take (i := 15) (v := undef) rfl (by kernel_rfl) (by kernel_rfl) (by kernel_rfl) (fun _ _ _ h => h) (Or.inr ⟨by kernel_rfl, rfl⟩) ?_
 try simp only [Act.put, zA, zB, zC, zD, zE, zF]
 refine wpAny_take (i := 16) (v := undef) rfl (by kernel_rfl) (by kernel_rfl) (by kernel_rfl) (fun _ _ _ h => h) (Or.inr ⟨by kernel_rfl, rfl⟩) ?_
 try simp only [Act.put, zA, zB, zC, zD, zE, zF]
 refine wpAny_take (i := 17) (v := undef) rfl (by kernel_rfl) (by kernel_rfl) (by kernel_rfl) (fun _ _ _ h => h) (Or.inr ⟨by kernel_rfl, rfl⟩) ?_
 try simp only [Act.put, zA, zB, zC, zD, zE, zF]
 refine wpAny_take (i := 18) (v := .bool true) rfl (by kernel_rfl) (by kernel_rfl) (by kernel_rfl) (fun _ _ _ h => h) (Or.inl ⟨by kernel_rfl, fun w => by go_simp⟩) ?_
 try simp only [Act.put, zA, zB, zC, zD, zE, zF]
 refine wpAny_done (by kernel_rfl) ?_ _
 have HB := hide (show Below w.heap.size w w1 from ((((Below.refl w.heap.size w).alloc (Nat.le_refl _) _).alloc (by simp) _).drew).trans (hb.mono (by simp; omega)))
 have hz1 : w.heap.size + 1 < w1.heap.size := by have := hb.size; simp at this; omega
 have hrb1 : w1.heap[w.heap.size]? = some (.cells #[.int .i64 0, .int .u8 0, .string ⟨#[]⟩, .int .i64 0, .slice none 0 0, .int .i64 0, .pointer none] 235 (0, 0)) :=
  (hb.block _ (by simp; omega)).trans ((Below.heap_alloc _ _ _ (by simp)).trans (blk_alloc _ _))
 have hrv1 : w1.heap[w.heap.size + 1]? = some (.cells #[.int .i64 0, .int .u8 0, .string ⟨#[]⟩, .int .i64 0, .slice none 0 0, .int .i64 0, .pointer none] 235 (0, 0)) :=
  (hb.block _ (by simp)).trans (blk_alloc' _ _ _ (by simp))
 have HR1 := hide hrb1
 have HV1 := hide hrv1
 have HP1 := hide ((unhide HP).later (unhide HB))
 clear hb hrb1 hrv1 c0 c1 c2
 go_wp2_with (go_at_call 282; refine (formula_any (6 * (L.drop i).length + 5) _ _ _ _ _ _ (unhide HP1) (Nat.le_refl _)).mono ?_)
 rintro e w2 ⟨hg2, p2, rfl, hx2⟩
 have HG2 := hide hg2
 have hrb2 := (hg2.block w.heap.size (by omega) (by simp; omega)).trans (unhide HR1)
 have hrv2 := (hg2.block (w.heap.size + 1) hz1 (by simp; omega)).trans (unhide HV1)
 have hz2 : w.heap.size + 1 < w2.heap.size := lt_of_blk hrv2
 have rc := fun o => cell_of_blk hrb2 o
 have rf := fun o => frozen_of_blk hrb2 o
 have vc := fun o => cell_of_blk hrv2 o
 have vf := fun o => frozen_of_blk hrv2 o
 have HX2 := hide hx2
 have HRB2 := hide hrb2
 have HRV2 := hide hrv2
 clear hg2 hx2 hrb2 hrv2
 go_wp2_with fail
 refine bodyPost_ret (v := rlV 0 0 ⟨#[]⟩ 0 none 0 0 0 p2) ?_ rfl ?_
 ·simp [results, Tryz.results248, go_sem, rlV, rc]
 have hgl := (unhide HP).gLt
 have hgr := grown_setNew (grown_setNew (grown_setNew (grown_setNew (grown_setNew (grown_setNew (grown_setNew (grown_setNew ((grown_below (unhide HB) (some pb)).trans (unhide HG2)) (b := w.heap.size + 1) (by omega) 6 (.pointer p2)) (Nat.le_refl _) 0 (.int .i64 0)) (Nat.le_refl _) 1 (.int .u8 0)) (Nat.le_refl _) 2 (.string ⟨#[]⟩)) (Nat.le_refl _) 3 (.int .i64 0)) (Nat.le_refl _) 4 (.slice none 0 0)) (Nat.le_refl _) 5 (.int .i64 0)) (Nat.le_refl _) 6 (.pointer p2)
 have hkeep : ∀ j bad, PS w2 pb g cap L j bad → PS ((((((((w2.setCell ⟨w.heap.size + 1, 6, none⟩ (.pointer p2)).setCell ⟨w.heap.size, 0, none⟩ (.int .i64 0)).setCell ⟨w.heap.size, 1, none⟩ (.int .u8 0)).setCell ⟨w.heap.size, 2, none⟩ (.string ⟨#[]⟩)).setCell ⟨w.heap.size, 3, none⟩ (.int .i64 0)).setCell ⟨w.heap.size, 4, none⟩ (.slice none 0 0)).setCell ⟨w.heap.size, 5, none⟩ (.int .i64 0)).setCell ⟨w.heap.size, 6, none⟩ (.pointer p2)) pb g cap L j bad := fun j bad hp =>
  (((((((hp.setOther _ _ _ (by omega) (by omega)).setOther _ _ _ (by omega) (by omega)).setOther _ _ _ (by omega) (by omega)).setOther _ _ _ (by omega) (by omega)).setOther _ _ _ (by omega) (by omega)).setOther _ _ _ (by omega) (by omega)).setOther _ _ _ (by omega) (by omega)).setOther _ _ _ (by omega) (by omega)
 have t0 : TyAt w2 w.heap.size 235 := ⟨_, _, unhide HRB2⟩
 have t1 : TyAt w2 (w.heap.size + 1) 235 := ⟨_, _, unhide HRV2⟩
 have hrr : ruleRead (L.drop i) = (match pf (6 * (L.drop i).length + 5) 0 .nil (L.drop i) with | .error q => .error q | .ok (f, l1) => .ok (⟨0, false, tk0, [], 0, f⟩, l1)) := by
  rw [ruleRead, if_neg (by rw [unhide HNO]; exact fun h => (unhide HK) h.1)]; rfl
 rw [hrr]
 refine ⟨hgr, 0, 0, ⟨#[]⟩, 0, none, 0, 0, 0, p2, rfl, ?_⟩
 have hx := unhide HX2
 cases hpf : pf (6 * (L.drop i).length + 5) 0 .nil (L.drop i) with
 | error q =>
  rw [hpf] at hx
  obtain ⟨j, hq, hp⟩ := hx
  exact ⟨j, hq, hkeep j _ hp⟩
 | ok x =>
  obtain ⟨f, l1⟩ := x
  rw [hpf] at hx
  obtain ⟨hf, j, hl, hp⟩ := hx
  refine ⟨⟨rfl, ?_⟩, j, hl, hkeep j _ hp⟩
  rw [if_neg (by simp)]
  exact ⟨(((((((hf.set t1 (by decide)).set (t0.set _ _) (by decide)).set ((t0.set _ _).set _ _) (by decide)).set (((t0.set _ _).set _ _).set _ _) (by decide)).set ((((t0.set _ _).set _ _).set _ _).set _ _) (by decide)).set (((((t0.set _ _).set _ _).set _ _).set _ _).set _ _) (by decide)).set ((((((t0.set _ _).set _ _).set _ _).set _ _).set _ _).set _ _) (by decide)).set (((((((t0.set _ _).set _ _).set _ _).set _ _).set _ _).set _ _).set _ _) (by decide), hf.some (pf_node _ 0 _ _ _ _ (by omega) hpf)⟩
set_option maxHeartbeats 2000000 in
set_option maxRecDepth 100000 in
theorem rule_formula2 (w : World) (pb g cap : Nat) (L : List Tk) (i : Nat) (h : PS w pb g cap L i false) (h2 : headK (L.drop i) = 2) (h18 : headK (L.drop i).tail ≠ 18) :
  Calls Tryz.prog 248 #[.pointer (some ⟨pb, 0, none⟩)] w fun e w' => RLeft L pb g cap w w' e (ruleRead (L.drop i)) := by
 obtain ⟨t, u, r, ht, hk⟩ := head_yes h.ends (by decide) h2
 have hr : (refK t.k != 110) = false := by rw [refK_n]; simp [hk]
 have hu : u.k ≠ 18 := by intro e; rw [ht] at h18; exact h18 e
 have hok := h.ok u (drop_mem (drop_tail ht))
 have h40 : (u.s.toList != [40]) = true := by
  rw [ByteArray.toList_eq, bne_iff_ne]
  by_cases h4 : 4 ≤ u.k
  ·intro e; rw [hok.2.1 h4] at e
   exact hu (kText_eq hok.1 (by decide) h4 (by decide) e)
  ·exact hok.2.2.2 (by omega)
 have HT := hide ht
 have HP := hide h
 have HK := hide (show ¬ (headK (L.drop i) = 2 ∧ headK (L.drop i).tail = 18) from fun e => h18 e.2)
 have hlen := h.len
 have hlt := h.lt
 have hlt1 : i + 1 < L.length := by have := congrArg List.length ht; simp at this; omega
 have hp0 := lt_of_blk h.blk
 have hgl0 := h.gLt
 have hI : (i : Int) + 1 < (L.length : Int) := by omega
 have hI0 : (0 : Int) ≤ (i : Int) + 1 := by omega
 have hwr : IntKind.i64.wrap ((i : Int) + 1) = (i : Int) + 1 := by rw [IntKind.wrap_i64]; omega
 have h40' : ¬ u.s.toList = [40] := by simpa using h40
 clear h ht h2 h18 hk hu hok
 have fl0 := field0
 go_enter Tryz.func248, Tryz.ntmps248
 obtain ⟨c0, c1, c2⟩ := (unhide HP).cells
 go_wp2_with fail
 clear c0 c1 c2
 refine wp_region_any (by kernel_rfl) ?_
 change wpAny _ _ _ _ _ _ _ (World.drew _)
 refine wpAny_take (i := 0) (v := .pointer (some ⟨pb, 0, none⟩)) rfl (by kernel_rfl) (by kernel_rfl) (by kernel_rfl) (fun _ _ _ h => h) (Or.inl ⟨by kernel_rfl, fun w => by go_simp⟩) ?_
 try simp only [Act.put, zA, zB, zC, zD, zE, zF]
 refine wpAny_ready (rs := [1]) (by kernel_rfl) (by simp) ?_
 refine AllReady.cons rfl (fun K hK => ?_) AllReady.nil
 go_simp
 go_wp2_with (go_at_call 201; refine (now_any _ _ _ _ _ _ _ _ _ ((unhide HP).later (by exact (((Below.refl _ _).alloc (Nat.le_refl _) _).alloc (by simp) _).drew)) (unhide HT)).mono ?_; rintro e w1 ⟨rfl, hb⟩; simp only [tkR])
 have HB := hide (show Below w.heap.size w w1 from ((((Below.refl w.heap.size w).alloc (Nat.le_refl _) _).alloc (by simp) _).drew).trans (hb.mono (by simp; omega)))
 have HP1 := hide ((unhide HP).later (unhide HB))
 obtain ⟨c0, c1, c2⟩ := (unhide HP1).cells
 obtain ⟨k0, k1, k2⟩ := (unhide HP1).tok (i + 1) _ _ (drop_tail (unhide HT))
 refine wpAny_of_held (S := fun w' => w' = w1) _ _ _ _ ?_
 refine wpAnyH_take (i := 2) (v := .int .u8 (refK t.k)) rfl (by kernel_rfl) (by kernel_rfl) (by kernel_rfl) (fun _ _ _ h => h) (Or.inl ⟨by kernel_rfl, fun w hw => by subst hw; go_simp⟩) rfl ?_
 try simp only [Act.put, zA, zB, zC, zD, zE, zF]
 refine wpAnyH_take (i := 3) (v := .bool false) rfl (by kernel_rfl) (by kernel_rfl) (by kernel_rfl) (fun _ _ _ h => h) (Or.inl ⟨by kernel_rfl, fun w hw => by subst hw; go_simp⟩) rfl ?_
 try simp only [Act.put, zA, zB, zC, zD, zE, zF]
 refine wpAnyH_take (i := 4) (v := .bool false) rfl (by kernel_rfl) (by kernel_rfl) (by kernel_rfl) (fun _ _ _ h => h) (Or.inl ⟨by kernel_rfl, fun w hw => by subst hw; go_simp⟩) rfl ?_
 try simp only [Act.put, zA, zB, zC, zD, zE, zF]
 refine wpAnyH_take (i := 5) (v := .pointer (some ⟨pb, 0, none⟩)) rfl (by kernel_rfl) (by kernel_rfl) (by kernel_rfl) (fun _ _ _ h => h) (Or.inl ⟨by kernel_rfl, fun w hw => by subst hw; go_simp⟩) rfl ?_
 try simp only [Act.put, zA, zB, zC, zD, zE, zF]
 refine wpAnyH_take (i := 6) (v := .pointer (some ⟨pb, 0, none⟩)) rfl (by kernel_rfl) (by kernel_rfl) (by kernel_rfl) (fun _ _ _ h => h) (Or.inl ⟨by kernel_rfl, fun w hw => by subst hw; go_simp⟩) rfl ?_
 try simp only [Act.put, zA, zB, zC, zD, zE, zF]
 refine wpAnyH_take (i := 7) (v := .pointer (some ⟨pb, 0, none⟩)) rfl (by kernel_rfl) (by kernel_rfl) (by kernel_rfl) (fun _ _ _ h => h) (Or.inl ⟨by kernel_rfl, fun w hw => by subst hw; go_simp⟩) rfl ?_
 try simp only [Act.put, zA, zB, zC, zD, zE, zF]
 refine wpAnyH_take (i := 8) (v := .slice (some ⟨g, 0, none⟩) L.length cap) rfl (by kernel_rfl) (by kernel_rfl) (by kernel_rfl) (fun _ _ _ h => h) (Or.inl ⟨by kernel_rfl, fun w hw => by subst hw; go_simp⟩) rfl ?_
 try simp only [Act.put, zA, zB, zC, zD, zE, zF]
 refine wpAnyH_take (i := 9) (v := .pointer (some ⟨pb, 0, none⟩)) rfl (by kernel_rfl) (by kernel_rfl) (by kernel_rfl) (fun _ _ _ h => h) (Or.inl ⟨by kernel_rfl, fun w hw => by subst hw; go_simp⟩) rfl ?_
 try simp only [Act.put, zA, zB, zC, zD, zE, zF]
 refine wpAnyH_take (i := 10) (v := .pointer (some ⟨pb, 0, none⟩)) rfl (by kernel_rfl) (by kernel_rfl) (by kernel_rfl) (fun _ _ _ h => h) (Or.inl ⟨by kernel_rfl, fun w hw => by subst hw; go_simp⟩) rfl ?_
 try simp only [Act.put, zA, zB, zC, zD, zE, zF]
 refine wpAnyH_take (i := 11) (v := .pointer (some ⟨pb, 1, none⟩)) rfl (by kernel_rfl) (by kernel_rfl) (by kernel_rfl) (fun _ _ _ h => h) (Or.inl ⟨by kernel_rfl, fun w hw => by subst hw; go_simp⟩) rfl ?_
 try simp only [Act.put, zA, zB, zC, zD, zE, zF]
 refine wpAnyH_take (i := 12) (v := .int .i64 (i : Int)) rfl (by kernel_rfl) (by kernel_rfl) (by kernel_rfl) (fun _ _ _ h => h) (Or.inl ⟨by kernel_rfl, fun w hw => by subst hw; go_simp⟩) rfl ?_
 try simp only [Act.put, zA, zB, zC, zD, zE, zF]
 refine wpAnyH_take (i := 13) (v := .int .i64 ((i : Int) + 1)) rfl (by kernel_rfl) (by kernel_rfl) (by kernel_rfl) (fun _ _ _ h => h) (Or.inl ⟨by kernel_rfl, fun w hw => by subst hw; go_simp⟩) rfl ?_
 try simp only [Act.put, zA, zB, zC, zD, zE, zF]
 refine wpAnyH_take (i := 14) (v := .pointer (some ⟨g, (i + 1) * 3, none⟩)) rfl (by kernel_rfl) (by kernel_rfl) (by kernel_rfl) (fun _ _ _ h => h) (Or.inl ⟨by kernel_rfl, fun w hw => by subst hw; go_simp⟩) rfl ?_
 try simp only [Act.put, zA, zB, zC, zD, zE, zF]
 refine wpAnyH_take (i := 15) (v := .pointer (some ⟨g, (i + 1) * 3 + 1, none⟩)) rfl (by kernel_rfl) (by kernel_rfl) (by kernel_rfl) (fun _ _ _ h => h) (Or.inl ⟨by kernel_rfl, fun w hw => by subst hw; go_simp⟩) rfl ?_
 try simp only [Act.put, zA, zB, zC, zD, zE, zF]
 refine wpAnyH_take (i := 16) (v := .string u.s) rfl (by kernel_rfl) (by kernel_rfl) (by kernel_rfl) (fun _ _ _ h => h) (Or.inl ⟨by kernel_rfl, fun w hw => by subst hw; go_simp⟩) rfl ?_
 try simp only [Act.put, zA, zB, zC, zD, zE, zF]
 refine wpAnyH_take (i := 17) (v := .bool true) rfl (by kernel_rfl) (by kernel_rfl) (by kernel_rfl) (fun _ _ _ h => h) (Or.inl ⟨by kernel_rfl, fun w hw => by subst hw; go_simp⟩) rfl ?_
 try simp only [Act.put, zA, zB, zC, zD, zE, zF]
 refine wpAnyH_take (i := 18) (v := .bool true) rfl (by kernel_rfl) (by kernel_rfl) (by kernel_rfl) (fun _ _ _ h => h) (Or.inl ⟨by kernel_rfl, fun w hw => by subst hw; go_simp⟩) rfl ?_
 try simp only [Act.put, zA, zB, zC, zD, zE, zF]
 refine wpAnyH_done (by kernel_rfl) ?_ _
 clear c0 c1 c2 k0 k1 k2
 have hz1 : w.heap.size + 1 < w1.heap.size := by have := hb.size; simp at this; omega
 have hrb1 : w1.heap[w.heap.size]? = some (.cells #[.int .i64 0, .int .u8 0, .string ⟨#[]⟩, .int .i64 0, .slice none 0 0, .int .i64 0, .pointer none] 235 (0, 0)) :=
  (hb.block _ (by simp; omega)).trans ((Below.heap_alloc _ _ _ (by simp)).trans (blk_alloc _ _))
 have hrv1 : w1.heap[w.heap.size + 1]? = some (.cells #[.int .i64 0, .int .u8 0, .string ⟨#[]⟩, .int .i64 0, .slice none 0 0, .int .i64 0, .pointer none] 235 (0, 0)) :=
  (hb.block _ (by simp)).trans (blk_alloc' _ _ _ (by simp))
 have HR1 := hide hrb1
 have HV1 := hide hrv1
 clear hb hrb1 hrv1
 go_wp2_with (go_at_call 282; refine (formula_any (6 * (L.drop i).length + 5) _ _ _ _ _ _ (unhide HP1) (Nat.le_refl _)).mono ?_)
 rintro e w2 ⟨hg2, p2, rfl, hx2⟩
 have HG2 := hide hg2
 have hrb2 := (hg2.block w.heap.size (by omega) (by simp; omega)).trans (unhide HR1)
 have hrv2 := (hg2.block (w.heap.size + 1) hz1 (by simp; omega)).trans (unhide HV1)
 have hz2 : w.heap.size + 1 < w2.heap.size := lt_of_blk hrv2
 have rc := fun o => cell_of_blk hrb2 o
 have rf := fun o => frozen_of_blk hrb2 o
 have vc := fun o => cell_of_blk hrv2 o
 have vf := fun o => frozen_of_blk hrv2 o
 have HX2 := hide hx2
 have HRB2 := hide hrb2
 have HRV2 := hide hrv2
 clear hg2 hx2 hrb2 hrv2
 go_wp2_with fail
 refine bodyPost_ret (v := rlV 0 0 ⟨#[]⟩ 0 none 0 0 0 p2) ?_ rfl ?_
 ·simp [results, Tryz.results248, go_sem, rlV, rc]
 have hgl := (unhide HP).gLt
 have hgr := grown_setNew (grown_setNew (grown_setNew (grown_setNew (grown_setNew (grown_setNew (grown_setNew (grown_setNew ((grown_below (unhide HB) (some pb)).trans (unhide HG2)) (b := w.heap.size + 1) (by omega) 6 (.pointer p2)) (Nat.le_refl _) 0 (.int .i64 0)) (Nat.le_refl _) 1 (.int .u8 0)) (Nat.le_refl _) 2 (.string ⟨#[]⟩)) (Nat.le_refl _) 3 (.int .i64 0)) (Nat.le_refl _) 4 (.slice none 0 0)) (Nat.le_refl _) 5 (.int .i64 0)) (Nat.le_refl _) 6 (.pointer p2)
 have hkeep : ∀ j bad, PS w2 pb g cap L j bad → PS ((((((((w2.setCell ⟨w.heap.size + 1, 6, none⟩ (.pointer p2)).setCell ⟨w.heap.size, 0, none⟩ (.int .i64 0)).setCell ⟨w.heap.size, 1, none⟩ (.int .u8 0)).setCell ⟨w.heap.size, 2, none⟩ (.string ⟨#[]⟩)).setCell ⟨w.heap.size, 3, none⟩ (.int .i64 0)).setCell ⟨w.heap.size, 4, none⟩ (.slice none 0 0)).setCell ⟨w.heap.size, 5, none⟩ (.int .i64 0)).setCell ⟨w.heap.size, 6, none⟩ (.pointer p2)) pb g cap L j bad := fun j bad hp =>
  (((((((hp.setOther _ _ _ (by omega) (by omega)).setOther _ _ _ (by omega) (by omega)).setOther _ _ _ (by omega) (by omega)).setOther _ _ _ (by omega) (by omega)).setOther _ _ _ (by omega) (by omega)).setOther _ _ _ (by omega) (by omega)).setOther _ _ _ (by omega) (by omega)).setOther _ _ _ (by omega) (by omega)
 have t0 : TyAt w2 w.heap.size 235 := ⟨_, _, unhide HRB2⟩
 have t1 : TyAt w2 (w.heap.size + 1) 235 := ⟨_, _, unhide HRV2⟩
 have hrr : ruleRead (L.drop i) = (match pf (6 * (L.drop i).length + 5) 0 .nil (L.drop i) with | .error q => .error q | .ok (f, l1) => .ok (⟨0, false, tk0, [], 0, f⟩, l1)) := by
  rw [ruleRead, if_neg (unhide HK)]; rfl
 rw [hrr]
 refine ⟨hgr, 0, 0, ⟨#[]⟩, 0, none, 0, 0, 0, p2, rfl, ?_⟩
 have hx := unhide HX2
 cases hpf : pf (6 * (L.drop i).length + 5) 0 .nil (L.drop i) with
 | error q =>
  rw [hpf] at hx
  obtain ⟨j, hq, hp⟩ := hx
  exact ⟨j, hq, hkeep j _ hp⟩
 | ok x =>
  obtain ⟨f, l1⟩ := x
  rw [hpf] at hx
  obtain ⟨hf, j, hl, hp⟩ := hx
  refine ⟨⟨rfl, ?_⟩, j, hl, hkeep j _ hp⟩
  rw [if_neg (by simp)]
  exact ⟨(((((((hf.set t1 (by decide)).set (t0.set _ _) (by decide)).set ((t0.set _ _).set _ _) (by decide)).set (((t0.set _ _).set _ _).set _ _) (by decide)).set ((((t0.set _ _).set _ _).set _ _).set _ _) (by decide)).set (((((t0.set _ _).set _ _).set _ _).set _ _).set _ _) (by decide)).set ((((((t0.set _ _).set _ _).set _ _).set _ _).set _ _).set _ _) (by decide)).set (((((((t0.set _ _).set _ _).set _ _).set _ _).set _ _).set _ _).set _ _) (by decide), hf.some (pf_node _ 0 _ _ _ _ (by omega) hpf)⟩
end Go.Proofs.YtidakhhekofkoaaGreatDoor
