/- The reference's rule: calls of templates. -/
import Derived.Test.YtidakhhekofkoaaGreatDoorG13
set_option linter.unusedSimpArgs false
open List renaming setIfInBounds_toArray → zA, set_cons_zero → zB, set_cons_succ → zC, getElem_toArray → zD, getElem_cons_succ → zE, getElem_cons_zero → zF
namespace Go.Proofs.YtidakhhekofkoaaGreatDoor
open Go.RowKit Go.Deep
def RLost (L : List Tk) (pb g cap i : Nat) (w w' : World) (e : Ending) : Prop :=
 w.grownBy w' (some pb) ∧ ∃ a b s c o n k d p, e = .returned (rlV a b s c o n k d p) ∧ PS w' pb g cap L i true
theorem grown_setNew8 {w w' : World} {row : Option Nat} (h : w.grownBy w' row) (b : Nat) (hb : w.heap.size ≤ b) (v0 v1 v2 v3 v4 v5 v6 : Value) :
  w.grownBy (((((((w'.setCell ⟨b, 0, none⟩ v0).setCell ⟨b, 1, none⟩ v1).setCell ⟨b, 2, none⟩ v2).setCell ⟨b, 3, none⟩ v3).setCell ⟨b, 4, none⟩ v4).setCell ⟨b, 5, none⟩ v5).setCell ⟨b, 6, none⟩ v6) row :=
 grown_setNew (grown_setNew (grown_setNew (grown_setNew (grown_setNew (grown_setNew (grown_setNew h hb 0 v0) hb 1 v1) hb 2 v2) hb 3 v3) hb 4 v4) hb 5 v5) hb 6 v6
theorem PS.set7 {w : World} {pb g cap : Nat} {L : List Tk} {i : Nat} {bad : Bool} (h : PS w pb g cap L i bad) (b : Nat) (h1 : b ≠ pb) (h2 : b ≠ g) (v0 v1 v2 v3 v4 v5 v6 : Value) :
  PS (((((((w.setCell ⟨b, 0, none⟩ v0).setCell ⟨b, 1, none⟩ v1).setCell ⟨b, 2, none⟩ v2).setCell ⟨b, 3, none⟩ v3).setCell ⟨b, 4, none⟩ v4).setCell ⟨b, 5, none⟩ v5).setCell ⟨b, 6, none⟩ v6) pb g cap L i bad :=
 ((((((h.setOther b 0 v0 h1 h2).setOther b 1 v1 h1 h2).setOther b 2 v2 h1 h2).setOther b 3 v3 h1 h2).setOther b 4 v4 h1 h2).setOther b 5 v5 h1 h2).setOther b 6 v6 h1 h2
set_option maxHeartbeats 1000000 in
theorem rule_lost (w : World) (pb g cap : Nat) (L : List Tk) (i : Nat) (h : PS w pb g cap L i true) :
  Calls Tryz.prog 248 #[.pointer (some ⟨pb, 0, none⟩)] w fun e w' => RLost L pb g cap i w w' e := by
 have HP := hide h
 obtain ⟨c0, c1, c2⟩ := h.cells
 have hp0 := lt_of_blk h.blk
 clear h
 go_enter Tryz.func248, Tryz.ntmps248
 go_wp2_with fail
 refine bodyPost_ret (v := rlV 0 0 ⟨#[]⟩ 0 none 0 0 0 none) ?_ rfl ⟨?_, 0, 0, ⟨#[]⟩, 0, none, 0, 0, 0, none, rfl, ?_⟩
 ·simp [results, Tryz.results248, go_sem, rlV]
 ·exact grown_alloc (grown_alloc (World.grownBy.refl _ _) _) _
 ·exact ((unhide HP).alloc _).alloc _
theorem owns_keep {w w' : World} {base e size n : Nat} {v : Value} {xs : List Value} {row : Option Nat} (h : w.ownsRow base e size v n xs) (hg : w.grownBy w' row) (hne : v.ownBlock = none ∨ v.ownBlock ≠ row) : w'.ownsRow base e size v n xs := by
 obtain ⟨h1, h2⟩ := h
 refine ⟨h1, ?_⟩
 rcases h2 with h2 | ⟨g, cap, cur, hv, hgb, hh, r⟩
 ·exact Or.inl h2
 ·refine Or.inr ⟨g, cap, cur, hv, hgb, ?_, r⟩
  rw [hg.block g (lt_of_blk hh) ?_]; exact hh
  subst hv
  rcases hne with hne | hne
  ·cases hne
  ·exact hne
theorem owns_mono {w : World} {base base' e size n : Nat} {v : Value} {xs : List Value} (h : w.ownsRow base e size v n xs) (hb : base' ≤ base) : w.ownsRow base' e size v n xs := by
 obtain ⟨h1, h2⟩ := h
 refine ⟨h1, ?_⟩
 rcases h2 with h2 | ⟨g, cap, cur, hv, hgb, hh, r⟩
 ·exact Or.inl h2
 ·exact Or.inr ⟨g, cap, cur, hv, Nat.le_trans hb hgb, hh, r⟩
theorem refK_d (k : Nat) : (refK k != 100) = !(k == 3) := by
 unfold refK; repeat' split
 all_goals simp_all
theorem ruleRead_one {L : List Tk} {i j4 : Nat} {t u v y : Tk} {r0 r1 : List Tk} {b4 : Bool} (ht : L.drop i = t :: u :: v :: r0) (hk : t.k = 2) (hu : u.k = 18) (hj : j4 = if (!false && v.k == 2) = true then i + 1 + 1 + 1 else i + 1 + 1)
  (hb : b4 = !(!false && v.k == 2)) (hy : L.drop j4 = y :: r1) (h6 : false = (!b4 && y.k == 20)) :
  ((!b4 && y.k == 19) = true → ruleRead (L.drop i) = .ok (⟨0, true, t, [v], y.p, .nil⟩, L.drop (j4 + 1))) ∧ ((!b4 && y.k == 19) = false → ruleRead (L.drop i) = .error (headP (L.drop j4))) := by
 have h2 : L.drop (i + 1 + 1) = v :: r0 := drop_tail (drop_tail ht)
 have h3 := drop_tail h2
 have e1 : headK (t :: u :: v :: r0) = 2 ∧ headK (t :: u :: v :: r0).tail = 18 := ⟨hk, hu⟩
 by_cases hv : v.k = 2
 ·have hj' : j4 = i + 1 + 1 + 1 := by rw [hj]; simp [hv]
  have hb' : b4 = false := by rw [hb]; simp [hv]
  subst hj' hb'
  rw [h3] at hy
  have hy20 : ¬ y.k = 20 := by intro e; rw [e] at h6; simp at h6
  constructor
  ·intro h19
   have h19' : y.k = 19 := by simpa using h19
   rw [drop_tail (h3.trans hy), ht, ruleRead, if_pos e1, hy]
   simp [headK, headT, headP, hv, hy20, h19']
  ·intro h19
   have h19' : ¬ y.k = 19 := by simpa using h19
   rw [h3, ht, ruleRead, if_pos e1, hy]
   simp [headK, headP, hv, hy20, h19']
 ·have hj' : j4 = i + 1 + 1 := by rw [hj]; simp [hv]
  have hb' : b4 = true := by rw [hb]; simp [hv]
  subst hj' hb'
  rw [h2] at hy
  obtain ⟨rfl, rfl⟩ := List.cons.inj hy
  refine ⟨fun h => by simp at h, fun _ => ?_⟩
  rw [h2, ht, ruleRead, if_pos e1]
  simp [headK, headP, hv]
theorem ruleRead_two {L : List Tk} {i j4 : Nat} {t u v y z : Tk} {r0 r1 r2 : List Tk} {b4 : Bool} (ht : L.drop i = t :: u :: v :: r0) (hk : t.k = 2) (hu : u.k = 18) (hj : j4 = if (!false && v.k == 2) = true then i + 1 + 1 + 1 else i + 1 + 1)
  (hb : b4 = !(!false && v.k == 2)) (hy : L.drop j4 = y :: r1) (h6 : true = (!b4 && y.k == 20)) (hz : L.drop (j4 + 1) = z :: r2) :
  (¬ (z.k = 2 ∨ z.k = 3) → ruleRead (L.drop i) = .error (headP (L.drop (j4 + 1)))) ∧
  ((z.k = 2 ∨ z.k = 3) → headK (L.drop (j4 + 1 + 1)) = 19 → ruleRead (L.drop i) = .ok (⟨0, true, t, [v, z], headP (L.drop (j4 + 1 + 1)), .nil⟩, L.drop (j4 + 1 + 1 + 1))) ∧
  ((z.k = 2 ∨ z.k = 3) → headK (L.drop (j4 + 1 + 1)) ≠ 19 → ruleRead (L.drop i) = .error (headP (L.drop (j4 + 1 + 1)))) := by
 have h2 : L.drop (i + 1 + 1) = v :: r0 := drop_tail (drop_tail ht)
 have h3 := drop_tail h2
 have e1 : headK (t :: u :: v :: r0) = 2 ∧ headK (t :: u :: v :: r0).tail = 18 := ⟨hk, hu⟩
 have hbf : b4 = false := by cases b4 with | false => rfl | true => simp at h6
 have hv : v.k = 2 := by rw [hbf] at hb; simpa using hb
 have hj' : j4 = i + 1 + 1 + 1 := by rw [hj]; simp [hv]
 subst hj'
 have hy20 : y.k = 20 := by rw [hbf] at h6; simpa using h6
 have hr1 : r1 = z :: r2 := by rw [← drop_tail hy]; exact hz
 have hr2 : L.drop (i + 1 + 1 + 1 + 1 + 1) = r2 := drop_tail hz
 have hr0 : r0 = y :: z :: r2 := by rw [← h3, hy, hr1]
 rw [hz, hr2, ht, ruleRead, if_pos e1, hr0]
 refine ⟨fun h => ?_, fun h h19 => ?_, fun h h19 => ?_⟩
 ·simp only [not_or] at h
  simp [headK, headP, hv, hy20, h.1, h.2]
 ·have hd : L.drop (i + 1 + 1 + 1 + 1 + 1 + 1) = r2.tail := by rw [← hr2, List.tail_drop]
  rw [if_pos (show headK (t :: u :: v :: y :: z :: r2).tail.tail = 2 from hv), if_pos (show headK (t :: u :: v :: y :: z :: r2).tail.tail.tail = 20 from hy20), if_pos (show headK (t :: u :: v :: y :: z :: r2).tail.tail.tail.tail = 2 ∨ headK (t :: u :: v :: y :: z :: r2).tail.tail.tail.tail = 3 from h), if_pos (show headK (t :: u :: v :: y :: z :: r2).tail.tail.tail.tail.tail = 19 from h19), hd]
  rfl
 ·rw [if_pos (show headK (t :: u :: v :: y :: z :: r2).tail.tail = 2 from hv), if_pos (show headK (t :: u :: v :: y :: z :: r2).tail.tail.tail = 20 from hy20), if_pos (show headK (t :: u :: v :: y :: z :: r2).tail.tail.tail.tail = 2 ∨ headK (t :: u :: v :: y :: z :: r2).tail.tail.tail.tail = 3 from h), if_neg (show ¬ headK (t :: u :: v :: y :: z :: r2).tail.tail.tail.tail.tail = 19 from h19)]
  rfl
theorem PS.grown {w w' : World} {pb g cap : Nat} {L : List Tk} {i : Nat} {bad : Bool} (h : PS w pb g cap L i bad) {row : Option Nat} (hg : w.grownBy w' row) (h1 : some pb ≠ row) (h2 : some g ≠ row) : PS w' pb g cap L i bad := by
 obtain ⟨cur, r1, r2⟩ := h.row
 exact ⟨by rw [hg.block pb (lt_of_blk h.blk) h1]; exact h.blk, ⟨cur, by rw [hg.block g (lt_of_blk r1) h2]; exact r1, r2⟩, h.le, h.capLe, h.len, h.lt, h.ends, h.ok⟩
theorem grown7 (w' : World) (b : Nat) (v0 v1 v2 v3 v4 v5 v6 : Value) :
  w'.grownBy (((((((w'.setCell ⟨b, 0, none⟩ v0).setCell ⟨b, 1, none⟩ v1).setCell ⟨b, 2, none⟩ v2).setCell ⟨b, 3, none⟩ v3).setCell ⟨b, 4, none⟩ v4).setCell ⟨b, 5, none⟩ v5).setCell ⟨b, 6, none⟩ v6) (some b) :=
 ((((((grown_set _ b 0 v0).trans (grown_set _ b 1 v1)).trans (grown_set _ b 2 v2)).trans (grown_set _ b 3 v3)).trans (grown_set _ b 4 v4)).trans (grown_set _ b 5 v5)).trans (grown_set _ b 6 v6)
theorem name_any (w : World) (pb g cap : Nat) (L : List Tk) (i : Nat) (bad : Bool) (t : Tk) (r : List Tk) (h : PS w pb g cap L i bad) (ht : L.drop i = t :: r) (j : Nat) (bad' : Bool) (hj : j = if (!bad && t.k == 2) = true then i + 1 else i) (hb' : bad' = !(!bad && t.k == 2)) :
  Calls Tryz.prog 246 #[.pointer (some ⟨pb, 0, none⟩)] w fun e w' => e = .returned (tkR t) ∧ PS w' pb g cap L j bad' ∧ w.grownBy w' (some pb) := by
 subst hj hb'
 cases hb : (!bad && t.k == 2) with
 | true =>
  simp only [Bool.and_eq_true, Bool.not_eq_true', beq_iff_eq] at hb
  obtain ⟨rfl, hk⟩ := hb
  obtain ⟨u, r', rfl⟩ := (by have := h.ends; rw [ht] at this; exact this.more (by omega) : ∃ u r', r = u :: r')
  exact name_yes w pb g cap L i t u r' h ht hk
 | false =>
  refine name_no w pb g cap L i bad t r h ht ?_
  cases bad with
  | true => exact Or.inl rfl
  | false => exact Or.inr (by simpa using hb)
theorem take_any (s : ByteArray) (k : Nat) (w : World) (pb g cap : Nat) (L : List Tk) (i : Nat) (bad : Bool) (t : Tk) (r : List Tk) (h : PS w pb g cap L i bad) (ht : L.drop i = t :: r)
  (hs : s.data.toList = kText k) (hk : 4 ≤ k) (hk' : k ≤ 21) (b : Bool) (hbb : b = (!bad && t.k == k)) (j : Nat) (hj : j = if (!bad && t.k == k) = true then i + 1 else i) :
  Calls Tryz.prog 247 #[.pointer (some ⟨pb, 0, none⟩), .string s] w fun e w' => e = .returned (.bool b) ∧ PS w' pb g cap L j bad ∧ w.grownBy w' (some pb) := by
 subst hj hbb
 cases hb : (!bad && t.k == k) with
 | true =>
  simp only [Bool.and_eq_true, Bool.not_eq_true', beq_iff_eq] at hb
  obtain ⟨rfl, he⟩ := hb
  obtain ⟨u, r', rfl⟩ := (by have := h.ends; rw [ht] at this; exact this.more (by omega) : ∃ u r', r = u :: r')
  exact take_yes s k w pb g cap L i t u r' h ht hs hk hk' he
 | false =>
  refine take_no s k w pb g cap L i bad t r h ht hs hk hk' ?_
  cases bad with
  | true => exact Or.inl rfl
  | false => exact Or.inr (by simpa using hb)
theorem must_any (s : ByteArray) (k : Nat) (w : World) (pb g cap : Nat) (L : List Tk) (i : Nat) (bad : Bool) (t : Tk) (r : List Tk) (h : PS w pb g cap L i bad) (ht : L.drop i = t :: r)
  (hs : s.data.toList = kText k) (hk : 4 ≤ k) (hk' : k ≤ 21) (j : Nat) (bad' : Bool) (hj : j = if (!bad && t.k == k) = true then i + 1 else i) (hb' : bad' = !(!bad && t.k == k)) :
  Calls Tryz.prog 245 #[.pointer (some ⟨pb, 0, none⟩), .string s] w fun e w' => e = .returned (.tuple #[]) ∧ PS w' pb g cap L j bad' ∧ w.grownBy w' (some pb) := by
 subst hj hb'
 cases hb : (!bad && t.k == k) with
 | true =>
  simp only [Bool.and_eq_true, Bool.not_eq_true', beq_iff_eq] at hb
  obtain ⟨rfl, he⟩ := hb
  obtain ⟨u, r', rfl⟩ := (by have := h.ends; rw [ht] at this; exact this.more (by omega) : ∃ u r', r = u :: r')
  exact must_yes s k w pb g cap L i t u r' h ht hs hk hk' he
 | false =>
  refine must_no s k w pb g cap L i bad t r h ht hs hk hk' ?_
  cases bad with
  | true => exact Or.inl rfl
  | false => exact Or.inr (by simpa using hb)
set_option maxHeartbeats 4000000 in
set_option maxRecDepth 100000 in
theorem rule_call (w : World) (pb g cap : Nat) (L : List Tk) (i : Nat) (t u v : Tk) (r0 : List Tk) (h : PS w pb g cap L i false) (ht : L.drop i = t :: u :: v :: r0) (hk : t.k = 2) (hu : u.k = 18) :
    Calls Tryz.prog 248 #[.pointer (some ⟨pb, 0, none⟩)] w fun e w' => RLeft L pb g cap w w' e (ruleRead (L.drop i)) := by
  have hr : (refK t.k != 110) = false := by rw [refK_n]; simp [hk]
  have hok := h.ok u (drop_mem (drop_tail ht))
  have h40' : u.s.toList = [40] := by rw [ByteArray.toList_eq, hok.2.1 (by omega), hu]; rfl
  have HT := hide ht
  have HP := hide h
  have HKT := hide hk
  have HKU := hide hu
  have hlen := h.len
  have hlt := h.lt
  have hlt1 : i + 1 < L.length := by have := congrArg List.length ht; simp at this; omega
  have hp0 := lt_of_blk h.blk
  have hgl0 := h.gLt
  have hI : (i : Int) + 1 < (L.length : Int) := by omega
  have hI0 : (0 : Int) ≤ (i : Int) + 1 := by omega
  have hwr : IntKind.i64.wrap ((i : Int) + 1) = (i : Int) + 1 := by rw [IntKind.wrap_i64]; omega
  clear h ht hk hu hok
  have fl0 := field0
  have fl2 := field2
  obtain ⟨i0, hi0, hz0, hz1, hz2⟩ := info_parts Tryz.infoTok
  go_enter Tryz.func248, Tryz.ntmps248
  obtain ⟨c0, c1, c2⟩ := (unhide HP).cells
  go_wp2_with fail
  clear c0 c1 c2
  refine wp_region_any (by kernel_rfl) ?_
  change wpAny _ _ _ _ _ _ _ (World.drew _)
  refine wpAny_take (i := 0) (v := .pointer (some ⟨pb, 0, none⟩)) rfl (by kernel_rfl) (by kernel_rfl) (by kernel_rfl) (fun _ _ _ h => h) (Or.inl ⟨by kernel_rfl, fun w => by go_simp⟩) ?_
  try simp only [Act.put, zA, zB, zC, zD, zE, zF]
  refine wpAny_ready (rs := [1]) (by kernel_rfl) (by simp) ?_
  refine AllReady.cons rfl (fun K hK => ?_) AllReady.nil
  go_simp
  go_wp2_with (go_at_call 201; refine (now_any _ _ _ _ _ _ _ _ _ ((unhide HP).later (by exact (((Below.refl _ _).alloc (Nat.le_refl _) _).alloc (by simp) _).drew)) (unhide HT)).mono ?_; rintro e w1 ⟨rfl, hb⟩; simp only [tkR])
  have HB := hide (show Below w.heap.size w w1 from ((((Below.refl w.heap.size w).alloc (Nat.le_refl _) _).alloc (by simp) _).drew).trans (hb.mono (by simp; omega)))
  have HP1 := hide ((unhide HP).later (unhide HB))
  obtain ⟨c0, c1, c2⟩ := (unhide HP1).cells
  obtain ⟨k0, k1, k2⟩ := (unhide HP1).tok (i + 1) _ _ (drop_tail (unhide HT))
  refine wpAny_of_held (S := fun w' => w' = w1) _ _ _ _ ?_
  refine wpAnyH_take (i := 2) (v := .int .u8 (refK t.k)) rfl (by kernel_rfl) (by kernel_rfl) (by kernel_rfl) (fun _ _ _ h => h) (Or.inl ⟨by kernel_rfl, fun w hw => by subst hw; go_simp⟩) rfl ?_
  try simp only [Act.put, zA, zB, zC, zD, zE, zF]
  refine wpAnyH_take (i := 3) (v := .bool false) rfl (by kernel_rfl) (by kernel_rfl) (by kernel_rfl) (fun _ _ _ h => h) (Or.inl ⟨by kernel_rfl, fun w hw => by subst hw; go_simp⟩) rfl ?_
  try simp only [Act.put, zA, zB, zC, zD, zE, zF]
  refine wpAnyH_take (i := 4) (v := .bool false) rfl (by kernel_rfl) (by kernel_rfl) (by kernel_rfl) (fun _ _ _ h => h) (Or.inl ⟨by kernel_rfl, fun w hw => by subst hw; go_simp⟩) rfl ?_
  try simp only [Act.put, zA, zB, zC, zD, zE, zF]
  refine wpAnyH_take (i := 5) (v := .pointer (some ⟨pb, 0, none⟩)) rfl (by kernel_rfl) (by kernel_rfl) (by kernel_rfl) (fun _ _ _ h => h) (Or.inl ⟨by kernel_rfl, fun w hw => by subst hw; go_simp⟩) rfl ?_
  try simp only [Act.put, zA, zB, zC, zD, zE, zF]
  refine wpAnyH_take (i := 6) (v := .pointer (some ⟨pb, 0, none⟩)) rfl (by kernel_rfl) (by kernel_rfl) (by kernel_rfl) (fun _ _ _ h => h) (Or.inl ⟨by kernel_rfl, fun w hw => by subst hw; go_simp⟩) rfl ?_
  try simp only [Act.put, zA, zB, zC, zD, zE, zF]
  refine wpAnyH_take (i := 7) (v := .pointer (some ⟨pb, 0, none⟩)) rfl (by kernel_rfl) (by kernel_rfl) (by kernel_rfl) (fun _ _ _ h => h) (Or.inl ⟨by kernel_rfl, fun w hw => by subst hw; go_simp⟩) rfl ?_
  try simp only [Act.put, zA, zB, zC, zD, zE, zF]
  refine wpAnyH_take (i := 8) (v := .slice (some ⟨g, 0, none⟩) L.length cap) rfl (by kernel_rfl) (by kernel_rfl) (by kernel_rfl) (fun _ _ _ h => h) (Or.inl ⟨by kernel_rfl, fun w hw => by subst hw; go_simp⟩) rfl ?_
  try simp only [Act.put, zA, zB, zC, zD, zE, zF]
  refine wpAnyH_take (i := 9) (v := .pointer (some ⟨pb, 0, none⟩)) rfl (by kernel_rfl) (by kernel_rfl) (by kernel_rfl) (fun _ _ _ h => h) (Or.inl ⟨by kernel_rfl, fun w hw => by subst hw; go_simp⟩) rfl ?_
  try simp only [Act.put, zA, zB, zC, zD, zE, zF]
  refine wpAnyH_take (i := 10) (v := .pointer (some ⟨pb, 0, none⟩)) rfl (by kernel_rfl) (by kernel_rfl) (by kernel_rfl) (fun _ _ _ h => h) (Or.inl ⟨by kernel_rfl, fun w hw => by subst hw; go_simp⟩) rfl ?_
  try simp only [Act.put, zA, zB, zC, zD, zE, zF]
  refine wpAnyH_take (i := 11) (v := .pointer (some ⟨pb, 1, none⟩)) rfl (by kernel_rfl) (by kernel_rfl) (by kernel_rfl) (fun _ _ _ h => h) (Or.inl ⟨by kernel_rfl, fun w hw => by subst hw; go_simp⟩) rfl ?_
  try simp only [Act.put, zA, zB, zC, zD, zE, zF]
  refine wpAnyH_take (i := 12) (v := .int .i64 (i : Int)) rfl (by kernel_rfl) (by kernel_rfl) (by kernel_rfl) (fun _ _ _ h => h) (Or.inl ⟨by kernel_rfl, fun w hw => by subst hw; go_simp⟩) rfl ?_
  try simp only [Act.put, zA, zB, zC, zD, zE, zF]
  refine wpAnyH_take (i := 13) (v := .int .i64 ((i : Int) + 1)) rfl (by kernel_rfl) (by kernel_rfl) (by kernel_rfl) (fun _ _ _ h => h) (Or.inl ⟨by kernel_rfl, fun w hw => by subst hw; go_simp⟩) rfl ?_
  try simp only [Act.put, zA, zB, zC, zD, zE, zF]
  refine wpAnyH_take (i := 14) (v := .pointer (some ⟨g, (i + 1) * 3, none⟩)) rfl (by kernel_rfl) (by kernel_rfl) (by kernel_rfl) (fun _ _ _ h => h) (Or.inl ⟨by kernel_rfl, fun w hw => by subst hw; go_simp⟩) rfl ?_
  try simp only [Act.put, zA, zB, zC, zD, zE, zF]
  refine wpAnyH_take (i := 15) (v := .pointer (some ⟨g, (i + 1) * 3 + 1, none⟩)) rfl (by kernel_rfl) (by kernel_rfl) (by kernel_rfl) (fun _ _ _ h => h) (Or.inl ⟨by kernel_rfl, fun w hw => by subst hw; go_simp⟩) rfl ?_
  try simp only [Act.put, zA, zB, zC, zD, zE, zF]
  refine wpAnyH_take (i := 16) (v := .string u.s) rfl (by kernel_rfl) (by kernel_rfl) (by kernel_rfl) (fun _ _ _ h => h) (Or.inl ⟨by kernel_rfl, fun w hw => by subst hw; go_simp⟩) rfl ?_
  try simp only [Act.put, zA, zB, zC, zD, zE, zF]
  refine wpAnyH_take (i := 17) (v := .bool false) rfl (by kernel_rfl) (by kernel_rfl) (by kernel_rfl) (fun _ _ _ h => h) (Or.inl ⟨by kernel_rfl, fun w hw => by subst hw; go_simp⟩) rfl ?_
  try simp only [Act.put, zA, zB, zC, zD, zE, zF]
  refine wpAnyH_take (i := 18) (v := .bool false) rfl (by kernel_rfl) (by kernel_rfl) (by kernel_rfl) (fun _ _ _ h => h) (Or.inl ⟨by kernel_rfl, fun w hw => by subst hw; go_simp⟩) rfl ?_
  try simp only [Act.put, zA, zB, zC, zD, zE, zF]
  refine wpAnyH_done (by kernel_rfl) ?_ _
  clear c0 c1 c2 k0 k1 k2
  have hz1' : w.heap.size + 1 < w1.heap.size := by have := hb.size; simp at this; omega
  have HR1 := hide (show w1.heap[w.heap.size]? = some (.cells #[.int .i64 0, .int .u8 0, .string ⟨#[]⟩, .int .i64 0, .slice none 0 0, .int .i64 0, .pointer none] 235 (0, 0)) from
    (hb.block _ (by simp; omega)).trans ((Below.heap_alloc _ _ _ (by simp)).trans (blk_alloc _ _)))
  have HV1 := hide (show w1.heap[w.heap.size + 1]? = some (.cells #[.int .i64 0, .int .u8 0, .string ⟨#[]⟩, .int .i64 0, .slice none 0 0, .int .i64 0, .pointer none] 235 (0, 0)) from
    (hb.block _ (by simp)).trans (blk_alloc' _ _ _ (by simp)))
  clear hb
  have HT1 := hide (drop_tail (unhide HT))
  have HT2 := hide (drop_tail (unhide HT1))
  go_wp2_with (go_at_call 246; refine (name_yes _ _ _ _ _ _ _ _ _ (unhide HP1) (unhide HT) (unhide HKT)).mono ?_)
  rintro e w2 ⟨rfl, hp2, hg2⟩
  simp only [tkR]
  have HP2 := hide hp2
  have HG2 := hide ((grown_below (unhide HB) (some pb)).trans hg2)
  have HR2 := hide ((hg2.block w.heap.size (by omega) (by simp; omega)).trans (unhide HR1))
  have HV2 := hide ((hg2.block (w.heap.size + 1) (by omega) (by simp; omega)).trans (unhide HV1))
  have hz2' : w.heap.size + 1 < w2.heap.size := lt_of_blk (unhide HV2)
  have vc := fun o => cell_of_blk (unhide HV2) o
  have vf := fun o => frozen_of_blk (unhide HV2) o
  clear hp2 hg2
  go_wp2_with (go_at_call 245; refine (must_yes _ 18 _ _ _ _ _ _ _ _ _ ((((unhide HP2).setOther _ _ _ (by omega) (by omega)).setOther _ _ _ (by omega) (by omega)).setOther _ _ _ (by omega) (by omega)) (unhide HT1) rfl (by decide) (by decide) (unhide HKU)).mono ?_)
  rintro e w3 ⟨rfl, hp3, hg3⟩
  have HP3 := hide hp3
  have HG3 := hide ((grown_setNew (grown_setNew (grown_setNew (unhide HG2) (b := w.heap.size + 1) (by omega) _ _) (b := w.heap.size + 1) (by omega) _ _) (b := w.heap.size + 1) (by omega) _ _).trans hg3)
  have HR3 := hide ((hg3.block w.heap.size (by simp [World.setCell]; omega) (by simp; omega)).trans ((Below.heap_setCell _ _ _ _ (by simp)).trans ((Below.heap_setCell _ _ _ _ (by simp)).trans ((Below.heap_setCell _ _ _ _ (by simp)).trans (unhide HR2)))))
  have HV3 : Hid (w3.heap[w.heap.size + 1]? = some (.cells #[.int .i64 0, .int .u8 (refK t.k), .string t.s, .int .i64 t.p, .slice none 0 0, .int .i64 0, .pointer none] 235 (0, 0))) :=
    (hg3.block (w.heap.size + 1) (by simp [World.setCell]; omega) (by simp; omega)).trans ((blk_set (blk_set (blk_set (unhide HV2) _ _) _ _) _ _).trans rfl)
  have hz3' : w.heap.size + 1 < w3.heap.size := lt_of_blk (unhide HV3)
  clear vc vf hp3 hg3
  obtain ⟨j4, hj4⟩ : ∃ j, j = if (!false && v.k == 2) = true then i + 1 + 1 + 1 else i + 1 + 1 := ⟨_, rfl⟩
  obtain ⟨b4, hb4⟩ : ∃ b, b = !(!false && v.k == 2) := ⟨_, rfl⟩
  have HJ4 := hide hj4
  have HB4 := hide hb4
  clear hj4 hb4
  go_wp2_with (go_at_call 246; refine (name_any _ _ _ _ _ _ _ _ _ (unhide HP3) (unhide HT2) j4 b4 (unhide HJ4) (unhide HB4)).mono ?_)
  rintro e w4 ⟨rfl, hp4, hg4⟩
  simp only [tkR]
  have HP4 := hide hp4
  have HG4 := hide ((unhide HG3).trans hg4)
  have HR4 := hide ((hg4.block w.heap.size (by omega) (by simp; omega)).trans (unhide HR3))
  have HV4 := hide ((hg4.block (w.heap.size + 1) (by omega) (by simp; omega)).trans (unhide HV3))
  have hz4' : w.heap.size + 1 < w4.heap.size := lt_of_blk (unhide HV4)
  have vc := fun o => cell_of_blk (unhide HV4) o
  have vf := fun o => frozen_of_blk (unhide HV4) o
  clear hp4 hg4
  go_wp2_with (at_builtin; go_must (refine wpList_append_own _ rfl _ _ 225 rfl w.heap.size 232 i0 (.agg #[.int .u8 0, .string ⟨#[]⟩, .int .i64 0]) 3 32 Tryz.underlying225 hi0 hz0 hz1 hz2 rfl (by decide) _ 0 [] rfl ?c0 ⟨w4.heap.size + 1, 0, none⟩ 1 1 [.int .u8 (refK v.k), .string v.s, .int .i64 v.p] rfl rfl ?c1 ?c2 ?c3 ?c4 ?c5 ?_))
  case c0 => exact World.ownsRow_nil _ _ _ _
  case c1 =>
    intro j u hj
    match j, hj with
    | 0, hj => simp at hj; subst hj; simp [Addr.add]
    | 1, hj => simp at hj; subst hj; simp [Addr.add]
    | 2, hj => simp at hj; subst hj; simp [Addr.add]
    | j + 3, hj => simp at hj
  case c2 => intro u hu; simp at hu; rcases hu with rfl | rfl | rfl <;> rfl
  case c3 => unfold maxLen; omega
  case c4 => omega
  case c5 => simp; omega
  intro v5 w5 hown5 hgrow5 _
  obtain ⟨_, h5 | ⟨g5, cap5, cur5, hv5, hrest5⟩⟩ := hown5
  · exact absurd h5.2 (by decide)
  subst hv5
  have HO5 : Hid (w5.ownsRow w.heap.size 232 3 (.slice (some ⟨g5, 0, none⟩) 1 cap5) 1 (tkCellsR [v])) := ⟨rfl, Or.inr ⟨g5, cap5, cur5, rfl, hrest5⟩⟩
  have hgr5 : w4.grownBy w5 none := (grown_alloc (grown_alloc (World.grownBy.refl _ _) _) _).trans hgrow5
  have HP5 := hide ((unhide HP4).later ⟨hgr5.os, hgr5.tape, hgr5.output, hgr5.size, fun k hk => hgr5.block k hk (by simp)⟩)
  have HG5 := hide ((unhide HG4).trans (hgr5.but (some pb)))
  have HR5 := hide ((hgr5.block w.heap.size (by omega) (by simp)).trans (unhide HR4))
  have HV5 := hide ((hgr5.block (w.heap.size + 1) hz4' (by simp)).trans (unhide HV4))
  have hz5' : w.heap.size + 1 < w5.heap.size := lt_of_blk (unhide HV5)
  have hg5ge : w.heap.size ≤ g5 := hrest5.1
  have hg5ne : g5 ≠ w.heap.size + 1 := by intro e; have h1 := hrest5.2.1; rw [e, unhide HV5] at h1; simp at h1
  have hg5ne' : g5 ≠ w.heap.size := by intro e; have h1 := hrest5.2.1; rw [e, unhide HR5] at h1; simp at h1
  have hg5p : g5 ≠ pb := by intro e; have h1 := hrest5.2.1; rw [e, (unhide HP5).blk] at h1; simp at h1
  clear vc vf hgr5 hgrow5 hrest5
  have vc := fun o => cell_of_blk (unhide HV5) o
  have vf := fun o => frozen_of_blk (unhide HV5) o
  obtain ⟨y, r1, hy⟩ := drop_ne (unhide HP5).lt
  have HY := hide hy
  clear hy
  obtain ⟨b6, hb6⟩ : ∃ b, b = (!b4 && y.k == 20) := ⟨_, rfl⟩
  obtain ⟨j6, hj6⟩ : ∃ j, j = if (!b4 && y.k == 20) = true then j4 + 1 else j4 := ⟨_, rfl⟩
  have HB6 := hide hb6
  have HJ6 := hide hj6
  clear hb6 hj6
  go_wp2_with (go_at_call 247; refine (take_any _ 20 _ _ _ _ _ _ _ _ _ ((unhide HP5).setOther _ _ _ (by omega) (by omega)) (unhide HY) rfl (by decide) (by decide) b6 (unhide HB6) j6 (unhide HJ6)).mono ?_)
  rintro e w6 ⟨rfl, hp6, hg6⟩
  have HG6 := hide ((grown_setNew (unhide HG5) (b := w.heap.size + 1) (by omega) _ _).trans hg6)
  have HR6 := hide ((hg6.block w.heap.size (by simp [World.setCell]; omega) (by simp; omega)).trans ((Below.heap_setCell _ _ _ _ (by simp)).trans (unhide HR5)))
  have HV6 : Hid (w6.heap[w.heap.size + 1]? = some (.cells #[.int .i64 0, .int .u8 (refK t.k), .string t.s, .int .i64 t.p, .slice (some ⟨g5, 0, none⟩) 1 cap5, .int .i64 0, .pointer none] 235 (0, 0))) :=
    (hg6.block (w.heap.size + 1) (by simp [World.setCell]; omega) (by simp; omega)).trans ((blk_set (unhide HV5) _ _).trans rfl)
  have HO6 : Hid (w6.ownsRow w.heap.size 232 3 (.slice (some ⟨g5, 0, none⟩) 1 cap5) 1 (tkCellsR [v])) := owns_keep (owns_keep (unhide HO5) (grown_set _ _ _ _) (by simp [Value.ownBlock]; omega)) hg6 (by simp [Value.ownBlock]; omega)
  have hz6' : w.heap.size + 1 < w6.heap.size := lt_of_blk (unhide HV6)
  clear vc vf
  have HP6 := hide hp6
  clear hp6 hg6
  cases b6 with
  | false =>
    have hj6 : j6 = j4 := by have := unhide HJ6; rw [← unhide HB6] at this; exact this
    subst hj6
    go_wp2_with (go_at_call 201; refine (now_any _ _ _ _ _ _ _ _ _ (unhide HP6) (unhide HY)).mono ?_)
    rintro e wx ⟨rfl, hbx⟩
    simp only [tkR]
    have HPX := hide ((unhide HP6).later hbx)
    have HGX := hide ((unhide HG6).trans (grown_below hbx _))
    have HRX := hide ((hbx.block w.heap.size (by omega)).trans (unhide HR6))
    have HVX := hide ((hbx.block (w.heap.size + 1) (by omega)).trans (unhide HV6))
    have HOX := hide (owns_later (unhide HO6) hbx)
    have hzx : w.heap.size + 1 < wx.heap.size := lt_of_blk (unhide HVX)
    clear hbx
    have vc := fun o => cell_of_blk (unhide HVX) o
    have vf := fun o => frozen_of_blk (unhide HVX) o
    obtain ⟨jy, hjy⟩ : ∃ j, j = if (!b4 && y.k == 19) = true then j6 + 1 else j6 := ⟨_, rfl⟩
    obtain ⟨by', hby⟩ : ∃ b, b = !(!b4 && y.k == 19) := ⟨_, rfl⟩
    have HJY := hide hjy
    have HBY := hide hby
    clear hjy hby
    go_wp2_with (go_at_call 245; refine (must_any _ 19 _ _ _ _ _ _ _ _ _ ((unhide HPX).setOther _ _ _ (by omega) (by omega)) (unhide HY) rfl (by decide) (by decide) jy by' (unhide HJY) (unhide HBY)).mono ?_)
    rintro e wy ⟨rfl, hpy, hgy⟩
    have HPY := hide hpy
    have HGY := hide ((grown_setNew (unhide HGX) (b := w.heap.size + 1) (by omega) _ _).trans hgy)
    have HRY := hide ((hgy.block w.heap.size (by simp [World.setCell]; omega) (by simp; omega)).trans ((Below.heap_setCell _ _ _ _ (by simp)).trans (unhide HRX)))
    have HVY : Hid (wy.heap[w.heap.size + 1]? = some (.cells #[.int .i64 0, .int .u8 (refK t.k), .string t.s, .int .i64 t.p, .slice (some ⟨g5, 0, none⟩) 1 cap5, .int .i64 y.p, .pointer none] 235 (0, 0))) :=
      (hgy.block (w.heap.size + 1) (by simp [World.setCell]; omega) (by simp; omega)).trans ((blk_set (unhide HVX) _ _).trans rfl)
    have HOY := hide (owns_keep (owns_keep (unhide HOX) (grown_set _ (w.heap.size + 1) 5 (.int .i64 y.p)) (by simp [Value.ownBlock]; omega)) hgy (by simp [Value.ownBlock]; omega))
    have hzy : w.heap.size + 1 < wy.heap.size := lt_of_blk (unhide HVY)
    clear vc vf hpy hgy
    have vc := fun o => cell_of_blk (unhide HVY) o
    have rc := fun o => cell_of_blk (unhide HRY) o
    have rf := fun o => frozen_of_blk (unhide HRY) o
    go_wp2_with fail
    refine bodyPost_ret (v := rlV 0 (refK t.k) t.s t.p (some ⟨g5, 0, none⟩) 1 cap5 y.p none) ?_ rfl ?_
    · simp [results, Tryz.results248, go_sem, rlV, rc]
    have hgr := grown_setNew8 (unhide HGY) w.heap.size (Nat.le_refl _) (.int .i64 0) (.int .u8 (refK t.k)) (.string t.s) (.int .i64 t.p) (.slice (some ⟨g5, 0, none⟩) 1 cap5) (.int .i64 y.p) (.pointer none)
    have hps := (unhide HPY).set7 w.heap.size (by omega) (by omega) (.int .i64 0) (.int .u8 (refK t.k)) (.string t.s) (.int .i64 t.p) (.slice (some ⟨g5, 0, none⟩) 1 cap5) (.int .i64 y.p) (.pointer none)
    have how := owns_keep (unhide HOY) (grown7 wy w.heap.size (.int .i64 0) (.int .u8 (refK t.k)) (.string t.s) (.int .i64 t.p) (.slice (some ⟨g5, 0, none⟩) 1 cap5) (.int .i64 y.p) (.pointer none)) (by simp [Value.ownBlock]; omega)
    refine ⟨hgr, _, _, _, _, _, _, _, _, _, rfl, ?_⟩
    have hrr := ruleRead_one (unhide HT) (unhide HKT) (unhide HKU) (unhide HJ4) (unhide HB4) (unhide HY) (unhide HB6)
    cases h19 : (!b4 && y.k == 19) with
    | true =>
      have hj' : jy = j6 + 1 := by rw [unhide HJY, h19]; rfl
      have hb' : by' = false := by rw [unhide HBY, h19]; rfl
      subst hj' hb'
      rw [hrr.1 h19]
      refine ⟨⟨rfl, ?_⟩, j6 + 1, rfl, hps⟩
      rw [if_pos rfl]
      exact ⟨rfl, rfl, rfl, owns_mono how (Nat.zero_le _), rfl, rfl⟩
    | false =>
      have hj' : jy = j6 := by rw [unhide HJY, h19]; rfl
      have hb' : by' = true := by rw [unhide HBY, h19]; rfl
      subst hj' hb'
      rw [hrr.2 h19]
      exact ⟨_, rfl, hps⟩
  | true =>
    have hj6 : j6 = j4 + 1 := by have := unhide HJ6; rw [← unhide HB6] at this; exact this
    subst hj6
    obtain ⟨z, r2, hz⟩ := drop_ne (unhide HP6).lt
    have hb4f : b4 = false := by have := unhide HB6; cases b4 with | false => rfl | true => simp at this
    subst hb4f
    have HZ := hide hz
    have HRR := hide (ruleRead_two (unhide HT) (unhide HKT) (unhide HKU) (unhide HJ4) (unhide HB4) (unhide HY) (unhide HB6) hz)
    clear hz
    go_wp2_with (go_at_call 201; refine (now_any _ _ _ _ _ _ _ _ _ (unhide HP6) (unhide HZ)).mono ?_)
    rintro e w7 ⟨rfl, hb7⟩
    simp only [tkR]
    have HP7 := hide ((unhide HP6).later hb7)
    have HG7 := hide ((unhide HG6).trans (grown_below hb7 _))
    have HR7 := hide ((hb7.block w.heap.size (by omega)).trans (unhide HR6))
    have HV7 := hide ((hb7.block (w.heap.size + 1) (by omega)).trans (unhide HV6))
    have HO7 := hide (owns_later (unhide HO6) hb7)
    have hz7' : w.heap.size + 1 < w7.heap.size := lt_of_blk (unhide HV7)
    clear hb7
    have vc := fun o => cell_of_blk (unhide HV7) o
    have vf := fun o => frozen_of_blk (unhide HV7) o
    by_cases hzk : z.k = 2 ∨ z.k = 3
    · by_cases hzz : z.k = 2
      · have e1 : (refK z.k != 110) = false := by rw [refK_n]; simp [hzz]
        clear hzz
        have HZK := hide hzk
        obtain ⟨z2, r3, hz2⟩ := (by have := (unhide HP7).ends; rw [unhide HZ] at this; exact this.more (by rcases hzk with h | h <;> omega) : ∃ z2 r3, r2 = z2 :: r3)
        subst hz2
        clear hzk
        obtain ⟨c0, c1, c2⟩ := (unhide HP7).cells
        have cf := frozen_of_blk (unhide HP7).blk 1
        have cp := lt_of_blk (unhide HP7).blk
        have cl := (unhide HP7).lt
        go_wp2_with (at_builtin; go_must (refine wpList_append_own _ rfl _ _ 225 rfl w.heap.size 232 i0 (.agg #[.int .u8 0, .string ⟨#[]⟩, .int .i64 0]) 3 32 Tryz.underlying225 hi0 hz0 hz1 hz2 rfl (by decide) _ 1 (tkCellsR [v]) rfl ?c0 ⟨w7.heap.size + 1, 0, none⟩ 1 1 [.int .u8 (refK z.k), .string z.s, .int .i64 z.p] rfl rfl ?c1 ?c2 ?c3 ?c4 ?c5 ?_))
        case c0 => exact ((owns_keep (unhide HO7) (grown_set _ pb 1 (.int .i64 (((j4 + 1 : Nat) : Int) + 1))) (by simp [Value.ownBlock]; omega)).alloc _).alloc _
        case c1 =>
          intro j u hj
          match j, hj with
          | 0, hj => simp at hj; subst hj; exact (cell_of_blk (blk_alloc' _ _ _ (by simp)) 0).trans rfl
          | 1, hj => simp at hj; subst hj; exact (cell_of_blk (blk_alloc' _ _ _ (by simp)) 1).trans rfl
          | 2, hj => simp at hj; subst hj; exact (cell_of_blk (blk_alloc' _ _ _ (by simp)) 2).trans rfl
          | j + 3, hj => simp at hj
        case c2 => intro u hu; simp at hu; rcases hu with rfl | rfl | rfl <;> rfl
        case c3 => unfold maxLen; omega
        case c4 => omega
        case c5 => simp; omega
        intro v9 w9 hown9 hgrow9 _
        obtain ⟨_, h9 | ⟨g9, cap9, cur9, hv9, hrest9⟩⟩ := hown9
        · exact absurd h9.2 (by decide)
        subst hv9
        have HO9 : Hid (w9.ownsRow w.heap.size 232 3 (.slice (some ⟨g9, 0, none⟩) 2 cap9) 2 (tkCellsR [v, z])) := ⟨rfl, Or.inr ⟨g9, cap9, cur9, rfl, hrest9⟩⟩
        have HP9 := hide (((((unhide HP7).setI (unhide HZ)).alloc _).alloc _).grown hgrow9 (by simp [Value.ownBlock]; omega) (by simp [Value.ownBlock]; omega))
        have HG9 := hide ((grown_alloc (grown_alloc ((unhide HG7).trans (grown_set _ pb 1 (.int .i64 (((j4 + 1 : Nat) : Int) + 1)))) _) _).andThen hgrow9 (fun j hj => by left; simp [Value.ownBlock] at hj; omega))
        have HR9 := hide ((hgrow9.block w.heap.size (by simp; omega) (by simp [Value.ownBlock]; omega)).trans ((Below.heap_alloc _ _ _ (by simp; omega)).trans ((Below.heap_alloc _ _ _ (by simp; omega)).trans ((Below.heap_setCell _ _ _ _ (by simp; omega)).trans (unhide HR7)))))
        have HV9 := hide ((hgrow9.block (w.heap.size + 1) (by simp; omega) (by simp [Value.ownBlock]; omega)).trans ((Below.heap_alloc _ _ _ (by simp; omega)).trans ((Below.heap_alloc _ _ _ (by simp; omega)).trans ((Below.heap_setCell _ _ _ _ (by simp; omega)).trans (unhide HV7)))))
        have hz9' : w.heap.size + 1 < w9.heap.size := lt_of_blk (unhide HV9)
        have hg9ge : w.heap.size ≤ g9 := hrest9.1
        have hg9ne : g9 ≠ w.heap.size + 1 := by intro e; have h1 := hrest9.2.1; rw [e, unhide HV9] at h1; simp at h1
        have hg9ne' : g9 ≠ w.heap.size := by intro e; have h1 := hrest9.2.1; rw [e, unhide HR9] at h1; simp at h1
        clear vc vf hgrow9 hrest9 c0 c1 c2 cf cp
        have vc := fun o => cell_of_blk (unhide HV9) o
        have vf := fun o => frozen_of_blk (unhide HV9) o
        go_wp2_with fail
        have HPA := hide ((unhide HP9).setOther (w.heap.size + 1) 4 (.slice (some ⟨g9, 0, none⟩) 2 cap9) (by omega) (by omega))
        have HGA := hide (grown_setNew (unhide HG9) (b := w.heap.size + 1) (by omega) 4 (.slice (some ⟨g9, 0, none⟩) 2 cap9))
        have HRA := hide ((Below.heap_setCell w9 ⟨w.heap.size + 1, 4, none⟩ (.slice (some ⟨g9, 0, none⟩) 2 cap9) w.heap.size (by simp)).trans (unhide HR9))
        have HVA := hide ((blk_set (unhide HV9) 4 (.slice (some ⟨g9, 0, none⟩) 2 cap9)).trans rfl)
        have HOA := hide (owns_keep (unhide HO9) (grown_set w9 (w.heap.size + 1) 4 (.slice (some ⟨g9, 0, none⟩) 2 cap9)) (by simp [Value.ownBlock]; omega))
        clear vc vf
        generalize w9.setCell ⟨w.heap.size + 1, 4, none⟩ (.slice (some ⟨g9, 0, none⟩) 2 cap9) = wa at *
        have hza' : w.heap.size + 1 < wa.heap.size := lt_of_blk (unhide HVA)
        have HZ2 := hide (drop_tail (unhide HZ))
        refine (now_any _ _ _ _ _ _ _ _ _ (unhide HPA) (unhide HZ2)).mono ?_
        rintro e wx ⟨rfl, hbx⟩
        simp only [tkR]
        have HPX := hide ((unhide HPA).later hbx)
        have HGX := hide ((unhide HGA).trans (grown_below hbx _))
        have HRX := hide ((hbx.block w.heap.size (by omega)).trans (unhide HRA))
        have HVX := hide ((hbx.block (w.heap.size + 1) (by omega)).trans (unhide HVA))
        have HOX := hide (owns_later (unhide HOA) hbx)
        have hzx : w.heap.size + 1 < wx.heap.size := lt_of_blk (unhide HVX)
        clear hbx
        have vc := fun o => cell_of_blk (unhide HVX) o
        have vf := fun o => frozen_of_blk (unhide HVX) o
        obtain ⟨jy, hjy⟩ : ∃ j, j = if (!false && z2.k == 19) = true then (j4 + 1 + 1) + 1 else (j4 + 1 + 1) := ⟨_, rfl⟩
        obtain ⟨by', hby⟩ : ∃ b, b = !(!false && z2.k == 19) := ⟨_, rfl⟩
        have HJY := hide hjy
        have HBY := hide hby
        clear hjy hby
        go_wp2_with (go_at_call 245; refine (must_any _ 19 _ _ _ _ _ _ _ _ _ ((unhide HPX).setOther _ _ _ (by omega) (by omega)) (unhide HZ2) rfl (by decide) (by decide) jy by' (unhide HJY) (unhide HBY)).mono ?_)
        rintro e wy ⟨rfl, hpy, hgy⟩
        have HPY := hide hpy
        have HGY := hide ((grown_setNew (unhide HGX) (b := w.heap.size + 1) (by omega) _ _).trans hgy)
        have HRY := hide ((hgy.block w.heap.size (by simp [World.setCell]; omega) (by simp; omega)).trans ((Below.heap_setCell _ _ _ _ (by simp)).trans (unhide HRX)))
        have HVY : Hid (wy.heap[w.heap.size + 1]? = some (.cells #[.int .i64 0, .int .u8 (refK t.k), .string t.s, .int .i64 t.p, .slice (some ⟨g9, 0, none⟩) 2 cap9, .int .i64 z2.p, .pointer none] 235 (0, 0))) :=
          (hgy.block (w.heap.size + 1) (by simp [World.setCell]; omega) (by simp; omega)).trans ((blk_set (unhide HVX) _ _).trans rfl)
        have HOY := hide (owns_keep (owns_keep (unhide HOX) (grown_set _ (w.heap.size + 1) 5 (.int .i64 z2.p)) (by simp [Value.ownBlock]; omega)) hgy (by simp [Value.ownBlock]; omega))
        have hzy : w.heap.size + 1 < wy.heap.size := lt_of_blk (unhide HVY)
        clear vc vf hpy hgy
        have vc := fun o => cell_of_blk (unhide HVY) o
        have rc := fun o => cell_of_blk (unhide HRY) o
        have rf := fun o => frozen_of_blk (unhide HRY) o
        go_wp2_with fail
        refine bodyPost_ret (v := rlV 0 (refK t.k) t.s t.p (some ⟨g9, 0, none⟩) 2 cap9 z2.p none) ?_ rfl ?_
        · simp [results, Tryz.results248, go_sem, rlV, rc]
        have hgr := grown_setNew8 (unhide HGY) w.heap.size (Nat.le_refl _) (.int .i64 0) (.int .u8 (refK t.k)) (.string t.s) (.int .i64 t.p) (.slice (some ⟨g9, 0, none⟩) 2 cap9) (.int .i64 z2.p) (.pointer none)
        have hps := (unhide HPY).set7 w.heap.size (by omega) (by omega) (.int .i64 0) (.int .u8 (refK t.k)) (.string t.s) (.int .i64 t.p) (.slice (some ⟨g9, 0, none⟩) 2 cap9) (.int .i64 z2.p) (.pointer none)
        have how := owns_keep (unhide HOY) (grown7 wy w.heap.size (.int .i64 0) (.int .u8 (refK t.k)) (.string t.s) (.int .i64 t.p) (.slice (some ⟨g9, 0, none⟩) 2 cap9) (.int .i64 z2.p) (.pointer none)) (by simp [Value.ownBlock]; omega)
        refine ⟨hgr, _, _, _, _, _, _, _, _, _, rfl, ?_⟩
        have hz2k : headK (L.drop (j4 + 1 + 1)) = z2.k := by rw [unhide HZ2]; rfl
        have hz2p : headP (L.drop (j4 + 1 + 1)) = z2.p := by rw [unhide HZ2]; rfl
        cases h19 : (!false && z2.k == 19) with
        | true =>
          have hj' : jy = j4 + 1 + 1 + 1 := by rw [unhide HJY, h19]; rfl
          have hb' : by' = false := by rw [unhide HBY, h19]; rfl
          subst hj' hb'
          rw [(unhide HRR).2.1 (unhide HZK) (by rw [hz2k]; simpa using h19), hz2p]
          refine ⟨⟨rfl, ?_⟩, j4 + 1 + 1 + 1, rfl, hps⟩
          rw [if_pos rfl]
          exact ⟨rfl, rfl, rfl, owns_mono how (Nat.zero_le _), rfl, rfl⟩
        | false =>
          have hj' : jy = j4 + 1 + 1 := by rw [unhide HJY, h19]; rfl
          have hb' : by' = true := by rw [unhide HBY, h19]; rfl
          subst hj' hb'
          rw [(unhide HRR).2.2 (unhide HZK) (by rw [hz2k]; simpa using h19)]
          exact ⟨_, rfl, hps⟩
      · have e1 : (refK z.k != 110) = true := by rw [refK_n]; simp [hzz]
        have e2 : (refK z.k != 100) = false := by rw [refK_d]; have : z.k = 3 := by omega
                                                  simp [this]
        clear hzz
        have HZK := hide hzk
        obtain ⟨z2, r3, hz2⟩ := (by have := (unhide HP7).ends; rw [unhide HZ] at this; exact this.more (by rcases hzk with h | h <;> omega) : ∃ z2 r3, r2 = z2 :: r3)
        subst hz2
        clear hzk
        obtain ⟨c0, c1, c2⟩ := (unhide HP7).cells
        have cf := frozen_of_blk (unhide HP7).blk 1
        have cp := lt_of_blk (unhide HP7).blk
        have cl := (unhide HP7).lt
        go_wp2_with (at_builtin; go_must (refine wpList_append_own _ rfl _ _ 225 rfl w.heap.size 232 i0 (.agg #[.int .u8 0, .string ⟨#[]⟩, .int .i64 0]) 3 32 Tryz.underlying225 hi0 hz0 hz1 hz2 rfl (by decide) _ 1 (tkCellsR [v]) rfl ?c0 ⟨w7.heap.size + 1, 0, none⟩ 1 1 [.int .u8 (refK z.k), .string z.s, .int .i64 z.p] rfl rfl ?c1 ?c2 ?c3 ?c4 ?c5 ?_))
        case c0 => exact ((owns_keep (unhide HO7) (grown_set _ pb 1 (.int .i64 (((j4 + 1 : Nat) : Int) + 1))) (by simp [Value.ownBlock]; omega)).alloc _).alloc _
        case c1 =>
          intro j u hj
          match j, hj with
          | 0, hj => simp at hj; subst hj; exact (cell_of_blk (blk_alloc' _ _ _ (by simp)) 0).trans rfl
          | 1, hj => simp at hj; subst hj; exact (cell_of_blk (blk_alloc' _ _ _ (by simp)) 1).trans rfl
          | 2, hj => simp at hj; subst hj; exact (cell_of_blk (blk_alloc' _ _ _ (by simp)) 2).trans rfl
          | j + 3, hj => simp at hj
        case c2 => intro u hu; simp at hu; rcases hu with rfl | rfl | rfl <;> rfl
        case c3 => unfold maxLen; omega
        case c4 => omega
        case c5 => simp; omega
        intro v9 w9 hown9 hgrow9 _
        obtain ⟨_, h9 | ⟨g9, cap9, cur9, hv9, hrest9⟩⟩ := hown9
        · exact absurd h9.2 (by decide)
        subst hv9
        have HO9 : Hid (w9.ownsRow w.heap.size 232 3 (.slice (some ⟨g9, 0, none⟩) 2 cap9) 2 (tkCellsR [v, z])) := ⟨rfl, Or.inr ⟨g9, cap9, cur9, rfl, hrest9⟩⟩
        have HP9 := hide (((((unhide HP7).setI (unhide HZ)).alloc _).alloc _).grown hgrow9 (by simp [Value.ownBlock]; omega) (by simp [Value.ownBlock]; omega))
        have HG9 := hide ((grown_alloc (grown_alloc ((unhide HG7).trans (grown_set _ pb 1 (.int .i64 (((j4 + 1 : Nat) : Int) + 1)))) _) _).andThen hgrow9 (fun j hj => by left; simp [Value.ownBlock] at hj; omega))
        have HR9 := hide ((hgrow9.block w.heap.size (by simp; omega) (by simp [Value.ownBlock]; omega)).trans ((Below.heap_alloc _ _ _ (by simp; omega)).trans ((Below.heap_alloc _ _ _ (by simp; omega)).trans ((Below.heap_setCell _ _ _ _ (by simp; omega)).trans (unhide HR7)))))
        have HV9 := hide ((hgrow9.block (w.heap.size + 1) (by simp; omega) (by simp [Value.ownBlock]; omega)).trans ((Below.heap_alloc _ _ _ (by simp; omega)).trans ((Below.heap_alloc _ _ _ (by simp; omega)).trans ((Below.heap_setCell _ _ _ _ (by simp; omega)).trans (unhide HV7)))))
        have hz9' : w.heap.size + 1 < w9.heap.size := lt_of_blk (unhide HV9)
        have hg9ge : w.heap.size ≤ g9 := hrest9.1
        have hg9ne : g9 ≠ w.heap.size + 1 := by intro e; have h1 := hrest9.2.1; rw [e, unhide HV9] at h1; simp at h1
        have hg9ne' : g9 ≠ w.heap.size := by intro e; have h1 := hrest9.2.1; rw [e, unhide HR9] at h1; simp at h1
        clear vc vf hgrow9 hrest9 c0 c1 c2 cf cp
        have vc := fun o => cell_of_blk (unhide HV9) o
        have vf := fun o => frozen_of_blk (unhide HV9) o
        go_wp2_with fail
        have HPA := hide ((unhide HP9).setOther (w.heap.size + 1) 4 (.slice (some ⟨g9, 0, none⟩) 2 cap9) (by omega) (by omega))
        have HGA := hide (grown_setNew (unhide HG9) (b := w.heap.size + 1) (by omega) 4 (.slice (some ⟨g9, 0, none⟩) 2 cap9))
        have HRA := hide ((Below.heap_setCell w9 ⟨w.heap.size + 1, 4, none⟩ (.slice (some ⟨g9, 0, none⟩) 2 cap9) w.heap.size (by simp)).trans (unhide HR9))
        have HVA := hide ((blk_set (unhide HV9) 4 (.slice (some ⟨g9, 0, none⟩) 2 cap9)).trans rfl)
        have HOA := hide (owns_keep (unhide HO9) (grown_set w9 (w.heap.size + 1) 4 (.slice (some ⟨g9, 0, none⟩) 2 cap9)) (by simp [Value.ownBlock]; omega))
        clear vc vf
        generalize w9.setCell ⟨w.heap.size + 1, 4, none⟩ (.slice (some ⟨g9, 0, none⟩) 2 cap9) = wa at *
        have hza' : w.heap.size + 1 < wa.heap.size := lt_of_blk (unhide HVA)
        have HZ2 := hide (drop_tail (unhide HZ))
        refine (now_any _ _ _ _ _ _ _ _ _ (unhide HPA) (unhide HZ2)).mono ?_
        rintro e wx ⟨rfl, hbx⟩
        simp only [tkR]
        have HPX := hide ((unhide HPA).later hbx)
        have HGX := hide ((unhide HGA).trans (grown_below hbx _))
        have HRX := hide ((hbx.block w.heap.size (by omega)).trans (unhide HRA))
        have HVX := hide ((hbx.block (w.heap.size + 1) (by omega)).trans (unhide HVA))
        have HOX := hide (owns_later (unhide HOA) hbx)
        have hzx : w.heap.size + 1 < wx.heap.size := lt_of_blk (unhide HVX)
        clear hbx
        have vc := fun o => cell_of_blk (unhide HVX) o
        have vf := fun o => frozen_of_blk (unhide HVX) o
        obtain ⟨jy, hjy⟩ : ∃ j, j = if (!false && z2.k == 19) = true then (j4 + 1 + 1) + 1 else (j4 + 1 + 1) := ⟨_, rfl⟩
        obtain ⟨by', hby⟩ : ∃ b, b = !(!false && z2.k == 19) := ⟨_, rfl⟩
        have HJY := hide hjy
        have HBY := hide hby
        clear hjy hby
        go_wp2_with (go_at_call 245; refine (must_any _ 19 _ _ _ _ _ _ _ _ _ ((unhide HPX).setOther _ _ _ (by omega) (by omega)) (unhide HZ2) rfl (by decide) (by decide) jy by' (unhide HJY) (unhide HBY)).mono ?_)
        rintro e wy ⟨rfl, hpy, hgy⟩
        have HPY := hide hpy
        have HGY := hide ((grown_setNew (unhide HGX) (b := w.heap.size + 1) (by omega) _ _).trans hgy)
        have HRY := hide ((hgy.block w.heap.size (by simp [World.setCell]; omega) (by simp; omega)).trans ((Below.heap_setCell _ _ _ _ (by simp)).trans (unhide HRX)))
        have HVY : Hid (wy.heap[w.heap.size + 1]? = some (.cells #[.int .i64 0, .int .u8 (refK t.k), .string t.s, .int .i64 t.p, .slice (some ⟨g9, 0, none⟩) 2 cap9, .int .i64 z2.p, .pointer none] 235 (0, 0))) :=
          (hgy.block (w.heap.size + 1) (by simp [World.setCell]; omega) (by simp; omega)).trans ((blk_set (unhide HVX) _ _).trans rfl)
        have HOY := hide (owns_keep (owns_keep (unhide HOX) (grown_set _ (w.heap.size + 1) 5 (.int .i64 z2.p)) (by simp [Value.ownBlock]; omega)) hgy (by simp [Value.ownBlock]; omega))
        have hzy : w.heap.size + 1 < wy.heap.size := lt_of_blk (unhide HVY)
        clear vc vf hpy hgy
        have vc := fun o => cell_of_blk (unhide HVY) o
        have rc := fun o => cell_of_blk (unhide HRY) o
        have rf := fun o => frozen_of_blk (unhide HRY) o
        go_wp2_with fail
        refine bodyPost_ret (v := rlV 0 (refK t.k) t.s t.p (some ⟨g9, 0, none⟩) 2 cap9 z2.p none) ?_ rfl ?_
        · simp [results, Tryz.results248, go_sem, rlV, rc]
        have hgr := grown_setNew8 (unhide HGY) w.heap.size (Nat.le_refl _) (.int .i64 0) (.int .u8 (refK t.k)) (.string t.s) (.int .i64 t.p) (.slice (some ⟨g9, 0, none⟩) 2 cap9) (.int .i64 z2.p) (.pointer none)
        have hps := (unhide HPY).set7 w.heap.size (by omega) (by omega) (.int .i64 0) (.int .u8 (refK t.k)) (.string t.s) (.int .i64 t.p) (.slice (some ⟨g9, 0, none⟩) 2 cap9) (.int .i64 z2.p) (.pointer none)
        have how := owns_keep (unhide HOY) (grown7 wy w.heap.size (.int .i64 0) (.int .u8 (refK t.k)) (.string t.s) (.int .i64 t.p) (.slice (some ⟨g9, 0, none⟩) 2 cap9) (.int .i64 z2.p) (.pointer none)) (by simp [Value.ownBlock]; omega)
        refine ⟨hgr, _, _, _, _, _, _, _, _, _, rfl, ?_⟩
        have hz2k : headK (L.drop (j4 + 1 + 1)) = z2.k := by rw [unhide HZ2]; rfl
        have hz2p : headP (L.drop (j4 + 1 + 1)) = z2.p := by rw [unhide HZ2]; rfl
        cases h19 : (!false && z2.k == 19) with
        | true =>
          have hj' : jy = j4 + 1 + 1 + 1 := by rw [unhide HJY, h19]; rfl
          have hb' : by' = false := by rw [unhide HBY, h19]; rfl
          subst hj' hb'
          rw [(unhide HRR).2.1 (unhide HZK) (by rw [hz2k]; simpa using h19), hz2p]
          refine ⟨⟨rfl, ?_⟩, j4 + 1 + 1 + 1, rfl, hps⟩
          rw [if_pos rfl]
          exact ⟨rfl, rfl, rfl, owns_mono how (Nat.zero_le _), rfl, rfl⟩
        | false =>
          have hj' : jy = j4 + 1 + 1 := by rw [unhide HJY, h19]; rfl
          have hb' : by' = true := by rw [unhide HBY, h19]; rfl
          subst hj' hb'
          rw [(unhide HRR).2.2 (unhide HZK) (by rw [hz2k]; simpa using h19)]
          exact ⟨_, rfl, hps⟩
    · have e1 : (refK z.k != 110) = true := by rw [refK_n]; simp; omega
      have e2 : (refK z.k != 100) = true := by rw [refK_d]; simp; omega
      have HZK := hide hzk
      clear hzk
      go_wp2_with (go_at_call 280; refine (fail_any _ _ _ _ _ _ _ ((unhide HP7).alloc _)).mono ?_)
      rintro e w8 ⟨rfl, hp8, hg8⟩
      have HP8 := hide hp8
      have HG8 := hide ((grown_alloc (unhide HG7) _).trans hg8)
      have HR8 := hide ((hg8.block w.heap.size (by simp; omega) (by simp; omega)).trans ((Below.heap_alloc _ _ _ (by omega)).trans (unhide HR7)))
      have HV8 := hide ((hg8.block (w.heap.size + 1) (by simp; omega) (by simp; omega)).trans ((Below.heap_alloc _ _ _ (by omega)).trans (unhide HV7)))
      have hz8' : w.heap.size + 1 < w8.heap.size := lt_of_blk (unhide HV8)
      clear vc vf hp8 hg8
      have vc := fun o => cell_of_blk (unhide HV8) o
      have rc := fun o => cell_of_blk (unhide HR8) o
      have rf := fun o => frozen_of_blk (unhide HR8) o
      go_wp2_with fail
      refine bodyPost_ret (v := rlV 0 (refK t.k) t.s t.p (some ⟨g5, 0, none⟩) 1 cap5 0 none) ?_ rfl ?_
      · simp [results, Tryz.results248, go_sem, rlV, rc]
      rw [(unhide HRR).1 (unhide HZK)]
      exact ⟨grown_setNew8 (unhide HG8) w.heap.size (Nat.le_refl _) _ _ _ _ _ _ _, _, _, _, _, _, _, _, _, _, rfl, _, rfl, (unhide HP8).set7 w.heap.size (by omega) (by omega) _ _ _ _ _ _ _⟩
end Go.Proofs.YtidakhhekofkoaaGreatDoor
