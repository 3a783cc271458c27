/- The program's reader: number, text, numbers. -/
import Derived.Test.YtidakhhekofkoaaGreatDoorZ32
import Derived.Test.YtidakhhekofkoaaGreatDoorZ33
set_option linter.unusedSimpArgs false
set_option linter.unusedVariables false
namespace Go.Proofs.YtidakhhekofkoaaGreatDoor
open Go.RowKit Go.Deep
def RdA (w : World) (rb : Nat) (l : List UInt8) : Prop := ∃ s : ByteArray, s.data.toList = l ∧ w.heap[rb]? = some (.cells #[.string s] 165 (0, 0))
theorem RdA.lt {w : World} {rb : Nat} {l : List UInt8} (h : RdA w rb l) : rb < w.heap.size := by obtain ⟨_, _, h⟩ := h; exact lt_of_blk h
theorem RdA.later {w w' : World} {rb : Nat} {l : List UInt8} (h : RdA w rb l) (hb : Below w.heap.size w w') : RdA w' rb l := by
 obtain ⟨s, h1, h2⟩ := h
 exact ⟨s, h1, (hb.block _ (lt_of_blk h2)).trans h2⟩
theorem RdA.keep {w w' : World} {rb : Nat} {l : List UInt8} {row : Option Nat} (h : RdA w rb l) (hg : w.grownBy w' row) (hne : some rb ≠ row) : RdA w' rb l := by
 obtain ⟨s, h1, h2⟩ := h
 exact ⟨s, h1, (hg.block _ (lt_of_blk h2) hne).trans h2⟩
theorem extract_drop (s : ByteArray) (n : Nat) : (s.extract n s.size).data.toList = s.data.toList.drop n := by
 rw [Lib.extract_data, List.take_of_length_le]
 rw [List.length_drop, size_data]
 exact Nat.le_refl _
theorem extract_take (s : ByteArray) (n : Nat) : (s.extract 0 n).data.toList = s.data.toList.take n := by
 rw [Lib.extract_data]
 simp
structure RdF (rb : Nat) (l : List UInt8) (w w' : World) : Prop where
 at' : RdA w' rb l
 gr : w.grownBy w' (some rb)
set_option maxHeartbeats 1000000 in
set_option maxRecDepth 100000 in
theorem rdnumber_any (w : World) (rb : Nat) (l : List UInt8) (h : RdA w rb l) :
  Calls Tryz.prog 135 #[.pointer (some ⟨rb, 0, none⟩)] w fun e w' => e = .returned (.int .i64 ((numB l).1 : Nat)) ∧ RdF rb (numB l).2 w w' := by
 obtain ⟨s, rfl, hb⟩ := h
 have hc : w.cell? ⟨rb, 0, none⟩ = some (.string s) := cell_of_blk hb 0
 have hf := frozen_of_blk hb 0
 have hlt := lt_of_blk hb
 have HB := hide hb
 clear hb
 cases hd : s.data.toList with
 | nil =>
  have hs : s = ⟨#[]⟩ := ByteArray.ext (by rw [← Array.toList_inj, hd])
  subst hs
  clear hd
  go_enter Tryz.func135, Tryz.ntmps135
  go_wp2_with fail
  go_ret
  exact ⟨rfl, ⟨⟨#[]⟩, rfl, unhide HB⟩, ⟨rfl, rfl, rfl, Nat.le_refl _, fun _ _ _ => rfl⟩⟩
 | cons c r =>
  have hsz : 0 < s.size := by rw [← size_data, hd]; simp
  have hne : s.toList.isEmpty = false := by rw [ByteArray.toList_eq, hd]; rfl
  have h0 : s[0] = c := by
   have := drop_at s 0 hsz
   rw [List.drop_zero, hd] at this
   exact ((List.cons.inj this).1).symm
  have HX : Hid ((s.extract 1 s.size).data.toList = r) := by show _ = _; rw [extract_drop, hd]; rfl
  clear hd
  have hsz' : ¬ ((s.size : Int) < 1) := by omega
  have hc8 := c.toNat_lt
  have hw64 : wrap64 (c.toNat : Int) = (c.toNat : Int) := by unfold wrap64; omega
  go_enter Tryz.func135, Tryz.ntmps135
  go_wp2_with fail
  go_ret
  exact ⟨rfl, ⟨⟨_, unhide HX, blk_set (unhide HB) 0 _⟩, grown_set _ _ _ _⟩⟩
set_option maxHeartbeats 1000000 in
set_option maxRecDepth 100000 in
theorem sClone_any (s : ByteArray) (w : World) (hlim : s.size ≤ 281474976710656) :
  Calls Tryz.prog 49 #[.string s] w fun e w' => e = .returned (.string s) ∧ Below w.heap.size w w' := by
 have HC := hide (Tryz.stringslite_Clone s w hlim)
 go_enter Tryz.func49, Tryz.ntmps49
 go_wp2_with fail
 refine (unhide HC).mono ?_
 rintro e w1 ⟨rfl, hb⟩
 have HB := hide hb
 clear hb
 go_wp2_with fail
 go_ret
 exact ⟨rfl, unhide HB⟩
set_option maxHeartbeats 1000000 in
set_option maxRecDepth 100000 in
theorem rdtext_any (w : World) (rb : Nat) (l : List UInt8) (n : Nat) (h : RdA w rb l) (hl : l.length ≤ 1000) (hn : n ≤ 1000) :
  Calls Tryz.prog 134 #[.pointer (some ⟨rb, 0, none⟩), .int .i64 (n : Int)] w fun e w' => e = .returned (.string (txtB n l).1) ∧ RdF rb (txtB n l).2 w w' := by
 obtain ⟨s, rfl, hb⟩ := h
 have hc : w.cell? ⟨rb, 0, none⟩ = some (.string s) := cell_of_blk hb 0
 have hlt := lt_of_blk hb
 have HB := hide hb
 rw [size_data] at hl
 have hmin : min (n : Int) (s.size : Int) = ((min n s.size : Nat) : Int) := by omega
 generalize hm : min n s.size = m at *
 have hms : m ≤ s.size := by omega
 have HT : Hid ((txtB n s.data.toList).1 = s.extract 0 m) := by
  show _ = _
  unfold txtB
  apply byte_inj
  show (s.data.toList.take n) = _
  rw [extract_take, ← hm, List.take_eq_take_iff, size_data]
  omega
 have HD : Hid ((s.extract m s.size).data.toList = (txtB n s.data.toList).2) := by
  show _ = _
  unfold txtB
  rw [extract_drop, ← hm]
  show _ = s.data.toList.drop n
  rcases Nat.le_total n s.size with h | h
  ·rw [Nat.min_eq_left h]
  ·rw [Nat.min_eq_right h, List.drop_eq_nil_of_le (by rw [size_data]; exact Nat.le_refl _), List.drop_eq_nil_of_le (by rw [size_data]; exact h)]
 have HC := hide (sClone_any (s.extract 0 m) w (by
  rw [← size_data, extract_take, List.length_take, size_data]
  omega))
 clear hb hm
 go_enter Tryz.func134, Tryz.ntmps134
 go_wp2_with fail
 refine (unhide HC).mono ?_
 rintro e w1 ⟨rfl, hb1⟩
 have hbk := (hb1.block _ (lt_of_blk (unhide HB))).trans (unhide HB)
 have hc1 : w1.cell? ⟨rb, 0, none⟩ = some (.string s) := cell_of_blk hbk 0
 have hf1 := frozen_of_blk hbk 0
 have hlt1 := lt_of_blk hbk
 have HBK := hide hbk
 have HB1 := hide hb1
 clear hbk hb1 hc hlt
 go_wp2_with fail
 go_ret
 exact ⟨by rw [unhide HT]; rfl, ⟨⟨_, unhide HD, blk_set (unhide HBK) 0 _⟩, (grown_below (unhide HB1) _).trans (grown_set _ _ _ _)⟩⟩
def intC (l : List Nat) : List Value := l.map fun n : Nat => Value.int .i64 (n : Int)
theorem intC_len (l : List Nat) : (intC l).length = l.length := by unfold intC; rw [List.length_map]
theorem intC_app (l r : List Nat) : intC (l ++ r) = intC l ++ intC r := by unfold intC; rw [List.map_append]
theorem numsB_snoc : ∀ (k : Nat) (l : List UInt8), numsB (k + 1) l = ((numsB k l).1 ++ [(numB (numsB k l).2).1], (numB (numsB k l).2).2)
 | 0, l => rfl
 | k + 1, l => by
  rw [numsB, numsB_snoc k (numB l).2, numsB]
  rfl
theorem numsB_len : ∀ (k : Nat) (l : List UInt8), (numsB k l).1.length = k
 | 0, _ => rfl
 | k + 1, l => by rw [numsB, List.length_cons, numsB_len]
theorem Tryz.infoI64 : (Tryz.prog.info? 3).map (fun i => (i.zero, i.size, i.bytes)) = some (some (.int .i64 0), 1, 8) := by kernel_rfl
def rowTo (L : List Nat) (c k : Nat) : List Nat := L.take k ++ List.replicate (c - k) 0
theorem rowTo_len {L : List Nat} {c k : Nat} (hL : k ≤ L.length) (hk : k ≤ c) : (rowTo L c k).length = c := by unfold rowTo; simp; omega
theorem rowTo_succ {L M : List Nat} {c k x : Nat} (hk : k < c) (hL : L.length = k) (hM : M = L ++ [x]) : rowTo M c (k + 1) = (rowTo L c k).set k x := by
 subst hM
 unfold rowTo
 obtain ⟨m, hm⟩ : ∃ m, c - k = m + 1 := ⟨c - k - 1, by omega⟩
 rw [hm, show c - (k + 1) = m by omega, List.take_of_length_le (by simp [hL]), List.take_of_length_le (by omega), List.set_append_right _ _ (by omega), hL, Nat.sub_self, List.replicate_succ, List.set_cons_zero]
 simp
def rowC (l : List Nat) : Array Value := (intC l).toArray
theorem rowC_set (l : List Nat) (k x : Nat) : (rowC l).setIfInBounds k (.int .i64 (x : Int)) = rowC (l.set k x) := by
 unfold rowC intC
 rw [List.setIfInBounds_toArray, List.map_set]
theorem rowC_at {l : List Nat} {k x : Nat} (h : l[k]? = some x) : (rowC l)[k]? = some (.int .i64 (x : Int)) := by
 unfold rowC intC
 rw [List.getElem?_toArray, List.getElem?_map, h]
 rfl
theorem rowC_zero (n : Nat) : rowC (List.replicate n 0) = Array.replicate n (.int .i64 0) := by unfold rowC intC; simp
theorem rowC_owns {w : World} {g base n : Nat} {l : List Nat} (h : w.heap[g]? = some (.cells (rowC l) 3 (0, 0))) (hb : base ≤ g) (hn : l.length = n) (hm : n ≤ 1000000) : w.ownsRow base 3 1 (.slice (some ⟨g, 0, none⟩) n n) n (intC l) := by
 refine ⟨by rw [intC_len, hn, Nat.mul_one], .inr ⟨g, n, _, rfl, hb, h, Nat.le_refl _, by unfold maxLen; omega, ?_, ?_⟩⟩
 ·unfold rowC; rw [List.size_toArray, intC_len, hn, Nat.mul_one]
 ·unfold rowC
  rw [List.take_of_length_le (by simp [intC_len, hn])]
def NumsP (w : World) (rb : Nat) (l : List UInt8) (c : Nat) (w' : World) (e : Ending) : Prop :=
 e = .returned (.slice (some ⟨w.heap.size, 0, none⟩) c c) ∧ w'.heap[w.heap.size]? = some (.cells (rowC (numsB c l).1) 3 (0, 0)) ∧ RdF rb (numsB c l).2 w w'
structure NR (w wr : World) (rb : Nat) (l : List UInt8) (c k : Nat) : Prop where
 blk : wr.heap[w.heap.size]? = some (.cells (rowC (rowTo (numsB k l).1 c k)) 3 (0, 0))
 rd : RdA wr rb (numsB k l).2
 gr : w.grownBy wr (some rb)
set_option maxHeartbeats 2000000 in
set_option maxRecDepth 100000 in
theorem rdnumbers_any (w : World) (rb : Nat) (l : List UInt8) (c : Nat) (h : RdA w rb l) (hc : c ≤ 1000) :
  Calls Tryz.prog 136 #[.pointer (some ⟨rb, 0, none⟩), .int .i64 (c : Int)] w fun e w' => NumsP w rb l c w' e := by
 obtain ⟨i0, hi0, hz0, hz1, hz2⟩ := info_parts Tryz.infoI64
 have hmk := fun (w : World) => make_run (P := Tryz.prog) w 33 3 i0 (.int .i64 0) Tryz.underlying33 hi0 hz0 hz1 rfl (by omega) c (by omega)
 clear hi0 hz0 hz1 hz2
 have hlt := h.lt
 have HN0 : Hid (NR w (w.alloc (.cells (Array.replicate c (.int .i64 0)) 3)) rb l c 0) := by
  refine ⟨?_, h.later ((Below.refl _ _).alloc (Nat.le_refl _) _), World.grownBy_alloc _ _ _⟩
  rw [← rowC_zero]
  have e : rowTo (numsB 0 l).1 c 0 = List.replicate c 0 := by unfold rowTo; simp
  rw [e]
  exact blk_alloc _ _
 clear h
 go_enter Tryz.func136, Tryz.ntmps136
 go_wp2_with fail
 generalize w.alloc (.cells (Array.replicate c (.int .i64 0)) 3) = W0 at *
 go_loopw [11] (fun x wr => ∃ k : Nat, k ≤ c ∧ x = .int .i64 k ∧ Hid (NR w wr rb l c k)) (fun x _ => c - (intOf x).toNat)
 case atStart => exact ⟨0, Nat.zero_le _, rfl, HN0⟩
 case round =>
  obtain ⟨k, hk, rfl, HN⟩ := hrel
  by_cases hlt2 : k < c
  ·have hkn : (k : Int) < (c : Int) := by omega
   have HC := hide (rdnumber_any wr rb (numsB k l).2 (unhide HN).rd)
   have HS := hide (numsB_snoc k l)
   generalize hy : (numB (numsB k l).2).1 = y at *
   generalize hq : (numB (numsB k l).2).2 = q at *
   clear hy hq
   go_wp2_with (go_at_call 135; refine (unhide HC).mono ?_)
   rintro e w1 ⟨rfl, hr1⟩
   have hne : some w.heap.size ≠ some rb := fun e => by cases e; omega
   have hb1 := (hr1.gr.block _ (lt_of_blk (unhide HN).blk) hne).trans (unhide HN).blk
   have hgl := lt_of_blk hb1
   have gf := frozen_of_blk hb1 k
   have hlen : (rowTo (numsB k l).1 c k).length = c := rowTo_len (by rw [numsB_len]; exact Nat.le_refl _) hk
   obtain ⟨y0, hy0⟩ : ∃ y0, (rowTo (numsB k l).1 c k)[k]? = some y0 := ⟨_, List.getElem?_eq_getElem (by rw [hlen]; exact hlt2)⟩
   have gc := (cell_of_blk hb1 k).trans (rowC_at hy0)
   clear hy0
   have HN2 : Hid (NR w (w1.setCell ⟨w.heap.size, k, none⟩ (.int .i64 (y : Int))) rb l c (k + 1)) := by
    refine ⟨?_, ?_, ?_⟩
    ·have := blk_set hb1 k (.int .i64 (y : Int))
     rw [rowC_set] at this
     rw [rowTo_succ (L := (numsB k l).1) (x := y) hlt2 (numsB_len k l) (by rw [unhide HS])]
     exact this
    ·rw [unhide HS]
     exact hr1.at'.keep (grown_set _ _ _ _) hne.symm
    ·exact grown_setNew ((unhide HN).gr.trans hr1.gr) (Nat.le_refl _) _ _
   clear hb1 hr1 hlen hne
   go_wp2_with fail
   go_roundw
   case rel => exact ⟨k + 1, by omega, by go_num, HN2⟩
   case measure => simp [intOf]; omega
  ·have hkn : ¬ (k : Int) < (c : Int) := by omega
   have hke : k = c := by omega
   subst hke
   have hall : rowTo (numsB k l).1 k k = (numsB k l).1 := by unfold rowTo; rw [List.take_of_length_le (by rw [numsB_len]; exact Nat.le_refl _)]; simp
   have hb := (unhide HN).blk
   rw [hall] at hb
   have HB := hide hb
   clear hb hall
   go_wp2_with fail
   go_ret
   exact ⟨rfl, unhide HB, (unhide HN).rd, (unhide HN).gr⟩
theorem actsP_snoc : ∀ (k : Nat) (l : List UInt8), actsP (k + 1) l = ((actsP k l).1 ++ [(txtB (numB (actsP k l).2).1 (numB (actsP k l).2).2).1], (txtB (numB (actsP k l).2).1 (numB (actsP k l).2).2).2)
 | 0, l => rfl
 | k + 1, l => by
  rw [actsP, actsP_snoc k, actsP]
  rfl
theorem actsP_len : ∀ (k : Nat) (l : List UInt8), (actsP k l).1.length = k
 | 0, _ => rfl
 | k + 1, l => by rw [actsP, List.length_cons, actsP_len]
theorem rowsP_snoc (c : Nat) : ∀ (k : Nat) (l : List UInt8), rowsP c (k + 1) l = (((rowsP c k l).1.1 ++ [(numB (rowsP c k l).2).1], (rowsP c k l).1.2 ++ [(numsB c (numB (rowsP c k l).2).2).1]), (numsB c (numB (rowsP c k l).2).2).2)
 | 0, l => rfl
 | k + 1, l => by
  rw [rowsP, rowsP_snoc c k, rowsP]
  rfl
theorem rowsP_len (c : Nat) : ∀ (k : Nat) (l : List UInt8), (rowsP c k l).1.1.length = k ∧ (rowsP c k l).1.2.length = k
 | 0, _ => ⟨rfl, rfl⟩
 | k + 1, l => by
  rw [rowsP]
  have := rowsP_len c k (numsB c (numB l).2).2
  exact ⟨by rw [List.length_cons, this.1], by rw [List.length_cons, this.2]⟩
def strsC (l : List ByteArray) : List Value := l.map Value.string
structure TbW (w : World) (base : Nat) (A F X : Value) (t : Tb) (rv : List Value) : Prop where
 acts : w.ownsRow base 9 1 A t.acts.length (strsC t.acts)
 fl : w.ownsRow base 3 1 F t.fl.length (intC t.fl)
 nx : w.ownsRow base 33 1 X t.nx.length rv
 rows : ∀ (j : Nat) (r : List Nat), t.nx[j]? = some r → ∃ g c, rv[j]? = some (.slice (some ⟨g, 0, none⟩) r.length c) ∧ w.ownsRow base 3 1 (.slice (some ⟨g, 0, none⟩) r.length c) r.length (intC r)
 rf : ∀ v ∈ rv, v.ownBlock ≠ F.ownBlock
 rr : rv.Pairwise fun u v => u.ownBlock ≠ v.ownBlock
theorem TbW.rl {w : World} {base : Nat} {A F X : Value} {t : Tb} {rv : List Value} (h : TbW w base A F X t rv) : rv.length = t.nx.length := by
 have := h.nx.1
 rw [Nat.mul_one] at this
 exact this
theorem own_at {w : World} {base e size n : Nat} {v : Value} {xs : List Value} (h : w.ownsRow base e size v n xs) {b : Nat} (hb : v.ownBlock = some b) : ∃ c, w.heap[b]? = some (.cells c e (0, 0)) := by
 obtain ⟨_, ⟨hv, _⟩ | ⟨g, cap, cur, hv, _, hg, _⟩⟩ := h
 ·rw [hv] at hb; cases hb
 ·rw [hv] at hb
  cases hb
  exact ⟨cur, hg⟩
theorem owns_other {w w' : World} {base e size n : Nat} {v : Value} {xs : List Value} {row : Option Nat} (h : w.ownsRow base e size v n xs) (hg : w.grownBy w' row) (hne : ∀ b, row = some b → v.ownBlock ≠ some b) : w'.ownsRow base e size v n xs := by
 refine owns_keep h hg ?_
 cases hv : v.ownBlock with
 | none => exact Or.inl rfl
 | some k => exact Or.inr (fun e => hne k e.symm hv)
theorem TbW.other {w w' : World} {base : Nat} {A F X : Value} {t : Tb} {rv : List Value} {row : Option Nat} (h : TbW w base A F X t rv) (hg : w.grownBy w' row) (hne : ∀ b, row = some b → ∀ c m, w.heap[b]? ≠ some (.cells c 9 m) ∧ w.heap[b]? ≠ some (.cells c 3 m) ∧ w.heap[b]? ≠ some (.cells c 33 m)) : TbW w' base A F X t rv := by
 refine ⟨owns_other h.acts hg fun b hb e => ?_, owns_other h.fl hg fun b hb e => ?_, owns_other h.nx hg fun b hb e => ?_, fun j r hr => ?_, h.rf, h.rr⟩
 ·obtain ⟨c, hc⟩ := own_at h.acts e; exact (hne b hb c (0, 0)).1 hc
 ·obtain ⟨c, hc⟩ := own_at h.fl e; exact (hne b hb c (0, 0)).2.1 hc
 ·obtain ⟨c, hc⟩ := own_at h.nx e; exact (hne b hb c (0, 0)).2.2 hc
 ·obtain ⟨g, c, h1, h2⟩ := h.rows j r hr
  exact ⟨g, c, h1, owns_other h2 hg fun b hb e => by obtain ⟨c', hc⟩ := own_at h2 e; exact (hne b hb c' (0, 0)).2.1 hc⟩
theorem TbW.later {w w' : World} {base : Nat} {A F X : Value} {t : Tb} {rv : List Value} (h : TbW w base A F X t rv) (hb : Below w.heap.size w w') : TbW w' base A F X t rv :=
 h.other (grown_below hb none) (fun b e => by cases e)
theorem TbW.act {w w' : World} {base : Nat} {A A' F X : Value} {t : Tb} {rv : List Value} (h : TbW w base A F X t rv) {s : ByteArray} (ho : w'.ownsRow base 9 1 A' (t.acts.length + 1) (strsC t.acts ++ [.string s])) (hg : w.grownBy w' A.ownBlock) : TbW w' base A' F X ⟨t.acts ++ [s], t.fl, t.nx⟩ rv := by
 have hty : ∀ {e n : Nat} {v : Value} {xs : List Value}, w.ownsRow base e 1 v n xs → e ≠ 9 → ∀ b, A.ownBlock = some b → v.ownBlock ≠ some b := fun {e n v xs} k hne b hb e1 => by
  obtain ⟨c, hc⟩ := own_at h.acts hb
  exact own_ty k e1 hc (fun e => hne e.symm)
 refine ⟨?_, owns_other h.fl hg (hty h.fl (by decide)), owns_other h.nx hg (hty h.nx (by decide)), fun j r hr => ?_, h.rf, h.rr⟩
 ·have e : strsC (t.acts ++ [s]) = strsC t.acts ++ [.string s] := by unfold strsC; rw [List.map_append]; rfl
  show w'.ownsRow base _ 1 A' (t.acts ++ [s]).length (strsC (t.acts ++ [s]))
  rw [e, List.length_append]
  exact ho
 ·obtain ⟨g, c, h1, h2⟩ := h.rows j r hr
  exact ⟨g, c, h1, owns_other h2 hg (hty h2 (by decide))⟩
theorem TbW.flag {w w' : World} {base : Nat} {A F F' X : Value} {t : Tb} {rv : List Value} (h : TbW w base A F X t rv) {f : Nat} (ho : w'.ownsRow base 3 1 F' (t.fl.length + 1) (intC t.fl ++ [.int .i64 (f : Int)])) (hg : w.grownBy w' F.ownBlock) {g' : Nat} (hF' : F'.ownBlock = some g') (hat : F.ownBlock = some g' ∨ w.heap.size ≤ g') : TbW w' base A F' X ⟨t.acts, t.fl ++ [f], t.nx⟩ rv := by
 have hty : ∀ {e n : Nat} {v : Value} {xs : List Value}, w.ownsRow base e 1 v n xs → e ≠ 3 → ∀ b, F.ownBlock = some b → v.ownBlock ≠ some b := fun {e n v xs} k hne b hb e1 => by
  obtain ⟨c, hc⟩ := own_at h.fl hb
  exact own_ty k e1 hc (fun e => hne e.symm)
 have hrow : ∀ v ∈ rv, ∃ g r c, v = .slice (some ⟨g, 0, none⟩) r c ∧ g < w.heap.size := fun v hv => by
  obtain ⟨j, hj⟩ := List.mem_iff_getElem?.1 hv
  have hjl : j < t.nx.length := by have := (List.getElem?_eq_some_iff.1 hj).1; have := h.rl; omega
  obtain ⟨g, c, h1, h2⟩ := h.rows j _ (List.getElem?_eq_getElem hjl)
  rw [hj] at h1
  cases h1
  exact ⟨g, _, c, rfl, (own_lt h2 g rfl).2⟩
 refine ⟨owns_other h.acts hg (hty h.acts (by decide)), ?_, owns_other h.nx hg (hty h.nx (by decide)), fun j r hr => ?_, fun v hv => ?_, h.rr⟩
 ·have e : intC (t.fl ++ [f]) = intC t.fl ++ [.int .i64 (f : Int)] := by rw [intC_app]; rfl
  show w'.ownsRow base _ 1 F' (t.fl ++ [f]).length (intC (t.fl ++ [f]))
  rw [e, List.length_append]
  exact ho
 ·obtain ⟨g, c, h1, h2⟩ := h.rows j r hr
  refine ⟨g, c, h1, owns_other h2 hg fun b hb e => ?_⟩
  exact h.rf _ (List.mem_of_getElem? h1) (e.trans hb.symm)
 ·obtain ⟨g, r, c, rfl, hlt⟩ := hrow v hv
  rw [hF']
  intro e
  have e' : g = g' := Option.some.inj e
  subst e'
  rcases hat with hat | hat
  ·exact h.rf _ hv hat.symm
  ·omega
theorem TbW.row {w w' : World} {base : Nat} {A F X X' : Value} {t : Tb} {rv : List Value} (h : TbW w base A F X t rv) {g c : Nat} {r : List Nat} (hr : w.ownsRow base 3 1 (.slice (some ⟨g, 0, none⟩) r.length c) r.length (intC r)) (hF : F.ownBlock ≠ some g) (hv : ∀ v ∈ rv, v.ownBlock ≠ some g)
  (ho : w'.ownsRow base 33 1 X' (t.nx.length + 1) (rv ++ [.slice (some ⟨g, 0, none⟩) r.length c])) (hg : w.grownBy w' X.ownBlock) : TbW w' base A F X' ⟨t.acts, t.fl, t.nx ++ [r]⟩ (rv ++ [.slice (some ⟨g, 0, none⟩) r.length c]) := by
 have hty : ∀ {e n : Nat} {v : Value} {xs : List Value}, w.ownsRow base e 1 v n xs → e ≠ 33 → ∀ b, X.ownBlock = some b → v.ownBlock ≠ some b := fun {e n v xs} k hne b hb e1 => by
  obtain ⟨c, hc⟩ := own_at h.nx hb
  exact own_ty k e1 hc (fun e => hne e.symm)
 have hl := h.rl
 refine ⟨owns_other h.acts hg (hty h.acts (by decide)), owns_other h.fl hg (hty h.fl (by decide)), ?_, fun j q hq => ?_, fun v hv' => ?_, ?_⟩
 ·show w'.ownsRow base _ 1 X' (t.nx ++ [r]).length _
  rw [List.length_append]
  exact ho
 ·rcases Nat.lt_or_ge j t.nx.length with hj | hj
  ·rw [List.getElem?_append_left hj] at hq
   obtain ⟨g2, c2, h1, h2⟩ := h.rows j q hq
   exact ⟨g2, c2, by rw [List.getElem?_append_left (by omega)]; exact h1, owns_other h2 hg (hty h2 (by decide))⟩
  ·rw [List.getElem?_append_right hj] at hq
   have hj0 : j - t.nx.length = 0 := by
    have := (List.getElem?_eq_some_iff.1 hq).1
    simp at this
    omega
   rw [hj0] at hq
   have hqr : r = q := by simpa using hq
   subst hqr
   refine ⟨g, c, ?_, owns_other hr hg (hty hr (by decide))⟩
   rw [List.getElem?_append_right (by omega), hl, hj0]
   rfl
 ·rcases List.mem_append.1 hv' with h1 | h1
  ·exact h.rf v h1
  ·rw [List.mem_singleton.1 h1]
   exact fun e => hF e.symm
 ·rw [List.pairwise_append]
  refine ⟨h.rr, by simp, fun a ha b hb => ?_⟩
  rw [List.mem_singleton.1 hb]
  exact hv a ha
theorem TbW.read {w : World} {base : Nat} {ao fo no : Option Addr} {na ac nf fc nn nc : Nat} {t : Tb} {rv : List Value} (h : TbW w base (.slice ao na ac) (.slice fo nf fc) (.slice no nn nc) t rv) (hl : t.acts.length ≤ 1000 ∧ t.nx.length ≤ 1000 ∧ t.fl.length ≤ 1000 ∧ ∀ r ∈ t.nx, r.length ≤ 1000) : TbI w ao fo no ac t.z ∧ na = t.acts.length ∧ nf = t.fl.length ∧ nn = t.nx.length := by
 have len : ∀ {e n k c : Nat} {o : Option Addr} {xs : List Value}, w.ownsRow base e 1 (.slice o n c) k xs → n = k ∧ k ≤ c := fun {e n k c o xs} ho => by
  obtain ⟨_, ⟨hv, hn⟩ | ⟨g, cap, cur, hv, _, _, hle, _⟩⟩ := ho
  ·cases hv; exact ⟨hn.symm, by omega⟩
  ·cases hv; exact ⟨rfl, hle⟩
 obtain ⟨e1, k1⟩ := len h.acts
 obtain ⟨e2, _⟩ := len h.fl
 obtain ⟨e3, _⟩ := len h.nx
 subst e1; subst e2; subst e3
 refine ⟨⟨fun j x hx => ?_, fun j x hx => ?_, fun j r hr => ?_, k1, ?_, ?_, ?_, fun r hr => ?_⟩, rfl, rfl, rfl⟩
 ·have hx' : t.acts[j]? = some x := hx
  have hj := (List.getElem?_eq_some_iff.1 hx').1
  obtain ⟨g, h1, h2, h3⟩ := owns1_at h.acts hj
  exact ⟨g, 0, h1, h2, by rw [Nat.zero_add, h3]; unfold strsC; rw [List.getElem?_map, hx']; rfl⟩
 ·have hx' : (zI t.fl)[j]? = some x := hx
  unfold zI at hx'
  rw [List.getElem?_map] at hx'
  cases e : t.fl[j]? with
  | none => rw [e] at hx'; cases hx'
  | some f =>
   rw [e] at hx'
   have hf : (f : Int) = x := Option.some.inj hx'
   have hj := (List.getElem?_eq_some_iff.1 e).1
   obtain ⟨g, h1, h2, h3⟩ := owns1_at h.fl hj
   exact ⟨g, 0, h1, h2, by rw [Nat.zero_add, h3, ← hf]; unfold intC; rw [List.getElem?_map, e]; rfl⟩
 ·have hr' : (t.nx.map zI)[j]? = some r := hr
  rw [List.getElem?_map] at hr'
  cases e : t.nx[j]? with
  | none => rw [e] at hr'; cases hr'
  | some q =>
   rw [e] at hr'
   have hq : zI q = r := Option.some.inj hr'
   subst hq
   have hj := (List.getElem?_eq_some_iff.1 e).1
   obtain ⟨g, h1, h2, h3⟩ := owns1_at h.nx hj
   obtain ⟨g2, c2, h4, h5⟩ := h.rows j q e
   refine ⟨g, 0, some ⟨g2, 0, none⟩, c2, h1, h2, by rw [Nat.zero_add, h3, h4]; unfold zI; rw [List.length_map], fun i x hx => ?_⟩
   unfold zI at hx
   rw [List.getElem?_map] at hx
   cases e2 : q[i]? with
   | none => rw [e2] at hx; cases hx
   | some y =>
    rw [e2] at hx
    have hy : (y : Int) = x := Option.some.inj hx
    obtain ⟨g3, k1, k2, k3⟩ := owns1_at h5 (List.getElem?_eq_some_iff.1 e2).1
    cases k1
    exact ⟨g2, 0, rfl, k2, by rw [Nat.zero_add, k3, ← hy]; unfold intC; rw [List.getElem?_map, e2]; rfl⟩
 ·have := hl.1; show t.acts.length ≤ _; omega
 ·show (zI t.fl).length ≤ _; unfold zI; rw [List.length_map]; have := hl.2.2.1; omega
 ·show (t.nx.map zI).length ≤ _; rw [List.length_map]; have := hl.2.1; omega
 ·have hr' : r ∈ t.nx.map zI := hr
  obtain ⟨q, hq, rfl⟩ := List.mem_map.1 hr'
  have := hl.2.2.2 q hq
  unfold zI
  rw [List.length_map]
  omega
structure TR (w W : World) (rb tb : Nat) (A F X : Value) (t : Tb) (rv : List Value) (l : List UInt8) : Prop where
 res : W.heap[w.heap.size]? = some (.cells #[.slice none 0 0, .slice none 0 0, .slice none 0 0] 36 (0, 0))
 blk : W.heap[tb]? = some (.cells #[A, F, X] 36 (0, 0))
 htb : w.heap.size < tb
 hrb : rb < w.heap.size
 rd : RdA W rb l
 gr : w.grownBy W (some rb)
 tab : TbW W w.heap.size A F X t rv
theorem RdF.tabs {w W : World} {rb : Nat} {l : List UInt8} {base : Nat} {A F X : Value} {t : Tb} {rv : List Value} (hf : RdF rb l w W) (h : TbW w base A F X t rv) {l0 : List UInt8} (h0 : RdA w rb l0) : TbW W base A F X t rv :=
 h.other hf.gr fun b hb c m => by
  cases hb
  obtain ⟨s, _, hs⟩ := h0
  rw [hs]
  refine ⟨?_, ?_, ?_⟩ <;> (intro e; injection e with e; injection e with _ e _; revert e; decide)
theorem TR.read {w W W' : World} {rb tb : Nat} {A F X : Value} {t : Tb} {rv : List Value} {l l' : List UInt8} (h : TR w W rb tb A F X t rv l) (hf : RdF rb l' W W') : TR w W' rb tb A F X t rv l' :=
 ⟨(hf.gr.block _ (lt_of_blk h.res) (fun e => by cases e; have := h.hrb; omega)).trans h.res, (hf.gr.block _ (lt_of_blk h.blk) (fun e => by cases e; have := h.hrb; have := h.htb; omega)).trans h.blk, h.htb, h.hrb, hf.at', h.gr.trans hf.gr, hf.tabs h.tab h.rd⟩
theorem TR.later {w W W' : World} {rb tb : Nat} {A F X : Value} {t : Tb} {rv : List Value} {l : List UInt8} (h : TR w W rb tb A F X t rv l) (hb : Below W.heap.size W W') : TR w W' rb tb A F X t rv l :=
 ⟨(hb.block _ (lt_of_blk h.res)).trans h.res, (hb.block _ (lt_of_blk h.blk)).trans h.blk, h.htb, h.hrb, h.rd.later hb, h.gr.trans (grown_below hb _), h.tab.later hb⟩
theorem TR.grow {w W W' : World} {rb tb : Nat} {A F X A' F' X' V : Value} {t t' : Tb} {rv rv' : List Value} {l : List UInt8} (h : TR w W rb tb A F X t rv l) {e n : Nat} {xs : List Value} (hV : W.ownsRow w.heap.size e 1 V n xs) (hg : W.grownBy W' V.ownBlock) (he : e = 9 ∨ e = 3 ∨ e = 33)
  (ht : TbW W' w.heap.size A' F' X' t' rv') (i : Nat) (v : Value) (hc : (#[A, F, X] : Array Value).setIfInBounds i v = #[A', F', X']) : TR w (W'.setCell ⟨tb, i, none⟩ v) rb tb A' F' X' t' rv' l := by
 have hty : ∀ {b ty : Nat} {c : Array Value}, W.heap[b]? = some (.cells c ty (0, 0)) → ty ≠ 9 ∧ ty ≠ 3 ∧ ty ≠ 33 → some b ≠ V.ownBlock := fun {b ty c} hb hne e1 => by
  rcases he with rfl | rfl | rfl
  ·exact own_ty hV e1.symm hb hne.1
  ·exact own_ty hV e1.symm hb hne.2.1
  ·exact own_ty hV e1.symm hb hne.2.2
 have hres := (hg.block _ (lt_of_blk h.res) (hty h.res (by decide))).trans h.res
 have hblk := (hg.block _ (lt_of_blk h.blk) (hty h.blk (by decide))).trans h.blk
 have hrd : RdA W' rb l := by
  obtain ⟨s, h1, h2⟩ := h.rd
  exact ⟨s, h1, (hg.block _ (lt_of_blk h2) (hty h2 (by decide))).trans h2⟩
 have hne : w.heap.size ≠ tb := by have := h.htb; omega
 refine ⟨(Below.heap_setCell _ _ _ _ hne).trans hres, ?_, h.htb, h.hrb, ?_, ?_, ?_⟩
 ·have := blk_set hblk i v
  rw [hc] at this
  exact this
 ·exact hrd.keep (grown_set _ _ _ _) (fun e => by cases e; have := h.hrb; have := h.htb; omega)
 ·refine ⟨hg.os.trans h.gr.os, hg.tape.trans h.gr.tape, hg.output.trans h.gr.output, ?_, fun k hk hk2 => ?_⟩
  ·have := h.gr.size; have := hg.size; simp [World.setCell]; omega
  ·refine (Below.heap_setCell _ _ _ _ (by show k ≠ tb; have := h.htb; omega)).trans ((hg.block k (Nat.lt_of_lt_of_le hk h.gr.size) (fun e => ?_)).trans (h.gr.block k hk hk2))
   have := (own_lt hV k e.symm).1
   omega
 ·refine ht.other (grown_set _ _ _ _) (fun b hb c m => ?_)
  cases hb
  rw [hblk]
  refine ⟨?_, ?_, ?_⟩ <;> (intro e; injection e with e; injection e with _ e _; revert e; decide)
end Go.Proofs.YtidakhhekofkoaaGreatDoor
