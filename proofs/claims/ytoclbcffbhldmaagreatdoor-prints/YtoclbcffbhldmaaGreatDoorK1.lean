/- The program's checker: contains, tell, checkLength, checkKnown. -/
import Derived.Test.YtoclbcffbhldmaaGreatDoorQ69
import Derived.BigQuiet
set_option linter.unusedSimpArgs false
namespace Go.Proofs.YtoclbcffbhldmaaGreatDoor
open Go.RowKit Go.Deep

def strC (A : List Tk) : List Value := A.map (fun t => .string t.s)
theorem strC_snoc (A : List Tk) (t : Tk) : strC (A ++ [t]) = strC A ++ [.string t.s] := by simp [strC]
theorem strC_at {A : List Tk} {k : Nat} {t : Tk} {r : List Tk} (h : A.drop k = t :: r) : (strC A)[k]? = some (.string t.s) := by
  unfold strC
  rw [List.getElem?_map]
  have : A[k]? = some t := by
    have := congrArg (fun l => l[0]?) h
    simpa using this
  rw [this]; rfl
/-- A row of strings: its cells. -/
theorem row_str {w : World} {B : Nat} {v : Value} {A : List Tk} (h : w.ownsRow B 9 1 v A.length (strC A)) : (v = .slice none 0 0 ∧ A = []) ∨ ∃ g cap, v = .slice (some ⟨g, 0, none⟩) A.length cap ∧ g < w.heap.size ∧ A.length ≤ cap ∧ cap ≤ maxLen ∧ ∀ k t r, A.drop k = t :: r → w.cell? ⟨g, k, none⟩ = some (.string t.s) := by
  obtain ⟨_, h2 | ⟨g, cap, cur, hv, _, hh, hle, hcap, _, htake⟩⟩ := h
  · exact Or.inl ⟨h2.1, List.length_eq_zero_iff.1 h2.2⟩
  · refine Or.inr ⟨g, cap, hv, lt_of_blk hh, hle, hcap, fun k t r hk => ?_⟩
    have hj : k < A.length := by
      rcases Nat.lt_or_ge k A.length with h | h
      · exact h
      · rw [List.drop_eq_nil_of_le h] at hk; cases hk
    have := strC_at hk
    rw [← htake, List.getElem?_take, if_pos (by omega)] at this
    rw [cell_of_blk hh, ← Array.getElem?_toList]
    exact this

theorem hasN_at {A : List Tk} {s : ByteArray} {k : Nat} {t : Tk} {r : List Tk} (h : A.drop k = t :: r) : hasN (A.drop k) s = if t.s.toList = s.toList then true else hasN (A.drop (k + 1)) s := by
  rw [h, dropTl h, hasN]

set_option maxHeartbeats 1000000 in
theorem index_any (A : List Tk) (s : ByteArray) (v : Value) (B : Nat) (w : World) (h : w.ownsRow B 9 1 v A.length (strC A)) :
    Calls Tryz.prog 115 #[v, .string s] w fun e w' => ∃ z : Int, e = .returned (.int .i64 z) ∧ decide (0 ≤ z) = hasN A s ∧ w' = w := by
  rcases row_str h with ⟨rfl, rfl⟩ | ⟨g, cap, rfl, hg, hle, hcap, hc⟩
  · clear h
    go_enter Tryz.func115, Tryz.ntmps115
    go_wp2_with fail
    go_loop [8] (fun x => x = .int .i64 0) (fun x => 0)
    case atStart => rfl
    case round =>
      subst hrel
      go_wp2_with fail
      go_ret
      exact ⟨-1, rfl, rfl, rfl⟩
  · unfold maxLen at hcap
    have HC := hide hc
    clear h hc
    go_enter Tryz.func115, Tryz.ntmps115
    go_wp2_with fail
    go_loop [8] (fun x => ∃ k : Nat, k ≤ A.length ∧ x = .int .i64 (k : Int) ∧ Hid (hasN A s = hasN (A.drop k) s)) (fun x => A.length - (intOf x).toNat)
    case atStart => exact ⟨0, Nat.zero_le _, rfl, rfl⟩
    case round =>
      obtain ⟨k, hk, rfl, H⟩ := hrel
      by_cases hlt : k < A.length
      · obtain ⟨t, r, ht⟩ : ∃ t r, A.drop k = t :: r := by
          cases hd : A.drop k with
          | nil => have := congrArg List.length hd; simp at this; omega
          | cons t r => exact ⟨t, r, rfl⟩
        have hc := unhide HC k t r ht
        have HA := hide (hasN_at (s := s) ht)
        clear ht
        go_wp2_with fail
        · have he : t.s.toList = s.toList := by simp_all
          go_ret
          exact ⟨k, rfl, by rw [H.out, unhide HA, if_pos he]; simp, rfl⟩
        · have he : ¬ t.s.toList = s.toList := by intro e; simp_all
          go_round
          case rel => exact ⟨k + 1, by omega, by go_num, by show _ = _; rw [H.out, unhide HA, if_neg he]⟩
          case measure => simp [intOf]; omega
      · go_wp2_with fail
        go_ret
        refine ⟨-1, rfl, ?_, rfl⟩
        rw [H.out, List.drop_eq_nil_of_le (by omega)]; rfl
set_option maxHeartbeats 1000000 in
theorem contains_any (A : List Tk) (s : ByteArray) (v : Value) (B : Nat) (w : World) (h : w.ownsRow B 9 1 v A.length (strC A)) :
    Calls Tryz.prog 88 #[v, .string s] w fun e w' => e = .returned (.bool (hasN A s)) ∧ w' = w := by
  have HI := hide (index_any A s v B w h)
  clear h
  go_enter Tryz.func88, Tryz.ntmps88
  go_wp2_with fail
  refine (unhide HI).mono ?_
  rintro e w1 ⟨z, rfl, hz, rfl⟩
  have HZ := hide hz
  clear hz
  go_wp2_with fail
  go_ret
  exact ⟨ret_bool (unhide HZ), rfl⟩

/-- The checker lies at block cb: the activities so far, the fault so far. -/
structure CK (w : World) (cb B : Nat) (A : List Tk) (x : Nat × Nat) : Prop where
  blk : ∃ ao an ac, w.heap[cb]? = some (.cells #[.slice ao an ac, .int .i64 x.1, .int .i64 x.2] 198 (0, 0)) ∧ w.ownsRow B 9 1 (.slice ao an ac) A.length (strC A)
  hB : B ≤ cb
theorem CK.lt {w : World} {cb B : Nat} {A : List Tk} {x : Nat × Nat} (h : CK w cb B A x) : cb < w.heap.size := by
  obtain ⟨_, _, _, h1, _⟩ := h.blk; exact lt_of_blk h1
theorem CK.later {w w' : World} {cb B : Nat} {A : List Tk} {x : Nat × Nat} (h : CK w cb B A x) (hb : Below w.heap.size w w') : CK w' cb B A x := by
  obtain ⟨ao, an, ac, h1, h2⟩ := h.blk
  exact ⟨⟨ao, an, ac, (hb.block _ (lt_of_blk h1)).trans h1, owns_later h2 hb⟩, h.hB⟩
theorem CK.alloc {w : World} {cb B : Nat} {A : List Tk} {x : Nat × Nat} (h : CK w cb B A x) (o : Obj) : CK (w.alloc o) cb B A x := h.later ((Below.refl _ _).alloc (Nat.le_refl _) _)
/-- What the checker may write: its block, and rows of strings from block B on. -/
structure CF (cb B : Nat) (w w' : World) : Prop where
  os : w'.os = w.os
  tape : w'.tape = w.tape
  output : w'.output = w.output
  size : w.heap.size ≤ w'.heap.size
  keep : ∀ k, k < w.heap.size → k ≠ cb → (k < B ∨ ¬ TyAt w k 9) → w'.heap[k]? = w.heap[k]?
theorem CF.refl (cb B : Nat) (w : World) : CF cb B w w := ⟨rfl, rfl, rfl, Nat.le_refl _, fun _ _ _ _ => rfl⟩
theorem CF.trans {cb B : Nat} {w w1 w2 : World} (h : CF cb B w w1) (h' : CF cb B w1 w2) : CF cb B w w2 :=
  ⟨h'.os.trans h.os, h'.tape.trans h.tape, h'.output.trans h.output, Nat.le_trans h.size h'.size, fun k hk hp hc => by
    have e := h.keep k hk hp hc
    refine (h'.keep k (Nat.lt_of_lt_of_le hk h.size) hp ?_).trans e
    rcases hc with hc | hc
    · exact Or.inl hc
    · refine Or.inr ?_
      rintro ⟨c, m, hh⟩
      exact hc ⟨c, m, by rw [← e]; exact hh⟩⟩
theorem CF.grown {cb B : Nat} {w w' : World} (h : w.grownBy w' (some cb)) : CF cb B w w' := ⟨h.os, h.tape, h.output, h.size, fun k hk hp _ => h.block k hk (by intro e; cases e; exact hp rfl)⟩
theorem CF.below {cb B : Nat} {w w' : World} (h : Below w.heap.size w w') : CF cb B w w' := CF.grown (grown_below h _)
theorem CF.row {cb B : Nat} {w w' : World} {v : Value} {n : Nat} {xs : List Value} (hown : w.ownsRow B 9 1 v n xs) (h : w.grownBy w' v.ownBlock) : CF cb B w w' :=
  ⟨h.os, h.tape, h.output, h.size, fun k hk _ hc => h.block k hk (by
    intro e
    have := own_is hown e.symm
    rcases hc with hc | hc
    · omega
    · exact hc this.2)⟩
theorem CF.low {cb B : Nat} {w w' : World} (h : CF cb B w w') (hc : B ≤ cb) (hB : B ≤ w.heap.size) : Below B w w' := ⟨h.os, h.tape, h.output, h.size, fun k hk => h.keep k (by omega) (by omega) (Or.inl hk)⟩

theorem CK.told {w w' : World} {cb B : Nat} {A : List Tk} {x y : Nat × Nat} (h : CK w cb B A x) (hg : w.grownBy w' (some cb)) (hb : ∀ ao an ac, w.heap[cb]? = some (.cells #[.slice ao an ac, .int .i64 x.1, .int .i64 x.2] 198 (0, 0)) → w'.heap[cb]? = some (.cells #[.slice ao an ac, .int .i64 y.1, .int .i64 y.2] 198 (0, 0))) : CK w' cb B A y := by
  obtain ⟨ao, an, ac, h1, h2⟩ := h.blk
  exact ⟨⟨ao, an, ac, hb _ _ _ h1, owns_keep h2 hg (Or.inr (fun e => own_ty h2 e h1 (by decide)))⟩, h.hB⟩

set_option maxHeartbeats 1000000 in
theorem tell_any (w : World) (cb B : Nat) (A : List Tk) (x : Nat × Nat) (p e : Nat) (h : CK w cb B A x) :
    Calls Tryz.prog 133 #[.pointer (some ⟨cb, 0, none⟩), .int .i64 (p : Int), .int .i64 (e : Int)] w fun r w' => r = .returned (.tuple #[]) ∧ CK w' cb B A (tell x p e) ∧ w.grownBy w' (some cb) := by
  obtain ⟨ao, an, ac, h1, _⟩ := h.blk
  have bc := fun o => cell_of_blk h1 o
  have bf := fun o => frozen_of_blk h1 o
  have hlt := h.lt
  have HC := hide h
  clear h h1
  by_cases h0 : x.2 = 0
  · have e0 : ((x.2 : Int) == 0) = true := beqT (c := 0) h0
    have HT : Hid (tell x p e = (p, e)) := if_pos (Or.inl h0)
    clear h0
    go_enter Tryz.func133, Tryz.ntmps133
    go_wp2_with fail
    go_end0
    rw [unhide HT]
    exact ⟨rfl, (unhide HC).told ((grown_set _ _ _ _).trans (grown_set _ _ _ _)) (fun _ _ _ h => blk_set (blk_set h 1 _) 2 _), (grown_set _ _ _ _).trans (grown_set _ _ _ _)⟩
  · have e0 : ((x.2 : Int) == 0) = false := beqF (c := 0) h0
    by_cases hp : p < x.1
    · have hp' : (p : Int) < (x.1 : Int) := by omega
      have HT : Hid (tell x p e = (p, e)) := if_pos (Or.inr hp)
      clear h0 hp
      go_enter Tryz.func133, Tryz.ntmps133
      go_wp2_with fail
      go_end0
      rw [unhide HT]
      exact ⟨rfl, (unhide HC).told ((grown_set _ _ _ _).trans (grown_set _ _ _ _)) (fun _ _ _ h => blk_set (blk_set h 1 _) 2 _), (grown_set _ _ _ _).trans (grown_set _ _ _ _)⟩
    · have hp' : ¬ (p : Int) < (x.1 : Int) := by omega
      have HT : Hid (tell x p e = x) := if_neg (by omega)
      clear h0 hp
      go_enter Tryz.func133, Tryz.ntmps133
      go_wp2_with fail
      go_end0
      rw [unhide HT]
      exact ⟨rfl, unhide HC, World.grownBy.refl _ _⟩

theorem tells_one (x : Nat × Nat) (p e : Nat) : tells x [(p, e)] = tell x p e := rfl
theorem tells_nil (x : Nat × Nat) : tells x [] = x := rfl

set_option maxHeartbeats 1000000 in
theorem checkLength_any (w : World) (cb B : Nat) (A : List Tk) (x : Nat × Nat) (t : Tk) (h : CK w cb B A x) :
    Calls Tryz.prog 132 #[.pointer (some ⟨cb, 0, none⟩), tkP t] w fun r w' => r = .returned (.tuple #[]) ∧ CK w' cb B A (tells x (fLong t)) ∧ CF cb B w w' := by
  have HC := hide h
  clear h
  unfold tkP
  by_cases hl : 8 < t.s.size
  · have hl' : (8 : Int) < (t.s.size : Int) := by omega
    have HT : Hid (tells x (fLong t) = tell x t.p 1) := by show _ = _; unfold fLong; rw [if_pos hl]; rfl
    clear hl
    go_enter Tryz.func132, Tryz.ntmps132
    go_wp2_with fail
    refine (tell_any _ cb B A x t.p 1 ((unhide HC).alloc _)).mono ?_
    rintro e w1 ⟨rfl, hc1, hg1⟩
    have HC1 := hide hc1
    have HG1 := hide hg1
    clear hc1 hg1
    go_wp2_with fail
    go_end0
    rw [unhide HT]
    exact ⟨rfl, unhide HC1, (CF.below ((Below.refl _ _).alloc (Nat.le_refl _) _)).trans (CF.grown (unhide HG1))⟩
  · have hl' : ¬ (8 : Int) < (t.s.size : Int) := by omega
    have HT : Hid (tells x (fLong t) = x) := by show _ = _; unfold fLong; rw [if_neg hl]; rfl
    clear hl
    go_enter Tryz.func132, Tryz.ntmps132
    go_wp2_with fail
    go_end0
    rw [unhide HT]
    exact ⟨rfl, (unhide HC).alloc _, CF.below ((Below.refl _ _).alloc (Nat.le_refl _) _)⟩
end Go.Proofs.YtoclbcffbhldmaaGreatDoor
