/- Formulas of the reference in memory; the reference's parser of formulas. -/
import Derived.Test.YtoclbcffbhldmaaGreatDoorR1
namespace Go.Proofs.YtoclbcffbhldmaaGreatDoor
open Go.RowKit Go.Deep

/-- The reference's letter of a kind of formulas. -/
def refO (k : Nat) : Int := if k = 0 then 97 else if k = 1 then 116 else if k = 2 then 102 else if k = 3 then 101 else if k = 4 then 33 else if k = 5 then 88 else if k = 6 then 78 else if k = 7 then 70 else if k = 8 then 71 else if k = 9 then 85 else if k = 10 then 38 else if k = 11 then 124 else 62

/-- p leads to the formula f, in memory. -/
def IsF (w : World) : Fm → Option Addr → Prop
  | .nil, p => p = none
  | .node _ _ a l r, p => ∃ b pl pr, p = some ⟨b, 0, none⟩ ∧ w.heap[b]? = some (.cells #[.int .u8 (refO a.1), .string a.2.1, .int .i64 a.2.2, .pointer pl, .pointer pr] 175 (0, 0)) ∧ IsF w l pl ∧ IsF w r pr

/-- A formula stays where it is while only blocks of another type, or new ones, are written. -/
theorem IsF.keep {w w' : World} {row : Option Nat} (hg : w.grownBy w' row) (hr : ∀ k c m, row = some k → w.heap[k]? ≠ some (.cells c 175 m)) : ∀ {f : Fm} {v : Option Addr}, IsF w f v → IsF w' f v
  | .nil, _, h => h
  | .node _ _ _ _ _, _, ⟨b, vl, vr, hv, hb, hl, hr'⟩ => ⟨b, vl, vr, hv, (hg.block b (lt_of_blk hb) (fun e => hr b _ _ e.symm hb)).trans hb, IsF.keep hg hr hl, IsF.keep hg hr hr'⟩
theorem IsF.keepP {w w' : World} {pb g cap : Nat} {L : List Tk} {i : Nat} {bad : Bool} (h : PS w pb g cap L i bad) (hg : w.grownBy w' (some pb)) {f : Fm} {v : Option Addr} (hf : IsF w f v) : IsF w' f v :=
  hf.keep hg (fun k c m e => by cases e; rw [h.blk]; simp)
theorem IsF.later {w w' : World} (hb : Below w.heap.size w w') {f : Fm} {v : Option Addr} (hf : IsF w f v) : IsF w' f v :=
  hf.keep (grown_below hb none) (fun k c m e => by cases e)

set_option maxHeartbeats 400000 in
theorem two_any (k : Nat) (c : Int) (f g : Fm) (vf vg : Option Addr) (w : World) (hf : IsF w f vf) (hg : IsF w g vg) (hc : c = refO k) :
    Calls Tryz.prog 149 #[.int .u8 c, .pointer vf, .pointer vg] w fun e w' => ∃ v, e = .returned (.pointer v) ∧ IsF w' (two k f g) v ∧ Below w.heap.size w w' := by
  subst hc
  have HF := hide hf
  have HG := hide hg
  clear hf hg
  go_enter Tryz.func149, Tryz.ntmps149
  go_wp2
  go_ret
  have hb : Below w.heap.size w (w.alloc (.cells #[.int .u8 (refO k), .string ⟨#[]⟩, .int .i64 0, .pointer vf, .pointer vg] 175)) := (Below.refl _ _).alloc (Nat.le_refl _) _
  exact ⟨_, rfl, ⟨w.heap.size, vf, vg, rfl, blk_alloc _ _, (unhide HF).later hb, (unhide HG).later hb⟩, hb⟩

/-- What a reader of formulas leaves: the formula and the parser behind it, or the parser failed at the token that fits nowhere. -/
def Left (L : List Tk) (pb g cap : Nat) (w w' : World) (e : Ending) (x : Rd) : Prop :=
  w.grownBy w' (some pb) ∧ ∃ p, e = .returned (.pointer p) ∧ (match x with
    | .ok (f, l) => IsF w' f p ∧ ∃ i, L.drop i = l ∧ PS w' pb g cap L i false
    | .error q => ∃ i, headP (L.drop i) = q ∧ PS w' pb g cap L i true)
/-- What it leaves where the parser has failed already. -/
def Lost (L : List Tk) (pb g cap i : Nat) (w w' : World) (e : Ending) : Prop :=
  w.grownBy w' (some pb) ∧ ∃ p, e = .returned (.pointer p) ∧ PS w' pb g cap L i true

set_option maxHeartbeats 400000 in
theorem unary_lost (w : World) (pb g cap : Nat) (L : List Tk) (i : Nat) (h : PS w pb g cap L i true) :
    Calls Tryz.prog 207 #[.pointer (some ⟨pb, 0, none⟩)] w fun e w' => Lost L pb g cap i w w' e := by
  obtain ⟨c0, c1, c2⟩ := h.cells
  have HP := hide h
  clear h
  go_enter Tryz.func207, Tryz.ntmps207
  go_wp2
  go_ret
  exact ⟨grown_alloc (World.grownBy.refl _ _) _, _, rfl, (unhide HP).alloc _⟩

theorem drop_ne {L : List Tk} {i : Nat} (h : i < L.length) : ∃ t r, L.drop i = t :: r := by
  cases hd : L.drop i with
  | nil => have := congrArg List.length hd; simp at this; omega
  | cons t r => exact ⟨t, r, rfl⟩

set_option maxHeartbeats 400000 in
theorem until_lost (w : World) (pb g cap : Nat) (L : List Tk) (i : Nat) (h : PS w pb g cap L i true) :
    Calls Tryz.prog 205 #[.pointer (some ⟨pb, 0, none⟩)] w fun e w' => Lost L pb g cap i w w' e := by
  obtain ⟨t, r, ht⟩ := drop_ne h.lt
  have HP := hide h
  have HT := hide ht
  clear h ht
  go_enter Tryz.func205, Tryz.ntmps205
  go_wp2_with (go_at_call 207; refine (unary_lost _ _ _ _ _ _ (unhide HP)).mono ?_)
  rintro e w1 ⟨hg1, p, rfl, hp1⟩
  have HP1 := hide hp1
  have HG1 := hide hg1
  clear hp1 hg1
  go_wp2_with (go_at_call 144; refine (take_no _ 13 _ _ _ _ _ _ _ _ _ (unhide HP1) (unhide HT) rfl (by decide) (by decide) (Or.inl rfl)).mono ?_)
  rintro e w2 ⟨rfl, hp2, hg2⟩
  have HP2 := hide hp2
  have HG2 := hide hg2
  clear hp2 hg2
  go_wp2_with fail
  go_ret
  exact ⟨(unhide HG1).trans (unhide HG2), _, rfl, unhide HP2⟩
end Go.Proofs.YtoclbcffbhldmaaGreatDoor
