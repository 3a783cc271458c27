/- The reference's at, of any part; its Keeps. -/
import Derived.Test.YtidakhhekofkoaaGreatDoorG28
import Derived.Test.YtidakhhekofkoaaGreatDoorG21
import Derived.Test.YtidakhhekofkoaaGreatDoorG20
import Derived.Test.YtidakhhekofkoaaGreatDoorG23
import Derived.Test.YtidakhhekofkoaaGreatDoorG16
import Derived.Deep.DeepCutAuto
import Derived.BigQuiet
import Derived.Deep.RegionHeld
set_option linter.unusedSimpArgs false
set_option linter.unusedVariables false
open List renaming setIfInBounds_toArray → zA, set_cons_zero → zB, set_cons_succ → zC, getElem_toArray → zD, getElem_cons_succ → zE, getElem_cons_zero → zF
namespace Go.Proofs.YtidakhhekofkoaaGreatDoor
open Go.RowKit Go.Deep
def zT (ns : List Int) (t : Int) (i : Nat) : Bool := match i with
 | 0 => false
 | j + 1 => match ns[j]? with
  | some x => x == t
  | none => false
def NdGood (m : Nat) (d : Nd) : Prop := (d.k ≤ 3 ∧ d.a = -1 ∧ d.b = -1) ∨ (4 ≤ d.k ∧ d.k ≤ 8 ∧ (∃ a : Nat, d.a = (a : Int) ∧ a < m) ∧ d.b = -1) ∨ (9 ≤ d.k ∧ d.k ≤ 12 ∧ (∃ a : Nat, d.a = (a : Int) ∧ a < m) ∧ ∃ b : Nat, d.b = (b : Int) ∧ b < m)
def AllGood (L : List Nd) : Prop := ∀ k d, L[k]? = some d → NdGood k d
theorem addN_top (al : List Tk) {f : Fm} (hf : f ≠ .nil) (L : List Nd) : (addN al f L).2 = ((addN al f L).1.length : Int) - 1 := by
 cases f with
 | nil => exact absurd rfl hf
 | node u v a l r => rw [addN]; show ((addN al r (addN al l L).1).1.length : Int) = _; simp
theorem Fg.ne {Q : Tk → Prop} {f : Fm} (h : Fg Q f) : f ≠ .nil := by
 intro e; subst e; exact h
theorem addN_good (Q : Tk → Prop) (al : List Tk) : ∀ (f : Fm) (L : List Nd), (f = .nil ∨ Fg Q f) → AllGood L → AllGood (addN al f L).1
 | .nil, L, _, h => h
 | .node u v a l r, L, hf, h => by
  have hfg : Fg Q (.node u v a l r) := by rcases hf with h | h; cases h; exact h
  have hfl : l = .nil ∨ Fg Q l := by
   rcases hfg with ⟨_, _, h, _⟩ | ⟨_, h, _⟩ | ⟨_, h, _⟩ | ⟨_, h, _⟩
   ·exact Or.inl h
   ·exact Or.inl h
   ·exact Or.inr h
   ·exact Or.inr h
  have hfr : r = .nil ∨ Fg Q r := by
   rcases hfg with ⟨_, _, _, h⟩ | ⟨_, _, h⟩ | ⟨_, _, h⟩ | ⟨_, _, h⟩
   ·exact Or.inl h
   ·exact Or.inl h
   ·exact Or.inl h
   ·exact Or.inr h
  have h1 := addN_good Q al l L hfl h
  have h2 := addN_good Q al r (addN al l L).1 hfr h1
  have e1 := addN_len al l L
  have e2 := addN_len al r (addN al l L).1
  intro k d hd
  rw [addN] at hd
  replace hd : ((addN al r (addN al l L).1).1 ++ [(⟨a.1, (addN al l L).2, (addN al r (addN al l L).1).2, if a.1 = 0 then lastI a.2.1 0 al (-1) else -1⟩ : Nd)])[k]? = some d := hd
  rcases Nat.lt_trichotomy k (addN al r (addN al l L).1).1.length with hk | hk | hk
  ·rw [List.getElem?_append_left hk] at hd
   exact h2 k d hd
  ·rw [List.getElem?_append_right (by omega), show k - (addN al r (addN al l L).1).1.length = 0 by omega] at hd
   cases hd
   rcases hfg with ⟨hk0, _, rfl, rfl⟩ | ⟨hk0, rfl, rfl⟩ | ⟨hk0, hl, rfl⟩ | ⟨hk0, hl, hr⟩
   ·exact Or.inl ⟨by show a.1 ≤ 3; omega, rfl, rfl⟩
   ·exact Or.inl ⟨by show a.1 ≤ 3; omega, rfl, rfl⟩
   ·have := sizeF_pos' hl.ne
    exact Or.inr (Or.inl ⟨by show 4 ≤ a.1; omega, by show a.1 ≤ 8; omega, ⟨(addN al l L).1.length - 1, by show (addN al l L).2 = _; rw [addN_top al hl.ne]; omega, by omega⟩, rfl⟩)
   ·have := sizeF_pos' hl.ne
    have := sizeF_pos' hr.ne
    exact Or.inr (Or.inr ⟨by show 9 ≤ a.1; omega, by show a.1 ≤ 12; omega, ⟨(addN al l L).1.length - 1, by show (addN al l L).2 = _; rw [addN_top al hl.ne]; omega, by omega⟩, (addN al r (addN al l L).1).1.length - 1, by show (addN al r (addN al l L).1).2 = _; rw [addN_top al hr.ne]; omega, by omega⟩)
  ·rw [List.getElem?_eq_none (by rw [List.length_append]; simp; omega)] at hd; cases hd
theorem nodM_good (Q : Tk → Prop) (al : List Tk) : ∀ (rs : List Rl) (p : List Nd × List Int), (∀ r ∈ rs, Fg Q (ruleF r)) → AllGood p.1 → AllGood (nodM al rs p).1
 | [], p, _, h => h
 | r :: rs, p, hf, h => by
  rw [nodM]
  exact nodM_good Q al rs _ (fun r' hr' => hf r' (List.mem_cons_of_mem _ hr')) (addN_good Q al _ _ (Or.inr (hf r (List.mem_cons_self ..))) h)
theorem nodM_nonneg (Q : Tk → Prop) (al : List Tk) : ∀ (rs : List Rl) (p : List Nd × List Int), (∀ r ∈ rs, Fg Q (ruleF r)) → (∀ t ∈ p.2, 0 ≤ t) → ∀ t ∈ (nodM al rs p).2, 0 ≤ t
 | [], p, _, h => h
 | r :: rs, p, hf, h => by
  rw [nodM]
  refine nodM_nonneg Q al rs _ (fun r' hr' => hf r' (List.mem_cons_of_mem _ hr')) (fun t ht => ?_)
  rcases List.mem_append.1 ht with ht | ht
  ·exact h t ht
  ·rcases List.mem_singleton.1 ht with rfl
   have hne := (hf r (List.mem_cons_self ..)).ne
   rw [addN_top al hne]
   have := sizeF_pos' hne
   have := addN_len al (ruleF r) p.1
   omega
def RowsB (w : World) (n : Nat) (bel : Value) (R : List (Nat → Bool)) : Prop := ∃ bo bcap, bel = .slice bo R.length bcap ∧ ∀ i f, R[i]? = some f → ∃ bg ua um uc, bo = some ⟨bg, 0, none⟩ ∧ w.cell? ⟨bg, i, none⟩ = some (.slice (some ⟨ua, 0, none⟩) um uc) ∧ RowB w n f ua um uc
def TrB (w : World) (tt : Option Addr) (ns : List Int) : Prop := ∀ j x, ns[j]? = some x → ∃ tg, tt = some ⟨tg, 0, none⟩ ∧ tg < w.heap.size ∧ w.cell? ⟨tg, j, none⟩ = some (.int .i64 x)
theorem TrB.later {w w' : World} {tt : Option Addr} {ns : List Int} (h : TrB w tt ns) (hb : Below w.heap.size w w') : TrB w' tt ns := fun j x hx => by
 obtain ⟨tg, h1, h2, h3⟩ := h j x hx
 exact ⟨tg, h1, Nat.lt_of_lt_of_le h2 hb.size, (bcell3 hb _ _ h2).trans h3⟩
theorem rowAt_nat {R : List (Nat → Bool)} {k : Nat} {f : Nat → Bool} (h : R[k]? = some f) : rowAt R (k : Int) = f := by
 unfold rowAt
 rw [if_neg (by omega), Int.toNat_natCast, h]; rfl
theorem rowAt_neg (R : List (Nat → Bool)) : rowAt R (-1) = fun _ => true := if_pos (by decide)
set_option maxHeartbeats 2000000 in
theorem at_any (w : World) (nb k : Nat) (d : Nd) (ns : List Int) (j : Nat) (tt : Option Addr) (tc : Nat) (bel : Value) (R : List (Nat → Bool)) (hT : TrB w tt ns) (hB : RowsB w ns.length bel R) (hg : NdGood R.length d) (hN : NdAt w nb k (refO d.k) d.a d.b d.t) (hj : j ≤ ns.length) (hn : ns.length ≤ 10000000000000) :
  Calls Tryz.prog 180 #[.pointer (some ⟨nb, 0, none⟩), .int .i64 k, .int .i64 (j + 1 : Nat), .slice tt ns.length tc, bel] w fun e w' => e = .returned (.bool (valN ns.length (zT ns) R d (j + 1))) ∧ ∃ q, w' = w.drewN q := by
 obtain ⟨dk, da, db, dt⟩ := d
 have hrow : ∀ a : Nat, a < R.length → ∃ f bg bcap ua um uc, R[a]? = some f ∧ bel = .slice (some ⟨bg, 0, none⟩) R.length bcap ∧ w.cell? ⟨bg, a, none⟩ = some (.slice (some ⟨ua, 0, none⟩) um uc) ∧ RowB w ns.length f ua um uc := by
  intro a ha
  obtain ⟨bo, bcap, rfl, h⟩ := hB
  obtain ⟨bg, ua, um, uc, rfl, h2, h3⟩ := h a R[a] (List.getElem?_eq_getElem ha)
  exact ⟨_, bg, bcap, ua, um, uc, List.getElem?_eq_getElem ha, rfl, h2, h3⟩
 have hy : ∀ {y y' : Bool} {u v : Nat → Bool} {i n : Nat}, dk ≠ 0 → opV dk y u v i n = opV dk y' u v i n := fun h => opV_y h _ _ _ _ _ _
 rcases hg with ⟨h1, rfl, rfl⟩ | ⟨h1, h2, ⟨a, rfl, ha⟩, rfl⟩ | ⟨h1, h2, ⟨a, rfl, ha⟩, b, rfl, hb⟩
 ·replace h1 : dk ≤ 3 := h1
  have hv : valN ns.length (zT ns) R ⟨dk, -1, -1, dt⟩ (j + 1) = opV dk (zT ns dt (j + 1)) (fun _ => true) (fun _ => true) (j + 1) ns.length := by
   unfold valN; rw [rowAt_neg]
  rw [hv]
  have h : dk = 0 ∨ dk = 1 ∨ dk = 2 ∨ dk = 3 := by omega
  rcases h with rfl | rfl | rfl | rfl
  ·by_cases hjn : j < ns.length
   ·obtain ⟨tg, rfl, _, hc⟩ := hT j ns[j] (List.getElem?_eq_getElem hjn)
    refine (at_atom_in w nb k dt ns[j] j ns.length tg tc bel hjn hn hc hN).mono ?_
    rintro e w' ⟨rfl, h⟩
    refine ⟨?_, h⟩
    congr 2
    show _ = zT ns dt (j + 1)
    unfold zT
    simp only [List.getElem?_eq_getElem hjn]
   ·refine (at_atom_out w nb k dt j ns.length tt tc bel (by omega) (by omega) hN).mono ?_
    rintro e w' ⟨rfl, h⟩
    refine ⟨?_, h⟩
    congr 2
    show _ = zT ns dt (j + 1)
    unfold zT
    simp only [List.getElem?_eq_none (by omega : ns.length ≤ j)]
  ·exact at_true w nb k dt j ns.length tt tc bel hj hn hN
  ·exact at_false w nb k dt j ns.length tt tc bel hj hn hN
  ·exact at_end w nb k dt j ns.length tt tc bel hj hn hN
 ·replace h1 : 4 ≤ dk := h1
  replace h2 : dk ≤ 8 := h2
  obtain ⟨f, bg, bcap, ua, um, uc, hf, rfl, hc, hr⟩ := hrow a ha
  have hv : valN ns.length (zT ns) R ⟨dk, (a : Int), -1, dt⟩ (j + 1) = opV dk false f (fun _ => true) (j + 1) ns.length := by
   unfold valN; rw [rowAt_neg, rowAt_nat hf]; exact hy (by omega)
  rw [hv]
  have h : dk = 4 ∨ dk = 5 ∨ dk = 6 ∨ dk = 7 ∨ dk = 8 := by omega
  rcases h with rfl | rfl | rfl | rfl | rfl
  ·exact at_not w nb k dt j ns.length tt tc bg R.length bcap a ua uc f um hc ha hr hj hn hN
  ·exact at_next w nb k dt j ns.length tt tc bg R.length bcap a ua uc f um hc ha hr hj hn hN
  ·exact at_weak w nb k dt j ns.length tt tc bg R.length bcap a ua uc f um hc ha hr hj hn hN
  ·exact at_fin w nb k dt j ns.length tt tc bg R.length bcap a ua uc f um hc ha hr hj hn hN
  ·exact at_glob w nb k dt j ns.length tt tc bg R.length bcap a ua uc f um hc ha hr hj hn hN
 ·replace h1 : 9 ≤ dk := h1
  replace h2 : dk ≤ 12 := h2
  obtain ⟨f, bg, bcap, ua, um, uc, hf, rfl, hc, hr⟩ := hrow a ha
  obtain ⟨f', bg', bcap', va, vm, vc, hf', he, hc', hr'⟩ := hrow b hb
  cases he
  have hv : valN ns.length (zT ns) R ⟨dk, (a : Int), (b : Int), dt⟩ (j + 1) = opV dk false f f' (j + 1) ns.length := by
   unfold valN; rw [rowAt_nat hf', rowAt_nat hf]; exact hy (by omega)
  rw [hv]
  have h : dk = 9 ∨ dk = 10 ∨ dk = 11 ∨ dk = 12 := by omega
  rcases h with rfl | rfl | rfl | rfl
  ·exact at_until w nb k dt j ns.length tt tc bg R.length bcap a ua uc f um hc ha hr b va vc f' vm hc' hb hr' hj hn hN
  ·exact at_and w nb k dt j ns.length tt tc bg R.length bcap a ua uc f um hc ha hr b va vc f' vm hc' hb hr' hj hn hN
  ·exact at_or w nb k dt j ns.length tt tc bg R.length bcap a ua uc f um hc ha hr b va vc f' vm hc' hb hr' hj hn hN
  ·exact at_imp w nb k dt j ns.length tt tc bg R.length bcap a ua uc f um hc ha hr b va vc f' vm hc' hb hr' hj hn hN
theorem NSx.nd {w : World} {nb B : Nat} {L : List Nd} {T : List Int} {k : Nat} {d : Nd} (h : NSx w nb B L T) (hd : L[k]? = some d) : NdAt w nb k (refO d.k) d.a d.b d.t := by
 obtain ⟨v, hv⟩ := h
 have hk : k < L.length := by
  rcases Nat.lt_or_ge k L.length with h | h
  ·exact h
  ·rw [List.getElem?_eq_none h] at hd; cases hd
 have o0 := hv.own 0
 have o1 := hv.own 1
 have o2 := hv.own 2
 have o3 := hv.own 3
 have l0 : (ndX L T 0).length = L.length := by simp [ndX]
 have l1 : (ndX L T 1).length = L.length := by simp [ndX]
 have l2 : (ndX L T 2).length = L.length := by simp [ndX]
 have l3 : (ndX L T 3).length = L.length := by simp [ndX]
 rw [l0] at o0; rw [l1] at o1; rw [l2] at o2; rw [l3] at o3
 obtain ⟨p0, c0, e0⟩ := owns_val o0
 obtain ⟨p1, c1, e1⟩ := owns_val o1
 obtain ⟨p2, c2, e2⟩ := owns_val o2
 obtain ⟨p3, c3, e3⟩ := owns_val o3
 rw [e0] at o0; rw [e1] at o1; rw [e2] at o2; rw [e3] at o3
 obtain ⟨g0, rfl, _, x0⟩ := owns1_at o0 hk
 obtain ⟨g1, rfl, _, x1⟩ := owns1_at o1 hk
 obtain ⟨g2, rfl, _, x2⟩ := owns1_at o2 hk
 obtain ⟨g3, rfl, _, x3⟩ := owns1_at o3 hk
 have hb := hv.blk
 rw [e0, e1, e2, e3] at hb
 exact ⟨g0, _, c0, g1, _, c1, g2, _, c2, g3, _, c3, v 4, hb, hk, hk, hk, hk, by rw [x0]; simp [ndX, hd], by rw [x1]; simp [ndX, hd], by rw [x2]; simp [ndX, hd], by rw [x3]; simp [ndX, hd]⟩
end Go.Proofs.YtidakhhekofkoaaGreatDoor
namespace Go.Proofs.YtidakhhekofkoaaGreatDoor
open Go.Deep
def atT (tr : List ByteArray) (s : ByteArray) (i : Nat) : Bool := match i with
 | 0 => false
 | j + 1 => match tr[j]? with
  | some x => x.toList == s.toList
  | none => false
def holdsM (s : ByteArray) (tr : List ByteArray) : Bool × Nat :=
 match readM s with
 | .error x => (false, x.2)
 | .ok (al, rs) => if tr.all (fun x => hasN al x) = true then (rs.all (fun r => semF tr.length (atT tr) (ruleF r) 1), 0) else (false, 3)
theorem Fg.weak {Q R : Tk → Prop} (h : ∀ t, Q t → R t) : ∀ {f : Fm}, Fg Q f → Fg R f
 | .nil, hf => False.elim hf
 | .node _ _ a l r, hf => by
  rcases hf with ⟨h1, ⟨t, h2, h3⟩, h4⟩ | hf | ⟨h1, h2, h3⟩ | ⟨h1, h2, h3⟩
  ·exact Or.inl ⟨h1, ⟨t, h t h2, h3⟩, h4⟩
  ·exact Or.inr (Or.inl hf)
  ·exact Or.inr (Or.inr (Or.inl ⟨h1, Fg.weak h h2, h3⟩))
  ·exact Or.inr (Or.inr (Or.inr ⟨h1, Fg.weak h h2, Fg.weak h h3⟩))
def TkA (_ : Tk) : Prop := True
theorem Fg.act (s : ByteArray) : Fg TkA (acF s) := Or.inl ⟨rfl, ⟨⟨2, s, 0⟩, trivial, rfl, rfl, rfl⟩, rfl, rfl⟩
theorem timesF_fg (a : ByteArray) : ∀ n, Fg TkA (timesF a n)
 | 0 => Fg.one (by decide) (Fg.act a)
 | 1 => Fg.one (by decide) (Fg.act a)
 | n + 2 => Fg.one (by decide) (Fg.two (by decide) (Fg.act a) (Fg.one (by decide) (timesF_fg a (n + 1))))
theorem tplF_fg (k : Nat) (a b : ByteArray) (n : Nat) : Fg TkA (tplF k a b n) := by
 have ha := Fg.act a
 have hb := Fg.act b
 have ht : Fg TkA (leaf 1 ByteArray.empty 0) := Fg.word (by decide)
 unfold tplF
 repeat' split
 ·exact ha
 ·exact Fg.one (by decide) (Fg.two (by decide) ha (Fg.one (by decide) (Fg.one (by decide) ht)))
 ·exact timesF_fg a n
 ·exact Fg.one (by decide) (timesF_fg a n)
 ·exact Fg.one (by decide) (Fg.two (by decide) ha (Fg.one (by decide) hb))
 ·exact Fg.two (by decide) (Fg.two (by decide) (Fg.one (by decide) hb) ha) (Fg.one (by decide) (Fg.one (by decide) hb))
 ·exact Fg.one (by decide) (Fg.two (by decide) ha (Fg.one (by decide) hb))
 ·exact Fg.two (by decide) (Fg.one (by decide) hb) (Fg.one (by decide) (Fg.two (by decide) (Fg.one (by decide) hb) ha))
 ·exact Fg.two (by decide) (Fg.one (by decide) ha) (Fg.one (by decide) hb)
 ·exact Fg.one (by decide) (Fg.two (by decide) (Fg.one (by decide) ha) (Fg.one (by decide) hb))
 ·exact Fg.one (by decide) (Fg.two (by decide) ha (Fg.one (by decide) (Fg.one (by decide) (Fg.one (by decide) hb))))
 ·exact Fg.one (by decide) (Fg.two (by decide) ha (Fg.one (by decide) (Fg.one (by decide) hb)))
theorem MGood.fg {al : List Tk} {rs : List Rl} (h : MGood al rs) : ∀ r ∈ rs, Fg TkA (ruleF r) := by
 intro r hr
 unfold ruleF
 split
 ·exact tplF_fg _ _ _ _
 ·rename_i hc
  rcases h.rules r hr with ⟨h1, _⟩ | ⟨_, h2, _⟩
  ·exact absurd h1 hc
  ·exact h2.weak (fun _ _ => trivial)
theorem MGood.call {al : List Tk} {rs : List Rl} (h : MGood al rs) : ∀ r ∈ rs, r.call = true → CallOk r := by
 intro r hr hc
 have hn := fRules_nil (List.append_eq_nil_iff.1 h.nof).2 r hr
 exact call_ok (Q := TkS) (fun t ht => ht.1) (h.rules r hr) hc (hn.2 hc)
theorem MGood.dist {al : List Tk} {rs : List Rl} (h : MGood al rs) : Dist al := dist_of (List.append_eq_nil_iff.1 h.nof).1
theorem Nm.weak {P R : ByteArray → Prop} (h : ∀ s, P s → R s) : ∀ {f : Fm}, Nm P f → Nm R f
 | .nil, _ => trivial
 | .node _ _ _ _ _, ⟨h1, h2, h3⟩ => ⟨fun e => h _ (h1 e), Nm.weak h h2, Nm.weak h h3⟩
theorem Nm.one {P : ByteArray → Prop} {k : Nat} {f : Fm} (h : k ≠ 0) (hf : Nm P f) : Nm P (one k f) := ⟨fun e => absurd e h, hf, trivial⟩
theorem Nm.two {P : ByteArray → Prop} {k : Nat} {f g : Fm} (h : k ≠ 0) (hf : Nm P f) (hg : Nm P g) : Nm P (two k f g) := ⟨fun e => absurd e h, hf, hg⟩
theorem Nm.act {P : ByteArray → Prop} {s : ByteArray} (h : P s) : Nm P (acF s) := ⟨fun _ => h, trivial, trivial⟩
theorem timesF_nm {P : ByteArray → Prop} {a : ByteArray} (h : P a) : ∀ n, Nm P (timesF a n)
 | 0 => Nm.one (by decide) (Nm.act h)
 | 1 => Nm.one (by decide) (Nm.act h)
 | n + 2 => Nm.one (by decide) (Nm.two (by decide) (Nm.act h) (Nm.one (by decide) (timesF_nm h (n + 1))))
theorem tplF_nm {P : ByteArray → Prop} {k : Nat} {a b : ByteArray} {n : Nat} (pa : P a) (pb : 4 ≤ k → P b) : Nm P (tplF k a b n) := by
 have ha := Nm.act pa
 have hb := fun h => Nm.act (pb h)
 have ht : Nm P (leaf 1 ByteArray.empty 0) := ⟨fun e => absurd e (by decide), trivial, trivial⟩
 unfold tplF
 split
 ·exact ha
 split
 ·exact Nm.one (by decide) (Nm.two (by decide) ha (Nm.one (by decide) (Nm.one (by decide) ht)))
 split
 ·exact timesF_nm pa n
 split
 ·exact Nm.one (by decide) (timesF_nm pa n)
 have hb := hb (by omega)
 repeat' split
 ·exact Nm.one (by decide) (Nm.two (by decide) ha (Nm.one (by decide) hb))
 ·exact Nm.two (by decide) (Nm.two (by decide) (Nm.one (by decide) hb) ha) (Nm.one (by decide) (Nm.one (by decide) hb))
 ·exact Nm.one (by decide) (Nm.two (by decide) ha (Nm.one (by decide) hb))
 ·exact Nm.two (by decide) (Nm.one (by decide) hb) (Nm.one (by decide) (Nm.two (by decide) (Nm.one (by decide) hb) ha))
 ·exact Nm.two (by decide) (Nm.one (by decide) ha) (Nm.one (by decide) hb)
 ·exact Nm.one (by decide) (Nm.two (by decide) (Nm.one (by decide) ha) (Nm.one (by decide) hb))
 ·exact Nm.one (by decide) (Nm.two (by decide) ha (Nm.one (by decide) (Nm.one (by decide) (Nm.one (by decide) hb))))
 ·exact Nm.one (by decide) (Nm.two (by decide) ha (Nm.one (by decide) (Nm.one (by decide) hb)))
theorem fName_nil {al : List Tk} {s : ByteArray} {p : Nat} (h : fName al s p = []) : hasN al s = true := by
 obtain ⟨_, h2⟩ := List.append_eq_nil_iff.1 h
 by_cases e : hasN al s = true
 ·exact e
 ·rw [if_neg e] at h2; cases h2
theorem fFm_nm {al : List Tk} : ∀ {f : Fm}, fFm al f = [] → Nm (fun s => hasN al s = true) f
 | .nil, _ => trivial
 | .node _ _ a l r, h => by
  rw [fFm] at h
  obtain ⟨h1, h2⟩ := List.append_eq_nil_iff.1 h
  obtain ⟨h3, h4⟩ := List.append_eq_nil_iff.1 h2
  exact ⟨fun e => by rw [if_pos e] at h1; exact fName_nil h1, fFm_nm h3, fFm_nm h4⟩
theorem fArg_has {al : List Tk} {kinds : List UInt8} {t : Tk} (h : fArg al kinds t = []) (hk : t.k = 2) : hasN al t.s = true := by
 obtain ⟨h1, _⟩ := List.append_eq_nil_iff.1 h
 rw [if_pos hk] at h1
 exact fName_nil h1
theorem MGood.nm {al : List Tk} {rs : List Rl} (h : MGood al rs) : ∀ r ∈ rs, Nm (fun s => hasN al s = true) (ruleF r) := by
 intro r hr
 have hn := fRules_nil (List.append_eq_nil_iff.1 h.nof).2 r hr
 unfold ruleF
 split
 ·rename_i hc
  have hco := h.call r hr hc
  have hfc := hn.2 hc
  obtain ⟨_, h2⟩ := List.append_eq_nil_iff.1 hfc
  obtain ⟨_, h3⟩ := List.append_eq_nil_iff.1 h2
  obtain ⟨h4, _⟩ := List.append_eq_nil_iff.1 h3
  rcases h.rules r hr with ⟨_, _, _, _, x, _, hx, hargs⟩ | ⟨h1, _⟩
  ·have hx0 : argS r.args 0 = x.s := by
    rcases hargs with e | ⟨y, _, _, e⟩ <;> rw [e] <;> rfl
   have hax : hasN al x.s = true := by
    rcases hargs with e | ⟨y, _, _, e⟩
    ·rw [e, fArgs] at h4
     exact fArg_has (List.append_eq_nil_iff.1 h4).1 hx
    ·rw [e, fArgs] at h4
     exact fArg_has (List.append_eq_nil_iff.1 h4).1 hx
   refine tplF_nm (by rw [hx0]; exact hax) (fun h5 => ?_)
   rcases hco with ⟨h6, _⟩ | ⟨_, h6, _⟩ | ⟨_, h6, x', y', e⟩
   ·omega
   ·omega
   ·have ht : tplTakes (tplNo r.word.s.toList) = [110, 110] := by
     unfold tplTakes; rw [if_neg (by omega), if_neg (by omega), if_pos h6]
    rw [e, ht] at h4
    rw [fArgs, fArgs] at h4
    obtain ⟨_, h7⟩ := List.append_eq_nil_iff.1 h4
    obtain ⟨h8, _⟩ := List.append_eq_nil_iff.1 h7
    rw [e]
    show hasN al y'.s = true
    have hk : y'.k = 2 := by
     obtain ⟨_, h9⟩ := List.append_eq_nil_iff.1 h8
     by_cases e2 : y'.k = 2
     ·exact e2
     ·have : badArg [110].tail.tail y' = true ∨ badArg [110, 110].tail y' = true := by
       right
       show badArg [110] y' = true
       unfold badArg
       simp [e2]
      rcases this with hb | hb
      ·rw [show ([110, 110] : List UInt8).tail = [110] from rfl] at h9
       rw [if_pos (by show badArg [110] y' = true; unfold badArg; simp [e2])] at h9; cases h9
      ·rw [if_pos hb] at h9; cases h9
    exact fArg_has h8 hk
  ·rw [h1] at hc; cases hc
 ·exact fFm_nm hn.1
theorem zT_atT {al : List Tk} (hd : Dist al) {tr : List ByteArray} (ht : ∀ x ∈ tr, hasN al x = true) {s : ByteArray} (hs : hasN al s = true) (i : Nat) :
  zT (tr.map fun x => numI x 0 al) (lastI s 0 al (-1)) i = atT tr s i := by
 cases i with
 | zero => rfl
 | succ j =>
  simp only [zT, atT, List.getElem?_map]
  cases hx : tr[j]? with
  | none => rfl
  | some x => exact num_eq hd (ht x (List.mem_of_getElem? hx)) hs
theorem nodM_holds {al : List Tk} {rs : List Rl} (h : MGood al rs) {tr : List ByteArray} (ht : ∀ x ∈ tr, hasN al x = true) :
  (nodM al rs ([], [])).2.all (fun t => rowAt (rowsN tr.length (zT (tr.map fun x => numI x 0 al)) (nodM al rs ([], [])).1) t 1) = rs.all (fun r => semF tr.length (atT tr) (ruleF r) 1) := by
 rw [nodM_sem al tr.length (atT tr) (zT (tr.map fun x => numI x 0 al)) rs ([], []) (fun r hr => (h.nm r hr).weak (fun s hs i => zT_atT h.dist ht hs i)) (fun t ht => by simp at ht)]
 simp
def stB (S : List Sp) (ins : Bool) (ev : ByteArray) (more : Bool) (nx hr k : Nat) : Bool := match S[k]? with
 | some d => stepP d.k ins more (ev.toList == d.s.toList) (hr.testBit d.a) (hr.testBit d.b) (nx.testBit d.a) (nx.testBit k)
 | none => false
def hereN (S : List Sp) (ins : Bool) (ev : ByteArray) (more : Bool) (nx : Nat) : Nat → Nat
 | 0 => 0
 | k + 1 => hereN S ins ev more nx k + (if stB S ins ev more nx (hereN S ins ev more nx k) k = true then 2 ^ k else 0)
def fillN (S : List Sp) (ins : Bool) (ev : ByteArray) (more : Bool) (nx : Nat) : Nat := hereN S ins ev more nx S.length + (if ins = true then 2 ^ S.length else 0)
theorem hereN_pre (S : List Sp) (ins : Bool) (ev : ByteArray) (more : Bool) (nx : Nat) : ∀ k, hereN S ins ev more nx k = preN (fun j => stB S ins ev more nx (hereN S ins ev more nx j) j) k
 | 0 => rfl
 | k + 1 => by rw [hereN, preN, ← hereN_pre S ins ev more nx k]
theorem hereN_lt (S : List Sp) (ins : Bool) (ev : ByteArray) (more : Bool) (nx k : Nat) : hereN S ins ev more nx k < 2 ^ k := by rw [hereN_pre]; exact preN_lt _ _
theorem hereN_or (S : List Sp) (ins : Bool) (ev : ByteArray) (more : Bool) (nx k : Nat) : hereN S ins ev more nx k ||| 2 ^ k = hereN S ins ev more nx k + 2 ^ k := by rw [hereN_pre]; exact preN_or _ _
theorem fillN_lt (S : List Sp) (ins : Bool) (ev : ByteArray) (more : Bool) (nx : Nat) : fillN S ins ev more nx < 2 ^ (S.length + 1) := by
 have := hereN_lt S ins ev more nx S.length
 unfold fillN
 rw [Nat.pow_succ]
 split <;> omega
theorem fillN_bit (S : List Sp) (ins : Bool) (ev : ByteArray) (more : Bool) (nx j : Nat) (hj : j < S.length) : (fillN S ins ev more nx).testBit j = stB S ins ev more nx (hereN S ins ev more nx j) j := by
 have e : fillN S ins ev more nx = preN (fun i => if i < S.length then stB S ins ev more nx (hereN S ins ev more nx i) i else ins) (S.length + 1) := by
  rw [preN, fillN, hereN_pre, if_neg (Nat.lt_irrefl _)]
  congr 1
  exact preN_congr (fun i hi => by rw [if_pos hi])
 rw [e, preN_bit _ _ _ (by omega), if_pos hj]
theorem fillN_top (S : List Sp) (ins : Bool) (ev : ByteArray) (more : Bool) (nx : Nat) : (fillN S ins ev more nx).testBit S.length = ins := by
 have e : fillN S ins ev more nx = preN (fun i => if i < S.length then stB S ins ev more nx (hereN S ins ev more nx i) i else ins) (S.length + 1) := by
  rw [preN, fillN, hereN_pre, if_neg (Nat.lt_irrefl _)]
  congr 1
  exact preN_congr (fun i hi => by rw [if_pos hi])
 rw [e, preN_bit _ _ _ (by omega), if_neg (Nat.lt_irrefl _)]
theorem hereN_bit (S : List Sp) (ins : Bool) (ev : ByteArray) (more : Bool) (nx j k : Nat) (hj : j < k) : (hereN S ins ev more nx k).testBit j = stB S ins ev more nx (hereN S ins ev more nx j) j := by
 rw [hereN_pre, preN_bit _ _ _ hj]
def PlOk (G : List Fm) (n : Nat) (y : ByteArray → Nat → Bool) (p i : Nat) : Prop := (∀ j f, G[j]? = some f → p.testBit j = semF n y f i) ∧ p.testBit G.length = decide (i ≤ n)
def KOk : Fm → Prop
 | .nil => True
 | .node _ _ a l r => a.1 ≤ 12 ∧ (a.1 = 0 ∨ a.1 = 1 ∨ a.1 = 2 ∨ a.1 = 3 ∨ l ≠ .nil) ∧ (a.1 < 9 ∨ r ≠ .nil) ∧ KOk l ∧ KOk r
theorem Fg.kok {Q : Tk → Prop} : ∀ {f : Fm}, Fg Q f → KOk f
 | .nil, h => False.elim h
 | .node _ _ a l r, h => by
  rcases h with ⟨h1, _, rfl, rfl⟩ | ⟨h1, rfl, rfl⟩ | ⟨h1, h2, rfl⟩ | ⟨h1, h2, h3⟩
  ·exact ⟨by omega, Or.inl h1, Or.inl (by omega), trivial, trivial⟩
  ·exact ⟨by omega, by omega, Or.inl (by omega), trivial, trivial⟩
  ·exact ⟨by omega, Or.inr (Or.inr (Or.inr (Or.inr h2.ne))), Or.inl (by omega), Fg.kok h2, trivial⟩
  ·exact ⟨by omega, Or.inr (Or.inr (Or.inr (Or.inr h2.ne))), Or.inr h3.ne, Fg.kok h2, Fg.kok h3⟩
theorem subs_kok : ∀ {f : Fm}, KOk f → ∀ g ∈ subs f, KOk g
 | .nil, _, g, hg => (List.not_mem_nil hg).elim
 | .node u v a l r, h, g, hg => by
  rw [subs] at hg
  rcases List.mem_append.1 hg with hg | hg
  ·rcases List.mem_append.1 hg with hg | hg
   ·exact subs_kok h.2.2.2.1 g hg
   ·exact subs_kok h.2.2.2.2 g hg
  ·rcases List.mem_singleton.1 hg with rfl
   exact h
theorem subsM_kok {rs : List Rl} (h : ∀ r ∈ rs, KOk (ruleF r)) : ∀ g ∈ subsM rs, KOk g := by
 intro g hg
 unfold subsM at hg
 obtain ⟨l, hl, hgl⟩ := List.mem_flatten.1 hg
 obtain ⟨r, hr, rfl⟩ := List.mem_map.1 hl
 exact subs_kok (h r hr) g hgl
theorem stepP_leaf {k : Nat} (h : k = 0 ∨ k = 1 ∨ k = 2 ∨ k = 3) (ins more y u v u' x u2 v2 u2' x2 : Bool) : stepP k ins more y u v u' x = stepP k ins more y u2 v2 u2' x2 := by
 rcases h with rfl | rfl | rfl | rfl <;> rfl
theorem stepP_one {k : Nat} (h : k < 9) (ins more y u v u' x v2 : Bool) : stepP k ins more y u v u' x = stepP k ins more y u v2 u' x := by
 have h : k = 0 ∨ k = 1 ∨ k = 2 ∨ k = 3 ∨ k = 4 ∨ k = 5 ∨ k = 6 ∨ k = 7 ∨ k = 8 := by omega
 rcases h with rfl | rfl | rfl | rfl | rfl | rfl | rfl | rfl | rfl <;> rfl
theorem fill_ok {S : List Sp} {G : List Fm} (hs : StOk S G) (hk : ∀ g ∈ G, KOk g) (n : Nat) (y : ByteArray → Nat → Bool) (yy : ByteArray → Nat → Bool) (hy : ∀ s i, y s i = (decide (i ≤ n) && yy s i)) (ev : ByteArray) (i : Nat)
  (hev : i ≤ n → ∀ s, yy s i = (ev.toList == s.toList)) (nx : Nat) (hnx : i ≤ n → PlOk G n y nx (i + 1)) :
  PlOk G n y (fillN S (decide (i ≤ n)) ev (decide (i + 1 ≤ n)) nx) i := by
 have key : ∀ k, k ≤ S.length → ∀ j, j < k → ∀ f, G[j]? = some f → stB S (decide (i ≤ n)) ev (decide (i + 1 ≤ n)) nx (hereN S (decide (i ≤ n)) ev (decide (i + 1 ≤ n)) nx j) j = semF n y f i := by
  intro k
  induction k with
  | zero => intro _ j hj; omega
  | succ k ih =>
   intro hkl j hj f hf
   by_cases hjk : j < k
   ·exact ih (by omega) j hjk f hf
   have hjk : j = k := by omega
   subst hjk
   have ih := ih (by omega)
   obtain ⟨d, hd⟩ : ∃ d, S[j]? = some d := ⟨_, List.getElem?_eq_getElem (by omega)⟩
   have hst := hs.2 j d f hd hf
   have hkf := hk f (List.mem_of_getElem? hf)
   cases f with
   | nil => exact False.elim hst
   | node u v a l r =>
    obtain ⟨h1, h2, h3, h4⟩ := hst
    unfold stB
    rw [hd]
    show stepP d.k _ _ _ _ _ _ _ = opV a.1 (y a.2.1 i) (semF n y l) (semF n y r) i n
    rw [hy, opV_step a.1 (yy a.2.1) (semF n y l) (semF n y r) i n hkf.1, h1, h2]
    have hev' : stepP a.1 (decide (i ≤ n)) (decide (i + 1 ≤ n)) (ev.toList == a.2.1.toList) (semF n y l i) (semF n y r i) (semF n y l (i + 1)) (opV a.1 (decide (i + 1 ≤ n) && yy a.2.1 (i + 1)) (semF n y l) (semF n y r) (i + 1) n) = stepP a.1 (decide (i ≤ n)) (decide (i + 1 ≤ n)) (yy a.2.1 i) (semF n y l i) (semF n y r i) (semF n y l (i + 1)) (opV a.1 (decide (i + 1 ≤ n) && yy a.2.1 (i + 1)) (semF n y l) (semF n y r) (i + 1) n) := by
     by_cases hi : i ≤ n
     ·rw [hev hi]
     ·by_cases hk0 : a.1 = 0
      ·rw [hk0, decide_eq_false hi]; rfl
      ·unfold stepP; rw [if_neg hk0, if_neg hk0]
    rw [← hev']
    have hfut : i ≤ n → nx.testBit j = opV a.1 (decide (i + 1 ≤ n) && yy a.2.1 (i + 1)) (semF n y l) (semF n y r) (i + 1) n := by
     intro hi
     rw [(hnx hi).1 j _ hf]
     show opV a.1 (y a.2.1 (i + 1)) _ _ _ _ = _
     rw [hy]
    have hx : ∀ u' x u2 x2 : Bool, (i ≤ n → u' = u2) → (i ≤ n → x = x2) → ∀ u v, stepP a.1 (decide (i ≤ n)) (decide (i + 1 ≤ n)) (ev.toList == a.2.1.toList) u v u' x = stepP a.1 (decide (i ≤ n)) (decide (i + 1 ≤ n)) (ev.toList == a.2.1.toList) u v u2 x2 := by
     intro u' x u2 x2 e1 e2 u v
     by_cases hi : i ≤ n
     ·rw [e1 hi, e2 hi]
     ·rw [decide_eq_false hi, decide_eq_false (show ¬ i + 1 ≤ n by omega)]
      have hk12 := hkf.1
      have h : a.1 = 0 ∨ a.1 = 1 ∨ a.1 = 2 ∨ a.1 = 3 ∨ a.1 = 4 ∨ a.1 = 5 ∨ a.1 = 6 ∨ a.1 = 7 ∨ a.1 = 8 ∨ a.1 = 9 ∨ a.1 = 10 ∨ a.1 = 11 ∨ a.1 = 12 := by omega
      rcases h with h | h | h | h | h | h | h | h | h | h | h | h | h <;> rw [h] <;> rfl
    have hbit : ∀ b g, b < j → G[b]? = some g → (hereN S (decide (i ≤ n)) ev (decide (i + 1 ≤ n)) nx j).testBit b = semF n y g i := by
     intro b g hb hg
     rw [hereN_bit _ _ _ _ _ _ _ hb]
     exact ih b hb g hg
    rcases hkf.2.1 with hk0 | hk0 | hk0 | hk0 | hln
    ·exact stepP_leaf (Or.inl hk0) _ _ _ _ _ _ _ _ _ _ _
    ·exact stepP_leaf (Or.inr (Or.inl hk0)) _ _ _ _ _ _ _ _ _ _ _
    ·exact stepP_leaf (Or.inr (Or.inr (Or.inl hk0))) _ _ _ _ _ _ _ _ _ _ _
    ·exact stepP_leaf (Or.inr (Or.inr (Or.inr hk0))) _ _ _ _ _ _ _ _ _ _ _
    ·rcases h3 with h3 | ⟨h3, h3'⟩
     ·exact absurd h3 hln
     have hl := hbit d.a l h3 h3'
     have hl' : i ≤ n → nx.testBit d.a = semF n y l (i + 1) := fun hi => (hnx hi).1 d.a l h3'
     rcases hkf.2.2.1 with hk9 | hrn
     ·rw [hl, stepP_one hk9 _ _ _ _ _ _ _ (semF n y r i)]
      exact hx _ _ _ _ hl' hfut _ _
     ·rcases h4 with h4 | ⟨h4, h4'⟩
      ·exact absurd h4 hrn
      rw [hl, hbit d.b r h4 h4']
      exact hx _ _ _ _ hl' hfut _ _
 refine ⟨fun j f hf => ?_, ?_⟩
 ·have hj : j < S.length := by
   rw [hs.1]
   rcases Nat.lt_or_ge j G.length with h | h
   ·exact h
   ·rw [List.getElem?_eq_none h] at hf; cases hf
  rw [fillN_bit _ _ _ _ _ _ hj]
  exact key S.length (Nat.le_refl _) j hj f hf
 ·rw [← hs.1, fillN_top]
def walkB (S : List Sp) : List ByteArray → Nat
 | [] => fillN S false ⟨#[]⟩ false 0
 | ev :: r => fillN S true ev ((walkB S r).testBit S.length) (walkB S r)
theorem walkB_lt (S : List Sp) : ∀ tr, walkB S tr < 2 ^ (S.length + 1)
 | [] => fillN_lt _ _ _ _ _
 | _ :: _ => fillN_lt _ _ _ _ _
def yT (tr : List ByteArray) (s : ByteArray) (i : Nat) : Bool := match i with
 | 0 => false
 | j + 1 => (tr.getD j ⟨#[]⟩).toList == s.toList
theorem atT_y (tr : List ByteArray) (s : ByteArray) (i : Nat) : atT tr s i = (decide (i ≤ tr.length) && yT tr s i) := by
 cases i with
 | zero => simp [atT, yT]
 | succ j =>
  simp only [atT, yT]
  by_cases h : j < tr.length
  ·rw [List.getElem?_eq_getElem h, decide_eq_true (show j + 1 ≤ tr.length by omega), Bool.true_and, List.getD_eq_getElem?_getD, List.getElem?_eq_getElem h]; rfl
  ·rw [List.getElem?_eq_none (by omega), decide_eq_false (show ¬ j + 1 ≤ tr.length by omega)]; rfl
theorem walk_ok {S : List Sp} {G : List Fm} (hs : StOk S G) (hk : ∀ g ∈ G, KOk g) (tr : List ByteArray) : ∀ (c j : Nat), j + c = tr.length → PlOk G tr.length (atT tr) (walkB S (tr.drop j)) (j + 1)
 | 0, j, h => by
  rw [List.drop_eq_nil_of_le (by omega), walkB]
  have := fill_ok hs hk tr.length (atT tr) (yT tr) (atT_y tr) ⟨#[]⟩ (j + 1) (fun h' => by omega) 0 (fun h' => by omega)
  rw [decide_eq_false (show ¬ j + 1 ≤ tr.length by omega), decide_eq_false (show ¬ j + 1 + 1 ≤ tr.length by omega)] at this
  exact this
 | c + 1, j, h => by
  have hj : j < tr.length := by omega
  have ih := walk_ok hs hk tr c (j + 1) (by omega)
  have hd : tr.drop j = tr[j] :: tr.drop (j + 1) := List.drop_eq_getElem_cons hj
  rw [hd, walkB, hs.1, ih.2]
  have := fill_ok hs hk tr.length (atT tr) (yT tr) (atT_y tr) tr[j] (j + 1) (fun _ s => by simp only [yT, List.getD_eq_getElem?_getD, List.getElem?_eq_getElem hj, Option.getD_some]) (walkB S (tr.drop (j + 1))) (fun _ => ih)
  rw [decide_eq_true (show j + 1 ≤ tr.length by omega)] at this
  exact this
def wholeM : List Rl → List Sp → Nat → Nat
 | [], _, w => w
 | r :: rs, S, w => wholeM rs (appS (ruleF r) S) (w ||| 2 ^ ((appS (ruleF r) S).length - 1))
theorem wholeM_snoc (r : Rl) : ∀ (rs : List Rl) (S : List Sp) (w : Nat), wholeM (rs ++ [r]) S w = (wholeM rs S w ||| 2 ^ ((stepsM (rs ++ [r]) S).length - 1))
 | [], S, w => rfl
 | x :: rs, S, w => by rw [List.cons_append, wholeM, wholeM_snoc r rs]; rfl
theorem and_or_bit (p w t : Nat) : (p &&& (w ||| 2 ^ t) == (w ||| 2 ^ t)) = ((p &&& w == w) && p.testBit t) := by
 rw [Bool.eq_iff_iff, Bool.and_eq_true, beq_iff_eq, beq_iff_eq]
 constructor
 ·intro h
  have hb : ∀ j, (p.testBit j && (w.testBit j || decide (t = j))) = (w.testBit j || decide (t = j)) := by
   intro j
   have := congrArg (fun x => x.testBit j) h
   simpa [Nat.testBit_and, Nat.testBit_or, Nat.testBit_two_pow] using this
  refine ⟨Nat.eq_of_testBit_eq (fun j => ?_), ?_⟩
  ·rw [Nat.testBit_and]
   have := hb j
   cases hw : w.testBit j with
   | false => simp
   | true => rw [hw] at this; simpa using this
  ·have := hb t
   simpa using this
 ·rintro ⟨h1, h2⟩
  refine Nat.eq_of_testBit_eq (fun j => ?_)
  rw [Nat.testBit_and, Nat.testBit_or, Nat.testBit_two_pow]
  have := congrArg (fun x => x.testBit j) h1
  simp only [Nat.testBit_and] at this
  by_cases e : t = j
  ·subst e; simp [h2]
  ·simp [e]; simpa using this
theorem whole_ok (n : Nat) (y : ByteArray → Nat → Bool) (p i : Nat) : ∀ (rs : List Rl) (S : List Sp) (G : List Fm) (w : Nat), StOk S G → (∀ r ∈ rs, ruleF r ≠ .nil) → (∀ j f, (G ++ subsM rs)[j]? = some f → p.testBit j = semF n y f i) →
  (p &&& wholeM rs S w == wholeM rs S w) = ((p &&& w == w) && rs.all (fun r => semF n y (ruleF r) i))
 | [], S, G, w, _, _, _ => by simp [wholeM]
 | r :: rs, S, G, w, hs, hn, hp => by
  have hr := hn r (List.mem_cons_self ..)
  have h1 := appS_ok (ruleF r) S G hs
  rw [wholeM, whole_ok n y p i rs _ (G ++ subs (ruleF r)) _ h1 (fun r' h' => hn r' (List.mem_cons_of_mem _ h')) (fun j f hf => hp j f (by rw [subsM_cons, ← List.append_assoc]; exact hf)), and_or_bit, List.all_cons, Bool.and_assoc]
  congr 2
  have hl := subs_last hr G
  have e : (appS (ruleF r) S).length - 1 = G.length + sizeF (ruleF r) - 1 := by rw [appS_len, hs.1]
  rw [e]
  refine hp _ _ ?_
  rw [subsM_cons, ← List.append_assoc, List.getElem?_append_left]
  ·exact hl
  ·rw [List.length_append, subs_len]
   have := sizeF_pos' hr
   omega
theorem keeps_ok {al : List Tk} {rs : List Rl} (h : MGood al rs) (tr : List ByteArray) :
  (walkB (stepsM rs []) tr &&& wholeM rs [] 0 == wholeM rs [] 0) = rs.all (fun r => semF tr.length (atT tr) (ruleF r) 1) := by
 have hs : StOk (stepsM rs []) (subsM rs) := by simpa using stepsM_ok rs [] [] StOk.nil
 have hw := walk_ok hs (subsM_kok (fun r hr => (h.fg r hr).kok)) tr tr.length 0 (by omega)
 have := whole_ok tr.length (atT tr) (walkB (stepsM rs []) tr) 1 rs [] [] 0 StOk.nil (fun r hr => (h.fg r hr).ne) (fun j f hf => hw.1 j f (by simpa using hf))
 rw [this]
 simp
end Go.Proofs.YtidakhhekofkoaaGreatDoor
namespace Go.Proofs.YtidakhhekofkoaaGreatDoor
open Go.RowKit Go.Deep
theorem onward_any (k : Nat) (hk : 5 ≤ k) (hk' : k ≤ 9) (w : World) (lb : Nat) (ins : Bool) (ev : ByteArray) (more : Bool) (nx hr : Nat) (s : ByteArray) (i a b : Nat) (h : LkAt w lb ins ev more nx hr) (hnx : nx < 4294967296) (hhr : hr < 4294967296) (hi : i ≤ 31) (ha : a ≤ 31) (hb : b ≤ 31) :
  Calls Tryz.prog 242 #[.pointer (some ⟨lb, 0, none⟩), .int .i64 (i : Int), .agg #[.int .i64 (k : Int), .string s, .int .i64 (a : Int), .int .i64 (b : Int)]] w fun e w' => e = .returned (.bool (stepP k ins more (ev.toList == s.toList) (hr.testBit a) (hr.testBit b) (nx.testBit a) (nx.testBit i))) ∧ Below w.heap.size w w' := by
 have h' : k = 5 ∨ k = 6 ∨ k = 7 ∨ k = 8 ∨ k = 9 := by omega
 rcases h' with rfl | rfl | rfl | rfl | rfl
 ·exact on_next w lb ins ev more nx hr s i a b h hnx hhr hi ha hb
 ·exact on_weak w lb ins ev more nx hr s i a b h hnx hhr hi ha hb
 ·exact on_fin w lb ins ev more nx hr s i a b h hnx hhr hi ha hb
 ·exact on_glob w lb ins ev more nx hr s i a b h hnx hhr hi ha hb
 ·exact on_until w lb ins ev more nx hr s i a b h hnx hhr hi ha hb
theorem LkAt.later {w w' : World} {lb : Nat} {ins : Bool} {ev : ByteArray} {more : Bool} {nx hr : Nat} (h : LkAt w lb ins ev more nx hr) (hb : Below w.heap.size w w') : LkAt w' lb ins ev more nx hr := (hb.block lb (lt_of_blk h)).trans h
set_option maxHeartbeats 1000000 in
set_option maxRecDepth 100000 in
theorem look_onward (k : Nat) (hk : 5 ≤ k) (hk' : k ≤ 9) (w : World) (lb : Nat) (ins : Bool) (ev : ByteArray) (more : Bool) (nx hr : Nat) (s : ByteArray) (i a b : Nat) (h : LkAt w lb ins ev more nx hr) (hnx : nx < 4294967296) (hhr : hr < 4294967296) (hi : i ≤ 31) (ha : a ≤ 31) (hb : b ≤ 31) :
  Calls Tryz.prog 197 #[.pointer (some ⟨lb, 0, none⟩), .int .i64 (i : Int), .agg #[.int .i64 (k : Int), .string s, .int .i64 (a : Int), .int .i64 (b : Int)]] w fun e w' => e = .returned (.bool (stepP k ins more (ev.toList == s.toList) (hr.testBit a) (hr.testBit b) (nx.testBit a) (nx.testBit i))) ∧ Below w.heap.size w w' := by
 have HC := hide (fun W h => onward_any k hk hk' W lb ins ev more nx hr s i a b h hnx hhr hi ha hb)
 have HL := hide h
 generalize stepP k ins more (ev.toList == s.toList) (hr.testBit a) (hr.testBit b) (nx.testBit a) (nx.testBit i) = B at *
 clear h hnx hhr hi ha hb
 have h' : k = 5 ∨ k = 6 ∨ k = 7 ∨ k = 8 ∨ k = 9 := by omega
 rcases h' with rfl | rfl | rfl | rfl | rfl
 all_goals
  go_enter Tryz.func197, Tryz.ntmps197
  go_wp2_with (go_at_call 242; refine (unhide HC _ ((unhide HL).later ((Below.refl _ _).alloc (Nat.le_refl _) _))).mono ?_)
  rintro e w1 ⟨rfl, hb1⟩
  have HB1 := hide hb1
  clear hb1
  go_wp2_with fail
  go_ret
  exact ⟨rfl, ((Below.refl _ _).alloc (Nat.le_refl _) _).trans ((unhide HB1).mono (by simp))⟩
theorem look_any (k : Nat) (hk : k ≤ 12) (w : World) (lb : Nat) (ins : Bool) (ev : ByteArray) (more : Bool) (nx hr : Nat) (s : ByteArray) (i a b : Nat) (h : LkAt w lb ins ev more nx hr) (hnx : nx < 4294967296) (hhr : hr < 4294967296) (hi : i ≤ 31) (ha : a ≤ 31) (hb : b ≤ 31) :
  Calls Tryz.prog 197 #[.pointer (some ⟨lb, 0, none⟩), .int .i64 (i : Int), .agg #[.int .i64 (k : Int), .string s, .int .i64 (a : Int), .int .i64 (b : Int)]] w fun e w' => e = .returned (.bool (stepP k ins more (ev.toList == s.toList) (hr.testBit a) (hr.testBit b) (nx.testBit a) (nx.testBit i))) ∧ Below w.heap.size w w' := by
 have h' : k = 0 ∨ k = 1 ∨ k = 2 ∨ k = 3 ∨ k = 4 ∨ (5 ≤ k ∧ k ≤ 9) ∨ k = 10 ∨ k = 11 ∨ k = 12 := by omega
 rcases h' with rfl | rfl | rfl | rfl | rfl | ⟨h1, h2⟩ | rfl | rfl | rfl
 ·exact lk_act w lb ins ev more nx hr s i a b h hnx hhr hi ha hb
 ·exact lk_true w lb ins ev more nx hr s i a b h hnx hhr hi ha hb
 ·exact lk_false w lb ins ev more nx hr s i a b h hnx hhr hi ha hb
 ·exact lk_end w lb ins ev more nx hr s i a b h hnx hhr hi ha hb
 ·exact lk_not w lb ins ev more nx hr s i a b h hnx hhr hi ha hb
 ·exact look_onward k h1 h2 w lb ins ev more nx hr s i a b h hnx hhr hi ha hb
 ·exact lk_and w lb ins ev more nx hr s i a b h hnx hhr hi ha hb
 ·exact lk_or w lb ins ev more nx hr s i a b h hnx hhr hi ha hb
 ·exact lk_imp w lb ins ev more nx hr s i a b h hnx hhr hi ha hb
theorem or_bit32 (H i : Nat) (hH : H < 4294967296) (hi : i ≤ 31) : bits BinOp.or IntKind.u32 (H : Int) (2 ^ i % 4294967296) = ((H ||| 2 ^ i : Nat) : Int) := by
 have h2 : (2 : Nat) ^ i < 4294967296 := Nat.lt_of_le_of_lt (Nat.pow_le_pow_right (by decide) hi) (by decide)
 have e : (2 : Int) ^ i % 4294967296 = ((2 ^ i : Nat) : Int) := by
  rw [show (2 : Int) ^ i = ((2 ^ i : Nat) : Int) by simp]
  generalize 2 ^ i = z at *
  omega
 rw [e]; exact or32 H (2 ^ i) hH h2
def StS (w : World) (o : Option Addr) (S : List Sp) : Prop := ∀ j d, S[j]? = some d → ∃ g, o = some ⟨g, 0, none⟩ ∧ g < w.heap.size ∧ w.cell? ⟨g, j * 4, none⟩ = some (.int .i64 (d.k : Int)) ∧ w.cell? ⟨g, j * 4 + 1, none⟩ = some (.string d.s) ∧ w.cell? ⟨g, j * 4 + 2, none⟩ = some (.int .i64 (d.a : Int)) ∧ w.cell? ⟨g, j * 4 + 3, none⟩ = some (.int .i64 (d.b : Int))
theorem StS.later {w w' : World} {o : Option Addr} {S : List Sp} (h : StS w o S) (hb : Below w.heap.size w w') : StS w' o S := fun j d hd => by
 obtain ⟨g, h1, h2, h3, h4, h5, h6⟩ := h j d hd
 exact ⟨g, h1, Nat.lt_of_lt_of_le h2 hb.size, (bcell3 hb _ _ h2).trans h3, (bcell3 hb _ _ h2).trans h4, (bcell3 hb _ _ h2).trans h5, (bcell3 hb _ _ h2).trans h6⟩
theorem StS.of {w : World} {base : Nat} {o : Option Addr} {c : Nat} {S : List Sp} (h : w.ownsRow base 319 4 (.slice o S.length c) S.length (spC S)) : StS w o S := by
 intro j d hd
 have hj : j < S.length := by
  rcases Nat.lt_or_ge j S.length with h | h
  ·exact h
  ·rw [List.getElem?_eq_none h] at hd; cases hd
 obtain ⟨_, ⟨h1, h2⟩ | ⟨g, cap, cur, hv, _, hrow, hle, _, hcs, htake⟩⟩ := h
 ·omega
 ·cases hv
  have key : ∀ m, m < 4 → w.cell? ⟨g, j * 4 + m, none⟩ = (stC d)[m]? := by
   intro m hm
   rw [cell_of_blk hrow, ← Array.getElem?_toList, ← spC_at hd m hm, ← htake, List.getElem?_take, if_pos (by omega)]
  exact ⟨g, rfl, lt_of_blk hrow, key 0 (by omega), key 1 (by omega), key 2 (by omega), key 3 (by omega)⟩
structure StG (S : List Sp) : Prop where
 len : S.length ≤ 31
 k : ∀ d ∈ S, d.k ≤ 12
 a : ∀ d ∈ S, d.a ≤ 31
 b : ∀ d ∈ S, d.b ≤ 31
structure FSt (w W : World) (so : Option Addr) (n sc : Nat) (wh : Nat) (ins : Bool) (ev : ByteArray) (more : Bool) (nx hr : Nat) : Prop where
 wk : W.heap[w.heap.size]? = some (.cells #[.slice so n sc, .int .u32 (wh : Int)] 149 (0, 0))
 lk : LkAt W (w.heap.size + 1) ins ev more nx hr
 bel : Below w.heap.size w W
theorem FSt.later {w W W' : World} {so : Option Addr} {n sc : Nat} {wh : Nat} {ins : Bool} {ev : ByteArray} {more : Bool} {nx hr : Nat} (h : FSt w W so n sc wh ins ev more nx hr) (hb : Below W.heap.size W W') : FSt w W' so n sc wh ins ev more nx hr :=
 ⟨(hb.block _ (lt_of_blk h.wk)).trans h.wk, h.lk.later hb, h.bel.trans (hb.mono h.bel.size)⟩
theorem FSt.set {w W : World} {so : Option Addr} {n sc : Nat} {wh : Nat} {ins : Bool} {ev : ByteArray} {more : Bool} {nx hr : Nat} (h : FSt w W so n sc wh ins ev more nx hr) (z : Int) (hr' : Nat) (hz : z = (hr' : Int)) : FSt w (W.setCell ⟨w.heap.size + 1, 4, none⟩ (.int .u32 z)) so n sc wh ins ev more nx hr' := by
 subst hz
 refine ⟨(Below.heap_setCell _ _ _ _ (by show w.heap.size ≠ w.heap.size + 1; omega)).trans h.wk, blk_set h.lk 4 _, h.bel.grown (grown_set _ _ _ _) h.bel.size (fun b hb => by cases hb; omega)⟩
set_option maxHeartbeats 4000000 in
set_option maxRecDepth 100000 in
theorem fill_any (w : World) (S : List Sp) (so : Option Addr) (sc wh : Nat) (ins : Bool) (ev : ByteArray) (more : Bool) (nx : Nat) (hS : StS w so S) (hG : StG S) (hnx : nx < 4294967296) :
  Calls Tryz.prog 167 #[.agg #[.slice so S.length sc, .int .u32 (wh : Int)], .agg #[.bool ins, .string ev, .bool more, .int .u32 (nx : Int), .int .u32 0]] w fun e w' => e = .returned (.int .u32 (fillN S ins ev more nx : Nat)) ∧ Below w.heap.size w w' := by
 have HS := hide hS
 have HG := hide hG
 have hlen := hG.len
 clear hS hG
 have HF0 : Hid (FSt w ((w.alloc (.cells #[.slice so S.length sc, .int .u32 (wh : Int)] 149)).alloc (.cells #[.bool ins, .string ev, .bool more, .int .u32 (nx : Int), .int .u32 0] 277)) so S.length sc wh ins ev more nx 0) :=
  ⟨(Below.heap_alloc _ _ _ (by simp)).trans (blk_alloc _ _), blk_alloc' _ _ _ (by simp), ((Below.refl _ _).alloc (Nat.le_refl _) _).alloc (by simp) _⟩
 go_enter Tryz.func167, Tryz.ntmps167
 go_wp2_with fail
 generalize ((w.alloc (.cells #[.slice so S.length sc, .int .u32 (wh : Int)] 149)).alloc (.cells #[.bool ins, .string ev, .bool more, .int .u32 (nx : Int), .int .u32 0] 277)) = W0 at *
 go_loopw [10] (fun x wr => ∃ i : Nat, i ≤ S.length ∧ x = .int .i64 i ∧ Hid (FSt w wr so S.length sc wh ins ev more nx (hereN S ins ev more nx i))) (fun x _ => S.length - (intOf x).toNat)
 case atStart => exact ⟨0, Nat.zero_le _, rfl, HF0⟩
 case round =>
  obtain ⟨i, hi, rfl, HF⟩ := hrel
  by_cases hlt : i < S.length
  ·have hin : (i : Int) < (S.length : Int) := by omega
   have hd : S[i]? = some S[i] := List.getElem?_eq_getElem hlt
   obtain ⟨g, hso, hg, c0, c1, c2, c3⟩ := (unhide HS).later (unhide HF).bel i S[i] hd
   have hdm : S[i] ∈ S := List.getElem_mem hlt
   have hdk := (unhide HG).k _ hdm
   have hda := (unhide HG).a _ hdm
   have hdb := (unhide HG).b _ hdm
   have HSTB : Hid (hereN S ins ev more nx (i + 1) = hereN S ins ev more nx i + (if stepP S[i].k ins more (ev.toList == S[i].s.toList) ((hereN S ins ev more nx i).testBit S[i].a) ((hereN S ins ev more nx i).testBit S[i].b) (nx.testBit S[i].a) (nx.testBit i) = true then 2 ^ i else 0)) := by
    show _ = _
    rw [hereN]
    unfold stB
    rw [hd]
   have hpl : hereN S ins ev more nx i < 4294967296 := Nat.lt_of_lt_of_le (hereN_lt S ins ev more nx i) (Nat.le_trans (Nat.pow_le_pow_right (by decide) (show i ≤ 32 by omega)) (by decide))
   have HOR := hide (hereN_or S ins ev more nx i)
   subst hso
   clear hd hdm
   generalize S[i] = d at *
   have hwlt := lt_of_blk (unhide HF).wk
   have hllt := lt_of_blk (unhide HF).lk
   go_wp2_with (go_at_call 197; refine (look_any d.k hdk _ (w.heap.size + 1) ins ev more nx (hereN S ins ev more nx i) d.s i d.a d.b (((unhide HF).later ((Below.refl _ _).alloc (Nat.le_refl _) _)).lk) hnx hpl (by omega) hda hdb).mono ?_)
   rintro e w1 ⟨rfl, hb1⟩
   have HF1 := hide ((((unhide HF).later ((Below.refl _ _).alloc (Nat.le_refl _) (.cells #[.int .i64 (d.k : Int), .string d.s, .int .i64 (d.a : Int), .int .i64 (d.b : Int)] 319)))).later hb1)
   clear hb1 HF c0 c1 c2 c3
   generalize hB : stepP d.k ins more (ev.toList == d.s.toList) ((hereN S ins ev more nx i).testBit d.a) ((hereN S ins ev more nx i).testBit d.b) (nx.testBit d.a) (nx.testBit i) = B at *
   clear hB
   have lc := fun o => cell_of_blk (unhide HF1).lk o
   have lf := fun o => frozen_of_blk (unhide HF1).lk o
   have hllt1 := lt_of_blk (unhide HF1).lk
   cases B with
   | false =>
    go_wp2_with fail
    go_roundw
    case rel => exact ⟨i + 1, by omega, by go_num, by rw [unhide HSTB]; simpa using HF1⟩
    case measure => simp [intOf]; omega
   | true =>
    generalize hereN S ins ev more nx i = H at *
    go_wp2_with fail
    go_region
    have HF2 := hide (((unhide HF1).set (bits BinOp.or IntKind.u32 (H : Int) (2 ^ i % 4294967296)) (H + 2 ^ i) (by rw [or_bit32 H i hpl (by omega), unhide HOR])).later ((Below.refl _ _).drew))
    generalize (w1.setCell ⟨w.heap.size + 1, 4, none⟩ (.int .u32 (bits BinOp.or IntKind.u32 (H : Int) (2 ^ i % 4294967296)))).drew = w2 at *
    generalize bits BinOp.or IntKind.u32 (H : Int) (2 ^ i % 4294967296) = z at *
    clear lc lf hllt1
    go_wp2_with fail
    go_roundw
    case rel => exact ⟨i + 1, by omega, by go_num, by rw [unhide HSTB]; simpa using HF2⟩
    case measure => simp [intOf]; omega
  ·have hin : ¬ (i : Int) < (S.length : Int) := by omega
   have hie : i = S.length := by omega
   subst hie
   have hpl : hereN S ins ev more nx S.length < 4294967296 := Nat.lt_of_lt_of_le (hereN_lt S ins ev more nx S.length) (Nat.le_trans (Nat.pow_le_pow_right (by decide) (show S.length ≤ 32 by omega)) (by decide))
   have HOR := hide (hereN_or S ins ev more nx S.length)
   have HFI : Hid (fillN S ins ev more nx = hereN S ins ev more nx S.length + (if ins = true then 2 ^ S.length else 0)) := rfl
   have lc := fun o => cell_of_blk (unhide HF).lk o
   have lf := fun o => frozen_of_blk (unhide HF).lk o
   have wc := fun o => cell_of_blk (unhide HF).wk o
   have hllt1 := lt_of_blk (unhide HF).lk
   generalize hereN S ins ev more nx S.length = H at *
   cases ins with
   | false =>
    go_wp2_with fail
    go_ret
    have e : fillN S false ev more nx = H := by rw [unhide HFI]; simp
    rw [e]
    exact ⟨rfl, (unhide HF).bel⟩
   | true =>
    go_wp2_with fail
    go_region
    have HF2 := hide (((unhide HF).set (bits BinOp.or IntKind.u32 (H : Int) (2 ^ S.length % 4294967296)) (H + 2 ^ S.length) (by rw [or_bit32 H S.length hpl hlen, unhide HOR])).later ((Below.refl _ _).drew))
    have lc2 := fun o => cell_of_blk (unhide HF2).lk o
    have hll2 := lt_of_blk (unhide HF2).lk
    generalize (wr.setCell ⟨w.heap.size + 1, 4, none⟩ (.int .u32 (bits BinOp.or IntKind.u32 (H : Int) (2 ^ S.length % 4294967296)))).drew = w2 at *
    generalize bits BinOp.or IntKind.u32 (H : Int) (2 ^ S.length % 4294967296) = z at *
    have HFE : Hid (fillN S true ev more nx = H + 2 ^ S.length) := by show _ = _; rw [unhide HFI]; simp
    clear lc lf hllt1 wc HFI
    generalize H + 2 ^ S.length = F at *
    go_wp2_with fail
    go_ret
    rw [unhide HFE]
    exact ⟨rfl, (unhide HF2).bel⟩
set_option maxHeartbeats 1000000 in
set_option maxRecDepth 100000 in
theorem Behind_any (w : World) (S : List Sp) (so : Option Addr) (sc wh : Nat) (hS : StS w so S) (hG : StG S) :
  Calls Tryz.prog 125 #[.agg #[.slice so S.length sc, .int .u32 (wh : Int)]] w fun e w' => e = .returned (.int .u32 (walkB S [] : Nat)) ∧ Below w.heap.size w w' := by
 have HC := hide (fun W h => fill_any W S so sc wh false ⟨#[]⟩ false 0 h hG (by decide))
 have HS := hide hS
 have HW : Hid (walkB S [] = fillN S false ⟨#[]⟩ false 0) := rfl
 clear hS hG
 go_enter Tryz.func125, Tryz.ntmps125
 go_wp2_with (go_at_call 167; refine (unhide HC _ ((unhide HS).later ((Below.refl _ _).alloc (Nat.le_refl _) _))).mono ?_)
 rintro e w1 ⟨rfl, hb1⟩
 have HB1 := hide hb1
 clear hb1
 go_wp2_with fail
 go_ret
 exact ⟨rfl, ((Below.refl _ _).alloc (Nat.le_refl _) _).trans ((unhide HB1).mono (by simp))⟩
set_option maxHeartbeats 1000000 in
set_option maxRecDepth 100000 in
theorem AllHold_any (w : World) (so : Option Addr) (n sc wh p : Nat) (hw : wh < 4294967296) (hp : p < 4294967296) :
  Calls Tryz.prog 127 #[.agg #[.slice so n sc, .int .u32 (wh : Int)], .int .u32 (p : Int)] w fun e w' => e = .returned (.bool (p &&& wh == wh)) ∧ Below w.heap.size w w' := by
 have HA := hide (and32 p wh hp hw)
 go_enter Tryz.func127, Tryz.ntmps127
 go_wp2_with fail
 go_ret
 refine ⟨ret_bool ?_, (Below.refl _ _).alloc (Nat.le_refl _) _⟩
 rw [unhide HA]
 rw [Bool.eq_iff_iff]; simp only [beq_iff_eq]; omega
set_option maxHeartbeats 2000000 in
set_option maxRecDepth 100000 in
theorem Ahead_any (w : World) (S : List Sp) (so : Option Addr) (sc wh : Nat) (nx : Nat) (ev : ByteArray) (hS : StS w so S) (hG : StG S) (hnx : nx < 4294967296) :
  Calls Tryz.prog 126 #[.agg #[.slice so S.length sc, .int .u32 (wh : Int)], .int .u32 (nx : Int), .string ev] w fun e w' => e = .returned (.int .u32 (fillN S true ev (nx.testBit S.length) nx : Nat)) ∧ Below w.heap.size w w' := by
 have HC := hide (fun W h => fill_any W S so sc wh true ev (nx.testBit S.length) nx h hG hnx)
 have HH := hide (fun W => pHas_any nx S.length hnx hG.len _ rfl W)
 have HS := hide hS
 clear hS hG
 have hb0 : (w.alloc (.cells #[.slice so S.length sc, .int .u32 (wh : Int)] 149)).heap[w.heap.size]? = some (.cells #[.slice so S.length sc, .int .u32 (wh : Int)] 149 (0, 0)) := blk_alloc _ _
 have hB : Below w.heap.size w (w.alloc (.cells #[.slice so S.length sc, .int .u32 (wh : Int)] 149)) := (Below.refl _ _).alloc (Nat.le_refl _) _
 have HB0 := hide hb0
 have HBB := hide hB
 have HS1 := hide ((unhide HS).later hB)
 clear hb0 hB
 generalize hT : nx.testBit S.length = tb at *
 clear hT
 go_enter Tryz.func126, Tryz.ntmps126
 go_wp2_with fail
 generalize (w.alloc (.cells #[.slice so S.length sc, .int .u32 (wh : Int)] 149)) = W at *
 have bc := fun o => cell_of_blk (unhide HB0) o
 have hlt := lt_of_blk (unhide HB0)
 have c0 : W.cell? ⟨w.heap.size, 0, none⟩ = some (.slice so S.length sc) := bc 0
 have c1 : W.cell? ⟨w.heap.size, 1, none⟩ = some (.int .u32 (wh : Int)) := bc 1
 clear bc
 refine wp_region_held_drew (S := fun w' => w'.cell? ⟨w.heap.size, 0, none⟩ = some (.slice so S.length sc) ∧ w'.cell? ⟨w.heap.size, 1, none⟩ = some (.int .u32 (wh : Int))) (by kernel_rfl) ?_ (fun hHeld => ?_)
 ·exact ⟨c0, c1⟩
 refine wpAnyH_take (i := 0) (v := .agg #[.slice so S.length sc, .int .u32 (wh : Int)]) rfl (by kernel_rfl) (by kernel_rfl) (by kernel_rfl) (fun _ _ _ h => h) (Or.inl ⟨by kernel_rfl, fun w hw => by obtain ⟨s0, s1⟩ := hw; go_simp⟩) hHeld ?_
 try simp only [Act.put, zA, zB, zC, zD, zE, zF]
 refine wpAnyH_take (i := 1) (v := .string ev) rfl (by kernel_rfl) (by kernel_rfl) (by kernel_rfl) (fun _ _ _ h => h) (Or.inl ⟨by kernel_rfl, fun w hw => by obtain ⟨s0, s1⟩ := hw; go_simp⟩) hHeld ?_
 try simp only [Act.put, zA, zB, zC, zD, zE, zF]
 refine wpAnyH_take (i := 2) (v := .int .u32 (nx : Int)) rfl (by kernel_rfl) (by kernel_rfl) (by kernel_rfl) (fun _ _ _ h => h) (Or.inl ⟨by kernel_rfl, fun w hw => by obtain ⟨s0, s1⟩ := hw; go_simp⟩) hHeld ?_
 try simp only [Act.put, zA, zB, zC, zD, zE, zF]
 refine wpAnyH_take (i := 3) (v := .pointer (some ⟨w.heap.size, 0, none⟩)) rfl (by kernel_rfl) (by kernel_rfl) (by kernel_rfl) (fun _ _ _ h => h) (Or.inl ⟨by kernel_rfl, fun w hw => by obtain ⟨s0, s1⟩ := hw; go_simp⟩) hHeld ?_
 try simp only [Act.put, zA, zB, zC, zD, zE, zF]
 refine wpAnyH_take (i := 4) (v := .slice so S.length sc) rfl (by kernel_rfl) (by kernel_rfl) (by kernel_rfl) (fun _ _ _ h => h) (Or.inl ⟨by kernel_rfl, fun w hw => by obtain ⟨s0, s1⟩ := hw; go_simp⟩) hHeld ?_
 try simp only [Act.put, zA, zB, zC, zD, zE, zF]
 refine wpAnyH_take (i := 5) (v := .int .i64 (S.length : Int)) rfl (by kernel_rfl) (by kernel_rfl) (by kernel_rfl) (fun _ _ _ h => h) (Or.inl ⟨by kernel_rfl, fun w hw => by obtain ⟨s0, s1⟩ := hw; go_simp⟩) hHeld ?_
 try simp only [Act.put, zA, zB, zC, zD, zE, zF]
 refine wpAnyH_take (i := 7) (v := .int .u32 (nx : Int)) rfl (by kernel_rfl) (by kernel_rfl) (by kernel_rfl) (fun _ _ _ h => h) (Or.inl ⟨by kernel_rfl, fun w hw => by obtain ⟨s0, s1⟩ := hw; go_simp⟩) hHeld ?_
 try simp only [Act.put, zA, zB, zC, zD, zE, zF]
 refine wpAnyH_ready (rs := [6]) (by kernel_rfl) (by simp) ?_
 refine AllReadyH.cons rfl (fun K hK => ?_) AllReadyH.nil
 go_simp
 refine (unhide HH _).mono ?_
 rintro e w5 ⟨rfl, hw5⟩
 have h5 := hw5.symm
 clear hw5
 subst h5
 refine hK.out _ _ hHeld (fun hHeld => ?_)
 clear hK K
 refine wpAnyH_take (i := 8) (v := .agg #[.bool true, .string ev, .bool tb, .int .u32 (nx : Int), .int .u32 0]) rfl (by kernel_rfl) (by kernel_rfl) (by kernel_rfl) (fun _ _ _ h => h) (Or.inl ⟨by kernel_rfl, fun w hw => by obtain ⟨s0, s1⟩ := hw; go_simp⟩) hHeld ?_
 try simp only [Act.put, zA, zB, zC, zD, zE, zF]
 refine wpAnyH_ready (rs := [9]) (by kernel_rfl) (by simp) ?_
 refine AllReadyH.cons rfl (fun K hK => ?_) AllReadyH.nil
 go_simp
 refine (unhide HC _ ((unhide HS1).later ((Below.refl _ _).drew))).mono ?_
 rintro e w6 ⟨rfl, hb6⟩
 refine hK.out _ _ ⟨(bcell3 hb6 _ _ hlt).trans hHeld.1, (bcell3 hb6 _ _ hlt).trans hHeld.2⟩ (fun hHeld => ?_)
 clear hK K
 have HB6 := hide (((unhide HBB).trans ((((Below.refl _ _).drew).trans hb6).mono (unhide HBB).size)))
 clear hb6
 refine wpAnyH_take (i := 10) (v := .int .u32 (fillN S true ev tb nx : Nat)) rfl (by kernel_rfl) (by kernel_rfl) (by kernel_rfl) (fun _ _ _ h => h) (Or.inl ⟨by kernel_rfl, fun w hw => by obtain ⟨s0, s1⟩ := hw; go_simp⟩) hHeld ?_
 try simp only [Act.put, zA, zB, zC, zD, zE, zF]
 refine wpAnyH_done (by kernel_rfl) ?_ _
 clear hHeld
 go_wp2_with fail
 go_ret
 exact ⟨rfl, unhide HB6⟩
theorem walkB_lt32 {S : List Sp} (h : StG S) (tr : List ByteArray) : walkB S tr < 4294967296 :=
 Nat.lt_of_lt_of_le (walkB_lt S tr) (Nat.le_trans (Nat.pow_le_pow_right (by decide) (show S.length + 1 ≤ 32 by have := h.len; omega)) (by decide))
set_option maxHeartbeats 2000000 in
set_option maxRecDepth 100000 in
theorem WHolds_any (w : World) (S : List Sp) (so : Option Addr) (sc wh : Nat) (tr : List ByteArray) (tt : Option Addr) (tc : Nat) (hS : StS w so S) (hG : StG S) (hT : TxS w tt tr) (hwh : wh < 4294967296) (hn : tr.length ≤ 10000000000000) :
  Calls Tryz.prog 79 #[.agg #[.slice so S.length sc, .int .u32 (wh : Int)], .slice tt tr.length tc] w fun e w' => e = .returned (.bool (walkB S tr &&& wh == wh)) ∧ Below w.heap.size w w' := by
 have HAH := hide (fun W nx ev h h' => Ahead_any W S so sc wh nx ev h hG h')
 have HBH := hide (fun W h => Behind_any W S so sc wh h hG)
 have HAL := hide (fun W p h => AllHold_any W so S.length sc wh p hwh h)
 have HLT := hide (fun l => walkB_lt32 hG l)
 have HS := hide hS
 have HT := hide hT
 have hb0 : (w.alloc (.cells #[.slice so S.length sc, .int .u32 (wh : Int)] 149)).heap[w.heap.size]? = some (.cells #[.slice so S.length sc, .int .u32 (wh : Int)] 149 (0, 0)) := blk_alloc _ _
 have hB : Below w.heap.size w (w.alloc (.cells #[.slice so S.length sc, .int .u32 (wh : Int)] 149)) := (Below.refl _ _).alloc (Nat.le_refl _) _
 have HB0 := hide hb0
 have HBB := hide hB
 have HS1 := hide ((unhide HS).later hB)
 have HT1 := hide ((unhide HT).later hB)
 clear hS hG hT hb0 hB HS HT
 go_enter Tryz.func79, Tryz.ntmps79
 go_wp2_with (go_at_call 125; refine (unhide HBH _ (unhide HS1)).mono ?_)
 rintro e w1 ⟨rfl, hb1⟩
 generalize (w.alloc (.cells #[.slice so S.length sc, .int .u32 (wh : Int)] 149)) = W at *
 have hltW := lt_of_blk (unhide HB0)
 have HB1 := hide hb1
 clear hb1
 go_wp2_with fail
 go_loopw [5, 6] (fun pv x wr => ∃ j : Nat, j ≤ tr.length ∧ pv = .int .u32 (walkB S (tr.drop j) : Nat) ∧ x = .int .i64 ((j : Int) - 1) ∧ Hid (Below W.heap.size W wr)) (fun _ x _ => (intOf x + 1).toNat)
 case atStart => exact ⟨tr.length, Nat.le_refl _, by rw [List.drop_length], rfl, HB1⟩
 case round =>
  obtain ⟨j, hj, rfl, rfl, HBL⟩ := hrel
  have bc := fun o => cell_of_blk (((unhide HBL).block _ hltW).trans (unhide HB0)) o
  have hlt := lt_of_blk (((unhide HBL).block _ hltW).trans (unhide HB0))
  have c0 : wr.cell? ⟨w.heap.size, 0, none⟩ = some (.slice so S.length sc) := bc 0
  have c1 : wr.cell? ⟨w.heap.size, 1, none⟩ = some (.int .u32 (wh : Int)) := bc 1
  clear bc
  have HSr := hide ((unhide HS1).later (unhide HBL))
  have hpl := unhide HLT (tr.drop j)
  by_cases hj0 : 1 ≤ j
  ·obtain ⟨k, rfl⟩ : ∃ k, j = k + 1 := ⟨j - 1, by omega⟩
   have hk : k < tr.length := by omega
   have hkn : (k : Int) < (tr.length : Int) := by omega
   have hdr : walkB S (tr.drop k) = fillN S true tr[k] ((walkB S (tr.drop (k + 1))).testBit S.length) (walkB S (tr.drop (k + 1))) := by
    rw [List.drop_eq_getElem_cons hk, walkB]
   obtain ⟨b, off, hto, hbl, hcx⟩ := (unhide HT1).later (unhide HBL) k tr[k] (List.getElem?_eq_getElem hk)
   have HDR := hide hdr
   subst hto
   clear hdr
   generalize tr[k] = x at *
   generalize hP : walkB S (tr.drop (k + 1)) = P at *
   clear hP
   have hik : ((k + 1 : Nat) : Int) - 1 = (k : Int) := by omega
   rw [hik]
   clear hik
   go_wp2_with fail
   refine wp_region_held_drew (S := fun w' => w'.cell? ⟨w.heap.size, 0, none⟩ = some (.slice so S.length sc) ∧ w'.cell? ⟨w.heap.size, 1, none⟩ = some (.int .u32 (wh : Int)) ∧ w'.cell? ⟨b, off + k, none⟩ = some (.string x)) (by kernel_rfl) ?_ (fun hHeld => ?_)
   ·exact ⟨c0, c1, hcx⟩
   refine wpAnyH_take (i := 0) (v := .agg #[.slice so S.length sc, .int .u32 (wh : Int)]) rfl (by kernel_rfl) (by kernel_rfl) (by kernel_rfl) (fun _ _ _ h => h) (Or.inl ⟨by kernel_rfl, fun w hw => by obtain ⟨s0, s1, s2⟩ := hw; go_simp⟩) hHeld ?_
   try simp only [Act.put, zA, zB, zC, zD, zE, zF]
   refine wpAnyH_take (i := 1) (v := .int .u32 (P : Int)) rfl (by kernel_rfl) (by kernel_rfl) (by kernel_rfl) (fun _ _ _ h => h) (Or.inl ⟨by kernel_rfl, fun w hw => by obtain ⟨s0, s1, s2⟩ := hw; go_simp⟩) hHeld ?_
   try simp only [Act.put, zA, zB, zC, zD, zE, zF]
   refine wpAnyH_take (i := 2) (v := .slice (some ⟨b, off, none⟩) tr.length tc) rfl (by kernel_rfl) (by kernel_rfl) (by kernel_rfl) (fun _ _ _ h => h) (Or.inl ⟨by kernel_rfl, fun w hw => by obtain ⟨s0, s1, s2⟩ := hw; go_simp⟩) hHeld ?_
   try simp only [Act.put, zA, zB, zC, zD, zE, zF]
   refine wpAnyH_take (i := 3) (v := .int .i64 (k : Int)) rfl (by kernel_rfl) (by kernel_rfl) (by kernel_rfl) (fun _ _ _ h => h) (Or.inl ⟨by kernel_rfl, fun w hw => by obtain ⟨s0, s1, s2⟩ := hw; go_simp⟩) hHeld ?_
   try simp only [Act.put, zA, zB, zC, zD, zE, zF]
   refine wpAnyH_take (i := 4) (v := .pointer (some ⟨b, off + k, none⟩)) rfl (by kernel_rfl) (by kernel_rfl) (by kernel_rfl) (fun _ _ _ h => h) (Or.inl ⟨by kernel_rfl, fun w hw => by obtain ⟨s0, s1, s2⟩ := hw; go_simp⟩) hHeld ?_
   try simp only [Act.put, zA, zB, zC, zD, zE, zF]
   refine wpAnyH_take (i := 5) (v := .string x) rfl (by kernel_rfl) (by kernel_rfl) (by kernel_rfl) (fun _ _ _ h => h) (Or.inl ⟨by kernel_rfl, fun w hw => by obtain ⟨s0, s1, s2⟩ := hw; go_simp⟩) hHeld ?_
   try simp only [Act.put, zA, zB, zC, zD, zE, zF]
   refine wpAnyH_ready (rs := [6]) (by kernel_rfl) (by simp) ?_
   refine AllReadyH.cons rfl (fun K hK => ?_) AllReadyH.nil
   go_simp
   refine (unhide HAH _ P x ((unhide HSr).later ((Below.refl _ _).drew)) hpl).mono ?_
   rintro e w6 ⟨rfl, hb6⟩
   refine hK.out _ _ ⟨(bcell3 hb6 _ _ hlt).trans hHeld.1, (bcell3 hb6 _ _ hlt).trans hHeld.2.1, (bcell3 hb6 _ _ hbl).trans hHeld.2.2⟩ (fun hHeld => ?_)
   clear hK K
   have HB6 := hide (((unhide HBL).trans ((((Below.refl _ _).drew).trans hb6).mono (unhide HBL).size)))
   clear hb6
   rw [← unhide HDR]
   refine wpAnyH_take (i := 7) (v := .int .u32 (walkB S (tr.drop k) : Nat)) rfl (by kernel_rfl) (by kernel_rfl) (by kernel_rfl) (fun _ _ _ h => h) (Or.inl ⟨by kernel_rfl, fun w hw => by obtain ⟨s0, s1, s2⟩ := hw; go_simp⟩) hHeld ?_
   try simp only [Act.put, zA, zB, zC, zD, zE, zF]
   refine wpAnyH_done (by kernel_rfl) ?_ _
   clear hHeld
   go_wp2_with fail
   go_roundw
   case rel => exact ⟨k, by omega, rfl, by go_num, HB6⟩
   case measure => simp [intOf]
  ·obtain rfl : j = 0 := by omega
   rw [List.drop_zero] at hpl ⊢
   go_wp2_with (go_at_call 127; refine (unhide HAL _ _ hpl).mono ?_)
   rintro e w6 ⟨rfl, hb6⟩
   have HB6 := hide (((unhide HBB).trans ((unhide HBL).mono (unhide HBB).size)).trans (hb6.mono (by have := (unhide HBB).size; have := (unhide HBL).size; omega)))
   clear hb6
   go_wp2_with fail
   go_ret
   exact ⟨rfl, unhide HB6⟩
end Go.Proofs.YtidakhhekofkoaaGreatDoor
