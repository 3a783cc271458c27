/- The reference's model: its activities and rules. -/
import Derived.Test.YtidakhhekofkoaaGreatDoorG14
set_option linter.unusedSimpArgs false
namespace Go.Proofs.YtidakhhekofkoaaGreatDoor
open Go.RowKit Go.Deep
theorem rule_any (w : World) (pb g cap : Nat) (L : List Tk) (i : Nat) (h : PS w pb g cap L i false) :
  Calls Tryz.prog 248 #[.pointer (some ⟨pb, 0, none⟩)] w fun e w' => RLeft L pb g cap w w' e (ruleRead (L.drop i)) := by
 by_cases h2 : headK (L.drop i) = 2
 ·by_cases h18 : headK (L.drop i).tail = 18
  ·obtain ⟨t, u, r, ht, hk⟩ := head_yes h.ends (by decide) h2
   have hu : u.k = 18 := by rw [ht] at h18; exact h18
   have he := h.ends
   rw [ht] at he
   obtain ⟨v, r0, rfl⟩ := he.2.more (by omega)
   exact rule_call w pb g cap L i t u v r0 h ht hk hu
  ·exact rule_formula2 w pb g cap L i h h2 h18
 ·exact rule_formula w pb g cap L i h h2
def KT (w w' : World) : Prop := ∀ (b : Nat) (c : Array Value) (ty : Nat) (m : Nat × Nat), (ty = 232 ∨ ty = 292) → w.heap[b]? = some (.cells c ty m) → w'.heap[b]? = some (.cells c ty m)
theorem KT.refl (w : World) : KT w w := fun _ _ _ _ _ h => h
theorem KT.trans {a b c : World} (h : KT a b) (k : KT b c) : KT a c := fun x y z m ht hh => k x y z m ht (h x y z m ht hh)
theorem KT.below {w w' : World} (h : Below w.heap.size w w') : KT w w' := fun b _ _ _ _ hh => (h.block b (lt_of_blk hh)).trans hh
theorem KT.alloc (w : World) (o : Obj) : KT w (w.alloc o) := KT.below ((Below.refl _ _).alloc (Nat.le_refl _) _)
theorem KT.grown {w w' : World} {r ty : Nat} (h : w.grownBy w' (some r)) (ht : TyAt w r ty) (h1 : ty ≠ 232) (h2 : ty ≠ 292) : KT w w' := fun b c t m hty hh => by
 refine (h.block b (lt_of_blk hh) ?_).trans hh
 intro e
 cases e
 obtain ⟨c', m', hc⟩ := ht
 rw [hc] at hh
 injection hh with hh
 injection hh with _ hh _
 rcases hty with rfl | rfl
 ·exact h1 hh
 ·exact h2 hh
theorem KT.grownNone {w w' : World} (h : w.grownBy w' none) : KT w w' := fun b _ _ _ _ hh => (h.block b (lt_of_blk hh) (by simp)).trans hh
theorem KT.set {w : World} {b ty : Nat} (o : Nat) (v : Value) (ht : TyAt w b ty) (h1 : ty ≠ 232) (h2 : ty ≠ 292) : KT w (w.setCell ⟨b, o, none⟩ v) := KT.grown (grown_set w b o v) ht h1 h2
theorem KT.ps {w w' : World} {pb g cap : Nat} {L : List Tk} {i : Nat} {bad : Bool} (h : PS w pb g cap L i bad) (hg : w.grownBy w' (some pb)) : KT w w' := KT.grown hg ⟨_, _, h.blk⟩ (by decide) (by decide)
theorem KT.isF {w w' : World} (h : KT w w') : ∀ {f : Fm} {p : Option Addr}, IsF w f p → IsF w' f p
 | .nil, _, hf => hf
 | .node _ _ _ _ _, _, ⟨b, vl, vr, hv, hb, hl, hr⟩ => ⟨b, vl, vr, hv, h _ _ _ _ (Or.inr rfl) hb, h.isF hl, h.isF hr⟩
theorem KT.owns {w w' : World} (h : KT w w') {base n : Nat} {v : Value} {xs : List Value} (ho : w.ownsRow base 232 3 v n xs) : w'.ownsRow base 232 3 v n xs := by
 obtain ⟨h1, h2⟩ := ho
 refine ⟨h1, ?_⟩
 rcases h2 with h2 | ⟨g, cap, cur, hv, hgb, hh, r⟩
 ·exact Or.inl h2
 ·exact Or.inr ⟨g, cap, cur, hv, hgb, h _ _ _ _ (Or.inl rfl) hh, r⟩
theorem KT.rl {w w' : World} (h : KT w w') {r : Rl} {a b : Int} {s : ByteArray} {c : Int} {o : Option Addr} {n k : Nat} {d : Int} {p : Option Addr} (hr : RlIs w r a b s c o n k d p) : RlIs w' r a b s c o n k d p := by
 obtain ⟨h1, h2⟩ := hr
 refine ⟨h1, ?_⟩
 split
 ·rename_i hc; rw [if_pos hc] at h2; exact ⟨h2.1, h2.2.1, h2.2.2.1, h.owns h2.2.2.2.1, h2.2.2.2.2⟩
 ·rename_i hc; rw [if_neg hc] at h2; exact ⟨h.isF h2.1, h2.2⟩
def RulesAre (w : World) : List Rl → List Value → Prop
 | [], cs => cs = []
 | r :: rs, cs => ∃ a b s c o n k d p cs', cs = [.int .i64 a, .int .u8 b, .string s, .int .i64 c, .slice o n k, .int .i64 d, .pointer p] ++ cs' ∧ RlIs w r a b s c o n k d p ∧ RulesAre w rs cs'
theorem KT.rules {w w' : World} (h : KT w w') : ∀ {rs : List Rl} {cs : List Value}, RulesAre w rs cs → RulesAre w' rs cs
 | [], _, hh => hh
 | _ :: _, _, ⟨a, b, s, c, o, n, k, d, p, cs', e, hr, hrs⟩ => ⟨a, b, s, c, o, n, k, d, p, cs', e, h.rl hr, h.rules hrs⟩
theorem RulesAre.snoc {w : World} : ∀ {rs : List Rl} {cs : List Value} {r : Rl} {a b : Int} {s : ByteArray} {c : Int} {o : Option Addr} {n k : Nat} {d : Int} {p : Option Addr}, RulesAre w rs cs → RlIs w r a b s c o n k d p →
  RulesAre w (rs ++ [r]) (cs ++ [.int .i64 a, .int .u8 b, .string s, .int .i64 c, .slice o n k, .int .i64 d, .pointer p])
 | [], _, r, a, b, s, c, o, n, k, d, p, h, hr => ⟨a, b, s, c, o, n, k, d, p, [], by rw [show _ = [] from h]; simp, hr, rfl⟩
 | x :: xs, _, r, a, b, s, c, o, n, k, d, p, ⟨a', b', s', c', o', n', k', d', p', cs', e, hx, hxs⟩, hr => ⟨a', b', s', c', o', n', k', d', p', _, by rw [e, List.append_assoc], hx, hxs.snoc hr⟩
def plusA (acc : List Tk) (x : Except Nat (List Tk × List Tk)) : Except Nat (List Tk × List Tk) := match x with | .error q => .error q | .ok (ts, l) => .ok (acc ++ ts, l)
def plusR (al : List Tk) (acc : List Rl) (x : Except Nat (List Rl)) : Except Nat (List Tk × List Rl) := match x with | .error q => .error q | .ok rs => .ok (al, acc ++ rs)
def actsX (l : List Tk) : Except Nat (List Tk × List Tk) := if headK l = 4 then actsRead l.length l.tail else .error (headP l)
theorem modelRead_eq (l : List Tk) : modelRead l = (match actsX l with | .error q => .error q | .ok (al, l1) => if headK l1 = 21 then plusR al [] (rulesRead l1.length l1.tail) else .error (headP l1)) := by
 unfold modelRead actsX
 split
 ·cases actsRead l.length l.tail with
  | error q => rfl
  | ok x =>
   obtain ⟨al, l1⟩ := x
   simp only
   split
   ·cases rulesRead l1.length l1.tail <;> rfl
   ·rfl
 ·rfl
theorem Tryz.infoRul : (Tryz.prog.info? 235).map (fun i => (i.zero, i.size, i.bytes)) = some (some (.agg #[.int .i64 0, .int .u8 0, .string ⟨#[]⟩, .int .i64 0, .slice none 0 0, .int .i64 0, .pointer none]), 7, 80) := by kernel_rfl
theorem own_ty {w : World} {base e size n b ty : Nat} {v : Value} {xs : List Value} {c : Array Value} {m : Nat × Nat} (h : w.ownsRow base e size v n xs) (hb : v.ownBlock = some b) (hc : w.heap[b]? = some (.cells c ty m)) (hne : ty ≠ e) : False := by
 obtain ⟨_, h2 | ⟨g, cap, cur, hv, _, hh, _⟩⟩ := h
 ·rw [h2.1] at hb; cases hb
 ·rw [hv] at hb; cases hb
  rw [hc] at hh
  injection hh with hh
  injection hh with _ hh _
  exact hne hh
theorem actsRead_len : ∀ n l ts l', actsRead n l = .ok (ts, l') → l'.length ≤ l.length
 | 0, _, _, _, h => by simp [actsRead] at h
 | n + 1, l, ts, l', h => by
  rw [actsRead] at h
  split at h
  ·split at h
   ·split at h
    ·cases h
    ·rename_i ts1 l1 e
     have := actsRead_len n _ _ _ e
     cases h; simp at this; omega
   ·cases h; simp
  ·cases h
theorem ruleRead_len (l : List Tk) (r : Rl) (l' : List Tk) (h : ruleRead l = .ok (r, l')) : l'.length ≤ l.length := by
 rw [ruleRead] at h
 split at h
 ·split at h
  ·split at h
   ·split at h
    ·split at h
     ·cases h; simp; omega
     ·cases h
    ·cases h
   ·split at h
    ·cases h; simp; omega
    ·cases h
  ·cases h
 ·split at h
  ·cases h
  ·rename_i f l1 e
   have := pf_len _ _ _ _ _ _ e
   cases h; exact this
def RBoth (L : List Tk) (pb g cap j : Nat) (bad : Bool) (w w' : World) (e : Ending) : Prop :=
  w.grownBy w' (some pb) ∧ ∃ a b s c o n k d p j' bad', e = .returned (rlV a b s c o n k d p) ∧ PS w' pb g cap L j' bad' ∧
    ((bad' = false ∧ bad = false ∧ ∃ r, ruleRead (L.drop j) = .ok (r, L.drop j') ∧ RlIs w' r a b s c o n k d p) ∨
     (bad' = true ∧ (bad = true → j' = j) ∧ (bad = false → ruleRead (L.drop j) = .error (headP (L.drop j')))))
theorem rule_both (w : World) (pb g cap : Nat) (L : List Tk) (j : Nat) (bad : Bool) (h : PS w pb g cap L j bad) :
  Calls Tryz.prog 248 #[.pointer (some ⟨pb, 0, none⟩)] w fun e w' => RBoth L pb g cap j bad w w' e := by
 cases bad with
 | false =>
  refine (rule_any w pb g cap L j h).mono ?_
  rintro e w' ⟨hg, a, b, s, c, o, n, k, d, p, he, hx⟩
  cases hr : ruleRead (L.drop j) with
  | error q =>
   rw [hr] at hx
   obtain ⟨j', hq, hp⟩ := hx
   exact ⟨hg, a, b, s, c, o, n, k, d, p, j', true, he, hp, Or.inr ⟨rfl, by simp, fun _ => by rw [hr, hq]⟩⟩
  | ok x =>
   obtain ⟨r, l⟩ := x
   rw [hr] at hx
   obtain ⟨hr', j', hl, hp⟩ := hx
   subst hl
   exact ⟨hg, a, b, s, c, o, n, k, d, p, j', false, he, hp, Or.inl ⟨rfl, rfl, r, hr, hr'⟩⟩
 | true =>
  refine (rule_lost w pb g cap L j h).mono ?_
  rintro e w' ⟨hg, a, b, s, c, o, n, k, d, p, he, hp⟩
  exact ⟨hg, a, b, s, c, o, n, k, d, p, j, true, he, hp, Or.inr ⟨rfl, fun _ => rfl, by simp⟩⟩
theorem own_ne {w : World} {base e size n pb : Nat} {v : Value} {xs : List Value} (h : w.ownsRow base e size v n xs) (hb : pb < base) : v.ownBlock ≠ some pb := by
 intro e; have := own_lt h pb e; omega
theorem KT.own {w w' : World} {base n : Nat} {v : Value} {xs : List Value} (h : w.grownBy w' v.ownBlock) (ho : w.ownsRow base 235 7 v n xs) : KT w w' := by
 obtain ⟨_, h2 | ⟨g, cap, cur, hv, _, hh, _⟩⟩ := ho
 ·rw [h2.1] at h; exact KT.grownNone h
 ·rw [hv] at h; exact KT.grown (r := g) h ⟨_, _, hh⟩ (by decide) (by decide)
theorem RlIs.pl {w : World} {r : Rl} {a b : Int} {s : ByteArray} {c : Int} {o : Option Addr} {n k : Nat} {d : Int} {p : Option Addr} (h : RlIs w r a b s c o n k d p) (q : Nat) : RlIs w { r with pl := q } q b s c o n k d p := ⟨rfl, h.2⟩
def LA (w : World) (pb g cap : Nat) (L : List Tk) (m : Nat) (mv : Value) (wr : World) : Prop :=
 ∃ (mb : Bool) (o1 : Option Addr) (n1 k1 : Nat) (acc : List Tk) (j : Nat) (bad : Bool), mv = .bool mb ∧ w.grownBy wr (some pb) ∧ PS wr pb g cap L j bad ∧
  wr.heap[w.heap.size]? = some (.cells #[.slice none 0 0, .slice none 0 0] 228 (0, 0)) ∧ wr.heap[w.heap.size + 1]? = some (.cells #[.slice o1 n1 k1, .slice none 0 0] 228 (0, 0)) ∧
  wr.ownsRow w.heap.size 232 3 (.slice o1 n1 k1) acc.length (tkCellsR acc) ∧
  ((bad = false ∧ mb = true ∧ (L.drop j).length ≤ m ∧ acc.length + (L.drop j).length ≤ L.length ∧ actsX (L.drop 0) = plusA acc (actsRead m (L.drop j))) ∨ (bad = false ∧ mb = false ∧ actsX (L.drop 0) = .ok (acc, L.drop j)) ∨ (bad = true ∧ actsX (L.drop 0) = .error (headP (L.drop j))))
def LB (w : World) (pb g cap : Nat) (L : List Tk) (m : Nat) (wr : World) : Prop :=
  ∃ (o1 : Option Addr) (n1 k1 : Nat) (al : List Tk) (o2 : Option Addr) (n2 k2 nR : Nat) (cells : List Value) (j : Nat) (bad : Bool), w.grownBy wr (some pb) ∧ PS wr pb g cap L j bad ∧
    wr.heap[w.heap.size]? = some (.cells #[.slice none 0 0, .slice none 0 0] 228 (0, 0)) ∧ wr.heap[w.heap.size + 1]? = some (.cells #[.slice o1 n1 k1, .slice o2 n2 k2] 228 (0, 0)) ∧
    wr.ownsRow w.heap.size 235 7 (.slice o2 n2 k2) nR cells ∧
    ((bad = false ∧ wr.ownsRow w.heap.size 232 3 (.slice o1 n1 k1) al.length (tkCellsR al) ∧ ∃ rs, nR = rs.length ∧ RulesAre wr rs cells ∧ (L.drop j).length ≤ m ∧ rs.length + (L.drop j).length ≤ L.length ∧ modelRead (L.drop 0) = plusR al rs (rulesRead m (L.drop j))) ∨
     (bad = true ∧ modelRead (L.drop 0) = .error (headP (L.drop j))))
def MLeft (L : List Tk) (pb g cap : Nat) (w w' : World) (e : Ending) : Prop :=
 w.grownBy w' (some pb) ∧ ∃ o1 n1 k1 o2 n2 k2, e = .returned (.agg #[.slice o1 n1 k1, .slice o2 n2 k2]) ∧ (match modelRead (L.drop 0) with
  | .ok (al, rs) => w'.ownsRow 0 232 3 (.slice o1 n1 k1) al.length (tkCellsR al) ∧ (∃ cells, w'.ownsRow 0 235 7 (.slice o2 n2 k2) rs.length cells ∧ RulesAre w' rs cells) ∧ ∃ j, PS w' pb g cap L j false
  | .error q => ∃ j, headP (L.drop j) = q ∧ PS w' pb g cap L j true)
set_option maxHeartbeats 4000000 in
set_option maxRecDepth 100000 in
theorem model_any (w : World) (pb g cap : Nat) (L : List Tk) (h : PS w pb g cap L 0 false) :
  Calls Tryz.prog 200 #[.pointer (some ⟨pb, 0, none⟩)] w fun e w' => MLeft L pb g cap w w' e := by
 obtain ⟨t, r, ht⟩ := drop_ne h.lt
 have HT := hide ht
 have HP := hide h
 have hp0 := lt_of_blk h.blk
 have hgl0 := h.gLt
 clear h ht
 obtain ⟨i0, hi0, hz0, hz1, hz2⟩ := info_parts Tryz.infoTok
 obtain ⟨m0, hm0, hmz0, hmz1, hmz2⟩ := info_parts Tryz.infoRul
 have fl0 := field0
 have fl2 := field2
 obtain ⟨j1, hj1⟩ : ∃ j, j = if (!false && t.k == 4) = true then 0 + 1 else 0 := ⟨_, rfl⟩
 obtain ⟨b1, hb1⟩ : ∃ b, b = !(!false && t.k == 4) := ⟨_, rfl⟩
 have HJ1 := hide hj1
 have HB1 := hide hb1
 clear hj1 hb1
 go_enter Tryz.func200, Tryz.ntmps200
 go_wp2_with (go_at_call 245; refine (must_any _ 4 _ _ _ _ _ _ _ _ _ (((unhide HP).alloc _).alloc _) (unhide HT) rfl (by decide) (by decide) j1 b1 (unhide HJ1) (unhide HB1)).mono ?_)
 rintro e w1 ⟨rfl, hp1, hg1⟩
 have HP1 := hide hp1
 have HG1 := hide ((grown_alloc (grown_alloc (World.grownBy.refl w (some pb)) _) _).trans hg1)
 have HR1 := hide (show w1.heap[w.heap.size]? = some (.cells #[.slice none 0 0, .slice none 0 0] 228 (0, 0)) from
  (hg1.block _ (by simp; omega) (by simp; omega)).trans ((Below.heap_alloc _ _ _ (by simp)).trans (blk_alloc _ _)))
 have HV1 := hide (show w1.heap[w.heap.size + 1]? = some (.cells #[.slice none 0 0, .slice none 0 0] 228 (0, 0)) from
  (hg1.block _ (by simp) (by simp; omega)).trans (blk_alloc' _ _ _ (by simp)))
 clear hp1 hg1
 have hX : b1 = false → j1 = 1 ∧ actsX (L.drop 0) = actsRead L.length (L.drop 1) := by
  intro hb
  have h1 := unhide HB1
  rw [hb] at h1
  have hk : t.k = 4 := by simpa using h1
  refine ⟨by rw [unhide HJ1]; simp [hk], ?_⟩
  unfold actsX
  rw [if_pos (by rw [unhide HT]; exact hk), List.tail_drop]; rfl
 have hX' : b1 = true → j1 = 0 ∧ actsX (L.drop 0) = .error (headP (L.drop 0)) := by
  intro hb
  have h1 := unhide HB1
  rw [hb] at h1
  have hk : t.k ≠ 4 := by simpa using h1
  refine ⟨by rw [unhide HJ1]; simp [hk], ?_⟩
  unfold actsX
  rw [if_neg (by rw [unhide HT]; exact hk)]
 have hlen := (unhide HP).len
 have hstart : LA w pb g cap L L.length (.bool true) w1 := by
  refine ⟨true, none, 0, 0, [], j1, b1, rfl, unhide HG1, unhide HP1, unhide HR1, unhide HV1, World.ownsRow_nil _ _ _ _, ?_⟩
  cases b1 with
  | false =>
   obtain ⟨hj, hx⟩ := hX rfl
   subst hj
   refine Or.inl ⟨rfl, rfl, by simp, by simp, ?_⟩
   rw [hx]; unfold plusA; cases actsRead L.length (L.drop 1) <;> simp
  | true =>
   obtain ⟨hj, hx⟩ := hX' rfl
   subst hj
   exact Or.inr (Or.inr ⟨rfl, hx⟩)
 have HS := hide hstart
 clear hstart hX hX' HJ1 HB1 HP1 HG1 HR1 HV1
 go_wp2_with fail
 go_loopg [4] L.length (fun m v wr => LA w pb g cap L m v wr)
 case atStart => exact unhide HS
 case round =>
  clear HS HT
  obtain ⟨mb, o1, n1, k1, acc, j, bad, rfl, hgr, hps, hrb, hvb, how, hcase⟩ := hrel
  have HG := hide hgr
  have HP2 := hide hps
  have HR := hide hrb
  have HV := hide hvb
  have HO := hide how
  have hz : w.heap.size + 1 < wr.heap.size := lt_of_blk hvb
  obtain ⟨c0, c1, c2⟩ := hps.cells
  clear hgr hps hrb hvb how
  rcases hcase with ⟨rfl, rfl, hm, hacc, hx⟩ | hdone
  ·obtain ⟨m, rfl⟩ : ∃ m, gk = m + 1 := ⟨gk - 1, by have := (unhide HP2).lt; rw [List.length_drop] at hm; omega⟩
   obtain ⟨y, r1, hy⟩ := drop_ne (unhide HP2).lt
   have HY := hide hy
   have HX := hide hx
   have HM := hide hm
   have HAC := hide hacc
   clear hx hm
   obtain ⟨j3, hj3⟩ : ∃ j3, j3 = if (!false && y.k == 2) = true then j + 1 else j := ⟨_, rfl⟩
   obtain ⟨b3, hb3⟩ : ∃ b, b = !(!false && y.k == 2) := ⟨_, rfl⟩
   have HJ3 := hide hj3
   have HB3 := hide hb3
   have hal : acc.length < 401 := by have := congrArg List.length hy; simp at this hacc; omega
   clear hj3 hb3 hy hacc
   go_wp2_with (go_at_call 246; refine (name_any _ _ _ _ _ _ _ _ _ (unhide HP2) (unhide HY) j3 b3 (unhide HJ3) (unhide HB3)).mono ?_)
   rintro e w3 ⟨rfl, hp3, hg3⟩
   simp only [tkR]
   have HP3 := hide hp3
   have HG3 := hide ((unhide HG).trans hg3)
   have HR3 := hide ((hg3.block w.heap.size (by omega) (by simp; omega)).trans (unhide HR))
   have HV3 := hide ((hg3.block (w.heap.size + 1) hz (by simp; omega)).trans (unhide HV))
   have HO3 := hide ((KT.ps (unhide HP2) hg3).owns (unhide HO))
   have hz3 : w.heap.size + 1 < w3.heap.size := lt_of_blk (unhide HV3)
   clear hp3 hg3 c0 c1 c2
   have vc := fun o => cell_of_blk (unhide HV3) o
   have vf := fun o => frozen_of_blk (unhide HV3) o
   go_wp2_with (at_builtin; go_must (refine wpList_append_own _ rfl _ _ 225 rfl w.heap.size 232 i0 (.agg #[.int .u8 0, .string ⟨#[]⟩, .int .i64 0]) 3 32 Tryz.underlying225 hi0 hz0 hz1 hz2 rfl (by decide) _ acc.length (tkCellsR acc) rfl ?c0 ⟨w3.heap.size + 1, 0, none⟩ 1 1 [.int .u8 (refK y.k), .string y.s, .int .i64 y.p] rfl rfl ?c1 ?c2 ?c3 ?c4 ?c5 ?_))
   case c0 => exact ((unhide HO3).alloc _).alloc _
   case c1 =>
    intro j u hj
    match j, hj with
    | 0, hj => simp at hj; subst hj; exact (cell_of_blk (blk_alloc' _ _ _ (by simp)) 0).trans rfl
    | 1, hj => simp at hj; subst hj; exact (cell_of_blk (blk_alloc' _ _ _ (by simp)) 1).trans rfl
    | 2, hj => simp at hj; subst hj; exact (cell_of_blk (blk_alloc' _ _ _ (by simp)) 2).trans rfl
    | j + 3, hj => simp at hj
   case c2 => intro u hu; simp at hu; rcases hu with rfl | rfl | rfl <;> rfl
   case c3 => unfold maxLen; omega
   case c4 => omega
   case c5 => simp; omega
   intro v4 w4 hown4 hgrow4 _
   obtain ⟨hlen4, h4 | ⟨g4, cap4, cur4, hv4, hrest4⟩⟩ := hown4
   ·exact absurd h4.2 (by omega)
   subst hv4
   have HO4 : Hid (w4.ownsRow w.heap.size 232 3 (.slice (some ⟨g4, 0, none⟩) (acc.length + 1) cap4) (acc ++ [y]).length (tkCellsR (acc ++ [y]))) := by
    rw [tkCellsR_snoc, List.length_append]; exact ⟨hlen4, Or.inr ⟨g4, cap4, cur4, rfl, hrest4⟩⟩
   have hol := own_lt (unhide HO3)
   have hgp : some pb ≠ (Value.slice o1 n1 k1).ownBlock := by intro e; have := hol pb e.symm; omega
   have hgg : some g ≠ (Value.slice o1 n1 k1).ownBlock := by intro e; have := hol g e.symm; omega
   have hgR : some w.heap.size ≠ (Value.slice o1 n1 k1).ownBlock := by intro e; exact own_ty (unhide HO3) e.symm (unhide HR3) (by decide)
   have hgV : some (w.heap.size + 1) ≠ (Value.slice o1 n1 k1).ownBlock := by intro e; exact own_ty (unhide HO3) e.symm (unhide HV3) (by decide)
   have HP4 := hide ((((unhide HP3).alloc _).alloc _).grown hgrow4 hgp hgg)
   have HG4 := hide ((grown_alloc (grown_alloc (unhide HG3) _) _).andThen hgrow4 (fun j hj => by left; exact (hol j hj).1))
   have HR4 := hide ((hgrow4.block w.heap.size (by simp; omega) hgR).trans ((Below.heap_alloc _ _ _ (by simp; omega)).trans ((Below.heap_alloc _ _ _ (by omega)).trans (unhide HR3))))
   have HV4 := hide ((hgrow4.block (w.heap.size + 1) (by simp; omega) hgV).trans ((Below.heap_alloc _ _ _ (by simp; omega)).trans ((Below.heap_alloc _ _ _ (by omega)).trans (unhide HV3))))
   have hz4 : w.heap.size + 1 < w4.heap.size := lt_of_blk (unhide HV4)
   have hg4ne : g4 ≠ w.heap.size + 1 := by intro e; have h1 := hrest4.2.1; rw [e, unhide HV4] at h1; simp at h1
   have hg4ge : w.heap.size ≤ g4 := hrest4.1
   clear vc vf hgrow4 hrest4 hol hgp hgg hgR hgV hlen4
   have vc := fun o => cell_of_blk (unhide HV4) o
   have vf := fun o => frozen_of_blk (unhide HV4) o
   obtain ⟨x, r2, hx2⟩ := drop_ne (unhide HP4).lt
   have HX2 := hide hx2
   clear hx2
   obtain ⟨b5, hb5⟩ : ∃ b, b = (!b3 && x.k == 20) := ⟨_, rfl⟩
   obtain ⟨j5, hj5⟩ : ∃ j, j = if (!b3 && x.k == 20) = true then j3 + 1 else j3 := ⟨_, rfl⟩
   have HB5 := hide hb5
   have HJ5 := hide hj5
   clear hb5 hj5
   go_wp2_with (go_at_call 247; refine (take_any _ 20 _ _ _ _ _ _ _ _ _ ((unhide HP4).setOther _ _ _ (by omega) (by omega)) (unhide HX2) rfl (by decide) (by decide) b5 (unhide HB5) j5 (unhide HJ5)).mono ?_)
   rintro e w5 ⟨rfl, hp5, hg5⟩
   have HP5 := hide hp5
   have HG5 := hide ((grown_setNew (unhide HG4) (b := w.heap.size + 1) (by omega) _ _).trans hg5)
   have HR5 := hide ((hg5.block w.heap.size (by simp [World.setCell]; omega) (by simp; omega)).trans ((Below.heap_setCell _ _ _ _ (by simp)).trans (unhide HR4)))
   have HV5 : Hid (w5.heap[w.heap.size + 1]? = some (.cells #[.slice (some ⟨g4, 0, none⟩) (acc.length + 1) cap4, .slice none 0 0] 228 (0, 0))) :=
    (hg5.block (w.heap.size + 1) (by simp [World.setCell]; omega) (by simp; omega)).trans ((blk_set (unhide HV4) _ _).trans rfl)
   have HO5 := hide (owns_keep (owns_keep (unhide HO4) (grown_set _ (w.heap.size + 1) 0 (.slice (some ⟨g4, 0, none⟩) (acc.length + 1) cap4)) (by simp [Value.ownBlock]; omega)) hg5 (by simp [Value.ownBlock]; omega))
   clear vc vf hp5 hg5
   go_wp2_with fail
   go_roundg m
   case measure => omega
   case rel =>
    refine ⟨b5, _, _, _, acc ++ [y], j5, b3, rfl, unhide HG5, unhide HP5, unhide HR5, unhide HV5, unhide HO5, ?_⟩
    have hX := unhide HX
    rw [unhide HY, actsRead] at hX
    have hm := unhide HM
    have hac := unhide HAC
    have hb3 := unhide HB3
    have hj3 := unhide HJ3
    have hb5 := unhide HB5
    have hj5 := unhide HJ5
    have hx2 := unhide HX2
    have hy := unhide HY
    by_cases hyk : y.k = 2
    ·have e3 : b3 = false := by rw [hb3]; simp [hyk]
     have ej : j3 = j + 1 := by rw [hj3]; simp [hyk]
     subst e3 ej
     have htl := drop_tail hy
     rw [htl] at hx2
     rw [if_pos (show headK (y :: r1) = 2 from hyk)] at hX
     by_cases hxk : x.k = 20
     ·have e5 : b5 = true := by rw [hb5]; simp [hxk]
      have ej5 : j5 = j + 1 + 1 := by rw [hj5]; simp [hxk]
      subst e5 ej5
      have htl2 : L.drop (j + 1 + 1) = r2 := drop_tail (htl.trans hx2)
      rw [if_pos (show headK (y :: r1).tail = 20 by rw [List.tail_cons, hx2]; exact hxk)] at hX
      refine Or.inl ⟨rfl, rfl, ?_, ?_, ?_⟩
      ·rw [htl2]; rw [hy, hx2] at hm; simp at hm; omega
      ·rw [htl2]; rw [hy, hx2] at hac; simp at hac ⊢; omega
      ·rw [hX, htl2, hx2]
       simp only [List.tail_cons]
       unfold plusA
       cases actsRead m r2 with
       | error q => rfl
       | ok z => obtain ⟨ts, l⟩ := z; simp [headT]
     ·have e5 : b5 = false := by rw [hb5]; simp [hxk]
      have ej5 : j5 = j + 1 := by rw [hj5]; simp [hxk]
      subst e5 ej5
      rw [if_neg (show ¬ headK (y :: r1).tail = 20 by rw [List.tail_cons, hx2]; exact hxk)] at hX
      refine Or.inr (Or.inl ⟨rfl, rfl, ?_⟩)
      rw [hX, htl]; rfl
    ·have e3 : b3 = true := by rw [hb3]; simp [hyk]
     have ej : j3 = j := by rw [hj3]; simp [hyk]
     subst e3 ej
     have ej5 : j5 = j3 := by rw [hj5]; simp
     subst ej5
     rw [if_neg (show ¬ headK (y :: r1) = 2 from hyk)] at hX
     refine Or.inr (Or.inr ⟨rfl, ?_⟩)
     rw [hX, hy]; rfl
  ·rcases hdone with ⟨rfl, rfl, hx⟩ | ⟨rfl, hx⟩
   ·obtain ⟨x, r2, hx2⟩ := drop_ne (unhide HP2).lt
    have HX2 := hide hx2
    have HX := hide hx
    clear hx2 hx
    obtain ⟨j6, hj6⟩ : ∃ j6, j6 = if (!false && x.k == 21) = true then j + 1 else j := ⟨_, rfl⟩
    obtain ⟨b6, hb6⟩ : ∃ b, b = !(!false && x.k == 21) := ⟨_, rfl⟩
    have HJ6 := hide hj6
    have HB6 := hide hb6
    clear hj6 hb6
    go_wp2_with (go_at_call 245; refine (must_any _ 21 _ _ _ _ _ _ _ _ _ (unhide HP2) (unhide HX2) rfl (by decide) (by decide) j6 b6 (unhide HJ6) (unhide HB6)).mono ?_)
    rintro e w6 ⟨rfl, hp6, hg6⟩
    have hstart : LB w pb g cap L (L.drop j).length w6 := by
     refine ⟨o1, n1, k1, acc, none, 0, 0, 0, [], j6, b6, (unhide HG).trans hg6, hp6, (hg6.block w.heap.size (by omega) (by simp; omega)).trans (unhide HR), (hg6.block (w.heap.size + 1) hz (by simp; omega)).trans (unhide HV), World.ownsRow_nil _ _ _ _, ?_⟩
     by_cases hk : x.k = 21
     ·have e6 : b6 = false := by rw [unhide HB6]; simp [hk]
      have ej : j6 = j + 1 := by rw [unhide HJ6]; simp [hk]
      subst e6 ej
      refine Or.inl ⟨rfl, (KT.ps (unhide HP2) hg6).owns (unhide HO), [], rfl, rfl, ?_, ?_, ?_⟩
      ·simp; omega
      ·simp
      ·rw [modelRead_eq, unhide HX]
       simp only
       rw [if_pos (by rw [unhide HX2]; exact hk), List.tail_drop]
     ·have e6 : b6 = true := by rw [unhide HB6]; simp [hk]
      have ej : j6 = j := by rw [unhide HJ6]; simp [hk]
      subst e6 ej
      refine Or.inr ⟨rfl, ?_⟩
      rw [modelRead_eq, unhide HX]
      simp only
      rw [if_neg (by rw [unhide HX2]; exact hk)]
    have HS := hide hstart
    clear hstart hp6 hg6 HJ6 HB6 HX2 HX HP2 HG HR HV HO c0 c1 c2 hz
    go_wp2_with fail
    go_loopg [] (L.drop j).length (fun m wr => LB w pb g cap L m wr)
    case atStart => exact unhide HS
    case round =>
     clear HS
     obtain ⟨o1, n1, k1, al, o2, n2, k2, nR, cells, j, bad, hgr, hps, hrb, hvb, how, hcase⟩ := hrel
     have HGQ := hide hgr
     have HPQ := hide hps
     have HRQ := hide hrb
     have HVQ := hide hvb
     have HOQ := hide how
     have hz : w.heap.size + 1 < wr.heap.size := lt_of_blk hvb
     obtain ⟨c0, c1, c2⟩ := hps.cells
     clear hgr hps hrb hvb how
     rcases hcase with ⟨rfl, hoa, rs, rfl, hrs, hm, hac, hx⟩ | ⟨rfl, hx⟩
     ·obtain ⟨m, rfl⟩ : ∃ m, gk = m + 1 := ⟨gk - 1, by have := (unhide HPQ).lt; rw [List.length_drop] at hm; omega⟩
      obtain ⟨y, r1, hy⟩ := drop_ne (unhide HPQ).lt
      have hal : rs.length < 401 := by have := congrArg List.length hy; simp at this hac; omega
      have HY := hide hy
      have HX := hide hx
      have HM := hide hm
      have HAC := hide hac
      have HA := hide hoa
      have HRS := hide hrs
      clear hx hm hac hoa hrs hy
      by_cases h0 : y.k = 0
      ·have e0 : (refK y.k != 101) = false := by rw [bne, refK_end]; simp [h0]
       have HY0 := hide h0
       clear h0
       go_wp2_with (go_at_call 201; refine (now_any _ _ _ _ _ _ _ _ _ (unhide HPQ) (unhide HY)).mono ?_; rintro e w7 ⟨rfl, hb7⟩; simp only [tkR]; have HP7 := hide ((unhide HPQ).later hb7); have HG7 := hide ((unhide HGQ).trans (grown_below hb7 _)); have HR7 := hide ((hb7.block w.heap.size (by omega)).trans (unhide HRQ)); have HV7 := hide ((hb7.block (w.heap.size + 1) hz).trans (unhide HVQ)); have HO7 := hide (owns_later (unhide HOQ) hb7); have HA7 := hide (owns_later (unhide HA) hb7); have HRS7 := hide ((KT.below hb7).rules (unhide HRS)); have hz7 : w.heap.size + 1 < w7.heap.size := lt_of_blk (unhide HV7); clear hb7; have vc := fun o => cell_of_blk (unhide HV7) o; have rc := fun o => cell_of_blk (unhide HR7) o; have rf := fun o => frozen_of_blk (unhide HR7) o)
       go_wp2_with fail
       refine bodyPost_ret (v := .agg #[.slice o1 n1 k1, .slice o2 n2 k2]) ?_ rfl ?_
       ·simp [results, Tryz.results200, go_sem, rc]
       have hps2 := ((unhide HP7).setOther w.heap.size 0 (.slice o1 n1 k1) (by omega) (by omega)).setOther w.heap.size 1 (.slice o2 n2 k2) (by omega) (by omega)
       have hgr2 := grown_setNew (grown_setNew (unhide HG7) (Nat.le_refl _) 0 (.slice o1 n1 k1)) (Nat.le_refl _) 1 (.slice o2 n2 k2)
       have hkt := (KT.set 0 (.slice o1 n1 k1) (⟨_, _, unhide HR7⟩ : TyAt w7 w.heap.size 228) (by decide) (by decide)).trans (KT.set 1 (.slice o2 n2 k2) (TyAt.set ⟨_, _, unhide HR7⟩ _ _) (by decide) (by decide))
       have hmr : modelRead (L.drop 0) = .ok (al, rs) := by
        rw [unhide HX, unhide HY, rulesRead, if_pos (show headK (y :: r1) = 0 from unhide HY0)]; simp [plusR]
       refine ⟨hgr2, _, _, _, _, _, _, rfl, ?_⟩
       rw [hmr]
       refine ⟨owns_mono (hkt.owns (unhide HA7)) (Nat.zero_le _), ⟨cells, ?_, hkt.rules (unhide HRS7)⟩, j, hps2⟩
       exact owns_mono (owns_keep (owns_keep (unhide HO7) (grown_set _ _ _ _) (by right; intro e; exact own_ty (unhide HO7) e (unhide HR7) (by decide))) (grown_set _ _ _ _) (by right; intro e; exact own_ty (unhide HO7) e (unhide HR7) (by decide))) (Nat.zero_le _)
      ·have e0 : (refK y.k != 101) = true := by rw [bne, refK_end]; simp [h0]
       have HY0 := hide h0
       clear h0
       go_wp2_with (go_at_call 201; refine (now_any _ _ _ _ _ _ _ _ _ (unhide HPQ) (unhide HY)).mono ?_)
       rintro e w7 ⟨rfl, hb7⟩
       simp only [tkR]
       have HP7 := hide ((unhide HPQ).later hb7)
       have HG7 := hide ((unhide HGQ).trans (grown_below hb7 _))
       have HR7 := hide ((hb7.block w.heap.size (by omega)).trans (unhide HRQ))
       have HV7 := hide ((hb7.block (w.heap.size + 1) hz).trans (unhide HVQ))
       have HO7 := hide (owns_later (unhide HOQ) hb7)
       have HKT7 := hide (KT.below hb7)
       have hz7 : w.heap.size + 1 < w7.heap.size := lt_of_blk (unhide HV7)
       clear hb7 c0 c1 c2
       go_wp2_with (go_at_call 201; refine (now_any _ _ _ _ _ _ _ _ _ (unhide HP7) (unhide HY)).mono ?_)
       rintro e w8 ⟨rfl, hb8⟩
       simp only [tkR]
       have HP8 := hide ((unhide HP7).later hb8)
       have HG8 := hide ((unhide HG7).trans (grown_below hb8 _))
       have HR8 := hide ((hb8.block w.heap.size (by omega)).trans (unhide HR7))
       have HV8 := hide ((hb8.block (w.heap.size + 1) hz7).trans (unhide HV7))
       have HO8 := hide (owns_later (unhide HO7) hb8)
       have HKT8 := hide ((unhide HKT7).trans (KT.below hb8))
       have hz8 : w.heap.size + 1 < w8.heap.size := lt_of_blk (unhide HV8)
       clear hb8
       obtain ⟨j9, hj9⟩ : ∃ j9, j9 = if (!false && y.k == 5) = true then j + 1 else j := ⟨_, rfl⟩
       obtain ⟨b9, hb9⟩ : ∃ b, b = !(!false && y.k == 5) := ⟨_, rfl⟩
       have HJ9 := hide hj9
       have HB9 := hide hb9
       clear hj9 hb9
       go_wp2_with (go_at_call 245; refine (must_any _ 5 _ _ _ _ _ _ _ _ _ (unhide HP8) (unhide HY) rfl (by decide) (by decide) j9 b9 (unhide HJ9) (unhide HB9)).mono ?_)
       rintro e w9 ⟨rfl, hp9, hg9⟩
       have HP9 := hide hp9
       have HG9 := hide ((unhide HG8).trans hg9)
       have HR9 := hide ((hg9.block w.heap.size (by omega) (by simp; omega)).trans (unhide HR8))
       have HV9 := hide ((hg9.block (w.heap.size + 1) hz8 (by simp; omega)).trans (unhide HV8))
       have HO9 := hide (owns_keep (unhide HO8) hg9 (Or.inr (own_ne (unhide HO8) hp0)))
       have HKT9 := hide ((unhide HKT8).trans (KT.ps (unhide HP8) hg9))
       have hz9 : w.heap.size + 1 < w9.heap.size := lt_of_blk (unhide HV9)
       clear hp9 hg9
       go_wp2_with (go_at_call 248; refine (rule_both _ _ _ _ _ _ _ (unhide HP9)).mono ?_)
       rintro e w10 ⟨hg10, ra, rb, rs', rc', ro, rn, rk, rd, rp, j10, b10, rfl, hp10, hst⟩
       simp only [rlV]
       have HST := hide hst
       have HP10 := hide hp10
       have HG10 := hide ((unhide HG9).trans hg10)
       have HR10 := hide ((hg10.block w.heap.size (by omega) (by simp; omega)).trans (unhide HR9))
       have HV10 := hide ((hg10.block (w.heap.size + 1) hz9 (by simp; omega)).trans (unhide HV9))
       have HO10 := hide (owns_keep (unhide HO9) hg10 (Or.inr (own_ne (unhide HO9) hp0)))
       have HKT10 := hide ((unhide HKT9).trans (KT.ps (unhide HP9) hg10))
       have hz10 : w.heap.size + 1 < w10.heap.size := lt_of_blk (unhide HV10)
       clear hp10 hg10 hst
       have vc := fun o => cell_of_blk (unhide HV10) o
       have vf := fun o => frozen_of_blk (unhide HV10) o
       go_wp2_with (at_builtin; go_must (refine wpList_append_own _ rfl _ _ 226 rfl w.heap.size 235 m0 (.agg #[.int .i64 0, .int .u8 0, .string ⟨#[]⟩, .int .i64 0, .slice none 0 0, .int .i64 0, .pointer none]) 7 80 Tryz.underlying226 hm0 hmz0 hmz1 hmz2 rfl (by decide) _ rs.length cells rfl ?c0 ⟨w10.heap.size + 1, 0, none⟩ 1 1 [.int .i64 y.p, .int .u8 rb, .string rs', .int .i64 rc', .slice ro rn rk, .int .i64 rd, .pointer rp] rfl rfl ?c1 ?c2 ?c3 ?c4 ?c5 ?_))
       case c0 => exact ((unhide HO10).alloc _).alloc _
       case c1 =>
        intro j u hj
        match j, hj with
        | 0, hj => simp at hj; subst hj; exact (cell_of_blk (blk_alloc' _ _ _ (by simp)) 0).trans rfl
        | 1, hj => simp at hj; subst hj; exact (cell_of_blk (blk_alloc' _ _ _ (by simp)) 1).trans rfl
        | 2, hj => simp at hj; subst hj; exact (cell_of_blk (blk_alloc' _ _ _ (by simp)) 2).trans rfl
        | 3, hj => simp at hj; subst hj; exact (cell_of_blk (blk_alloc' _ _ _ (by simp)) 3).trans rfl
        | 4, hj => simp at hj; subst hj; exact (cell_of_blk (blk_alloc' _ _ _ (by simp)) 4).trans rfl
        | 5, hj => simp at hj; subst hj; exact (cell_of_blk (blk_alloc' _ _ _ (by simp)) 5).trans rfl
        | 6, hj => simp at hj; subst hj; exact (cell_of_blk (blk_alloc' _ _ _ (by simp)) 6).trans rfl
        | j + 7, hj => simp at hj
       case c2 => intro u hu; simp at hu; rcases hu with rfl | rfl | rfl | rfl | rfl | rfl | rfl <;> rfl
       case c3 => unfold maxLen; omega
       case c4 => omega
       case c5 => simp; omega
       intro v12 w12 hown12 hgrow12 _
       obtain ⟨hlen12, h12 | ⟨g12, cap12, cur12, hv12, hrest12⟩⟩ := hown12
       ·exact absurd h12.2 (by omega)
       subst hv12
       have HO12 : Hid (w12.ownsRow w.heap.size 235 7 (.slice (some ⟨g12, 0, none⟩) (rs.length + 1) cap12) (rs.length + 1) (cells ++ [.int .i64 y.p, .int .u8 rb, .string rs', .int .i64 rc', .slice ro rn rk, .int .i64 rd, .pointer rp])) := ⟨hlen12, Or.inr ⟨g12, cap12, cur12, rfl, hrest12⟩⟩
       have hol := own_lt (unhide HO10)
       have hgp : some pb ≠ (Value.slice o2 n2 k2).ownBlock := by intro e; have := hol pb e.symm; omega
       have hgg : some g ≠ (Value.slice o2 n2 k2).ownBlock := by intro e; have := hol g e.symm; omega
       have hgR : some w.heap.size ≠ (Value.slice o2 n2 k2).ownBlock := by intro e; exact own_ty (unhide HO10) e.symm (unhide HR10) (by decide)
       have hgV : some (w.heap.size + 1) ≠ (Value.slice o2 n2 k2).ownBlock := by intro e; exact own_ty (unhide HO10) e.symm (unhide HV10) (by decide)
       have HP12 := hide ((((unhide HP10).alloc _).alloc _).grown hgrow12 hgp hgg)
       have HG12 := hide ((grown_alloc (grown_alloc (unhide HG10) _) _).andThen hgrow12 (fun j hj => by left; exact (hol j hj).1))
       have HR12 := hide ((hgrow12.block w.heap.size (by simp; omega) hgR).trans ((Below.heap_alloc _ _ _ (by simp; omega)).trans ((Below.heap_alloc _ _ _ (by omega)).trans (unhide HR10))))
       have HV12 := hide ((hgrow12.block (w.heap.size + 1) (by simp; omega) hgV).trans ((Below.heap_alloc _ _ _ (by simp; omega)).trans ((Below.heap_alloc _ _ _ (by omega)).trans (unhide HV10))))
       have HK12 : Hid (KT w10 w12) := ((KT.alloc _ _).trans (KT.alloc _ _)).trans (KT.own hgrow12 (((unhide HO10).alloc _).alloc _))
       have hz12 : w.heap.size + 1 < w12.heap.size := lt_of_blk (unhide HV12)
       have hg12ne : g12 ≠ w.heap.size + 1 := by intro e; have h1 := hrest12.2.1; rw [e, unhide HV12] at h1; simp at h1
       have hg12ge : w.heap.size ≤ g12 := hrest12.1
       clear vc vf hgrow12 hrest12 hol hgp hgg hgR hgV hlen12
       have vc := fun o => cell_of_blk (unhide HV12) o
       have vf := fun o => frozen_of_blk (unhide HV12) o
       obtain ⟨x, r2, hx2⟩ := drop_ne (unhide HP12).lt
       have HX2 := hide hx2
       clear hx2
       obtain ⟨j13, hj13⟩ : ∃ j13, j13 = if (!b10 && x.k == 21) = true then j10 + 1 else j10 := ⟨_, rfl⟩
       obtain ⟨b13, hb13⟩ : ∃ b, b = !(!b10 && x.k == 21) := ⟨_, rfl⟩
       have HJ13 := hide hj13
       have HB13 := hide hb13
       clear hj13 hb13
       go_wp2_with (go_at_call 245; refine (must_any _ 21 _ _ _ _ _ _ _ _ _ ((unhide HP12).setOther _ _ _ (by omega) (by omega)) (unhide HX2) rfl (by decide) (by decide) j13 b13 (unhide HJ13) (unhide HB13)).mono ?_)
       rintro e w13 ⟨rfl, hp13, hg13⟩
       have HP13 := hide hp13
       have HG13 := hide ((grown_setNew (unhide HG12) (b := w.heap.size + 1) (by omega) _ _).trans hg13)
       have HR13 := hide ((hg13.block w.heap.size (by simp [World.setCell]; omega) (by simp; omega)).trans ((Below.heap_setCell _ _ _ _ (by simp)).trans (unhide HR12)))
       have HV13 : Hid (w13.heap[w.heap.size + 1]? = some (.cells #[.slice o1 n1 k1, .slice (some ⟨g12, 0, none⟩) (rs.length + 1) cap12] 228 (0, 0))) :=
        (hg13.block (w.heap.size + 1) (by simp [World.setCell]; omega) (by simp; omega)).trans ((blk_set (unhide HV12) _ _).trans rfl)
       have HO13 := hide (owns_keep (owns_keep (unhide HO12) (grown_set _ (w.heap.size + 1) 1 (.slice (some ⟨g12, 0, none⟩) (rs.length + 1) cap12)) (by simp [Value.ownBlock]; omega)) hg13 (by simp [Value.ownBlock]; omega))
       have HK13 := hide (((unhide HK12).trans (KT.set 1 (.slice (some ⟨g12, 0, none⟩) (rs.length + 1) cap12) ⟨_, _, unhide HV12⟩ (by decide) (by decide))).trans (KT.ps ((unhide HP12).setOther _ _ _ (by omega) (by omega)) hg13))
       clear vc vf hp13 hg13
       go_wp2_with fail
       go_roundg m
       case measure => omega
       case rel =>
        refine ⟨o1, n1, k1, al, _, _, _, _, _, j13, b13, unhide HG13, unhide HP13, unhide HR13, unhide HV13, unhide HO13, ?_⟩
        have hX := unhide HX
        have hy := unhide HY
        rw [hy, rulesRead, if_neg (show ¬ headK (y :: r1) = 0 from unhide HY0)] at hX
        have hm := unhide HM
        have hac := unhide HAC
        have hj9 := unhide HJ9
        have hb9 := unhide HB9
        have hj13 := unhide HJ13
        have hb13 := unhide HB13
        have hx2 := unhide HX2
        have htl := drop_tail hy
        by_cases h5 : y.k = 5
        ·have e9 : b9 = false := by rw [hb9]; simp [h5]
         have ej9 : j9 = j + 1 := by rw [hj9]; simp [h5]
         subst e9 ej9
         rw [if_pos (show headK (y :: r1) = 5 from h5), List.tail_cons, ← htl] at hX
         rcases unhide HST with ⟨rfl, _, rr, hrr, hri⟩ | ⟨rfl, _, hrr⟩
         ·rw [hrr] at hX
          have hlen' := ruleRead_len _ _ _ hrr
          simp only at hX
          by_cases h21 : x.k = 21
          ·have e13 : b13 = false := by rw [hb13]; simp [h21]
           have ej13 : j13 = j10 + 1 := by rw [hj13]; simp [h21]
           subst e13 ej13
           rw [if_pos (show headK (L.drop j10) = 21 by rw [hx2]; exact h21), List.tail_drop] at hX
           refine Or.inl ⟨rfl, (unhide HK13).owns ((unhide HKT10).owns (unhide HA)), rs ++ [{ rr with pl := y.p }], by simp, RulesAre.snoc ((unhide HK13).rules ((unhide HKT10).rules (unhide HRS))) ((unhide HK13).rl (hri.pl y.p)), ?_, ?_, ?_⟩
           ·rw [htl] at hlen'; rw [hy] at hm; simp at hm hlen' ⊢; omega
           ·rw [htl] at hlen'; rw [hy] at hac; have := (unhide HP13).lt; simp at hac hlen' this ⊢; omega
           ·rw [hX]
            cases rulesRead m (L.drop (j10 + 1)) with
            | error q => rfl
            | ok z => simp [plusR, headP]
          ·have e13 : b13 = true := by rw [hb13]; simp [h21]
           have ej13 : j13 = j10 := by rw [hj13]; simp [h21]
           subst e13 ej13
           rw [if_neg (show ¬ headK (L.drop j13) = 21 by rw [hx2]; exact h21)] at hX
           exact Or.inr ⟨rfl, hX⟩
         ·rw [hrr rfl] at hX
          have e13 : b13 = true := by rw [hb13]; simp
          have ej13 : j13 = j10 := by rw [hj13]; simp
          subst e13 ej13
          exact Or.inr ⟨rfl, hX⟩
        ·have e9 : b9 = true := by rw [hb9]; simp [h5]
         have ej9 : j9 = j := by rw [hj9]; simp [h5]
         subst e9 ej9
         rw [if_neg (show ¬ headK (y :: r1) = 5 from h5)] at hX
         rcases unhide HST with ⟨_, hf, _⟩ | ⟨rfl, hjj, _⟩
         ·cases hf
         ·have e13 : b13 = true := by rw [hb13]; simp
          have ej13 : j13 = j10 := by rw [hj13]; simp
          have ej10 := hjj rfl
          subst e13 ej13
          refine Or.inr ⟨rfl, ?_⟩
          rw [hX, ej10, hy]; rfl
     ·have HX := hide hx
      clear hx
      have vc := fun o => cell_of_blk (unhide HVQ) o
      have rc := fun o => cell_of_blk (unhide HRQ) o
      have rf := fun o => frozen_of_blk (unhide HRQ) o
      go_wp2_with fail
      refine bodyPost_ret (v := .agg #[.slice o1 n1 k1, .slice o2 n2 k2]) ?_ rfl ?_
      ·simp [results, Tryz.results200, go_sem, rc]
      have hps2 := ((unhide HPQ).setOther w.heap.size 0 (.slice o1 n1 k1) (by omega) (by omega)).setOther w.heap.size 1 (.slice o2 n2 k2) (by omega) (by omega)
      have hgr2 := grown_setNew (grown_setNew (unhide HGQ) (Nat.le_refl _) 0 (.slice o1 n1 k1)) (Nat.le_refl _) 1 (.slice o2 n2 k2)
      refine ⟨hgr2, _, _, _, _, _, _, rfl, ?_⟩
      rw [unhide HX]
      exact ⟨j, rfl, hps2⟩
   ·cases mb
    ·obtain ⟨x, r2, hx2⟩ := drop_ne (unhide HP2).lt
     have HX2 := hide hx2
     have HX := hide hx
     clear hx2 hx
     go_wp2_with (go_at_call 245; refine (must_any _ 21 _ _ _ _ _ _ _ _ _ (unhide HP2) (unhide HX2) rfl (by decide) (by decide) j true (by simp) (by simp)).mono ?_)
     rintro e w6 ⟨rfl, hp6, hg6⟩
     have HPQ := hide hp6
     have HGQ := hide ((unhide HG).trans hg6)
     have HRQ := hide ((hg6.block w.heap.size (by omega) (by simp; omega)).trans (unhide HR))
     have HVQ := hide ((hg6.block (w.heap.size + 1) hz (by simp; omega)).trans (unhide HV))
     clear hp6 hg6 c0 c1 c2
     go_wp2_with fail
     go_loopg [] 0 (fun _ wr => wr = w6)
     case atStart => rfl
     case round =>
      subst hrel
      obtain ⟨c0, c1, c2⟩ := (unhide HPQ).cells
      have vc := fun o => cell_of_blk (unhide HVQ) o
      have rc := fun o => cell_of_blk (unhide HRQ) o
      have rf := fun o => frozen_of_blk (unhide HRQ) o
      have hz6 : w.heap.size + 1 < wr.heap.size := lt_of_blk (unhide HVQ)
      go_wp2_with fail
      refine bodyPost_ret (v := .agg #[.slice o1 n1 k1, .slice none 0 0]) ?_ rfl ?_
      ·simp [results, Tryz.results200, go_sem, rc]
      have hps2 := ((unhide HPQ).setOther w.heap.size 0 (.slice o1 n1 k1) (by omega) (by omega)).setOther w.heap.size 1 (.slice none 0 0) (by omega) (by omega)
      have hgr2 := grown_setNew (grown_setNew (unhide HGQ) (Nat.le_refl _) 0 (.slice o1 n1 k1)) (Nat.le_refl _) 1 (.slice none 0 0)
      have hmr : modelRead (L.drop 0) = .error (headP (L.drop j)) := by rw [modelRead_eq, unhide HX]
      refine ⟨hgr2, _, _, _, _, _, _, rfl, ?_⟩
      rw [hmr]
      exact ⟨j, rfl, hps2⟩
    ·obtain ⟨x, r2, hx2⟩ := drop_ne (unhide HP2).lt
     have HX2 := hide hx2
     have HX := hide hx
     clear hx2 hx
     go_wp2_with (go_at_call 245; refine (must_any _ 21 _ _ _ _ _ _ _ _ _ (unhide HP2) (unhide HX2) rfl (by decide) (by decide) j true (by simp) (by simp)).mono ?_)
     rintro e w6 ⟨rfl, hp6, hg6⟩
     have HPQ := hide hp6
     have HGQ := hide ((unhide HG).trans hg6)
     have HRQ := hide ((hg6.block w.heap.size (by omega) (by simp; omega)).trans (unhide HR))
     have HVQ := hide ((hg6.block (w.heap.size + 1) hz (by simp; omega)).trans (unhide HV))
     clear hp6 hg6 c0 c1 c2
     go_wp2_with fail
     go_loopg [] 0 (fun _ wr => wr = w6)
     case atStart => rfl
     case round =>
      subst hrel
      obtain ⟨c0, c1, c2⟩ := (unhide HPQ).cells
      have vc := fun o => cell_of_blk (unhide HVQ) o
      have rc := fun o => cell_of_blk (unhide HRQ) o
      have rf := fun o => frozen_of_blk (unhide HRQ) o
      have hz6 : w.heap.size + 1 < wr.heap.size := lt_of_blk (unhide HVQ)
      go_wp2_with fail
      refine bodyPost_ret (v := .agg #[.slice o1 n1 k1, .slice none 0 0]) ?_ rfl ?_
      ·simp [results, Tryz.results200, go_sem, rc]
      have hps2 := ((unhide HPQ).setOther w.heap.size 0 (.slice o1 n1 k1) (by omega) (by omega)).setOther w.heap.size 1 (.slice none 0 0) (by omega) (by omega)
      have hgr2 := grown_setNew (grown_setNew (unhide HGQ) (Nat.le_refl _) 0 (.slice o1 n1 k1)) (Nat.le_refl _) 1 (.slice none 0 0)
      have hmr : modelRead (L.drop 0) = .error (headP (L.drop j)) := by rw [modelRead_eq, unhide HX]
      refine ⟨hgr2, _, _, _, _, _, _, rfl, ?_⟩
      rw [hmr]
      exact ⟨j, rfl, hps2⟩
end Go.Proofs.YtidakhhekofkoaaGreatDoor
