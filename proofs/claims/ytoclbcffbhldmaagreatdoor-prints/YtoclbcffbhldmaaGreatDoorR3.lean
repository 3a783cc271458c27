/- The reference's reader of formulas: what it reads is what the plain reader pf reads. -/
import Derived.Test.YtoclbcffbhldmaaGreatDoorR2
import Derived.Deep.LoopGhost
namespace Go.Proofs.YtoclbcffbhldmaaGreatDoor
open Go.RowKit Go.Deep

set_option maxHeartbeats 400000 in
theorem two_lost (c : Int) (vf vg : Option Addr) (w : World) :
    Calls Tryz.prog 149 #[.int .u8 c, .pointer vf, .pointer vg] w fun e w' => ∃ v, e = .returned (.pointer v) ∧ Below w.heap.size w w' := by
  go_enter Tryz.func149, Tryz.ntmps149
  go_wp2
  go_ret
  exact ⟨_, rfl, (Below.refl _ _).alloc (Nat.le_refl _) _⟩
theorem head_yes {l : List Tk} (h : Ends l) {k : Nat} (hk : 2 ≤ k) (e : headK l = k) : ∃ t u r, l = t :: u :: r ∧ t.k = k := by
  match l, h with
  | [t], h => exact absurd (show t.k ≤ 1 from h) (by have : t.k = k := e; omega)
  | t :: u :: r, _ => exact ⟨t, u, r, rfl, e⟩
theorem head_no {l : List Tk} (h : Ends l) {k : Nat} (e : headK l ≠ k) : ∃ t r, l = t :: r ∧ t.k ≠ k := by
  match l, h with
  | t :: r, _ => exact ⟨t, r, rfl, e⟩

set_option maxHeartbeats 400000 in
theorem and_lost (w : World) (pb g cap : Nat) (L : List Tk) (i : Nat) (h : PS w pb g cap L i true) :
    Calls Tryz.prog 203 #[.pointer (some ⟨pb, 0, none⟩)] w fun e w' => Lost L pb g cap i w w' e := by
  obtain ⟨t, r, ht⟩ := drop_ne h.lt
  have HP := hide h
  have HT := hide ht
  clear h ht
  go_enter Tryz.func203, Tryz.ntmps203
  go_wp2_with (go_at_call 205; refine (until_lost _ _ _ _ _ _ (unhide HP)).mono ?_)
  rintro e w1 ⟨hg1, p, rfl, hp1⟩
  have HP1 := hide hp1
  have HG1 := hide hg1
  clear hp1 hg1
  go_wp2_with fail
  go_loopg [3] 0 (fun _ v wr => v = .pointer p ∧ wr = w1)
  case atStart => exact ⟨rfl, rfl⟩
  case round =>
    obtain ⟨rfl, rfl⟩ := hrel
    go_wp2_with (go_at_call 144; refine (take_no _ 16 _ _ _ _ _ _ _ _ _ (unhide HP1) (unhide HT) rfl (by decide) (by decide) (Or.inl rfl)).mono ?_)
    rintro e w2 ⟨rfl, hp2, hg2⟩
    have HP2 := hide hp2
    have HG2 := hide hg2
    clear hp2 hg2
    go_wp2_with fail
    go_ret
    exact ⟨(unhide HG1).trans (unhide HG2), _, rfl, unhide HP2⟩

set_option maxHeartbeats 400000 in
theorem or_lost (w : World) (pb g cap : Nat) (L : List Tk) (i : Nat) (h : PS w pb g cap L i true) :
    Calls Tryz.prog 191 #[.pointer (some ⟨pb, 0, none⟩)] w fun e w' => Lost L pb g cap i w w' e := by
  obtain ⟨t, r, ht⟩ := drop_ne h.lt
  have HP := hide h
  have HT := hide ht
  clear h ht
  go_enter Tryz.func191, Tryz.ntmps191
  go_wp2_with (go_at_call 203; refine (and_lost _ _ _ _ _ _ (unhide HP)).mono ?_)
  rintro e w1 ⟨hg1, p, rfl, hp1⟩
  have HP1 := hide hp1
  have HG1 := hide hg1
  clear hp1 hg1
  go_wp2_with fail
  go_loopg [3] 0 (fun _ v wr => v = .pointer p ∧ wr = w1)
  case atStart => exact ⟨rfl, rfl⟩
  case round =>
    obtain ⟨rfl, rfl⟩ := hrel
    go_wp2_with (go_at_call 144; refine (take_no _ 15 _ _ _ _ _ _ _ _ _ (unhide HP1) (unhide HT) rfl (by decide) (by decide) (Or.inl rfl)).mono ?_)
    rintro e w2 ⟨rfl, hp2, hg2⟩
    have HP2 := hide hp2
    have HG2 := hide hg2
    clear hp2 hg2
    go_wp2_with fail
    go_ret
    exact ⟨(unhide HG1).trans (unhide HG2), _, rfl, unhide HP2⟩

set_option maxHeartbeats 400000 in
theorem formula_lost (w : World) (pb g cap : Nat) (L : List Tk) (i : Nat) (h : PS w pb g cap L i true) :
    Calls Tryz.prog 169 #[.pointer (some ⟨pb, 0, none⟩)] w fun e w' => Lost L pb g cap i w w' e := by
  obtain ⟨t, r, ht⟩ := drop_ne h.lt
  have HP := hide h
  have HT := hide ht
  clear h ht
  go_enter Tryz.func169, Tryz.ntmps169
  go_wp2_with (go_at_call 191; refine (or_lost _ _ _ _ _ _ (unhide HP)).mono ?_)
  rintro e w1 ⟨hg1, p, rfl, hp1⟩
  have HP1 := hide hp1
  have HG1 := hide hg1
  clear hp1 hg1
  go_wp2_with (go_at_call 144; refine (take_no _ 14 _ _ _ _ _ _ _ _ _ (unhide HP1) (unhide HT) rfl (by decide) (by decide) (Or.inl rfl)).mono ?_)
  rintro e w2 ⟨rfl, hp2, hg2⟩
  have HP2 := hide hp2
  have HG2 := hide hg2
  clear hp2 hg2
  go_wp2_with fail
  go_ret
  exact ⟨(unhide HG1).trans (unhide HG2), _, rfl, unhide HP2⟩

def SU (n : Nat) : Prop := ∀ (w : World) (pb g cap : Nat) (L : List Tk) (i : Nat), PS w pb g cap L i false → 6 * (L.drop i).length + 1 ≤ n →
  Calls Tryz.prog 207 #[.pointer (some ⟨pb, 0, none⟩)] w fun e w' => Left L pb g cap w w' e (pf n 4 .nil (L.drop i))
def ST (n : Nat) : Prop := ∀ (w : World) (pb g cap : Nat) (L : List Tk) (i : Nat), PS w pb g cap L i false → 6 * (L.drop i).length + 2 ≤ n →
  Calls Tryz.prog 205 #[.pointer (some ⟨pb, 0, none⟩)] w fun e w' => Left L pb g cap w w' e (pf n 3 .nil (L.drop i))
def SA (n : Nat) : Prop := ∀ (w : World) (pb g cap : Nat) (L : List Tk) (i : Nat), PS w pb g cap L i false → 6 * (L.drop i).length + 3 ≤ n →
  Calls Tryz.prog 203 #[.pointer (some ⟨pb, 0, none⟩)] w fun e w' => Left L pb g cap w w' e (pf n 2 .nil (L.drop i))
def SO (n : Nat) : Prop := ∀ (w : World) (pb g cap : Nat) (L : List Tk) (i : Nat), PS w pb g cap L i false → 6 * (L.drop i).length + 4 ≤ n →
  Calls Tryz.prog 191 #[.pointer (some ⟨pb, 0, none⟩)] w fun e w' => Left L pb g cap w w' e (pf n 1 .nil (L.drop i))
def SF (n : Nat) : Prop := ∀ (w : World) (pb g cap : Nat) (L : List Tk) (i : Nat), PS w pb g cap L i false → 6 * (L.drop i).length + 5 ≤ n →
  Calls Tryz.prog 169 #[.pointer (some ⟨pb, 0, none⟩)] w fun e w' => Left L pb g cap w w' e (pf n 0 .nil (L.drop i))

theorem drop_tail {L : List Tk} {i : Nat} {t : Tk} {r : List Tk} (h : L.drop i = t :: r) : L.drop (i + 1) = r := by rw [← List.drop_drop, h]; rfl

set_option maxHeartbeats 1000000 in
theorem until_step (n : Nat) (hU : SU n) : ST (n + 1) := by
  intro w pb g cap L i h hn
  have HU := hide hU
  have HP := hide h
  clear hU h
  go_enter Tryz.func205, Tryz.ntmps205
  go_wp2_with (go_at_call 207; refine ((unhide HU) _ _ _ _ _ _ (unhide HP) (by omega)).mono ?_)
  rintro e w1 ⟨hg1, p, rfl, hx⟩
  have HG1 := hide hg1
  cases hpf : pf n 4 .nil (L.drop i) with
  | error q =>
    have HX : Hid (pf (n + 1) 3 .nil (L.drop i) = .error q) := by show _ = _; rw [pf, hpf]
    rw [hpf] at hx
    obtain ⟨i1, hq1, hp1⟩ := hx
    obtain ⟨t, r, ht⟩ := drop_ne hp1.lt
    have HP1 := hide hp1
    have HQ := hide hq1
    have HT := hide ht
    clear hp1 hg1 hq1 ht hpf
    go_wp2_with (go_at_call 144; refine (take_no _ 13 _ _ _ _ _ _ _ _ _ (unhide HP1) (unhide HT) rfl (by decide) (by decide) (Or.inl rfl)).mono ?_)
    rintro e w2 ⟨rfl, hp2, hg2⟩
    have HP2 := hide hp2
    have HG2 := hide hg2
    clear hp2 hg2
    go_wp2_with fail
    go_ret
    rw [unhide HX]
    exact ⟨(unhide HG1).trans (unhide HG2), _, rfl, i1, unhide HQ, unhide HP2⟩
  | ok x =>
    obtain ⟨a, l1⟩ := x
    have hlen := pf_len _ _ _ _ _ _ hpf
    rw [hpf] at hx
    obtain ⟨hf1, i1, hl1, hp1⟩ := hx
    subst hl1
    by_cases h13 : headK (L.drop i1) = 13
    · obtain ⟨t, u, r, ht, hk⟩ := head_yes hp1.ends (by decide) h13
      have ht2 := drop_tail ht
      have hX : pf (n + 1) 3 .nil (L.drop i) = (match pf n 4 .nil (L.drop (i1 + 1)) with | .error q => .error q | .ok (b, l2) => .ok (two 9 a b, l2)) := by
        rw [pf, hpf]; simp only [h13, if_true]; rw [ht, ht2]; rfl
      have HX := hide hX
      have hlt2 : 6 * (L.drop (i1 + 1)).length + 1 ≤ n := by rw [ht2]; rw [ht] at hlen; simp only [List.length_cons] at hlen ⊢; omega
      have HL := hide hlt2
      have HF1 := hide hf1
      have HP1 := hide hp1
      have HT := hide ht
      have HK := hide hk
      clear hp1 hg1 ht hpf hX h13 hk hf1 ht2 hlt2
      go_wp2_with (go_at_call 144; refine (take_yes _ 13 _ _ _ _ _ _ _ _ _ (unhide HP1) (unhide HT) rfl (by decide) (by decide) (unhide HK)).mono ?_)
      rintro e w2 ⟨rfl, hp2, hg2⟩
      have HP2 := hide hp2
      have HG2 := hide hg2
      clear hp2 hg2
      go_wp2_with (go_at_call 207; refine ((unhide HU) _ _ _ _ _ _ (unhide HP2) (unhide HL)).mono ?_)
      rintro e w3 ⟨hg3, p3, rfl, hx3⟩
      have HF3 := hide (((unhide HF1).keepP (unhide HP1) (unhide HG2)).keepP (unhide HP2) hg3)
      cases hpf3 : pf n 4 .nil (L.drop (i1 + 1)) with
      | error q =>
        rw [hpf3] at hx3
        have HX3 : Hid (pf (n + 1) 3 .nil (L.drop i) = .error q) := by show _ = _; rw [unhide HX, hpf3]
        obtain ⟨i3, hq3, hp3⟩ := hx3
        have HP3 := hide hp3
        have HQ3 := hide hq3
        have HG3 := hide hg3
        clear hp3 hq3 hg3 hpf3
        go_wp2_with (go_at_call 149; refine (two_lost _ _ _ _).mono ?_)
        rintro e w4 ⟨v, rfl, hb4⟩
        have HB4 := hide hb4
        clear hb4
        go_wp2_with fail
        go_ret
        rw [unhide HX3]
        exact ⟨(((unhide HG1).trans (unhide HG2)).trans (unhide HG3)).trans (grown_below (unhide HB4) _), _, rfl, i3, unhide HQ3, (unhide HP3).later (unhide HB4)⟩
      | ok x =>
        obtain ⟨b, l2⟩ := x
        rw [hpf3] at hx3
        have HX3 : Hid (pf (n + 1) 3 .nil (L.drop i) = .ok (two 9 a b, l2)) := by show _ = _; rw [unhide HX, hpf3]
        obtain ⟨hf3, i3, hl3, hp3⟩ := hx3
        have HP3 := hide hp3
        have HQ3 := hide hl3
        have HG3 := hide hg3
        have HFB := hide hf3
        clear hp3 hl3 hg3 hpf3 hf3
        go_wp2_with (go_at_call 149; refine (two_any 9 _ _ _ _ _ _ (unhide HF3) (unhide HFB) rfl).mono ?_)
        rintro e w4 ⟨v, rfl, hv, hb4⟩
        have HB4 := hide hb4
        have HV := hide hv
        clear hb4 hv
        go_wp2_with fail
        go_ret
        rw [unhide HX3]
        exact ⟨(((unhide HG1).trans (unhide HG2)).trans (unhide HG3)).trans (grown_below (unhide HB4) _), _, rfl, unhide HV, i3, unhide HQ3, (unhide HP3).later (unhide HB4)⟩
    · obtain ⟨t, r, ht, hk⟩ := head_no hp1.ends h13
      have HX : Hid (pf (n + 1) 3 .nil (L.drop i) = .ok (a, L.drop i1)) := by show _ = _; rw [pf, hpf]; simp only [h13, if_false]
      have HF1 := hide hf1
      have HP1 := hide hp1
      have HT := hide ht
      have HK := hide hk
      clear hp1 hg1 ht hpf h13 hk hf1
      go_wp2_with (go_at_call 144; refine (take_no _ 13 _ _ _ _ _ _ _ _ _ (unhide HP1) (unhide HT) rfl (by decide) (by decide) (Or.inr (unhide HK))).mono ?_)
      rintro e w2 ⟨rfl, hp2, hg2⟩
      have HP2 := hide hp2
      have HG2 := hide hg2
      clear hp2 hg2
      go_wp2_with fail
      go_ret
      rw [unhide HX]
      exact ⟨(unhide HG1).trans (unhide HG2), _, rfl, (unhide HF1).keepP (unhide HP1) (unhide HG2), i1, rfl, unhide HP2⟩

set_option maxHeartbeats 1000000 in
theorem formula_step (n : Nat) (hO : SO n) (hF : SF n) : SF (n + 1) := by
  intro w pb g cap L i h hn
  have HO := hide hO
  have HFS := hide hF
  have HP := hide h
  clear hO hF h
  go_enter Tryz.func169, Tryz.ntmps169
  go_wp2_with (go_at_call 191; refine ((unhide HO) _ _ _ _ _ _ (unhide HP) (by omega)).mono ?_)
  rintro e w1 ⟨hg1, p, rfl, hx⟩
  have HG1 := hide hg1
  cases hpf : pf n 1 .nil (L.drop i) with
  | error q =>
    have HX : Hid (pf (n + 1) 0 .nil (L.drop i) = .error q) := by show _ = _; rw [pf, hpf]
    rw [hpf] at hx
    obtain ⟨i1, hq1, hp1⟩ := hx
    obtain ⟨t, r, ht⟩ := drop_ne hp1.lt
    have HP1 := hide hp1
    have HQ := hide hq1
    have HT := hide ht
    clear hp1 hg1 hq1 ht hpf
    go_wp2_with (go_at_call 144; refine (take_no _ 14 _ _ _ _ _ _ _ _ _ (unhide HP1) (unhide HT) rfl (by decide) (by decide) (Or.inl rfl)).mono ?_)
    rintro e w2 ⟨rfl, hp2, hg2⟩
    have HP2 := hide hp2
    have HG2 := hide hg2
    clear hp2 hg2
    go_wp2_with fail
    go_ret
    rw [unhide HX]
    exact ⟨(unhide HG1).trans (unhide HG2), _, rfl, i1, unhide HQ, unhide HP2⟩
  | ok x =>
    obtain ⟨a, l1⟩ := x
    have hlen := pf_len _ _ _ _ _ _ hpf
    rw [hpf] at hx
    obtain ⟨hf1, i1, hl1, hp1⟩ := hx
    subst hl1
    by_cases h13 : headK (L.drop i1) = 14
    · obtain ⟨t, u, r, ht, hk⟩ := head_yes hp1.ends (by decide) h13
      have ht2 := drop_tail ht
      have hX : pf (n + 1) 0 .nil (L.drop i) = (match pf n 0 .nil (L.drop (i1 + 1)) with | .error q => .error q | .ok (b, l2) => .ok (two 12 a b, l2)) := by
        rw [pf, hpf]; simp only [h13, if_true]; rw [ht, ht2]; rfl
      have HX := hide hX
      have hlt2 : 6 * (L.drop (i1 + 1)).length + 5 ≤ n := by rw [ht2]; rw [ht] at hlen; simp only [List.length_cons] at hlen ⊢; omega
      have HL := hide hlt2
      have HF1 := hide hf1
      have HP1 := hide hp1
      have HT := hide ht
      have HK := hide hk
      clear hp1 hg1 ht hpf hX h13 hk hf1 ht2 hlt2
      go_wp2_with (go_at_call 144; refine (take_yes _ 14 _ _ _ _ _ _ _ _ _ (unhide HP1) (unhide HT) rfl (by decide) (by decide) (unhide HK)).mono ?_)
      rintro e w2 ⟨rfl, hp2, hg2⟩
      have HP2 := hide hp2
      have HG2 := hide hg2
      clear hp2 hg2
      go_wp2_with (go_at_call 169; refine ((unhide HFS) _ _ _ _ _ _ (unhide HP2) (unhide HL)).mono ?_)
      rintro e w3 ⟨hg3, p3, rfl, hx3⟩
      have HF3 := hide (((unhide HF1).keepP (unhide HP1) (unhide HG2)).keepP (unhide HP2) hg3)
      cases hpf3 : pf n 0 .nil (L.drop (i1 + 1)) with
      | error q =>
        rw [hpf3] at hx3
        have HX3 : Hid (pf (n + 1) 0 .nil (L.drop i) = .error q) := by show _ = _; rw [unhide HX, hpf3]
        obtain ⟨i3, hq3, hp3⟩ := hx3
        have HP3 := hide hp3
        have HQ3 := hide hq3
        have HG3 := hide hg3
        clear hp3 hq3 hg3 hpf3
        go_wp2_with (go_at_call 149; refine (two_lost _ _ _ _).mono ?_)
        rintro e w4 ⟨v, rfl, hb4⟩
        have HB4 := hide hb4
        clear hb4
        go_wp2_with fail
        go_ret
        rw [unhide HX3]
        exact ⟨(((unhide HG1).trans (unhide HG2)).trans (unhide HG3)).trans (grown_below (unhide HB4) _), _, rfl, i3, unhide HQ3, (unhide HP3).later (unhide HB4)⟩
      | ok x =>
        obtain ⟨b, l2⟩ := x
        rw [hpf3] at hx3
        have HX3 : Hid (pf (n + 1) 0 .nil (L.drop i) = .ok (two 12 a b, l2)) := by show _ = _; rw [unhide HX, hpf3]
        obtain ⟨hf3, i3, hl3, hp3⟩ := hx3
        have HP3 := hide hp3
        have HQ3 := hide hl3
        have HG3 := hide hg3
        have HFB := hide hf3
        clear hp3 hl3 hg3 hpf3 hf3
        go_wp2_with (go_at_call 149; refine (two_any 12 _ _ _ _ _ _ (unhide HF3) (unhide HFB) rfl).mono ?_)
        rintro e w4 ⟨v, rfl, hv, hb4⟩
        have HB4 := hide hb4
        have HV := hide hv
        clear hb4 hv
        go_wp2_with fail
        go_ret
        rw [unhide HX3]
        exact ⟨(((unhide HG1).trans (unhide HG2)).trans (unhide HG3)).trans (grown_below (unhide HB4) _), _, rfl, unhide HV, i3, unhide HQ3, (unhide HP3).later (unhide HB4)⟩
    · obtain ⟨t, r, ht, hk⟩ := head_no hp1.ends h13
      have HX : Hid (pf (n + 1) 0 .nil (L.drop i) = .ok (a, L.drop i1)) := by show _ = _; rw [pf, hpf]; simp only [h13, if_false]
      have HF1 := hide hf1
      have HP1 := hide hp1
      have HT := hide ht
      have HK := hide hk
      clear hp1 hg1 ht hpf h13 hk hf1
      go_wp2_with (go_at_call 144; refine (take_no _ 14 _ _ _ _ _ _ _ _ _ (unhide HP1) (unhide HT) rfl (by decide) (by decide) (Or.inr (unhide HK))).mono ?_)
      rintro e w2 ⟨rfl, hp2, hg2⟩
      have HP2 := hide hp2
      have HG2 := hide hg2
      clear hp2 hg2
      go_wp2_with fail
      go_ret
      rw [unhide HX]
      exact ⟨(unhide HG1).trans (unhide HG2), _, rfl, (unhide HF1).keepP (unhide HP1) (unhide HG2), i1, rfl, unhide HP2⟩

set_option maxHeartbeats 1000000 in
theorem and_step (n : Nat) (hU : ∀ m, m ≤ n → ST m) : SA (n + 1) := by
  intro w pb g cap L i h hn
  have HU := hide hU
  have HP := hide h
  clear hU h
  go_enter Tryz.func203, Tryz.ntmps203
  go_wp2_with (go_at_call 205; refine ((unhide HU) n (Nat.le_refl _) _ _ _ _ _ _ (unhide HP) (by omega)).mono ?_)
  rintro e w1 ⟨hg1, p, rfl, hx⟩
  have hstart : ∃ pa, (Value.pointer p = .pointer pa) ∧ w.grownBy w1 (some pb) ∧
      ((∃ acc j, n ≤ n ∧ 6 * (L.drop j).length + 1 ≤ n ∧ IsF w1 acc pa ∧ PS w1 pb g cap L j false ∧ Hid (pf (n + 1) 2 .nil (L.drop i) = pf n 6 acc (L.drop j))) ∨
       (∃ j, PS w1 pb g cap L j true ∧ Hid (pf (n + 1) 2 .nil (L.drop i) = .error (headP (L.drop j))))) := by
    refine ⟨p, rfl, hg1, ?_⟩
    cases hpf : pf n 3 .nil (L.drop i) with
    | error q =>
      rw [hpf] at hx
      obtain ⟨i1, hq1, hp1⟩ := hx
      exact Or.inr ⟨i1, hp1, by show _ = _; rw [pf, hpf, hq1]⟩
    | ok x =>
      obtain ⟨a, l1⟩ := x
      have hlen := pf_len _ _ _ _ _ _ hpf
      rw [hpf] at hx
      obtain ⟨hf1, i1, hl1, hp1⟩ := hx
      exact Or.inl ⟨a, i1, Nat.le_refl _, by rw [hl1]; omega, hf1, hp1, by show _ = _; rw [pf, hpf, hl1]⟩
  have HS := hide hstart
  clear hstart hx hg1
  go_wp2_with fail
  go_loopg [3] n (fun m v wr => ∃ pa, v = .pointer pa ∧ w.grownBy wr (some pb) ∧
      ((∃ acc j, m ≤ n ∧ 6 * (L.drop j).length + 1 ≤ m ∧ IsF wr acc pa ∧ PS wr pb g cap L j false ∧ Hid (pf (n + 1) 2 .nil (L.drop i) = pf m 6 acc (L.drop j))) ∨
       (∃ j, PS wr pb g cap L j true ∧ Hid (pf (n + 1) 2 .nil (L.drop i) = .error (headP (L.drop j))))))
  case atStart => exact unhide HS
  case round =>
    clear HS
    obtain ⟨pa, rfl, hgj, hcase⟩ := hrel
    have HGJ := hide hgj
    clear hgj
    rcases hcase with ⟨acc, j, hm, hmj, hfa, hpj, hxj⟩ | ⟨j, hpj, hxj⟩
    · obtain ⟨m, rfl⟩ : ∃ m, gk = m + 1 := ⟨gk - 1, by omega⟩
      by_cases h16 : headK (L.drop j) = 16
      · obtain ⟨t, u, r, ht, hk⟩ := head_yes hpj.ends (by decide) h16
        have ht2 := drop_tail ht
        have HXJ : Hid (pf (n + 1) 2 .nil (L.drop i) = (match pf m 3 .nil (L.drop (j + 1)) with | .error q => .error q | .ok (b, l2) => pf m 6 (two 10 acc b) l2)) := by
          show _ = _
          rw [hxj.out, pf]; simp only [h16, if_true]; rw [ht, ht2]; rfl
        have hlt2 : 6 * (L.drop (j + 1)).length + 2 ≤ m := by rw [ht2]; rw [ht] at hmj; simp only [List.length_cons] at hmj ⊢; omega
        have HL := hide hlt2
        have HFA := hide hfa
        have HPJ := hide hpj
        have HT := hide ht
        have HK := hide hk
        clear hpj ht h16 hk hfa ht2 hlt2 hxj
        go_wp2_with (go_at_call 144; refine (take_yes _ 16 _ _ _ _ _ _ _ _ _ (unhide HPJ) (unhide HT) rfl (by decide) (by decide) (unhide HK)).mono ?_)
        rintro e w2 ⟨rfl, hp2, hg2⟩
        have HP2 := hide hp2
        have HG2 := hide hg2
        clear hp2 hg2
        go_wp2_with (go_at_call 205; refine ((unhide HU) m (by omega) _ _ _ _ _ _ (unhide HP2) (unhide HL)).mono ?_)
        rintro e w3 ⟨hg3, p3, rfl, hx3⟩
        have HF3 := hide (((unhide HFA).keepP (unhide HPJ) (unhide HG2)).keepP (unhide HP2) hg3)
        have HG3 := hide hg3
        clear hg3
        cases hpf3 : pf m 3 .nil (L.drop (j + 1)) with
        | error q =>
          rw [hpf3] at hx3
          obtain ⟨i3, hq3, hp3⟩ := hx3
          have HX3 : Hid (pf (n + 1) 2 .nil (L.drop i) = .error (headP (L.drop i3))) := by show _ = _; rw [unhide HXJ, hpf3, hq3]
          have HP3 := hide hp3
          clear hp3 hq3 hpf3
          go_wp2_with (go_at_call 149; refine (two_lost _ _ _ _).mono ?_)
          rintro e w4 ⟨v, rfl, hb4⟩
          have HB4 := hide hb4
          clear hb4
          go_wp2_with fail
          go_roundg m
          case measure => omega
          case rel => exact ⟨_, rfl, (((unhide HGJ).trans (unhide HG2)).trans (unhide HG3)).trans (grown_below (unhide HB4) _), Or.inr ⟨i3, (unhide HP3).later (unhide HB4), unhide HX3⟩⟩
        | ok x =>
          obtain ⟨b, l2⟩ := x
          have hlen3 := pf_len _ _ _ _ _ _ hpf3
          rw [hpf3] at hx3
          obtain ⟨hf3, i3, hl3, hp3⟩ := hx3
          subst hl3
          have HX3 : Hid (pf (n + 1) 2 .nil (L.drop i) = pf m 6 (two 10 acc b) (L.drop i3)) := by show _ = _; rw [unhide HXJ, hpf3]
          have HP3 := hide hp3
          have HFB := hide hf3
          have hl3 : 6 * (L.drop i3).length + 1 ≤ m := by have := unhide HL; omega
          clear hp3 hpf3 hf3 hlen3
          go_wp2_with (go_at_call 149; refine (two_any 10 _ _ _ _ _ _ (unhide HF3) (unhide HFB) rfl).mono ?_)
          rintro e w4 ⟨v, rfl, hv, hb4⟩
          have HB4 := hide hb4
          have HV := hide hv
          clear hb4 hv
          go_wp2_with fail
          go_roundg m
          case measure => omega
          case rel => exact ⟨_, rfl, (((unhide HGJ).trans (unhide HG2)).trans (unhide HG3)).trans (grown_below (unhide HB4) _), Or.inl ⟨_, i3, by omega, hl3, unhide HV, (unhide HP3).later (unhide HB4), unhide HX3⟩⟩
      · obtain ⟨t, r, ht, hk⟩ := head_no hpj.ends h16
        have HX : Hid (pf (n + 1) 2 .nil (L.drop i) = .ok (acc, L.drop j)) := by show _ = _; rw [hxj.out, pf]; simp only [h16, if_false]
        have HFA := hide hfa
        have HPJ := hide hpj
        have HT := hide ht
        have HK := hide hk
        clear hpj ht h16 hk hfa hxj
        go_wp2_with (go_at_call 144; refine (take_no _ 16 _ _ _ _ _ _ _ _ _ (unhide HPJ) (unhide HT) rfl (by decide) (by decide) (Or.inr (unhide HK))).mono ?_)
        rintro e w2 ⟨rfl, hp2, hg2⟩
        have HP2 := hide hp2
        have HG2 := hide hg2
        clear hp2 hg2
        go_wp2_with fail
        go_ret
        rw [unhide HX]
        exact ⟨(unhide HGJ).trans (unhide HG2), _, rfl, (unhide HFA).keepP (unhide HPJ) (unhide HG2), j, rfl, unhide HP2⟩
    · obtain ⟨t, r, ht⟩ := drop_ne hpj.lt
      have HPJ := hide hpj
      have HT := hide ht
      have HXJ := hide hxj.out
      clear hpj ht hxj
      go_wp2_with (go_at_call 144; refine (take_no _ 16 _ _ _ _ _ _ _ _ _ (unhide HPJ) (unhide HT) rfl (by decide) (by decide) (Or.inl rfl)).mono ?_)
      rintro e w2 ⟨rfl, hp2, hg2⟩
      have HP2 := hide hp2
      have HG2 := hide hg2
      clear hp2 hg2
      go_wp2_with fail
      go_ret
      rw [unhide HXJ]
      exact ⟨(unhide HGJ).trans (unhide HG2), _, rfl, j, rfl, unhide HP2⟩

set_option maxHeartbeats 1000000 in
theorem or_step (n : Nat) (hU : ∀ m, m ≤ n → SA m) : SO (n + 1) := by
  intro w pb g cap L i h hn
  have HU := hide hU
  have HP := hide h
  clear hU h
  go_enter Tryz.func191, Tryz.ntmps191
  go_wp2_with (go_at_call 203; refine ((unhide HU) n (Nat.le_refl _) _ _ _ _ _ _ (unhide HP) (by omega)).mono ?_)
  rintro e w1 ⟨hg1, p, rfl, hx⟩
  have hstart : ∃ pa, (Value.pointer p = .pointer pa) ∧ w.grownBy w1 (some pb) ∧
      ((∃ acc j, n ≤ n ∧ 6 * (L.drop j).length + 1 ≤ n ∧ IsF w1 acc pa ∧ PS w1 pb g cap L j false ∧ Hid (pf (n + 1) 1 .nil (L.drop i) = pf n 5 acc (L.drop j))) ∨
       (∃ j, PS w1 pb g cap L j true ∧ Hid (pf (n + 1) 1 .nil (L.drop i) = .error (headP (L.drop j))))) := by
    refine ⟨p, rfl, hg1, ?_⟩
    cases hpf : pf n 2 .nil (L.drop i) with
    | error q =>
      rw [hpf] at hx
      obtain ⟨i1, hq1, hp1⟩ := hx
      exact Or.inr ⟨i1, hp1, by show _ = _; rw [pf, hpf, hq1]⟩
    | ok x =>
      obtain ⟨a, l1⟩ := x
      have hlen := pf_len _ _ _ _ _ _ hpf
      rw [hpf] at hx
      obtain ⟨hf1, i1, hl1, hp1⟩ := hx
      exact Or.inl ⟨a, i1, Nat.le_refl _, by rw [hl1]; omega, hf1, hp1, by show _ = _; rw [pf, hpf, hl1]⟩
  have HS := hide hstart
  clear hstart hx hg1
  go_wp2_with fail
  go_loopg [3] n (fun m v wr => ∃ pa, v = .pointer pa ∧ w.grownBy wr (some pb) ∧
      ((∃ acc j, m ≤ n ∧ 6 * (L.drop j).length + 1 ≤ m ∧ IsF wr acc pa ∧ PS wr pb g cap L j false ∧ Hid (pf (n + 1) 1 .nil (L.drop i) = pf m 5 acc (L.drop j))) ∨
       (∃ j, PS wr pb g cap L j true ∧ Hid (pf (n + 1) 1 .nil (L.drop i) = .error (headP (L.drop j))))))
  case atStart => exact unhide HS
  case round =>
    clear HS
    obtain ⟨pa, rfl, hgj, hcase⟩ := hrel
    have HGJ := hide hgj
    clear hgj
    rcases hcase with ⟨acc, j, hm, hmj, hfa, hpj, hxj⟩ | ⟨j, hpj, hxj⟩
    · obtain ⟨m, rfl⟩ : ∃ m, gk = m + 1 := ⟨gk - 1, by omega⟩
      by_cases h16 : headK (L.drop j) = 15
      · obtain ⟨t, u, r, ht, hk⟩ := head_yes hpj.ends (by decide) h16
        have ht2 := drop_tail ht
        have HXJ : Hid (pf (n + 1) 1 .nil (L.drop i) = (match pf m 2 .nil (L.drop (j + 1)) with | .error q => .error q | .ok (b, l2) => pf m 5 (two 11 acc b) l2)) := by
          show _ = _
          rw [hxj.out, pf]; simp only [h16, if_true]; rw [ht, ht2]; rfl
        have hlt2 : 6 * (L.drop (j + 1)).length + 3 ≤ m := by rw [ht2]; rw [ht] at hmj; simp only [List.length_cons] at hmj ⊢; omega
        have HL := hide hlt2
        have HFA := hide hfa
        have HPJ := hide hpj
        have HT := hide ht
        have HK := hide hk
        clear hpj ht h16 hk hfa ht2 hlt2 hxj
        go_wp2_with (go_at_call 144; refine (take_yes _ 15 _ _ _ _ _ _ _ _ _ (unhide HPJ) (unhide HT) rfl (by decide) (by decide) (unhide HK)).mono ?_)
        rintro e w2 ⟨rfl, hp2, hg2⟩
        have HP2 := hide hp2
        have HG2 := hide hg2
        clear hp2 hg2
        go_wp2_with (go_at_call 203; refine ((unhide HU) m (by omega) _ _ _ _ _ _ (unhide HP2) (unhide HL)).mono ?_)
        rintro e w3 ⟨hg3, p3, rfl, hx3⟩
        have HF3 := hide (((unhide HFA).keepP (unhide HPJ) (unhide HG2)).keepP (unhide HP2) hg3)
        have HG3 := hide hg3
        clear hg3
        cases hpf3 : pf m 2 .nil (L.drop (j + 1)) with
        | error q =>
          rw [hpf3] at hx3
          obtain ⟨i3, hq3, hp3⟩ := hx3
          have HX3 : Hid (pf (n + 1) 1 .nil (L.drop i) = .error (headP (L.drop i3))) := by show _ = _; rw [unhide HXJ, hpf3, hq3]
          have HP3 := hide hp3
          clear hp3 hq3 hpf3
          go_wp2_with (go_at_call 149; refine (two_lost _ _ _ _).mono ?_)
          rintro e w4 ⟨v, rfl, hb4⟩
          have HB4 := hide hb4
          clear hb4
          go_wp2_with fail
          go_roundg m
          case measure => omega
          case rel => exact ⟨_, rfl, (((unhide HGJ).trans (unhide HG2)).trans (unhide HG3)).trans (grown_below (unhide HB4) _), Or.inr ⟨i3, (unhide HP3).later (unhide HB4), unhide HX3⟩⟩
        | ok x =>
          obtain ⟨b, l2⟩ := x
          have hlen3 := pf_len _ _ _ _ _ _ hpf3
          rw [hpf3] at hx3
          obtain ⟨hf3, i3, hl3, hp3⟩ := hx3
          subst hl3
          have HX3 : Hid (pf (n + 1) 1 .nil (L.drop i) = pf m 5 (two 11 acc b) (L.drop i3)) := by show _ = _; rw [unhide HXJ, hpf3]
          have HP3 := hide hp3
          have HFB := hide hf3
          have hl3 : 6 * (L.drop i3).length + 1 ≤ m := by have := unhide HL; omega
          clear hp3 hpf3 hf3 hlen3
          go_wp2_with (go_at_call 149; refine (two_any 11 _ _ _ _ _ _ (unhide HF3) (unhide HFB) rfl).mono ?_)
          rintro e w4 ⟨v, rfl, hv, hb4⟩
          have HB4 := hide hb4
          have HV := hide hv
          clear hb4 hv
          go_wp2_with fail
          go_roundg m
          case measure => omega
          case rel => exact ⟨_, rfl, (((unhide HGJ).trans (unhide HG2)).trans (unhide HG3)).trans (grown_below (unhide HB4) _), Or.inl ⟨_, i3, by omega, hl3, unhide HV, (unhide HP3).later (unhide HB4), unhide HX3⟩⟩
      · obtain ⟨t, r, ht, hk⟩ := head_no hpj.ends h16
        have HX : Hid (pf (n + 1) 1 .nil (L.drop i) = .ok (acc, L.drop j)) := by show _ = _; rw [hxj.out, pf]; simp only [h16, if_false]
        have HFA := hide hfa
        have HPJ := hide hpj
        have HT := hide ht
        have HK := hide hk
        clear hpj ht h16 hk hfa hxj
        go_wp2_with (go_at_call 144; refine (take_no _ 15 _ _ _ _ _ _ _ _ _ (unhide HPJ) (unhide HT) rfl (by decide) (by decide) (Or.inr (unhide HK))).mono ?_)
        rintro e w2 ⟨rfl, hp2, hg2⟩
        have HP2 := hide hp2
        have HG2 := hide hg2
        clear hp2 hg2
        go_wp2_with fail
        go_ret
        rw [unhide HX]
        exact ⟨(unhide HGJ).trans (unhide HG2), _, rfl, (unhide HFA).keepP (unhide HPJ) (unhide HG2), j, rfl, unhide HP2⟩
    · obtain ⟨t, r, ht⟩ := drop_ne hpj.lt
      have HPJ := hide hpj
      have HT := hide ht
      have HXJ := hide hxj.out
      clear hpj ht hxj
      go_wp2_with (go_at_call 144; refine (take_no _ 15 _ _ _ _ _ _ _ _ _ (unhide HPJ) (unhide HT) rfl (by decide) (by decide) (Or.inl rfl)).mono ?_)
      rintro e w2 ⟨rfl, hp2, hg2⟩
      have HP2 := hide hp2
      have HG2 := hide hg2
      clear hp2 hg2
      go_wp2_with fail
      go_ret
      rw [unhide HXJ]
      exact ⟨(unhide HGJ).trans (unhide HG2), _, rfl, j, rfl, unhide HP2⟩

end Go.Proofs.YtoclbcffbhldmaaGreatDoor
