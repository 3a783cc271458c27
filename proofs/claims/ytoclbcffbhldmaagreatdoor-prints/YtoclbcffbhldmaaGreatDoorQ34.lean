/- The program's readers of formulas: word, operator, bracket, until, formula, and, or. -/
import Derived.Test.YtoclbcffbhldmaaGreatDoorQ2
set_option linter.unusedSimpArgs false
namespace Go.Proofs.YtoclbcffbhldmaaGreatDoor
open Go.RowKit Go.Deep

/-- What a reader of formulas leaves: the formula and the parser behind it, or the parser failed, with the place of the token that fits nowhere. -/
def GLeft (L : List Tk) (pb g cap B : Nat) (NM : List Tk) (w w' : World) (e : Ending) (x : Rd) : Prop :=
  PF pb B w w' ∧ ∃ p, e = .returned (.pointer p) ∧ (match x with
    | .ok (f, l) => IsG w' f p ∧ ∃ i, PL L i = l ∧ PP w' pb g cap B L i false 0 (NM ++ lvs f)
    | .error q => ∃ NM', PP w' pb g cap B L (L.length - 1) true q NM')
def GU (n : Nat) : Prop := ∀ (w : World) (pb g cap B : Nat) (L : List Tk) (i : Nat) (NM : List Tk), PP w pb g cap B L i false 0 NM → 6 * (PL L i).length + 1 ≤ n →
  Calls Tryz.prog 206 #[.pointer (some ⟨pb, 0, none⟩)] w fun e w' => GLeft L pb g cap B NM w w' e (pf n 4 .nil (PL L i))
def GT (n : Nat) : Prop := ∀ (w : World) (pb g cap B : Nat) (L : List Tk) (i : Nat) (NM : List Tk), PP w pb g cap B L i false 0 NM → 6 * (PL L i).length + 2 ≤ n →
  Calls Tryz.prog 204 #[.pointer (some ⟨pb, 0, none⟩)] w fun e w' => GLeft L pb g cap B NM w w' e (pf n 3 .nil (PL L i))
def GA (n : Nat) : Prop := ∀ (w : World) (pb g cap B : Nat) (L : List Tk) (i : Nat) (NM : List Tk), PP w pb g cap B L i false 0 NM → 6 * (PL L i).length + 3 ≤ n →
  Calls Tryz.prog 192 #[.pointer (some ⟨pb, 0, none⟩)] w fun e w' => GLeft L pb g cap B NM w w' e (pf n 2 .nil (PL L i))
def GO (n : Nat) : Prop := ∀ (w : World) (pb g cap B : Nat) (L : List Tk) (i : Nat) (NM : List Tk), PP w pb g cap B L i false 0 NM → 6 * (PL L i).length + 4 ≤ n →
  Calls Tryz.prog 175 #[.pointer (some ⟨pb, 0, none⟩)] w fun e w' => GLeft L pb g cap B NM w w' e (pf n 1 .nil (PL L i))
def GF (n : Nat) : Prop := ∀ (w : World) (pb g cap B : Nat) (L : List Tk) (i : Nat) (NM : List Tk), PP w pb g cap B L i false 0 NM → 6 * (PL L i).length + 5 ≤ n →
  Calls Tryz.prog 162 #[.pointer (some ⟨pb, 0, none⟩)] w fun e w' => GLeft L pb g cap B NM w w' e (pf n 0 .nil (PL L i))
def mapOne (k : Nat) : Rd → Rd
  | .error q => .error q
  | .ok (a, l) => .ok (one k a, l)
def brk : Rd → Rd
  | .error q => .error q
  | .ok (a, l) => if headK l = 19 then .ok (a, l.tail) else .error (headP l)
theorem PP.step {w w' : World} {pb g cap B : Nat} {L : List Tk} {i : Nat} {NM : List Tk} (h : PP w pb g cap B L i false 0 NM) (hm : Mv w w' pb g cap L.length i false 0 (i + 1) false 0) {t : Tk} {r : List Tk} (ht : PL L i = t :: r) (hk : 2 ≤ t.k) : PP w' pb g cap B L (i + 1) false 0 NM :=
  h.move hm (h.fe.nextLt ht (by omega)) (fun _ => by have := h.nm rfl; omega)
theorem PP.lost {w w' : World} {pb g cap B : Nat} {L : List Tk} {i : Nat} {bad : Bool} {q q' : Nat} {NM : List Tk} (h : PP w pb g cap B L i bad q NM) (hm : Mv w w' pb g cap L.length i bad q (L.length - 1) true q') : PP w' pb g cap B L (L.length - 1) true q' NM :=
  h.move hm (by have := h.lt; omega) (fun e => by cases e)

set_option maxHeartbeats 1000000 in
theorem pword_any (k : Nat) (w : World) (pb g cap B : Nat) (L : List Tk) (i : Nat) (NM : List Tk) (t : Tk) (r : List Tk) (h : PP w pb g cap B L i false 0 NM) (ht : PL L i = t :: r) (hk : 2 ≤ t.k) (hk0 : k ≠ 0) :
    Calls Tryz.prog 210 #[.pointer (some ⟨pb, 0, none⟩), .int .i64 (k : Int)] w fun e w' => GLeft L pb g cap B NM w w' e (.ok (leaf k ByteArray.empty 0, r)) := by
  have HP := hide h
  have HT := hide ht
  have HK0 := hide hk0
  clear h ht hk0
  go_enter Tryz.func210, Tryz.ntmps210
  go_wp2_with fail
  refine (pnext_any _ _ _ _ _ _ _ _ _ _ _ _ (unhide HP) (unhide HT)).mono ?_
  rintro e w1 ⟨rfl, rfl⟩
  go_wp2_with fail
  refine (ptake_yes t.k _ _ _ _ _ _ _ _ _ _ _ _ (unhide HP) (unhide HT) rfl hk).mono ?_
  rintro e w2 ⟨rfl, hm⟩
  have HP2 := hide ((unhide HP).step hm (unhide HT) hk)
  have HF2 := hide (PF.grown (B := B) hm.gr)
  clear hm
  simp only [tkP]
  go_wp2_with fail
  refine (fWord_any k _).mono ?_
  rintro e w3 ⟨v, rfl, hv, hb⟩
  have HV := hide hv
  have HB := hide hb
  clear hv hb
  go_wp2_with fail
  go_ret
  exact ⟨(unhide HF2).trans (PF.below (unhide HB)), v, rfl, unhide HV, i + 1, PL_next (unhide HT) hk, by rw [lvs_leaf (unhide HK0), List.append_nil]; exact (unhide HP2).later (unhide HB)⟩

set_option maxHeartbeats 1000000 in
theorem poperator_any (n : Nat) (hU : GU n) (k : Nat) (w : World) (pb g cap B : Nat) (L : List Tk) (i : Nat) (NM : List Tk) (t : Tk) (r : List Tk) (h : PP w pb g cap B L i false 0 NM) (ht : PL L i = t :: r) (hk : 2 ≤ t.k) (hk0 : k ≠ 0) (hn : 6 * r.length + 1 ≤ n) :
    Calls Tryz.prog 208 #[.pointer (some ⟨pb, 0, none⟩), .int .i64 (k : Int)] w fun e w' => GLeft L pb g cap B NM w w' e (mapOne k (pf n 4 .nil r)) := by
  have HU := hide hU
  have HP := hide h
  have HT := hide ht
  have HK0 := hide hk0
  have hr := PL_next ht hk
  have HR := hide hr
  clear h ht hk0 hU hr
  go_enter Tryz.func208, Tryz.ntmps208
  go_wp2_with fail
  refine (pnext_any _ _ _ _ _ _ _ _ _ _ _ _ (unhide HP) (unhide HT)).mono ?_
  rintro e w1 ⟨rfl, rfl⟩
  go_wp2_with fail
  refine (ptake_yes t.k _ _ _ _ _ _ _ _ _ _ _ _ (unhide HP) (unhide HT) rfl hk).mono ?_
  rintro e w2 ⟨rfl, hm⟩
  have HP2 := hide ((unhide HP).step hm (unhide HT) hk)
  have HF2 := hide (PF.grown (B := B) hm.gr)
  clear hm
  simp only [tkP]
  go_wp2_with fail
  refine ((unhide HU) _ _ _ _ _ _ _ _ (unhide HP2) (by rw [unhide HR]; exact hn)).mono ?_
  rw [unhide HR]
  rintro e w3 ⟨hf3, p3, rfl, hx3⟩
  have HF3 := hide hf3
  have HX3 := hide hx3
  clear hf3 hx3
  go_wp2_with fail
  cases hpf : pf n 4 .nil r with
  | error q =>
    obtain ⟨NM3, hp3⟩ : ∃ NM', PP w3 pb g cap B L (L.length - 1) true q NM' := by have := unhide HX3; rw [hpf] at this; exact this
    have HP3 := hide hp3
    have HX : Hid (mapOne k (pf n 4 .nil r) = .error q) := by show _ = _; rw [hpf]; rfl
    clear hp3 hpf HX3
    refine (fOne_any k .nil p3 _).mono ?_
    rintro e w4 ⟨v, rfl, -, hb⟩
    have HB := hide hb
    clear hb
    go_wp2_with fail
    go_ret
    rw [unhide HX]
    exact ⟨((unhide HF2).trans (unhide HF3)).trans (PF.below (unhide HB)), v, rfl, NM3, (unhide HP3).later (unhide HB)⟩
  | ok x =>
    obtain ⟨a, l1⟩ := x
    obtain ⟨hg3, i3, hl3, hp3⟩ : IsG w3 a p3 ∧ ∃ i, PL L i = l1 ∧ PP w3 pb g cap B L i false 0 (NM ++ lvs a) := by have := unhide HX3; rw [hpf] at this; exact this
    have HP3 := hide hp3
    have HG3 := hide hg3
    have HL3 := hide hl3
    have HX : Hid (mapOne k (pf n 4 .nil r) = .ok (one k a, l1)) := by show _ = _; rw [hpf]; rfl
    clear hp3 hpf HX3 hg3 hl3
    refine (fOne_any k a p3 _).mono ?_
    rintro e w4 ⟨v, rfl, hv, hb⟩
    have HB := hide hb
    have HV := hide (hv (unhide HG3))
    clear hb hv
    go_wp2_with fail
    go_ret
    rw [unhide HX]
    exact ⟨((unhide HF2).trans (unhide HF3)).trans (PF.below (unhide HB)), v, rfl, unhide HV, i3, unhide HL3, by rw [lvs_one (unhide HK0)]; exact (unhide HP3).later (unhide HB)⟩

set_option maxHeartbeats 1000000 in
theorem pbracket_any (n : Nat) (hU : GF n) (w : World) (pb g cap B : Nat) (L : List Tk) (i : Nat) (NM : List Tk) (t : Tk) (r : List Tk) (h : PP w pb g cap B L i false 0 NM) (ht : PL L i = t :: r) (hk : t.k = 18) (hn : 6 * r.length + 5 ≤ n) :
    Calls Tryz.prog 209 #[.pointer (some ⟨pb, 0, none⟩)] w fun e w' => GLeft L pb g cap B NM w w' e (brk (pf n 0 .nil r)) := by
  have HU := hide hU
  have HP := hide h
  have HT := hide ht
  have hr := PL_next ht (by omega)
  have HR := hide hr
  have HK := hide hk
  clear h ht hU hr hk
  go_enter Tryz.func209, Tryz.ntmps209
  go_wp2_with fail
  refine (ptake_yes 18 _ _ _ _ _ _ _ _ _ _ _ _ (unhide HP) (unhide HT) (unhide HK) (by decide)).mono ?_
  rintro e w2 ⟨rfl, hm⟩
  have HP2 := hide ((unhide HP).step hm (unhide HT) (by have := unhide HK; omega))
  have HF2 := hide (PF.grown (B := B) hm.gr)
  clear hm
  simp only [tkP]
  go_wp2_with fail
  refine ((unhide HU) _ _ _ _ _ _ _ _ (unhide HP2) (by rw [unhide HR]; exact hn)).mono ?_
  rw [unhide HR]
  rintro e w3 ⟨hf3, p3, rfl, hx3⟩
  have HF3 := hide hf3
  have HX3 := hide hx3
  clear hf3 hx3
  go_wp2_with fail
  cases hpf : pf n 0 .nil r with
  | error q =>
    obtain ⟨NM3, hp3⟩ : ∃ NM', PP w3 pb g cap B L (L.length - 1) true q NM' := by have := unhide HX3; rw [hpf] at this; exact this
    obtain ⟨t3, ht3, hk3⟩ := PL_last hp3.fe
    have HP3 := hide hp3
    have HT3 := hide ht3
    have hk19 : t3.k ≠ 19 := by omega
    have HK19 := hide hk19
    have HX : Hid (brk (pf n 0 .nil r) = .error q) := by show _ = _; rw [hpf]; rfl
    clear hp3 hpf HX3 ht3 hk3 hk19
    refine (ptake_no 19 _ _ _ _ _ _ _ _ _ _ _ _ (unhide HP3) (unhide HT3) (unhide HK19)).mono ?_
    rintro e w4 ⟨rfl, hm⟩
    have HP4 := hide ((unhide HP3).lost hm)
    have HF4 := hide (PF.grown (B := B) hm.gr)
    clear hm
    simp only [tkP]
    go_wp2_with fail
    go_ret
    rw [unhide HX]
    exact ⟨((unhide HF2).trans (unhide HF3)).trans (unhide HF4), p3, rfl, NM3, unhide HP4⟩
  | ok x =>
    obtain ⟨a, l1⟩ := x
    obtain ⟨hg3, i3, hl3, hp3⟩ : IsG w3 a p3 ∧ ∃ i, PL L i = l1 ∧ PP w3 pb g cap B L i false 0 (NM ++ lvs a) := by have := unhide HX3; rw [hpf] at this; exact this
    subst hl3
    have HP3 := hide hp3
    have HG3 := hide hg3
    by_cases h19 : headK (PL L i3) = 19
    · obtain ⟨t3, u3, r3, ht3, hk3⟩ := head_yes (PL_ends hp3.fe hp3.lt) (by decide) h19
      have HX : Hid (brk (pf n 0 .nil r) = .ok (a, u3 :: r3)) := by show _ = _; rw [hpf]; show (if headK (PL L i3) = 19 then (.ok (a, (PL L i3).tail) : Rd) else .error (headP (PL L i3))) = _; rw [if_pos h19, ht3]; rfl
      have HT3 := hide ht3
      have HK3 := hide hk3
      clear hp3 hpf HX3 hg3 ht3 hk3 h19
      refine (ptake_yes 19 _ _ _ _ _ _ _ _ _ _ _ _ (unhide HP3) (unhide HT3) (unhide HK3) (by decide)).mono ?_
      rintro e w4 ⟨rfl, hm⟩
      have HP4 := hide ((unhide HP3).step hm (unhide HT3) (by have := unhide HK3; omega))
      have HF4 := hide (PF.grown (B := B) hm.gr)
      clear hm
      simp only [tkP]
      go_wp2_with fail
      go_ret
      rw [unhide HX]
      exact ⟨((unhide HF2).trans (unhide HF3)).trans (unhide HF4), p3, rfl, (unhide HF4).isG (unhide HP3) (unhide HG3), i3 + 1, PL_next (unhide HT3) (by have := unhide HK3; omega), unhide HP4⟩
    · obtain ⟨t3, r3, ht3, hk3⟩ := head_no (PL_ends hp3.fe hp3.lt) h19
      have HX : Hid (brk (pf n 0 .nil r) = .error t3.p) := by show _ = _; rw [hpf]; show (if headK (PL L i3) = 19 then (.ok (a, (PL L i3).tail) : Rd) else .error (headP (PL L i3))) = _; rw [if_neg h19, ht3]; rfl
      have HT3 := hide ht3
      have HK3 := hide hk3
      clear hp3 hpf HX3 hg3 ht3 hk3 h19
      refine (ptake_no 19 _ _ _ _ _ _ _ _ _ _ _ _ (unhide HP3) (unhide HT3) (unhide HK3)).mono ?_
      rintro e w4 ⟨rfl, hm⟩
      have HP4 := hide ((unhide HP3).lost hm)
      have HF4 := hide (PF.grown (B := B) hm.gr)
      clear hm
      simp only [tkP]
      go_wp2_with fail
      go_ret
      rw [unhide HX]
      exact ⟨((unhide HF2).trans (unhide HF3)).trans (unhide HF4), p3, rfl, _, unhide HP4⟩

set_option maxHeartbeats 1000000 in
theorem puntil_step (n : Nat) (hU : GU n) (hV : GU n) : GT (n + 1) := by
  intro w pb g cap B L i NM h hn
  have HU := hide hU
  have HV2 := hide hV
  have HP := hide h
  clear hU hV h
  go_enter Tryz.func204, Tryz.ntmps204
  go_wp2_with fail
  refine ((unhide HU) _ _ _ _ _ _ _ _ (unhide HP) (by omega)).mono ?_
  rintro e w1 ⟨hf1, p, rfl, hx⟩
  have HF1 := hide hf1
  cases hpf : pf n 4 .nil (PL L i) with
  | error q =>
    have HX : Hid (pf (n + 1) 3 .nil (PL L i) = .error q) := by show _ = _; rw [pf, hpf]
    rw [hpf] at hx
    obtain ⟨NM1, hp1⟩ := hx
    obtain ⟨t, ht, hk⟩ := PL_last hp1.fe
    have HP1 := hide hp1
    have HT := hide ht
    have HK := hide (show t.k ≠ 13 by omega)
    clear hp1 hf1 ht hpf hk
    go_wp2_with fail
    refine (pskip_no 13 _ _ _ _ _ _ _ _ _ _ _ _ (unhide HP1) (unhide HT) (unhide HK)).mono ?_
    rintro e w2 ⟨rfl, rfl⟩
    go_wp2_with fail
    go_ret
    rw [unhide HX]
    exact ⟨unhide HF1, _, rfl, NM1, unhide HP1⟩
  | ok x =>
    obtain ⟨a, l1⟩ := x
    have hlen := pf_len _ _ _ _ _ _ hpf
    rw [hpf] at hx
    obtain ⟨hg1, i1, hl1, hp1⟩ := hx
    subst hl1
    by_cases h13 : headK (PL L i1) = 13
    · obtain ⟨t, u, r, ht, hk⟩ := head_yes (PL_ends hp1.fe hp1.lt) (by decide) h13
      have ht2 := PL_next ht (by omega)
      have hX : pf (n + 1) 3 .nil (PL L i) = (match pf n 4 .nil (PL L (i1 + 1)) with | .error q => .error q | .ok (b, l2) => .ok (two 9 a b, l2)) := by
        rw [pf, hpf]; simp only [h13, if_true]; rw [ht, ht2]; rfl
      have HX := hide hX
      have hlt2 : 6 * (PL L (i1 + 1)).length + 1 ≤ n := by rw [ht2]; rw [ht] at hlen; simp only [List.length_cons] at hlen ⊢; omega
      have HL := hide hlt2
      have HG1 := hide hg1
      have HP1 := hide hp1
      have HT := hide ht
      have HK := hide hk
      clear hp1 hf1 ht hpf hX h13 hk hg1 ht2 hlt2
      go_wp2_with fail
      refine (pskip_yes 13 _ _ _ _ _ _ _ _ _ _ _ _ (unhide HP1) (unhide HT) (unhide HK) (by decide)).mono ?_
      rintro e w2 ⟨rfl, hm⟩
      have HP2 := hide ((unhide HP1).step hm (unhide HT) (by have := unhide HK; omega))
      have HF2 := hide (PF.grown (B := B) hm.gr)
      clear hm
      go_wp2_with fail
      refine ((unhide HV2) _ _ _ _ _ _ _ _ (unhide HP2) (unhide HL)).mono ?_
      rintro e w3 ⟨hf3, p3, rfl, hx3⟩
      have HGA := hide (hf3.isG (unhide HP2) ((unhide HF2).isG (unhide HP1) (unhide HG1)))
      have HF3 := hide hf3
      clear hf3
      go_wp2_with fail
      cases hpf3 : pf n 4 .nil (PL L (i1 + 1)) with
      | error q =>
        rw [hpf3] at hx3
        have HX3 : Hid (pf (n + 1) 3 .nil (PL L i) = .error q) := by show _ = _; rw [unhide HX, hpf3]
        obtain ⟨NM3, hp3⟩ := hx3
        have HP3 := hide hp3
        clear hp3 hpf3
        refine (fTwo_any 9 .nil .nil p p3 _).mono ?_
        rintro e w4 ⟨v, rfl, -, hb4⟩
        have HB4 := hide hb4
        clear hb4
        go_wp2_with fail
        go_ret
        rw [unhide HX3]
        exact ⟨(((unhide HF1).trans (unhide HF2)).trans (unhide HF3)).trans (PF.below (unhide HB4)), _, rfl, NM3, (unhide HP3).later (unhide HB4)⟩
      | ok x =>
        obtain ⟨b, l2⟩ := x
        rw [hpf3] at hx3
        have HX3 : Hid (pf (n + 1) 3 .nil (PL L i) = .ok (two 9 a b, l2)) := by show _ = _; rw [unhide HX, hpf3]
        obtain ⟨hg3, i3, hl3, hp3⟩ := hx3
        have HP3 := hide hp3
        have HQ3 := hide hl3
        have HGB := hide hg3
        clear hp3 hl3 hpf3 hg3
        refine (fTwo_any 9 a b p p3 _).mono ?_
        rintro e w4 ⟨v, rfl, hv, hb4⟩
        have HB4 := hide hb4
        have HV := hide (hv (unhide HGA) (unhide HGB))
        clear hb4 hv
        go_wp2_with fail
        go_ret
        rw [unhide HX3]
        exact ⟨(((unhide HF1).trans (unhide HF2)).trans (unhide HF3)).trans (PF.below (unhide HB4)), _, rfl, unhide HV, i3, unhide HQ3, by rw [lvs_two (by decide), ← List.append_assoc]; exact (unhide HP3).later (unhide HB4)⟩
    · obtain ⟨t, r, ht, hk⟩ := head_no (PL_ends hp1.fe hp1.lt) h13
      have HX : Hid (pf (n + 1) 3 .nil (PL L i) = .ok (a, PL L i1)) := by show _ = _; rw [pf, hpf]; simp only [h13, if_false]
      have HG1 := hide hg1
      have HP1 := hide hp1
      have HT := hide ht
      have HK := hide hk
      clear hp1 hf1 ht hpf h13 hk hg1
      go_wp2_with fail
      refine (pskip_no 13 _ _ _ _ _ _ _ _ _ _ _ _ (unhide HP1) (unhide HT) (unhide HK)).mono ?_
      rintro e w2 ⟨rfl, rfl⟩
      go_wp2_with fail
      go_ret
      rw [unhide HX]
      exact ⟨unhide HF1, _, rfl, unhide HG1, i1, rfl, unhide HP1⟩

set_option maxHeartbeats 1000000 in
theorem pformula_step (n : Nat) (hU : GO n) (hV : GF n) : GF (n + 1) := by
  intro w pb g cap B L i NM h hn
  have HU := hide hU
  have HV2 := hide hV
  have HP := hide h
  clear hU hV h
  go_enter Tryz.func162, Tryz.ntmps162
  go_wp2_with fail
  refine ((unhide HU) _ _ _ _ _ _ _ _ (unhide HP) (by omega)).mono ?_
  rintro e w1 ⟨hf1, p, rfl, hx⟩
  have HF1 := hide hf1
  cases hpf : pf n 1 .nil (PL L i) with
  | error q =>
    have HX : Hid (pf (n + 1) 0 .nil (PL L i) = .error q) := by show _ = _; rw [pf, hpf]
    rw [hpf] at hx
    obtain ⟨NM1, hp1⟩ := hx
    obtain ⟨t, ht, hk⟩ := PL_last hp1.fe
    have HP1 := hide hp1
    have HT := hide ht
    have HK := hide (show t.k ≠ 14 by omega)
    clear hp1 hf1 ht hpf hk
    go_wp2_with fail
    refine (pskip_no 14 _ _ _ _ _ _ _ _ _ _ _ _ (unhide HP1) (unhide HT) (unhide HK)).mono ?_
    rintro e w2 ⟨rfl, rfl⟩
    go_wp2_with fail
    go_ret
    rw [unhide HX]
    exact ⟨unhide HF1, _, rfl, NM1, unhide HP1⟩
  | ok x =>
    obtain ⟨a, l1⟩ := x
    have hlen := pf_len _ _ _ _ _ _ hpf
    rw [hpf] at hx
    obtain ⟨hg1, i1, hl1, hp1⟩ := hx
    subst hl1
    by_cases h13 : headK (PL L i1) = 14
    · obtain ⟨t, u, r, ht, hk⟩ := head_yes (PL_ends hp1.fe hp1.lt) (by decide) h13
      have ht2 := PL_next ht (by omega)
      have hX : pf (n + 1) 0 .nil (PL L i) = (match pf n 0 .nil (PL L (i1 + 1)) with | .error q => .error q | .ok (b, l2) => .ok (two 12 a b, l2)) := by
        rw [pf, hpf]; simp only [h13, if_true]; rw [ht, ht2]; rfl
      have HX := hide hX
      have hlt2 : 6 * (PL L (i1 + 1)).length + 5 ≤ n := by rw [ht2]; rw [ht] at hlen; simp only [List.length_cons] at hlen ⊢; omega
      have HL := hide hlt2
      have HG1 := hide hg1
      have HP1 := hide hp1
      have HT := hide ht
      have HK := hide hk
      clear hp1 hf1 ht hpf hX h13 hk hg1 ht2 hlt2
      go_wp2_with fail
      refine (pskip_yes 14 _ _ _ _ _ _ _ _ _ _ _ _ (unhide HP1) (unhide HT) (unhide HK) (by decide)).mono ?_
      rintro e w2 ⟨rfl, hm⟩
      have HP2 := hide ((unhide HP1).step hm (unhide HT) (by have := unhide HK; omega))
      have HF2 := hide (PF.grown (B := B) hm.gr)
      clear hm
      go_wp2_with fail
      refine ((unhide HV2) _ _ _ _ _ _ _ _ (unhide HP2) (unhide HL)).mono ?_
      rintro e w3 ⟨hf3, p3, rfl, hx3⟩
      have HGA := hide (hf3.isG (unhide HP2) ((unhide HF2).isG (unhide HP1) (unhide HG1)))
      have HF3 := hide hf3
      clear hf3
      go_wp2_with fail
      cases hpf3 : pf n 0 .nil (PL L (i1 + 1)) with
      | error q =>
        rw [hpf3] at hx3
        have HX3 : Hid (pf (n + 1) 0 .nil (PL L i) = .error q) := by show _ = _; rw [unhide HX, hpf3]
        obtain ⟨NM3, hp3⟩ := hx3
        have HP3 := hide hp3
        clear hp3 hpf3
        refine (fTwo_any 12 .nil .nil p p3 _).mono ?_
        rintro e w4 ⟨v, rfl, -, hb4⟩
        have HB4 := hide hb4
        clear hb4
        go_wp2_with fail
        go_ret
        rw [unhide HX3]
        exact ⟨(((unhide HF1).trans (unhide HF2)).trans (unhide HF3)).trans (PF.below (unhide HB4)), _, rfl, NM3, (unhide HP3).later (unhide HB4)⟩
      | ok x =>
        obtain ⟨b, l2⟩ := x
        rw [hpf3] at hx3
        have HX3 : Hid (pf (n + 1) 0 .nil (PL L i) = .ok (two 12 a b, l2)) := by show _ = _; rw [unhide HX, hpf3]
        obtain ⟨hg3, i3, hl3, hp3⟩ := hx3
        have HP3 := hide hp3
        have HQ3 := hide hl3
        have HGB := hide hg3
        clear hp3 hl3 hpf3 hg3
        refine (fTwo_any 12 a b p p3 _).mono ?_
        rintro e w4 ⟨v, rfl, hv, hb4⟩
        have HB4 := hide hb4
        have HV := hide (hv (unhide HGA) (unhide HGB))
        clear hb4 hv
        go_wp2_with fail
        go_ret
        rw [unhide HX3]
        exact ⟨(((unhide HF1).trans (unhide HF2)).trans (unhide HF3)).trans (PF.below (unhide HB4)), _, rfl, unhide HV, i3, unhide HQ3, by rw [lvs_two (by decide), ← List.append_assoc]; exact (unhide HP3).later (unhide HB4)⟩
    · obtain ⟨t, r, ht, hk⟩ := head_no (PL_ends hp1.fe hp1.lt) h13
      have HX : Hid (pf (n + 1) 0 .nil (PL L i) = .ok (a, PL L i1)) := by show _ = _; rw [pf, hpf]; simp only [h13, if_false]
      have HG1 := hide hg1
      have HP1 := hide hp1
      have HT := hide ht
      have HK := hide hk
      clear hp1 hf1 ht hpf h13 hk hg1
      go_wp2_with fail
      refine (pskip_no 14 _ _ _ _ _ _ _ _ _ _ _ _ (unhide HP1) (unhide HT) (unhide HK)).mono ?_
      rintro e w2 ⟨rfl, rfl⟩
      go_wp2_with fail
      go_ret
      rw [unhide HX]
      exact ⟨unhide HF1, _, rfl, unhide HG1, i1, rfl, unhide HP1⟩

set_option maxHeartbeats 1000000 in
theorem pand_step (n : Nat) (hU : ∀ m, m ≤ n → GT m) : GA (n + 1) := by
  intro w pb g cap B L i NM h hn
  have HU := hide hU
  have HP := hide h
  clear hU h
  go_enter Tryz.func192, Tryz.ntmps192
  go_wp2_with fail
  refine ((unhide HU) n (Nat.le_refl _) _ _ _ _ _ _ _ _ (unhide HP) (by omega)).mono ?_
  rintro e w1 ⟨hf1, p, rfl, hx⟩
  have hstart : ∃ pa, (Value.pointer p = .pointer pa) ∧ PF pb B w w1 ∧
      ((∃ acc j, n ≤ n ∧ 6 * (PL L j).length + 1 ≤ n ∧ IsG w1 acc pa ∧ PP w1 pb g cap B L j false 0 (NM ++ lvs acc) ∧ Hid (pf (n + 1) 2 .nil (PL L i) = pf n 6 acc (PL L j))) ∨
       (∃ q NM', PP w1 pb g cap B L (L.length - 1) true q NM' ∧ Hid (pf (n + 1) 2 .nil (PL L i) = .error q))) := by
    refine ⟨p, rfl, hf1, ?_⟩
    cases hpf : pf n 3 .nil (PL L i) with
    | error q =>
      rw [hpf] at hx
      obtain ⟨NM1, hp1⟩ := hx
      exact Or.inr ⟨q, NM1, hp1, by show _ = _; rw [pf, hpf]⟩
    | ok x =>
      obtain ⟨a, l1⟩ := x
      have hlen := pf_len _ _ _ _ _ _ hpf
      rw [hpf] at hx
      obtain ⟨hg1, i1, hl1, hp1⟩ := hx
      exact Or.inl ⟨a, i1, Nat.le_refl _, by rw [hl1]; omega, hg1, hp1, by show _ = _; rw [pf, hpf, hl1]⟩
  have HS := hide hstart
  clear hstart hx hf1
  go_wp2_with fail
  go_loopg [3] n (fun m v wr => ∃ pa, v = .pointer pa ∧ PF pb B w wr ∧
      ((∃ acc j, m ≤ n ∧ 6 * (PL L j).length + 1 ≤ m ∧ IsG wr acc pa ∧ PP wr pb g cap B L j false 0 (NM ++ lvs acc) ∧ Hid (pf (n + 1) 2 .nil (PL L i) = pf m 6 acc (PL L j))) ∨
       (∃ q NM', PP wr pb g cap B L (L.length - 1) true q NM' ∧ Hid (pf (n + 1) 2 .nil (PL L i) = .error q))))
  case atStart => exact unhide HS
  case round =>
    clear HS
    obtain ⟨pa, rfl, hgj, hcase⟩ := hrel
    have HFJ := hide hgj
    clear hgj
    rcases hcase with ⟨acc, j, hm, hmj, hga, hpj, hxj⟩ | ⟨q, NMj, hpj, hxj⟩
    · obtain ⟨m, rfl⟩ : ∃ m, gk = m + 1 := ⟨gk - 1, by omega⟩
      by_cases h16 : headK (PL L j) = 16
      · obtain ⟨t, u, r, ht, hk⟩ := head_yes (PL_ends hpj.fe hpj.lt) (by decide) h16
        have ht2 := PL_next ht (by omega)
        have HXJ : Hid (pf (n + 1) 2 .nil (PL L i) = (match pf m 3 .nil (PL L (j + 1)) with | .error q => .error q | .ok (b, l2) => pf m 6 (two 10 acc b) l2)) := by
          show _ = _
          rw [hxj.out, pf]; simp only [h16, if_true]; rw [ht, ht2]; rfl
        have hlt2 : 6 * (PL L (j + 1)).length + 2 ≤ m := by rw [ht2]; rw [ht] at hmj; simp only [List.length_cons] at hmj ⊢; omega
        have HL := hide hlt2
        have HGA := hide hga
        have HPJ := hide hpj
        have HT := hide ht
        have HK := hide hk
        clear hpj ht h16 hk hga ht2 hlt2 hxj
        go_wp2_with fail
        refine (pskip_yes 16 _ _ _ _ _ _ _ _ _ _ _ _ (unhide HPJ) (unhide HT) (unhide HK) (by decide)).mono ?_
        rintro e w2 ⟨rfl, hmv⟩
        have HP2 := hide ((unhide HPJ).step hmv (unhide HT) (by have := unhide HK; omega))
        have HF2 := hide (PF.grown (B := B) hmv.gr)
        clear hmv
        go_wp2_with fail
        refine ((unhide HU) m (by omega) _ _ _ _ _ _ _ _ (unhide HP2) (unhide HL)).mono ?_
        rintro e w3 ⟨hf3, p3, rfl, hx3⟩
        have HG3 := hide (hf3.isG (unhide HP2) ((unhide HF2).isG (unhide HPJ) (unhide HGA)))
        have HF3 := hide hf3
        clear hf3
        go_wp2_with fail
        cases hpf3 : pf m 3 .nil (PL L (j + 1)) with
        | error q =>
          rw [hpf3] at hx3
          obtain ⟨NM3, hp3⟩ := hx3
          have HX3 : Hid (pf (n + 1) 2 .nil (PL L i) = .error q) := by show _ = _; rw [unhide HXJ, hpf3]
          have HP3 := hide hp3
          clear hp3 hpf3
          refine (fTwo_any 10 .nil .nil pa p3 _).mono ?_
          rintro e w4 ⟨v, rfl, -, hb4⟩
          have HB4 := hide hb4
          clear hb4
          go_wp2_with fail
          go_roundg m
          case measure => omega
          case rel => exact ⟨_, rfl, (((unhide HFJ).trans (unhide HF2)).trans (unhide HF3)).trans (PF.below (unhide HB4)), Or.inr ⟨q, NM3, (unhide HP3).later (unhide HB4), unhide HX3⟩⟩
        | ok x =>
          obtain ⟨b, l2⟩ := x
          have hlen3 := pf_len _ _ _ _ _ _ hpf3
          rw [hpf3] at hx3
          obtain ⟨hg3, i3, hl3, hp3⟩ := hx3
          subst hl3
          have HX3 : Hid (pf (n + 1) 2 .nil (PL L i) = pf m 6 (two 10 acc b) (PL L i3)) := by show _ = _; rw [unhide HXJ, hpf3]
          have HP3 := hide hp3
          have HGB := hide hg3
          have hl3 : 6 * (PL L i3).length + 1 ≤ m := by have := unhide HL; omega
          clear hp3 hpf3 hg3 hlen3
          refine (fTwo_any 10 acc b pa p3 _).mono ?_
          rintro e w4 ⟨v, rfl, hv, hb4⟩
          have HB4 := hide hb4
          have HV := hide (hv (unhide HG3) (unhide HGB))
          clear hb4 hv
          go_wp2_with fail
          go_roundg m
          case measure => omega
          case rel => exact ⟨_, rfl, (((unhide HFJ).trans (unhide HF2)).trans (unhide HF3)).trans (PF.below (unhide HB4)), Or.inl ⟨_, i3, by omega, hl3, unhide HV, by rw [lvs_two (by decide), ← List.append_assoc]; exact (unhide HP3).later (unhide HB4), unhide HX3⟩⟩
      · obtain ⟨t, r, ht, hk⟩ := head_no (PL_ends hpj.fe hpj.lt) h16
        have HX : Hid (pf (n + 1) 2 .nil (PL L i) = .ok (acc, PL L j)) := by show _ = _; rw [hxj.out, pf]; simp only [h16, if_false]
        have HGA := hide hga
        have HPJ := hide hpj
        have HT := hide ht
        have HK := hide hk
        clear hpj ht h16 hk hga hxj
        go_wp2_with fail
        refine (pskip_no 16 _ _ _ _ _ _ _ _ _ _ _ _ (unhide HPJ) (unhide HT) (unhide HK)).mono ?_
        rintro e w2 ⟨rfl, rfl⟩
        go_wp2_with fail
        go_ret
        rw [unhide HX]
        exact ⟨unhide HFJ, _, rfl, unhide HGA, j, rfl, unhide HPJ⟩
    · obtain ⟨t, ht, hk⟩ := PL_last hpj.fe
      have HPJ := hide hpj
      have HT := hide ht
      have HK := hide (show t.k ≠ 16 by omega)
      have HXJ := hide hxj.out
      clear hpj ht hxj hk
      go_wp2_with fail
      refine (pskip_no 16 _ _ _ _ _ _ _ _ _ _ _ _ (unhide HPJ) (unhide HT) (unhide HK)).mono ?_
      rintro e w2 ⟨rfl, rfl⟩
      go_wp2_with fail
      go_ret
      rw [unhide HXJ]
      exact ⟨unhide HFJ, _, rfl, NMj, unhide HPJ⟩

set_option maxHeartbeats 1000000 in
theorem por_step (n : Nat) (hU : ∀ m, m ≤ n → GA m) : GO (n + 1) := by
  intro w pb g cap B L i NM h hn
  have HU := hide hU
  have HP := hide h
  clear hU h
  go_enter Tryz.func175, Tryz.ntmps175
  go_wp2_with fail
  refine ((unhide HU) n (Nat.le_refl _) _ _ _ _ _ _ _ _ (unhide HP) (by omega)).mono ?_
  rintro e w1 ⟨hf1, p, rfl, hx⟩
  have hstart : ∃ pa, (Value.pointer p = .pointer pa) ∧ PF pb B w w1 ∧
      ((∃ acc j, n ≤ n ∧ 6 * (PL L j).length + 1 ≤ n ∧ IsG w1 acc pa ∧ PP w1 pb g cap B L j false 0 (NM ++ lvs acc) ∧ Hid (pf (n + 1) 1 .nil (PL L i) = pf n 5 acc (PL L j))) ∨
       (∃ q NM', PP w1 pb g cap B L (L.length - 1) true q NM' ∧ Hid (pf (n + 1) 1 .nil (PL L i) = .error q))) := by
    refine ⟨p, rfl, hf1, ?_⟩
    cases hpf : pf n 2 .nil (PL L i) with
    | error q =>
      rw [hpf] at hx
      obtain ⟨NM1, hp1⟩ := hx
      exact Or.inr ⟨q, NM1, hp1, by show _ = _; rw [pf, hpf]⟩
    | ok x =>
      obtain ⟨a, l1⟩ := x
      have hlen := pf_len _ _ _ _ _ _ hpf
      rw [hpf] at hx
      obtain ⟨hg1, i1, hl1, hp1⟩ := hx
      exact Or.inl ⟨a, i1, Nat.le_refl _, by rw [hl1]; omega, hg1, hp1, by show _ = _; rw [pf, hpf, hl1]⟩
  have HS := hide hstart
  clear hstart hx hf1
  go_wp2_with fail
  go_loopg [3] n (fun m v wr => ∃ pa, v = .pointer pa ∧ PF pb B w wr ∧
      ((∃ acc j, m ≤ n ∧ 6 * (PL L j).length + 1 ≤ m ∧ IsG wr acc pa ∧ PP wr pb g cap B L j false 0 (NM ++ lvs acc) ∧ Hid (pf (n + 1) 1 .nil (PL L i) = pf m 5 acc (PL L j))) ∨
       (∃ q NM', PP wr pb g cap B L (L.length - 1) true q NM' ∧ Hid (pf (n + 1) 1 .nil (PL L i) = .error q))))
  case atStart => exact unhide HS
  case round =>
    clear HS
    obtain ⟨pa, rfl, hgj, hcase⟩ := hrel
    have HFJ := hide hgj
    clear hgj
    rcases hcase with ⟨acc, j, hm, hmj, hga, hpj, hxj⟩ | ⟨q, NMj, hpj, hxj⟩
    · obtain ⟨m, rfl⟩ : ∃ m, gk = m + 1 := ⟨gk - 1, by omega⟩
      by_cases h16 : headK (PL L j) = 15
      · obtain ⟨t, u, r, ht, hk⟩ := head_yes (PL_ends hpj.fe hpj.lt) (by decide) h16
        have ht2 := PL_next ht (by omega)
        have HXJ : Hid (pf (n + 1) 1 .nil (PL L i) = (match pf m 2 .nil (PL L (j + 1)) with | .error q => .error q | .ok (b, l2) => pf m 5 (two 11 acc b) l2)) := by
          show _ = _
          rw [hxj.out, pf]; simp only [h16, if_true]; rw [ht, ht2]; rfl
        have hlt2 : 6 * (PL L (j + 1)).length + 3 ≤ m := by rw [ht2]; rw [ht] at hmj; simp only [List.length_cons] at hmj ⊢; omega
        have HL := hide hlt2
        have HGA := hide hga
        have HPJ := hide hpj
        have HT := hide ht
        have HK := hide hk
        clear hpj ht h16 hk hga ht2 hlt2 hxj
        go_wp2_with fail
        refine (pskip_yes 15 _ _ _ _ _ _ _ _ _ _ _ _ (unhide HPJ) (unhide HT) (unhide HK) (by decide)).mono ?_
        rintro e w2 ⟨rfl, hmv⟩
        have HP2 := hide ((unhide HPJ).step hmv (unhide HT) (by have := unhide HK; omega))
        have HF2 := hide (PF.grown (B := B) hmv.gr)
        clear hmv
        go_wp2_with fail
        refine ((unhide HU) m (by omega) _ _ _ _ _ _ _ _ (unhide HP2) (unhide HL)).mono ?_
        rintro e w3 ⟨hf3, p3, rfl, hx3⟩
        have HG3 := hide (hf3.isG (unhide HP2) ((unhide HF2).isG (unhide HPJ) (unhide HGA)))
        have HF3 := hide hf3
        clear hf3
        go_wp2_with fail
        cases hpf3 : pf m 2 .nil (PL L (j + 1)) with
        | error q =>
          rw [hpf3] at hx3
          obtain ⟨NM3, hp3⟩ := hx3
          have HX3 : Hid (pf (n + 1) 1 .nil (PL L i) = .error q) := by show _ = _; rw [unhide HXJ, hpf3]
          have HP3 := hide hp3
          clear hp3 hpf3
          refine (fTwo_any 11 .nil .nil pa p3 _).mono ?_
          rintro e w4 ⟨v, rfl, -, hb4⟩
          have HB4 := hide hb4
          clear hb4
          go_wp2_with fail
          go_roundg m
          case measure => omega
          case rel => exact ⟨_, rfl, (((unhide HFJ).trans (unhide HF2)).trans (unhide HF3)).trans (PF.below (unhide HB4)), Or.inr ⟨q, NM3, (unhide HP3).later (unhide HB4), unhide HX3⟩⟩
        | ok x =>
          obtain ⟨b, l2⟩ := x
          have hlen3 := pf_len _ _ _ _ _ _ hpf3
          rw [hpf3] at hx3
          obtain ⟨hg3, i3, hl3, hp3⟩ := hx3
          subst hl3
          have HX3 : Hid (pf (n + 1) 1 .nil (PL L i) = pf m 5 (two 11 acc b) (PL L i3)) := by show _ = _; rw [unhide HXJ, hpf3]
          have HP3 := hide hp3
          have HGB := hide hg3
          have hl3 : 6 * (PL L i3).length + 1 ≤ m := by have := unhide HL; omega
          clear hp3 hpf3 hg3 hlen3
          refine (fTwo_any 11 acc b pa p3 _).mono ?_
          rintro e w4 ⟨v, rfl, hv, hb4⟩
          have HB4 := hide hb4
          have HV := hide (hv (unhide HG3) (unhide HGB))
          clear hb4 hv
          go_wp2_with fail
          go_roundg m
          case measure => omega
          case rel => exact ⟨_, rfl, (((unhide HFJ).trans (unhide HF2)).trans (unhide HF3)).trans (PF.below (unhide HB4)), Or.inl ⟨_, i3, by omega, hl3, unhide HV, by rw [lvs_two (by decide), ← List.append_assoc]; exact (unhide HP3).later (unhide HB4), unhide HX3⟩⟩
      · obtain ⟨t, r, ht, hk⟩ := head_no (PL_ends hpj.fe hpj.lt) h16
        have HX : Hid (pf (n + 1) 1 .nil (PL L i) = .ok (acc, PL L j)) := by show _ = _; rw [hxj.out, pf]; simp only [h16, if_false]
        have HGA := hide hga
        have HPJ := hide hpj
        have HT := hide ht
        have HK := hide hk
        clear hpj ht h16 hk hga hxj
        go_wp2_with fail
        refine (pskip_no 15 _ _ _ _ _ _ _ _ _ _ _ _ (unhide HPJ) (unhide HT) (unhide HK)).mono ?_
        rintro e w2 ⟨rfl, rfl⟩
        go_wp2_with fail
        go_ret
        rw [unhide HX]
        exact ⟨unhide HFJ, _, rfl, unhide HGA, j, rfl, unhide HPJ⟩
    · obtain ⟨t, ht, hk⟩ := PL_last hpj.fe
      have HPJ := hide hpj
      have HT := hide ht
      have HK := hide (show t.k ≠ 15 by omega)
      have HXJ := hide hxj.out
      clear hpj ht hxj hk
      go_wp2_with fail
      refine (pskip_no 15 _ _ _ _ _ _ _ _ _ _ _ _ (unhide HPJ) (unhide HT) (unhide HK)).mono ?_
      rintro e w2 ⟨rfl, rfl⟩
      go_wp2_with fail
      go_ret
      rw [unhide HXJ]
      exact ⟨unhide HFJ, _, rfl, NMj, unhide HPJ⟩
end Go.Proofs.YtoclbcffbhldmaaGreatDoor
/- The program's unary; its reader of formulas, whole. -/
set_option linter.unusedSimpArgs false
namespace Go.Proofs.YtoclbcffbhldmaaGreatDoor
open Go.RowKit Go.Deep

theorem beqF {k c : Nat} (h : k ≠ c) : ((k : Int) == (c : Int)) = false := by simp; omega
theorem beqT {k c : Nat} (h : k = c) : ((k : Int) == (c : Int)) = true := by simp; omega

set_option maxHeartbeats 1000000 in
theorem unary_k17 (n : Nat) (hU : GU n) (w : World) (pb g cap B : Nat) (L : List Tk) (i : Nat) (NM : List Tk) (t : Tk) (r : List Tk) (h : PP w pb g cap B L i false 0 NM) (ht : PL L i = t :: r) (hk : t.k = 17) (hn : 6 * r.length + 1 ≤ n) :
    Calls Tryz.prog 206 #[.pointer (some ⟨pb, 0, none⟩)] w fun e w' => GLeft L pb g cap B NM w w' e (mapOne 4 (pf n 4 .nil r)) := by
  have HP := hide h
  have HT := hide ht
  have e17 : ((t.k : Int) == 17) = true := beqT (c := 17) hk
  have HK := hide hk
  have HU := hide hU
  clear h ht hk hU
  go_enter Tryz.func206, Tryz.ntmps206
  go_wp2_with fail
  refine (pnext_any _ _ _ _ _ _ _ _ _ _ _ _ (unhide HP) (unhide HT)).mono ?_
  rintro e w1 ⟨rfl, rfl⟩
  go_wp2_with fail
  refine (poperator_any n (unhide HU) 4 _ _ _ _ _ _ _ _ _ _ (unhide HP) (unhide HT) (by have := unhide HK; omega) (by decide) hn).mono ?_
  rintro e w2 ⟨hf, p, rfl, hx⟩
  have HF := hide hf
  have HX := hide hx
  clear hf hx
  go_wp2_with fail
  go_ret
  exact ⟨unhide HF, p, rfl, unhide HX⟩

set_option maxHeartbeats 1000000 in
theorem unary_k9 (n : Nat) (hU : GU n) (w : World) (pb g cap B : Nat) (L : List Tk) (i : Nat) (NM : List Tk) (t : Tk) (r : List Tk) (h : PP w pb g cap B L i false 0 NM) (ht : PL L i = t :: r) (hk : t.k = 9) (hn : 6 * r.length + 1 ≤ n) :
    Calls Tryz.prog 206 #[.pointer (some ⟨pb, 0, none⟩)] w fun e w' => GLeft L pb g cap B NM w w' e (mapOne 5 (pf n 4 .nil r)) := by
  have HP := hide h
  have HT := hide ht
  have e17 : ((t.k : Int) == 17) = false := beqF (c := 17) (by omega)
  have e9 : ((t.k : Int) == 9) = true := beqT (c := 9) hk
  have HK := hide hk
  have HU := hide hU
  clear h ht hk hU
  go_enter Tryz.func206, Tryz.ntmps206
  go_wp2_with fail
  refine (pnext_any _ _ _ _ _ _ _ _ _ _ _ _ (unhide HP) (unhide HT)).mono ?_
  rintro e w1 ⟨rfl, rfl⟩
  go_wp2_with fail
  refine (poperator_any n (unhide HU) 5 _ _ _ _ _ _ _ _ _ _ (unhide HP) (unhide HT) (by have := unhide HK; omega) (by decide) hn).mono ?_
  rintro e w2 ⟨hf, p, rfl, hx⟩
  have HF := hide hf
  have HX := hide hx
  clear hf hx
  go_wp2_with fail
  go_ret
  exact ⟨unhide HF, p, rfl, unhide HX⟩

set_option maxHeartbeats 1000000 in
theorem unary_k10 (n : Nat) (hU : GU n) (w : World) (pb g cap B : Nat) (L : List Tk) (i : Nat) (NM : List Tk) (t : Tk) (r : List Tk) (h : PP w pb g cap B L i false 0 NM) (ht : PL L i = t :: r) (hk : t.k = 10) (hn : 6 * r.length + 1 ≤ n) :
    Calls Tryz.prog 206 #[.pointer (some ⟨pb, 0, none⟩)] w fun e w' => GLeft L pb g cap B NM w w' e (mapOne 6 (pf n 4 .nil r)) := by
  have HP := hide h
  have HT := hide ht
  have e17 : ((t.k : Int) == 17) = false := beqF (c := 17) (by omega)
  have e9 : ((t.k : Int) == 9) = false := beqF (c := 9) (by omega)
  have e10 : ((t.k : Int) == 10) = true := beqT (c := 10) hk
  have HK := hide hk
  have HU := hide hU
  clear h ht hk hU
  go_enter Tryz.func206, Tryz.ntmps206
  go_wp2_with fail
  refine (pnext_any _ _ _ _ _ _ _ _ _ _ _ _ (unhide HP) (unhide HT)).mono ?_
  rintro e w1 ⟨rfl, rfl⟩
  go_wp2_with fail
  refine (poperator_any n (unhide HU) 6 _ _ _ _ _ _ _ _ _ _ (unhide HP) (unhide HT) (by have := unhide HK; omega) (by decide) hn).mono ?_
  rintro e w2 ⟨hf, p, rfl, hx⟩
  have HF := hide hf
  have HX := hide hx
  clear hf hx
  go_wp2_with fail
  go_ret
  exact ⟨unhide HF, p, rfl, unhide HX⟩

set_option maxHeartbeats 1000000 in
theorem unary_k11 (n : Nat) (hU : GU n) (w : World) (pb g cap B : Nat) (L : List Tk) (i : Nat) (NM : List Tk) (t : Tk) (r : List Tk) (h : PP w pb g cap B L i false 0 NM) (ht : PL L i = t :: r) (hk : t.k = 11) (hn : 6 * r.length + 1 ≤ n) :
    Calls Tryz.prog 206 #[.pointer (some ⟨pb, 0, none⟩)] w fun e w' => GLeft L pb g cap B NM w w' e (mapOne 7 (pf n 4 .nil r)) := by
  have HP := hide h
  have HT := hide ht
  have e17 : ((t.k : Int) == 17) = false := beqF (c := 17) (by omega)
  have e9 : ((t.k : Int) == 9) = false := beqF (c := 9) (by omega)
  have e10 : ((t.k : Int) == 10) = false := beqF (c := 10) (by omega)
  have e11 : ((t.k : Int) == 11) = true := beqT (c := 11) hk
  have HK := hide hk
  have HU := hide hU
  clear h ht hk hU
  go_enter Tryz.func206, Tryz.ntmps206
  go_wp2_with fail
  refine (pnext_any _ _ _ _ _ _ _ _ _ _ _ _ (unhide HP) (unhide HT)).mono ?_
  rintro e w1 ⟨rfl, rfl⟩
  go_wp2_with fail
  refine (poperator_any n (unhide HU) 7 _ _ _ _ _ _ _ _ _ _ (unhide HP) (unhide HT) (by have := unhide HK; omega) (by decide) hn).mono ?_
  rintro e w2 ⟨hf, p, rfl, hx⟩
  have HF := hide hf
  have HX := hide hx
  clear hf hx
  go_wp2_with fail
  go_ret
  exact ⟨unhide HF, p, rfl, unhide HX⟩

set_option maxHeartbeats 1000000 in
theorem unary_k12 (n : Nat) (hU : GU n) (w : World) (pb g cap B : Nat) (L : List Tk) (i : Nat) (NM : List Tk) (t : Tk) (r : List Tk) (h : PP w pb g cap B L i false 0 NM) (ht : PL L i = t :: r) (hk : t.k = 12) (hn : 6 * r.length + 1 ≤ n) :
    Calls Tryz.prog 206 #[.pointer (some ⟨pb, 0, none⟩)] w fun e w' => GLeft L pb g cap B NM w w' e (mapOne 8 (pf n 4 .nil r)) := by
  have HP := hide h
  have HT := hide ht
  have e17 : ((t.k : Int) == 17) = false := beqF (c := 17) (by omega)
  have e9 : ((t.k : Int) == 9) = false := beqF (c := 9) (by omega)
  have e10 : ((t.k : Int) == 10) = false := beqF (c := 10) (by omega)
  have e11 : ((t.k : Int) == 11) = false := beqF (c := 11) (by omega)
  have e12 : ((t.k : Int) == 12) = true := beqT (c := 12) hk
  have HK := hide hk
  have HU := hide hU
  clear h ht hk hU
  go_enter Tryz.func206, Tryz.ntmps206
  go_wp2_with fail
  refine (pnext_any _ _ _ _ _ _ _ _ _ _ _ _ (unhide HP) (unhide HT)).mono ?_
  rintro e w1 ⟨rfl, rfl⟩
  go_wp2_with fail
  refine (poperator_any n (unhide HU) 8 _ _ _ _ _ _ _ _ _ _ (unhide HP) (unhide HT) (by have := unhide HK; omega) (by decide) hn).mono ?_
  rintro e w2 ⟨hf, p, rfl, hx⟩
  have HF := hide hf
  have HX := hide hx
  clear hf hx
  go_wp2_with fail
  go_ret
  exact ⟨unhide HF, p, rfl, unhide HX⟩

set_option maxHeartbeats 1000000 in
theorem unary_k18 (n : Nat) (hU : GF n) (w : World) (pb g cap B : Nat) (L : List Tk) (i : Nat) (NM : List Tk) (t : Tk) (r : List Tk) (h : PP w pb g cap B L i false 0 NM) (ht : PL L i = t :: r) (hk : t.k = 18) (hn : 6 * r.length + 5 ≤ n) :
    Calls Tryz.prog 206 #[.pointer (some ⟨pb, 0, none⟩)] w fun e w' => GLeft L pb g cap B NM w w' e (brk (pf n 0 .nil r)) := by
  have HP := hide h
  have HT := hide ht
  have e17 : ((t.k : Int) == 17) = false := beqF (c := 17) (by omega)
  have e9 : ((t.k : Int) == 9) = false := beqF (c := 9) (by omega)
  have e10 : ((t.k : Int) == 10) = false := beqF (c := 10) (by omega)
  have e11 : ((t.k : Int) == 11) = false := beqF (c := 11) (by omega)
  have e12 : ((t.k : Int) == 12) = false := beqF (c := 12) (by omega)
  have e18 : ((t.k : Int) == 18) = true := beqT (c := 18) hk
  have HK := hide hk
  have HU := hide hU
  clear h ht hk hU
  go_enter Tryz.func206, Tryz.ntmps206
  go_wp2_with fail
  refine (pnext_any _ _ _ _ _ _ _ _ _ _ _ _ (unhide HP) (unhide HT)).mono ?_
  rintro e w1 ⟨rfl, rfl⟩
  go_wp2_with fail
  refine (pbracket_any n (unhide HU) _ _ _ _ _ _ _ _ _ _ (unhide HP) (unhide HT) (unhide HK) hn).mono ?_
  rintro e w2 ⟨hf, p, rfl, hx⟩
  have HF := hide hf
  have HX := hide hx
  clear hf hx
  go_wp2_with fail
  go_ret
  exact ⟨unhide HF, p, rfl, unhide HX⟩

set_option maxHeartbeats 1000000 in
theorem unary_k6 (w : World) (pb g cap B : Nat) (L : List Tk) (i : Nat) (NM : List Tk) (t : Tk) (r : List Tk) (h : PP w pb g cap B L i false 0 NM) (ht : PL L i = t :: r) (hk : t.k = 6) :
    Calls Tryz.prog 206 #[.pointer (some ⟨pb, 0, none⟩)] w fun e w' => GLeft L pb g cap B NM w w' e (.ok (leaf 1 ByteArray.empty 0, r)) := by
  have HP := hide h
  have HT := hide ht
  have e17 : ((t.k : Int) == 17) = false := beqF (c := 17) (by omega)
  have e9 : ((t.k : Int) == 9) = false := beqF (c := 9) (by omega)
  have e10 : ((t.k : Int) == 10) = false := beqF (c := 10) (by omega)
  have e11 : ((t.k : Int) == 11) = false := beqF (c := 11) (by omega)
  have e12 : ((t.k : Int) == 12) = false := beqF (c := 12) (by omega)
  have e18 : ((t.k : Int) == 18) = false := beqF (c := 18) (by omega)
  have e6 : ((t.k : Int) == 6) = true := beqT (c := 6) hk
  have HK := hide hk
  clear h ht hk
  go_enter Tryz.func206, Tryz.ntmps206
  go_wp2_with fail
  refine (pnext_any _ _ _ _ _ _ _ _ _ _ _ _ (unhide HP) (unhide HT)).mono ?_
  rintro e w1 ⟨rfl, rfl⟩
  go_wp2_with fail
  refine (pword_any 1 _ _ _ _ _ _ _ _ _ _ (unhide HP) (unhide HT) (by have := unhide HK; omega) (by decide)).mono ?_
  rintro e w2 ⟨hf, p, rfl, hx⟩
  have HF := hide hf
  have HX := hide hx
  clear hf hx
  go_wp2_with fail
  go_ret
  exact ⟨unhide HF, p, rfl, unhide HX⟩

set_option maxHeartbeats 1000000 in
theorem unary_k7 (w : World) (pb g cap B : Nat) (L : List Tk) (i : Nat) (NM : List Tk) (t : Tk) (r : List Tk) (h : PP w pb g cap B L i false 0 NM) (ht : PL L i = t :: r) (hk : t.k = 7) :
    Calls Tryz.prog 206 #[.pointer (some ⟨pb, 0, none⟩)] w fun e w' => GLeft L pb g cap B NM w w' e (.ok (leaf 2 ByteArray.empty 0, r)) := by
  have HP := hide h
  have HT := hide ht
  have e17 : ((t.k : Int) == 17) = false := beqF (c := 17) (by omega)
  have e9 : ((t.k : Int) == 9) = false := beqF (c := 9) (by omega)
  have e10 : ((t.k : Int) == 10) = false := beqF (c := 10) (by omega)
  have e11 : ((t.k : Int) == 11) = false := beqF (c := 11) (by omega)
  have e12 : ((t.k : Int) == 12) = false := beqF (c := 12) (by omega)
  have e18 : ((t.k : Int) == 18) = false := beqF (c := 18) (by omega)
  have e6 : ((t.k : Int) == 6) = false := beqF (c := 6) (by omega)
  have e7 : ((t.k : Int) == 7) = true := beqT (c := 7) hk
  have HK := hide hk
  clear h ht hk
  go_enter Tryz.func206, Tryz.ntmps206
  go_wp2_with fail
  refine (pnext_any _ _ _ _ _ _ _ _ _ _ _ _ (unhide HP) (unhide HT)).mono ?_
  rintro e w1 ⟨rfl, rfl⟩
  go_wp2_with fail
  refine (pword_any 2 _ _ _ _ _ _ _ _ _ _ (unhide HP) (unhide HT) (by have := unhide HK; omega) (by decide)).mono ?_
  rintro e w2 ⟨hf, p, rfl, hx⟩
  have HF := hide hf
  have HX := hide hx
  clear hf hx
  go_wp2_with fail
  go_ret
  exact ⟨unhide HF, p, rfl, unhide HX⟩

set_option maxHeartbeats 1000000 in
theorem unary_k8 (w : World) (pb g cap B : Nat) (L : List Tk) (i : Nat) (NM : List Tk) (t : Tk) (r : List Tk) (h : PP w pb g cap B L i false 0 NM) (ht : PL L i = t :: r) (hk : t.k = 8) :
    Calls Tryz.prog 206 #[.pointer (some ⟨pb, 0, none⟩)] w fun e w' => GLeft L pb g cap B NM w w' e (.ok (leaf 3 ByteArray.empty 0, r)) := by
  have HP := hide h
  have HT := hide ht
  have e17 : ((t.k : Int) == 17) = false := beqF (c := 17) (by omega)
  have e9 : ((t.k : Int) == 9) = false := beqF (c := 9) (by omega)
  have e10 : ((t.k : Int) == 10) = false := beqF (c := 10) (by omega)
  have e11 : ((t.k : Int) == 11) = false := beqF (c := 11) (by omega)
  have e12 : ((t.k : Int) == 12) = false := beqF (c := 12) (by omega)
  have e18 : ((t.k : Int) == 18) = false := beqF (c := 18) (by omega)
  have e6 : ((t.k : Int) == 6) = false := beqF (c := 6) (by omega)
  have e7 : ((t.k : Int) == 7) = false := beqF (c := 7) (by omega)
  have e8 : ((t.k : Int) == 8) = true := beqT (c := 8) hk
  have HK := hide hk
  clear h ht hk
  go_enter Tryz.func206, Tryz.ntmps206
  go_wp2_with fail
  refine (pnext_any _ _ _ _ _ _ _ _ _ _ _ _ (unhide HP) (unhide HT)).mono ?_
  rintro e w1 ⟨rfl, rfl⟩
  go_wp2_with fail
  refine (pword_any 3 _ _ _ _ _ _ _ _ _ _ (unhide HP) (unhide HT) (by have := unhide HK; omega) (by decide)).mono ?_
  rintro e w2 ⟨hf, p, rfl, hx⟩
  have HF := hide hf
  have HX := hide hx
  clear hf hx
  go_wp2_with fail
  go_ret
  exact ⟨unhide HF, p, rfl, unhide HX⟩

set_option maxHeartbeats 1000000 in
theorem unary_act (w : World) (pb g cap B : Nat) (L : List Tk) (i : Nat) (NM : List Tk) (t : Tk) (r : List Tk) (h : PP w pb g cap B L i false 0 NM) (ht : PL L i = t :: r) (x : Rd)
    (hk : t.k ≠ 17 ∧ t.k ≠ 9 ∧ t.k ≠ 10 ∧ t.k ≠ 11 ∧ t.k ≠ 12 ∧ t.k ≠ 18 ∧ t.k ≠ 6 ∧ t.k ≠ 7 ∧ t.k ≠ 8)
    (hx : if t.k = 2 then x = .ok (leaf 0 t.s t.p, r) else x = .error t.p) :
    Calls Tryz.prog 206 #[.pointer (some ⟨pb, 0, none⟩)] w fun e w' => GLeft L pb g cap B NM w w' e x := by
  have HP := hide h
  have HT := hide ht
  obtain ⟨h1, h2, h3, h4, h5, h6, h7, h8, h9⟩ := hk
  have e17 : ((t.k : Int) == 17) = false := beqF (c := 17) h1
  have e9 : ((t.k : Int) == 9) = false := beqF (c := 9) h2
  have e10 : ((t.k : Int) == 10) = false := beqF (c := 10) h3
  have e11 : ((t.k : Int) == 11) = false := beqF (c := 11) h4
  have e12 : ((t.k : Int) == 12) = false := beqF (c := 12) h5
  have e18 : ((t.k : Int) == 18) = false := beqF (c := 18) h6
  have e6 : ((t.k : Int) == 6) = false := beqF (c := 6) h7
  have e7 : ((t.k : Int) == 7) = false := beqF (c := 7) h8
  have e8 : ((t.k : Int) == 8) = false := beqF (c := 8) h9
  clear h1 h2 h3 h4 h5 h6 h7 h8 h9
  have hact : Calls Tryz.prog 211 #[.pointer (some ⟨pb, 0, none⟩)] w fun e w' => GLeft L pb g cap B NM w w' e x := by
    by_cases h2 : t.k = 2
    · rw [if_pos h2] at hx
      subst hx
      refine (activity_of w pb g cap B L i NM t h (i + 1) false 0 (h.fe.nextLt ht (by omega)) (fun _ => by have := h.nm rfl; omega) (ptake_yes 2 _ _ _ _ _ _ _ _ _ _ _ _ h ht h2 (by decide))).mono ?_
      rintro e w1 ⟨p, rfl, hg, hp, hf⟩
      have e1 : (⟨2, t.s, t.p⟩ : Tk) = t := by cases t; cases h2; rfl
      exact ⟨hf, p, rfl, hg, i + 1, PL_next ht (by omega), by rw [lvs_name, e1]; exact hp⟩
    · rw [if_neg h2] at hx
      subst hx
      refine (activity_of w pb g cap B L i NM t h (L.length - 1) true t.p (by have := h.lt; omega) (fun e => by cases e) (ptake_no 2 _ _ _ _ _ _ _ _ _ _ _ _ h ht h2)).mono ?_
      rintro e w1 ⟨p, rfl, hg, hp, hf⟩
      exact ⟨hf, p, rfl, _, hp⟩
  have HA := hide hact
  clear hact h ht hx
  go_enter Tryz.func206, Tryz.ntmps206
  go_wp2_with fail
  refine (pnext_any _ _ _ _ _ _ _ _ _ _ _ _ (unhide HP) (unhide HT)).mono ?_
  rintro e w1 ⟨rfl, rfl⟩
  go_wp2_with fail
  refine (unhide HA).mono ?_
  rintro e w2 ⟨hf, p, rfl, hx⟩
  have HF := hide hf
  have HX := hide hx
  clear hf hx
  go_wp2_with fail
  go_ret
  exact ⟨unhide HF, p, rfl, unhide HX⟩

theorem punary_step (n : Nat) (hU : GU n) (hF : GF n) : GU (n + 1) := by
  intro w pb g cap B L i NM h hn
  obtain ⟨t, r, ht⟩ := PL_some h.fe h.lt
  have hn2 : 6 * r.length + 5 ≤ n := by rw [ht] at hn; simp only [List.length_cons] at hn; omega
  have hh : headK (PL L i) = t.k := by rw [ht]; rfl
  have hhp : headP (PL L i) = t.p := by rw [ht]; rfl
  have hhs : headS (PL L i) = t.s := by rw [ht]; rfl
  have htl : (PL L i).tail = r := by rw [ht]; rfl
  by_cases h17 : t.k = 17
  · have e : pf (n + 1) 4 .nil (PL L i) = mapOne 4 (pf n 4 .nil r) := by
      rw [pf, hh, htl, h17]
      cases pf n 4 .nil r <;> rfl
    rw [e]
    exact unary_k17 n hU w pb g cap B L i NM t r h ht h17 (by omega)
  by_cases h9 : t.k = 9
  · have e : pf (n + 1) 4 .nil (PL L i) = mapOne 5 (pf n 4 .nil r) := by
      rw [pf, hh, htl, h9]
      cases pf n 4 .nil r <;> rfl
    rw [e]
    exact unary_k9 n hU w pb g cap B L i NM t r h ht h9 (by omega)
  by_cases h10 : t.k = 10
  · have e : pf (n + 1) 4 .nil (PL L i) = mapOne 6 (pf n 4 .nil r) := by
      rw [pf, hh, htl, h10]
      cases pf n 4 .nil r <;> rfl
    rw [e]
    exact unary_k10 n hU w pb g cap B L i NM t r h ht h10 (by omega)
  by_cases h11 : t.k = 11
  · have e : pf (n + 1) 4 .nil (PL L i) = mapOne 7 (pf n 4 .nil r) := by
      rw [pf, hh, htl, h11]
      cases pf n 4 .nil r <;> rfl
    rw [e]
    exact unary_k11 n hU w pb g cap B L i NM t r h ht h11 (by omega)
  by_cases h12 : t.k = 12
  · have e : pf (n + 1) 4 .nil (PL L i) = mapOne 8 (pf n 4 .nil r) := by
      rw [pf, hh, htl, h12]
      cases pf n 4 .nil r <;> rfl
    rw [e]
    exact unary_k12 n hU w pb g cap B L i NM t r h ht h12 (by omega)
  by_cases h18 : t.k = 18
  · have e : pf (n + 1) 4 .nil (PL L i) = brk (pf n 0 .nil r) := by
      rw [pf, hh, htl, h18]
      cases pf n 0 .nil r <;> rfl
    rw [e]
    exact unary_k18 n hF w pb g cap B L i NM t r h ht h18 hn2
  by_cases h6 : t.k = 6
  · have e : pf (n + 1) 4 .nil (PL L i) = .ok (leaf 1 ByteArray.empty 0, r) := by
      rw [pf, hh, htl, h6]; rfl
    rw [e]
    exact unary_k6 w pb g cap B L i NM t r h ht h6
  by_cases h7 : t.k = 7
  · have e : pf (n + 1) 4 .nil (PL L i) = .ok (leaf 2 ByteArray.empty 0, r) := by
      rw [pf, hh, htl, h7]; rfl
    rw [e]
    exact unary_k7 w pb g cap B L i NM t r h ht h7
  by_cases h8 : t.k = 8
  · have e : pf (n + 1) 4 .nil (PL L i) = .ok (leaf 3 ByteArray.empty 0, r) := by
      rw [pf, hh, htl, h8]; rfl
    rw [e]
    exact unary_k8 w pb g cap B L i NM t r h ht h8
  refine unary_act w pb g cap B L i NM t r h ht _ ⟨h17, h9, h10, h11, h12, h18, h6, h7, h8⟩ ?_
  have hop : opOf t.k = 0 := by unfold opOf; rw [if_neg h17, if_neg h9, if_neg h10, if_neg h11, if_neg h12]
  rw [pf, hh, htl, hhp, hhs]
  simp only [hop, ne_eq, not_true_eq_false, if_false, h18, h6, h7, h8, or_self]
  by_cases h2 : t.k = 2
  · simp only [h2, if_true]
  · simp only [h2, if_false]

theorem greads_all : ∀ n m, m ≤ n → GU m ∧ GT m ∧ GA m ∧ GO m ∧ GF m
  | 0, m, hm => by
    have : m = 0 := by omega
    subst this
    exact ⟨fun _ _ _ _ _ _ _ _ _ h => by omega, fun _ _ _ _ _ _ _ _ _ h => by omega, fun _ _ _ _ _ _ _ _ _ h => by omega, fun _ _ _ _ _ _ _ _ _ h => by omega, fun _ _ _ _ _ _ _ _ _ h => by omega⟩
  | n + 1, m, hm => by
    by_cases hlt : m ≤ n
    · exact greads_all n m hlt
    · have : m = n + 1 := by omega
      subst this
      have ih := greads_all n
      have hn := ih n (Nat.le_refl _)
      exact ⟨punary_step n hn.1 hn.2.2.2.2, puntil_step n hn.1 hn.1, pand_step n (fun m hm => (ih m hm).2.1), por_step n (fun m hm => (ih m hm).2.2.1), pformula_step n hn.2.2.2.1 hn.2.2.2.2⟩
/-- The program's formula: with fuel enough. -/
theorem pformula_any (n : Nat) : GF n := (greads_all n n (Nat.le_refl _)).2.2.2.2
end Go.Proofs.YtoclbcffbhldmaaGreatDoor
