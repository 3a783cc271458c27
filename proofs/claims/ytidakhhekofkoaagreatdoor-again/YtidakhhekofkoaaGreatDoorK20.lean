/- The program's unary; its reader of formulas, whole. -/
import Derived.Test.YtidakhhekofkoaaGreatDoorK19
set_option linter.unusedSimpArgs false
namespace Go.Proofs.YtidakhhekofkoaaGreatDoor
open Go.RowKit Go.Deep
theorem beqF {k c : Nat} (h : k ≠ c) : ((k : Int) == (c : Int)) = false := by simp; omega
theorem beqT {k c : Nat} (h : k = c) : ((k : Int) == (c : Int)) = true := by simp; omega
set_option maxHeartbeats 1000000 in
theorem unary_k17 (n : Nat) (hU : GU n) (w : World) (pb g cap B : Nat) (L : List Tk) (i : Nat) (NM : List Tk) (t : Tk) (r : List Tk) (h : PP w pb g cap B L i false 0 NM) (ht : PL L i = t :: r) (hk : t.k = 17) (hn : 6 * r.length + 1 ≤ n) :
    Calls Tryz.prog 290 #[.pointer (some ⟨pb, 0, none⟩)] w fun e w' => GLeft L pb g cap B NM w w' e (mapOne 4 (pf n 4 .nil r)) := by
  have HP := hide h
  have HT := hide ht
  have e17 : ((t.k : Int) == 17) = true := beqT (c := 17) hk
  have HK := hide hk
  have HU := hide hU
  clear h ht hk hU
  go_enter Tryz.func290, Tryz.ntmps290
  go_wp2_with fail
  refine (pnext_any _ _ _ _ _ _ _ _ _ _ _ _ (unhide HP) (unhide HT)).mono ?_
  rintro e w1 ⟨rfl, rfl⟩
  go_wp2_with fail
  refine (poperator_any n (unhide HU) 4 _ _ _ _ _ _ _ _ _ _ (unhide HP) (unhide HT) (by have := unhide HK; omega) (by decide) hn).mono ?_
  rintro e w2 ⟨hf, p, rfl, hx⟩
  have HF := hide hf
  have HX := hide hx
  clear hf hx
  go_wp2_with fail
  go_ret
  exact ⟨unhide HF, p, rfl, unhide HX⟩
set_option maxHeartbeats 1000000 in
theorem unary_k9 (n : Nat) (hU : GU n) (w : World) (pb g cap B : Nat) (L : List Tk) (i : Nat) (NM : List Tk) (t : Tk) (r : List Tk) (h : PP w pb g cap B L i false 0 NM) (ht : PL L i = t :: r) (hk : t.k = 9) (hn : 6 * r.length + 1 ≤ n) :
    Calls Tryz.prog 290 #[.pointer (some ⟨pb, 0, none⟩)] w fun e w' => GLeft L pb g cap B NM w w' e (mapOne 5 (pf n 4 .nil r)) := by
  have HP := hide h
  have HT := hide ht
  have e17 : ((t.k : Int) == 17) = false := beqF (c := 17) (by omega)
  have e9 : ((t.k : Int) == 9) = true := beqT (c := 9) hk
  have HK := hide hk
  have HU := hide hU
  clear h ht hk hU
  go_enter Tryz.func290, Tryz.ntmps290
  go_wp2_with fail
  refine (pnext_any _ _ _ _ _ _ _ _ _ _ _ _ (unhide HP) (unhide HT)).mono ?_
  rintro e w1 ⟨rfl, rfl⟩
  go_wp2_with fail
  refine (poperator_any n (unhide HU) 5 _ _ _ _ _ _ _ _ _ _ (unhide HP) (unhide HT) (by have := unhide HK; omega) (by decide) hn).mono ?_
  rintro e w2 ⟨hf, p, rfl, hx⟩
  have HF := hide hf
  have HX := hide hx
  clear hf hx
  go_wp2_with fail
  go_ret
  exact ⟨unhide HF, p, rfl, unhide HX⟩
set_option maxHeartbeats 1000000 in
theorem unary_k10 (n : Nat) (hU : GU n) (w : World) (pb g cap B : Nat) (L : List Tk) (i : Nat) (NM : List Tk) (t : Tk) (r : List Tk) (h : PP w pb g cap B L i false 0 NM) (ht : PL L i = t :: r) (hk : t.k = 10) (hn : 6 * r.length + 1 ≤ n) :
    Calls Tryz.prog 290 #[.pointer (some ⟨pb, 0, none⟩)] w fun e w' => GLeft L pb g cap B NM w w' e (mapOne 6 (pf n 4 .nil r)) := by
  have HP := hide h
  have HT := hide ht
  have e17 : ((t.k : Int) == 17) = false := beqF (c := 17) (by omega)
  have e9 : ((t.k : Int) == 9) = false := beqF (c := 9) (by omega)
  have e10 : ((t.k : Int) == 10) = true := beqT (c := 10) hk
  have HK := hide hk
  have HU := hide hU
  clear h ht hk hU
  go_enter Tryz.func290, Tryz.ntmps290
  go_wp2_with fail
  refine (pnext_any _ _ _ _ _ _ _ _ _ _ _ _ (unhide HP) (unhide HT)).mono ?_
  rintro e w1 ⟨rfl, rfl⟩
  go_wp2_with fail
  refine (poperator_any n (unhide HU) 6 _ _ _ _ _ _ _ _ _ _ (unhide HP) (unhide HT) (by have := unhide HK; omega) (by decide) hn).mono ?_
  rintro e w2 ⟨hf, p, rfl, hx⟩
  have HF := hide hf
  have HX := hide hx
  clear hf hx
  go_wp2_with fail
  go_ret
  exact ⟨unhide HF, p, rfl, unhide HX⟩
set_option maxHeartbeats 1000000 in
theorem unary_k11 (n : Nat) (hU : GU n) (w : World) (pb g cap B : Nat) (L : List Tk) (i : Nat) (NM : List Tk) (t : Tk) (r : List Tk) (h : PP w pb g cap B L i false 0 NM) (ht : PL L i = t :: r) (hk : t.k = 11) (hn : 6 * r.length + 1 ≤ n) :
    Calls Tryz.prog 290 #[.pointer (some ⟨pb, 0, none⟩)] w fun e w' => GLeft L pb g cap B NM w w' e (mapOne 7 (pf n 4 .nil r)) := by
  have HP := hide h
  have HT := hide ht
  have e17 : ((t.k : Int) == 17) = false := beqF (c := 17) (by omega)
  have e9 : ((t.k : Int) == 9) = false := beqF (c := 9) (by omega)
  have e10 : ((t.k : Int) == 10) = false := beqF (c := 10) (by omega)
  have e11 : ((t.k : Int) == 11) = true := beqT (c := 11) hk
  have HK := hide hk
  have HU := hide hU
  clear h ht hk hU
  go_enter Tryz.func290, Tryz.ntmps290
  go_wp2_with fail
  refine (pnext_any _ _ _ _ _ _ _ _ _ _ _ _ (unhide HP) (unhide HT)).mono ?_
  rintro e w1 ⟨rfl, rfl⟩
  go_wp2_with fail
  refine (poperator_any n (unhide HU) 7 _ _ _ _ _ _ _ _ _ _ (unhide HP) (unhide HT) (by have := unhide HK; omega) (by decide) hn).mono ?_
  rintro e w2 ⟨hf, p, rfl, hx⟩
  have HF := hide hf
  have HX := hide hx
  clear hf hx
  go_wp2_with fail
  go_ret
  exact ⟨unhide HF, p, rfl, unhide HX⟩
set_option maxHeartbeats 1000000 in
theorem unary_k12 (n : Nat) (hU : GU n) (w : World) (pb g cap B : Nat) (L : List Tk) (i : Nat) (NM : List Tk) (t : Tk) (r : List Tk) (h : PP w pb g cap B L i false 0 NM) (ht : PL L i = t :: r) (hk : t.k = 12) (hn : 6 * r.length + 1 ≤ n) :
    Calls Tryz.prog 290 #[.pointer (some ⟨pb, 0, none⟩)] w fun e w' => GLeft L pb g cap B NM w w' e (mapOne 8 (pf n 4 .nil r)) := by
  have HP := hide h
  have HT := hide ht
  have e17 : ((t.k : Int) == 17) = false := beqF (c := 17) (by omega)
  have e9 : ((t.k : Int) == 9) = false := beqF (c := 9) (by omega)
  have e10 : ((t.k : Int) == 10) = false := beqF (c := 10) (by omega)
  have e11 : ((t.k : Int) == 11) = false := beqF (c := 11) (by omega)
  have e12 : ((t.k : Int) == 12) = true := beqT (c := 12) hk
  have HK := hide hk
  have HU := hide hU
  clear h ht hk hU
  go_enter Tryz.func290, Tryz.ntmps290
  go_wp2_with fail
  refine (pnext_any _ _ _ _ _ _ _ _ _ _ _ _ (unhide HP) (unhide HT)).mono ?_
  rintro e w1 ⟨rfl, rfl⟩
  go_wp2_with fail
  refine (poperator_any n (unhide HU) 8 _ _ _ _ _ _ _ _ _ _ (unhide HP) (unhide HT) (by have := unhide HK; omega) (by decide) hn).mono ?_
  rintro e w2 ⟨hf, p, rfl, hx⟩
  have HF := hide hf
  have HX := hide hx
  clear hf hx
  go_wp2_with fail
  go_ret
  exact ⟨unhide HF, p, rfl, unhide HX⟩
set_option maxHeartbeats 1000000 in
theorem unary_k18 (n : Nat) (hU : GF n) (w : World) (pb g cap B : Nat) (L : List Tk) (i : Nat) (NM : List Tk) (t : Tk) (r : List Tk) (h : PP w pb g cap B L i false 0 NM) (ht : PL L i = t :: r) (hk : t.k = 18) (hn : 6 * r.length + 5 ≤ n) :
    Calls Tryz.prog 290 #[.pointer (some ⟨pb, 0, none⟩)] w fun e w' => GLeft L pb g cap B NM w w' e (brk (pf n 0 .nil r)) := by
  have HP := hide h
  have HT := hide ht
  have e17 : ((t.k : Int) == 17) = false := beqF (c := 17) (by omega)
  have e9 : ((t.k : Int) == 9) = false := beqF (c := 9) (by omega)
  have e10 : ((t.k : Int) == 10) = false := beqF (c := 10) (by omega)
  have e11 : ((t.k : Int) == 11) = false := beqF (c := 11) (by omega)
  have e12 : ((t.k : Int) == 12) = false := beqF (c := 12) (by omega)
  have e18 : ((t.k : Int) == 18) = true := beqT (c := 18) hk
  have HK := hide hk
  have HU := hide hU
  clear h ht hk hU
  go_enter Tryz.func290, Tryz.ntmps290
  go_wp2_with fail
  refine (pnext_any _ _ _ _ _ _ _ _ _ _ _ _ (unhide HP) (unhide HT)).mono ?_
  rintro e w1 ⟨rfl, rfl⟩
  go_wp2_with fail
  refine (pbracket_any n (unhide HU) _ _ _ _ _ _ _ _ _ _ (unhide HP) (unhide HT) (unhide HK) hn).mono ?_
  rintro e w2 ⟨hf, p, rfl, hx⟩
  have HF := hide hf
  have HX := hide hx
  clear hf hx
  go_wp2_with fail
  go_ret
  exact ⟨unhide HF, p, rfl, unhide HX⟩
set_option maxHeartbeats 1000000 in
theorem unary_k6 (w : World) (pb g cap B : Nat) (L : List Tk) (i : Nat) (NM : List Tk) (t : Tk) (r : List Tk) (h : PP w pb g cap B L i false 0 NM) (ht : PL L i = t :: r) (hk : t.k = 6) :
    Calls Tryz.prog 290 #[.pointer (some ⟨pb, 0, none⟩)] w fun e w' => GLeft L pb g cap B NM w w' e (.ok (leaf 1 ByteArray.empty 0, r)) := by
  have HP := hide h
  have HT := hide ht
  have e17 : ((t.k : Int) == 17) = false := beqF (c := 17) (by omega)
  have e9 : ((t.k : Int) == 9) = false := beqF (c := 9) (by omega)
  have e10 : ((t.k : Int) == 10) = false := beqF (c := 10) (by omega)
  have e11 : ((t.k : Int) == 11) = false := beqF (c := 11) (by omega)
  have e12 : ((t.k : Int) == 12) = false := beqF (c := 12) (by omega)
  have e18 : ((t.k : Int) == 18) = false := beqF (c := 18) (by omega)
  have e6 : ((t.k : Int) == 6) = true := beqT (c := 6) hk
  have HK := hide hk
  clear h ht hk
  go_enter Tryz.func290, Tryz.ntmps290
  go_wp2_with fail
  refine (pnext_any _ _ _ _ _ _ _ _ _ _ _ _ (unhide HP) (unhide HT)).mono ?_
  rintro e w1 ⟨rfl, rfl⟩
  go_wp2_with fail
  refine (pword_any 1 _ _ _ _ _ _ _ _ _ _ (unhide HP) (unhide HT) (by have := unhide HK; omega) (by decide)).mono ?_
  rintro e w2 ⟨hf, p, rfl, hx⟩
  have HF := hide hf
  have HX := hide hx
  clear hf hx
  go_wp2_with fail
  go_ret
  exact ⟨unhide HF, p, rfl, unhide HX⟩
set_option maxHeartbeats 1000000 in
theorem unary_k7 (w : World) (pb g cap B : Nat) (L : List Tk) (i : Nat) (NM : List Tk) (t : Tk) (r : List Tk) (h : PP w pb g cap B L i false 0 NM) (ht : PL L i = t :: r) (hk : t.k = 7) :
    Calls Tryz.prog 290 #[.pointer (some ⟨pb, 0, none⟩)] w fun e w' => GLeft L pb g cap B NM w w' e (.ok (leaf 2 ByteArray.empty 0, r)) := by
  have HP := hide h
  have HT := hide ht
  have e17 : ((t.k : Int) == 17) = false := beqF (c := 17) (by omega)
  have e9 : ((t.k : Int) == 9) = false := beqF (c := 9) (by omega)
  have e10 : ((t.k : Int) == 10) = false := beqF (c := 10) (by omega)
  have e11 : ((t.k : Int) == 11) = false := beqF (c := 11) (by omega)
  have e12 : ((t.k : Int) == 12) = false := beqF (c := 12) (by omega)
  have e18 : ((t.k : Int) == 18) = false := beqF (c := 18) (by omega)
  have e6 : ((t.k : Int) == 6) = false := beqF (c := 6) (by omega)
  have e7 : ((t.k : Int) == 7) = true := beqT (c := 7) hk
  have HK := hide hk
  clear h ht hk
  go_enter Tryz.func290, Tryz.ntmps290
  go_wp2_with fail
  refine (pnext_any _ _ _ _ _ _ _ _ _ _ _ _ (unhide HP) (unhide HT)).mono ?_
  rintro e w1 ⟨rfl, rfl⟩
  go_wp2_with fail
  refine (pword_any 2 _ _ _ _ _ _ _ _ _ _ (unhide HP) (unhide HT) (by have := unhide HK; omega) (by decide)).mono ?_
  rintro e w2 ⟨hf, p, rfl, hx⟩
  have HF := hide hf
  have HX := hide hx
  clear hf hx
  go_wp2_with fail
  go_ret
  exact ⟨unhide HF, p, rfl, unhide HX⟩
set_option maxHeartbeats 1000000 in
theorem unary_k8 (w : World) (pb g cap B : Nat) (L : List Tk) (i : Nat) (NM : List Tk) (t : Tk) (r : List Tk) (h : PP w pb g cap B L i false 0 NM) (ht : PL L i = t :: r) (hk : t.k = 8) :
    Calls Tryz.prog 290 #[.pointer (some ⟨pb, 0, none⟩)] w fun e w' => GLeft L pb g cap B NM w w' e (.ok (leaf 3 ByteArray.empty 0, r)) := by
  have HP := hide h
  have HT := hide ht
  have e17 : ((t.k : Int) == 17) = false := beqF (c := 17) (by omega)
  have e9 : ((t.k : Int) == 9) = false := beqF (c := 9) (by omega)
  have e10 : ((t.k : Int) == 10) = false := beqF (c := 10) (by omega)
  have e11 : ((t.k : Int) == 11) = false := beqF (c := 11) (by omega)
  have e12 : ((t.k : Int) == 12) = false := beqF (c := 12) (by omega)
  have e18 : ((t.k : Int) == 18) = false := beqF (c := 18) (by omega)
  have e6 : ((t.k : Int) == 6) = false := beqF (c := 6) (by omega)
  have e7 : ((t.k : Int) == 7) = false := beqF (c := 7) (by omega)
  have e8 : ((t.k : Int) == 8) = true := beqT (c := 8) hk
  have HK := hide hk
  clear h ht hk
  go_enter Tryz.func290, Tryz.ntmps290
  go_wp2_with fail
  refine (pnext_any _ _ _ _ _ _ _ _ _ _ _ _ (unhide HP) (unhide HT)).mono ?_
  rintro e w1 ⟨rfl, rfl⟩
  go_wp2_with fail
  refine (pword_any 3 _ _ _ _ _ _ _ _ _ _ (unhide HP) (unhide HT) (by have := unhide HK; omega) (by decide)).mono ?_
  rintro e w2 ⟨hf, p, rfl, hx⟩
  have HF := hide hf
  have HX := hide hx
  clear hf hx
  go_wp2_with fail
  go_ret
  exact ⟨unhide HF, p, rfl, unhide HX⟩
set_option maxHeartbeats 1000000 in
theorem unary_act (w : World) (pb g cap B : Nat) (L : List Tk) (i : Nat) (NM : List Tk) (t : Tk) (r : List Tk) (h : PP w pb g cap B L i false 0 NM) (ht : PL L i = t :: r) (x : Rd)
    (hk : t.k ≠ 17 ∧ t.k ≠ 9 ∧ t.k ≠ 10 ∧ t.k ≠ 11 ∧ t.k ≠ 12 ∧ t.k ≠ 18 ∧ t.k ≠ 6 ∧ t.k ≠ 7 ∧ t.k ≠ 8)
    (hx : if t.k = 2 then x = .ok (leaf 0 t.s t.p, r) else x = .error t.p) :
    Calls Tryz.prog 290 #[.pointer (some ⟨pb, 0, none⟩)] w fun e w' => GLeft L pb g cap B NM w w' e x := by
  have HP := hide h
  have HT := hide ht
  obtain ⟨h1, h2, h3, h4, h5, h6, h7, h8, h9⟩ := hk
  have e17 : ((t.k : Int) == 17) = false := beqF (c := 17) h1
  have e9 : ((t.k : Int) == 9) = false := beqF (c := 9) h2
  have e10 : ((t.k : Int) == 10) = false := beqF (c := 10) h3
  have e11 : ((t.k : Int) == 11) = false := beqF (c := 11) h4
  have e12 : ((t.k : Int) == 12) = false := beqF (c := 12) h5
  have e18 : ((t.k : Int) == 18) = false := beqF (c := 18) h6
  have e6 : ((t.k : Int) == 6) = false := beqF (c := 6) h7
  have e7 : ((t.k : Int) == 7) = false := beqF (c := 7) h8
  have e8 : ((t.k : Int) == 8) = false := beqF (c := 8) h9
  clear h1 h2 h3 h4 h5 h6 h7 h8 h9
  have hact : Calls Tryz.prog 295 #[.pointer (some ⟨pb, 0, none⟩)] w fun e w' => GLeft L pb g cap B NM w w' e x := by
    by_cases h2 : t.k = 2
    · rw [if_pos h2] at hx
      subst hx
      refine (activity_of w pb g cap B L i NM t h (i + 1) false 0 (h.fe.nextLt ht (by omega)) (fun _ => by have := h.nm rfl; omega) (ptake_yes 2 _ _ _ _ _ _ _ _ _ _ _ _ h ht h2 (by decide))).mono ?_
      rintro e w1 ⟨p, rfl, hg, hp, hf⟩
      have e1 : (⟨2, t.s, t.p⟩ : Tk) = t := by cases t; cases h2; rfl
      exact ⟨hf, p, rfl, hg, i + 1, PL_next ht (by omega), by rw [lvs_name, e1]; exact hp⟩
    · rw [if_neg h2] at hx
      subst hx
      refine (activity_of w pb g cap B L i NM t h (L.length - 1) true t.p (by have := h.lt; omega) (fun e => by cases e) (ptake_no 2 _ _ _ _ _ _ _ _ _ _ _ _ h ht h2)).mono ?_
      rintro e w1 ⟨p, rfl, hg, hp, hf⟩
      exact ⟨hf, p, rfl, _, hp⟩
  have HA := hide hact
  clear hact h ht hx
  go_enter Tryz.func290, Tryz.ntmps290
  go_wp2_with fail
  refine (pnext_any _ _ _ _ _ _ _ _ _ _ _ _ (unhide HP) (unhide HT)).mono ?_
  rintro e w1 ⟨rfl, rfl⟩
  go_wp2_with fail
  refine (unhide HA).mono ?_
  rintro e w2 ⟨hf, p, rfl, hx⟩
  have HF := hide hf
  have HX := hide hx
  clear hf hx
  go_wp2_with fail
  go_ret
  exact ⟨unhide HF, p, rfl, unhide HX⟩
theorem punary_step (n : Nat) (hU : GU n) (hF : GF n) : GU (n + 1) := by
  intro w pb g cap B L i NM h hn
  obtain ⟨t, r, ht⟩ := PL_some h.fe h.lt
  have hn2 : 6 * r.length + 5 ≤ n := by rw [ht] at hn; simp only [List.length_cons] at hn; omega
  have hh : headK (PL L i) = t.k := by rw [ht]; rfl
  have hhp : headP (PL L i) = t.p := by rw [ht]; rfl
  have hhs : headS (PL L i) = t.s := by rw [ht]; rfl
  have htl : (PL L i).tail = r := by rw [ht]; rfl
  by_cases h17 : t.k = 17
  · have e : pf (n + 1) 4 .nil (PL L i) = mapOne 4 (pf n 4 .nil r) := by
      rw [pf, hh, htl, h17]
      cases pf n 4 .nil r <;> rfl
    rw [e]
    exact unary_k17 n hU w pb g cap B L i NM t r h ht h17 (by omega)
  by_cases h9 : t.k = 9
  · have e : pf (n + 1) 4 .nil (PL L i) = mapOne 5 (pf n 4 .nil r) := by
      rw [pf, hh, htl, h9]
      cases pf n 4 .nil r <;> rfl
    rw [e]
    exact unary_k9 n hU w pb g cap B L i NM t r h ht h9 (by omega)
  by_cases h10 : t.k = 10
  · have e : pf (n + 1) 4 .nil (PL L i) = mapOne 6 (pf n 4 .nil r) := by
      rw [pf, hh, htl, h10]
      cases pf n 4 .nil r <;> rfl
    rw [e]
    exact unary_k10 n hU w pb g cap B L i NM t r h ht h10 (by omega)
  by_cases h11 : t.k = 11
  · have e : pf (n + 1) 4 .nil (PL L i) = mapOne 7 (pf n 4 .nil r) := by
      rw [pf, hh, htl, h11]
      cases pf n 4 .nil r <;> rfl
    rw [e]
    exact unary_k11 n hU w pb g cap B L i NM t r h ht h11 (by omega)
  by_cases h12 : t.k = 12
  · have e : pf (n + 1) 4 .nil (PL L i) = mapOne 8 (pf n 4 .nil r) := by
      rw [pf, hh, htl, h12]
      cases pf n 4 .nil r <;> rfl
    rw [e]
    exact unary_k12 n hU w pb g cap B L i NM t r h ht h12 (by omega)
  by_cases h18 : t.k = 18
  · have e : pf (n + 1) 4 .nil (PL L i) = brk (pf n 0 .nil r) := by
      rw [pf, hh, htl, h18]
      cases pf n 0 .nil r <;> rfl
    rw [e]
    exact unary_k18 n hF w pb g cap B L i NM t r h ht h18 hn2
  by_cases h6 : t.k = 6
  · have e : pf (n + 1) 4 .nil (PL L i) = .ok (leaf 1 ByteArray.empty 0, r) := by
      rw [pf, hh, htl, h6]; rfl
    rw [e]
    exact unary_k6 w pb g cap B L i NM t r h ht h6
  by_cases h7 : t.k = 7
  · have e : pf (n + 1) 4 .nil (PL L i) = .ok (leaf 2 ByteArray.empty 0, r) := by
      rw [pf, hh, htl, h7]; rfl
    rw [e]
    exact unary_k7 w pb g cap B L i NM t r h ht h7
  by_cases h8 : t.k = 8
  · have e : pf (n + 1) 4 .nil (PL L i) = .ok (leaf 3 ByteArray.empty 0, r) := by
      rw [pf, hh, htl, h8]; rfl
    rw [e]
    exact unary_k8 w pb g cap B L i NM t r h ht h8
  refine unary_act w pb g cap B L i NM t r h ht _ ⟨h17, h9, h10, h11, h12, h18, h6, h7, h8⟩ ?_
  have hop : opOf t.k = 0 := by unfold opOf; rw [if_neg h17, if_neg h9, if_neg h10, if_neg h11, if_neg h12]
  rw [pf, hh, htl, hhp, hhs]
  simp only [hop, ne_eq, not_true_eq_false, if_false, h18, h6, h7, h8, or_self]
  by_cases h2 : t.k = 2
  · simp only [h2, if_true]
  · simp only [h2, if_false]
theorem greads_all : ∀ n m, m ≤ n → GU m ∧ GT m ∧ GA m ∧ GO m ∧ GF m
  | 0, m, hm => by
    have : m = 0 := by omega
    subst this
    exact ⟨fun _ _ _ _ _ _ _ _ _ h => by omega, fun _ _ _ _ _ _ _ _ _ h => by omega, fun _ _ _ _ _ _ _ _ _ h => by omega, fun _ _ _ _ _ _ _ _ _ h => by omega, fun _ _ _ _ _ _ _ _ _ h => by omega⟩
  | n + 1, m, hm => by
    by_cases hlt : m ≤ n
    · exact greads_all n m hlt
    · have : m = n + 1 := by omega
      subst this
      have ih := greads_all n
      have hn := ih n (Nat.le_refl _)
      exact ⟨punary_step n hn.1 hn.2.2.2.2, puntil_step n hn.1 hn.1, pand_step n (fun m hm => (ih m hm).2.1), por_step n (fun m hm => (ih m hm).2.2.1), pformula_step n hn.2.2.2.1 hn.2.2.2.2⟩
theorem pformula_any (n : Nat) : GF n := (greads_all n n (Nat.le_refl _)).2.2.2.2
end Go.Proofs.YtidakhhekofkoaaGreatDoor
