/- Plain mathematics of what is written: no program in it. -/
import Derived.Test.YtoclbcffbhldmaaGreatDoorRdm
import Derived.Test.YtoclbcffbhldmaaGreatDoorF8
namespace Go.Proofs.YtoclbcffbhldmaaGreatDoor
open Go.Deep

/-- The sign of an operator. -/
def symB (k : Nat) : ByteArray :=
  if k = 4 then ⟨#[33]⟩ else if k = 5 then ⟨#[88]⟩ else if k = 6 then ⟨#[78]⟩ else if k = 7 then ⟨#[70]⟩ else if k = 8 then ⟨#[71]⟩ else if k = 9 then ⟨#[85]⟩ else if k = 10 then ⟨#[38]⟩ else if k = 11 then ⟨#[124]⟩ else ⟨#[45, 62]⟩
/-- A formula, written. -/
def txtF : Fm → ByteArray
  | .nil => ⟨#[]⟩
  | .node _ _ a l r =>
    if a.1 = 0 then a.2.1 else if a.1 = 1 then ⟨#[116, 114, 117, 101]⟩ else if a.1 = 2 then ⟨#[102, 97, 108, 115, 101]⟩ else if a.1 = 3 then ⟨#[101, 110, 100]⟩
    else if a.1 ≤ 8 then symB a.1 ++ ⟨#[32]⟩ ++ txtF l
    else ⟨#[40]⟩ ++ txtF l ++ ⟨#[32]⟩ ++ symB a.1 ++ ⟨#[32]⟩ ++ txtF r ++ ⟨#[41]⟩
/-- The activities, written behind a text. -/
def txtActs : ByteArray → Nat → List Tk → ByteArray
  | out, _, [] => out
  | out, i, t :: r => txtActs ((if 0 < i then out ++ ⟨#[44, 32]⟩ else out) ++ t.s) (i + 1) r
/-- A rule, written behind a text. -/
def txtRule (out : ByteArray) (r : Rl) : ByteArray :=
  if r.call = true then
    (if 1 < r.args.length then out ++ ⟨#[114, 117, 108, 101, 32]⟩ ++ r.word.s ++ ⟨#[40]⟩ ++ argS r.args 0 ++ ⟨#[44, 32]⟩ ++ argS r.args 1
     else out ++ ⟨#[114, 117, 108, 101, 32]⟩ ++ r.word.s ++ ⟨#[40]⟩ ++ argS r.args 0) ++ ⟨#[41, 59, 10]⟩
  else out ++ ⟨#[114, 117, 108, 101, 32]⟩ ++ txtF r.f ++ ⟨#[59, 10]⟩
def txtRules : ByteArray → List Rl → ByteArray
  | out, [] => out
  | out, r :: l => txtRules (txtRule out r) l
/-- A model, written. -/
def txtM (al : List Tk) (rs : List Rl) : ByteArray := txtRules (txtActs ⟨#[97, 99, 116, 115, 32]⟩ 0 al ++ ⟨#[59, 10]⟩) rs
end Go.Proofs.YtoclbcffbhldmaaGreatDoor
/- The reference's written and Print. -/
set_option linter.unusedSimpArgs false
namespace Go.Proofs.YtoclbcffbhldmaaGreatDoor
open Go.RowKit Go.Deep

theorem conv1 (w : World) (c : UInt8) (v : Int) (hv : v = (c.toNat : Int)) : (convert 140 9 (.slice (some ⟨w.heap.size, 0, none⟩) 1 1)).run Tryz.prog (w.alloc (.cells #[.int .u8 v] 5)) = .ok (.string ⟨#[c]⟩) (w.alloc (.cells #[.int .u8 v] 5)) := by
  subst hv
  refine run_convert_bytes_back (P := Tryz.prog) _ _ _ 5 ⟨w.heap.size, 0, none⟩ 1 [c] Tryz.underlying140 Tryz.underlying5 Tryz.underlying9 (fun j hj => ?_)
  match j, hj with
  | 0, _ => exact (cell_of_blk (blk_alloc _ _) 0).trans rfl
  | j + 1, hj => simp at hj

set_option maxHeartbeats 2000000 in
set_option maxRecDepth 100000 in
theorem written_any (Q : Tk → Prop) : ∀ (f : Fm) (w : World) (p : Option Addr), IsF w f p → Fg Q f → (txtF f).size ≤ 1000000 →
    Calls Tryz.prog 58 #[.pointer p] w fun e w' => e = .returned (.string (txtF f)) ∧ Below w.heap.size w w'
  | .nil, w, p, _, hf, _ => False.elim hf
  | .node u v a l r, w, p, h, hf, hz => by
    obtain ⟨b, pl, pr, rfl, hb, hl, hr⟩ := h
    have hzl : (txtF l).size ≤ 1000000 ∧ (txtF r).size ≤ 1000000 := by
      rw [txtF] at hz
      rcases hf with ⟨hk, _, rfl, rfl⟩ | ⟨hk, rfl, rfl⟩ | ⟨hk, hfl, rfl⟩ | ⟨hk, hfl, hfr⟩
      · exact ⟨Nat.zero_le _, Nat.zero_le _⟩
      · exact ⟨Nat.zero_le _, Nat.zero_le _⟩
      · rw [if_neg (by omega), if_neg (by omega), if_neg (by omega), if_neg (by omega), if_pos (by omega)] at hz
        simp only [ByteArray.size_append] at hz
        exact ⟨by omega, Nat.zero_le _⟩
      · rw [if_neg (by omega), if_neg (by omega), if_neg (by omega), if_neg (by omega), if_neg (by omega)] at hz
        simp only [ByteArray.size_append] at hz
        omega
    obtain ⟨hzl, hzr⟩ := hzl
    clear hz
    have IHL := hide (written_any Q l)
    have IHR := hide (written_any Q r)
    have HL := hide hl
    have HR := hide hr
    have HB := hide hb
    have bc := fun o => cell_of_blk hb o
    clear hb hl hr
    obtain ⟨k, s, q⟩ := a
    rcases hf with ⟨hk, _, rfl, rfl⟩ | ⟨hk, rfl, rfl⟩ | ⟨hk, hfl, rfl⟩ | ⟨hk, hfl, hfr⟩
    · have hk' : k = 0 := hk
      subst hk'
      go_enter Tryz.func58, Tryz.ntmps58
      go_wp2_with fail
      go_ret
      exact ⟨rfl, Below.refl _ _⟩
    · have hk' : k = 1 ∨ k = 2 ∨ k = 3 := by have := hk; simp at this; omega
      rcases hk' with rfl | rfl | rfl
      all_goals
        go_enter Tryz.func58, Tryz.ntmps58
        go_wp2_with fail
        go_ret
        exact ⟨rfl, Below.refl _ _⟩
    · have HFL := hide hfl
      have hpr : pr = none := unhide HR
      subst hpr
      have hk' : k = 4 ∨ k = 5 ∨ k = 6 ∨ k = 7 ∨ k = 8 := by have := hk; simp at this; omega
      clear hk hfl
      rcases hk' with rfl | rfl | rfl | rfl | rfl
      · have kc := fun w => conv1 w 33 (refO 4) rfl
        go_enter Tryz.func58, Tryz.ntmps58
        go_wp2_with fail
        refine ((unhide IHL) _ _ (unhide HL) (unhide HFL) hzl).mono ?_
        rintro e w1 ⟨rfl, hb1⟩
        have HB1 := hide ((hb1.block b (lt_of_blk (unhide HB))).trans (unhide HB))
        have HBE := hide hb1
        have hz1 : b < w1.heap.size := lt_of_blk (unhide HB1)
        clear hb1 bc
        have bc := fun o => cell_of_blk (unhide HB1) o
        go_wp2_with fail
        go_ret
        exact ⟨rfl, (unhide HBE).alloc (unhide HBE).size _⟩
      · have kc := fun w => conv1 w 88 (refO 5) rfl
        go_enter Tryz.func58, Tryz.ntmps58
        go_wp2_with fail
        refine ((unhide IHL) _ _ (unhide HL) (unhide HFL) hzl).mono ?_
        rintro e w1 ⟨rfl, hb1⟩
        have HB1 := hide ((hb1.block b (lt_of_blk (unhide HB))).trans (unhide HB))
        have HBE := hide hb1
        have hz1 : b < w1.heap.size := lt_of_blk (unhide HB1)
        clear hb1 bc
        have bc := fun o => cell_of_blk (unhide HB1) o
        go_wp2_with fail
        go_ret
        exact ⟨rfl, (unhide HBE).alloc (unhide HBE).size _⟩
      · have kc := fun w => conv1 w 78 (refO 6) rfl
        go_enter Tryz.func58, Tryz.ntmps58
        go_wp2_with fail
        refine ((unhide IHL) _ _ (unhide HL) (unhide HFL) hzl).mono ?_
        rintro e w1 ⟨rfl, hb1⟩
        have HB1 := hide ((hb1.block b (lt_of_blk (unhide HB))).trans (unhide HB))
        have HBE := hide hb1
        have hz1 : b < w1.heap.size := lt_of_blk (unhide HB1)
        clear hb1 bc
        have bc := fun o => cell_of_blk (unhide HB1) o
        go_wp2_with fail
        go_ret
        exact ⟨rfl, (unhide HBE).alloc (unhide HBE).size _⟩
      · have kc := fun w => conv1 w 70 (refO 7) rfl
        go_enter Tryz.func58, Tryz.ntmps58
        go_wp2_with fail
        refine ((unhide IHL) _ _ (unhide HL) (unhide HFL) hzl).mono ?_
        rintro e w1 ⟨rfl, hb1⟩
        have HB1 := hide ((hb1.block b (lt_of_blk (unhide HB))).trans (unhide HB))
        have HBE := hide hb1
        have hz1 : b < w1.heap.size := lt_of_blk (unhide HB1)
        clear hb1 bc
        have bc := fun o => cell_of_blk (unhide HB1) o
        go_wp2_with fail
        go_ret
        exact ⟨rfl, (unhide HBE).alloc (unhide HBE).size _⟩
      · have kc := fun w => conv1 w 71 (refO 8) rfl
        go_enter Tryz.func58, Tryz.ntmps58
        go_wp2_with fail
        refine ((unhide IHL) _ _ (unhide HL) (unhide HFL) hzl).mono ?_
        rintro e w1 ⟨rfl, hb1⟩
        have HB1 := hide ((hb1.block b (lt_of_blk (unhide HB))).trans (unhide HB))
        have HBE := hide hb1
        have hz1 : b < w1.heap.size := lt_of_blk (unhide HB1)
        clear hb1 bc
        have bc := fun o => cell_of_blk (unhide HB1) o
        go_wp2_with fail
        go_ret
        exact ⟨rfl, (unhide HBE).alloc (unhide HBE).size _⟩
    · have HFL := hide hfl
      have HFR := hide hfr
      obtain ⟨pp, rfl⟩ : ∃ pp, pr = some pp := by
        cases r with
        | nil => exact False.elim hfr
        | node _ _ _ _ _ => obtain ⟨b', _, _, hp, _⟩ := unhide HR; exact ⟨_, hp⟩
      have hk' : k = 9 ∨ k = 10 ∨ k = 11 ∨ k = 12 := by have := hk; simp at this; omega
      clear hk hfl hfr
      rcases hk' with rfl | rfl | rfl | rfl
      · have kc := fun w => conv1 w 85 (refO 9) rfl
        go_enter Tryz.func58, Tryz.ntmps58
        go_wp2_with fail
        refine ((unhide IHL) _ _ (unhide HL) (unhide HFL) hzl).mono ?_
        rintro e w1 ⟨rfl, hb1⟩
        have HB1 := hide ((hb1.block b (lt_of_blk (unhide HB))).trans (unhide HB))
        have HBE := hide hb1
        have hz1 : b < w1.heap.size := lt_of_blk (unhide HB1)
        clear hb1 bc
        have bc := fun o => cell_of_blk (unhide HB1) o
        go_wp2_with fail
        refine ((unhide IHR) _ _ ((unhide HR).later (((unhide HBE).alloc (unhide HBE).size _))) (unhide HFR) hzr).mono ?_
        rintro e w2 ⟨rfl, hb2⟩
        have HB2 := hide (((unhide HBE).alloc (unhide HBE).size _).trans (hb2.mono (by have := (unhide HBE).size; simp; omega)))
        clear hb2
        go_wp2_with fail
        go_ret
        exact ⟨rfl, unhide HB2⟩
      · have kc := fun w => conv1 w 38 (refO 10) rfl
        go_enter Tryz.func58, Tryz.ntmps58
        go_wp2_with fail
        refine ((unhide IHL) _ _ (unhide HL) (unhide HFL) hzl).mono ?_
        rintro e w1 ⟨rfl, hb1⟩
        have HB1 := hide ((hb1.block b (lt_of_blk (unhide HB))).trans (unhide HB))
        have HBE := hide hb1
        have hz1 : b < w1.heap.size := lt_of_blk (unhide HB1)
        clear hb1 bc
        have bc := fun o => cell_of_blk (unhide HB1) o
        go_wp2_with fail
        refine ((unhide IHR) _ _ ((unhide HR).later (((unhide HBE).alloc (unhide HBE).size _))) (unhide HFR) hzr).mono ?_
        rintro e w2 ⟨rfl, hb2⟩
        have HB2 := hide (((unhide HBE).alloc (unhide HBE).size _).trans (hb2.mono (by have := (unhide HBE).size; simp; omega)))
        clear hb2
        go_wp2_with fail
        go_ret
        exact ⟨rfl, unhide HB2⟩
      · have kc := fun w => conv1 w 124 (refO 11) rfl
        go_enter Tryz.func58, Tryz.ntmps58
        go_wp2_with fail
        refine ((unhide IHL) _ _ (unhide HL) (unhide HFL) hzl).mono ?_
        rintro e w1 ⟨rfl, hb1⟩
        have HB1 := hide ((hb1.block b (lt_of_blk (unhide HB))).trans (unhide HB))
        have HBE := hide hb1
        have hz1 : b < w1.heap.size := lt_of_blk (unhide HB1)
        clear hb1 bc
        have bc := fun o => cell_of_blk (unhide HB1) o
        go_wp2_with fail
        refine ((unhide IHR) _ _ ((unhide HR).later (((unhide HBE).alloc (unhide HBE).size _))) (unhide HFR) hzr).mono ?_
        rintro e w2 ⟨rfl, hb2⟩
        have HB2 := hide (((unhide HBE).alloc (unhide HBE).size _).trans (hb2.mono (by have := (unhide HBE).size; simp; omega)))
        clear hb2
        go_wp2_with fail
        go_ret
        exact ⟨rfl, unhide HB2⟩
      · have kc := fun w => conv1 w 62 (refO 12) rfl
        go_enter Tryz.func58, Tryz.ntmps58
        go_wp2_with fail
        refine ((unhide IHL) _ _ (unhide HL) (unhide HFL) hzl).mono ?_
        rintro e w1 ⟨rfl, hb1⟩
        have HB1 := hide ((hb1.block b (lt_of_blk (unhide HB))).trans (unhide HB))
        have HBE := hide hb1
        have hz1 : b < w1.heap.size := lt_of_blk (unhide HB1)
        clear hb1 bc
        have bc := fun o => cell_of_blk (unhide HB1) o
        go_wp2_with fail
        refine ((unhide IHR) _ _ ((unhide HR).later (((unhide HBE).alloc (unhide HBE).size _))) (unhide HFR) hzr).mono ?_
        rintro e w2 ⟨rfl, hb2⟩
        have HB2 := hide (((unhide HBE).alloc (unhide HBE).size _).trans (hb2.mono (by have := (unhide HBE).size; simp; omega)))
        clear hb2
        go_wp2_with fail
        go_ret
        exact ⟨rfl, unhide HB2⟩
end Go.Proofs.YtoclbcffbhldmaaGreatDoor
/- The reference's Print. -/
set_option linter.unusedSimpArgs false
namespace Go.Proofs.YtoclbcffbhldmaaGreatDoor
open Go.RowKit Go.Deep

/-- What Print answers: the text, the place and the error. -/
def printM (s : ByteArray) : ByteArray × Nat × Nat :=
  match readM s with
  | .error x => (⟨#[]⟩, x.1, x.2)
  | .ok (al, rs) => (txtM al rs, 0, 0)

theorem readM_err {s : ByteArray} {x : Nat × Nat} (h : readM s = .error x) : x.2 ≠ 0 := by
  unfold readM at h
  split at h
  · cases h; exact (by decide : (1 : Nat) ≠ 0)
  · cases hm : modelRead (lexR s (s.size + 1) 0) with
    | error q => rw [hm] at h; cases h; exact (by decide : (2 : Nat) ≠ 0)
    | ok m =>
      obtain ⟨al, rs⟩ := m
      rw [hm, rdOf] at h
      split at h
      · rename_i h0; cases h; exact h0
      · split at h
        · cases h; exact (by decide : (4 : Nat) ≠ 0)
        · cases h
structure MGood (al : List Tk) (rs : List Rl) : Prop where
  acts : ∀ t ∈ al, TkS t ∧ t.k = 2
  ne : al ≠ []
  alen : al.length ≤ 401
  rules : ∀ r ∈ rs, RlGood TkS 401 r
  rlen : rs.length ≤ 401
  nof : faults al rs = []
  nodes : nodesL rs ≤ 16
theorem readM_good {s : ByteArray} {al : List Tk} {rs : List Rl} (h : readM s = .ok (al, rs)) : MGood al rs := by
  unfold readM at h
  split at h
  · cases h
  · rename_i hs
    cases hm : modelRead (lexR s (s.size + 1) 0) with
    | error q => rw [hm] at h; cases h
    | ok m =>
      obtain ⟨al', rs'⟩ := m
      rw [hm, rdOf] at h
      split at h
      · cases h
      · rename_i h0
        split at h
        · cases h
        · rename_i h16
          cases h
          have hll : (lexR s (s.size + 1) 0).length ≤ 401 := by have := lexR_len s (s.size + 1) 0 (Nat.zero_le _); omega
          have hg := modelRead_good TkS _ _ _ hm (fun t ht => ⟨lexR_ok s _ _ t ht, by have := lexR_small s _ 0 (Nat.zero_le _) t ht; omega⟩)
          exact ⟨hg.1, hg.2.1, by have := hg.2.2.1; omega, fun r hr => (hg.2.2.2.1 r hr).mono hll, by have := hg.2.2.2.2; omega, meets_zero (faults_errs _ _) (by simpa using h0), by omega⟩

theorem symB_size (k : Nat) : (symB k).size ≤ 2 := by
  unfold symB; repeat' split
  all_goals decide
theorem txtF_size {Q : Tk → Prop} {m : Nat} (hQ : ∀ t, Q t → t.s.size ≤ m) : ∀ {f : Fm}, Fg Q f → (txtF f).size ≤ (m + 7) * sizeF f
  | .nil, h => False.elim h
  | .node _ _ a l r, h => by
    rw [txtF]
    have hs := symB_size a.1
    rcases h with ⟨hk, ⟨t, ht, _, h1, _⟩, rfl, rfl⟩ | ⟨hk, rfl, rfl⟩ | ⟨hk, hfl, rfl⟩ | ⟨hk, hfl, hfr⟩
    · rw [if_pos hk, ← h1]; have := hQ t ht; show t.s.size ≤ (m + 7) * 1; omega
    · rw [if_neg (by omega)]
      repeat' split
      all_goals first | (show 4 ≤ (m + 7) * 1; omega) | (show 5 ≤ (m + 7) * 1; omega) | (show 3 ≤ (m + 7) * 1; omega) | omega
    · rw [if_neg (by omega), if_neg (by omega), if_neg (by omega), if_neg (by omega), if_pos (by omega)]
      have := txtF_size hQ hfl
      simp only [ByteArray.size_append]
      show _ + 1 + _ ≤ (m + 7) * (1 + sizeF l + 0)
      have e : (m + 7) * (1 + sizeF l + 0) = (m + 7) + (m + 7) * sizeF l := by show (m + 7) * (1 + sizeF l) = _; rw [Nat.mul_add, Nat.mul_one]
      rw [e]; omega
    · rw [if_neg (by omega), if_neg (by omega), if_neg (by omega), if_neg (by omega), if_neg (by omega)]
      have h1 := txtF_size hQ hfl
      have h2 := txtF_size hQ hfr
      simp only [ByteArray.size_append]
      show 1 + _ + 1 + _ + 1 + _ + 1 ≤ (m + 7) * (1 + sizeF l + sizeF r)
      rw [Nat.mul_add, Nat.mul_add, Nat.mul_one]; omega
theorem txtActs_at {al : List Tk} {out : ByteArray} {i : Nat} {t : Tk} {r : List Tk} (h : al.drop i = t :: r) : txtActs out i (al.drop i) = txtActs ((if 0 < i then out ++ ⟨#[44, 32]⟩ else out) ++ t.s) (i + 1) (al.drop (i + 1)) := by
  rw [h, txtActs, dropTl h]
theorem txtRules_at {rs : List Rl} {out : ByteArray} {i : Nat} {t : Rl} {r : List Rl} (h : rs.drop i = t :: r) : txtRules out (rs.drop i) = txtRules (txtRule out t) (rs.drop (i + 1)) := by
  rw [h, txtRules, dropTl h]

set_option maxHeartbeats 4000000 in
set_option maxRecDepth 100000 in
theorem Print_any (s : ByteArray) (w : World) : Calls Tryz.prog 26 #[.string s] w fun e w' => e = .returned (.tuple #[.string (printM s).1, .int .i64 (printM s).2.1, .int .i64 (printM s).2.2]) ∧ Below w.heap.size w w' := by
  have HRD := hide (fun W => Read_any s W)
  have HPM : Hid (printM s = match readM s with | .error x => (⟨#[]⟩, x.1, x.2) | .ok (al, rs) => (txtM al rs, 0, 0)) := rfl
  go_enter Tryz.func26, Tryz.ntmps26
  go_wp2_with (go_at_call 57; refine ((unhide HRD) _).mono ?_)
  rintro e w1 ⟨hb1, hx⟩
  cases hm : readM s with
  | error x =>
    rw [hm] at hx
    have hx' : e = .returned (.tuple #[.agg #[.slice none 0 0, .slice none 0 0], .int .i64 x.1, .int .i64 x.2]) := hx
    subst hx'
    clear hx
    have hp : printM s = (⟨#[]⟩, x.1, x.2) := by rw [unhide HPM, hm]
    have HP := hide hp
    have hne := readM_err hm
    have hne' : ¬ ((x.2 : Nat) : Int) = 0 := by omega
    have HB1 := hide hb1
    clear hp hm HPM HRD hb1 hne
    go_wp2_with fail
    refine bodyPost_ret (v := .tuple #[.string ⟨#[]⟩, .int .i64 x.1, .int .i64 x.2]) (by simp [results, Tryz.results26, go_sem]) rfl ?_
    rw [unhide HP]
    exact ⟨rfl, (unhide HB1).alloc (unhide HB1).size _⟩
  | ok m =>
    obtain ⟨al, rs⟩ := m
    rw [hm] at hx
    obtain ⟨o1, n1, k1, o2, n2, k2, rfl, ha, hr⟩ := hx
    have HP : Hid (printM s = (txtM al rs, 0, 0)) := by show _ = _; rw [unhide HPM, hm]
    have hg := readM_good hm
    have HG := hide hg
    have hal := hg.alen
    have hrl := hg.rlen
    have hn1 := ha.len
    have hn2 := hr.len
    subst hn1 hn2
    have hbl : Below w1.heap.size w1 (w1.alloc (.cells #[.slice o1 al.length k1, .slice o2 rs.length k2] 118)) := (Below.refl _ _).alloc (Nat.le_refl _) _
    have hmb : (w1.alloc (.cells #[.slice o1 al.length k1, .slice o2 rs.length k2] 118)).heap[w1.heap.size]? = some (.cells #[.slice o1 al.length k1, .slice o2 rs.length k2] 118 (0, 0)) := blk_alloc _ _
    have HMB := hide hmb
    have HA := hide ((KT.below hbl).acts ha)
    have HR := hide (hr.later hbl)
    have HB := hide (hb1.alloc hb1.size (.cells #[.slice o1 al.length k1, .slice o2 rs.length k2] 118))
    clear ha hr hm HPM HRD hb1 hg hbl hmb
    go_wp2_with fail
    generalize w1.alloc (.cells #[.slice o1 al.length k1, .slice o2 rs.length k2] 118) = W at *
    have hzW : w1.heap.size < W.heap.size := lt_of_blk (unhide HMB)
    obtain ⟨g, rfl⟩ : ∃ g, o1 = some ⟨g, 0, none⟩ := by
      obtain ⟨t, l, ht⟩ := drop_ne (L := al) (i := 0) (by have := (unhide HG).ne; exact List.length_pos_iff.2 this)
      obtain ⟨g, hgo, _⟩ := (unhide HA).tok ht
      exact ⟨g, hgo⟩
    have mc := fun o => cell_of_blk (unhide HMB) o
    go_loopw [8, 9] (fun vo vi wr => ∃ (i : Nat) (out : ByteArray), i ≤ al.length ∧ vi = .int .i64 i ∧ vo = .string out ∧ W = wr ∧ out.size ≤ 10 + i * 402 ∧ Hid (txtActs ⟨#[97, 99, 116, 115, 32]⟩ 0 al = txtActs out i (al.drop i))) (fun _ v _ => al.length - (intOf v).toNat)
    case atStart => exact ⟨0, _, Nat.zero_le _, rfl, rfl, rfl, by decide, rfl⟩
    case round =>
      obtain ⟨i, out, hi, rfl, rfl, rfl, hsz, HO⟩ := hrel
      by_cases hlt : i < al.length
      · obtain ⟨t, l, ht⟩ := drop_ne hlt
        obtain ⟨g', hgo, hgW, -, t0, t1, t2⟩ := (unhide HA).tok ht
        cases hgo
        have htz : t.s.size ≤ 400 := ((unhide HG).acts t (drop_mem ht)).1.2
        have HTA := hide (txtActs_at (out := out) ht)
        clear ht
        by_cases h0 : 0 < i
        · have h0' : (0 : Int) < (i : Int) := by omega
          go_wp2_with fail
          go_roundw
          case rel => exact ⟨i + 1, _, by omega, by go_num, rfl, by first | rfl | trivial, by simp only [ByteArray.size_append]; show out.size + 2 + t.s.size ≤ _; omega, by show _ = _; rw [unhide HO, unhide HTA, if_pos h0]⟩
          case measure => simp [intOf]; omega
        · have h0' : ¬ (0 : Int) < (i : Int) := by omega
          go_wp2_with fail
          go_roundw
          case rel => exact ⟨i + 1, _, by omega, by go_num, rfl, by first | rfl | trivial, by simp only [ByteArray.size_append]; omega, by show _ = _; rw [unhide HO, unhide HTA, if_neg h0]⟩
          case measure => simp [intOf]; omega
      · have hie : i = al.length := by omega
        subst hie
        have HO2 : Hid (txtM al rs = txtRules (out ++ ⟨#[59, 10]⟩) (rs.drop 0)) := by
          show _ = _
          rw [txtM, unhide HO, List.drop_eq_nil_of_le (Nat.le_refl _)]; rfl
        have hs2 : (out ++ ⟨#[59, 10]⟩ : ByteArray).size ≤ 200000 := by simp only [ByteArray.size_append]; show out.size + 2 ≤ _; omega
        have hs3 : out.size ≤ 200000 := by omega
        clear HO hsz
        go_wp2_with fail
        generalize (out ++ ⟨#[59, 10]⟩ : ByteArray) = out2 at *
        clear mc
        go_loopw [8, 10] (fun vo vi wr => ∃ (j : Nat) (out : ByteArray), j ≤ rs.length ∧ vi = .int .i64 j ∧ vo = .string out ∧ Below W.heap.size W wr ∧ out.size ≤ 200000 + j * 200000 ∧ Hid (txtM al rs = txtRules out (rs.drop j))) (fun _ v _ => rs.length - (intOf v).toNat)
        case atStart => exact ⟨0, _, Nat.zero_le _, rfl, rfl, Below.refl _ _, by omega, HO2⟩
        case round =>
          clear HO2 hs2 hs3 hlt hi
          obtain ⟨j, out3, hj, rfl, rfl, hbel, hsz3, HO⟩ := hrel
          have HBEL := hide hbel
          have hmb := (hbel.block _ hzW).trans (unhide HMB)
          have mc := fun o => cell_of_blk hmb o
          have hzr : w1.heap.size < wr.heap.size := lt_of_blk hmb
          clear hmb
          by_cases hjl : j < rs.length
          · obtain ⟨r, l, hr⟩ : ∃ r l, rs.drop j = r :: l := by
              cases hd : rs.drop j with
              | nil => have := congrArg List.length hd; simp at this; omega
              | cons r l => exact ⟨r, l, rfl⟩
            obtain ⟨g2, hgo, hg2, -, a, b, s', c, o', n', k', d, p, hri, q0, q1, q2, q3, q4, q5, q6⟩ := ((unhide HR).later hbel).at hr
            subst hgo
            have hmem : r ∈ rs := List.mem_of_mem_drop (i := j) (by rw [hr]; exact List.mem_cons_self)
            have HTR := hide (txtRules_at (out := out3) hr)
            have HGR := hide ((unhide HG).rules r hmem)
            have HRI := hide hri
            clear hr hmem hri hbel
            rcases unhide HGR with ⟨hcall, hwq, _, hfn, x, hxq, hxk, hargs⟩ | ⟨hcall, hfg, hfz, _⟩
            · have hp := (unhide HRI).2
              rw [if_pos hcall] at hp
              obtain ⟨-, hs5, hc5, ho5, hd5, hp5⟩ := hp
              subst hs5 hp5
              have hao : ActsAre wr o' n' k' r.args := ho5
              have hn5 := hao.len
              subst hn5
              have hxs := hxq.2
              have hws := hwq.2
              have HTX : Hid (txtRule out3 r = (if 1 < r.args.length then out3 ++ ⟨#[114, 117, 108, 101, 32]⟩ ++ r.word.s ++ ⟨#[40]⟩ ++ argS r.args 0 ++ ⟨#[44, 32]⟩ ++ argS r.args 1
     else out3 ++ ⟨#[114, 117, 108, 101, 32]⟩ ++ r.word.s ++ ⟨#[40]⟩ ++ argS r.args 0) ++ ⟨#[41, 59, 10]⟩) := by show _ = _; rw [txtRule, if_pos hcall]
              rcases hargs with harg | ⟨y, hyq, hyk, harg⟩
              · rw [harg] at hao HTX q4
                obtain ⟨ga, hga, hgas, -, a0, a1, a2⟩ := hao.tok (i := 0) (t := x) (r := []) rfl
                subst hga
                have hone : r.args.length = 1 := by rw [harg]; rfl
                simp only [hone] at *
                clear hao ho5 hcall hfn harg hxq hxk hwq
                have a1' : wr.cell? ⟨ga, 1, none⟩ = some (.string x.s) := a1
                go_wp2_with fail
                go_quiet (fail)
                go_wp2_with fail
                go_roundw
                case rel => exact ⟨j + 1, _, by omega, by go_num, rfl, ((unhide HBEL).alloc (unhide HBEL).size _).trans ((bdn _ nq).mono (by have := (unhide HBEL).size; simp; omega)), by simp only [ByteArray.size_append]; show out3.size + 5 + r.word.s.size + 1 + x.s.size + 3 ≤ _; omega, by show _ = _; rw [unhide HO, unhide HTR, unhide HTX]; rfl⟩
                case measure => simp [intOf]; omega
              · rw [harg] at hao HTX q4
                obtain ⟨ga, hga, hgas, -, a0, a1, a2⟩ := hao.tok (i := 0) (t := x) (r := [y]) rfl
                subst hga
                obtain ⟨ga', hga', -, -, b0, b1, b2⟩ := hao.tok (i := 1) (t := y) (r := []) rfl
                cases hga'
                have hone : r.args.length = 2 := by rw [harg]; rfl
                simp only [hone] at *
                have hys := hyq.2
                clear hao ho5 hcall hfn harg hxq hxk hwq hyq hyk
                have a1' : wr.cell? ⟨ga, 1, none⟩ = some (.string x.s) := a1
                have b1' : wr.cell? ⟨ga, 4, none⟩ = some (.string y.s) := b1
                go_wp2_with fail
                go_quiet (fail)
                go_wp2_with fail
                go_roundw
                case rel => exact ⟨j + 1, _, by omega, by go_num, rfl, ((unhide HBEL).alloc (unhide HBEL).size _).trans ((bdn _ nq).mono (by have := (unhide HBEL).size; simp; omega)), by simp only [ByteArray.size_append]; show out3.size + 5 + r.word.s.size + 1 + x.s.size + 2 + y.s.size + 3 ≤ _; omega, by show _ = _; rw [unhide HO, unhide HTR, unhide HTX]; rfl⟩
                case measure => simp [intOf]; omega
            · have hp := (unhide HRI).2
              rw [if_neg (by simp [hcall])] at hp
              obtain ⟨hif, hsome⟩ := hp
              obtain ⟨pp, rfl⟩ := Option.isSome_iff_exists.1 hsome
              have HTX : Hid (txtRule out3 r = out3 ++ ⟨#[114, 117, 108, 101, 32]⟩ ++ txtF r.f ++ ⟨#[59, 10]⟩) := by show _ = _; rw [txtRule, if_neg (by simp [hcall])]
              have hfz2 : (txtF r.f).size ≤ 170000 := by
                have h1 := txtF_size (m := 400) (fun t ht => ht.2) hfg
                have h2 := Nat.mul_le_mul_left 407 hfz
                omega
              have HIF := hide (hif.later ((Below.refl _ _).alloc (Nat.le_refl _) (.cells #[.int .i64 a, .int .u8 b, .string s', .int .i64 c, .slice o' n' k', .int .i64 d, .pointer (some pp)] 125)))
              have HFG := hide hfg
              clear hif hsome hcall hfg hfz
              go_wp2_with fail
              refine (written_any TkS r.f _ _ (unhide HIF) (unhide HFG) (by omega)).mono ?_
              rintro e w5 ⟨rfl, hb5⟩
              have HB5 := hide (((unhide HBEL).alloc (unhide HBEL).size _).trans (hb5.mono (by have := (unhide HBEL).size; simp; omega)))
              clear hb5
              generalize txtF r.f = tx at *
              go_wp2_with fail
              go_roundw
              case rel => exact ⟨j + 1, _, by omega, by go_num, rfl, unhide HB5, by simp only [ByteArray.size_append]; show out3.size + 5 + tx.size + 2 ≤ _; omega, by show _ = _; rw [unhide HO, unhide HTR, unhide HTX]⟩
              case measure => simp [intOf]; omega
          · have hje : j = rs.length := by omega
            subst hje
            have HT : Hid (txtM al rs = out3) := by
              show _ = _
              rw [unhide HO, List.drop_eq_nil_of_le (Nat.le_refl _)]; rfl
            go_wp2_with fail
            refine bodyPost_ret (v := .tuple #[.string out3, .int .i64 0, .int .i64 0]) (by simp [results, Tryz.results26, go_sem]) rfl ?_
            rw [unhide HP]
            refine ⟨?_, (unhide HB).trans ((unhide HBEL).mono (unhide HB).size)⟩
            show _ = Ending.returned (.tuple #[.string (txtM al rs), .int .i64 0, .int .i64 0])
            rw [unhide HT]
end Go.Proofs.YtoclbcffbhldmaaGreatDoor
