/- The program's strings.Builder: copyCheck and WriteString. -/
import Derived.Test.YtoclbcffbhldmaaGreatDoorW1
import Derived.Test.YtoclbcffbhldmaaGreatDoorShf
import Derived.Test.YtoclbcffbhldmaaGreatDoorB13
set_option linter.unusedSimpArgs false
namespace Go.Proofs.YtoclbcffbhldmaaGreatDoor
open Go.RowKit Go.Deep

theorem sizeBld : (Tryz.prog.info? 154).map (·.size) = some 2 := by kernel_rfl
theorem liesBld : liesAt Tryz.prog Tryz.prog.depth 154 (2 / Tryz.prog.cellsOf 154) 0 154 1 = true := by kernel_rfl
theorem infoByte : (Tryz.prog.info? 5).map (fun i => (i.zero, i.size, i.bytes)) = some (some (.int .u8 0), 1, 1) := by kernel_rfl

set_option maxHeartbeats 1000000 in
set_option maxRecDepth 100000 in
theorem copyCheck_used (b : Nat) (w : World) (h0 : w.cell? ⟨b, 0, none⟩ = some (.pointer (some ⟨b, 0, none⟩))) :
    Calls Tryz.prog 106 #[.pointer (some ⟨b, 0, none⟩)] w fun e w' => e = .returned (.tuple #[]) ∧ w' = w := by
  obtain ⟨j, hj, _⟩ := Option.map_eq_some_iff.1 sizeBld
  go_enter Tryz.func106, Tryz.ntmps106
  go_wp2
  rw [Lib.run_neq_ptr_same w _ Tryz.underlying152 hj]
  go_wp2
  go_end0
  exact ⟨rfl, rfl⟩

set_option maxHeartbeats 1000000 in
set_option maxRecDepth 100000 in
theorem copyCheck_fresh (b : Nat) (w : World) (h0 : w.cell? ⟨b, 0, none⟩ = some (.pointer none)) (hsh : w.shape? b = some (154, 2)) (hfz : w.frozen? ⟨b, 0, none⟩ = false) :
    Calls Tryz.prog 106 #[.pointer (some ⟨b, 0, none⟩)] w fun e w' => e = .returned (.tuple #[]) ∧ w' = w.setCell ⟨b, 0, none⟩ (.pointer (some ⟨b, 0, none⟩)) := by
  obtain ⟨j, hj, hjs⟩ := Option.map_eq_some_iff.1 sizeBld
  go_enter Tryz.func106, Tryz.ntmps106
  go_wp2
  rw [Lib.run_to_unsafe w ⟨b, 0, none⟩ Tryz.underlying152 Tryz.underlying260 hj (by rw [hjs]; decide) hsh (Nat.zero_lt_succ 1)]
  simp only [Result.andThen]
  rw [Oper.upon_value]
  go_wp2
  rw [run_callFunc_extern Tryz.func139 (by kernel_rfl) (by kernel_rfl) (by kernel_rfl) (e := Extern.AbiNoEscape.same) (by kernel_rfl)]
  rw [Lib.run_noEscape]
  simp only [Result.andThen]
  rw [Oper.upon_value]
  go_wp2
  rw [Lib.run_from_unsafe w ⟨b, 0, none⟩ Tryz.underlying260 Tryz.underlying152 hj hsh liesBld]
  simp only [Result.andThen]
  rw [Oper.upon_value]
  go_wp2
  go_end0
  exact ⟨rfl, rfl⟩
theorem copyCheck_any (B b : Nat) (bs : List Value) (w : World) (h : Lib.IsBuilder 154 5 B b bs w) :
    Calls Tryz.prog 106 #[.pointer (some ⟨b, 0, none⟩)] w fun e w' => e = .returned (.tuple #[]) ∧ (Lib.BuilderAt 154 5 B b (.pointer (some ⟨b, 0, none⟩)) bs w' ∧ Below B w w') := by
  rcases h with h | h
  · refine (copyCheck_fresh b w h.cell0 h.shape h.frozen0).mono ?_
    rintro e w' ⟨rfl, rfl⟩
    exact ⟨rfl, h.used _, (Below.refl B w).setCell (p := ⟨b, 0, none⟩) h.1 _⟩
  · refine (copyCheck_used b w h.cell0).mono ?_
    rintro e w' ⟨rfl, rfl⟩
    exact ⟨rfl, h, Below.refl B _⟩

set_option maxHeartbeats 2000000 in
set_option maxRecDepth 100000 in
theorem writeString_any (B b : Nat) (bs : List Value) (s : ByteArray) (w : World) (h : Lib.IsBuilder 154 5 B b bs w) (hlen : bs.length + s.size ≤ 140737488355328) (hBw : B ≤ w.heap.size) :
    Calls Tryz.prog 78 #[.pointer (some ⟨b, 0, none⟩), .string s] w fun e w' => e = .returned (.tuple #[.int .i64 s.size, .nilIface]) ∧ (Lib.BuilderAt 154 5 B b (.pointer (some ⟨b, 0, none⟩)) (bs ++ Lib.strCells s) w' ∧ Below B w w') := by
  obtain ⟨i0, hi, hz0, hz1, hz2⟩ := info_parts infoByte
  go_enter Tryz.func78, Tryz.ntmps78
  go_wp2_with fail
  refine (copyCheck_any B b bs _ h).mono ?_
  rintro e w1 ⟨rfl, h1, hb1⟩
  obtain ⟨hB, v, hbk, hown, hne⟩ := h1
  have c0 : w1.cell? ⟨b, 0, none⟩ = some (.pointer (some ⟨b, 0, none⟩)) := by rw [Lib.cell_of_heap hbk]; rfl
  have c1 : w1.cell? ⟨b, 1, none⟩ = some v := by rw [Lib.cell_of_heap hbk]; rfl
  go_wp2_with (at_builtin; refine Lib.wpList_append_own_string _ rfl _ _ 140 9 rfl B 5 i0 Tryz.underlying140 Tryz.underlying9 hi hz0 hz1 hz2 _ _ _ rfl hown s rfl ?c3 ?c4 ?c5 ?_)
  case c3 => unfold maxLen; omega
  case c4 => omega
  case c5 => have := hb1.size; omega
  intro v' w2 hown' hgrow _
  have hlt : b < w1.heap.size := lt_of_blk hbk
  have hb2 : w2.heap[b]? = some (.cells #[.pointer (some ⟨b, 0, none⟩), v] 154 (0, 0)) := by
    rw [hgrow.block b hlt (fun e => hne e.symm)]
    exact hbk
  have d0 : w2.cell? ⟨b, 0, none⟩ = some (.pointer (some ⟨b, 0, none⟩)) := by rw [Lib.cell_of_heap hb2]; rfl
  have d1 : w2.cell? ⟨b, 1, none⟩ = some v := by rw [Lib.cell_of_heap hb2]; rfl
  have f1 : w2.frozen? ⟨b, 1, none⟩ = false := Lib.frozen_of_heap hb2 1
  obtain ⟨ao, n', cap, rfl⟩ : ∃ ao n' cap, v' = .slice ao n' cap := row_slice hown'
  have hol := own_lt hown
  go_wp2
  go_ret2
  refine ⟨rfl, ⟨hB, .slice ao n' cap, blk_set hb2 1 _, owns_keep ?_ (grown_set _ _ _ _) (Or.inr (fun e => own_ty hown' e hb2 (by decide))), fun e => own_ty hown' e hb2 (by decide)⟩, ?_⟩
  · rw [List.length_append, Lib.strCells_length]; exact hown'
  · exact (hb1.grown hgrow (by have := hb1.size; omega) (fun k hk => (hol k hk).1)).setCell (p := ⟨b, 1, none⟩) hB _
end Go.Proofs.YtoclbcffbhldmaaGreatDoor
/- The program's Model.nodes. -/
set_option linter.unusedSimpArgs false
namespace Go.Proofs.YtoclbcffbhldmaaGreatDoor
open Go.RowKit Go.Deep

theorem row_buP {w : World} {no : Option Addr} {nn nc n : Nat} {cs : List Value} (h : w.ownsRow 0 162 3 (.slice no nn nc) n cs) : nn = n ∧ (n ≠ 0 → ∃ g, no = some ⟨g, 0, none⟩ ∧ n ≤ nc ∧ nc ≤ maxLen ∧ ∃ cur, w.heap[g]? = some (.cells cur 162 (0, 0)) ∧ cur.toList.take (n * 3) = cs) := by
  obtain ⟨_, h2 | ⟨g, cap, cur, hv, _, hh, hle, hcap, _, htake⟩⟩ := h
  · obtain ⟨h3, h4⟩ := h2
    cases h3
    exact ⟨h4.symm, fun hne => absurd h4 hne⟩
  · cases hv
    exact ⟨rfl, fun _ => ⟨g, rfl, hle, hcap, cur, hh, htake⟩⟩
theorem nodesL_snoc : ∀ (l : List Rl) (r : Rl), nodesL (l ++ [r]) = nodesL l + sizeF (ruleF r)
  | [], r => by simp [nodesL]
  | x :: l, r => by rw [List.cons_append, nodesL, nodesL, nodesL_snoc l r]; omega

set_option maxHeartbeats 2000000 in
set_option maxRecDepth 100000 in
theorem mnodes_any (w : World) (rs : List Rl) (a1 : Option Addr) (a2 a3 : Nat) (m1 : Option Addr) (m2 m3 : Nat) (cells : List Value) (hr : w.ownsRow 0 162 3 (.slice m1 m2 m3) rs.length cells) (hp : BuP w rs cells) (hrs : rs.length ≤ 401) (hsz : ∀ r ∈ rs, sizeF (ruleF r) ≤ 100000) :
    Calls Tryz.prog 77 #[.agg #[.slice a1 a2 a3, .slice m1 m2 m3]] w fun e w' => e = .returned (.int .i64 (nodesL rs)) ∧ Below w.heap.size w w' := by
  obtain ⟨hn2, hrow2⟩ := row_buP hr
  have hn2a : m2 ≤ rs.length := by omega
  have hn2b : rs.length ≤ m2 := by omega
  have HROW := hide hrow2
  have HP := hide hp
  have HSZ := hide hsz
  clear hr hp hn2 hrow2 hsz
  go_enter Tryz.func77, Tryz.ntmps77
  go_wp2_with fail
  go_loopw [3, 9] (fun v i wr => ∃ k : Nat, i = .int .i64 (k : Int) ∧ v = .int .i64 (nodesL (rs.take k)) ∧ k ≤ rs.length ∧ Below w.heap.size w wr) (fun _ i _ => rs.length - (intOf i).toNat)
  case atStart => exact ⟨0, rfl, rfl, Nat.zero_le _, (Below.refl _ _).alloc (Nat.le_refl _) _⟩
  case round =>
    obtain ⟨k, rfl, rfl, hkk, hbel⟩ := hrel
    by_cases hlt : k < rs.length
    · obtain ⟨r, rr, ht⟩ : ∃ r rr, rs.drop k = r :: rr := by
        cases hd : rs.drop k with
        | nil => have := congrArg List.length hd; simp at this; omega
        | cons r rr => exact ⟨r, rr, rfl⟩
      obtain ⟨g, hno, hle, hcap, cur, hc1, hc2⟩ := unhide HROW (by omega)
      unfold maxLen at hcap
      have hgl0 := lt_of_blk hc1
      obtain ⟨wd, ao, an, ac, p, g0, g1, g2, g3⟩ := (unhide HP).at k ht
      have hcw := (hbel.block _ hgl0).trans hc1
      have d0 := (cell_of_blk hcw (k * 3)).trans (take_at (k := k * 3) (o := 0) hc2 (by omega) g0)
      have d1 := (cell_of_blk hcw (k * 3 + 1)).trans (take_at hc2 (by omega) g1)
      have d2 := (cell_of_blk hcw (k * 3 + 2)).trans (take_at hc2 (by omega) g2)
      have hwl : w.heap.size ≤ wr.heap.size := hbel.size
      have hgl : g < wr.heap.size := by omega
      subst hno
      have HIG := hide (g3.keep (KB.below (w := w) (w' := wr.alloc (.cells #[.string wd, .slice ao an ac, .pointer p] 162)) (hbel.alloc hwl _))).1
      have hmem : r ∈ rs := List.mem_of_mem_drop (by rw [ht]; exact List.mem_cons_self)
      have hs1 := unhide HSZ r hmem
      have hs2 : nodesL (rs.take k) ≤ 40100000 := by
        have h1 := nodesL_le 100000 (rs.take k) (fun x hx => unhide HSZ x (List.mem_of_mem_take hx))
        have h2 : (rs.take k).length ≤ 401 := by rw [List.length_take]; omega
        exact Nat.le_trans h1 (Nat.mul_le_mul_right 100000 h2)
      have HTS := hide (nodesL_snoc (rs.take k) r)
      have HTK := hide (take_snoc ht)
      have hkn : (k : Int) < (m2 : Int) := by omega
      have HBEL := hide hbel
      clear hbel ht hc1 hc2 hcw cur g0 g1 g2 g3 hmem
      go_wp2_with fail
      refine (nodes_any (ruleF r) _ p (unhide HIG) hs1).mono ?_
      rintro e w2 ⟨rfl, n, rfl⟩
      generalize hT : nodesL (rs.take k) = T at *
      generalize hZ : sizeF (ruleF r) = Z at *
      go_wp2_with fail
      go_roundw
      case rel => exact ⟨k + 1, by go_num, by rw [unhide HTK, unhide HTS]; go_num, by omega, ((unhide HBEL).alloc hwl _).trans ((bdn _ n).mono (by simp; omega))⟩
      case measure => simp [intOf]; omega
    · have hke : rs.length ≤ k := by omega
      have hkn : ¬ (k : Int) < (m2 : Int) := by omega
      rw [List.take_of_length_le hke]
      go_wp2_with fail
      go_ret
      exact ⟨rfl, hbel⟩
end Go.Proofs.YtoclbcffbhldmaaGreatDoor
/- The program's Rule.text. -/
set_option linter.unusedSimpArgs false
namespace Go.Proofs.YtoclbcffbhldmaaGreatDoor
open Go.RowKit Go.Deep

/-- The texts of tokens, with a comma and a blank between. -/
def jnB (L : List Tk) : ByteArray := ⟨(Lib.join ((L.map (·.s)).map (·.data.toList)) (⟨#[44, 32]⟩ : ByteArray).data.toList).toArray⟩
/-- A rule, written. -/
def ruT (r : Rl) : ByteArray := if r.call = true then r.word.s ++ ⟨#[40]⟩ ++ jnB r.args ++ ⟨#[41]⟩ else txtF r.f
theorem join_any (w : World) (B : Nat) (L : List Tk) (v : Value) (h : w.ownsRow B 9 1 v L.length (strC L)) (hne : L ≠ []) (hl : L.length ≤ 401) (hlen : (jnB L).size ≤ 1000000) :
    Calls Tryz.prog 79 #[v, .string ⟨#[44, 32]⟩] w fun e w' => e = .returned (.string (jnB L)) ∧ Below w.heap.size w w' := by
  rcases row_str h with ⟨_, h2⟩ | ⟨g, cap, rfl, hg, hcap, _, hc⟩
  · exact absurd h2 hne
  have hs : (Lib.join ((L.map (·.s)).map (·.data.toList)) (⟨#[44, 32]⟩ : ByteArray).data.toList).length = (jnB L).size := by simp [jnB, ByteArray.size]
  have := Tryz.strings_Join g 0 cap (L.map (·.s)) ⟨#[44, 32]⟩ w (fun j x hj => by
    rw [List.getElem?_map] at hj
    obtain ⟨t, ht, rfl⟩ := Option.map_eq_some_iff.1 hj
    have hd : L.drop j = t :: L.drop (j + 1) := by
      obtain ⟨hlt, he⟩ := List.getElem?_eq_some_iff.1 ht
      rw [List.drop_eq_getElem_cons hlt, he]
    rw [Nat.zero_add]
    exact hc j t _ hd) hg (by rw [List.length_map]; omega) (by rw [List.length_map]; exact hcap) (by rw [hs]; omega)
  rw [List.length_map] at this
  exact this

set_option maxHeartbeats 2000000 in
set_option maxRecDepth 100000 in
theorem rtext_any (Q : Tk → Prop) (w : World) (r : Rl) (wd : ByteArray) (ao : Option Addr) (an ac : Nat) (p : Option Addr) (h : BuR w r wd ao an ac p) (hg : RlGood Q 401 r) (hw : r.call = true → r.word.s.toList ≠ []) (hz : (ruT r).size ≤ 200000) (hG : GV w) :
    Calls Tryz.prog 80 #[.agg #[.string wd, .slice ao an ac, .pointer p]] w fun e w' => e = .returned (.string (ruT r)) ∧ Below w.heap.size w w' := by
  have hbz : Below w.heap.size w (w.alloc (.cells #[.string wd, .slice ao an ac, .pointer p] 162)) := (Below.refl _ _).alloc (Nat.le_refl _) _
  obtain ⟨hf, hx⟩ := h
  rcases hg with ⟨hc, -, -, -, x, -, -, hargs⟩ | ⟨hc, hfg, -, -⟩
  · rw [if_pos hc] at hx
    obtain ⟨rfl, hown⟩ := hx
    have hne : r.args ≠ [] := by rcases hargs with e | ⟨y, _, _, e⟩ <;> rw [e] <;> simp
    have hal : r.args.length ≤ 2 := by rcases hargs with e | ⟨y, _, _, e⟩ <;> rw [e] <;> simp
    have hR : ruT r = r.word.s ++ ⟨#[40]⟩ ++ jnB r.args ++ ⟨#[41]⟩ := by unfold ruT; rw [if_pos hc]
    have hz1 : r.word.s.size ≤ 200000 := by rw [hR] at hz; simp only [ByteArray.size_append] at hz; omega
    have hz2 : (jnB r.args).size ≤ 200000 := by rw [hR] at hz; simp only [ByteArray.size_append] at hz; omega
    rw [hR]
    have hw1 := hw hc
    have hwn : r.word.s.toList.isEmpty = false := by cases h : r.word.s.toList with | nil => exact absurd h hw1 | cons a l => rfl
    have HOWN := hide (owns_later hown hbz)
    have HB := hide hbz
    have HNE := hide hne
    have hblk : (w.alloc (.cells #[.string r.word.s, .slice ao an ac, .pointer p] 162)).heap[w.heap.size]? = some (.cells #[.string r.word.s, .slice ao an ac, .pointer p] 162 (0, 0)) := blk_alloc _ _
    have HBLK := hide hblk
    clear hargs hown hne hbz hw1 hw hR hz hf hc hG hblk
    have hjc : ∀ w1 : World, Below (w.heap.size + 1) (w.alloc (.cells #[.string r.word.s, .slice ao an ac, .pointer p] 162)) w1 → Hid (Calls Tryz.prog 79 #[.slice ao an ac, .string ⟨#[44, 32]⟩] w1 fun e w' => e = .returned (.string (jnB r.args)) ∧ Below w1.heap.size w1 w') := fun w1 h1 =>
      join_any w1 0 r.args _ (owns_later (unhide HOWN) (by simpa using h1)) (unhide HNE) (by omega) (by omega)
    generalize r.word.s = wd at *
    generalize jnB r.args = J at *
    clear HOWN HNE hal
    go_enter Tryz.func80, Tryz.ntmps80
    go_wp2_with fail
    refine wp_region_held_drew (S := fun w' => w'.cell? ⟨w.heap.size, 0, none⟩ = some (.string wd) ∧ w'.cell? ⟨w.heap.size, 1, none⟩ = some (.slice ao an ac)) (by kernel_rfl) ?_ (fun hHeld => ?_)
    · exact ⟨cell_of_blk (unhide HBLK) 0, cell_of_blk (unhide HBLK) 1⟩
    refine wpAnyH_take (i := 0) (v := .pointer (some ⟨w.heap.size, 0, none⟩)) rfl (by kernel_rfl) (by kernel_rfl) (by kernel_rfl) (fun _ _ _ h => h) (Or.inl ⟨by kernel_rfl, fun w hw => by obtain ⟨s0, s1⟩ := hw; go_simp <;> omega⟩) hHeld ?_
    try simp only [Act.put, List.setIfInBounds_toArray, List.set_cons_zero, List.set_cons_succ, List.getElem_toArray, List.getElem_cons_succ, List.getElem_cons_zero]
    refine wpAnyH_take (i := 1) (v := .string wd) rfl (by kernel_rfl) (by kernel_rfl) (by kernel_rfl) (fun _ _ _ h => h) (Or.inl ⟨by kernel_rfl, fun w hw => by obtain ⟨s0, s1⟩ := hw; go_simp <;> omega⟩) hHeld ?_
    try simp only [Act.put, List.setIfInBounds_toArray, List.set_cons_zero, List.set_cons_succ, List.getElem_toArray, List.getElem_cons_succ, List.getElem_cons_zero]
    refine wpAnyH_take (i := 2) (v := .string (wd ++ ⟨#[40]⟩)) rfl (by kernel_rfl) (by kernel_rfl) (by kernel_rfl) (fun _ _ _ h => h) (Or.inl ⟨by kernel_rfl, fun w hw => by obtain ⟨s0, s1⟩ := hw; go_simp <;> omega⟩) hHeld ?_
    try simp only [Act.put, List.setIfInBounds_toArray, List.set_cons_zero, List.set_cons_succ, List.getElem_toArray, List.getElem_cons_succ, List.getElem_cons_zero]
    refine wpAnyH_take (i := 3) (v := .pointer (some ⟨w.heap.size, 1, none⟩)) rfl (by kernel_rfl) (by kernel_rfl) (by kernel_rfl) (fun _ _ _ h => h) (Or.inl ⟨by kernel_rfl, fun w hw => by obtain ⟨s0, s1⟩ := hw; go_simp <;> omega⟩) hHeld ?_
    try simp only [Act.put, List.setIfInBounds_toArray, List.set_cons_zero, List.set_cons_succ, List.getElem_toArray, List.getElem_cons_succ, List.getElem_cons_zero]
    refine wpAnyH_take (i := 4) (v := .slice ao an ac) rfl (by kernel_rfl) (by kernel_rfl) (by kernel_rfl) (fun _ _ _ h => h) (Or.inl ⟨by kernel_rfl, fun w hw => by obtain ⟨s0, s1⟩ := hw; go_simp <;> omega⟩) hHeld ?_
    try simp only [Act.put, List.setIfInBounds_toArray, List.set_cons_zero, List.set_cons_succ, List.getElem_toArray, List.getElem_cons_succ, List.getElem_cons_zero]
    refine wpAnyH_ready (rs := [5]) (by kernel_rfl) (by simp) ?_
    refine AllReadyH.cons rfl (fun K hK => ?_) AllReadyH.nil
    go_simp
    go_wp2_with (go_at_call 79; refine (unhide (hjc _ (Below.refl _ _).drew)).mono ?_; rintro e w5 ⟨rfl, hb5⟩)
    have hs5 : w5.cell? ⟨w.heap.size, 0, none⟩ = some (.string wd) ∧ w5.cell? ⟨w.heap.size, 1, none⟩ = some (.slice ao an ac) :=
      ⟨(bcell3 hb5 _ _ (by simp)).trans (cell_of_blk (unhide HBLK) 0), (bcell3 hb5 _ _ (by simp)).trans (cell_of_blk (unhide HBLK) 1)⟩
    refine hK.out _ _ hs5 (fun hHeld => ?_)
    clear hK K hs5
    refine wpAnyH_take (i := 6) (v := .string (wd ++ ⟨#[40]⟩ ++ J)) rfl (by kernel_rfl) (by kernel_rfl) (by kernel_rfl) (fun _ _ _ h => h) (Or.inl ⟨by kernel_rfl, fun w hw => by obtain ⟨s0, s1⟩ := hw; go_simp <;> omega⟩) hHeld ?_
    try simp only [Act.put, List.setIfInBounds_toArray, List.set_cons_zero, List.set_cons_succ, List.getElem_toArray, List.getElem_cons_succ, List.getElem_cons_zero]
    refine wpAnyH_take (i := 7) (v := .string (wd ++ ⟨#[40]⟩ ++ J ++ ⟨#[41]⟩)) rfl (by kernel_rfl) (by kernel_rfl) (by kernel_rfl) (fun _ _ _ h => h) (Or.inl ⟨by kernel_rfl, fun w hw => by obtain ⟨s0, s1⟩ := hw; go_simp <;> omega⟩) hHeld ?_
    try simp only [Act.put, List.setIfInBounds_toArray, List.set_cons_zero, List.set_cons_succ, List.getElem_toArray, List.getElem_cons_succ, List.getElem_cons_zero]
    refine wpAnyH_take (i := 8) (v := .string (wd ++ ⟨#[40]⟩ ++ J ++ ⟨#[41]⟩)) rfl (by kernel_rfl) (by kernel_rfl) (by kernel_rfl) (fun _ _ _ h => h) (Or.inl ⟨by kernel_rfl, fun w hw => by obtain ⟨s0, s1⟩ := hw; go_simp <;> omega⟩) hHeld ?_
    try simp only [Act.put, List.setIfInBounds_toArray, List.set_cons_zero, List.set_cons_succ, List.getElem_toArray, List.getElem_cons_succ, List.getElem_cons_zero]
    refine wpAnyH_done (by kernel_rfl) ?_ _
    clear hHeld
    go_wp2_with fail
    go_ret
    exact ⟨rfl, ((unhide HB).drew).trans (hb5.mono (by simp))⟩
  · rw [if_neg (by rw [hc]; decide)] at hx
    subst hx
    have hR : ruT r = txtF r.f := by unfold ruT; rw [if_neg (by rw [hc]; decide)]
    have hF : ruleF r = r.f := by unfold ruleF; rw [if_neg (by rw [hc]; decide)]
    rw [hR] at hz
    rw [hF] at hf
    rw [hR]
    have HF := hide (hf.later hbz)
    have HG := hide (hG.later hbz)
    have HFG := hide hfg
    have HB := hide hbz
    clear hf hfg hG hbz hR hF hw
    go_enter Tryz.func80, Tryz.ntmps80
    go_wp2_with fail
    refine (text_any Q r.f _ p (unhide HF) (unhide HFG) (by omega) (unhide HG)).mono ?_
    rintro e w2 ⟨rfl, n, rfl⟩
    go_wp2_with fail
    go_ret
    exact ⟨rfl, (unhide HB).trans ((bdn _ n).mono (by simp))⟩
end Go.Proofs.YtoclbcffbhldmaaGreatDoor
/- The program's Model.Text. -/
set_option linter.unusedSimpArgs false
namespace Go.Proofs.YtoclbcffbhldmaaGreatDoor
open Go.RowKit Go.Deep

theorem BuilderAt.later {T e : TypeId} {B b : Nat} {p : Value} {bs : List Value} {w w' : World} (h : Lib.BuilderAt T e B b p bs w) (hb : Below w.heap.size w w') : Lib.BuilderAt T e B b p bs w' := by
  obtain ⟨h1, v, h2, h3, h4⟩ := h
  exact ⟨h1, v, (hb.block _ (lt_of_blk h2)).trans h2, owns_later h3 hb, h4⟩
theorem IsBuilder.later {T e : TypeId} {B b : Nat} {bs : List Value} {w w' : World} (h : Lib.IsBuilder T e B b bs w) (hb : Below w.heap.size w w') : Lib.IsBuilder T e B b bs w' :=
  h.imp (fun h => BuilderAt.later h hb) (fun h => BuilderAt.later h hb)
/-- The line of the activities. -/
def mH (al : List Tk) : ByteArray := ⟨#[97, 99, 116, 115, 32]⟩ ++ jnB al ++ ⟨#[59, 10]⟩
/-- The line of a rule. -/
def ruL (r : Rl) : ByteArray := ⟨#[114, 117, 108, 101, 32]⟩ ++ ruT r ++ ⟨#[59, 10]⟩
def mT : ByteArray → List Rl → ByteArray
  | out, [] => out
  | out, r :: l => mT (out ++ ruL r) l
theorem strCells_app (a b : ByteArray) : Lib.strCells a ++ Lib.strCells b = Lib.strCells (a ++ b) := by
  unfold Lib.strCells
  rw [← List.map_append, ByteArray.data_append, Array.toList_append]

set_option maxHeartbeats 4000000 in
set_option maxRecDepth 200000 in
theorem mtext_any (Q : Tk → Prop) (w : World) (al : List Tk) (rs : List Rl) (a1 : Option Addr) (a2 a3 : Nat) (m1 : Option Addr) (m2 m3 : Nat) (cells : List Value) (ha : w.ownsRow 0 9 1 (.slice a1 a2 a3) al.length (strC al)) (hne : al ≠ []) (hal : al.length ≤ 401) (hja : (jnB al).size ≤ 200000)
    (hr : w.ownsRow 0 162 3 (.slice m1 m2 m3) rs.length cells) (hp : BuP w rs cells) (hrs : rs.length ≤ 401) (hg : ∀ r ∈ rs, RlGood Q 401 r ∧ (r.call = true → r.word.s.toList ≠ []) ∧ (ruT r).size ≤ 200000) (hG : GV w) :
    Calls Tryz.prog 56 #[.agg #[.slice a1 a2 a3, .slice m1 m2 m3]] w fun e w' => e = .returned (.string (mT (mH al) rs)) ∧ Below w.heap.size w w' := by
  obtain ⟨hn2, hrow2⟩ := row_buP hr
  have hn2a : m2 ≤ rs.length := by omega
  have hn2b : rs.length ≤ m2 := by omega
  have HROW := hide hrow2
  have HP := hide hp
  have HGD := hide hg
  have HGV := hide hG
  have hbz : Below w.heap.size w ((w.alloc (.cells #[.slice a1 a2 a3, .slice m1 m2 m3] 109)).alloc (.cells #[.pointer none, .slice none 0 0] 154)) := ((Below.refl _ _).alloc (Nat.le_refl _) _).alloc (by simp) _
  have hbx : ((w.alloc (.cells #[.slice a1 a2 a3, .slice m1 m2 m3] 109)).alloc (.cells #[.pointer none, .slice none 0 0] 154)).heap[w.heap.size]? = some (.cells #[.slice a1 a2 a3, .slice m1 m2 m3] 109 (0, 0)) := (Below.heap_alloc _ _ _ (by simp)).trans (blk_alloc _ _)
  have hbu : Lib.IsBuilder 154 5 (w.heap.size + 1) (w.heap.size + 1) (Lib.strCells ⟨#[]⟩) ((w.alloc (.cells #[.slice a1 a2 a3, .slice m1 m2 m3] 109)).alloc (.cells #[.pointer none, .slice none 0 0] 154)) :=
    Or.inl ⟨Nat.le_refl _, .slice none 0 0, blk_alloc' _ _ _ (by simp), World.ownsRow_nil _ _ _ _, by simp [Value.ownBlock]⟩
  have HACT := hide (owns_later ha hbz)
  have HBZ := hide hbz
  have HBX := hide hbx
  have HBU := hide hbu
  have HNE := hide hne
  clear ha hr hp hn2 hrow2 hg hG hbz hbx hbu hne
  go_enter Tryz.func56, Tryz.ntmps56
  go_wp2_with fail
  refine (join_any _ 0 al _ (unhide HACT) (unhide HNE) hal (by omega)).mono ?_
  rintro e w1 ⟨rfl, hb1⟩
  have HB1 := hide ((unhide HBZ).trans (hb1.mono (by simp; omega)))
  have HBX1 := hide ((hb1.block _ (lt_of_blk (unhide HBX))).trans (unhide HBX))
  have HBU1 := hide (IsBuilder.later (unhide HBU) hb1)
  have hz1 : w.heap.size + 1 + 1 ≤ w1.heap.size := by have := hb1.size; simp at this; omega
  have HMH : Hid (mH al = ⟨#[97, 99, 116, 115, 32]⟩ ++ jnB al ++ ⟨#[59, 10]⟩) := rfl
  have hms : (mH al).size ≤ 200007 := by unfold mH; rw [ByteArray.size_append, ByteArray.size_append, show (⟨#[97, 99, 116, 115, 32]⟩ : ByteArray).size = 5 from rfl, show (⟨#[59, 10]⟩ : ByteArray).size = 2 from rfl]; omega
  clear HACT HBZ HBX HBU HNE hb1
  generalize jnB al = J at *
  go_wp2_with fail
  refine (writeString_any (w.heap.size + 1) (w.heap.size + 1) _ _ _ (unhide HBU1) ?_ (by omega)).mono ?_
  · rw [Lib.strCells_length, ← unhide HMH]; show 0 + _ ≤ _; omega
  rintro e w2 ⟨rfl, hu2, hb2⟩
  rw [strCells_app, ← unhide HMH] at hu2
  have e0 : (⟨#[]⟩ : ByteArray) ++ mH al = mH al := ByteArray.empty_append
  rw [e0] at hu2
  have HU2 := hide (show Lib.IsBuilder _ _ _ _ _ _ from Or.inr hu2)
  have HB2 := hide ((unhide HB1).trans (hb2.mono (by omega)))
  have hbx2 := (hb2.block _ (by omega)).trans (unhide HBX1)
  have HBX2 := hide hbx2
  have bc := fun o => cell_of_blk hbx2 o
  have hxl := lt_of_blk hbx2
  have hz2 : w.heap.size + 1 + 1 ≤ w2.heap.size := by have := hb2.size; omega
  clear hu2 hb2 hbx2 HB1 HBX1 HBU1 e0
  generalize hM : mH al = M at *
  have HM := hide hM
  clear hM
  go_wp2_with fail
  go_loopw [15] (fun i wr => ∃ (k : Nat) (t : ByteArray), i = .int .i64 (k : Int) ∧ k ≤ rs.length ∧ t.size ≤ 200007 + k * 200007 ∧ Lib.IsBuilder 154 5 (w.heap.size + 1) (w.heap.size + 1) (Lib.strCells t) wr ∧ Below w.heap.size w wr ∧ w.heap.size + 1 + 1 ≤ wr.heap.size ∧ Hid (mT M rs = mT t (rs.drop k))) (fun i _ => rs.length - (intOf i).toNat)
  case atStart => exact ⟨0, M, rfl, Nat.zero_le _, by omega, unhide HU2, unhide HB2, hz2, rfl⟩
  case round =>
    clear bc
    obtain ⟨k, t, rfl, hkk, hts, hbu, hbel, hzr, HY⟩ := hrel
    have HBU := hide hbu
    by_cases hlt : k < rs.length
    · obtain ⟨r, rr, ht⟩ : ∃ r rr, rs.drop k = r :: rr := by
        cases hd : rs.drop k with
        | nil => have := congrArg List.length hd; simp at this; omega
        | cons r rr => exact ⟨r, rr, rfl⟩
      obtain ⟨g, hno, hle, hcap, cur, hc1, hc2⟩ := unhide HROW (by omega)
      unfold maxLen at hcap
      have hgl0 := lt_of_blk hc1
      obtain ⟨wd, ao, an, ac, p, g0, g1, g2, g3⟩ := (unhide HP).at k ht
      have hcw := (hbel.block _ hgl0).trans hc1
      have d0 := (cell_of_blk hcw (k * 3)).trans (take_at (k := k * 3) (o := 0) hc2 (by omega) g0)
      have d1 := (cell_of_blk hcw (k * 3 + 1)).trans (take_at hc2 (by omega) g1)
      have d2 := (cell_of_blk hcw (k * 3 + 2)).trans (take_at hc2 (by omega) g2)
      have hwl : w.heap.size ≤ wr.heap.size := hbel.size
      have hgl : g < wr.heap.size := by omega
      subst hno
      have HBR := hide (g3.keep (KB.below (w := w) (w' := wr.alloc (.cells #[.string wd, .slice ao an ac, .pointer p] 162)) (hbel.alloc hwl _)))
      have hmem : r ∈ rs := List.mem_of_mem_drop (by rw [ht]; exact List.mem_cons_self)
      obtain ⟨hg1, hg2, hg3⟩ := unhide HGD r hmem
      have HG1 := hide hg1
      have HG2 := hide hg2
      have HST : Hid (mT t (rs.drop k) = mT (t ++ ruL r) (rs.drop (k + 1))) := by show _ = _; rw [ht, dropTl ht, mT]
      have HGW := hide ((unhide HGV).later (hbel.alloc hwl (.cells #[.string wd, .slice ao an ac, .pointer p] 162)))
      have hkn : (k : Int) < (m2 : Int) := by omega
      have HBEL := hide hbel
      clear hbel ht hc1 hc2 hcw cur g0 g1 g2 g3 hmem hg1 hg2 hbu
      go_wp2_with fail
      refine (rtext_any Q _ r wd ao an ac p (unhide HBR) (unhide HG1) (unhide HG2) hg3 (unhide HGW)).mono ?_
      rintro e w3 ⟨rfl, hb3⟩
      have HB3 := hide (((unhide HBEL).alloc hwl _).trans (hb3.mono (by simp; omega)))
      have HBU3 := hide (IsBuilder.later (IsBuilder.later (unhide HBU) ((Below.refl _ _).alloc (Nat.le_refl _) _)) hb3)
      have hz3 : w.heap.size + 1 + 1 ≤ w3.heap.size := by have := hb3.size; simp at this; omega
      have HRL : Hid (ruL r = ⟨#[114, 117, 108, 101, 32]⟩ ++ ruT r ++ ⟨#[59, 10]⟩) := rfl
      have hrl : (ruL r).size ≤ 200007 := by unfold ruL; rw [ByteArray.size_append, ByteArray.size_append, show (⟨#[114, 117, 108, 101, 32]⟩ : ByteArray).size = 5 from rfl, show (⟨#[59, 10]⟩ : ByteArray).size = 2 from rfl]; omega
      have hts2 : (t ++ ruL r).size ≤ 200007 + (k + 1) * 200007 := by rw [ByteArray.size_append]; omega
      clear hb3 HBU HBEL HBR HGW HG1 HG2 d0 d1 d2
      generalize ruT r = R at *
      go_wp2_with fail
      refine (writeString_any (w.heap.size + 1) (w.heap.size + 1) _ _ _ (unhide HBU3) ?_ (by omega)).mono ?_
      · rw [Lib.strCells_length, ← unhide HRL]; omega
      rintro e w4 ⟨rfl, hu4, hb4⟩
      rw [strCells_app, ← unhide HRL] at hu4
      have HU4 := hide (show Lib.IsBuilder _ _ _ _ _ _ from Or.inr hu4)
      have HB4 := hide ((unhide HB3).trans (hb4.mono (by omega)))
      have hz4 : w.heap.size + 1 + 1 ≤ w4.heap.size := by have := hb4.size; omega
      clear hu4 hb4
      go_wp2_with fail
      go_roundw
      case rel => exact ⟨k + 1, t ++ ruL r, by go_num, by omega, hts2, unhide HU4, unhide HB4, hz4, by show _ = _; rw [unhide HY, unhide HST]⟩
      case measure => simp [intOf]; omega
    · have hke : rs.length ≤ k := by omega
      have hkn : ¬ (k : Int) < (m2 : Int) := by omega
      have HE : Hid (mT M rs = t) := by show _ = _; rw [unhide HY, List.drop_eq_nil_of_le hke, mT]
      have HBEL := hide hbel
      clear hbel hbu
      go_wp2_with fail
      refine (Tryz.Builder_String_any (w.heap.size + 1) (w.heap.size + 1) t.data.toList _ (unhide HBU) (by omega)).mono ?_
      rintro e w5 ⟨rfl, hb5⟩
      go_wp2_with fail
      go_ret
      refine ⟨?_, (unhide HBEL).trans (hb5.mono (by omega))⟩
      rw [unhide HM, unhide HE]
      rfl
end Go.Proofs.YtoclbcffbhldmaaGreatDoor
