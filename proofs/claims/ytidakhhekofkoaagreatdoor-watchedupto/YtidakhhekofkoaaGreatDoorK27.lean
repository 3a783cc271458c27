/- The program's strings.Builder: copyCheck and WriteString. -/
import Derived.Test.YtidakhhekofkoaaGreatDoorK26
import Derived.Test.YtidakhhekofkoaaGreatDoorK07
import Derived.Test.YtidakhhekofkoaaGreatDoorK17
import Derived.Test.YtidakhhekofkoaaGreatDoorK20
import Derived.Test.YtidakhhekofkoaaGreatDoorK24
set_option linter.unusedSimpArgs false
open List renaming setIfInBounds_toArray → zA, set_cons_zero → zB, set_cons_succ → zC, getElem_toArray → zD, getElem_cons_succ → zE, getElem_cons_zero → zF
namespace Go.Proofs.YtidakhhekofkoaaGreatDoor
open Go.RowKit Go.Deep
theorem sizeBld : (Tryz.prog.info? 136).map (·.size) = some 2 := by kernel_rfl
theorem liesBld : liesAt Tryz.prog Tryz.prog.depth 136 (2 / Tryz.prog.cellsOf 136) 0 136 1 = true := by kernel_rfl
theorem infoByte : (Tryz.prog.info? 5).map (fun i => (i.zero, i.size, i.bytes)) = some (some (.int .u8 0), 1, 1) := by kernel_rfl
set_option maxHeartbeats 1000000 in
set_option maxRecDepth 100000 in
theorem copyCheck_used (b : Nat) (w : World) (h0 : w.cell? ⟨b, 0, none⟩ = some (.pointer (some ⟨b, 0, none⟩))) :
  Calls Tryz.prog 120 #[.pointer (some ⟨b, 0, none⟩)] w fun e w' => e = .returned (.tuple #[]) ∧ w' = w := by
 obtain ⟨j, hj, _⟩ := Option.map_eq_some_iff.1 sizeBld
 go_enter Tryz.func120, Tryz.ntmps120
 go_wp2
 rw [Lib.run_neq_ptr_same w _ Tryz.underlying134 hj]
 go_wp2
 go_end0
 exact ⟨rfl, rfl⟩
set_option maxHeartbeats 1000000 in
set_option maxRecDepth 100000 in
theorem copyCheck_fresh (b : Nat) (w : World) (h0 : w.cell? ⟨b, 0, none⟩ = some (.pointer none)) (hsh : w.shape? b = some (136, 2)) (hfz : w.frozen? ⟨b, 0, none⟩ = false) :
  Calls Tryz.prog 120 #[.pointer (some ⟨b, 0, none⟩)] w fun e w' => e = .returned (.tuple #[]) ∧ w' = w.setCell ⟨b, 0, none⟩ (.pointer (some ⟨b, 0, none⟩)) := by
 obtain ⟨j, hj, hjs⟩ := Option.map_eq_some_iff.1 sizeBld
 go_enter Tryz.func120, Tryz.ntmps120
 go_wp2
 rw [Lib.run_to_unsafe w ⟨b, 0, none⟩ Tryz.underlying134 Tryz.underlying271 hj (by rw [hjs]; decide) hsh (Nat.zero_lt_succ 1)]
 simp only [Result.andThen]
 rw [Oper.upon_value]
 go_wp2
 rw [run_callFunc_extern Tryz.func164 (by kernel_rfl) (by kernel_rfl) (by kernel_rfl) (e := Extern.AbiNoEscape.same) (by kernel_rfl)]
 rw [Lib.run_noEscape]
 simp only [Result.andThen]
 rw [Oper.upon_value]
 go_wp2
 rw [Lib.run_from_unsafe w ⟨b, 0, none⟩ Tryz.underlying271 Tryz.underlying134 hj hsh liesBld]
 simp only [Result.andThen]
 rw [Oper.upon_value]
 go_wp2
 go_end0
 exact ⟨rfl, rfl⟩
theorem copyCheck_any (B b : Nat) (bs : List Value) (w : World) (h : Lib.IsBuilder 136 5 B b bs w) :
  Calls Tryz.prog 120 #[.pointer (some ⟨b, 0, none⟩)] w fun e w' => e = .returned (.tuple #[]) ∧ (Lib.BuilderAt 136 5 B b (.pointer (some ⟨b, 0, none⟩)) bs w' ∧ Below B w w') := by
 rcases h with h | h
 ·refine (copyCheck_fresh b w h.cell0 h.shape h.frozen0).mono ?_
  rintro e w' ⟨rfl, rfl⟩
  exact ⟨rfl, h.used _, (Below.refl B w).setCell (p := ⟨b, 0, none⟩) h.1 _⟩
 ·refine (copyCheck_used b w h.cell0).mono ?_
  rintro e w' ⟨rfl, rfl⟩
  exact ⟨rfl, h, Below.refl B _⟩
set_option maxHeartbeats 2000000 in
set_option maxRecDepth 100000 in
theorem writeString_any (B b : Nat) (bs : List Value) (s : ByteArray) (w : World) (h : Lib.IsBuilder 136 5 B b bs w) (hlen : bs.length + s.size ≤ 140737488355328) (hBw : B ≤ w.heap.size) :
  Calls Tryz.prog 73 #[.pointer (some ⟨b, 0, none⟩), .string s] w fun e w' => e = .returned (.tuple #[.int .i64 s.size, .nilIface]) ∧ (Lib.BuilderAt 136 5 B b (.pointer (some ⟨b, 0, none⟩)) (bs ++ Lib.strCells s) w' ∧ Below B w w') := by
 obtain ⟨i0, hi, hz0, hz1, hz2⟩ := info_parts infoByte
 go_enter Tryz.func73, Tryz.ntmps73
 go_wp2_with fail
 refine (copyCheck_any B b bs _ h).mono ?_
 rintro e w1 ⟨rfl, h1, hb1⟩
 obtain ⟨hB, v, hbk, hown, hne⟩ := h1
 have c0 : w1.cell? ⟨b, 0, none⟩ = some (.pointer (some ⟨b, 0, none⟩)) := by rw [Lib.cell_of_heap hbk]; rfl
 have c1 : w1.cell? ⟨b, 1, none⟩ = some v := by rw [Lib.cell_of_heap hbk]; rfl
 go_wp2_with (at_builtin; refine Lib.wpList_append_own_string _ rfl _ _ 51 9 rfl B 5 i0 Tryz.underlying51 Tryz.underlying9 hi hz0 hz1 hz2 _ _ _ rfl hown s rfl ?c3 ?c4 ?c5 ?_)
 case c3 => unfold maxLen; omega
 case c4 => omega
 case c5 => have := hb1.size; omega
 intro v' w2 hown' hgrow _
 have hlt : b < w1.heap.size := lt_of_blk hbk
 have hb2 : w2.heap[b]? = some (.cells #[.pointer (some ⟨b, 0, none⟩), v] 136 (0, 0)) := by
  rw [hgrow.block b hlt (fun e => hne e.symm)]
  exact hbk
 have d0 : w2.cell? ⟨b, 0, none⟩ = some (.pointer (some ⟨b, 0, none⟩)) := by rw [Lib.cell_of_heap hb2]; rfl
 have d1 : w2.cell? ⟨b, 1, none⟩ = some v := by rw [Lib.cell_of_heap hb2]; rfl
 have f1 : w2.frozen? ⟨b, 1, none⟩ = false := Lib.frozen_of_heap hb2 1
 obtain ⟨ao, n', cap, rfl⟩ : ∃ ao n' cap, v' = .slice ao n' cap := row_slice hown'
 have hol := own_lt hown
 go_wp2
 go_ret2
 refine ⟨rfl, ⟨hB, .slice ao n' cap, blk_set hb2 1 _, owns_keep ?_ (grown_set _ _ _ _) (Or.inr (fun e => own_ty hown' e hb2 (by decide))), fun e => own_ty hown' e hb2 (by decide)⟩, ?_⟩
 ·rw [List.length_append, Lib.strCells_length]; exact hown'
 ·exact (hb1.grown hgrow (by have := hb1.size; omega) (fun k hk => (hol k hk).1)).setCell (p := ⟨b, 1, none⟩) hB _
theorem row_buP {w : World} {no : Option Addr} {nn nc n : Nat} {cs : List Value} (h : w.ownsRow 0 144 3 (.slice no nn nc) n cs) : nn = n ∧ (n ≠ 0 → ∃ g, no = some ⟨g, 0, none⟩ ∧ n ≤ nc ∧ nc ≤ maxLen ∧ ∃ cur, w.heap[g]? = some (.cells cur 144 (0, 0)) ∧ cur.toList.take (n * 3) = cs) := by
 obtain ⟨_, h2 | ⟨g, cap, cur, hv, _, hh, hle, hcap, _, htake⟩⟩ := h
 ·obtain ⟨h3, h4⟩ := h2
  cases h3
  exact ⟨h4.symm, fun hne => absurd h4 hne⟩
 ·cases hv
  exact ⟨rfl, fun _ => ⟨g, rfl, hle, hcap, cur, hh, htake⟩⟩
theorem nodesL_snoc : ∀ (l : List Rl) (r : Rl), nodesL (l ++ [r]) = nodesL l + sizeF (ruleF r)
 | [], r => by simp [nodesL]
 | x :: l, r => by rw [List.cons_append, nodesL, nodesL, nodesL_snoc l r]; omega
set_option maxHeartbeats 2000000 in
set_option maxRecDepth 100000 in
theorem mnodes_any (w : World) (rs : List Rl) (a1 : Option Addr) (a2 a3 : Nat) (m1 : Option Addr) (m2 m3 : Nat) (cells : List Value) (hr : w.ownsRow 0 144 3 (.slice m1 m2 m3) rs.length cells) (hp : BuP w rs cells) (hrs : rs.length ≤ 401) (hsz : ∀ r ∈ rs, sizeF (ruleF r) ≤ 100000) :
  Calls Tryz.prog 72 #[.agg #[.slice a1 a2 a3, .slice m1 m2 m3]] w fun e w' => e = .returned (.int .i64 (nodesL rs)) ∧ Below w.heap.size w w' := by
 obtain ⟨hn2, hrow2⟩ := row_buP hr
 have hn2a : m2 ≤ rs.length := by omega
 have hn2b : rs.length ≤ m2 := by omega
 have HROW := hide hrow2
 have HP := hide hp
 have HSZ := hide hsz
 clear hr hp hn2 hrow2 hsz
 go_enter Tryz.func72, Tryz.ntmps72
 go_wp2_with fail
 go_loopw [3, 9] (fun v i wr => ∃ k : Nat, i = .int .i64 (k : Int) ∧ v = .int .i64 (nodesL (rs.take k)) ∧ k ≤ rs.length ∧ Below w.heap.size w wr) (fun _ i _ => rs.length - (intOf i).toNat)
 case atStart => exact ⟨0, rfl, rfl, Nat.zero_le _, (Below.refl _ _).alloc (Nat.le_refl _) _⟩
 case round =>
  obtain ⟨k, rfl, rfl, hkk, hbel⟩ := hrel
  by_cases hlt : k < rs.length
  ·obtain ⟨r, rr, ht⟩ : ∃ r rr, rs.drop k = r :: rr := by
    cases hd : rs.drop k with
    | nil => have := congrArg List.length hd; simp at this; omega
    | cons r rr => exact ⟨r, rr, rfl⟩
   obtain ⟨g, hno, hle, hcap, cur, hc1, hc2⟩ := unhide HROW (by omega)
   unfold maxLen at hcap
   have hgl0 := lt_of_blk hc1
   obtain ⟨wd, ao, an, ac, p, g0, g1, g2, g3⟩ := (unhide HP).at k ht
   have hcw := (hbel.block _ hgl0).trans hc1
   have d0 := (cell_of_blk hcw (k * 3)).trans (take_at (k := k * 3) (o := 0) hc2 (by omega) g0)
   have d1 := (cell_of_blk hcw (k * 3 + 1)).trans (take_at hc2 (by omega) g1)
   have d2 := (cell_of_blk hcw (k * 3 + 2)).trans (take_at hc2 (by omega) g2)
   have hwl : w.heap.size ≤ wr.heap.size := hbel.size
   have hgl : g < wr.heap.size := by omega
   subst hno
   have HIG := hide (g3.keep (KB.below (w := w) (w' := wr.alloc (.cells #[.string wd, .slice ao an ac, .pointer p] 144)) (hbel.alloc hwl _))).1
   have hmem : r ∈ rs := List.mem_of_mem_drop (by rw [ht]; exact List.mem_cons_self)
   have hs1 := unhide HSZ r hmem
   have hs2 : nodesL (rs.take k) ≤ 40100000 := by
    have h1 := nodesL_le 100000 (rs.take k) (fun x hx => unhide HSZ x (List.mem_of_mem_take hx))
    have h2 : (rs.take k).length ≤ 401 := by rw [List.length_take]; omega
    exact Nat.le_trans h1 (Nat.mul_le_mul_right 100000 h2)
   have HTS := hide (nodesL_snoc (rs.take k) r)
   have HTK := hide (take_snoc ht)
   have hkn : (k : Int) < (m2 : Int) := by omega
   have HBEL := hide hbel
   clear hbel ht hc1 hc2 hcw cur g0 g1 g2 g3 hmem
   go_wp2_with fail
   refine (nodes_any (ruleF r) _ p (unhide HIG) hs1).mono ?_
   rintro e w2 ⟨rfl, n, rfl⟩
   generalize hT : nodesL (rs.take k) = T at *
   generalize hZ : sizeF (ruleF r) = Z at *
   go_wp2_with fail
   go_roundw
   case rel => exact ⟨k + 1, by go_num, by rw [unhide HTK, unhide HTS]; go_num, by omega, ((unhide HBEL).alloc hwl _).trans ((bdn _ n).mono (by simp; omega))⟩
   case measure => simp [intOf]; omega
  ·have hke : rs.length ≤ k := by omega
   have hkn : ¬ (k : Int) < (m2 : Int) := by omega
   rw [List.take_of_length_le hke]
   go_wp2_with fail
   go_ret
   exact ⟨rfl, hbel⟩
def jnB (L : List Tk) : ByteArray := ⟨(Lib.join ((L.map (·.s)).map (·.data.toList)) (⟨#[44, 32]⟩ : ByteArray).data.toList).toArray⟩
def ruT (r : Rl) : ByteArray := if r.call = true then r.word.s ++ ⟨#[40]⟩ ++ jnB r.args ++ ⟨#[41]⟩ else txtF r.f
theorem join_any (w : World) (B : Nat) (L : List Tk) (v : Value) (h : w.ownsRow B 9 1 v L.length (strC L)) (hne : L ≠ []) (hl : L.length ≤ 401) (hlen : (jnB L).size ≤ 1000000) :
  Calls Tryz.prog 74 #[v, .string ⟨#[44, 32]⟩] w fun e w' => e = .returned (.string (jnB L)) ∧ Below w.heap.size w w' := by
 rcases row_str h with ⟨_, h2⟩ | ⟨g, cap, rfl, hg, hcap, _, hc⟩
 ·exact absurd h2 hne
 have hs : (Lib.join ((L.map (·.s)).map (·.data.toList)) (⟨#[44, 32]⟩ : ByteArray).data.toList).length = (jnB L).size := by simp [jnB, ByteArray.size]
 have := Tryz.strings_Join g 0 cap (L.map (·.s)) ⟨#[44, 32]⟩ w (fun j x hj => by
  rw [List.getElem?_map] at hj
  obtain ⟨t, ht, rfl⟩ := Option.map_eq_some_iff.1 hj
  have hd : L.drop j = t :: L.drop (j + 1) := by
   obtain ⟨hlt, he⟩ := List.getElem?_eq_some_iff.1 ht
   rw [List.drop_eq_getElem_cons hlt, he]
  rw [Nat.zero_add]
  exact hc j t _ hd) hg (by rw [List.length_map]; omega) (by rw [List.length_map]; exact hcap) (by rw [hs]; omega)
 rw [List.length_map] at this
 exact this
set_option maxHeartbeats 2000000 in
set_option maxRecDepth 100000 in
theorem rtext_any (Q : Tk → Prop) (w : World) (r : Rl) (wd : ByteArray) (ao : Option Addr) (an ac : Nat) (p : Option Addr) (h : BuR w r wd ao an ac p) (hg : RlGood Q 401 r) (hw : r.call = true → r.word.s.toList ≠ []) (hz : (ruT r).size ≤ 200000) (hG : GVF w) :
  Calls Tryz.prog 75 #[.agg #[.string wd, .slice ao an ac, .pointer p]] w fun e w' => e = .returned (.string (ruT r)) ∧ Below w.heap.size w w' := by
 have hbz : Below w.heap.size w (w.alloc (.cells #[.string wd, .slice ao an ac, .pointer p] 144)) := (Below.refl _ _).alloc (Nat.le_refl _) _
 obtain ⟨hf, hx⟩ := h
 rcases hg with ⟨hc, -, -, -, x, -, -, hargs⟩ | ⟨hc, hfg, -, -⟩
 ·rw [if_pos hc] at hx
  obtain ⟨rfl, hown⟩ := hx
  have hne : r.args ≠ [] := by rcases hargs with e | ⟨y, _, _, e⟩ <;> rw [e] <;> simp
  have hal : r.args.length ≤ 2 := by rcases hargs with e | ⟨y, _, _, e⟩ <;> rw [e] <;> simp
  have hR : ruT r = r.word.s ++ ⟨#[40]⟩ ++ jnB r.args ++ ⟨#[41]⟩ := by unfold ruT; rw [if_pos hc]
  have hz1 : r.word.s.size ≤ 200000 := by rw [hR] at hz; simp only [ByteArray.size_append] at hz; omega
  have hz2 : (jnB r.args).size ≤ 200000 := by rw [hR] at hz; simp only [ByteArray.size_append] at hz; omega
  rw [hR]
  have hw1 := hw hc
  have hwn : r.word.s.toList.isEmpty = false := by cases h : r.word.s.toList with | nil => exact absurd h hw1 | cons a l => rfl
  have HOWN := hide (owns_later hown hbz)
  have HB := hide hbz
  have HNE := hide hne
  have hblk : (w.alloc (.cells #[.string r.word.s, .slice ao an ac, .pointer p] 144)).heap[w.heap.size]? = some (.cells #[.string r.word.s, .slice ao an ac, .pointer p] 144 (0, 0)) := blk_alloc _ _
  have HBLK := hide hblk
  clear hargs hown hne hbz hw1 hw hR hz hf hc hG hblk
  have hjc : ∀ w1 : World, Below (w.heap.size + 1) (w.alloc (.cells #[.string r.word.s, .slice ao an ac, .pointer p] 144)) w1 → Hid (Calls Tryz.prog 74 #[.slice ao an ac, .string ⟨#[44, 32]⟩] w1 fun e w' => e = .returned (.string (jnB r.args)) ∧ Below w1.heap.size w1 w') := fun w1 h1 =>
   join_any w1 0 r.args _ (owns_later (unhide HOWN) (by simpa using h1)) (unhide HNE) (by omega) (by omega)
  generalize r.word.s = wd at *
  generalize jnB r.args = J at *
  clear HOWN HNE hal
  go_enter Tryz.func75, Tryz.ntmps75
  go_wp2_with fail
  refine wp_region_held_drew (S := fun w' => w'.cell? ⟨w.heap.size, 0, none⟩ = some (.string wd) ∧ w'.cell? ⟨w.heap.size, 1, none⟩ = some (.slice ao an ac)) (by kernel_rfl) ?_ (fun hHeld => ?_)
  ·exact ⟨cell_of_blk (unhide HBLK) 0, cell_of_blk (unhide HBLK) 1⟩
  refine wpAnyH_take (i := 0) (v := .pointer (some ⟨w.heap.size, 0, none⟩)) rfl (by kernel_rfl) (by kernel_rfl) (by kernel_rfl) (fun _ _ _ h => h) (Or.inl ⟨by kernel_rfl, fun w hw => by obtain ⟨s0, s1⟩ := hw; go_simp <;> omega⟩) hHeld ?_
  try simp only [Act.put, zA, zB, zC, zD, zE, zF]
  refine wpAnyH_take (i := 1) (v := .string wd) rfl (by kernel_rfl) (by kernel_rfl) (by kernel_rfl) (fun _ _ _ h => h) (Or.inl ⟨by kernel_rfl, fun w hw => by obtain ⟨s0, s1⟩ := hw; go_simp <;> omega⟩) hHeld ?_
  try simp only [Act.put, zA, zB, zC, zD, zE, zF]
  refine wpAnyH_take (i := 2) (v := .string (wd ++ ⟨#[40]⟩)) rfl (by kernel_rfl) (by kernel_rfl) (by kernel_rfl) (fun _ _ _ h => h) (Or.inl ⟨by kernel_rfl, fun w hw => by obtain ⟨s0, s1⟩ := hw; go_simp <;> omega⟩) hHeld ?_
  try simp only [Act.put, zA, zB, zC, zD, zE, zF]
  refine wpAnyH_take (i := 3) (v := .pointer (some ⟨w.heap.size, 1, none⟩)) rfl (by kernel_rfl) (by kernel_rfl) (by kernel_rfl) (fun _ _ _ h => h) (Or.inl ⟨by kernel_rfl, fun w hw => by obtain ⟨s0, s1⟩ := hw; go_simp <;> omega⟩) hHeld ?_
  try simp only [Act.put, zA, zB, zC, zD, zE, zF]
  refine wpAnyH_take (i := 4) (v := .slice ao an ac) rfl (by kernel_rfl) (by kernel_rfl) (by kernel_rfl) (fun _ _ _ h => h) (Or.inl ⟨by kernel_rfl, fun w hw => by obtain ⟨s0, s1⟩ := hw; go_simp <;> omega⟩) hHeld ?_
  try simp only [Act.put, zA, zB, zC, zD, zE, zF]
  refine wpAnyH_ready (rs := [5]) (by kernel_rfl) (by simp) ?_
  refine AllReadyH.cons rfl (fun K hK => ?_) AllReadyH.nil
  go_simp
  go_wp2_with (go_at_call 74; refine (unhide (hjc _ (Below.refl _ _).drew)).mono ?_; rintro e w5 ⟨rfl, hb5⟩)
  have hs5 : w5.cell? ⟨w.heap.size, 0, none⟩ = some (.string wd) ∧ w5.cell? ⟨w.heap.size, 1, none⟩ = some (.slice ao an ac) :=
   ⟨(bcell3 hb5 _ _ (by simp)).trans (cell_of_blk (unhide HBLK) 0), (bcell3 hb5 _ _ (by simp)).trans (cell_of_blk (unhide HBLK) 1)⟩
  refine hK.out _ _ hs5 (fun hHeld => ?_)
  clear hK K hs5
  refine wpAnyH_take (i := 6) (v := .string (wd ++ ⟨#[40]⟩ ++ J)) rfl (by kernel_rfl) (by kernel_rfl) (by kernel_rfl) (fun _ _ _ h => h) (Or.inl ⟨by kernel_rfl, fun w hw => by obtain ⟨s0, s1⟩ := hw; go_simp <;> omega⟩) hHeld ?_
  try simp only [Act.put, zA, zB, zC, zD, zE, zF]
  refine wpAnyH_take (i := 7) (v := .string (wd ++ ⟨#[40]⟩ ++ J ++ ⟨#[41]⟩)) rfl (by kernel_rfl) (by kernel_rfl) (by kernel_rfl) (fun _ _ _ h => h) (Or.inl ⟨by kernel_rfl, fun w hw => by obtain ⟨s0, s1⟩ := hw; go_simp <;> omega⟩) hHeld ?_
  try simp only [Act.put, zA, zB, zC, zD, zE, zF]
  refine wpAnyH_take (i := 8) (v := .string (wd ++ ⟨#[40]⟩ ++ J ++ ⟨#[41]⟩)) rfl (by kernel_rfl) (by kernel_rfl) (by kernel_rfl) (fun _ _ _ h => h) (Or.inl ⟨by kernel_rfl, fun w hw => by obtain ⟨s0, s1⟩ := hw; go_simp <;> omega⟩) hHeld ?_
  try simp only [Act.put, zA, zB, zC, zD, zE, zF]
  refine wpAnyH_done (by kernel_rfl) ?_ _
  clear hHeld
  go_wp2_with fail
  go_ret
  exact ⟨rfl, ((unhide HB).drew).trans (hb5.mono (by simp))⟩
 ·rw [if_neg (by rw [hc]; decide)] at hx
  subst hx
  have hR : ruT r = txtF r.f := by unfold ruT; rw [if_neg (by rw [hc]; decide)]
  have hF : ruleF r = r.f := by unfold ruleF; rw [if_neg (by rw [hc]; decide)]
  rw [hR] at hz
  rw [hF] at hf
  rw [hR]
  have HF := hide (hf.later hbz)
  have HG := hide (hG.later hbz)
  have HFG := hide hfg
  have HB := hide hbz
  clear hf hfg hG hbz hR hF hw
  go_enter Tryz.func75, Tryz.ntmps75
  go_wp2_with fail
  refine (text_any Q r.f _ p (unhide HF) (unhide HFG) (by omega) (unhide HG)).mono ?_
  rintro e w2 ⟨rfl, n, rfl⟩
  go_wp2_with fail
  go_ret
  exact ⟨rfl, (unhide HB).trans ((bdn _ n).mono (by simp))⟩
theorem BuilderAt.later {T e : TypeId} {B b : Nat} {p : Value} {bs : List Value} {w w' : World} (h : Lib.BuilderAt T e B b p bs w) (hb : Below w.heap.size w w') : Lib.BuilderAt T e B b p bs w' := by
 obtain ⟨h1, v, h2, h3, h4⟩ := h
 exact ⟨h1, v, (hb.block _ (lt_of_blk h2)).trans h2, owns_later h3 hb, h4⟩
theorem IsBuilder.later {T e : TypeId} {B b : Nat} {bs : List Value} {w w' : World} (h : Lib.IsBuilder T e B b bs w) (hb : Below w.heap.size w w') : Lib.IsBuilder T e B b bs w' :=
 h.imp (fun h => BuilderAt.later h hb) (fun h => BuilderAt.later h hb)
def mH (al : List Tk) : ByteArray := ⟨#[97, 99, 116, 115, 32]⟩ ++ jnB al ++ ⟨#[59, 10]⟩
def ruL (r : Rl) : ByteArray := ⟨#[114, 117, 108, 101, 32]⟩ ++ ruT r ++ ⟨#[59, 10]⟩
def mT : ByteArray → List Rl → ByteArray
 | out, [] => out
 | out, r :: l => mT (out ++ ruL r) l
theorem strCells_app (a b : ByteArray) : Lib.strCells a ++ Lib.strCells b = Lib.strCells (a ++ b) := by
 unfold Lib.strCells
 rw [← List.map_append, ByteArray.data_append, Array.toList_append]
set_option maxHeartbeats 4000000 in
set_option maxRecDepth 200000 in
theorem mtext_any (Q : Tk → Prop) (w : World) (al : List Tk) (rs : List Rl) (a1 : Option Addr) (a2 a3 : Nat) (m1 : Option Addr) (m2 m3 : Nat) (cells : List Value) (ha : w.ownsRow 0 9 1 (.slice a1 a2 a3) al.length (strC al)) (hne : al ≠ []) (hal : al.length ≤ 401) (hja : (jnB al).size ≤ 200000)
  (hr : w.ownsRow 0 144 3 (.slice m1 m2 m3) rs.length cells) (hp : BuP w rs cells) (hrs : rs.length ≤ 401) (hg : ∀ r ∈ rs, RlGood Q 401 r ∧ (r.call = true → r.word.s.toList ≠ []) ∧ (ruT r).size ≤ 200000) (hG : GVF w) :
  Calls Tryz.prog 40 #[.agg #[.slice a1 a2 a3, .slice m1 m2 m3]] w fun e w' => e = .returned (.string (mT (mH al) rs)) ∧ Below w.heap.size w w' := by
 obtain ⟨hn2, hrow2⟩ := row_buP hr
 have hn2a : m2 ≤ rs.length := by omega
 have hn2b : rs.length ≤ m2 := by omega
 have HROW := hide hrow2
 have HP := hide hp
 have HGD := hide hg
 have HGV := hide hG
 have hbz : Below w.heap.size w ((w.alloc (.cells #[.slice a1 a2 a3, .slice m1 m2 m3] 78)).alloc (.cells #[.pointer none, .slice none 0 0] 136)) := ((Below.refl _ _).alloc (Nat.le_refl _) _).alloc (by simp) _
 have hbx : ((w.alloc (.cells #[.slice a1 a2 a3, .slice m1 m2 m3] 78)).alloc (.cells #[.pointer none, .slice none 0 0] 136)).heap[w.heap.size]? = some (.cells #[.slice a1 a2 a3, .slice m1 m2 m3] 78 (0, 0)) := (Below.heap_alloc _ _ _ (by simp)).trans (blk_alloc _ _)
 have hbu : Lib.IsBuilder 136 5 (w.heap.size + 1) (w.heap.size + 1) (Lib.strCells ⟨#[]⟩) ((w.alloc (.cells #[.slice a1 a2 a3, .slice m1 m2 m3] 78)).alloc (.cells #[.pointer none, .slice none 0 0] 136)) :=
  Or.inl ⟨Nat.le_refl _, .slice none 0 0, blk_alloc' _ _ _ (by simp), World.ownsRow_nil _ _ _ _, by simp [Value.ownBlock]⟩
 have HACT := hide (owns_later ha hbz)
 have HBZ := hide hbz
 have HBX := hide hbx
 have HBU := hide hbu
 have HNE := hide hne
 clear ha hr hp hn2 hrow2 hg hG hbz hbx hbu hne
 go_enter Tryz.func40, Tryz.ntmps40
 go_wp2_with fail
 refine (join_any _ 0 al _ (unhide HACT) (unhide HNE) hal (by omega)).mono ?_
 rintro e w1 ⟨rfl, hb1⟩
 have HB1 := hide ((unhide HBZ).trans (hb1.mono (by simp; omega)))
 have HBX1 := hide ((hb1.block _ (lt_of_blk (unhide HBX))).trans (unhide HBX))
 have HBU1 := hide (IsBuilder.later (unhide HBU) hb1)
 have hz1 : w.heap.size + 1 + 1 ≤ w1.heap.size := by have := hb1.size; simp at this; omega
 have HMH : Hid (mH al = ⟨#[97, 99, 116, 115, 32]⟩ ++ jnB al ++ ⟨#[59, 10]⟩) := rfl
 have hms : (mH al).size ≤ 200007 := by unfold mH; rw [ByteArray.size_append, ByteArray.size_append, show (⟨#[97, 99, 116, 115, 32]⟩ : ByteArray).size = 5 from rfl, show (⟨#[59, 10]⟩ : ByteArray).size = 2 from rfl]; omega
 clear HACT HBZ HBX HBU HNE hb1
 generalize jnB al = J at *
 go_wp2_with fail
 refine (writeString_any (w.heap.size + 1) (w.heap.size + 1) _ _ _ (unhide HBU1) ?_ (by omega)).mono ?_
 ·rw [Lib.strCells_length, ← unhide HMH]; show 0 + _ ≤ _; omega
 rintro e w2 ⟨rfl, hu2, hb2⟩
 rw [strCells_app, ← unhide HMH] at hu2
 have e0 : (⟨#[]⟩ : ByteArray) ++ mH al = mH al := ByteArray.empty_append
 rw [e0] at hu2
 have HU2 := hide (show Lib.IsBuilder _ _ _ _ _ _ from Or.inr hu2)
 have HB2 := hide ((unhide HB1).trans (hb2.mono (by omega)))
 have hbx2 := (hb2.block _ (by omega)).trans (unhide HBX1)
 have HBX2 := hide hbx2
 have bc := fun o => cell_of_blk hbx2 o
 have hxl := lt_of_blk hbx2
 have hz2 : w.heap.size + 1 + 1 ≤ w2.heap.size := by have := hb2.size; omega
 clear hu2 hb2 hbx2 HB1 HBX1 HBU1 e0
 generalize hM : mH al = M at *
 have HM := hide hM
 clear hM
 go_wp2_with fail
 go_loopw [15] (fun i wr => ∃ (k : Nat) (t : ByteArray), i = .int .i64 (k : Int) ∧ k ≤ rs.length ∧ t.size ≤ 200007 + k * 200007 ∧ Lib.IsBuilder 136 5 (w.heap.size + 1) (w.heap.size + 1) (Lib.strCells t) wr ∧ Below w.heap.size w wr ∧ w.heap.size + 1 + 1 ≤ wr.heap.size ∧ Hid (mT M rs = mT t (rs.drop k))) (fun i _ => rs.length - (intOf i).toNat)
 case atStart => exact ⟨0, M, rfl, Nat.zero_le _, by omega, unhide HU2, unhide HB2, hz2, rfl⟩
 case round =>
  clear bc
  obtain ⟨k, t, rfl, hkk, hts, hbu, hbel, hzr, HY⟩ := hrel
  have HBU := hide hbu
  by_cases hlt : k < rs.length
  ·obtain ⟨r, rr, ht⟩ : ∃ r rr, rs.drop k = r :: rr := by
    cases hd : rs.drop k with
    | nil => have := congrArg List.length hd; simp at this; omega
    | cons r rr => exact ⟨r, rr, rfl⟩
   obtain ⟨g, hno, hle, hcap, cur, hc1, hc2⟩ := unhide HROW (by omega)
   unfold maxLen at hcap
   have hgl0 := lt_of_blk hc1
   obtain ⟨wd, ao, an, ac, p, g0, g1, g2, g3⟩ := (unhide HP).at k ht
   have hcw := (hbel.block _ hgl0).trans hc1
   have d0 := (cell_of_blk hcw (k * 3)).trans (take_at (k := k * 3) (o := 0) hc2 (by omega) g0)
   have d1 := (cell_of_blk hcw (k * 3 + 1)).trans (take_at hc2 (by omega) g1)
   have d2 := (cell_of_blk hcw (k * 3 + 2)).trans (take_at hc2 (by omega) g2)
   have hwl : w.heap.size ≤ wr.heap.size := hbel.size
   have hgl : g < wr.heap.size := by omega
   subst hno
   have HBR := hide (g3.keep (KB.below (w := w) (w' := wr.alloc (.cells #[.string wd, .slice ao an ac, .pointer p] 144)) (hbel.alloc hwl _)))
   have hmem : r ∈ rs := List.mem_of_mem_drop (by rw [ht]; exact List.mem_cons_self)
   obtain ⟨hg1, hg2, hg3⟩ := unhide HGD r hmem
   have HG1 := hide hg1
   have HG2 := hide hg2
   have HST : Hid (mT t (rs.drop k) = mT (t ++ ruL r) (rs.drop (k + 1))) := by show _ = _; rw [ht, dropTl ht, mT]
   have HGW := hide ((unhide HGV).later (hbel.alloc hwl (.cells #[.string wd, .slice ao an ac, .pointer p] 144)))
   have hkn : (k : Int) < (m2 : Int) := by omega
   have HBEL := hide hbel
   clear hbel ht hc1 hc2 hcw cur g0 g1 g2 g3 hmem hg1 hg2 hbu
   go_wp2_with fail
   refine (rtext_any Q _ r wd ao an ac p (unhide HBR) (unhide HG1) (unhide HG2) hg3 (unhide HGW)).mono ?_
   rintro e w3 ⟨rfl, hb3⟩
   have HB3 := hide (((unhide HBEL).alloc hwl _).trans (hb3.mono (by simp; omega)))
   have HBU3 := hide (IsBuilder.later (IsBuilder.later (unhide HBU) ((Below.refl _ _).alloc (Nat.le_refl _) _)) hb3)
   have hz3 : w.heap.size + 1 + 1 ≤ w3.heap.size := by have := hb3.size; simp at this; omega
   have HRL : Hid (ruL r = ⟨#[114, 117, 108, 101, 32]⟩ ++ ruT r ++ ⟨#[59, 10]⟩) := rfl
   have hrl : (ruL r).size ≤ 200007 := by unfold ruL; rw [ByteArray.size_append, ByteArray.size_append, show (⟨#[114, 117, 108, 101, 32]⟩ : ByteArray).size = 5 from rfl, show (⟨#[59, 10]⟩ : ByteArray).size = 2 from rfl]; omega
   have hts2 : (t ++ ruL r).size ≤ 200007 + (k + 1) * 200007 := by rw [ByteArray.size_append]; omega
   clear hb3 HBU HBEL HBR HGW HG1 HG2 d0 d1 d2
   generalize ruT r = R at *
   go_wp2_with fail
   refine (writeString_any (w.heap.size + 1) (w.heap.size + 1) _ _ _ (unhide HBU3) ?_ (by omega)).mono ?_
   ·rw [Lib.strCells_length, ← unhide HRL]; omega
   rintro e w4 ⟨rfl, hu4, hb4⟩
   rw [strCells_app, ← unhide HRL] at hu4
   have HU4 := hide (show Lib.IsBuilder _ _ _ _ _ _ from Or.inr hu4)
   have HB4 := hide ((unhide HB3).trans (hb4.mono (by omega)))
   have hz4 : w.heap.size + 1 + 1 ≤ w4.heap.size := by have := hb4.size; omega
   clear hu4 hb4
   go_wp2_with fail
   go_roundw
   case rel => exact ⟨k + 1, t ++ ruL r, by go_num, by omega, hts2, unhide HU4, unhide HB4, hz4, by show _ = _; rw [unhide HY, unhide HST]⟩
   case measure => simp [intOf]; omega
  ·have hke : rs.length ≤ k := by omega
   have hkn : ¬ (k : Int) < (m2 : Int) := by omega
   have HE : Hid (mT M rs = t) := by show _ = _; rw [unhide HY, List.drop_eq_nil_of_le hke, mT]
   have HBEL := hide hbel
   clear hbel hbu
   go_wp2_with fail
   refine (Tryz.Builder_String_any (w.heap.size + 1) (w.heap.size + 1) t.data.toList _ (unhide HBU) (by omega)).mono ?_
   rintro e w5 ⟨rfl, hb5⟩
   go_wp2_with fail
   go_ret
   refine ⟨?_, (unhide HBEL).trans (hb5.mono (by omega))⟩
   rw [unhide HM, unhide HE]
   rfl
theorem ba_ext {a b : ByteArray} (h : a.data.toList = b.data.toList) : a = b := ByteArray.ext (Array.toList_inj.1 h)
theorem txtActs_tail : ∀ (l : List Tk) (out : ByteArray) (i : Nat), (txtActs out (i + 1) l).data.toList = out.data.toList ++ Lib.joinTail [44, 32] ((l.map (·.s)).map (·.data.toList))
 | [], out, i => by simp [txtActs, Lib.joinTail]
 | t :: r, out, i => by
  rw [txtActs, if_pos (Nat.succ_pos i), txtActs_tail r _ (i + 1)]
  simp [Lib.joinTail, ByteArray.data_append]
theorem mH_eq {al : List Tk} (h : al ≠ []) : mH al = txtActs ⟨#[97, 99, 116, 115, 32]⟩ 0 al ++ ⟨#[59, 10]⟩ := by
 cases al with
 | nil => exact absurd rfl h
 | cons t r =>
  unfold mH
  congr 1
  apply ba_ext
  rw [txtActs, if_neg (Nat.lt_irrefl 0), txtActs_tail]
  unfold jnB
  rw [List.map_cons, List.map_cons, Lib.join_cons]
  simp [ByteArray.data_append]
theorem ruL_eq {Q : Tk → Prop} {m : Nat} {r : Rl} (hg : RlGood Q m r) (out : ByteArray) : txtRule out r = out ++ ruL r := by
 unfold txtRule ruL ruT
 rcases hg with ⟨hc, -, -, -, x, -, -, ha | ⟨y, -, -, ha⟩⟩ | ⟨hc, -, -, -⟩
 ·rw [if_pos hc, if_pos hc, ha, if_neg (by simp)]
  apply ba_ext
  simp [ByteArray.data_append, jnB, argS, Lib.join_one]
 ·rw [if_pos hc, if_pos hc, ha, if_pos (by simp)]
  apply ba_ext
  simp [ByteArray.data_append, jnB, argS, Lib.join_cons, Lib.joinTail]
 ·rw [if_neg (by rw [hc]; decide), if_neg (by rw [hc]; decide)]
  apply ba_ext
  simp [ByteArray.data_append]
theorem mT_eq {Q : Tk → Prop} {m : Nat} : ∀ {rs : List Rl} (out : ByteArray), (∀ r ∈ rs, RlGood Q m r) → mT out rs = txtRules out rs
 | [], _, _ => rfl
 | r :: l, out, h => by
  rw [mT, txtRules, ruL_eq (h r List.mem_cons_self), mT_eq _ (fun x hx => h x (List.mem_cons_of_mem _ hx))]
theorem mtxt_eq {Q : Tk → Prop} {m : Nat} {al : List Tk} {rs : List Rl} (h : al ≠ []) (hg : ∀ r ∈ rs, RlGood Q m r) : mT (mH al) rs = txtM al rs := by
 rw [mT_eq _ hg, mH_eq h]; rfl
theorem joinTail_len {l : List (List UInt8)} (h : ∀ x ∈ l, x.length ≤ 400) : (Lib.joinTail [44, 32] l).length ≤ l.length * 402 := by
 induction l with
 | nil => simp [Lib.joinTail]
 | cons x r ih =>
  have h1 := h x List.mem_cons_self
  have h2 := ih (fun y hy => h y (List.mem_cons_of_mem _ hy))
  unfold Lib.joinTail at h2 ⊢
  simp at h2 ⊢
  omega
theorem jnB_size {al : List Tk} (h : ∀ t ∈ al, t.s.size ≤ 400) (hl : al.length ≤ 401) : (jnB al).size ≤ 200000 := by
 cases al with
 | nil => simp [jnB, Lib.join_nil, ByteArray.size]
 | cons t r =>
  have h1 := h t List.mem_cons_self
  have h2 := joinTail_len (l := (r.map (·.s)).map (·.data.toList)) (fun x hx => by
   rw [List.map_map] at hx
   obtain ⟨y, hy, rfl⟩ := List.mem_map.1 hx
   exact h y (List.mem_cons_of_mem _ hy))
  have e : (jnB (t :: r)).size = t.s.size + (Lib.joinTail [44, 32] ((r.map (·.s)).map (·.data.toList))).length := by
   unfold jnB
   rw [List.map_cons, List.map_cons, Lib.join_cons]
   show (List.toArray _).size = _
   rw [List.size_toArray, List.length_append]; rfl
  rw [e]
  simp only [List.length_map] at h2
  rw [List.length_cons] at hl
  omega
theorem ruT_size {r : Rl} (hg : RlGood TkS 401 r) : (ruT r).size ≤ 200000 := by
 unfold ruT
 rcases hg with ⟨hc, hq, -, -, x, hx, -, ha⟩ | ⟨hc, hf, hs, -⟩
 ·rw [if_pos hc]
  have h1 := hq.2
  have h2 : (jnB r.args).size ≤ 100000 := by
   have h3 := hx.2
   rcases ha with ha | ⟨y, hy, -, ha⟩
   ·rw [ha]; simp only [jnB, List.map_cons, List.map_nil, Lib.join_one]; show x.s.size ≤ _; omega
   ·have h4 := hy.2
    have e : (jnB [x, y]).size = x.s.size + (2 + y.s.size) := by
     have e2 : jnB [x, y] = x.s ++ ⟨#[44, 32]⟩ ++ y.s := by
      apply ba_ext; simp [jnB, Lib.join_cons, Lib.joinTail, ByteArray.data_append]
     rw [e2, ByteArray.size_append, ByteArray.size_append, show (⟨#[44, 32]⟩ : ByteArray).size = 2 from rfl]; omega
    rw [ha, e]; omega
  rw [ByteArray.size_append, ByteArray.size_append, ByteArray.size_append, show (⟨#[40]⟩ : ByteArray).size = 1 from rfl, show (⟨#[41]⟩ : ByteArray).size = 1 from rfl]; omega
 ·rw [if_neg (by rw [hc]; decide)]
  have := txtF_size (m := 400) (fun t (ht : TkS t) => ht.2) hf
  exact Nat.le_trans this (Nat.le_trans (Nat.mul_le_mul_left 407 hs) (by decide))
theorem call_k {al : List Tk} {Q : Tk → Prop} {m : Nat} {r : Rl} (hQ : ∀ t, Q t → TkOk t) (hg : RlGood Q m r) (hc : r.call = true) (h : fCall al r = []) : CallK r := by
 rcases hg with ⟨_, _, _, _, x, hx, hxk, hargs⟩ | ⟨h1, _⟩
 ·unfold fCall at h
  obtain ⟨_, h2⟩ := List.append_eq_nil_iff.1 h
  obtain ⟨h3, h4⟩ := List.append_eq_nil_iff.1 h2
  obtain ⟨h5, h6⟩ := List.append_eq_nil_iff.1 h4
  have hn : tplNo r.word.s.toList ≤ 11 := by
   rcases Nat.lt_or_ge 11 (tplNo r.word.s.toList) with hh | hh
   ·rw [if_neg (by omega)] at h3; cases h3
   ·exact hh
  have hlen : ¬ r.args.length < (tplTakes (tplNo r.word.s.toList)).length := by
   intro hh; rw [if_pos hh] at h6; cases h6
  have hbad : ∀ {ks : List UInt8} {t : Tk} {l : List Tk}, fArgs al ks (t :: l) = [] → badArg ks t = false ∧ fArgs al ks.tail l = [] := by
   intro ks t l he
   rw [fArgs, fArg] at he
   obtain ⟨e1, e2⟩ := List.append_eq_nil_iff.1 he
   obtain ⟨_, e3⟩ := List.append_eq_nil_iff.1 e1
   refine ⟨?_, e2⟩
   cases hb : badArg ks t with
   | false => rfl
   | true => rw [if_pos hb] at e3; cases e3
  rcases takes_len hn with ⟨ht, hk⟩ | ⟨ht, hk⟩ | ⟨ht, hk⟩
  ·rcases hargs with ha | ⟨y, hy, hyk, ha⟩
   ·exact Or.inl ⟨hk, x, ha, hxk⟩
   ·rw [ha, ht] at h5
    have := hbad (hbad h5).2
    exact absurd this.1 (by simp [badArg])
  ·rcases hargs with ha | ⟨y, hy, hyk, ha⟩
   ·rw [ha, ht] at hlen; exact absurd (by simp) hlen
   ·rw [ha, ht] at h5
    have hb := (hbad (hbad h5).2).1
    rcases hyk with hyk | hyk
    ·simp [badArg, hyk] at hb
    ·obtain ⟨c, hc1, hc2, hc3⟩ := dig_ok (hQ y hy) hyk
     exact Or.inr (Or.inl ⟨hk, x, y, ha, hxk, hyk, c, hc1, hc2, hc3⟩)
  ·rcases hargs with ha | ⟨y, hy, hyk, ha⟩
   ·rw [ha, ht] at hlen; exact absurd (by simp) hlen
   ·rw [ha, ht] at h5
    have hb := (hbad (hbad h5).2).1
    rcases hyk with hyk | hyk
    ·exact Or.inr (Or.inr ⟨⟨hk, hn⟩, x, y, ha, hxk, hyk⟩)
    ·simp [badArg, hyk] at hb
 ·rw [h1] at hc; cases hc
theorem good_args {Q : Tk → Prop} {m : Nat} {r : Rl} (hQ : ∀ t, Q t → TkOk t) (hg : RlGood Q m r) : RlArgs r := by
 intro hc
 rcases hg with ⟨_, _, _, _, x, hx, hxk, hargs⟩ | ⟨h1, _⟩
 ·rcases hargs with ha | ⟨y, hy, hyk, ha⟩
  ·rw [ha]
   refine ⟨fun t ht => ?_, by simp, by simp⟩
   rw [List.mem_singleton] at ht; subst ht; exact Or.inl hxk
  ·rw [ha]
   refine ⟨fun t ht => ?_, by simp, by simp⟩
   rcases List.mem_cons.1 ht with rfl | ht
   ·exact Or.inl hxk
   ·rw [List.mem_singleton] at ht; subst ht
    rcases hyk with hyk | hyk
    ·exact Or.inl hyk
    ·exact Or.inr ⟨hyk, dig_ok (hQ _ hy) hyk⟩
 ·rw [h1] at hc; cases hc
theorem good_rlf {Q : Tk → Prop} {m : Nat} {r : Rl} (hg : RlGood Q m r) : RlF r := by
 intro hc
 rcases hg with ⟨_, _, _, h, _⟩ | ⟨h1, _⟩
 ·exact h
 ·rw [h1] at hc; cases hc
theorem callK_word {r : Rl} (h : CallK r) : r.word.s.toList ≠ [] := by
 intro e
 unfold CallK at h
 rw [e] at h
 rcases h with ⟨h, _⟩ | ⟨⟨_, h⟩, _⟩ | ⟨⟨_, h⟩, _⟩ <;> exact absurd h (by decide)
def RdP (s : ByteArray) (w w' : World) (e : Ending) : Prop :=
 Below w.heap.size w w' ∧ match readM s with
 | .error x => e = .returned (.tuple #[.agg #[.slice none 0 0, .slice none 0 0], .agg #[.int .i64 x.1, .int .i64 x.2]])
 | .ok (al, rs) => ∃ a1 a2 a3 m1 m2 m3 cells, e = .returned (.tuple #[.agg #[.slice a1 a2 a3, .slice m1 m2 m3], .agg #[.int .i64 0, .int .i64 0]]) ∧ w'.ownsRow 0 9 1 (.slice a1 a2 a3) al.length (strC al) ∧ w'.ownsRow 0 144 3 (.slice m1 m2 m3) rs.length cells ∧ BuP w' rs cells
theorem RdP.err {s : ByteArray} {w w' : World} {e : Ending} {x : Nat × Nat} (hb : Below w.heap.size w w') (h : readM s = .error x) (he : e = .returned (.tuple #[.agg #[.slice none 0 0, .slice none 0 0], .agg #[.int .i64 x.1, .int .i64 x.2]])) : RdP s w w' e := by
 refine ⟨hb, ?_⟩; rw [h]; exact he
theorem good_sz {m : Nat} {r : Rl} (hg : RlGood TkS m r) : ∀ t ∈ r.args, t.s.size ≤ 400 := by
 rcases hg with ⟨_, _, _, _, x, hx, _, ha | ⟨y, hy, _, ha⟩⟩ | ⟨_, _, _, ha⟩
 ·rw [ha]; intro t ht; rcases List.mem_singleton.1 ht with rfl; exact hx.2
 ·rw [ha]; intro t ht; rcases List.mem_cons.1 ht with rfl | ht
  ·exact hx.2
  ·rcases List.mem_singleton.1 ht with rfl; exact hy.2
 ·rw [ha]; intro t ht; exact (List.not_mem_nil ht).elim
def put2 (w : World) (h : Nat) (u v x y : Value) : World := (((w.setCell ⟨h, 0, none⟩ u).setCell ⟨h, 1, none⟩ v).setCell ⟨h + 1, 0, none⟩ x).setCell ⟨h + 1, 1, none⟩ y
theorem put2_fin {w : World} {h : Nat} {a b c d : Value} (u v x y : Value) (h1 : w.heap[h]? = some (.cells #[a, b] 78 (0, 0))) (h2 : w.heap[h + 1]? = some (.cells #[c, d] 80 (0, 0))) :
  (put2 w h u v x y).heap[h]? = some (.cells #[u, v] 78 (0, 0)) ∧ (put2 w h u v x y).heap[h + 1]? = some (.cells #[x, y] 80 (0, 0)) := by
 have e1 : ((w.setCell ⟨h, 0, none⟩ u).setCell ⟨h, 1, none⟩ v).heap[h]? = some (.cells #[u, v] 78 (0, 0)) := blk_set (blk_set h1 0 u) 1 v
 have e2 : ((w.setCell ⟨h, 0, none⟩ u).setCell ⟨h, 1, none⟩ v).heap[h + 1]? = some (.cells #[c, d] 80 (0, 0)) := (Below.heap_setCell _ _ _ _ (by show h + 1 ≠ h; omega)).trans ((Below.heap_setCell _ _ _ _ (by show h + 1 ≠ h; omega)).trans h2)
 refine ⟨?_, blk_set (blk_set e2 0 x) 1 y⟩
 exact (Below.heap_setCell _ _ _ _ (by show h ≠ h + 1; omega)).trans ((Below.heap_setCell _ _ _ _ (by show h ≠ h + 1; omega)).trans e1)
theorem put2_grown (w : World) (h : Nat) (u v x y : Value) {b : Nat} (h1 : b ≠ h) (h2 : b ≠ h + 1) : (put2 w h u v x y).heap[b]? = w.heap[b]? :=
 (Below.heap_setCell _ _ _ _ h2).trans ((Below.heap_setCell _ _ _ _ h2).trans ((Below.heap_setCell _ _ _ _ h1).trans (Below.heap_setCell _ _ _ _ h1)))
theorem put2_below {w0 w : World} {h : Nat} (u v x y : Value) (hb : Below w0.heap.size w0 w) (hh : w0.heap.size ≤ h) : Below w0.heap.size w0 (put2 w h u v x y) :=
 (((hb.setCell (p := ⟨h, 0, none⟩) hh _).setCell (p := ⟨h, 1, none⟩) hh _).setCell (p := ⟨h + 1, 0, none⟩) (by show _ ≤ h + 1; omega) _).setCell (p := ⟨h + 1, 1, none⟩) (by show _ ≤ h + 1; omega) _
theorem put2_kb {w : World} {h : Nat} {a b c d : Value} (h1 : w.heap[h]? = some (.cells #[a, b] 78 (0, 0))) (h2 : w.heap[h + 1]? = some (.cells #[c, d] 80 (0, 0))) (u v x y : Value) : KB w (put2 w h u v x y) := by
 intro k cc ty m hk ht
 rw [put2_grown]
 ·exact hk
 ·rintro rfl; rw [h1] at hk; injection hk with hk; injection hk with _ e _; subst e; revert ht; decide
 ·rintro rfl; rw [h2] at hk; injection hk with hk; injection hk with _ e _; subst e; revert ht; decide
theorem put2_owns {w : World} {h : Nat} {a b c d : Value} (h1 : w.heap[h]? = some (.cells #[a, b] 78 (0, 0))) (h2 : w.heap[h + 1]? = some (.cells #[c, d] 80 (0, 0))) (u v x y : Value) {n : Nat} {t : Value} {xs : List Value} (ho : w.ownsRow 0 144 3 t n xs) : (put2 w h u v x y).ownsRow 0 144 3 t n xs := by
 obtain ⟨e1, e2⟩ := ho
 refine ⟨e1, ?_⟩
 rcases e2 with e2 | ⟨g, cap, cur, hv, hg, hh, r⟩
 ·exact Or.inl e2
 ·refine Or.inr ⟨g, cap, cur, hv, hg, ?_, r⟩
  rw [put2_grown]
  ·exact hh
  ·rintro rfl; rw [h1] at hh; injection hh with hh; injection hh with _ e _; revert e; decide
  ·rintro rfl; rw [h2] at hh; injection hh with hh; injection hh with _ e _; revert e; decide
set_option maxHeartbeats 4000000 in
set_option maxRecDepth 100000 in
theorem read_any (s : ByteArray) (w : World) (hG : GV w) : Calls Tryz.prog 39 #[.string s] w fun e w' => RdP s w w' e := by
 have hbz : Below w.heap.size w ((w.alloc (.cells #[.slice none 0 0, .slice none 0 0] 78)).alloc (.cells #[.int .i64 0, .int .i64 0] 80)) := ((Below.refl _ _).alloc (Nat.le_refl _) _).alloc (by simp) _
 have hm0 : ((w.alloc (.cells #[.slice none 0 0, .slice none 0 0] 78)).alloc (.cells #[.int .i64 0, .int .i64 0] 80)).heap[w.heap.size]? = some (.cells #[.slice none 0 0, .slice none 0 0] 78 (0, 0)) := (Below.heap_alloc _ _ _ (by simp)).trans (blk_alloc _ _)
 have hf0 : ((w.alloc (.cells #[.slice none 0 0, .slice none 0 0] 78)).alloc (.cells #[.int .i64 0, .int .i64 0] 80)).heap[w.heap.size + 1]? = some (.cells #[.int .i64 0, .int .i64 0] 80 (0, 0)) := blk_alloc' _ _ _ (by simp)
 have HBZ := hide hbz
 have HM0 := hide hm0
 have HF0 := hide hf0
 have HGV := hide (hG.later hbz)
 by_cases hs : 400 < s.size
 ·have HL : Hid (readM s = .error (0, 1)) := by show _ = _; unfold readM; rw [if_pos hs]
  have hs' : (400 : Int) < (s.size : Int) := by omega
  clear hbz hm0 hf0 hs hG
  go_enter Tryz.func39, Tryz.ntmps39
  go_wp2_with fail
  refine bodyPost_ret (v := .tuple #[.agg #[.slice none 0 0, .slice none 0 0], .agg #[.int .i64 0, .int .i64 1]]) (by simp [results, Tryz.results39, go_sem]) rfl ?_
  exact RdP.err (((Below.refl _ _).alloc (Nat.le_refl _) _).alloc (by simp) _) (unhide HL) rfl
 ·have HL : Hid (readM s = rdOf s.size (modelRead (lexR s (s.size + 1) 0))) := by show _ = _; unfold readM; rw [if_neg hs]
  have hs1 : s.size ≤ 400 := by omega
  have hs' : ¬ (400 : Int) < (s.size : Int) := by omega
  have hll : (lexR s (s.size + 1) 0).length ≤ 401 := by have := lexR_len s (s.size + 1) 0 (Nat.zero_le _); omega
  have HLL := hide hll
  have HQ : Hid (∀ t ∈ lexR s (s.size + 1) 0, TkS t) := fun t ht => ⟨lexR_ok s _ _ t ht, by have := lexR_small s _ 0 (Nat.zero_le _) t ht; omega⟩
  have HUP := hide (lexR_up s (s.size + 1) 0 (Nat.zero_le _)).2
  have HPA := hide (fun W hW => parse_any s W hs1 hW)
  generalize lexR s (s.size + 1) 0 = L at *
  clear hbz hm0 hf0 hs hG hll
  go_enter Tryz.func39, Tryz.ntmps39
  go_wp2_with (go_at_call 69; refine (unhide HPA _ (unhide HGV)).mono ?_)
  rintro e w1 ⟨hb1, o1, n1, k1, o2, n2, k2, ⟨al, rs, cells, q, rfl, hmr, ha1, hr1, hp1⟩ | ⟨q, rfl, hmr⟩⟩
  ·have HMR := hide hmr
   have hg := modelRead_good TkS L al rs hmr (unhide HQ)
   have hal : al.length ≤ 401 := by have := hg.2.2.1; have := unhide HLL; omega
   have hrl : rs.length ≤ 401 := by have := hg.2.2.2.2; have := unhide HLL; omega
   have HZA : Hid (∀ t ∈ al, t.s.size ≤ 400) := fun t ht => (hg.1 t ht).1.2
   have HRG : Hid (∀ r ∈ rs, RlGood TkS 401 r) := fun r hr => (hg.2.2.2.1 r hr).mono (unhide HLL)
   have HTE : Hid (tells (0, 0) (pFaults al rs) = meets (0, 0) (faults al rs)) := tells_eq hmr (unhide HUP) (fun r hr => good_rlf (unhide HRG r hr))
   have HLM : Hid (readM s = rdOf s.size (.ok (al, rs))) := by show _ = _; rw [unhide HL, hmr]
   rw [show Hid (readM s = rdOf s.size (.ok (al, rs))) = Hid (readM s = if (meets (0, 0) (faults al rs)).2 ≠ 0 then .error (meets (0, 0) (faults al rs)) else if 16 < nodesL rs then .error (s.size, 4) else .ok (al, rs)) from rfl] at HLM
   have hm1 := (hb1.block _ (lt_of_blk (unhide HM0))).trans (unhide HM0)
   have hf1 := (hb1.block _ (lt_of_blk (unhide HF0))).trans (unhide HF0)
   have hz1 : w.heap.size + 1 < w1.heap.size := lt_of_blk hf1
   have hbs : Below w1.heap.size w1 (w1.alloc (.cells #[.slice o1 n1 k1, .slice o2 n2 k2] 128)) := (Below.refl _ _).alloc (Nat.le_refl _) _
   have HB1 := hide (((unhide HBZ).trans (hb1.mono (by simp; omega))).alloc (by omega) (.cells #[.slice o1 n1 k1, .slice o2 n2 k2] 128))
   have HM1 := hide ((hbs.block _ (by omega)).trans hm1)
   have HF1 := hide ((hbs.block _ hz1).trans hf1)
   have HA1 := hide (owns_later ha1 hbs)
   have HR1 := hide (owns_later hr1 hbs)
   have HP1 := hide (hp1.keep (KQ.below hbs))
   have hsx : (w1.alloc (.cells #[.slice o1 n1 k1, .slice o2 n2 k2] 128)).heap[w1.heap.size]? = some (.cells #[.slice o1 n1 k1, .slice o2 n2 k2] 128 (0, 0)) := blk_alloc _ _
   have HSX := hide hsx
   clear hmr hg hm1 hf1 hb1 ha1 hr1 hp1 hsx hbs HM0 HF0 HBZ HGV HPA HL
   go_wp2_with fail
   generalize w1.alloc (.cells #[.slice o1 n1 k1, .slice o2 n2 k2] 128) = w2 at *
   refine (check_any w2 al rs o1 n1 k1 o2 n2 k2 cells (unhide HA1) (unhide HR1) (unhide HP1) (fun r hr => good_args (fun t h => h.1) (unhide HRG r hr)) hal hrl).mono ?_
   rintro e w3 ⟨rfl, hb3⟩
   rw [unhide HTE]
   generalize hZ : meets (0, 0) (faults al rs) = z at *
   have HZ := hide hZ
   have hz2 : w1.heap.size < w2.heap.size := lt_of_blk (unhide HSX)
   have HB3 := hide ((unhide HB1).trans (hb3.mono (unhide HB1).size))
   have hm3 := (hb3.block _ (lt_of_blk (unhide HM1))).trans (unhide HM1)
   have hf3 := (hb3.block _ (lt_of_blk (unhide HF1))).trans (unhide HF1)
   have hs3 := (hb3.block _ (lt_of_blk (unhide HSX))).trans (unhide HSX)
   have HM3 := hide hm3
   have HF3 := hide hf3
   have HS3 := hide hs3
   have HA3 := hide (owns_later (unhide HA1) hb3)
   have HR3 := hide (owns_later (unhide HR1) hb3)
   have HP3 := hide ((unhide HP1).keep (KQ.below hb3))
   have hz3 : w.heap.size + 1 < w3.heap.size := lt_of_blk hf3
   have hz4 : w.heap.size < w3.heap.size := by omega
   have hz5 : w1.heap.size < w3.heap.size := lt_of_blk hs3
   have rc0 := fun o => cell_of_blk hm3 o
   have fc0 := fun o => cell_of_blk hf3 o
   have rf := fun o => frozen_of_blk hm3 o
   have ff := fun o => frozen_of_blk hf3 o
   have sc := fun o => cell_of_blk hs3 o
   clear hZ hb3 hm3 hf3 hs3 HM1 HF1 HSX HA1 HR1 HP1 HB1 HTE
   by_cases hx : z.2 = 0
   ·have hx' : ((z.2 : Nat) : Int) = 0 := by omega
    have HLN : Hid (readM s = if 16 < nodesL rs then .error (s.size, 4) else .ok (al, rs)) := by show _ = _; rw [unhide HLM, if_neg (by simp [hx])]
    have HFN : Hid (faults al rs = []) := meets_zero (faults_errs al rs) (by rw [unhide HZ]; exact hx)
    have HCK : Hid (∀ r ∈ rs, r.call = true → CallK r) := fun r hr hc => call_k (fun t h => h.1) ((unhide HRG) r hr) hc ((fRules_nil (List.append_eq_nil_iff.1 (unhide HFN)).2 r hr).2 hc)
    have HOK : Hid (∀ r ∈ rs, r.call = true → CallOk r) := fun r hr hc => call_ok (fun t h => h.1) ((unhide HRG) r hr) hc ((fRules_nil (List.append_eq_nil_iff.1 (unhide HFN)).2 r hr).2 hc)
    have HNS : Hid (∀ r ∈ rs, sizeF (ruleF r) ≤ 100000) := fun r hr => by have := ruleF_size ((unhide HRG) r hr) ((unhide HOK) r hr); omega
    clear HFN HLM hx HZ HOK
    have hbf : Below w3.heap.size w3 (w3.alloc (.cells #[.int .i64 z.1, .int .i64 0] 80)) := (Below.refl _ _).alloc (Nat.le_refl _) _
    have HA4 := hide (owns_later (unhide HA3) hbf)
    have HR4 := hide (owns_later (unhide HR3) hbf)
    have HP4 := hide ((unhide HP3).keep (KQ.below hbf))
    have HB4 := hide ((unhide HB3).trans (hbf.mono (unhide HB3).size))
    have HM4 := hide ((hbf.block _ hz4).trans (unhide HM3))
    have HF4 := hide ((hbf.block _ hz3).trans (unhide HF3))
    clear hbf HA3 HR3 HP3 HB3
    go_wp2_with fail
    refine (build_any _ al rs o1 n1 k1 o2 n2 k2 cells (unhide HA4) (unhide HR4) (unhide HP4) (unhide HCK) hal hrl (unhide HZA) (fun r hr => good_sz (unhide HRG r hr))).mono ?_
    rintro e w5 ⟨hb5, a1, a2, a3, m1, m2, m3, cs, rfl, ha5, hr5, hp5⟩
    have hm5 := (hb5.block _ (lt_of_blk (unhide HM4))).trans (unhide HM4)
    have hf5 := (hb5.block _ (lt_of_blk (unhide HF4))).trans (unhide HF4)
    have HB5 := hide ((unhide HB4).trans (hb5.mono (unhide HB4).size))
    have hbm : Below w5.heap.size w5 (w5.alloc (.cells #[.slice a1 a2 a3, .slice m1 m2 m3] 78)) := (Below.refl _ _).alloc (Nat.le_refl _) _
    have HA6 := hide (owns_later ha5 hbm)
    have HR6 := hide (owns_later hr5 hbm)
    have HP6 := hide (hp5.keep (KB.below hbm))
    have HB6 := hide ((unhide HB5).trans (hbm.mono (unhide HB5).size))
    have HM6 := hide ((hbm.block _ (lt_of_blk hm5)).trans hm5)
    have HF6 := hide ((hbm.block _ (lt_of_blk hf5)).trans hf5)
    have hx6 : (w5.alloc (.cells #[.slice a1 a2 a3, .slice m1 m2 m3] 78)).heap[w5.heap.size]? = some (.cells #[.slice a1 a2 a3, .slice m1 m2 m3] 78 (0, 0)) := blk_alloc _ _
    have HX6 := hide hx6
    clear rc0 fc0 rf ff sc hb5 ha5 hr5 hp5 hm5 hf5 hbm hx6 HA4 HR4 HP4 HB4 HM4 HF4
    go_wp2_with fail
    generalize w5.alloc (.cells #[.slice a1 a2 a3, .slice m1 m2 m3] 78) = w6 at *
    refine (mnodes_any w6 rs a1 a2 a3 m1 m2 m3 cs (unhide HR6) (unhide HP6) hrl (unhide HNS)).mono ?_
    rintro e w7 ⟨rfl, hb7⟩
    have HA7 := hide (owns_later (unhide HA6) hb7)
    have HR7 := hide (owns_later (unhide HR6) hb7)
    have HP7 := hide ((unhide HP6).keep (KB.below hb7))
    have HB7 := hide ((unhide HB6).trans (hb7.mono (unhide HB6).size))
    have hm7 := (hb7.block _ (lt_of_blk (unhide HM6))).trans (unhide HM6)
    have hf7 := (hb7.block _ (lt_of_blk (unhide HF6))).trans (unhide HF6)
    have hx7 := (hb7.block _ (lt_of_blk (unhide HX6))).trans (unhide HX6)
    have HM7 := hide hm7
    have HF7 := hide hf7
    have hz7 : w.heap.size + 1 < w7.heap.size := lt_of_blk hf7
    have hz8 : w.heap.size < w7.heap.size := by omega
    have hz9 : w5.heap.size < w7.heap.size := lt_of_blk hx7
    have rc0 := fun o => cell_of_blk hm7 o
    have fc0 := fun o => cell_of_blk hf7 o
    have rf := fun o => frozen_of_blk hm7 o
    have ff := fun o => frozen_of_blk hf7 o
    have xc := fun o => cell_of_blk hx7 o
    clear hb7 hm7 hf7 hx7 HA6 HR6 HP6 HB6 HM6 HF6 HX6
    generalize hN : nodesL rs = n at *
    have HN := hide hN
    clear hN
    by_cases hx : 16 < n
    ·have hx' : (16 : Int) < (n : Int) := by omega
     have HLE : Hid (readM s = .error (s.size, 4)) := by show _ = _; rw [unhide HLN, if_pos hx]
     clear xc HLN
     go_wp2_with fail
     clear rc0 fc0
     obtain ⟨f1, f2⟩ := put2_fin (.slice none 0 0) (.slice none 0 0) (.int .i64 s.size) (.int .i64 4) (unhide HM7) (unhide HF7)
     have rc := fun o => cell_of_blk f1 o
     have fc := fun o => cell_of_blk f2 o
     unfold put2 at rc fc
     refine bodyPost_ret (v := .tuple #[.agg #[.slice none 0 0, .slice none 0 0], .agg #[.int .i64 s.size, .int .i64 4]]) (by simp [results, Tryz.results39, go_sem, rc, fc]) rfl ?_
     exact RdP.err (put2_below _ _ _ _ (unhide HB7) (Nat.le_refl _)) (unhide HLE) rfl
    ·have hx' : ¬ (16 : Int) < (n : Int) := by omega
     have HLE : Hid (readM s = .ok (al, rs)) := by show _ = _; rw [unhide HLN, if_neg hx]
     clear HLN
     go_wp2_with fail
     clear rc0 fc0 xc
     obtain ⟨f1, f2⟩ := put2_fin (.slice a1 a2 a3) (.slice m1 m2 m3) (.int .i64 0) (.int .i64 0) (unhide HM7) (unhide HF7)
     have rc := fun o => cell_of_blk f1 o
     have fc := fun o => cell_of_blk f2 o
     unfold put2 at rc fc
     refine bodyPost_ret (v := .tuple #[.agg #[.slice a1 a2 a3, .slice m1 m2 m3], .agg #[.int .i64 0, .int .i64 0]]) (by simp [results, Tryz.results39, go_sem, rc, fc]) rfl ?_
     refine ⟨put2_below _ _ _ _ (unhide HB7) (Nat.le_refl _), ?_⟩
     rw [unhide HLE]
     refine ⟨a1, a2, a3, m1, m2, m3, cs, rfl, ?_, ?_, ?_⟩
     ·exact (put2_kb (unhide HM7) (unhide HF7) _ _ _ _).owns (unhide HA7)
     ·exact put2_owns (unhide HM7) (unhide HF7) _ _ _ _ (unhide HR7)
     ·exact (unhide HP7).keep (put2_kb (unhide HM7) (unhide HF7) _ _ _ _)
   ·have hx' : ¬ ((z.2 : Nat) : Int) = 0 := by omega
    have HLE : Hid (readM s = .error z) := by show _ = _; rw [unhide HLM, if_pos hx]
    clear HLM hx HA3 HR3 HP3 sc
    go_wp2_with fail
    go_region
    go_wp2_with fail
    clear rc0 fc0
    obtain ⟨f1, f2⟩ := put2_fin (.slice none 0 0) (.slice none 0 0) (.int .i64 z.1) (.int .i64 z.2) (unhide HM3) (unhide HF3)
    have rc := fun o => cell_of_blk ((Below.heap_alloc _ (.cells #[.int .i64 z.1, .int .i64 z.2] 80) _ (lt_of_blk f1)).trans f1) o
    have fc := fun o => cell_of_blk ((Below.heap_alloc _ (.cells #[.int .i64 z.1, .int .i64 z.2] 80) _ (lt_of_blk f2)).trans f2) o
    unfold put2 at rc fc
    refine bodyPost_ret (v := .tuple #[.agg #[.slice none 0 0, .slice none 0 0], .agg #[.int .i64 z.1, .int .i64 z.2]]) (by simp [results, Tryz.results39, go_sem, rc, fc]) rfl ?_
    exact RdP.err ((put2_below _ _ _ _ (unhide HB3) (Nat.le_refl _)).alloc (put2_below _ _ _ _ (unhide HB3) (Nat.le_refl _)).size _).drew (unhide HLE) rfl
  ·have HL2 : Hid (readM s = .error (q, 2)) := by show _ = _; rw [unhide HL, hmr]; rfl
   have hm1 := (hb1.block _ (lt_of_blk (unhide HM0))).trans (unhide HM0)
   have hf1 := (hb1.block _ (lt_of_blk (unhide HF0))).trans (unhide HF0)
   have HB1 := hide ((unhide HBZ).trans (hb1.mono (by simp; omega)))
   have hz1 : w.heap.size + 1 < w1.heap.size := lt_of_blk hf1
   have hz0 : w.heap.size < w1.heap.size := by omega
   have HM2 := hide hm1
   have HF2 := hide hf1
   have rf := fun o => frozen_of_blk hm1 o
   have ff := fun o => frozen_of_blk hf1 o
   have rc0 := fun o => cell_of_blk hm1 o
   have fc0 := fun o => cell_of_blk hf1 o
   clear hm1 hf1 hb1 hmr
   go_wp2_with fail
   clear rc0 fc0
   obtain ⟨f1, f2⟩ := put2_fin (.slice none 0 0) (.slice none 0 0) (.int .i64 q) (.int .i64 2) (unhide HM2) (unhide HF2)
   have rc := fun o => cell_of_blk ((Below.heap_alloc _ (.cells #[.slice o1 n1 k1, .slice o2 n2 k2] 128) _ (lt_of_blk f1)).trans f1) o
   have fc := fun o => cell_of_blk ((Below.heap_alloc _ (.cells #[.slice o1 n1 k1, .slice o2 n2 k2] 128) _ (lt_of_blk f2)).trans f2) o
   unfold put2 at rc fc
   refine bodyPost_ret (v := .tuple #[.agg #[.slice none 0 0, .slice none 0 0], .agg #[.int .i64 q, .int .i64 2]]) (by simp [results, Tryz.results39, go_sem, rc, fc]) rfl ?_
   exact RdP.err ((put2_below _ _ _ _ (unhide HB1) (Nat.le_refl _)).alloc (put2_below _ _ _ _ (unhide HB1) (Nat.le_refl _)).size _) (unhide HL2) rfl
end Go.Proofs.YtidakhhekofkoaaGreatDoor
