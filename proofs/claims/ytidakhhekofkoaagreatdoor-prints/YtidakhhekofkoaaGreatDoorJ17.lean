/- The reference's Formulas. -/
import Derived.Test.YtidakhhekofkoaaGreatDoorJ16
set_option linter.unusedSimpArgs false
namespace Go.Proofs.YtidakhhekofkoaaGreatDoor
open Go.RowKit Go.Deep
def FsAre (w : World) : List Rl → List (Option Addr) → Prop
  | [], ps => ps = []
  | r :: rs, ps => ∃ p ps', ps = p :: ps' ∧ IsF w (ruleF r) p ∧ FsAre w rs ps'
theorem FsAre.later {w w' : World} (hb : Below w.heap.size w w') : ∀ {rs : List Rl} {ps : List (Option Addr)}, FsAre w rs ps → FsAre w' rs ps
  | [], _, h => h
  | _ :: _, _, ⟨p, ps', e, h1, h2⟩ => ⟨p, ps', e, h1.later hb, h2.later hb⟩
theorem KT.fs {w w' : World} (hk : KT w w') : ∀ {rs : List Rl} {ps : List (Option Addr)}, FsAre w rs ps → FsAre w' rs ps
  | [], _, h => h
  | _ :: _, _, ⟨p, ps', e, h1, h2⟩ => ⟨p, ps', e, hk.isF h1, hk.fs h2⟩
theorem FsAre.snoc {w : World} : ∀ {rs : List Rl} {ps : List (Option Addr)} {r : Rl} {p : Option Addr}, FsAre w rs ps → IsF w (ruleF r) p → FsAre w (rs ++ [r]) (ps ++ [p])
  | [], _, r, p, h, hp => by rw [show _ = [] from h]; exact ⟨p, [], rfl, hp, rfl⟩
  | _ :: _, _, r, p, ⟨q, ps', e, h1, h2⟩, hp => ⟨q, ps' ++ [p], by rw [e]; rfl, h1, h2.snoc hp⟩
def RowR (w : World) (o : Option Addr) (n k : Nat) (rs : List Rl) : Prop := ∃ cells, w.ownsRow 0 235 7 (.slice o n k) rs.length cells ∧ RulesAre w rs cells
theorem RowR.len {w : World} {o : Option Addr} {n k : Nat} {rs : List Rl} (h : RowR w o n k rs) : n = rs.length := by
  obtain ⟨cells, ⟨_, ⟨h1, h2⟩ | ⟨g, cap, cur, hv, _⟩⟩, _⟩ := h
  · cases h1; exact h2.symm
  · cases hv; rfl
theorem RulesAre.at {w : World} : ∀ {rs : List Rl} {cells : List Value} {i : Nat} {r : Rl} {l : List Rl}, RulesAre w rs cells → rs.drop i = r :: l →
    ∃ a b s c o n k d p, RlIs w r a b s c o n k d p ∧ cells[i * 7]? = some (.int .i64 a) ∧ cells[i * 7 + 1]? = some (.int .u8 b) ∧ cells[i * 7 + 2]? = some (.string s) ∧ cells[i * 7 + 3]? = some (.int .i64 c) ∧ cells[i * 7 + 4]? = some (.slice o n k) ∧ cells[i * 7 + 5]? = some (.int .i64 d) ∧ cells[i * 7 + 6]? = some (.pointer p)
  | [], _, i, r, l, _, h => by simp at h
  | x :: xs, cells, 0, r, l, ⟨a, b, s, c, o, n, k, d, p, cs', e, hr, _⟩, h => by
    simp at h
    obtain ⟨rfl, rfl⟩ := h
    subst e
    exact ⟨a, b, s, c, o, n, k, d, p, hr, rfl, rfl, rfl, rfl, rfl, rfl, rfl⟩
  | x :: xs, cells, i + 1, r, l, ⟨a, b, s, c, o, n, k, d, p, cs', e, _, hrs⟩, h => by
    obtain ⟨a', b', s', c', o', n', k', d', p', hr, h0, h1, h2, h3, h4, h5, h6⟩ := hrs.at (i := i) (r := r) (l := l) (by simpa using h)
    subst e
    refine ⟨a', b', s', c', o', n', k', d', p', hr, ?_, ?_, ?_, ?_, ?_, ?_, ?_⟩
    all_goals (rw [List.getElem?_append_right (by simp; omega)])
    · rw [← h0]; congr 1; simp; omega
    · rw [← h1]; congr 1; simp; omega
    · rw [← h2]; congr 1; simp; omega
    · rw [← h3]; congr 1; simp; omega
    · rw [← h4]; congr 1; simp; omega
    · rw [← h5]; congr 1; simp; omega
    · rw [← h6]; congr 1; simp; omega
theorem RowR.at {w : World} {o : Option Addr} {n k : Nat} {rs : List Rl} (h : RowR w o n k rs) {i : Nat} {r : Rl} {l : List Rl} (hr : rs.drop i = r :: l) :
    ∃ g, o = some ⟨g, 0, none⟩ ∧ g < w.heap.size ∧ TyAt w g 235 ∧ ∃ a b s c o' n' k' d p, RlIs w r a b s c o' n' k' d p ∧ w.cell? ⟨g, i * 7, none⟩ = some (.int .i64 a) ∧ w.cell? ⟨g, i * 7 + 1, none⟩ = some (.int .u8 b) ∧ w.cell? ⟨g, i * 7 + 2, none⟩ = some (.string s) ∧ w.cell? ⟨g, i * 7 + 3, none⟩ = some (.int .i64 c) ∧ w.cell? ⟨g, i * 7 + 4, none⟩ = some (.slice o' n' k') ∧ w.cell? ⟨g, i * 7 + 5, none⟩ = some (.int .i64 d) ∧ w.cell? ⟨g, i * 7 + 6, none⟩ = some (.pointer p) := by
  have hi : i < rs.length := by
    rcases Nat.lt_or_ge i rs.length with h | h
    · exact h
    · rw [List.drop_eq_nil_of_le h] at hr; cases hr
  obtain ⟨cells, ⟨_, ⟨h1, h2⟩ | ⟨g, cap, cur, hv, _, hrow, hle, _, hcs, htake⟩⟩, hra⟩ := h
  · omega
  · cases hv
    obtain ⟨a, b, s, c, o', n', k', d, p, hri, h0, h1, h2, h3, h4, h5, h6⟩ := hra.at hr
    rw [← htake, List.getElem?_take, if_pos (by omega)] at h0 h1 h2 h3 h4 h5 h6
    refine ⟨g, rfl, lt_of_blk hrow, ⟨_, _, hrow⟩, a, b, s, c, o', n', k', d, p, hri, ?_, ?_, ?_, ?_, ?_, ?_, ?_⟩ <;> rw [cell_of_blk hrow, ← Array.getElem?_toList] <;> assumption
theorem RowR.later {w w' : World} {o : Option Addr} {n k : Nat} {rs : List Rl} (h : RowR w o n k rs) (hb : Below w.heap.size w w') : RowR w' o n k rs := by
  obtain ⟨cells, h1, h2⟩ := h
  exact ⟨cells, owns_later h1 hb, (KT.below hb).rules h2⟩
theorem KT.ownE {w w' : World} {base n e size : Nat} {v : Value} {xs : List Value} (h : w.grownBy w' v.ownBlock) (ho : w.ownsRow base e size v n xs) (h1 : e ≠ 232) (h2 : e ≠ 292) : KT w w' := by
  obtain ⟨_, h3 | ⟨g, cap, cur, hv, _, hh, _⟩⟩ := ho
  · rw [h3.1] at h; exact KT.grownNone h
  · rw [hv] at h; exact KT.grown (r := g) h ⟨_, _, hh⟩ h1 h2
theorem Tryz.infoPtr : (Tryz.prog.info? 233).map (fun i => (i.zero, i.size, i.bytes)) = some (some (.pointer none), 1, 8) := by kernel_rfl
set_option maxHeartbeats 2000000 in
theorem Formulas_any (w : World) (o1 : Option Addr) (n1 k1 : Nat) (o2 : Option Addr) (n2 k2 : Nat) (rs : List Rl) (h : RowR w o2 n2 k2 rs) (hlen : rs.length ≤ 401) (hok : ∀ r ∈ rs, r.call = true → CallOk r) :
    Calls Tryz.prog 177 #[.agg #[.slice o1 n1 k1, .slice o2 n2 k2]] w fun e w' => ∃ v ps, e = .returned v ∧ w'.ownsRow w.heap.size 233 1 v rs.length (ps.map Value.pointer) ∧ FsAre w' rs ps ∧ Below w.heap.size w w' := by
  have hn := h.len
  subst hn
  have HR := hide h
  have HOK := hide hok
  clear h hok
  obtain ⟨i0, hi0, hz0, hz1, hz2⟩ := info_parts Tryz.infoPtr
  go_enter Tryz.func177, Tryz.ntmps177
  go_wp2_with fail
  go_loopw [3, 4] (fun v x wr => ∃ (k : Nat) (ps : List (Option Addr)), k ≤ rs.length ∧ ps.length = k ∧ x = .int .i64 k ∧ wr.ownsRow (w.heap.size + 1) 233 1 v k (ps.map Value.pointer) ∧ FsAre wr (rs.take k) ps ∧ Below (w.heap.size + 1) (w.alloc (.cells #[.slice o1 n1 k1, .slice o2 rs.length k2] 228)) wr) (fun _ x _ => rs.length - (intOf x).toNat)
  case atStart => exact ⟨0, [], Nat.zero_le _, rfl, rfl, World.ownsRow_nil _ _ _ _, rfl, Below.refl _ _⟩
  case round =>
    obtain ⟨k, ps, hk, hpl, rfl, hown, hfs, hbel⟩ := hrel
    have HOW := hide hown
    have HFS := hide hfs
    have HBEL := hide hbel
    have hbx := (hbel.block w.heap.size (by omega)).trans (blk_alloc w (.cells #[.slice o1 n1 k1, .slice o2 rs.length k2] 228))
    have hzr : w.heap.size + 1 ≤ wr.heap.size := by have := hbel.size; simp at this; omega
    have bc := fun o => cell_of_blk hbx o
    have hbw : Below w.heap.size w wr := ((Below.refl w.heap.size w).alloc (Nat.le_refl _) _).trans (hbel.mono (by omega))
    have HBW := hide hbw
    clear hown hfs hbel hbx
    by_cases hlt : k < rs.length
    · obtain ⟨r, l, hr⟩ : ∃ r l, rs.drop k = r :: l := by
        cases hd : rs.drop k with
        | nil => have := congrArg List.length hd; simp at this; omega
        | cons r l => exact ⟨r, l, rfl⟩
      have HRL := hide hr
      obtain ⟨g, rfl, hg, _, a, b, s, c, o', n', k', d, p, hri, q0, q1, q2, q3, q4, q5, q6⟩ := ((unhide HR).later hbw).at hr
      have HRI := hide hri
      have hmem : r ∈ rs := List.mem_of_mem_drop (i := k) (by rw [hr]; exact List.mem_cons_self)
      have HOKR := hide ((unhide HOK) r hmem)
      clear hr hri hmem hbw
      cases hc : r.call with
      | true =>
        have hp : p = none := by have := (unhide HRI).2; rw [if_pos hc] at this; exact this.2.2.2.2.2
        subst hp
        have HC := hide hc
        clear hc
        go_wp2_with fail
        refine (stands_any _ r a b s c o' n' k' d none (unhide HRI) (unhide HC) ((unhide HOKR) (unhide HC))).mono ?_
        rintro e w2 ⟨v2, rfl, hf2, hb2⟩
        have HF2 := hide hf2
        have HO2 := hide (owns_later (unhide HOW) hb2)
        have HFS2 := hide ((unhide HFS).later hb2)
        have HB2 := hide ((unhide HBEL).trans (hb2.mono hzr))
        have hz2' : wr.heap.size ≤ w2.heap.size := hb2.size
        clear hf2 hb2 q0 q1 q2 q3 q4 q5 q6
        go_wp2_with (at_builtin; go_must (refine wpList_append_own _ rfl _ _ 288 rfl (w.heap.size + 1) 233 i0 (.pointer none) 1 8 Tryz.underlying288 hi0 hz0 hz1 hz2 rfl (by decide) _ k (ps.map Value.pointer) rfl ?c0 ⟨w2.heap.size, 0, none⟩ 1 1 [.pointer v2] rfl rfl ?c1 ?c2 ?c3 ?c4 ?c5 ?_))
        case c0 => exact (unhide HO2).alloc _
        case c1 =>
          intro j u hj
          match j, hj with
          | 0, hj => simp at hj; subst hj; exact (cell_of_blk (blk_alloc _ _) 0).trans rfl
          | j + 1, hj => simp at hj
        case c2 => intro u hu; simp at hu; subst hu; rfl
        case c3 => unfold maxLen; omega
        case c4 => omega
        case c5 => simp; omega
        intro v3 w3 hown3 hgrow3 _
        have hol := own_lt (unhide HO2)
        have HB3 := hide (((unhide HB2).alloc (by omega) _).grown hgrow3 (by simp; omega) (fun j hj => (hol j hj).1))
        have HK3 := hide ((KT.alloc w2 (.cells #[.pointer v2] 233)).trans (KT.ownE hgrow3 ((unhide HO2).alloc _) (by decide) (by decide)))
        have HO3 : Hid (w3.ownsRow (w.heap.size + 1) 233 1 v3 (k + 1) ((ps ++ [v2]).map Value.pointer)) := by rw [List.map_append]; exact hown3
        have HF3 := hide (FsAre.snoc ((unhide HK3).fs (unhide HFS2)) ((unhide HK3).isF (unhide HF2)))
        have HTK : Hid (rs.take (k + 1) = rs.take k ++ [r]) := by
          show _ = _
          rw [List.take_add_one]
          have : rs[k]? = some r := by
            have := congrArg (fun l => l[0]?) (unhide HRL)
            simpa using this
          rw [this]; rfl
        clear hown3 hgrow3 hol
        go_wp2_with fail
        go_roundw
        case rel =>
          refine ⟨k + 1, ps ++ [v2], by omega, by simp; omega, by go_num, unhide HO3, ?_, unhide HB3⟩
          rw [unhide HTK]; exact unhide HF3
        case measure => simp [intOf]; omega
      | false =>
        obtain ⟨hpf, hps⟩ : IsF wr r.f p ∧ p.isSome = true := by have := (unhide HRI).2; rw [if_neg (by simp [hc])] at this; exact this
        obtain ⟨ad, rfl⟩ := Option.isSome_iff_exists.1 hps
        have HF2 : Hid (IsF wr (ruleF r) (some ad)) := by show IsF _ _ _; rw [ruleF, if_neg (by simp [hc])]; exact hpf
        clear hc hpf hps
        go_wp2_with (at_builtin; go_must (refine wpList_append_own _ rfl _ _ 288 rfl (w.heap.size + 1) 233 i0 (.pointer none) 1 8 Tryz.underlying288 hi0 hz0 hz1 hz2 rfl (by decide) _ k (ps.map Value.pointer) rfl ?c0 ⟨wr.heap.size, 0, none⟩ 1 1 [.pointer (some ad)] rfl rfl ?c1 ?c2 ?c3 ?c4 ?c5 ?_))
        case c0 => exact (unhide HOW).alloc _
        case c1 =>
          intro j u hj
          match j, hj with
          | 0, hj => simp at hj; subst hj; exact (cell_of_blk (blk_alloc _ _) 0).trans rfl
          | j + 1, hj => simp at hj
        case c2 => intro u hu; simp at hu; subst hu; rfl
        case c3 => unfold maxLen; omega
        case c4 => omega
        case c5 => simp; omega
        intro v3 w3 hown3 hgrow3 _
        have hol := own_lt (unhide HOW)
        have HB3 := hide (((unhide HBEL).alloc (by omega) _).grown hgrow3 (by simp; omega) (fun j hj => (hol j hj).1))
        have HK3 := hide ((KT.alloc wr (.cells #[.pointer (some ad)] 233)).trans (KT.ownE hgrow3 ((unhide HOW).alloc _) (by decide) (by decide)))
        have HO3 : Hid (w3.ownsRow (w.heap.size + 1) 233 1 v3 (k + 1) ((ps ++ [(some ad)]).map Value.pointer)) := by rw [List.map_append]; exact hown3
        have HF3 := hide (FsAre.snoc ((unhide HK3).fs (unhide HFS)) ((unhide HK3).isF (unhide HF2)))
        have HTK : Hid (rs.take (k + 1) = rs.take k ++ [r]) := by
          show _ = _
          rw [List.take_add_one]
          have : rs[k]? = some r := by
            have := congrArg (fun l => l[0]?) (unhide HRL)
            simpa using this
          rw [this]; rfl
        clear hown3 hgrow3 hol
        go_wp2_with fail
        go_roundw
        case rel =>
          refine ⟨k + 1, ps ++ [(some ad)], by omega, by simp; omega, by go_num, unhide HO3, ?_, unhide HB3⟩
          rw [unhide HTK]; exact unhide HF3
        case measure => simp [intOf]; omega
    · go_wp2_with fail
      go_ret
      have hkk : k = rs.length := by omega
      subst hkk
      have hfs := unhide HFS
      rw [List.take_length] at hfs
      exact ⟨_, ps, rfl, owns_mono (unhide HOW) (by omega), hfs, unhide HBW⟩
end Go.Proofs.YtidakhhekofkoaaGreatDoor
