/- At every text the program's Print answers with the text, the place and the error that the reference gives, and the card Prints holds: with no condition. -/
import Derived.Test.YtidakhhekofkoaaGreatDoorK27
import Derived.Test.YtidakhhekofkoaaGreatDoorK32
set_option linter.unusedSimpArgs false
namespace Go.Proofs.YtidakhhekofkoaaGreatDoor
open Go.RowKit Go.Deep
set_option maxHeartbeats 4000000 in
set_option maxRecDepth 100000 in
theorem print_ok : PrintOk := by
 intro s w hG
 have HRD := hide (fun W hW => read_any s W hW)
 have HPM : Hid (printM s = match readM s with | .error x => (⟨#[]⟩, x.1, x.2) | .ok (al, rs) => (txtM al rs, 0, 0)) := rfl
 have HG := hide hG
 clear hG
 go_enter Tryz.func15, Tryz.ntmps15
 go_wp2_with (go_at_call 39; refine ((unhide HRD) _ (unhide HG).g).mono ?_)
 rintro e w1 ⟨hb1, hx⟩
 cases hm : readM s with
 | error x =>
  rw [hm] at hx
  have hx' : e = .returned (.tuple #[.agg #[.slice none 0 0, .slice none 0 0], .agg #[.int .i64 x.1, .int .i64 x.2]]) := hx
  subst hx'
  clear hx
  have hp : printM s = (⟨#[]⟩, x.1, x.2) := by rw [unhide HPM, hm]
  have HP := hide hp
  have hne := readM_err hm
  have hne' : ¬ ((x.2 : Nat) : Int) = 0 := by omega
  have HB1 := hide hb1
  clear hp hm HPM HRD hb1 hne
  go_wp2_with fail
  go_quiet (fail)
  go_wp2_with fail
  refine bodyPost_ret (v := .tuple #[.string ⟨#[]⟩, .int .i64 x.1, .int .i64 x.2]) (by simp [results, Tryz.results15, go_sem]) rfl ?_
  rw [unhide HP]
  have hb := (((unhide HB1).alloc (unhide HB1).size (.cells #[.slice none 0 0, .slice none 0 0] 78)).alloc (by have := (unhide HB1).size; simp; omega) (.cells #[.int .i64 x.1, .int .i64 x.2] 80))
  exact ⟨rfl, hb.trans ((bdn _ _).mono hb.size)⟩
 | ok m =>
  obtain ⟨al, rs⟩ := m
  rw [hm] at hx
  obtain ⟨a1, a2, a3, m1, m2, m3, cs, rfl, ha, hr, hp⟩ := hx
  have HP : Hid (printM s = (txtM al rs, 0, 0)) := by show _ = _; rw [unhide HPM, hm]
  have hg := readM_good hm
  have hbl : Below w1.heap.size w1 ((w1.alloc (.cells #[.slice a1 a2 a3, .slice m1 m2 m3] 78)).alloc (.cells #[.int .i64 0, .int .i64 0] 80)) := ((Below.refl _ _).alloc (Nat.le_refl _) _).alloc (by simp) _
  have HA := hide (owns_later ha hbl)
  have HR := hide (owns_later hr hbl)
  have HBP := hide (hp.keep (KB.below hbl))
  have HB := hide (hb1.trans (hbl.mono hb1.size))
  have HGV := hide ((unhide HG).later (unhide HB))
  have HGD : Hid (∀ r ∈ rs, RlGood TkS 401 r ∧ (r.call = true → r.word.s.toList ≠ []) ∧ (ruT r).size ≤ 200000) := fun r hr' =>
   ⟨hg.rules r hr', fun hc => callK_word (call_k (fun t h => h.1) (hg.rules r hr') hc ((fRules_nil (List.append_eq_nil_iff.1 hg.nof).2 r hr').2 hc)), ruT_size (hg.rules r hr')⟩
  have HJN := hide (jnB_size (al := al) (fun t ht => (hg.acts t ht).1.2) hg.alen)
  have HTX := hide (mtxt_eq hg.ne hg.rules)
  have HNE := hide hg.ne
  have hal := hg.alen
  have hrl := hg.rlen
  clear hm ha hr hp hg hbl hb1 HPM HRD
  go_wp2_with fail
  refine (mtext_any TkS _ al rs a1 a2 a3 m1 m2 m3 cs (unhide HA) (unhide HNE) hal (unhide HJN) (unhide HR) (unhide HBP) hrl (unhide HGD) (unhide HGV)).mono ?_
  rintro e w2 ⟨rfl, hb2⟩
  rw [unhide HTX]
  have HB2 := hide ((unhide HB).trans (hb2.mono (unhide HB).size))
  clear hb2
  go_wp2_with fail
  refine bodyPost_ret (v := .tuple #[.string (txtM al rs), .int .i64 0, .int .i64 0]) (by simp [results, Tryz.results15, go_sem]) rfl ?_
  rw [unhide HP]
  exact ⟨rfl, unhide HB2⟩
end Go.Proofs.YtidakhhekofkoaaGreatDoor
