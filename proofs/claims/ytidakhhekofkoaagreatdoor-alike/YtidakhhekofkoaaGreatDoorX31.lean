/- The program's templates: their formulas. -/
import Derived.Test.YtidakhhekofkoaaGreatDoorX30
set_option linter.unusedSimpArgs false
namespace Go.Proofs.YtidakhhekofkoaaGreatDoor
open Go.RowKit Go.Deep
set_option maxHeartbeats 400000 in
theorem sh_not (f : Fm) (p : Option Addr) (w : World) : Calls Tryz.prog 233 #[.pointer p] w fun e w' => ∃ v, e = .returned (.pointer v) ∧ (IsG w f p → IsG w' (one 4 f) v) ∧ Below w.heap.size w w' := by
 go_enter Tryz.func233, Tryz.ntmps233
 go_wp2_with fail
 refine (fOne_any 4 f p _).mono ?_
 rintro e w1 ⟨v, rfl, hv, hb⟩
 have HV := hide hv
 have HB := hide hb
 clear hv hb
 go_wp2_with fail
 go_ret
 exact ⟨v, rfl, unhide HV, unhide HB⟩
set_option maxHeartbeats 400000 in
theorem sh_next (f : Fm) (p : Option Addr) (w : World) : Calls Tryz.prog 267 #[.pointer p] w fun e w' => ∃ v, e = .returned (.pointer v) ∧ (IsG w f p → IsG w' (one 5 f) v) ∧ Below w.heap.size w w' := by
 go_enter Tryz.func267, Tryz.ntmps267
 go_wp2_with fail
 refine (fOne_any 5 f p _).mono ?_
 rintro e w1 ⟨v, rfl, hv, hb⟩
 have HV := hide hv
 have HB := hide hb
 clear hv hb
 go_wp2_with fail
 go_ret
 exact ⟨v, rfl, unhide HV, unhide HB⟩
set_option maxHeartbeats 400000 in
theorem sh_weakNext (f : Fm) (p : Option Addr) (w : World) : Calls Tryz.prog 274 #[.pointer p] w fun e w' => ∃ v, e = .returned (.pointer v) ∧ (IsG w f p → IsG w' (one 6 f) v) ∧ Below w.heap.size w w' := by
 go_enter Tryz.func274, Tryz.ntmps274
 go_wp2_with fail
 refine (fOne_any 6 f p _).mono ?_
 rintro e w1 ⟨v, rfl, hv, hb⟩
 have HV := hide hv
 have HB := hide hb
 clear hv hb
 go_wp2_with fail
 go_ret
 exact ⟨v, rfl, unhide HV, unhide HB⟩
set_option maxHeartbeats 400000 in
theorem sh_finally (f : Fm) (p : Option Addr) (w : World) : Calls Tryz.prog 265 #[.pointer p] w fun e w' => ∃ v, e = .returned (.pointer v) ∧ (IsG w f p → IsG w' (one 7 f) v) ∧ Below w.heap.size w w' := by
 go_enter Tryz.func265, Tryz.ntmps265
 go_wp2_with fail
 refine (fOne_any 7 f p _).mono ?_
 rintro e w1 ⟨v, rfl, hv, hb⟩
 have HV := hide hv
 have HB := hide hb
 clear hv hb
 go_wp2_with fail
 go_ret
 exact ⟨v, rfl, unhide HV, unhide HB⟩
set_option maxHeartbeats 400000 in
theorem sh_globally (f : Fm) (p : Option Addr) (w : World) : Calls Tryz.prog 270 #[.pointer p] w fun e w' => ∃ v, e = .returned (.pointer v) ∧ (IsG w f p → IsG w' (one 8 f) v) ∧ Below w.heap.size w w' := by
 go_enter Tryz.func270, Tryz.ntmps270
 go_wp2_with fail
 refine (fOne_any 8 f p _).mono ?_
 rintro e w1 ⟨v, rfl, hv, hb⟩
 have HV := hide hv
 have HB := hide hb
 clear hv hb
 go_wp2_with fail
 go_ret
 exact ⟨v, rfl, unhide HV, unhide HB⟩
set_option maxHeartbeats 400000 in
theorem sh_until (f g : Fm) (p q : Option Addr) (w : World) : Calls Tryz.prog 273 #[.pointer p, .pointer q] w fun e w' => ∃ v, e = .returned (.pointer v) ∧ (IsG w f p → IsG w g q → IsG w' (two 9 f g) v) ∧ Below w.heap.size w w' := by
 go_enter Tryz.func273, Tryz.ntmps273
 go_wp2_with fail
 refine (fTwo_any 9 f g p q _).mono ?_
 rintro e w1 ⟨v, rfl, hv, hb⟩
 have HV := hide hv
 have HB := hide hb
 clear hv hb
 go_wp2_with fail
 go_ret
 exact ⟨v, rfl, unhide HV, unhide HB⟩
set_option maxHeartbeats 400000 in
theorem sh_and (f g : Fm) (p q : Option Addr) (w : World) : Calls Tryz.prog 266 #[.pointer p, .pointer q] w fun e w' => ∃ v, e = .returned (.pointer v) ∧ (IsG w f p → IsG w g q → IsG w' (two 10 f g) v) ∧ Below w.heap.size w w' := by
 go_enter Tryz.func266, Tryz.ntmps266
 go_wp2_with fail
 refine (fTwo_any 10 f g p q _).mono ?_
 rintro e w1 ⟨v, rfl, hv, hb⟩
 have HV := hide hv
 have HB := hide hb
 clear hv hb
 go_wp2_with fail
 go_ret
 exact ⟨v, rfl, unhide HV, unhide HB⟩
set_option maxHeartbeats 400000 in
theorem sh_or (f g : Fm) (p q : Option Addr) (w : World) : Calls Tryz.prog 272 #[.pointer p, .pointer q] w fun e w' => ∃ v, e = .returned (.pointer v) ∧ (IsG w f p → IsG w g q → IsG w' (two 11 f g) v) ∧ Below w.heap.size w w' := by
 go_enter Tryz.func272, Tryz.ntmps272
 go_wp2_with fail
 refine (fTwo_any 11 f g p q _).mono ?_
 rintro e w1 ⟨v, rfl, hv, hb⟩
 have HV := hide hv
 have HB := hide hb
 clear hv hb
 go_wp2_with fail
 go_ret
 exact ⟨v, rfl, unhide HV, unhide HB⟩
set_option maxHeartbeats 400000 in
theorem sh_implies (f g : Fm) (p q : Option Addr) (w : World) : Calls Tryz.prog 271 #[.pointer p, .pointer q] w fun e w' => ∃ v, e = .returned (.pointer v) ∧ (IsG w f p → IsG w g q → IsG w' (two 12 f g) v) ∧ Below w.heap.size w w' := by
 go_enter Tryz.func271, Tryz.ntmps271
 go_wp2_with fail
 refine (fTwo_any 12 f g p q _).mono ?_
 rintro e w1 ⟨v, rfl, hv, hb⟩
 have HV := hide hv
 have HB := hide hb
 clear hv hb
 go_wp2_with fail
 go_ret
 exact ⟨v, rfl, unhide HV, unhide HB⟩
set_option maxHeartbeats 1000000 in
theorem some_any (a : ByteArray) : ∀ (n : Nat) (pa : Option Addr) (w : World), n ≤ 9 → IsG w (acF a) pa →
  Calls Tryz.prog 231 #[.pointer pa, .int .i64 (n : Int)] w fun e w' => ∃ v, e = .returned (.pointer v) ∧ IsG w' (timesF a n) v ∧ Below w.heap.size w w'
 | 0, pa, w, _, ha => by
  have HA := hide ha
  clear ha
  go_enter Tryz.func231, Tryz.ntmps231
  go_wp2_with fail
  refine (sh_finally (acF a) pa _).mono ?_
  rintro e w1 ⟨p1, rfl, h1, hb1⟩
  have G1 := hide (h1 (unhide HA))
  have HB := hide hb1
  clear h1 hb1
  go_wp2_with fail
  go_ret
  exact ⟨p1, rfl, unhide G1, unhide HB⟩
 | 1, pa, w, _, ha => by
  have HA := hide ha
  clear ha
  go_enter Tryz.func231, Tryz.ntmps231
  go_wp2_with fail
  refine (sh_finally (acF a) pa _).mono ?_
  rintro e w1 ⟨p1, rfl, h1, hb1⟩
  have G1 := hide (h1 (unhide HA))
  have HB := hide hb1
  clear h1 hb1
  go_wp2_with fail
  go_ret
  exact ⟨p1, rfl, unhide G1, unhide HB⟩
 | n + 2, pa, w, hn, ha => by
  have HA := hide ha
  have HI := hide (some_any a (n + 1))
  have hle : ¬ ((n + 2 : Nat) : Int) ≤ 1 := by omega
  have he : ((n + 2 : Nat) : Int) - 1 = ((n + 1 : Nat) : Int) := by omega
  clear ha
  generalize hm : ((n + 2 : Nat) : Int) = m at *
  have hm1 : m ≤ 100 := by omega
  have hm2 : 1 < m := by omega
  have HE := hide he
  clear he hm
  go_enter Tryz.func231, Tryz.ntmps231
  go_wp2_with fail
  rw [unhide HE]
  refine ((unhide HI) pa _ (by omega) (unhide HA)).mono ?_
  rintro e w1 ⟨p1, rfl, h1, hb1⟩
  have G1 := hide h1
  have HA := hide ((unhide HA).later hb1)
  have HB := hide hb1
  clear h1 hb1
  go_wp2_with fail
  refine (sh_next (timesF a (n + 1)) p1 _).mono ?_
  rintro e w2 ⟨p2, rfl, h2, hb2⟩
  have G2 := hide (h2 (unhide G1))
  have HA := hide ((unhide HA).later hb2)
  have HB := hide ((unhide HB).trans (hb2.mono (unhide HB).size))
  clear h2 hb2
  go_wp2_with fail
  refine (sh_and (acF a) (one 5 (timesF a (n + 1))) pa p2 _).mono ?_
  rintro e w3 ⟨p3, rfl, h3, hb3⟩
  have G3 := hide (h3 (unhide HA) (unhide G2))
  have HB := hide ((unhide HB).trans (hb3.mono (unhide HB).size))
  clear h3 hb3
  go_wp2_with fail
  refine (sh_finally (two 10 (acF a) (one 5 (timesF a (n + 1)))) p3 _).mono ?_
  rintro e w4 ⟨p4, rfl, h4, hb4⟩
  have G4 := hide (h4 (unhide G3))
  have HB := hide ((unhide HB).trans (hb4.mono (unhide HB).size))
  clear h4 hb4
  go_wp2_with fail
  go_ret
  exact ⟨p4, rfl, unhide G4, unhide HB⟩
set_option maxHeartbeats 1000000 in
theorem tp_init (a b : ByteArray) (n : Nat) (pa pb : Option Addr) (w : World) (ha : IsG w (acF a) pa) : Calls Tryz.prog 228 #[.pointer pa, .pointer pb, .int .i64 (n : Int)] w fun e w' => ∃ v, e = .returned (.pointer v) ∧ IsG w' (tplF 0 a b n) v ∧ Below w.heap.size w w' := by
 have HA := hide ha
 have HB := hide (Below.refl w.heap.size w)
 clear ha
 go_enter Tryz.func228, Tryz.ntmps228
 go_wp2_with fail
 go_ret
 exact ⟨pa, rfl, unhide HA, unhide HB⟩
set_option maxHeartbeats 1000000 in
theorem tp_last (a b : ByteArray) (n : Nat) (pa pb : Option Addr) (w : World) (ha : IsG w (acF a) pa) : Calls Tryz.prog 229 #[.pointer pa, .pointer pb, .int .i64 (n : Int)] w fun e w' => ∃ v, e = .returned (.pointer v) ∧ IsG w' (tplF 1 a b n) v ∧ Below w.heap.size w w' := by
 have HA := hide ha
 have HB := hide (Below.refl w.heap.size w)
 clear ha
 go_enter Tryz.func229, Tryz.ntmps229
 go_wp2_with fail
 refine (fWord_any 1 _).mono ?_
 rintro e w1 ⟨p1, rfl, h1, hb1⟩
 have G1 := hide h1
 have HA := hide ((unhide HA).later hb1)
 have HB := hide ((unhide HB).trans (hb1.mono (unhide HB).size))
 clear h1 hb1
 go_wp2_with fail
 refine (sh_next (leaf 1 ByteArray.empty 0) p1 _).mono ?_
 rintro e w2 ⟨p2, rfl, h2, hb2⟩
 have G2 := hide (h2 (unhide G1))
 have G1 := hide ((unhide G1).later hb2)
 have HA := hide ((unhide HA).later hb2)
 have HB := hide ((unhide HB).trans (hb2.mono (unhide HB).size))
 clear h2 hb2
 go_wp2_with fail
 refine (sh_not (one 5 (leaf 1 ByteArray.empty 0)) p2 _).mono ?_
 rintro e w3 ⟨p3, rfl, h3, hb3⟩
 have G3 := hide (h3 (unhide G2))
 have G1 := hide ((unhide G1).later hb3)
 have G2 := hide ((unhide G2).later hb3)
 have HA := hide ((unhide HA).later hb3)
 have HB := hide ((unhide HB).trans (hb3.mono (unhide HB).size))
 clear h3 hb3
 go_wp2_with fail
 refine (sh_and (acF a) (one 4 (one 5 (leaf 1 ByteArray.empty 0))) pa p3 _).mono ?_
 rintro e w4 ⟨p4, rfl, h4, hb4⟩
 have G4 := hide (h4 (unhide HA) (unhide G3))
 have G1 := hide ((unhide G1).later hb4)
 have G2 := hide ((unhide G2).later hb4)
 have G3 := hide ((unhide G3).later hb4)
 have HA := hide ((unhide HA).later hb4)
 have HB := hide ((unhide HB).trans (hb4.mono (unhide HB).size))
 clear h4 hb4
 go_wp2_with fail
 refine (sh_finally (two 10 (acF a) (one 4 (one 5 (leaf 1 ByteArray.empty 0)))) p4 _).mono ?_
 rintro e w5 ⟨p5, rfl, h5, hb5⟩
 have G5 := hide (h5 (unhide G4))
 have G1 := hide ((unhide G1).later hb5)
 have G2 := hide ((unhide G2).later hb5)
 have G3 := hide ((unhide G3).later hb5)
 have G4 := hide ((unhide G4).later hb5)
 have HA := hide ((unhide HA).later hb5)
 have HB := hide ((unhide HB).trans (hb5.mono (unhide HB).size))
 clear h5 hb5
 go_wp2_with fail
 go_ret
 exact ⟨p5, rfl, unhide G5, unhide HB⟩
set_option maxHeartbeats 1000000 in
theorem tp_some (a b : ByteArray) (n : Nat) (pa pb : Option Addr) (w : World) (ha : IsG w (acF a) pa) (hn : n ≤ 9) : Calls Tryz.prog 230 #[.pointer pa, .pointer pb, .int .i64 (n : Int)] w fun e w' => ∃ v, e = .returned (.pointer v) ∧ IsG w' (tplF 2 a b n) v ∧ Below w.heap.size w w' := by
 have HA := hide ha
 have HB := hide (Below.refl w.heap.size w)
 clear ha
 go_enter Tryz.func230, Tryz.ntmps230
 go_wp2_with fail
 refine (some_any a n _ _ hn (unhide HA)).mono ?_
 rintro e w1 ⟨p1, rfl, h1, hb1⟩
 have G1 := hide h1
 have HA := hide ((unhide HA).later hb1)
 have HB := hide ((unhide HB).trans (hb1.mono (unhide HB).size))
 clear h1 hb1
 go_wp2_with fail
 go_ret
 exact ⟨p1, rfl, unhide G1, unhide HB⟩
set_option maxHeartbeats 1000000 in
theorem tp_few (a b : ByteArray) (n : Nat) (pa pb : Option Addr) (w : World) (ha : IsG w (acF a) pa) (hn : n ≤ 9) : Calls Tryz.prog 232 #[.pointer pa, .pointer pb, .int .i64 (n : Int)] w fun e w' => ∃ v, e = .returned (.pointer v) ∧ IsG w' (tplF 3 a b n) v ∧ Below w.heap.size w w' := by
 have HA := hide ha
 have HB := hide (Below.refl w.heap.size w)
 clear ha
 go_enter Tryz.func232, Tryz.ntmps232
 go_wp2_with fail
 refine (some_any a n _ _ hn (unhide HA)).mono ?_
 rintro e w1 ⟨p1, rfl, h1, hb1⟩
 have G1 := hide h1
 have HA := hide ((unhide HA).later hb1)
 have HB := hide ((unhide HB).trans (hb1.mono (unhide HB).size))
 clear h1 hb1
 go_wp2_with fail
 refine (sh_not (timesF a n) p1 _).mono ?_
 rintro e w2 ⟨p2, rfl, h2, hb2⟩
 have G2 := hide (h2 (unhide G1))
 have G1 := hide ((unhide G1).later hb2)
 have HA := hide ((unhide HA).later hb2)
 have HB := hide ((unhide HB).trans (hb2.mono (unhide HB).size))
 clear h2 hb2
 go_wp2_with fail
 go_ret
 exact ⟨p2, rfl, unhide G2, unhide HB⟩
set_option maxHeartbeats 1000000 in
theorem tp_response (a b : ByteArray) (n : Nat) (pa pb : Option Addr) (w : World) (ha : IsG w (acF a) pa) (hb0 : IsG w (acF b) pb) : Calls Tryz.prog 234 #[.pointer pa, .pointer pb, .int .i64 (n : Int)] w fun e w' => ∃ v, e = .returned (.pointer v) ∧ IsG w' (tplF 4 a b n) v ∧ Below w.heap.size w w' := by
 have HA := hide ha
 have HBB := hide hb0
 have HB := hide (Below.refl w.heap.size w)
 clear ha hb0
 go_enter Tryz.func234, Tryz.ntmps234
 go_wp2_with fail
 refine (sh_finally (acF b) pb _).mono ?_
 rintro e w1 ⟨p1, rfl, h1, hb1⟩
 have G1 := hide (h1 (unhide HBB))
 have HA := hide ((unhide HA).later hb1)
 have HBB := hide ((unhide HBB).later hb1)
 have HB := hide ((unhide HB).trans (hb1.mono (unhide HB).size))
 clear h1 hb1
 go_wp2_with fail
 refine (sh_implies (acF a) (one 7 (acF b)) pa p1 _).mono ?_
 rintro e w2 ⟨p2, rfl, h2, hb2⟩
 have G2 := hide (h2 (unhide HA) (unhide G1))
 have G1 := hide ((unhide G1).later hb2)
 have HA := hide ((unhide HA).later hb2)
 have HBB := hide ((unhide HBB).later hb2)
 have HB := hide ((unhide HB).trans (hb2.mono (unhide HB).size))
 clear h2 hb2
 go_wp2_with fail
 refine (sh_globally (two 12 (acF a) (one 7 (acF b))) p2 _).mono ?_
 rintro e w3 ⟨p3, rfl, h3, hb3⟩
 have G3 := hide (h3 (unhide G2))
 have G1 := hide ((unhide G1).later hb3)
 have G2 := hide ((unhide G2).later hb3)
 have HA := hide ((unhide HA).later hb3)
 have HBB := hide ((unhide HBB).later hb3)
 have HB := hide ((unhide HB).trans (hb3.mono (unhide HB).size))
 clear h3 hb3
 go_wp2_with fail
 go_ret
 exact ⟨p3, rfl, unhide G3, unhide HB⟩
set_option maxHeartbeats 1000000 in
theorem tp_precede (a b : ByteArray) (n : Nat) (pa pb : Option Addr) (w : World) (ha : IsG w (acF a) pa) (hb0 : IsG w (acF b) pb) : Calls Tryz.prog 235 #[.pointer pa, .pointer pb, .int .i64 (n : Int)] w fun e w' => ∃ v, e = .returned (.pointer v) ∧ IsG w' (tplF 5 a b n) v ∧ Below w.heap.size w w' := by
 have HA := hide ha
 have HBB := hide hb0
 have HB := hide (Below.refl w.heap.size w)
 clear ha hb0
 go_enter Tryz.func235, Tryz.ntmps235
 go_wp2_with fail
 refine (sh_not (acF b) pb _).mono ?_
 rintro e w1 ⟨p1, rfl, h1, hb1⟩
 have G1 := hide (h1 (unhide HBB))
 have HA := hide ((unhide HA).later hb1)
 have HBB := hide ((unhide HBB).later hb1)
 have HB := hide ((unhide HB).trans (hb1.mono (unhide HB).size))
 clear h1 hb1
 go_wp2_with fail
 refine (sh_until (one 4 (acF b)) (acF a) p1 pa _).mono ?_
 rintro e w2 ⟨p2, rfl, h2, hb2⟩
 have G2 := hide (h2 (unhide G1) (unhide HA))
 have G1 := hide ((unhide G1).later hb2)
 have HA := hide ((unhide HA).later hb2)
 have HBB := hide ((unhide HBB).later hb2)
 have HB := hide ((unhide HB).trans (hb2.mono (unhide HB).size))
 clear h2 hb2
 go_wp2_with fail
 refine (sh_not (acF b) pb _).mono ?_
 rintro e w3 ⟨p3, rfl, h3, hb3⟩
 have G3 := hide (h3 (unhide HBB))
 have G1 := hide ((unhide G1).later hb3)
 have G2 := hide ((unhide G2).later hb3)
 have HA := hide ((unhide HA).later hb3)
 have HBB := hide ((unhide HBB).later hb3)
 have HB := hide ((unhide HB).trans (hb3.mono (unhide HB).size))
 clear h3 hb3
 go_wp2_with fail
 refine (sh_globally (one 4 (acF b)) p3 _).mono ?_
 rintro e w4 ⟨p4, rfl, h4, hb4⟩
 have G4 := hide (h4 (unhide G3))
 have G1 := hide ((unhide G1).later hb4)
 have G2 := hide ((unhide G2).later hb4)
 have G3 := hide ((unhide G3).later hb4)
 have HA := hide ((unhide HA).later hb4)
 have HBB := hide ((unhide HBB).later hb4)
 have HB := hide ((unhide HB).trans (hb4.mono (unhide HB).size))
 clear h4 hb4
 go_wp2_with fail
 refine (sh_or (two 9 (one 4 (acF b)) (acF a)) (one 8 (one 4 (acF b))) p2 p4 _).mono ?_
 rintro e w5 ⟨p5, rfl, h5, hb5⟩
 have G5 := hide (h5 (unhide G2) (unhide G4))
 have G1 := hide ((unhide G1).later hb5)
 have G2 := hide ((unhide G2).later hb5)
 have G3 := hide ((unhide G3).later hb5)
 have G4 := hide ((unhide G4).later hb5)
 have HA := hide ((unhide HA).later hb5)
 have HBB := hide ((unhide HBB).later hb5)
 have HB := hide ((unhide HB).trans (hb5.mono (unhide HB).size))
 clear h5 hb5
 go_wp2_with fail
 go_ret
 exact ⟨p5, rfl, unhide G5, unhide HB⟩
set_option maxHeartbeats 1000000 in
theorem tp_chain (a b : ByteArray) (n : Nat) (pa pb : Option Addr) (w : World) (ha : IsG w (acF a) pa) (hb0 : IsG w (acF b) pb) : Calls Tryz.prog 236 #[.pointer pa, .pointer pb, .int .i64 (n : Int)] w fun e w' => ∃ v, e = .returned (.pointer v) ∧ IsG w' (tplF 6 a b n) v ∧ Below w.heap.size w w' := by
 have HA := hide ha
 have HBB := hide hb0
 have HB := hide (Below.refl w.heap.size w)
 clear ha hb0
 go_enter Tryz.func236, Tryz.ntmps236
 go_wp2_with fail
 refine (sh_next (acF b) pb _).mono ?_
 rintro e w1 ⟨p1, rfl, h1, hb1⟩
 have G1 := hide (h1 (unhide HBB))
 have HA := hide ((unhide HA).later hb1)
 have HBB := hide ((unhide HBB).later hb1)
 have HB := hide ((unhide HB).trans (hb1.mono (unhide HB).size))
 clear h1 hb1
 go_wp2_with fail
 refine (sh_implies (acF a) (one 5 (acF b)) pa p1 _).mono ?_
 rintro e w2 ⟨p2, rfl, h2, hb2⟩
 have G2 := hide (h2 (unhide HA) (unhide G1))
 have G1 := hide ((unhide G1).later hb2)
 have HA := hide ((unhide HA).later hb2)
 have HBB := hide ((unhide HBB).later hb2)
 have HB := hide ((unhide HB).trans (hb2.mono (unhide HB).size))
 clear h2 hb2
 go_wp2_with fail
 refine (sh_globally (two 12 (acF a) (one 5 (acF b))) p2 _).mono ?_
 rintro e w3 ⟨p3, rfl, h3, hb3⟩
 have G3 := hide (h3 (unhide G2))
 have G1 := hide ((unhide G1).later hb3)
 have G2 := hide ((unhide G2).later hb3)
 have HA := hide ((unhide HA).later hb3)
 have HBB := hide ((unhide HBB).later hb3)
 have HB := hide ((unhide HB).trans (hb3.mono (unhide HB).size))
 clear h3 hb3
 go_wp2_with fail
 go_ret
 exact ⟨p3, rfl, unhide G3, unhide HB⟩
set_option maxHeartbeats 1000000 in
theorem tp_before (a b : ByteArray) (n : Nat) (pa pb : Option Addr) (w : World) (ha : IsG w (acF a) pa) (hb0 : IsG w (acF b) pb) : Calls Tryz.prog 237 #[.pointer pa, .pointer pb, .int .i64 (n : Int)] w fun e w' => ∃ v, e = .returned (.pointer v) ∧ IsG w' (tplF 7 a b n) v ∧ Below w.heap.size w w' := by
 have HA := hide ha
 have HBB := hide hb0
 have HB := hide (Below.refl w.heap.size w)
 clear ha hb0
 go_enter Tryz.func237, Tryz.ntmps237
 go_wp2_with fail
 refine (sh_not (acF b) pb _).mono ?_
 rintro e w1 ⟨p1, rfl, h1, hb1⟩
 have G1 := hide (h1 (unhide HBB))
 have HA := hide ((unhide HA).later hb1)
 have HBB := hide ((unhide HBB).later hb1)
 have HB := hide ((unhide HB).trans (hb1.mono (unhide HB).size))
 clear h1 hb1
 go_wp2_with fail
 refine (sh_next (acF b) pb _).mono ?_
 rintro e w2 ⟨p2, rfl, h2, hb2⟩
 have G2 := hide (h2 (unhide HBB))
 have G1 := hide ((unhide G1).later hb2)
 have HA := hide ((unhide HA).later hb2)
 have HBB := hide ((unhide HBB).later hb2)
 have HB := hide ((unhide HB).trans (hb2.mono (unhide HB).size))
 clear h2 hb2
 go_wp2_with fail
 refine (sh_implies (one 5 (acF b)) (acF a) p2 pa _).mono ?_
 rintro e w3 ⟨p3, rfl, h3, hb3⟩
 have G3 := hide (h3 (unhide G2) (unhide HA))
 have G1 := hide ((unhide G1).later hb3)
 have G2 := hide ((unhide G2).later hb3)
 have HA := hide ((unhide HA).later hb3)
 have HBB := hide ((unhide HBB).later hb3)
 have HB := hide ((unhide HB).trans (hb3.mono (unhide HB).size))
 clear h3 hb3
 go_wp2_with fail
 refine (sh_globally (two 12 (one 5 (acF b)) (acF a)) p3 _).mono ?_
 rintro e w4 ⟨p4, rfl, h4, hb4⟩
 have G4 := hide (h4 (unhide G3))
 have G1 := hide ((unhide G1).later hb4)
 have G2 := hide ((unhide G2).later hb4)
 have G3 := hide ((unhide G3).later hb4)
 have HA := hide ((unhide HA).later hb4)
 have HBB := hide ((unhide HBB).later hb4)
 have HB := hide ((unhide HB).trans (hb4.mono (unhide HB).size))
 clear h4 hb4
 go_wp2_with fail
 refine (sh_and (one 4 (acF b)) (one 8 (two 12 (one 5 (acF b)) (acF a))) p1 p4 _).mono ?_
 rintro e w5 ⟨p5, rfl, h5, hb5⟩
 have G5 := hide (h5 (unhide G1) (unhide G4))
 have G1 := hide ((unhide G1).later hb5)
 have G2 := hide ((unhide G2).later hb5)
 have G3 := hide ((unhide G3).later hb5)
 have G4 := hide ((unhide G4).later hb5)
 have HA := hide ((unhide HA).later hb5)
 have HBB := hide ((unhide HBB).later hb5)
 have HB := hide ((unhide HB).trans (hb5.mono (unhide HB).size))
 clear h5 hb5
 go_wp2_with fail
 go_ret
 exact ⟨p5, rfl, unhide G5, unhide HB⟩
set_option maxHeartbeats 1000000 in
theorem tp_with (a b : ByteArray) (n : Nat) (pa pb : Option Addr) (w : World) (ha : IsG w (acF a) pa) (hb0 : IsG w (acF b) pb) : Calls Tryz.prog 238 #[.pointer pa, .pointer pb, .int .i64 (n : Int)] w fun e w' => ∃ v, e = .returned (.pointer v) ∧ IsG w' (tplF 8 a b n) v ∧ Below w.heap.size w w' := by
 have HA := hide ha
 have HBB := hide hb0
 have HB := hide (Below.refl w.heap.size w)
 clear ha hb0
 go_enter Tryz.func238, Tryz.ntmps238
 go_wp2_with fail
 refine (sh_finally (acF a) pa _).mono ?_
 rintro e w1 ⟨p1, rfl, h1, hb1⟩
 have G1 := hide (h1 (unhide HA))
 have HA := hide ((unhide HA).later hb1)
 have HBB := hide ((unhide HBB).later hb1)
 have HB := hide ((unhide HB).trans (hb1.mono (unhide HB).size))
 clear h1 hb1
 go_wp2_with fail
 refine (sh_finally (acF b) pb _).mono ?_
 rintro e w2 ⟨p2, rfl, h2, hb2⟩
 have G2 := hide (h2 (unhide HBB))
 have G1 := hide ((unhide G1).later hb2)
 have HA := hide ((unhide HA).later hb2)
 have HBB := hide ((unhide HBB).later hb2)
 have HB := hide ((unhide HB).trans (hb2.mono (unhide HB).size))
 clear h2 hb2
 go_wp2_with fail
 refine (sh_implies (one 7 (acF a)) (one 7 (acF b)) p1 p2 _).mono ?_
 rintro e w3 ⟨p3, rfl, h3, hb3⟩
 have G3 := hide (h3 (unhide G1) (unhide G2))
 have G1 := hide ((unhide G1).later hb3)
 have G2 := hide ((unhide G2).later hb3)
 have HA := hide ((unhide HA).later hb3)
 have HBB := hide ((unhide HBB).later hb3)
 have HB := hide ((unhide HB).trans (hb3.mono (unhide HB).size))
 clear h3 hb3
 go_wp2_with fail
 go_ret
 exact ⟨p3, rfl, unhide G3, unhide HB⟩
set_option maxHeartbeats 1000000 in
theorem tp_apart (a b : ByteArray) (n : Nat) (pa pb : Option Addr) (w : World) (ha : IsG w (acF a) pa) (hb0 : IsG w (acF b) pb) : Calls Tryz.prog 239 #[.pointer pa, .pointer pb, .int .i64 (n : Int)] w fun e w' => ∃ v, e = .returned (.pointer v) ∧ IsG w' (tplF 9 a b n) v ∧ Below w.heap.size w w' := by
 have HA := hide ha
 have HBB := hide hb0
 have HB := hide (Below.refl w.heap.size w)
 clear ha hb0
 go_enter Tryz.func239, Tryz.ntmps239
 go_wp2_with fail
 refine (sh_finally (acF a) pa _).mono ?_
 rintro e w1 ⟨p1, rfl, h1, hb1⟩
 have G1 := hide (h1 (unhide HA))
 have HA := hide ((unhide HA).later hb1)
 have HBB := hide ((unhide HBB).later hb1)
 have HB := hide ((unhide HB).trans (hb1.mono (unhide HB).size))
 clear h1 hb1
 go_wp2_with fail
 refine (sh_finally (acF b) pb _).mono ?_
 rintro e w2 ⟨p2, rfl, h2, hb2⟩
 have G2 := hide (h2 (unhide HBB))
 have G1 := hide ((unhide G1).later hb2)
 have HA := hide ((unhide HA).later hb2)
 have HBB := hide ((unhide HBB).later hb2)
 have HB := hide ((unhide HB).trans (hb2.mono (unhide HB).size))
 clear h2 hb2
 go_wp2_with fail
 refine (sh_and (one 7 (acF a)) (one 7 (acF b)) p1 p2 _).mono ?_
 rintro e w3 ⟨p3, rfl, h3, hb3⟩
 have G3 := hide (h3 (unhide G1) (unhide G2))
 have G1 := hide ((unhide G1).later hb3)
 have G2 := hide ((unhide G2).later hb3)
 have HA := hide ((unhide HA).later hb3)
 have HBB := hide ((unhide HBB).later hb3)
 have HB := hide ((unhide HB).trans (hb3.mono (unhide HB).size))
 clear h3 hb3
 go_wp2_with fail
 refine (sh_not (two 10 (one 7 (acF a)) (one 7 (acF b))) p3 _).mono ?_
 rintro e w4 ⟨p4, rfl, h4, hb4⟩
 have G4 := hide (h4 (unhide G3))
 have G1 := hide ((unhide G1).later hb4)
 have G2 := hide ((unhide G2).later hb4)
 have G3 := hide ((unhide G3).later hb4)
 have HA := hide ((unhide HA).later hb4)
 have HBB := hide ((unhide HBB).later hb4)
 have HB := hide ((unhide HB).trans (hb4.mono (unhide HB).size))
 clear h4 hb4
 go_wp2_with fail
 go_ret
 exact ⟨p4, rfl, unhide G4, unhide HB⟩
set_option maxHeartbeats 1000000 in
theorem tp_never (a b : ByteArray) (n : Nat) (pa pb : Option Addr) (w : World) (ha : IsG w (acF a) pa) (hb0 : IsG w (acF b) pb) : Calls Tryz.prog 240 #[.pointer pa, .pointer pb, .int .i64 (n : Int)] w fun e w' => ∃ v, e = .returned (.pointer v) ∧ IsG w' (tplF 10 a b n) v ∧ Below w.heap.size w w' := by
 have HA := hide ha
 have HBB := hide hb0
 have HB := hide (Below.refl w.heap.size w)
 clear ha hb0
 go_enter Tryz.func240, Tryz.ntmps240
 go_wp2_with fail
 refine (sh_not (acF b) pb _).mono ?_
 rintro e w1 ⟨p1, rfl, h1, hb1⟩
 have G1 := hide (h1 (unhide HBB))
 have HA := hide ((unhide HA).later hb1)
 have HBB := hide ((unhide HBB).later hb1)
 have HB := hide ((unhide HB).trans (hb1.mono (unhide HB).size))
 clear h1 hb1
 go_wp2_with fail
 refine (sh_globally (one 4 (acF b)) p1 _).mono ?_
 rintro e w2 ⟨p2, rfl, h2, hb2⟩
 have G2 := hide (h2 (unhide G1))
 have G1 := hide ((unhide G1).later hb2)
 have HA := hide ((unhide HA).later hb2)
 have HBB := hide ((unhide HBB).later hb2)
 have HB := hide ((unhide HB).trans (hb2.mono (unhide HB).size))
 clear h2 hb2
 go_wp2_with fail
 refine (sh_weakNext (one 8 (one 4 (acF b))) p2 _).mono ?_
 rintro e w3 ⟨p3, rfl, h3, hb3⟩
 have G3 := hide (h3 (unhide G2))
 have G1 := hide ((unhide G1).later hb3)
 have G2 := hide ((unhide G2).later hb3)
 have HA := hide ((unhide HA).later hb3)
 have HBB := hide ((unhide HBB).later hb3)
 have HB := hide ((unhide HB).trans (hb3.mono (unhide HB).size))
 clear h3 hb3
 go_wp2_with fail
 refine (sh_implies (acF a) (one 6 (one 8 (one 4 (acF b)))) pa p3 _).mono ?_
 rintro e w4 ⟨p4, rfl, h4, hb4⟩
 have G4 := hide (h4 (unhide HA) (unhide G3))
 have G1 := hide ((unhide G1).later hb4)
 have G2 := hide ((unhide G2).later hb4)
 have G3 := hide ((unhide G3).later hb4)
 have HA := hide ((unhide HA).later hb4)
 have HBB := hide ((unhide HBB).later hb4)
 have HB := hide ((unhide HB).trans (hb4.mono (unhide HB).size))
 clear h4 hb4
 go_wp2_with fail
 refine (sh_globally (two 12 (acF a) (one 6 (one 8 (one 4 (acF b))))) p4 _).mono ?_
 rintro e w5 ⟨p5, rfl, h5, hb5⟩
 have G5 := hide (h5 (unhide G4))
 have G1 := hide ((unhide G1).later hb5)
 have G2 := hide ((unhide G2).later hb5)
 have G3 := hide ((unhide G3).later hb5)
 have G4 := hide ((unhide G4).later hb5)
 have HA := hide ((unhide HA).later hb5)
 have HBB := hide ((unhide HBB).later hb5)
 have HB := hide ((unhide HB).trans (hb5.mono (unhide HB).size))
 clear h5 hb5
 go_wp2_with fail
 go_ret
 exact ⟨p5, rfl, unhide G5, unhide HB⟩
set_option maxHeartbeats 1000000 in
theorem tp_notNext (a b : ByteArray) (n : Nat) (pa pb : Option Addr) (w : World) (ha : IsG w (acF a) pa) (hb0 : IsG w (acF b) pb) : Calls Tryz.prog 241 #[.pointer pa, .pointer pb, .int .i64 (n : Int)] w fun e w' => ∃ v, e = .returned (.pointer v) ∧ IsG w' (tplF 11 a b n) v ∧ Below w.heap.size w w' := by
 have HA := hide ha
 have HBB := hide hb0
 have HB := hide (Below.refl w.heap.size w)
 clear ha hb0
 go_enter Tryz.func241, Tryz.ntmps241
 go_wp2_with fail
 refine (sh_next (acF b) pb _).mono ?_
 rintro e w1 ⟨p1, rfl, h1, hb1⟩
 have G1 := hide (h1 (unhide HBB))
 have HA := hide ((unhide HA).later hb1)
 have HBB := hide ((unhide HBB).later hb1)
 have HB := hide ((unhide HB).trans (hb1.mono (unhide HB).size))
 clear h1 hb1
 go_wp2_with fail
 refine (sh_not (one 5 (acF b)) p1 _).mono ?_
 rintro e w2 ⟨p2, rfl, h2, hb2⟩
 have G2 := hide (h2 (unhide G1))
 have G1 := hide ((unhide G1).later hb2)
 have HA := hide ((unhide HA).later hb2)
 have HBB := hide ((unhide HBB).later hb2)
 have HB := hide ((unhide HB).trans (hb2.mono (unhide HB).size))
 clear h2 hb2
 go_wp2_with fail
 refine (sh_implies (acF a) (one 4 (one 5 (acF b))) pa p2 _).mono ?_
 rintro e w3 ⟨p3, rfl, h3, hb3⟩
 have G3 := hide (h3 (unhide HA) (unhide G2))
 have G1 := hide ((unhide G1).later hb3)
 have G2 := hide ((unhide G2).later hb3)
 have HA := hide ((unhide HA).later hb3)
 have HBB := hide ((unhide HBB).later hb3)
 have HB := hide ((unhide HB).trans (hb3.mono (unhide HB).size))
 clear h3 hb3
 go_wp2_with fail
 refine (sh_globally (two 12 (acF a) (one 4 (one 5 (acF b)))) p3 _).mono ?_
 rintro e w4 ⟨p4, rfl, h4, hb4⟩
 have G4 := hide (h4 (unhide G3))
 have G1 := hide ((unhide G1).later hb4)
 have G2 := hide ((unhide G2).later hb4)
 have G3 := hide ((unhide G3).later hb4)
 have HA := hide ((unhide HA).later hb4)
 have HBB := hide ((unhide HBB).later hb4)
 have HB := hide ((unhide HB).trans (hb4.mono (unhide HB).size))
 clear h4 hb4
 go_wp2_with fail
 go_ret
 exact ⟨p4, rfl, unhide G4, unhide HB⟩
theorem tplFn_any (k : Nat) (hk : k ≤ 11) (a b : ByteArray) (n : Nat) (pa pb : Option Addr) (w : World) (ha : IsG w (acF a) pa) (hb : 4 ≤ k → IsG w (acF b) pb) (hn : n ≤ 9) :
  Calls Tryz.prog (fnNo k) #[.pointer pa, .pointer pb, .int .i64 (n : Int)] w fun e w' => ∃ v, e = .returned (.pointer v) ∧ IsG w' (tplF k a b n) v ∧ Below w.heap.size w w' := by
 rcases to12 (show k < 12 by omega) with rfl | rfl | rfl | rfl | rfl | rfl | rfl | rfl | rfl | rfl | rfl | rfl
 ·exact tp_init a b n pa pb w ha
 ·exact tp_last a b n pa pb w ha
 ·exact tp_some a b n pa pb w ha hn
 ·exact tp_few a b n pa pb w ha hn
 ·exact tp_response a b n pa pb w ha (hb (by decide))
 ·exact tp_precede a b n pa pb w ha (hb (by decide))
 ·exact tp_chain a b n pa pb w ha (hb (by decide))
 ·exact tp_before a b n pa pb w ha (hb (by decide))
 ·exact tp_with a b n pa pb w ha (hb (by decide))
 ·exact tp_apart a b n pa pb w ha (hb (by decide))
 ·exact tp_never a b n pa pb w ha (hb (by decide))
 ·exact tp_notNext a b n pa pb w ha (hb (by decide))
end Go.Proofs.YtidakhhekofkoaaGreatDoor
