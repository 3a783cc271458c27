/- Back answers true, of any text, any bytes, any numbers. -/
import Derived.Test.YtidakhhekofkoaaGreatDoorZ43
import Derived.Test.YtidakhhekofkoaaGreatDoorZ31
import Derived.Test.YtidakhhekofkoaaGreatDoorZ46
import Derived.Laws.IdiomStrings
set_option linter.unusedSimpArgs false
set_option linter.unusedVariables false
namespace Go.Proofs.YtidakhhekofkoaaGreatDoor
open Rt
open Go.RowKit Go.Deep
theorem RightT.small {t : Tb} (h : RightT t) : t.acts.length ≤ 1000 ∧ t.nx.length ≤ 1000 ∧ t.fl.length ≤ 1000 ∧ ∀ r ∈ t.nx, r.length ≤ 1000 := by
 have h1 := h.acts.n6
 have h2 := h.n100
 have h3 := h.fl
 exact ⟨by omega, by omega, by omega, fun r hr => by have := (h.rs r hr).1; omega⟩
theorem Encode_t (w : World) (ao fo no : Option Addr) (ac fc nc na nf nn : Nat) (t : Tb) (hI : TbI w ao fo no ac t.z) (hG : GV w) (hna : na = t.acts.length) (hnf : nf = t.fl.length) (hnn : nn = t.nx.length) (hR : RightT t) :
  Calls Tryz.prog 26 #[.agg #[.slice ao na ac, .slice fo nf fc, .slice no nn nc]] w fun e w' => e = .returned (.tuple #[.string ⟨(encB t).toArray⟩, .int .i64 0]) ∧ Below w.heap.size w w' := by
 have e1 : t.z.fl.length = nf := by rw [hnf]; exact zI_len _
 have e2 : t.z.nx.length = nn := by rw [hnn]; unfold Tb.z; simp
 have e3 : t.z.acts.length = na := by rw [hna]; rfl
 have := Encode_any w ao fo no ac fc nc t.z hI hG
 rw [e1, e2, e3] at this
 refine this.mono ?_
 rintro e w' ⟨⟨u, hu, _, he⟩ | ⟨hn, _⟩, hb⟩
 ·rw [← Tb.z_inj hu] at he
  exact ⟨he, hb⟩
 ·exact absurd ((rightZ_t t).2 hR) hn
theorem Decode_none (w : World) (s : ByteArray) (hG : GV w) (h : ∀ o, DecR s.data.toList o → o = none) :
  Calls Tryz.prog 27 #[.string s] w fun e w' => e = .returned (.tuple #[.agg #[.slice none 0 0, .slice none 0 0, .slice none 0 0], .int .i64 6]) ∧ Below w.heap.size w w' := by
 refine (Decode_any w s hG).mono ?_
 rintro e w' ⟨o, ho, hd⟩
 rw [h o ho] at hd
 exact ⟨hd.2, hd.1⟩
def DecT (t : Tb) (w w' : World) (e : Ending) : Prop := ∃ ao fo no ac fc nc rv, e = .returned (.tuple #[.agg #[.slice ao t.acts.length ac, .slice fo t.fl.length fc, .slice no t.nx.length nc], .int .i64 0]) ∧ TbW w' w.heap.size (.slice ao t.acts.length ac) (.slice fo t.fl.length fc) (.slice no t.nx.length nc) t rv ∧ RightT t ∧ Below w.heap.size w w'
theorem DecT.of {t : Tb} {w w' : World} {e : Ending} {ty : List Value → Value} (hty : ty [.bool true] = .int .i64 0) (hR : RightT t) (h : DecP ty w (some t) w' e) : DecT t w w' e := by
 obtain ⟨hb, A, F, X, rv, he, htab⟩ := h
 obtain ⟨ao, ac, rfl⟩ := owns_val htab.acts
 obtain ⟨fo, fc, rfl⟩ := owns_val htab.fl
 obtain ⟨no, nc, rfl⟩ := owns_val htab.nx
 rw [hty] at he
 exact ⟨ao, fo, no, ac, fc, nc, rv, he, htab, hR, hb⟩
theorem Decode_some (w : World) (t : Tb) (s : ByteArray) (hs : s.data.toList = encB t) (hG : GV w) (hR : RightT t) :
  Calls Tryz.prog 27 #[.string s] w fun e w' => DecT t w w' e := by
 refine (Decode_any w s hG).mono ?_
 rintro e w' ⟨o, ho, hd⟩
 rw [hs] at ho
 rw [dec_same hR ho] at hd
 exact DecT.of rfl hR hd
def CmpA (s : ByteArray) (w w' : World) (e : Ending) : Prop := (∃ t, DecT t w w' e) ∨ ∃ x : Int, x ≠ 0 ∧ e = .returned (.tuple #[.agg #[.slice none 0 0, .slice none 0 0, .slice none 0 0], .int .i64 x]) ∧ Below w.heap.size w w' ∧ s ≠ firstB
theorem CmpP.cases {s : ByteArray} {w w' : World} {e : Ending} (h : CmpP s w w' e) : CmpA s w w' e := by
 obtain ⟨al1, rs1, T, f1, f2⟩ := first_tab
 unfold CmpP at h
 cases hr : readM s with
 | error x =>
  rw [hr] at h
  have hne := readM_err hr
  refine Or.inr ⟨(x.2 : Int), by have : x.2 ≠ 0 := hne; omega, h.2, h.1, fun e => ?_⟩
  rw [e, f1] at hr
  cases hr
 | ok m =>
  obtain ⟨al, rs⟩ := m
  rw [hr] at h
  obtain ⟨o, ho, hd⟩ := h
  cases o with
  | none =>
   refine Or.inr ⟨5, by decide, hd.2, hd.1, fun e => ?_⟩
   rw [e, f1] at hr
   cases hr
   cases comp_uniq ho f2
  | some t => exact Or.inl ⟨t, DecT.of rfl (comp_right hr ho) hd⟩
structure ByB (w : World) (b : Nat) (l : List UInt8) : Prop where
 ex : ∃ (c : Array Value) (ty n : Nat), w.heap[b]? = some (.cells c ty (n, n + 1)) ∧ l.length ≤ n ∧ ∀ (j : Nat) (x : UInt8), l[j]? = some x → c[j]? = some (.int .u8 (x.toNat : Int))
theorem ByB.cell {w : World} {b : Nat} {l : List UInt8} (h : ByB w b l) {j : Nat} {x : UInt8} (hx : l[j]? = some x) : w.cell? ⟨b, j, none⟩ = some (.int .u8 (x.toNat : Int)) := by
 obtain ⟨c, ty, n, h1, _, h3⟩ := h.ex
 rw [cell_of_blk h1, h3 j x hx]
theorem ByB.frozen {w : World} {b : Nat} {l : List UInt8} (h : ByB w b l) {j : Nat} (hj : j < l.length) : w.frozen? ⟨b, j, none⟩ = false := by
 obtain ⟨c, ty, n, h1, h2, _⟩ := h.ex
 simp [World.frozen?, h1]
 omega
theorem ByB.lt {w : World} {b : Nat} {l : List UInt8} (h : ByB w b l) : b < w.heap.size := by
 obtain ⟨c, ty, n, h1, _⟩ := h.ex
 exact lt_of_blk h1
theorem ByB.set {w : World} {b : Nat} {l : List UInt8} (h : ByB w b l) (k : Nat) (d : UInt8) : ByB (w.setCell ⟨b, k, none⟩ (.int .u8 (d.toNat : Int))) b (l.set k d) := by
 obtain ⟨c, ty, n, h1, h2, h3⟩ := h.ex
 refine ⟨_, ty, n, blk_set h1 k _, by rw [List.length_set]; exact h2, fun j x hx => ?_⟩
 rw [List.getElem?_set] at hx
 rw [Array.getElem?_setIfInBounds]
 by_cases e : k = j
 ·rw [if_pos e] at hx ⊢
  split at hx
  ·rename_i hl
   cases hx
   have hkc : k < c.size := by
    have := h3 k l[k] (List.getElem?_eq_getElem (by omega))
    exact (Array.getElem?_eq_some_iff.1 this).1
   rw [if_pos hkc]
  ·cases hx
 ·rw [if_neg e] at hx ⊢
  exact h3 j x hx
theorem ByB.back {w : World} {b cap n : Nat} {l : List UInt8} (h : ByB w b l) (hn : n = l.length) :
  (convert 51 9 (.slice (some ⟨b, 0, none⟩) n cap)).run Tryz.prog w = .ok (.string ⟨l.toArray⟩) w := by
 subst hn
 refine run_convert_bytes_back (P := Tryz.prog) w 51 9 5 ⟨b, 0, none⟩ cap l Tryz.underlying51 Tryz.underlying5 Tryz.underlying9 (fun j hj => ?_)
 rw [Addr.add_lit]
 simpa using h.cell (List.getElem?_eq_getElem hj)
theorem byB_of {w : World} (s : ByteArray) (cap : Nat) : ByB (w.drew.alloc (.cells (bytesRow s cap) 5 ((bytesRow s cap).size, (bytesRow s cap).size + 1))) w.heap.size s.data.toList := by
 refine ⟨_, _, _, blk_alloc' _ _ _ rfl, ?_, fun j x hx => ?_⟩
 ·unfold bytesRow
  simp
 ·unfold bytesRow
  have hj := (List.getElem?_eq_some_iff.1 hx).1
  rw [Array.getElem?_append_left (by simpa using hj)]
  simp only [Array.getElem?_map]
  rw [← Array.getElem?_toList, hx]
  rfl
theorem ext_last (S : ByteArray) : (S.extract 0 (S.size - 1)).data.toList = S.data.toList.dropLast := by
 rw [ByteArray.data_extract, Array.toList_extract, List.dropLast_eq_take, List.extract_eq_take_drop]
 simp [size_data]
theorem app_last (S : ByteArray) (d : UInt8) : (S ++ ⟨#[d]⟩).data.toList = S.data.toList ++ [d] := by
 rw [ByteArray.data_append]
 simp
set_option maxHeartbeats 8000000 in
set_option maxRecDepth 100000 in
theorem Back_any (s raw : ByteArray) (at' v : Int) (w : World) (hG : GV w) (h0 : -9223372036854775808 ≤ at') (h1 : at' ≤ 9223372036854775807) (g0 : -9223372036854775808 ≤ v) (g1 : v ≤ 9223372036854775807) :
  Calls Tryz.prog 9 #[.string s, .string raw, .int .i64 at', .int .i64 v] w fun e w' => e = .returned (.bool true) ∧ Below w.heap.size w w' := by
 have HG := hide hG
 have H01 := hide (And.intro h0 h1)
 have HCM := hide (Compile_any s w hG)
 clear hG h0 h1
 go_enter Tryz.func9, Tryz.ntmps9
 go_wp2_with fail
 refine (unhide HCM).mono ?_
 clear HCM
 rintro e w1 hm
 rcases hm.cases with ⟨t, ao, fo, no, ac, fc, nc, rv, rfl, hT, hR, hb1⟩ | ⟨x, hx, rfl, hb1, hsf⟩
 ·have hba : Below w1.heap.size w1 (w1.alloc (.cells #[.slice ao t.acts.length ac, .slice fo t.fl.length fc, .slice no t.nx.length nc] 36)) := (Below.refl _ _).alloc (Nat.le_refl _) _
  have HB := hide (hb1.trans (hba.mono hb1.size))
  have HBL := hide (blk_alloc w1 (.cells #[.slice ao t.acts.length ac, .slice fo t.fl.length fc, .slice no t.nx.length nc] 36))
  have HT := hide ((hT.later hba).read hR.small).1
  have HR := hide hR
  have hbl := fun o => cell_of_blk (unhide HBL) o
  have hll := lt_of_blk (unhide HBL)
  have HEN := hide (Encode_t _ ao fo no ac fc nc _ _ _ t (unhide HT) ((unhide HG).later (unhide HB)) rfl rfl rfl hR)
  clear hT hR hba hm hb1
  go_wp2_with fail
  refine (unhide HEN).mono ?_
  clear HEN hbl hll
  generalize w1.alloc (.cells #[.slice ao t.acts.length ac, .slice fo t.fl.length fc, .slice no t.nx.length nc] 36) = W at *
  generalize w1.heap.size = tb at *
  rintro e w4 ⟨rfl, hb4⟩
  have HB4 := hide ((unhide HB).trans (hb4.mono (unhide HB).size))
  have HBL4 := hide ((hb4.block _ (lt_of_blk (unhide HBL))).trans (unhide HBL))
  have HT4 := hide ((unhide HT).later hb4)
  have HS : Hid ((⟨(encB t).toArray⟩ : ByteArray).data.toList = encB t) := hide rfl
  have hsz : 10 ≤ (⟨(encB t).toArray⟩ : ByteArray).size ∧ (⟨(encB t).toArray⟩ : ByteArray).size ≤ 1000 := ⟨(unhide HR).many, (unhide HR).few⟩
  clear hb4 HB HBL HT
  generalize (⟨(encB t).toArray⟩ : ByteArray) = S at *
  obtain ⟨hs10, hs1000⟩ := hsz
  have hs10' : ¬ (S.size : Int) < 10 := by omega
  have HDC := hide (Decode_some w4 t S (unhide HS) ((unhide HG).later (unhide HB4)) (unhide HR))
  go_wp2_with fail
  refine (unhide HDC).mono ?_
  clear HDC
  rintro e w5 ⟨bo, go, ho, bc, gc, hc, rv5, rfl, hT5, _, hb5⟩
  have hba5 : Below w5.heap.size w5 (w5.alloc (.cells #[.slice bo t.acts.length bc, .slice go t.fl.length gc, .slice ho t.nx.length hc] 36)) := (Below.refl _ _).alloc (Nat.le_refl _) _
  have HBA := hide (blk_alloc w5 (.cells #[.slice bo t.acts.length bc, .slice go t.fl.length gc, .slice ho t.nx.length hc] 36))
  have hb45 := hb5.trans (hba5.mono hb5.size)
  have HB5 := hide ((unhide HB4).trans (hb45.mono (unhide HB4).size))
  have HBL5 := hide ((hb45.block _ (lt_of_blk (unhide HBL4))).trans (unhide HBL4))
  have e2 : t.fl.length = t.z.fl.length := (zI_len _).symm
  have e3 : t.nx.length = t.z.nx.length := by unfold Tb.z; simp
  have HAL := hide (kalike_any _ ao fo no ac fc nc _ _ _ bo go ho bc gc hc _ _ _ t.z t.z ((unhide HT4).later hb45) ((hT5.later hba5).read (unhide HR).small).1 rfl e2 e3 rfl e2 e3)
  have hbl := fun o => cell_of_blk (unhide HBL5) o
  have hll := lt_of_blk (unhide HBL5)
  have hcl := fun o => cell_of_blk (unhide HBA) o
  have hdl := lt_of_blk (unhide HBA)
  clear hT5 hb5 hba5 hb45 e2 e3 HT4 HBL4
  go_wp2_with fail
  refine (unhide HAL).mono ?_
  clear HAL hbl hll hcl hdl HBA HBL5
  generalize w5.alloc (.cells #[.slice bo t.acts.length bc, .slice go t.fl.length gc, .slice ho t.nx.length hc] 36) = W5 at *
  rintro e w6 ⟨⟨b, rfl, hbb⟩, hb6⟩
  obtain rfl : b = true := hbb.2 trivial
  have HB6 := hide ((unhide HB5).trans (hb6.mono (unhide HB5).size))
  clear hbb hb6
  have hcv := run_bytes_of_string (P := Tryz.prog) w6 9 51 5 S Tryz.underlying9 Tryz.underlying51 Tryz.underlying5
  generalize grownCap w6 S.size 0 5 = cap at hcv
  have HBY := hide (byB_of (w := w6) S cap)
  have HB7 := hide ((unhide HB6).trans (((Below.refl _ _).drew.alloc (Nat.le_refl _) (.cells (bytesRow S cap) 5 ((bytesRow S cap).size, (bytesRow S cap).size + 1))).mono (unhide HB6).size))
  have HPK := hide (kpick_any (w6.drew.alloc (.cells (bytesRow S cap) 5 ((bytesRow S cap).size, (bytesRow S cap).size + 1))) at' S.size (unhide H01).1 (unhide H01).2 (by omega) (by omega))
  go_wp2_with fail
  refine (unhide HPK).mono ?_
  clear HPK hcv
  generalize w6.drew.alloc (.cells (bytesRow S cap) 5 ((bytesRow S cap).size, (bytesRow S cap).size + 1)) = w7 at *
  have hlb : w.heap.size ≤ w6.heap.size := (unhide HB6).size
  generalize w6.heap.size = lb at *
  rintro e w8 ⟨⟨k, hk, rfl⟩, he⟩
  have he' := he.symm
  clear he
  subst he'
  have hk' : k < S.data.toList.length := by rw [size_data]; exact hk
  obtain ⟨c0, hc0⟩ : ∃ c0, S.data.toList[k]? = some c0 := ⟨_, List.getElem?_eq_getElem hk'⟩
  have hcell := (unhide HBY).cell hc0
  have hfro := (unhide HBY).frozen hk'
  have hlt := (unhide HBY).lt
  obtain ⟨d, hd⟩ : ∃ d : UInt8, v % 256 = (d.toNat : Int) := ⟨UInt8.ofNat (v % 256).toNat, by simp; omega⟩
  by_cases hq : c0 = d
  ·have hne : c0 ≠ c0 + 1 := fun e => by have := congrArg UInt8.toNat e; rw [UInt8.toNat_add] at this; have := c0.toNat_lt; simp at *
   have hcv2 := ((unhide HBY).set k (c0 + 1)).back (n := S.size) (cap := cap) (by rw [List.length_set, size_data])
   have hDN : ∀ o, DecR (⟨(S.data.toList.set k (c0 + 1)).toArray⟩ : ByteArray).data.toList o → o = none := fun o ho => by
    have ho' : DecR (S.data.toList.set k (c0 + 1)) o := ho
    rw [unhide HS] at ho' hc0
    exact dec_turned hc0 hne ho'
   have hbs : Below w.heap.size w (w7.setCell ⟨lb, k, none⟩ (.int .u8 ((c0 + 1).toNat : Int))) := (unhide HB7).grown (grown_set _ _ _ _) (unhide HB7).size (fun b hb => by cases hb; exact hlb)
   have HDX := hide (Decode_none (w7.setCell ⟨lb, k, none⟩ (.int .u8 ((c0 + 1).toNat : Int))) _ ((unhide HG).later hbs) hDN)
   have HB8 := hide hbs
   have hd1 : ((c0.toNat : Int) + 1) % 256 = ((c0 + 1).toNat : Int) := by rw [UInt8.toNat_add]; simp
   subst hq
   clear hne hDN hbs
   generalize c0 + 1 = c1 at *
   go_wp2_with fail
   refine (unhide HDX).mono ?_
   clear HDX hcv2 hcell hfro hlt
   rintro e w9 ⟨rfl, hb9⟩
   have HB9 := hide ((unhide HB8).trans (hb9.mono (unhide HB8).size))
   have HB10 := hide ((unhide HB9).trans (((Below.refl _ _).alloc (Nat.le_refl _) (.cells #[.slice none 0 0, .slice none 0 0, .slice none 0 0] 36)).mono (unhide HB9).size))
   clear hb9
   have hs1 : (0 : Int) ≤ (S.size : Int) - 1 := by omega
   have hs2 : (S.size : Int) - 1 ≤ (S.size : Int) := by omega
   have hs3 : ((S.size : Int) - 1).toNat = S.size - 1 := by omega
   have HDS := hide (Decode_none (w9.alloc (.cells #[.slice none 0 0, .slice none 0 0, .slice none 0 0] 36)) (S.extract 0 (S.size - 1)) ((unhide HG).later (unhide HB10)) (fun o ho => by
    rw [ext_last, unhide HS] at ho
    exact dec_short (unhide HR) ho))
   go_wp2_with fail
   refine (unhide HDS).mono ?_
   clear HDS hs1 hs2 hs3
   generalize w9.alloc (.cells #[.slice none 0 0, .slice none 0 0, .slice none 0 0] 36) = w10 at *
   rintro e w11 ⟨rfl, hb11⟩
   have HB11 := hide ((unhide HB10).trans (hb11.mono (unhide HB10).size))
   have HB12 := hide ((unhide HB11).trans ((((Below.refl _ _).alloc (Nat.le_refl _) (.cells #[.slice none 0 0, .slice none 0 0, .slice none 0 0] 36)).alloc (by simp) (.cells #[.int .u8 (c0.toNat : Int)] 5)).mono (unhide HB11).size))
   clear hb11
   have hcv3 := conv1 (w11.alloc (.cells #[.slice none 0 0, .slice none 0 0, .slice none 0 0] 36)) c0 (c0.toNat : Int) rfl
   rw [show (w11.alloc (.cells #[.slice none 0 0, .slice none 0 0, .slice none 0 0] 36)).heap.size = w11.heap.size + 1 from by simp] at hcv3
   have hsz4 : S.size + (⟨#[c0]⟩ : ByteArray).size ≤ maxLen := by
    have h1 : (⟨#[c0]⟩ : ByteArray).size = 1 := rfl
    have h2 : 2000 ≤ maxLen := by decide
    omega
   have HDL := hide (Decode_none ((w11.alloc (.cells #[.slice none 0 0, .slice none 0 0, .slice none 0 0] 36)).alloc (.cells #[.int .u8 (c0.toNat : Int)] 5)) (S ++ ⟨#[c0]⟩) ((unhide HG).later (unhide HB12)) (fun o ho => by
    rw [app_last, unhide HS] at ho
    exact dec_long (unhide HR) ho))
   go_wp2_with fail
   refine (unhide HDL).mono ?_
   clear HDL hcv3 hsz4
   generalize (w11.alloc (.cells #[.slice none 0 0, .slice none 0 0, .slice none 0 0] 36)).alloc (.cells #[.int .u8 (c0.toNat : Int)] 5) = w12 at *
   rintro e w13 ⟨rfl, hb13⟩
   have HB13 := hide ((unhide HB12).trans (hb13.mono (unhide HB12).size))
   have HB14 := hide ((unhide HB13).trans (((Below.refl _ _).alloc (Nat.le_refl _) (.cells #[.slice none 0 0, .slice none 0 0, .slice none 0 0] 36)).mono (unhide HB13).size))
   clear hb13
   have HDR := hide (Decode_any (w13.alloc (.cells #[.slice none 0 0, .slice none 0 0, .slice none 0 0] 36)) raw ((unhide HG).later (unhide HB14)))
   go_wp2_with fail
   refine (unhide HDR).mono ?_
   clear HDR
   generalize w13.alloc (.cells #[.slice none 0 0, .slice none 0 0, .slice none 0 0] 36) = w14 at *
   rintro e w15 ⟨o, ho, hd15⟩
   cases o with
   | none =>
    obtain ⟨hb15, he⟩ := hd15
    have he' : e = .returned (.tuple #[.agg #[.slice none 0 0, .slice none 0 0, .slice none 0 0], .int .i64 6]) := he
    subst he'
    have HB15 := hide ((unhide HB14).trans (hb15.mono (unhide HB14).size))
    have HB16 := hide ((unhide HB15).trans (((Below.refl _ _).alloc (Nat.le_refl _) (.cells #[.slice none 0 0, .slice none 0 0, .slice none 0 0] 36)).mono (unhide HB15).size))
    clear he hb15 ho
    go_wp2_with fail
    refine bodyPost_ret (v := .bool true) (by simp [results, Tryz.results9, go_sem]) rfl ?_
    exact ⟨rfl, unhide HB16⟩
   | some u =>
    obtain ⟨uo, vo, xo, uc, vc, xc, rvu, rfl, hTu, hRu, hb15⟩ := DecT.of (ty := okE) rfl ho.1 hd15
    have hba15 : Below w15.heap.size w15 (w15.alloc (.cells #[.slice uo u.acts.length uc, .slice vo u.fl.length vc, .slice xo u.nx.length xc] 36)) := (Below.refl _ _).alloc (Nat.le_refl _) _
    have HB15 := hide ((unhide HB14).trans (hb15.mono (unhide HB14).size))
    have HB16 := hide ((unhide HB15).trans (hba15.mono (unhide HB15).size))
    have hraw : (⟨(encB u).toArray⟩ : ByteArray) = raw := by rw [ho.2]
    have HEU := hide (Encode_t _ uo vo xo uc vc xc _ _ _ u (((hTu.later hba15).read hRu.small).1) ((unhide HG).later (unhide HB16)) rfl rfl rfl hRu)
    rw [hraw] at HEU
    have HBU := hide (blk_alloc w15 (.cells #[.slice uo u.acts.length uc, .slice vo u.fl.length vc, .slice xo u.nx.length xc] 36))
    have hul := fun o => cell_of_blk (unhide HBU) o
    have hull := lt_of_blk (unhide HBU)
    clear hraw hTu hRu hb15 hba15 ho hd15
    go_wp2_with fail
    refine (unhide HEU).mono ?_
    clear HEU hul hull HBU
    generalize w15.alloc (.cells #[.slice uo u.acts.length uc, .slice vo u.fl.length vc, .slice xo u.nx.length xc] 36) = w16 at *
    rintro e w17 ⟨rfl, hb17⟩
    have HB17 := hide ((unhide HB16).trans (hb17.mono (unhide HB16).size))
    clear hb17
    go_wp2_with fail
    refine bodyPost_ret (v := .bool true) (by simp [results, Tryz.results9, go_sem]) rfl ?_
    exact ⟨rfl, unhide HB17⟩
  ·have hne' : ¬ (c0.toNat : Int) = (d.toNat : Int) := fun e => hq (UInt8.toNat_inj.1 (Int.ofNat.inj e))
   have hcv2 := ((unhide HBY).set k d).back (n := S.size) (cap := cap) (by rw [List.length_set, size_data])
   have hDN : ∀ o, DecR (⟨(S.data.toList.set k d).toArray⟩ : ByteArray).data.toList o → o = none := fun o ho => by
    have ho' : DecR (S.data.toList.set k d) o := ho
    rw [unhide HS] at ho' hc0
    exact dec_turned hc0 hq ho'
   have hbs : Below w.heap.size w (w7.setCell ⟨lb, k, none⟩ (.int .u8 (d.toNat : Int))) := (unhide HB7).grown (grown_set _ _ _ _) (unhide HB7).size (fun b hb => by cases hb; exact hlb)
   have HDX := hide (Decode_none (w7.setCell ⟨lb, k, none⟩ (.int .u8 (d.toNat : Int))) _ ((unhide HG).later hbs) hDN)
   have HB8 := hide hbs
   clear hDN hbs hq
   go_wp2_with fail
   refine (unhide HDX).mono ?_
   clear HDX hcv2 hcell hfro hlt
   rintro e w9 ⟨rfl, hb9⟩
   have HB9 := hide ((unhide HB8).trans (hb9.mono (unhide HB8).size))
   have HB10 := hide ((unhide HB9).trans (((Below.refl _ _).alloc (Nat.le_refl _) (.cells #[.slice none 0 0, .slice none 0 0, .slice none 0 0] 36)).mono (unhide HB9).size))
   clear hb9
   have hs1 : (0 : Int) ≤ (S.size : Int) - 1 := by omega
   have hs2 : (S.size : Int) - 1 ≤ (S.size : Int) := by omega
   have hs3 : ((S.size : Int) - 1).toNat = S.size - 1 := by omega
   have HDS := hide (Decode_none (w9.alloc (.cells #[.slice none 0 0, .slice none 0 0, .slice none 0 0] 36)) (S.extract 0 (S.size - 1)) ((unhide HG).later (unhide HB10)) (fun o ho => by
    rw [ext_last, unhide HS] at ho
    exact dec_short (unhide HR) ho))
   go_wp2_with fail
   refine (unhide HDS).mono ?_
   clear HDS hs1 hs2 hs3
   generalize w9.alloc (.cells #[.slice none 0 0, .slice none 0 0, .slice none 0 0] 36) = w10 at *
   rintro e w11 ⟨rfl, hb11⟩
   have HB11 := hide ((unhide HB10).trans (hb11.mono (unhide HB10).size))
   have HB12 := hide ((unhide HB11).trans ((((Below.refl _ _).alloc (Nat.le_refl _) (.cells #[.slice none 0 0, .slice none 0 0, .slice none 0 0] 36)).alloc (by simp) (.cells #[.int .u8 (d.toNat : Int)] 5)).mono (unhide HB11).size))
   clear hb11
   have hcv3 := conv1 (w11.alloc (.cells #[.slice none 0 0, .slice none 0 0, .slice none 0 0] 36)) d (d.toNat : Int) rfl
   rw [show (w11.alloc (.cells #[.slice none 0 0, .slice none 0 0, .slice none 0 0] 36)).heap.size = w11.heap.size + 1 from by simp] at hcv3
   have hsz4 : S.size + (⟨#[d]⟩ : ByteArray).size ≤ maxLen := by
    have h1 : (⟨#[d]⟩ : ByteArray).size = 1 := rfl
    have h2 : 2000 ≤ maxLen := by decide
    omega
   have HDL := hide (Decode_none ((w11.alloc (.cells #[.slice none 0 0, .slice none 0 0, .slice none 0 0] 36)).alloc (.cells #[.int .u8 (d.toNat : Int)] 5)) (S ++ ⟨#[d]⟩) ((unhide HG).later (unhide HB12)) (fun o ho => by
    rw [app_last, unhide HS] at ho
    exact dec_long (unhide HR) ho))
   go_wp2_with fail
   refine (unhide HDL).mono ?_
   clear HDL hcv3 hsz4
   generalize (w11.alloc (.cells #[.slice none 0 0, .slice none 0 0, .slice none 0 0] 36)).alloc (.cells #[.int .u8 (d.toNat : Int)] 5) = w12 at *
   rintro e w13 ⟨rfl, hb13⟩
   have HB13 := hide ((unhide HB12).trans (hb13.mono (unhide HB12).size))
   have HB14 := hide ((unhide HB13).trans (((Below.refl _ _).alloc (Nat.le_refl _) (.cells #[.slice none 0 0, .slice none 0 0, .slice none 0 0] 36)).mono (unhide HB13).size))
   clear hb13
   have HDR := hide (Decode_any (w13.alloc (.cells #[.slice none 0 0, .slice none 0 0, .slice none 0 0] 36)) raw ((unhide HG).later (unhide HB14)))
   go_wp2_with fail
   refine (unhide HDR).mono ?_
   clear HDR
   generalize w13.alloc (.cells #[.slice none 0 0, .slice none 0 0, .slice none 0 0] 36) = w14 at *
   rintro e w15 ⟨o, ho, hd15⟩
   cases o with
   | none =>
    obtain ⟨hb15, he⟩ := hd15
    have he' : e = .returned (.tuple #[.agg #[.slice none 0 0, .slice none 0 0, .slice none 0 0], .int .i64 6]) := he
    subst he'
    have HB15 := hide ((unhide HB14).trans (hb15.mono (unhide HB14).size))
    have HB16 := hide ((unhide HB15).trans (((Below.refl _ _).alloc (Nat.le_refl _) (.cells #[.slice none 0 0, .slice none 0 0, .slice none 0 0] 36)).mono (unhide HB15).size))
    clear he hb15 ho
    go_wp2_with fail
    refine bodyPost_ret (v := .bool true) (by simp [results, Tryz.results9, go_sem]) rfl ?_
    exact ⟨rfl, unhide HB16⟩
   | some u =>
    obtain ⟨uo, vo, xo, uc, vc, xc, rvu, rfl, hTu, hRu, hb15⟩ := DecT.of (ty := okE) rfl ho.1 hd15
    have hba15 : Below w15.heap.size w15 (w15.alloc (.cells #[.slice uo u.acts.length uc, .slice vo u.fl.length vc, .slice xo u.nx.length xc] 36)) := (Below.refl _ _).alloc (Nat.le_refl _) _
    have HB15 := hide ((unhide HB14).trans (hb15.mono (unhide HB14).size))
    have HB16 := hide ((unhide HB15).trans (hba15.mono (unhide HB15).size))
    have hraw : (⟨(encB u).toArray⟩ : ByteArray) = raw := by rw [ho.2]
    have HEU := hide (Encode_t _ uo vo xo uc vc xc _ _ _ u (((hTu.later hba15).read hRu.small).1) ((unhide HG).later (unhide HB16)) rfl rfl rfl hRu)
    rw [hraw] at HEU
    have HBU := hide (blk_alloc w15 (.cells #[.slice uo u.acts.length uc, .slice vo u.fl.length vc, .slice xo u.nx.length xc] 36))
    have hul := fun o => cell_of_blk (unhide HBU) o
    have hull := lt_of_blk (unhide HBU)
    clear hraw hTu hRu hb15 hba15 ho hd15
    go_wp2_with fail
    refine (unhide HEU).mono ?_
    clear HEU hul hull HBU
    generalize w15.alloc (.cells #[.slice uo u.acts.length uc, .slice vo u.fl.length vc, .slice xo u.nx.length xc] 36) = w16 at *
    rintro e w17 ⟨rfl, hb17⟩
    have HB17 := hide ((unhide HB16).trans (hb17.mono (unhide HB16).size))
    clear hb17
    go_wp2_with fail
    refine bodyPost_ret (v := .bool true) (by simp [results, Tryz.results9, go_sem]) rfl ?_
    exact ⟨rfl, unhide HB17⟩
 ·have hba : Below w1.heap.size w1 (w1.alloc (.cells #[.slice none 0 0, .slice none 0 0, .slice none 0 0] 36)) := (Below.refl _ _).alloc (Nat.le_refl _) _
  have HB1 := hide (hb1.trans (hba.mono hb1.size))
  have HBL1 := hide (blk_alloc w1 (.cells #[.slice none 0 0, .slice none 0 0, .slice none 0 0] 36))
  have HCF := hide (Compile_any firstB _ ((unhide HG).later (unhide HB1)))
  have hwt : w.heap.size ≤ w1.heap.size := hb1.size
  clear hba hm hb1 hsf
  go_wp2_with fail
  refine (unhide HCF).mono ?_
  clear HCF
  generalize w1.alloc (.cells #[.slice none 0 0, .slice none 0 0, .slice none 0 0] 36) = w2 at *
  generalize w1.heap.size = tb at *
  rintro e w3 hm
  have hm2 : ∃ t, DecT t w2 w3 e := by
   rcases hm.cases with h | ⟨x, _, _, _, hsf⟩
   ·exact h
   ·exact absurd rfl hsf
  clear hm
  obtain ⟨t, ao, fo, no, ac, fc, nc, rv, rfl, hT, hR, hb3⟩ := hm2
  have hbk := (hb3.block _ (lt_of_blk (unhide HBL1))).trans (unhide HBL1)
  have HB := hide (setT_below ((unhide HB1).trans (hb3.mono (unhide HB1).size)) hwt (.slice ao t.acts.length ac) (.slice fo t.fl.length fc) (.slice no t.nx.length nc))
  have HBL := hide (setT_blk hbk (.slice ao t.acts.length ac) (.slice fo t.fl.length fc) (.slice no t.nx.length nc))
  have HT := hide ((setT_tab hbk hT (A' := .slice ao t.acts.length ac) (F' := .slice fo t.fl.length fc) (X' := .slice no t.nx.length nc)).read hR.small).1
  have HR := hide hR
  have hbl := fun o => cell_of_blk (unhide HBL) o
  have hbf := fun o => frozen_of_blk hbk o
  have hbc := fun o => cell_of_blk hbk o
  have hll := lt_of_blk hbk
  have HEN := hide (Encode_t _ ao fo no ac fc nc _ _ _ t (unhide HT) ((unhide HG).later (unhide HB)) rfl rfl rfl hR)
  clear hT hR hb3
  go_wp2_with fail
  refine (unhide HEN).mono ?_
  clear HEN hbl hll
  rintro e w4 ⟨rfl, hb4⟩
  have HB4 := hide ((unhide HB).trans (hb4.mono (unhide HB).size))
  have HBL4 := hide ((hb4.block _ (lt_of_blk (unhide HBL))).trans (unhide HBL))
  have HT4 := hide ((unhide HT).later hb4)
  have HS : Hid ((⟨(encB t).toArray⟩ : ByteArray).data.toList = encB t) := hide rfl
  have hsz : 10 ≤ (⟨(encB t).toArray⟩ : ByteArray).size ∧ (⟨(encB t).toArray⟩ : ByteArray).size ≤ 1000 := ⟨(unhide HR).many, (unhide HR).few⟩
  clear hb4 HB HBL HT
  generalize (⟨(encB t).toArray⟩ : ByteArray) = S at *
  obtain ⟨hs10, hs1000⟩ := hsz
  have hs10' : ¬ (S.size : Int) < 10 := by omega
  have HDC := hide (Decode_some w4 t S (unhide HS) ((unhide HG).later (unhide HB4)) (unhide HR))
  go_wp2_with fail
  refine (unhide HDC).mono ?_
  clear HDC
  rintro e w5 ⟨bo, go, ho, bc, gc, hc, rv5, rfl, hT5, _, hb5⟩
  have hba5 : Below w5.heap.size w5 (w5.alloc (.cells #[.slice bo t.acts.length bc, .slice go t.fl.length gc, .slice ho t.nx.length hc] 36)) := (Below.refl _ _).alloc (Nat.le_refl _) _
  have HBA := hide (blk_alloc w5 (.cells #[.slice bo t.acts.length bc, .slice go t.fl.length gc, .slice ho t.nx.length hc] 36))
  have hb45 := hb5.trans (hba5.mono hb5.size)
  have HB5 := hide ((unhide HB4).trans (hb45.mono (unhide HB4).size))
  have HBL5 := hide ((hb45.block _ (lt_of_blk (unhide HBL4))).trans (unhide HBL4))
  have e2 : t.fl.length = t.z.fl.length := (zI_len _).symm
  have e3 : t.nx.length = t.z.nx.length := by unfold Tb.z; simp
  have HAL := hide (kalike_any _ ao fo no ac fc nc _ _ _ bo go ho bc gc hc _ _ _ t.z t.z ((unhide HT4).later hb45) ((hT5.later hba5).read (unhide HR).small).1 rfl e2 e3 rfl e2 e3)
  have hbl := fun o => cell_of_blk (unhide HBL5) o
  have hll := lt_of_blk (unhide HBL5)
  have hcl := fun o => cell_of_blk (unhide HBA) o
  have hdl := lt_of_blk (unhide HBA)
  clear hT5 hb5 hba5 hb45 e2 e3 HT4 HBL4
  go_wp2_with fail
  refine (unhide HAL).mono ?_
  clear HAL hbl hll hcl hdl HBA HBL5
  generalize w5.alloc (.cells #[.slice bo t.acts.length bc, .slice go t.fl.length gc, .slice ho t.nx.length hc] 36) = W5 at *
  rintro e w6 ⟨⟨b, rfl, hbb⟩, hb6⟩
  obtain rfl : b = true := hbb.2 trivial
  have HB6 := hide ((unhide HB5).trans (hb6.mono (unhide HB5).size))
  clear hbb hb6
  have hcv := run_bytes_of_string (P := Tryz.prog) w6 9 51 5 S Tryz.underlying9 Tryz.underlying51 Tryz.underlying5
  generalize grownCap w6 S.size 0 5 = cap at hcv
  have HBY := hide (byB_of (w := w6) S cap)
  have HB7 := hide ((unhide HB6).trans (((Below.refl _ _).drew.alloc (Nat.le_refl _) (.cells (bytesRow S cap) 5 ((bytesRow S cap).size, (bytesRow S cap).size + 1))).mono (unhide HB6).size))
  have HPK := hide (kpick_any (w6.drew.alloc (.cells (bytesRow S cap) 5 ((bytesRow S cap).size, (bytesRow S cap).size + 1))) at' S.size (unhide H01).1 (unhide H01).2 (by omega) (by omega))
  go_wp2_with fail
  refine (unhide HPK).mono ?_
  clear HPK hcv
  generalize w6.drew.alloc (.cells (bytesRow S cap) 5 ((bytesRow S cap).size, (bytesRow S cap).size + 1)) = w7 at *
  have hlb : w.heap.size ≤ w6.heap.size := (unhide HB6).size
  generalize w6.heap.size = lb at *
  rintro e w8 ⟨⟨k, hk, rfl⟩, he⟩
  have he' := he.symm
  clear he
  subst he'
  have hk' : k < S.data.toList.length := by rw [size_data]; exact hk
  obtain ⟨c0, hc0⟩ : ∃ c0, S.data.toList[k]? = some c0 := ⟨_, List.getElem?_eq_getElem hk'⟩
  have hcell := (unhide HBY).cell hc0
  have hfro := (unhide HBY).frozen hk'
  have hlt := (unhide HBY).lt
  obtain ⟨d, hd⟩ : ∃ d : UInt8, v % 256 = (d.toNat : Int) := ⟨UInt8.ofNat (v % 256).toNat, by simp; omega⟩
  by_cases hq : c0 = d
  ·have hne : c0 ≠ c0 + 1 := fun e => by have := congrArg UInt8.toNat e; rw [UInt8.toNat_add] at this; have := c0.toNat_lt; simp at *
   have hcv2 := ((unhide HBY).set k (c0 + 1)).back (n := S.size) (cap := cap) (by rw [List.length_set, size_data])
   have hDN : ∀ o, DecR (⟨(S.data.toList.set k (c0 + 1)).toArray⟩ : ByteArray).data.toList o → o = none := fun o ho => by
    have ho' : DecR (S.data.toList.set k (c0 + 1)) o := ho
    rw [unhide HS] at ho' hc0
    exact dec_turned hc0 hne ho'
   have hbs : Below w.heap.size w (w7.setCell ⟨lb, k, none⟩ (.int .u8 ((c0 + 1).toNat : Int))) := (unhide HB7).grown (grown_set _ _ _ _) (unhide HB7).size (fun b hb => by cases hb; exact hlb)
   have HDX := hide (Decode_none (w7.setCell ⟨lb, k, none⟩ (.int .u8 ((c0 + 1).toNat : Int))) _ ((unhide HG).later hbs) hDN)
   have HB8 := hide hbs
   have hd1 : ((c0.toNat : Int) + 1) % 256 = ((c0 + 1).toNat : Int) := by rw [UInt8.toNat_add]; simp
   subst hq
   clear hne hDN hbs
   generalize c0 + 1 = c1 at *
   go_wp2_with fail
   refine (unhide HDX).mono ?_
   clear HDX hcv2 hcell hfro hlt
   rintro e w9 ⟨rfl, hb9⟩
   have HB9 := hide ((unhide HB8).trans (hb9.mono (unhide HB8).size))
   have HB10 := hide ((unhide HB9).trans (((Below.refl _ _).alloc (Nat.le_refl _) (.cells #[.slice none 0 0, .slice none 0 0, .slice none 0 0] 36)).mono (unhide HB9).size))
   clear hb9
   have hs1 : (0 : Int) ≤ (S.size : Int) - 1 := by omega
   have hs2 : (S.size : Int) - 1 ≤ (S.size : Int) := by omega
   have hs3 : ((S.size : Int) - 1).toNat = S.size - 1 := by omega
   have HDS := hide (Decode_none (w9.alloc (.cells #[.slice none 0 0, .slice none 0 0, .slice none 0 0] 36)) (S.extract 0 (S.size - 1)) ((unhide HG).later (unhide HB10)) (fun o ho => by
    rw [ext_last, unhide HS] at ho
    exact dec_short (unhide HR) ho))
   go_wp2_with fail
   refine (unhide HDS).mono ?_
   clear HDS hs1 hs2 hs3
   generalize w9.alloc (.cells #[.slice none 0 0, .slice none 0 0, .slice none 0 0] 36) = w10 at *
   rintro e w11 ⟨rfl, hb11⟩
   have HB11 := hide ((unhide HB10).trans (hb11.mono (unhide HB10).size))
   have HB12 := hide ((unhide HB11).trans ((((Below.refl _ _).alloc (Nat.le_refl _) (.cells #[.slice none 0 0, .slice none 0 0, .slice none 0 0] 36)).alloc (by simp) (.cells #[.int .u8 (c0.toNat : Int)] 5)).mono (unhide HB11).size))
   clear hb11
   have hcv3 := conv1 (w11.alloc (.cells #[.slice none 0 0, .slice none 0 0, .slice none 0 0] 36)) c0 (c0.toNat : Int) rfl
   rw [show (w11.alloc (.cells #[.slice none 0 0, .slice none 0 0, .slice none 0 0] 36)).heap.size = w11.heap.size + 1 from by simp] at hcv3
   have hsz4 : S.size + (⟨#[c0]⟩ : ByteArray).size ≤ maxLen := by
    have h1 : (⟨#[c0]⟩ : ByteArray).size = 1 := rfl
    have h2 : 2000 ≤ maxLen := by decide
    omega
   have HDL := hide (Decode_none ((w11.alloc (.cells #[.slice none 0 0, .slice none 0 0, .slice none 0 0] 36)).alloc (.cells #[.int .u8 (c0.toNat : Int)] 5)) (S ++ ⟨#[c0]⟩) ((unhide HG).later (unhide HB12)) (fun o ho => by
    rw [app_last, unhide HS] at ho
    exact dec_long (unhide HR) ho))
   go_wp2_with fail
   refine (unhide HDL).mono ?_
   clear HDL hcv3 hsz4
   generalize (w11.alloc (.cells #[.slice none 0 0, .slice none 0 0, .slice none 0 0] 36)).alloc (.cells #[.int .u8 (c0.toNat : Int)] 5) = w12 at *
   rintro e w13 ⟨rfl, hb13⟩
   have HB13 := hide ((unhide HB12).trans (hb13.mono (unhide HB12).size))
   have HB14 := hide ((unhide HB13).trans (((Below.refl _ _).alloc (Nat.le_refl _) (.cells #[.slice none 0 0, .slice none 0 0, .slice none 0 0] 36)).mono (unhide HB13).size))
   clear hb13
   have HDR := hide (Decode_any (w13.alloc (.cells #[.slice none 0 0, .slice none 0 0, .slice none 0 0] 36)) raw ((unhide HG).later (unhide HB14)))
   go_wp2_with fail
   refine (unhide HDR).mono ?_
   clear HDR
   generalize w13.alloc (.cells #[.slice none 0 0, .slice none 0 0, .slice none 0 0] 36) = w14 at *
   rintro e w15 ⟨o, ho, hd15⟩
   cases o with
   | none =>
    obtain ⟨hb15, he⟩ := hd15
    have he' : e = .returned (.tuple #[.agg #[.slice none 0 0, .slice none 0 0, .slice none 0 0], .int .i64 6]) := he
    subst he'
    have HB15 := hide ((unhide HB14).trans (hb15.mono (unhide HB14).size))
    have HB16 := hide ((unhide HB15).trans (((Below.refl _ _).alloc (Nat.le_refl _) (.cells #[.slice none 0 0, .slice none 0 0, .slice none 0 0] 36)).mono (unhide HB15).size))
    clear he hb15 ho
    go_wp2_with fail
    refine bodyPost_ret (v := .bool true) (by simp [results, Tryz.results9, go_sem]) rfl ?_
    exact ⟨rfl, unhide HB16⟩
   | some u =>
    obtain ⟨uo, vo, xo, uc, vc, xc, rvu, rfl, hTu, hRu, hb15⟩ := DecT.of (ty := okE) rfl ho.1 hd15
    have hba15 : Below w15.heap.size w15 (w15.alloc (.cells #[.slice uo u.acts.length uc, .slice vo u.fl.length vc, .slice xo u.nx.length xc] 36)) := (Below.refl _ _).alloc (Nat.le_refl _) _
    have HB15 := hide ((unhide HB14).trans (hb15.mono (unhide HB14).size))
    have HB16 := hide ((unhide HB15).trans (hba15.mono (unhide HB15).size))
    have hraw : (⟨(encB u).toArray⟩ : ByteArray) = raw := by rw [ho.2]
    have HEU := hide (Encode_t _ uo vo xo uc vc xc _ _ _ u (((hTu.later hba15).read hRu.small).1) ((unhide HG).later (unhide HB16)) rfl rfl rfl hRu)
    rw [hraw] at HEU
    have HBU := hide (blk_alloc w15 (.cells #[.slice uo u.acts.length uc, .slice vo u.fl.length vc, .slice xo u.nx.length xc] 36))
    have hul := fun o => cell_of_blk (unhide HBU) o
    have hull := lt_of_blk (unhide HBU)
    clear hraw hTu hRu hb15 hba15 ho hd15
    go_wp2_with fail
    refine (unhide HEU).mono ?_
    clear HEU hul hull HBU
    generalize w15.alloc (.cells #[.slice uo u.acts.length uc, .slice vo u.fl.length vc, .slice xo u.nx.length xc] 36) = w16 at *
    rintro e w17 ⟨rfl, hb17⟩
    have HB17 := hide ((unhide HB16).trans (hb17.mono (unhide HB16).size))
    clear hb17
    go_wp2_with fail
    refine bodyPost_ret (v := .bool true) (by simp [results, Tryz.results9, go_sem]) rfl ?_
    exact ⟨rfl, unhide HB17⟩
  ·have hne' : ¬ (c0.toNat : Int) = (d.toNat : Int) := fun e => hq (UInt8.toNat_inj.1 (Int.ofNat.inj e))
   have hcv2 := ((unhide HBY).set k d).back (n := S.size) (cap := cap) (by rw [List.length_set, size_data])
   have hDN : ∀ o, DecR (⟨(S.data.toList.set k d).toArray⟩ : ByteArray).data.toList o → o = none := fun o ho => by
    have ho' : DecR (S.data.toList.set k d) o := ho
    rw [unhide HS] at ho' hc0
    exact dec_turned hc0 hq ho'
   have hbs : Below w.heap.size w (w7.setCell ⟨lb, k, none⟩ (.int .u8 (d.toNat : Int))) := (unhide HB7).grown (grown_set _ _ _ _) (unhide HB7).size (fun b hb => by cases hb; exact hlb)
   have HDX := hide (Decode_none (w7.setCell ⟨lb, k, none⟩ (.int .u8 (d.toNat : Int))) _ ((unhide HG).later hbs) hDN)
   have HB8 := hide hbs
   clear hDN hbs hq
   go_wp2_with fail
   refine (unhide HDX).mono ?_
   clear HDX hcv2 hcell hfro hlt
   rintro e w9 ⟨rfl, hb9⟩
   have HB9 := hide ((unhide HB8).trans (hb9.mono (unhide HB8).size))
   have HB10 := hide ((unhide HB9).trans (((Below.refl _ _).alloc (Nat.le_refl _) (.cells #[.slice none 0 0, .slice none 0 0, .slice none 0 0] 36)).mono (unhide HB9).size))
   clear hb9
   have hs1 : (0 : Int) ≤ (S.size : Int) - 1 := by omega
   have hs2 : (S.size : Int) - 1 ≤ (S.size : Int) := by omega
   have hs3 : ((S.size : Int) - 1).toNat = S.size - 1 := by omega
   have HDS := hide (Decode_none (w9.alloc (.cells #[.slice none 0 0, .slice none 0 0, .slice none 0 0] 36)) (S.extract 0 (S.size - 1)) ((unhide HG).later (unhide HB10)) (fun o ho => by
    rw [ext_last, unhide HS] at ho
    exact dec_short (unhide HR) ho))
   go_wp2_with fail
   refine (unhide HDS).mono ?_
   clear HDS hs1 hs2 hs3
   generalize w9.alloc (.cells #[.slice none 0 0, .slice none 0 0, .slice none 0 0] 36) = w10 at *
   rintro e w11 ⟨rfl, hb11⟩
   have HB11 := hide ((unhide HB10).trans (hb11.mono (unhide HB10).size))
   have HB12 := hide ((unhide HB11).trans ((((Below.refl _ _).alloc (Nat.le_refl _) (.cells #[.slice none 0 0, .slice none 0 0, .slice none 0 0] 36)).alloc (by simp) (.cells #[.int .u8 (d.toNat : Int)] 5)).mono (unhide HB11).size))
   clear hb11
   have hcv3 := conv1 (w11.alloc (.cells #[.slice none 0 0, .slice none 0 0, .slice none 0 0] 36)) d (d.toNat : Int) rfl
   rw [show (w11.alloc (.cells #[.slice none 0 0, .slice none 0 0, .slice none 0 0] 36)).heap.size = w11.heap.size + 1 from by simp] at hcv3
   have hsz4 : S.size + (⟨#[d]⟩ : ByteArray).size ≤ maxLen := by
    have h1 : (⟨#[d]⟩ : ByteArray).size = 1 := rfl
    have h2 : 2000 ≤ maxLen := by decide
    omega
   have HDL := hide (Decode_none ((w11.alloc (.cells #[.slice none 0 0, .slice none 0 0, .slice none 0 0] 36)).alloc (.cells #[.int .u8 (d.toNat : Int)] 5)) (S ++ ⟨#[d]⟩) ((unhide HG).later (unhide HB12)) (fun o ho => by
    rw [app_last, unhide HS] at ho
    exact dec_long (unhide HR) ho))
   go_wp2_with fail
   refine (unhide HDL).mono ?_
   clear HDL hcv3 hsz4
   generalize (w11.alloc (.cells #[.slice none 0 0, .slice none 0 0, .slice none 0 0] 36)).alloc (.cells #[.int .u8 (d.toNat : Int)] 5) = w12 at *
   rintro e w13 ⟨rfl, hb13⟩
   have HB13 := hide ((unhide HB12).trans (hb13.mono (unhide HB12).size))
   have HB14 := hide ((unhide HB13).trans (((Below.refl _ _).alloc (Nat.le_refl _) (.cells #[.slice none 0 0, .slice none 0 0, .slice none 0 0] 36)).mono (unhide HB13).size))
   clear hb13
   have HDR := hide (Decode_any (w13.alloc (.cells #[.slice none 0 0, .slice none 0 0, .slice none 0 0] 36)) raw ((unhide HG).later (unhide HB14)))
   go_wp2_with fail
   refine (unhide HDR).mono ?_
   clear HDR
   generalize w13.alloc (.cells #[.slice none 0 0, .slice none 0 0, .slice none 0 0] 36) = w14 at *
   rintro e w15 ⟨o, ho, hd15⟩
   cases o with
   | none =>
    obtain ⟨hb15, he⟩ := hd15
    have he' : e = .returned (.tuple #[.agg #[.slice none 0 0, .slice none 0 0, .slice none 0 0], .int .i64 6]) := he
    subst he'
    have HB15 := hide ((unhide HB14).trans (hb15.mono (unhide HB14).size))
    have HB16 := hide ((unhide HB15).trans (((Below.refl _ _).alloc (Nat.le_refl _) (.cells #[.slice none 0 0, .slice none 0 0, .slice none 0 0] 36)).mono (unhide HB15).size))
    clear he hb15 ho
    go_wp2_with fail
    refine bodyPost_ret (v := .bool true) (by simp [results, Tryz.results9, go_sem]) rfl ?_
    exact ⟨rfl, unhide HB16⟩
   | some u =>
    obtain ⟨uo, vo, xo, uc, vc, xc, rvu, rfl, hTu, hRu, hb15⟩ := DecT.of (ty := okE) rfl ho.1 hd15
    have hba15 : Below w15.heap.size w15 (w15.alloc (.cells #[.slice uo u.acts.length uc, .slice vo u.fl.length vc, .slice xo u.nx.length xc] 36)) := (Below.refl _ _).alloc (Nat.le_refl _) _
    have HB15 := hide ((unhide HB14).trans (hb15.mono (unhide HB14).size))
    have HB16 := hide ((unhide HB15).trans (hba15.mono (unhide HB15).size))
    have hraw : (⟨(encB u).toArray⟩ : ByteArray) = raw := by rw [ho.2]
    have HEU := hide (Encode_t _ uo vo xo uc vc xc _ _ _ u (((hTu.later hba15).read hRu.small).1) ((unhide HG).later (unhide HB16)) rfl rfl rfl hRu)
    rw [hraw] at HEU
    have HBU := hide (blk_alloc w15 (.cells #[.slice uo u.acts.length uc, .slice vo u.fl.length vc, .slice xo u.nx.length xc] 36))
    have hul := fun o => cell_of_blk (unhide HBU) o
    have hull := lt_of_blk (unhide HBU)
    clear hraw hTu hRu hb15 hba15 ho hd15
    go_wp2_with fail
    refine (unhide HEU).mono ?_
    clear HEU hul hull HBU
    generalize w15.alloc (.cells #[.slice uo u.acts.length uc, .slice vo u.fl.length vc, .slice xo u.nx.length xc] 36) = w16 at *
    rintro e w17 ⟨rfl, hb17⟩
    have HB17 := hide ((unhide HB16).trans (hb17.mono (unhide HB16).size))
    clear hb17
    go_wp2_with fail
    refine bodyPost_ret (v := .bool true) (by simp [results, Tryz.results9, go_sem]) rfl ?_
    exact ⟨rfl, unhide HB17⟩
end Go.Proofs.YtidakhhekofkoaaGreatDoor
