/- The reference's arguments: the faults of a call of a template. -/
import Derived.Test.YtidakhhekofkoaaGreatDoorG18
import Derived.Test.YtidakhhekofkoaaGreatDoorG05
import Derived.Deep.DeepCutAuto
import Derived.Test.YtidakhhekofkoaaGreatDoorG12
set_option linter.unusedSimpArgs false
namespace Go.Proofs.YtidakhhekofkoaaGreatDoor
open Go.RowKit Go.Deep
structure AS (w wr : World) (fb : Nat) (x : Nat × Nat) (o1 : Option Addr) (n1 k1 : Nat) (o2 : Option Addr) (n2 k2 : Nat) (a b : Int) (s : ByteArray) (c : Int) (o : Option Addr) (n k : Nat) (d : Int) (p : Option Addr) : Prop where
 fbx : FB wr fb x
 mbx : wr.heap[w.heap.size]? = some (.cells #[.slice o1 n1 k1, .slice o2 n2 k2] 228 (0, 0))
 rbx : wr.heap[w.heap.size + 1]? = some (.cells #[.int .i64 a, .int .u8 b, .string s, .int .i64 c, .slice o n k, .int .i64 d, .pointer p] 235 (0, 0))
 kt : KT w wr
 gr : w.grownBy wr (some fb)
theorem AS.later {w wr w' : World} {fb : Nat} {x : Nat × Nat} {o1 : Option Addr} {n1 k1 : Nat} {o2 : Option Addr} {n2 k2 : Nat} {a b : Int} {s : ByteArray} {c : Int} {o : Option Addr} {n k : Nat} {d : Int} {p : Option Addr} (h : AS w wr fb x o1 n1 k1 o2 n2 k2 a b s c o n k d p) (hb : Below wr.heap.size wr w') : AS w w' fb x o1 n1 k1 o2 n2 k2 a b s c o n k d p :=
 ⟨h.fbx.later hb, (hb.block _ (lt_of_blk h.mbx)).trans h.mbx, (hb.block _ (lt_of_blk h.rbx)).trans h.rbx, h.kt.trans (KT.below hb), h.gr.trans (grown_below hb _)⟩
theorem AS.call {w wr w' : World} {fb : Nat} {x y : Nat × Nat} {o1 : Option Addr} {n1 k1 : Nat} {o2 : Option Addr} {n2 k2 : Nat} {a b : Int} {s : ByteArray} {c : Int} {o : Option Addr} {n k : Nat} {d : Int} {p : Option Addr} (h : AS w wr fb x o1 n1 k1 o2 n2 k2 a b s c o n k d p) (hf : FB w' fb y) (hg : wr.grownBy w' (some fb)) (hfb : fb < w.heap.size) : AS w w' fb y o1 n1 k1 o2 n2 k2 a b s c o n k d p :=
 ⟨hf, (hg.block _ (lt_of_blk h.mbx) (by simp; omega)).trans h.mbx, (hg.block _ (lt_of_blk h.rbx) (by simp; omega)).trans h.rbx, h.kt.trans (KT.fb h.fbx hg), h.gr.trans hg⟩
theorem bdn (w : World) : ∀ n, Below w.heap.size w (w.drewN n)
 | 0 => Below.refl _ _
 | n + 1 => (bdn w n).drew
theorem takes_is (s : ByteArray) (K : ByteArray) (ok : Bool) (w : World) (hK : K = ⟨(tplTakes (tplNo s.toList)).toArray⟩) (hok : ok = decide (tplNo s.toList ≤ 11)) :
  Calls Tryz.prog 203 #[.string s] w fun e w' => e = .returned (.tuple #[.string K, .bool ok]) ∧ w' = w := by
 subst hK hok; exact takes_any s w
theorem fArgs_cons (al : List Tk) (K : ByteArray) (args : List Tk) (i : Nat) (t : Tk) (r : List Tk) (h : args.drop i = t :: r) : fArgs al (K.data.toList.drop i) (args.drop i) = fArg al (K.data.toList.drop i) t ++ fArgs al (K.data.toList.drop (i + 1)) (args.drop (i + 1)) := by
 rw [h, fArgs, List.tail_drop, drop_tail h]
set_option maxHeartbeats 4000000 in
set_option maxRecDepth 100000 in
theorem arguments_any (w : World) (al : List Tk) (hlen : al.length ≤ 401) (o1 : Option Addr) (n1 k1 : Nat) (o2 : Option Addr) (n2 k2 : Nat) (fb : Nat) (x : Nat × Nat) (r : Rl) (a b : Int) (s : ByteArray) (c : Int) (o : Option Addr) (n k : Nat) (d : Int) (p : Option Addr)
    (ha : ActsAre w o1 n1 k1 al) (hf : FB w fb x) (h : RlIs w r a b s c o n k d p) (hc : r.call = true) (hargs : r.args.length ≤ 2) (hne : 0 < r.args.length) (hkind : ∀ t ∈ r.args, (t.k = 2 ∨ t.k = 3) ∧ t.s.size ≤ 400 ∧ (t.k = 3 → ∃ e : UInt8, t.s = ⟨#[e]⟩)) (hws : r.word.s.size ≤ 400) :
    Calls Tryz.prog 176 #[.agg #[.slice o1 n1 k1, .slice o2 n2 k2], .pointer (some ⟨fb, 0, none⟩), rlV a b s c o n k d p] w fun e w' => e = .returned (.tuple #[]) ∧ FB w' fb (meets x (fCall al r)) ∧ w.grownBy w' (some fb) := by
  obtain ⟨-, h2⟩ := h
  rw [if_pos hc] at h2
  obtain ⟨-, hs, hcp, ho, hd, hp⟩ := h2
  subst hs hcp hd hp
  have hao : ActsAre w o n k r.args := ho
  have hn := hao.len
  subst hn
  obtain ⟨t00, l00, ht00⟩ := drop_ne hne
  obtain ⟨g, hgo, -⟩ := hao.tok ht00
  subst hgo
  clear ht00
  have HA := hide ha
  have HAO := hide hao
  have HKD := hide hkind
  have hfl := lt_of_blk hf
  have h0 : AS w ((w.alloc (.cells #[.slice o1 n1 k1, .slice o2 n2 k2] 228)).alloc (.cells #[.int .i64 a, .int .u8 b, .string r.word.s, .int .i64 r.word.p, .slice (some ⟨g, 0, none⟩) r.args.length k, .int .i64 r.fin, .pointer none] 235)) fb x o1 n1 k1 o2 n2 k2 a b r.word.s r.word.p (some ⟨g, 0, none⟩) r.args.length k r.fin none :=
    ⟨(hf.later ((Below.refl _ _).alloc (Nat.le_refl _) _)).later ((Below.refl _ _).alloc (Nat.le_refl _) _), (Below.heap_alloc _ _ _ (by simp)).trans (blk_alloc _ _), blk_alloc' _ _ _ (by simp), (KT.alloc _ _).trans (KT.alloc _ _), grown_alloc (grown_alloc (World.grownBy.refl _ _) _) _⟩
  have H0 := hide h0
  clear ha hao ho hf h0 hkind hc
  simp only [rlV]
  obtain ⟨f1, hf1⟩ : ∃ f, f = if 8 < r.word.s.size then [(r.word.p, 1)] else [] := ⟨_, rfl⟩
  obtain ⟨f2, hf2⟩ : ∃ f, f = if tplNo r.word.s.toList ≤ 11 then [] else [(r.word.p, 3)] := ⟨_, rfl⟩
  have HF1 := hide hf1
  have HF2 := hide hf2
  clear hf1 hf2
  go_enter Tryz.func176, Tryz.ntmps176
  go_upto_if 14 with fail
  go_cut [] (fun wc => AS w wc fb (meets x f1) o1 n1 k1 o2 n2 k2 a b r.word.s r.word.p (some ⟨g, 0, none⟩) r.args.length k r.fin none)
  case first =>
    by_cases hl : 8 < r.word.s.size
    · have hL : (8 : Int) < (r.word.s.size : Int) := by omega
      have HL := hide hl
      clear hl
      go_wp2_with (go_at_call 174; refine (meets_any _ fb x r.word.p 1 (unhide H0).fbx).mono ?_)
      rintro e w1 ⟨rfl, hfb1, hg1⟩
      have H1 := hide ((unhide H0).call hfb1 hg1 hfl)
      clear hfb1 hg1
      go_wp2_with fail
      go_meet
      rw [unhide HF1, if_pos (unhide HL)]; exact unhide H1
    · have hL : ¬ (8 : Int) < (r.word.s.size : Int) := by omega
      have HL := hide hl
      clear hl
      go_wp2_with fail
      go_meet
      rw [unhide HF1, if_neg (unhide HL)]; exact unhide H0
  case rest =>
  have H1 := hide hcut
  clear hcut H0
  have rc := fun o => cell_of_blk (unhide H1).rbx o
  obtain ⟨K, hK⟩ : ∃ K : ByteArray, K = ⟨(tplTakes (tplNo r.word.s.toList)).toArray⟩ := ⟨_, rfl⟩
  obtain ⟨ok, hok⟩ : ∃ b, b = decide (tplNo r.word.s.toList ≤ 11) := ⟨_, rfl⟩
  have hKl : K.data.toList = tplTakes (tplNo r.word.s.toList) := by rw [hK]
  have hKs : K.size ≤ 2 := by rw [← size_data, hKl]; unfold tplTakes; repeat' split
                              all_goals simp
  have HKL := hide hKl
  have HK := hide hK
  have HOK := hide hok
  clear hK hKl hok
  go_upto_if 28 with (go_at_call 203; refine (takes_is _ K ok _ (unhide HK) (unhide HOK)).mono ?_; rintro e w' ⟨rfl, rfl⟩)
  go_cut [7] (fun _ wc => AS w wc fb (meets x (f1 ++ f2)) o1 n1 k1 o2 n2 k2 a b r.word.s r.word.p (some ⟨g, 0, none⟩) r.args.length k r.fin none)
  case first =>
    cases ok with
    | true =>
      go_wp2_with fail
      go_meet
      rw [unhide HF2, if_pos (of_decide_eq_true (unhide HOK).symm), List.append_nil]; exact unhide H1
    | false =>
      go_wp2_with (go_at_call 174; refine (meets_any _ fb (meets x f1) r.word.p 3 (unhide H1).fbx).mono ?_)
      rintro e w1 ⟨rfl, hfb1, hg1⟩
      have H2 := hide ((unhide H1).call hfb1 hg1 hfl)
      clear hfb1 hg1
      go_wp2_with fail
      go_meet
      rw [unhide HF2, if_neg (of_decide_eq_false (unhide HOK).symm), meets_append]; exact unhide H2
  case rest =>
  have H2 := hide hcut
  clear hcut H1 rc HK HOK ok
  go_wp2_with fail
  go_loopw [8] (fun v wr => ∃ (i : Nat) (y : Nat × Nat), i ≤ r.args.length ∧ v = .int .i64 i ∧ AS w wr fb y o1 n1 k1 o2 n2 k2 a b r.word.s r.word.p (some ⟨g, 0, none⟩) r.args.length k r.fin none ∧ Hid (meets (meets x (f1 ++ f2)) (fArgs al K.data.toList r.args) = meets y (fArgs al (K.data.toList.drop i) (r.args.drop i)))) (fun v _ => r.args.length - (intOf v).toNat)
  case atStart => exact ⟨0, _, Nat.zero_le _, rfl, unhide H2, rfl⟩
  case round =>
    clear H2
    obtain ⟨i, y, hi, rfl, has, HY⟩ := hrel
    have H3 := hide has
    have rc := fun o => cell_of_blk has.rbx o
    have mc := fun o => cell_of_blk has.mbx o
    have hzr := lt_of_blk has.rbx
    have hzr0 : w.heap.size < wr.heap.size := by omega
    by_cases hlt : i < r.args.length
    · obtain ⟨t, l, ht⟩ := drop_ne hlt
      obtain ⟨g', hgo, hg, _, t0, t1, t2⟩ := (has.kt.acts (unhide HAO)).tok ht
      cases hgo
      have hmem : t ∈ r.args := drop_mem ht
      have HTK := hide ((unhide HKD) t hmem)
      have HFC := hide (fArgs_cons al K r.args i t l ht)
      clear ht hmem has
      obtain ⟨fN, hfN⟩ : ∃ f, f = if t.k = 2 then fName al t.s t.p else [] := ⟨_, rfl⟩
      have HFN := hide hfN
      clear hfN
      go_upto_if 48 with fail
      go_cut [] (fun wc => AS w wc fb (meets y fN) o1 n1 k1 o2 n2 k2 a b r.word.s r.word.p (some ⟨g, 0, none⟩) r.args.length k r.fin none ∧ wc.heap[wr.heap.size]? = some (.cells #[.int .u8 (refK t.k), .string t.s, .int .i64 t.p] 232 (0, 0)))
      case first =>
        have H4 := hide ((unhide H3).later ((Below.refl wr.heap.size wr).alloc (Nat.le_refl _) (.cells #[.int .u8 (refK t.k), .string t.s, .int .i64 t.p] 232)))
        rcases (unhide HTK).1 with hk | hk
        · have e1 : (refK t.k == 110) = true := by rw [hk]; rfl
          have HK2 := hide hk
          clear hk
          go_wp2_with (go_at_call 202; refine (named_any _ _ _ _ _ _ _ _ _ y _ _ ((unhide H4).kt.acts (unhide HA)) hlen (unhide H4).fbx (unhide HTK).2.1).mono ?_)
          rintro e w5 ⟨rfl, hf5, hg5⟩
          have H5 := hide ((unhide H4).call hf5 hg5 hfl)
          have HB5 := hide ((hg5.block wr.heap.size (by simp) (by have := lt_of_blk (unhide H3).fbx; simp; omega)).trans (blk_alloc _ _))
          clear hf5 hg5
          go_wp2_with fail
          go_meet
          rw [unhide HFN, if_pos (unhide HK2)]; exact ⟨unhide H5, unhide HB5⟩
        · have e1 : (refK t.k == 110) = false := by rw [hk]; rfl
          have HK2 := hide hk
          clear hk
          go_wp2_with fail
          go_meet
          rw [unhide HFN, if_neg (by rw [unhide HK2]; decide)]; exact ⟨unhide H4, blk_alloc _ _⟩
      case rest =>
      obtain ⟨has4, hbx4⟩ := hcut
      have H4 := hide has4
      have bc := fun o => cell_of_blk hbx4 o
      have HBX := hide hbx4
      clear has4 H3 hbx4 t0 t1 t2 rc mc
      have hzb : wr.heap.size < wc.heap.size := lt_of_blk (unhide HBX)
      have drop1 : meets y (fArgs al (K.data.toList.drop i) (r.args.drop i)) = meets (meets (meets y fN) (if badArg (K.data.toList.drop i) t = true then [(t.p, 4)] else [])) (fArgs al (K.data.toList.drop (i + 1)) (r.args.drop (i + 1))) := by
        rw [unhide HFC, fArg, ← unhide HFN, meets_append, meets_append]
      have HD1 := hide drop1
      clear drop1
      have finBad : badArg (K.data.toList.drop i) t = true → ∀ W, AS w W fb (meet (meets y fN) t.p 4) o1 n1 k1 o2 n2 k2 a b r.word.s r.word.p (some ⟨g, 0, none⟩) r.args.length k r.fin none → AS w W fb (meet (meets y fN) t.p 4) o1 n1 k1 o2 n2 k2 a b r.word.s r.word.p (some ⟨g, 0, none⟩) r.args.length k r.fin none ∧ Hid (meets (meets x (f1 ++ f2)) (fArgs al K.data.toList r.args) = meets (meet (meets y fN) t.p 4) (fArgs al (K.data.toList.drop (i + 1)) (r.args.drop (i + 1)))) := by
        intro hb W hW
        refine ⟨hW, ?_⟩
        show _ = _
        rw [unhide HY, unhide HD1, if_pos hb]; rfl
      have finOk : badArg (K.data.toList.drop i) t = false → Hid (meets (meets x (f1 ++ f2)) (fArgs al K.data.toList r.args) = meets (meets y fN) (fArgs al (K.data.toList.drop (i + 1)) (r.args.drop (i + 1)))) := by
        intro hb
        show _ = _
        rw [unhide HY, unhide HD1, if_neg (by simp [hb])]; rfl
      have FBD := hide finBad
      have FOK := hide finOk
      clear finBad finOk
      by_cases hki : i < K.size
      · have hlt' : (i : Int) < (K.size : Int) := by omega
        have hge' : decide (K.size ≤ i) = false := by simp; omega
        have hdr := drop_at K i hki
        rcases (unhide HTK).1 with hk | hk
        · have e1 : (refK t.k == 100) = false := by rw [hk]; rfl
          by_cases hc : K[i].toNat = 110
          · have hba : badArg (K.data.toList.drop i) t = false := by rw [hdr, badArg, if_pos hk]; simp [hc]
            have HBA := hide hba
            have e2 : ((K[i].toNat : Int) != refK t.k) = false := by rw [hk, hc]; rfl
            clear hba hdr hk hc
            go_wp2_with fail
            go_quiet (fail)
            go_wp2_with fail
            go_roundw
            case rel => exact ⟨i + 1, _, by omega, by go_num, (unhide H4).later (bdn _ _), (unhide FOK) (unhide HBA)⟩
            case measure => simp [intOf]; omega
          · have hba : badArg (K.data.toList.drop i) t = true := by rw [hdr, badArg, if_pos hk]; simp [hc]
            have HBA := hide hba
            have e2 : ((K[i].toNat : Int) != refK t.k) = true := by rw [hk, bne_iff_ne]; show (K[i].toNat : Int) ≠ 110; omega
            clear hba hdr hk hc
            go_wp2_with fail
            go_quiet (fail)
            go_wp2_with fail
            refine (meets_any _ fb (meets y fN) t.p 4 ((unhide H4).later (bdn _ _)).fbx).mono ?_
            rintro e w6 ⟨rfl, hf6, hg6⟩
            have H6 := hide (((unhide H4).later (bdn _ _)).call hf6 hg6 hfl)
            clear hf6 hg6
            go_wp2_with fail
            go_roundw
            case rel => exact ⟨i + 1, _, by omega, by go_num, ((unhide FBD) (unhide HBA) _ (unhide H6)).1, ((unhide FBD) (unhide HBA) _ (unhide H6)).2⟩
            case measure => simp [intOf]; omega
        · have e1 : (refK t.k == 100) = true := by rw [hk]; rfl
          by_cases hc : K[i].toNat = 100
          · obtain ⟨ch, hch⟩ := (unhide HTK).2.2 hk
            have e2 : ((K[i].toNat : Int) != refK t.k) = false := by rw [hk, hc]; rfl
            have hsz : 0 < t.s.size := by rw [hch]; exact Nat.zero_lt_one
            have hb0 : t.s[0].toNat = ch.toNat := by simp only [hch]; rfl
            by_cases hl1 : ch.toNat < 49
            · have hba : badArg (K.data.toList.drop i) t = true := by rw [hdr, badArg, if_neg (by omega), if_pos hc, hch]; simp; omega
              have HBA := hide hba
              have d1 : (t.s[0].toNat : Int) < 49 := by omega
              have d2 : ¬ (51 : Int) < (t.s[0].toNat : Int) := by omega
              clear hba hdr hk hc hch hb0
              go_wp2_with fail
              go_quiet (fail)
              go_wp2_with fail
              refine (meets_any _ fb (meets y fN) t.p 4 ((unhide H4).later (bdn _ _)).fbx).mono ?_
              rintro e w6 ⟨rfl, hf6, hg6⟩
              have H6 := hide (((unhide H4).later (bdn _ _)).call hf6 hg6 hfl)
              clear hf6 hg6
              go_wp2_with fail
              go_roundw
              case rel => exact ⟨i + 1, _, by omega, by go_num, ((unhide FBD) (unhide HBA) _ (unhide H6)).1, ((unhide FBD) (unhide HBA) _ (unhide H6)).2⟩
              case measure => simp [intOf]; omega
            by_cases hl2 : 51 < ch.toNat
            · have hba : badArg (K.data.toList.drop i) t = true := by rw [hdr, badArg, if_neg (by omega), if_pos hc, hch]; simp; omega
              have HBA := hide hba
              have d1 : ¬ (t.s[0].toNat : Int) < 49 := by omega
              have d2 : (51 : Int) < (t.s[0].toNat : Int) := by omega
              clear hba hdr hk hc hch hb0
              go_wp2_with fail
              go_quiet (fail)
              go_wp2_with fail
              refine (meets_any _ fb (meets y fN) t.p 4 ((unhide H4).later (bdn _ _)).fbx).mono ?_
              rintro e w6 ⟨rfl, hf6, hg6⟩
              have H6 := hide (((unhide H4).later (bdn _ _)).call hf6 hg6 hfl)
              clear hf6 hg6
              go_wp2_with fail
              go_roundw
              case rel => exact ⟨i + 1, _, by omega, by go_num, ((unhide FBD) (unhide HBA) _ (unhide H6)).1, ((unhide FBD) (unhide HBA) _ (unhide H6)).2⟩
              case measure => simp [intOf]; omega
            · have hba : badArg (K.data.toList.drop i) t = false := by rw [hdr, badArg, if_neg (by omega), if_pos hc, hch]; simp; omega
              have HBA := hide hba
              have d1 : ¬ (t.s[0].toNat : Int) < 49 := by omega
              have d2 : ¬ (51 : Int) < (t.s[0].toNat : Int) := by omega
              clear hba hdr hk hc hch hb0
              go_wp2_with fail
              go_quiet (fail)
              go_wp2_with fail
              go_roundw
              case rel => exact ⟨i + 1, _, by omega, by go_num, (unhide H4).later (bdn _ _), (unhide FOK) (unhide HBA)⟩
              case measure => simp [intOf]; omega
          · have hba : badArg (K.data.toList.drop i) t = true := by rw [hdr, badArg, if_neg (by omega), if_neg hc]
            have HBA := hide hba
            have e2 : ((K[i].toNat : Int) != refK t.k) = true := by rw [hk, bne_iff_ne]; show (K[i].toNat : Int) ≠ 100; omega
            clear hba hdr hk hc
            go_wp2_with fail
            go_quiet (fail)
            go_wp2_with fail
            refine (meets_any _ fb (meets y fN) t.p 4 ((unhide H4).later (bdn _ _)).fbx).mono ?_
            rintro e w6 ⟨rfl, hf6, hg6⟩
            have H6 := hide (((unhide H4).later (bdn _ _)).call hf6 hg6 hfl)
            clear hf6 hg6
            go_wp2_with fail
            go_roundw
            case rel => exact ⟨i + 1, _, by omega, by go_num, ((unhide FBD) (unhide HBA) _ (unhide H6)).1, ((unhide FBD) (unhide HBA) _ (unhide H6)).2⟩
            case measure => simp [intOf]; omega
      · have hba : badArg (K.data.toList.drop i) t = true := by rw [List.drop_eq_nil_of_le (by rw [size_data]; omega)]; rfl
        have HBA := hide hba
        have hge : (K.size : Int) ≤ (i : Int) := by omega
        have hge' : K.size ≤ i := by omega
        clear hba hki
        go_wp2_with fail
        go_quiet (fail)
        go_wp2_with fail
        refine (meets_any _ fb (meets y fN) t.p 4 ((unhide H4).later (bdn _ _)).fbx).mono ?_
        rintro e w6 ⟨rfl, hf6, hg6⟩
        have H6 := hide (((unhide H4).later (bdn _ _)).call hf6 hg6 hfl)
        clear hf6 hg6
        go_wp2_with fail
        go_roundw
        case rel => exact ⟨i + 1, _, by omega, by go_num, ((unhide FBD) (unhide HBA) _ (unhide H6)).1, ((unhide FBD) (unhide HBA) _ (unhide H6)).2⟩
        case measure => simp [intOf]; omega
    · have hii : i = r.args.length := by omega
      subst hii
      have hye : meets (meets x (f1 ++ f2)) (fArgs al K.data.toList r.args) = y := by
        rw [unhide HY, List.drop_eq_nil_of_le (Nat.le_refl _)]; cases (K.data.toList.drop r.args.length) <;> rfl
      have hall : meets x (fCall al r) = meets y (if r.args.length < K.size then [(r.fin, 4)] else []) := by
        rw [fCall, ← unhide HF1, ← unhide HF2, ← unhide HKL, size_data, ← List.append_assoc, meets_append, meets_append, hye]
      have HALL := hide hall
      clear hall hye hlt hi
      by_cases hfew : r.args.length < K.size
      · have HFW := hide hfew
        go_wp2_with fail
        refine (meets_any _ fb y r.fin 4 has.fbx).mono ?_
        rintro e w6 ⟨rfl, hf6, hg6⟩
        have H6 := hide (has.call hf6 hg6 hfl)
        clear hf6 hg6
        go_wp2_with fail
        go_end0
        refine ⟨rfl, ?_, (unhide H6).gr⟩
        rw [unhide HALL, if_pos (unhide HFW)]; exact (unhide H6).fbx
      · have HFW := hide hfew
        go_wp2_with fail
        go_end0
        refine ⟨rfl, ?_, has.gr⟩
        rw [unhide HALL, if_neg (unhide HFW)]; exact has.fbx
end Go.Proofs.YtidakhhekofkoaaGreatDoor
namespace Go.Proofs.YtidakhhekofkoaaGreatDoor
open Go.Deep
def Fg (Q : Tk → Prop) : Fm → Prop
 | .nil => False
 | .node _ _ a l r => (a.1 = 0 ∧ (∃ t, Q t ∧ t.k = 2 ∧ t.s = a.2.1 ∧ t.p = a.2.2) ∧ l = .nil ∧ r = .nil) ∨
   ((1 ≤ a.1 ∧ a.1 ≤ 3) ∧ l = .nil ∧ r = .nil) ∨ ((4 ≤ a.1 ∧ a.1 ≤ 8) ∧ Fg Q l ∧ r = .nil) ∨ ((9 ≤ a.1 ∧ a.1 ≤ 12) ∧ Fg Q l ∧ Fg Q r)
theorem Fg.leaf {Q : Tk → Prop} {t : Tk} (h : Q t) (hk : t.k = 2) : Fg Q (leaf 0 t.s t.p) := Or.inl ⟨rfl, ⟨t, h, hk, rfl, rfl⟩, rfl, rfl⟩
theorem Fg.word {Q : Tk → Prop} {k : Nat} {s : ByteArray} {p : Nat} (h : 1 ≤ k ∧ k ≤ 3) : Fg Q (Go.Proofs.YtidakhhekofkoaaGreatDoor.leaf k s p) := Or.inr (Or.inl ⟨h, rfl, rfl⟩)
theorem Fg.one {Q : Tk → Prop} {k : Nat} {f : Fm} (h : 4 ≤ k ∧ k ≤ 8) (hf : Fg Q f) : Fg Q (one k f) := Or.inr (Or.inr (Or.inl ⟨h, hf, rfl⟩))
theorem Fg.two {Q : Tk → Prop} {k : Nat} {f g : Fm} (h : 9 ≤ k ∧ k ≤ 12) (hf : Fg Q f) (hg : Fg Q g) : Fg Q (two k f g) := Or.inr (Or.inr (Or.inr ⟨h, hf, hg⟩))
theorem sizeF_leaf (k : Nat) (s : ByteArray) (p : Nat) : sizeF (leaf k s p) = 1 := rfl
theorem sizeF_one (k : Nat) (f : Fm) : sizeF (one k f) = 1 + sizeF f := rfl
theorem sizeF_two (k : Nat) (f g : Fm) : sizeF (two k f g) = 1 + sizeF f + sizeF g := rfl
theorem opOf_range (k : Nat) (h : opOf k ≠ 0) : 4 ≤ opOf k ∧ opOf k ≤ 8 := by
 revert h; unfold opOf; repeat' split
 all_goals (intro h; first | omega | exact absurd rfl h)
theorem headK_ne {l : List Tk} {k : Nat} (h : headK l = k) (hk : k ≠ 0) : ∃ t r, l = t :: r ∧ t.k = k := by
 cases l with
 | nil => exact absurd h.symm hk
 | cons t r => exact ⟨t, r, rfl, h⟩
theorem headK_len {l : List Tk} (h : headK l ≠ 0) : l.tail.length + 1 = l.length := by
 cases l with
 | nil => exact absurd rfl h
 | cons t r => simp
theorem all_tail {Q : Tk → Prop} {l : List Tk} (h : ∀ t ∈ l, Q t) : ∀ t ∈ l.tail, Q t := fun t ht => h t (List.mem_of_mem_tail ht)
theorem pf_good (Q : Tk → Prop) : ∀ n lev f l f' l', pf n lev f l = .ok (f', l') → lev ≤ 6 → (5 ≤ lev → Fg Q f) → (∀ t ∈ l, Q t) →
  Fg Q f' ∧ (∀ t ∈ l', Q t) ∧ sizeF f' + l'.length ≤ (if 5 ≤ lev then sizeF f else 0) + l.length
 | 0, _, _, _, _, _, h, _, _, _ => by simp [pf] at h
 | n + 1, 0, f, l, f', l', h, _, _, hq => by
  rw [pf] at h
  split at h
  ·cases h
  ·rename_i a l1 e
   have h1 := pf_good Q n 1 .nil l a l1 e (by omega) (by omega) hq
   split at h
   ·rename_i hk
    split at h
    ·cases h
    ·rename_i b l2 e2
     have h2 := pf_good Q n 0 .nil l1.tail b l2 e2 (by omega) (by omega) (all_tail h1.2.1)
     have hl := headK_len (l := l1) (by omega)
     cases h
     refine ⟨Fg.two (by omega) h1.1 h2.1, h2.2.1, ?_⟩
     have s1 := h1.2.2; have s2 := h2.2.2
     simp at s1 s2 ⊢
     rw [sizeF_two]; omega
   ·cases h; have s1 := h1.2.2; simp at s1; exact ⟨h1.1, h1.2.1, by simp; omega⟩
 | n + 1, 1, f, l, f', l', h, _, _, hq => by
  rw [pf] at h
  split at h
  ·cases h
  ·rename_i a l1 e
   have h1 := pf_good Q n 2 .nil l a l1 e (by omega) (by omega) hq
   have h2 := pf_good Q n 5 a l1 f' l' h (by omega) (fun _ => h1.1) h1.2.1
   have s1 := h1.2.2; have s2 := h2.2.2
   simp at s1 s2
   exact ⟨h2.1, h2.2.1, by simp; omega⟩
 | n + 1, 2, f, l, f', l', h, _, _, hq => by
  rw [pf] at h
  split at h
  ·cases h
  ·rename_i a l1 e
   have h1 := pf_good Q n 3 .nil l a l1 e (by omega) (by omega) hq
   have h2 := pf_good Q n 6 a l1 f' l' h (by omega) (fun _ => h1.1) h1.2.1
   have s1 := h1.2.2; have s2 := h2.2.2
   simp at s1 s2
   exact ⟨h2.1, h2.2.1, by simp; omega⟩
 | n + 1, 3, f, l, f', l', h, _, _, hq => by
  rw [pf] at h
  split at h
  ·cases h
  ·rename_i a l1 e
   have h1 := pf_good Q n 4 .nil l a l1 e (by omega) (by omega) hq
   split at h
   ·rename_i hk
    split at h
    ·cases h
    ·rename_i b l2 e2
     have h2 := pf_good Q n 4 .nil l1.tail b l2 e2 (by omega) (by omega) (all_tail h1.2.1)
     have hl := headK_len (l := l1) (by omega)
     cases h
     refine ⟨Fg.two (by omega) h1.1 h2.1, h2.2.1, ?_⟩
     have s1 := h1.2.2; have s2 := h2.2.2
     simp at s1 s2 ⊢
     rw [sizeF_two]; omega
   ·cases h; have s1 := h1.2.2; simp at s1; exact ⟨h1.1, h1.2.1, by simp; omega⟩
 | n + 1, 4, f, l, f', l', h, _, _, hq => by
  rw [pf] at h
  split at h
  ·rename_i ho
   split at h
   ·cases h
   ·rename_i a l1 e
    have h1 := pf_good Q n 4 .nil l.tail a l1 e (by omega) (by omega) (all_tail hq)
    have hl := headK_len (l := l) (by intro e0; rw [e0] at ho; exact ho rfl)
    have s1 := h1.2.2
    simp at s1
    cases h
    refine ⟨Fg.one (opOf_range _ ho) h1.1, h1.2.1, ?_⟩
    rw [sizeF_one]; simp; omega
  ·split at h
   ·rename_i hk
    split at h
    ·cases h
    ·rename_i a l1 e
     have h1 := pf_good Q n 0 .nil l.tail a l1 e (by omega) (by omega) (all_tail hq)
     have s1 := h1.2.2
     simp at s1
     split at h
     ·cases h; exact ⟨h1.1, all_tail h1.2.1, by simp; omega⟩
     ·cases h
   ·split at h
    ·rename_i hk
     cases h
     have hl := headK_len (l := l) (by omega)
     refine ⟨Fg.word (by omega), all_tail hq, ?_⟩
     rw [sizeF_leaf]; simp; omega
    ·split at h
     ·rename_i hk
      cases h
      obtain ⟨t, r, rfl, ht⟩ := headK_ne hk (by omega)
      exact ⟨Fg.leaf (hq t List.mem_cons_self) ht, all_tail hq, by rw [sizeF_leaf]; simp; omega⟩
     ·cases h
 | n + 1, 5, f, l, f', l', h, _, hf, hq => by
  rw [pf] at h
  split at h
  ·rename_i hk
   split at h
   ·cases h
   ·rename_i b l1 e
    have h1 := pf_good Q n 2 .nil l.tail b l1 e (by omega) (by omega) (all_tail hq)
    have h2 := pf_good Q n 5 _ l1 f' l' h (by omega) (fun _ => Fg.two (by omega) (hf (by omega)) h1.1) h1.2.1
    have hl := headK_len (l := l) (by omega)
    have s1 := h1.2.2; have s2 := h2.2.2
    rw [sizeF_two] at s2
    simp at s1 s2
    exact ⟨h2.1, h2.2.1, by simp; omega⟩
  ·cases h; exact ⟨hf (by omega), hq, by simp⟩
 | n + 1, 6, f, l, f', l', h, _, hf, hq => by
  rw [pf] at h
  split at h
  ·rename_i hk
   split at h
   ·cases h
   ·rename_i b l1 e
    have h1 := pf_good Q n 3 .nil l.tail b l1 e (by omega) (by omega) (all_tail hq)
    have h2 := pf_good Q n 6 _ l1 f' l' h (by omega) (fun _ => Fg.two (by omega) (hf (by omega)) h1.1) h1.2.1
    have hl := headK_len (l := l) (by omega)
    have s1 := h1.2.2; have s2 := h2.2.2
    rw [sizeF_two] at s2
    simp at s1 s2
    exact ⟨h2.1, h2.2.1, by simp; omega⟩
  ·cases h; exact ⟨hf (by omega), hq, by simp⟩
 | n + 1, k + 7, f, l, f', l', h, hk, _, _ => by omega
def RlGood (Q : Tk → Prop) (m : Nat) (r : Rl) : Prop :=
 (r.call = true ∧ Q r.word ∧ r.word.k = 2 ∧ r.f = .nil ∧ ∃ x, Q x ∧ x.k = 2 ∧ (r.args = [x] ∨ ∃ y, Q y ∧ (y.k = 2 ∨ y.k = 3) ∧ r.args = [x, y])) ∨
 (r.call = false ∧ Fg Q r.f ∧ sizeF r.f ≤ m ∧ r.args = [])
theorem headT_ok {Q : Tk → Prop} {l : List Tk} {k : Nat} (h : headK l = k) (hk : k ≠ 0) (hq : ∀ t ∈ l, Q t) : Q (headT l) ∧ (headT l).k = k := by
 obtain ⟨t, r, rfl, ht⟩ := headK_ne h hk
 exact ⟨hq t List.mem_cons_self, ht⟩
theorem ruleRead_good (Q : Tk → Prop) (l : List Tk) (r : Rl) (l' : List Tk) (h : ruleRead l = .ok (r, l')) (hq : ∀ t ∈ l, Q t) : RlGood Q l.length r ∧ (∀ t ∈ l', Q t) := by
 unfold ruleRead at h
 split at h
 ·rename_i h0
  have w0 := headT_ok h0.1 (by omega) hq
  split at h
  ·rename_i h1
   have w1 := headT_ok h1 (by omega) (all_tail (all_tail hq))
   split at h
   ·split at h
    ·rename_i h3
     have w3 : Q (headT l.tail.tail.tail.tail) ∧ ((headT l.tail.tail.tail.tail).k = 2 ∨ (headT l.tail.tail.tail.tail).k = 3) := by
      rcases h3 with h3 | h3
      ·have := headT_ok h3 (by omega) (all_tail (all_tail (all_tail (all_tail hq)))); exact ⟨this.1, Or.inl this.2⟩
      ·have := headT_ok h3 (by omega) (all_tail (all_tail (all_tail (all_tail hq)))); exact ⟨this.1, Or.inr this.2⟩
     split at h
     ·cases h
      exact ⟨Or.inl ⟨rfl, w0.1, w0.2, rfl, _, w1.1, w1.2, Or.inr ⟨_, w3.1, w3.2, rfl⟩⟩, all_tail (all_tail (all_tail (all_tail (all_tail (all_tail hq)))))⟩
     ·cases h
    ·cases h
   ·split at h
    ·cases h
     exact ⟨Or.inl ⟨rfl, w0.1, w0.2, rfl, _, w1.1, w1.2, Or.inl rfl⟩, all_tail (all_tail (all_tail (all_tail hq)))⟩
    ·cases h
  ·cases h
 ·split at h
  ·cases h
  ·rename_i f l1 e
   cases h
   have := pf_good Q _ 0 .nil l f l' e (by omega) (by omega) hq
   have s1 := this.2.2
   simp at s1
   exact ⟨Or.inr ⟨rfl, this.1, by show sizeF f ≤ _; omega, rfl⟩, this.2.1⟩
theorem actsRead_good (Q : Tk → Prop) : ∀ n l ts l', actsRead n l = .ok (ts, l') → (∀ t ∈ l, Q t) → (∀ t ∈ ts, Q t ∧ t.k = 2) ∧ ts ≠ [] ∧ ts.length ≤ n ∧ (∀ t ∈ l', Q t)
 | 0, l, ts, l', h, _ => by simp [actsRead] at h
 | n + 1, l, ts, l', h, hq => by
  rw [actsRead] at h
  split at h
  ·rename_i h0
   have w0 := headT_ok h0 (by omega) hq
   split at h
   ·split at h
    ·cases h
    ·rename_i ts1 l1 e
     have := actsRead_good Q n l.tail.tail ts1 l1 e (all_tail (all_tail hq))
     cases h
     refine ⟨fun t ht => ?_, by simp, by simp; omega, this.2.2.2⟩
     rcases List.mem_cons.1 ht with rfl | ht
     ·exact w0
     ·exact this.1 t ht
   ·cases h
    exact ⟨fun t ht => by rw [List.mem_singleton] at ht; subst ht; exact w0, by simp, by simp, all_tail hq⟩
  ·cases h
theorem RlGood.mono {Q : Tk → Prop} {m m' : Nat} {r : Rl} (h : RlGood Q m r) (hm : m ≤ m') : RlGood Q m' r := by
 rcases h with h | ⟨h1, h2, h3, h4⟩
 ·exact Or.inl h
 ·exact Or.inr ⟨h1, h2, by omega, h4⟩
theorem rulesRead_good (Q : Tk → Prop) (m : Nat) : ∀ n l rs, rulesRead n l = .ok rs → l.length ≤ m → (∀ t ∈ l, Q t) → (∀ r ∈ rs, RlGood Q m r) ∧ rs.length ≤ n
 | 0, l, rs, h, _, _ => by simp [rulesRead] at h
 | n + 1, l, rs, h, hm, hq => by
  rw [rulesRead] at h
  split at h
  ·cases h; exact ⟨fun r hr => (List.not_mem_nil hr).elim, by simp⟩
  ·split at h
   ·split at h
    ·cases h
    ·rename_i r l1 e
     have hr := ruleRead_good Q l.tail r l1 e (all_tail hq)
     have hl := ruleRead_len l.tail r l1 e
     split at h
     ·split at h
      ·cases h
      ·rename_i rs1 e1
       have h1 := rulesRead_good Q m n l1.tail rs1 e1 (by simp at hl ⊢; omega) (all_tail hr.2)
       cases h
       refine ⟨fun x hx => ?_, by simp; omega⟩
       rcases List.mem_cons.1 hx with rfl | hx
       ·exact (show RlGood Q _ r from hr.1).mono (by simp; omega)
       ·exact h1.1 x hx
     ·cases h
   ·cases h
theorem modelRead_good (Q : Tk → Prop) (l : List Tk) (al : List Tk) (rs : List Rl) (h : modelRead l = .ok (al, rs)) (hq : ∀ t ∈ l, Q t) :
  (∀ t ∈ al, Q t ∧ t.k = 2) ∧ al ≠ [] ∧ al.length ≤ l.length ∧ (∀ r ∈ rs, RlGood Q l.length r) ∧ rs.length ≤ l.length := by
 unfold modelRead at h
 split at h
 ·split at h
  ·cases h
  ·rename_i ts l1 e
   have ha := actsRead_good Q _ _ _ _ e (all_tail hq)
   have hl := actsRead_len _ _ _ _ e
   split at h
   ·split at h
    ·cases h
    ·rename_i rs1 e1
     have hr := rulesRead_good Q l.length _ _ _ e1 (by simp at hl ⊢; omega) (all_tail ha.2.2.2)
     cases h
     exact ⟨ha.1, ha.2.1, ha.2.2.1, hr.1, by simp at hl; omega⟩
   ·cases h
 ·cases h
theorem lexR_small (s : ByteArray) : ∀ n i, i ≤ s.size → ∀ t ∈ lexR s n i, t.s.size ≤ s.size ∧ t.p ≤ s.size
 | 0, _, _, t, h => by simp [lexR] at h
 | n + 1, i, hi, t, h => by
  have h1 := upTo_le isBl s i hi
  have h2 := lexAt_s s _ h1
  have h3 := lexAt_p s _ h1
  by_cases hk : (lexAt s (upTo isBl s i)).k ≤ 1
  ·rw [lexR_stop s n i hk] at h; simp at h; subst h; omega
  ·rw [lexR_go s n i hk] at h
   have ha := lex_adv s i hi hk
   rcases List.mem_cons.1 h with rfl | h
   ·omega
   ·exact lexR_small s n _ ha.2 t h
def dups (pre : List Tk) (a : Tk) : List (Nat × Nat) :=
 match pre with
 | [] => []
 | t :: r => (if t.s.toList = a.s.toList then [(a.p, 3)] else []) ++ dups r a
def fLong (a : Tk) : List (Nat × Nat) := if 8 < a.s.size then [(a.p, 1)] else []
def fAct (pre : List Tk) (i : Nat) (a : Tk) : List (Nat × Nat) := fLong a ++ (dups pre a ++ (if 6 ≤ i then [(a.p, 4)] else []))
def fActs (al : List Tk) : Nat → List Tk → List (Nat × Nat)
 | _, [] => []
 | i, a :: r => fAct (al.take i) i a ++ fActs al (i + 1) r
def fRule (al : List Tk) (i : Nat) (r : Rl) : List (Nat × Nat) := (if 4 ≤ i then [(r.pl, 4)] else []) ++ (fFm al r.f ++ (if r.call = true then fCall al r else []))
def fRules (al : List Tk) : Nat → List Rl → List (Nat × Nat)
 | _, [] => []
 | i, r :: l => fRule al i r ++ fRules al (i + 1) l
def faults (al : List Tk) (rs : List Rl) : List (Nat × Nat) := fActs al 0 al ++ fRules al 0 rs
def nodesL : List Rl → Nat
 | [] => 0
 | r :: l => sizeF (ruleF r) + nodesL l
def rdOf (n : Nat) : Except Nat (List Tk × List Rl) → Except (Nat × Nat) (List Tk × List Rl)
 | .error q => .error (q, 2)
 | .ok (al, rs) => if (meets (0, 0) (faults al rs)).2 ≠ 0 then .error (meets (0, 0) (faults al rs)) else if 16 < nodesL rs then .error (n, 4) else .ok (al, rs)
def readM (s : ByteArray) : Except (Nat × Nat) (List Tk × List Rl) := if 400 < s.size then .error (0, 1) else rdOf s.size (modelRead (lexR s (s.size + 1) 0))
theorem dropTl {α : Type} {l : List α} {k : Nat} {x : α} {r : List α} (h : l.drop k = x :: r) : l.drop (k + 1) = r := by
 have := congrArg List.tail h
 simpa using this
theorem take_snoc {α : Type} {l : List α} {k : Nat} {x : α} {r : List α} (h : l.drop k = x :: r) : l.take (k + 1) = l.take k ++ [x] := by
 rw [List.take_add_one]
 have : l[k]? = some x := by
  have := congrArg (fun l => l[0]?) h
  simpa using this
 rw [this]; rfl
def Errs (l : List (Nat × Nat)) : Prop := ∀ f ∈ l, f.2 ≠ 0
theorem Errs.append {l m : List (Nat × Nat)} (h : Errs l) (k : Errs m) : Errs (l ++ m) := fun f hf => (List.mem_append.1 hf).elim (h f) (k f)
theorem Errs.nil : Errs [] := fun _ h => (List.not_mem_nil h).elim
theorem Errs.ite {p : Prop} [Decidable p] {l m : List (Nat × Nat)} (h : Errs l) (k : Errs m) : Errs (if p then l else m) := by split <;> assumption
theorem Errs.one {a b : Nat} (h : b ≠ 0) : Errs [(a, b)] := fun f hf => by rw [List.mem_singleton] at hf; subst hf; exact h
theorem meet_ne (x : Nat × Nat) (p e : Nat) (he : e ≠ 0) : (meet x p e).2 ≠ 0 := by
 unfold meet; split
 ·exact he
 ·rename_i h; intro h'; exact h (Or.inl h')
theorem meets_ne : ∀ (l : List (Nat × Nat)) (x : Nat × Nat), Errs l → x.2 ≠ 0 → (meets x l).2 ≠ 0
 | [], _, _, h => h
 | f :: l, x, he, _ => meets_ne l _ (fun g hg => he g (List.mem_cons_of_mem _ hg)) (meet_ne x _ _ (he f List.mem_cons_self))
theorem meets_zero {l : List (Nat × Nat)} (he : Errs l) (h : (meets (0, 0) l).2 = 0) : l = [] := by
 cases l with
 | nil => rfl
 | cons f l => exact absurd h (meets_ne l _ (fun g hg => he g (List.mem_cons_of_mem _ hg)) (meet_ne _ _ _ (he f List.mem_cons_self)))
theorem fName_errs (al : List Tk) (s : ByteArray) (p : Nat) : Errs (fName al s p) := (Errs.ite (Errs.one (by decide)) Errs.nil).append (Errs.ite Errs.nil (Errs.one (by decide)))
theorem fFm_errs (al : List Tk) : ∀ f, Errs (fFm al f)
 | .nil => Errs.nil
 | .node _ _ _ l r => (Errs.ite (fName_errs al _ _) Errs.nil).append ((fFm_errs al l).append (fFm_errs al r))
theorem fArgs_errs (al : List Tk) : ∀ (k : List UInt8) (l : List Tk), Errs (fArgs al k l)
 | _, [] => by rw [fArgs]; exact Errs.nil
 | k, t :: r => by rw [fArgs]; exact ((Errs.ite (fName_errs al _ _) Errs.nil).append (Errs.ite (Errs.one (by decide)) Errs.nil)).append (fArgs_errs al _ r)
theorem fCall_errs (al : List Tk) (r : Rl) : Errs (fCall al r) := (Errs.ite (Errs.one (by decide)) Errs.nil).append ((Errs.ite Errs.nil (Errs.one (by decide))).append ((fArgs_errs al _ _).append (Errs.ite (Errs.one (by decide)) Errs.nil)))
theorem dups_errs (a : Tk) : ∀ l, Errs (dups l a)
 | [] => Errs.nil
 | _ :: r => (Errs.ite (Errs.one (by decide)) Errs.nil).append (dups_errs a r)
theorem fActs_errs (al : List Tk) : ∀ i l, Errs (fActs al i l)
 | _, [] => Errs.nil
 | i, a :: r => ((Errs.ite (Errs.one (by decide)) Errs.nil).append ((dups_errs a _).append (Errs.ite (Errs.one (by decide)) Errs.nil))).append (fActs_errs al (i + 1) r)
theorem fRules_errs (al : List Tk) : ∀ i l, Errs (fRules al i l)
 | _, [] => Errs.nil
 | i, r :: l => ((Errs.ite (Errs.one (by decide)) Errs.nil).append ((fFm_errs al _).append (Errs.ite (fCall_errs al r) Errs.nil))).append (fRules_errs al (i + 1) l)
theorem faults_errs (al : List Tk) (rs : List Rl) : Errs (faults al rs) := (fActs_errs al _ _).append (fRules_errs al _ _)
theorem fRules_nil {al : List Tk} : ∀ {i : Nat} {rs : List Rl}, fRules al i rs = [] → ∀ r ∈ rs, fFm al r.f = [] ∧ (r.call = true → fCall al r = [])
 | _, [], _, r, hr => (List.not_mem_nil hr).elim
 | i, x :: l, h, r, hr => by
  rw [fRules, fRule] at h
  obtain ⟨h1, h2⟩ := List.append_eq_nil_iff.1 h
  obtain ⟨h3, h4⟩ := List.append_eq_nil_iff.1 h1
  obtain ⟨h5, h6⟩ := List.append_eq_nil_iff.1 h4
  rcases List.mem_cons.1 hr with rfl | hr
  ·exact ⟨h5, fun hc => by rw [if_pos hc] at h6; exact h6⟩
  ·exact fRules_nil h2 r hr
theorem dig_ok {t : Tk} (h : TkOk t) (hk : t.k = 3) : ∃ c : UInt8, t.s = ⟨#[c]⟩ ∧ 48 ≤ c.toNat ∧ c.toNat ≤ 57 := by
  obtain ⟨c, hc, h1⟩ := h.2.2.1 hk
  refine ⟨c, ?_, h1⟩
  cases hs : t.s with
  | mk d => rw [hs] at hc; have : d = #[c] := by rw [← Array.toList_inj]; exact hc
            rw [this]
theorem takes_len {n : Nat} (h : n ≤ 11) : (tplTakes n = [110] ∧ n ≤ 1) ∨ (tplTakes n = [110, 100] ∧ 2 ≤ n ∧ n ≤ 3) ∨ (tplTakes n = [110, 110] ∧ 4 ≤ n) := by
 unfold tplTakes
 split
 ·exact Or.inl ⟨rfl, by assumption⟩
 ·split
  ·exact Or.inr (Or.inl ⟨rfl, by omega, by assumption⟩)
  ·exact Or.inr (Or.inr ⟨rfl, by omega⟩)
theorem call_ok {al : List Tk} {Q : Tk → Prop} {m : Nat} {r : Rl} (hQ : ∀ t, Q t → TkOk t) (hg : RlGood Q m r) (hc : r.call = true) (h : fCall al r = []) : CallOk r := by
 rcases hg with ⟨_, _, _, _, x, hx, hxk, hargs⟩ | ⟨h1, _⟩
 ·unfold fCall at h
  obtain ⟨_, h2⟩ := List.append_eq_nil_iff.1 h
  obtain ⟨h3, h4⟩ := List.append_eq_nil_iff.1 h2
  obtain ⟨h5, h6⟩ := List.append_eq_nil_iff.1 h4
  have hn : tplNo r.word.s.toList ≤ 11 := by
   rcases Nat.lt_or_ge 11 (tplNo r.word.s.toList) with hh | hh
   ·rw [if_neg (by omega)] at h3; cases h3
   ·exact hh
  have hlen : ¬ r.args.length < (tplTakes (tplNo r.word.s.toList)).length := by
   intro hh; rw [if_pos hh] at h6; cases h6
  have hbad : ∀ {ks : List UInt8} {t : Tk} {l : List Tk}, fArgs al ks (t :: l) = [] → badArg ks t = false ∧ fArgs al ks.tail l = [] := by
   intro ks t l he
   rw [fArgs, fArg] at he
   obtain ⟨e1, e2⟩ := List.append_eq_nil_iff.1 he
   obtain ⟨_, e3⟩ := List.append_eq_nil_iff.1 e1
   refine ⟨?_, e2⟩
   cases hb : badArg ks t with
   | false => rfl
   | true => rw [if_pos hb] at e3; cases e3
  rcases takes_len hn with ⟨ht, hk⟩ | ⟨ht, hk⟩ | ⟨ht, hk⟩
  ·rcases hargs with ha | ⟨y, hy, hyk, ha⟩
   ·exact Or.inl ⟨hk, x, ha⟩
   ·rw [ha, ht] at h5
    have := hbad (hbad h5).2
    exact absurd this.1 (by simp [badArg])
  ·rcases hargs with ha | ⟨y, hy, hyk, ha⟩
   ·rw [ha, ht] at hlen; exact absurd (by simp) hlen
   ·rw [ha, ht] at h5
    have hb := (hbad (hbad h5).2).1
    rcases hyk with hyk | hyk
    ·simp [badArg, hyk] at hb
    ·obtain ⟨c, hc1, hc2, hc3⟩ := dig_ok (hQ y hy) hyk
     simp [badArg, hyk, hc1] at hb
     exact Or.inr (Or.inl ⟨hk.1, hk.2, x, y, ha, c, hc1, by omega, hc3⟩)
  ·rcases hargs with ha | ⟨y, hy, hyk, ha⟩
   ·rw [ha, ht] at hlen; exact absurd (by simp) hlen
   ·exact Or.inr (Or.inr ⟨hk, hn, x, y, ha⟩)
 ·rw [h1] at hc; cases hc
theorem timesF_size (a : ByteArray) : ∀ n, sizeF (timesF a n) ≤ 2 + 4 * n
 | 0 => by show 1 + (1 + 0 + 0) + 0 ≤ 2; omega
 | 1 => by show 1 + (1 + 0 + 0) + 0 ≤ 6; omega
 | n + 2 => by
  have := timesF_size a (n + 1)
  show 1 + (1 + (1 + 0 + 0) + (1 + sizeF (timesF a (n + 1)) + 0)) + 0 ≤ _
  omega
theorem tplF_size (k : Nat) (a b : ByteArray) (n : Nat) : sizeF (tplF k a b n) ≤ 12 + 4 * n := by
 have := timesF_size a n
 unfold tplF
 split
 ·show 1 + 0 + 0 ≤ _; omega
 split
 ·show 1 + (1 + (1 + 0 + 0) + (1 + (1 + (1 + 0 + 0) + 0) + 0)) + 0 ≤ _; omega
 split
 ·omega
 split
 ·show 1 + sizeF (timesF a n) + 0 ≤ _; omega
 repeat' split
 all_goals (simp only [sizeF_two, sizeF_one, acF, sizeF_leaf]; omega)
theorem ruleF_size {Q : Tk → Prop} {m : Nat} {r : Rl} (hg : RlGood Q m r) (hok : r.call = true → CallOk r) : sizeF (ruleF r) ≤ 48 + m := by
 unfold ruleF
 rcases hg with ⟨hc, _⟩ | ⟨h1, _, h3, _⟩
 ·rw [if_pos hc]
  have h1 := tplF_size (tplNo r.word.s.toList) (argS r.args 0) (argS r.args 1) (digitN (argS r.args 1))
  rcases hok hc with ⟨hk, x, ha⟩ | ⟨hk, hk2, x, y, ha, c, hc1, hc2, hc3⟩ | ⟨hk, hk2, x, y, ha⟩
  ·have : digitN (argS r.args 1) = 0 := by rw [ha]; rfl
   omega
  ·have : digitN (argS r.args 1) ≤ 9 := by rw [ha]; show digitN y.s ≤ 9; rw [hc1]; show c.toNat - 48 ≤ 9; omega
   omega
  ·have h2 : sizeF (tplF (tplNo r.word.s.toList) (argS r.args 0) (argS r.args 1) (digitN (argS r.args 1))) ≤ 12 := by
    unfold tplF
    rw [if_neg (by omega), if_neg (by omega), if_neg (by omega), if_neg (by omega)]
    repeat' split
    all_goals (simp only [sizeF_two, sizeF_one, acF, sizeF_leaf]; omega)
   omega
 ·rw [if_neg (by simp [h1])]; omega
def lexP (s : ByteArray) : Nat → Nat → List Tk
 | 0, _ => []
 | n + 1, i => let t := lexAt s (upTo isBl s i); if t.k = 0 then [t] else t :: lexP s n (t.p + t.s.size)
theorem lexP_stop (s : ByteArray) (n i : Nat) (h : (lexAt s (upTo isBl s i)).k = 0) : lexP s (n + 1) i = [lexAt s (upTo isBl s i)] := by
 rw [lexP]; exact if_pos h
theorem lexP_go (s : ByteArray) (n i : Nat) (h : (lexAt s (upTo isBl s i)).k ≠ 0) : lexP s (n + 1) i = lexAt s (upTo isBl s i) :: lexP s n ((lexAt s (upTo isBl s i)).p + (lexAt s (upTo isBl s i)).s.size) := by
 rw [lexP]; exact if_neg h
theorem lexP_adv (s : ByteArray) (i : Nat) (h : i ≤ s.size) (hk : (lexAt s (upTo isBl s i)).k ≠ 0) :
  i + 1 ≤ (lexAt s (upTo isBl s i)).p + (lexAt s (upTo isBl s i)).s.size ∧ (lexAt s (upTo isBl s i)).p + (lexAt s (upTo isBl s i)).s.size ≤ s.size := by
 have h0 := upTo_ge isBl s i
 have h1 := upTo_le isBl s i h
 have h2 := lexAt_p s _ h1
 have h3 := lexAt_s s _ h1
 have h4 := lexAt_pos s _ h1 hk
 omega
def cut : List Tk → List Tk
 | [] => []
 | t :: r => if t.k ≤ 1 then [t] else t :: cut r
theorem cut_lexP (s : ByteArray) : ∀ n i, cut (lexP s n i) = lexR s n i
 | 0, _ => rfl
 | n + 1, i => by
  by_cases h : (lexAt s (upTo isBl s i)).k ≤ 1
  ·rw [lexR_stop s n i h]
   by_cases h0 : (lexAt s (upTo isBl s i)).k = 0
   ·rw [lexP_stop s n i h0, cut, if_pos h]
   ·rw [lexP_go s n i h0, cut, if_pos h]
  ·rw [lexR_go s n i h, lexP_go s n i (by omega), cut, if_neg h, cut_lexP s n]
def FE : List Tk → Prop
 | [] => False
 | [t] => t.k = 0
 | t :: r => t.k ≠ 0 ∧ FE r
theorem FE.ne {l : List Tk} (h : FE l) : l ≠ [] := by rintro rfl; exact h
theorem FE.tail {t : Tk} {r : List Tk} (h : FE (t :: r)) (hk : t.k ≠ 0) : FE r := by
 cases r with
 | nil => exact absurd (show t.k = 0 from h) hk
 | cons u r => exact h.2
theorem lexP_fe (s : ByteArray) : ∀ n i, i ≤ s.size → s.size < n + i → FE (lexP s n i)
 | 0, i, h, h' => by omega
 | n + 1, i, h, h' => by
  by_cases hk : (lexAt s (upTo isBl s i)).k = 0
  ·rw [lexP_stop s n i hk]; exact hk
  ·rw [lexP_go s n i hk]
   have ha := lexP_adv s i h hk
   have := lexP_fe s n _ ha.2 (by omega)
   cases hr : lexP s n ((lexAt s (upTo isBl s i)).p + (lexAt s (upTo isBl s i)).s.size) with
   | nil => rw [hr] at this; exact absurd this id
   | cons u r => rw [hr] at this; exact ⟨hk, this⟩
theorem lexP_len (s : ByteArray) : ∀ n i, i ≤ s.size → (lexP s n i).length + i ≤ s.size + 1
 | 0, i, h => by simp [lexP]; omega
 | n + 1, i, h => by
  by_cases hk : (lexAt s (upTo isBl s i)).k = 0
  ·rw [lexP_stop s n i hk]; simp; omega
  ·rw [lexP_go s n i hk]
   have ha := lexP_adv s i h hk
   have := lexP_len s n _ ha.2
   simp; omega
def TkIn (m : Nat) (t : Tk) : Prop := TkOk t ∧ t.s.size ≤ m ∧ t.p ≤ m
theorem lexAt_in (s : ByteArray) (j : Nat) (h : j ≤ s.size) : TkIn s.size (lexAt s j) :=
 ⟨lexAt_ok s j, by have := lexAt_s s j h; omega, by rw [lexAt_p s j h]; exact h⟩
theorem lexP_in (s : ByteArray) : ∀ n i, i ≤ s.size → ∀ t ∈ lexP s n i, TkIn s.size t
 | 0, _, _, t, h => by simp [lexP] at h
 | n + 1, i, hi, t, h => by
  by_cases hk : (lexAt s (upTo isBl s i)).k = 0
  ·rw [lexP_stop s n i hk] at h; simp at h; subst h; exact lexAt_in s _ (upTo_le isBl s i hi)
  ·rw [lexP_go s n i hk] at h
   rcases List.mem_cons.1 h with rfl | h
   ·exact lexAt_in s _ (upTo_le isBl s i hi)
   ·exact lexP_in s n _ (lexP_adv s i hi hk).2 t h
theorem cut_ends : ∀ {l : List Tk}, FE l → Ends (cut l)
 | [], h => absurd h id
 | [t], h => by rw [cut, if_pos (by have : t.k = 0 := h; omega)]; show t.k ≤ 1; have : t.k = 0 := h; omega
 | t :: u :: r, h => by
  by_cases hk : t.k ≤ 1
  ·rw [cut, if_pos hk]; exact hk
  ·rw [cut, if_neg hk]
   have := cut_ends (l := u :: r) h.2
   cases hc : cut (u :: r) with
   | nil => rw [hc] at this; exact absurd this id
   | cons a b => rw [hc] at this; exact ⟨by omega, this⟩
theorem FE.drop : ∀ {l : List Tk} (i : Nat), FE l → i < l.length → FE (l.drop i)
 | [], _, h, _ => absurd h id
 | [t], 0, h, _ => h
 | [t], i + 1, h, hi => by simp at hi
 | t :: u :: r, 0, h, _ => h
 | t :: u :: r, i + 1, h, hi => by
  rw [List.drop_succ_cons]
  exact FE.drop (l := u :: r) i h.2 (by simpa using hi)
def PL (L : List Tk) (i : Nat) : List Tk := cut (L.drop i)
theorem PL_head {L : List Tk} {i : Nat} {t : Tk} {r : List Tk} (h : PL L i = t :: r) : ∃ r', L.drop i = t :: r' := by
 unfold PL at h
 cases hd : L.drop i with
 | nil => rw [hd] at h; cases h
 | cons u r' =>
  rw [hd, cut] at h
  split at h
  ·cases h; exact ⟨r', rfl⟩
  ·cases h; exact ⟨r', rfl⟩
theorem PL_next {L : List Tk} {i : Nat} {t : Tk} {r : List Tk} (h : PL L i = t :: r) (hk : 2 ≤ t.k) : PL L (i + 1) = r := by
 unfold PL at h ⊢
 cases hd : L.drop i with
 | nil => rw [hd] at h; cases h
 | cons u r' =>
  rw [hd, cut] at h
  split at h
  ·cases h; omega
  ·cases h
   have : L.drop (i + 1) = r' := by
    have := congrArg List.tail hd
    simpa using this
   rw [this]
theorem PL_lt {L : List Tk} {i : Nat} {t : Tk} {r : List Tk} (h : PL L i = t :: r) : i < L.length := by
 obtain ⟨r', h'⟩ := PL_head h
 rcases Nat.lt_or_ge i L.length with hi | hi
 ·exact hi
 ·rw [List.drop_eq_nil_of_le hi] at h'; cases h'
theorem PL_ends {L : List Tk} {i : Nat} (h : FE L) (hi : i < L.length) : Ends (PL L i) := cut_ends (h.drop i hi)
theorem PL_some {L : List Tk} {i : Nat} (h : FE L) (hi : i < L.length) : ∃ t r, PL L i = t :: r := by
 cases hp : PL L i with
 | nil => have := (PL_ends h hi); rw [hp] at this; exact absurd this id
 | cons t r => exact ⟨t, r, rfl⟩
theorem FE.nextLt {L : List Tk} {i : Nat} {t : Tk} {r : List Tk} (h : FE L) (ht : PL L i = t :: r) (hk : t.k ≠ 0) : i + 1 < L.length := by
 obtain ⟨r', hr⟩ := PL_head ht
 have h1 := h.drop i (PL_lt ht)
 rw [hr] at h1
 have h2 := (h1.tail hk).ne
 have h3 := congrArg List.length hr
 have h4 : 0 < r'.length := List.length_pos_iff.2 h2
 simp at h3; omega
theorem FE.last {L : List Tk} (h : FE L) : ∃ e, L.drop (L.length - 1) = [e] ∧ e.k = 0 := by
 have h1 : 0 < L.length := List.length_pos_iff.2 h.ne
 have h2 := h.drop (L.length - 1) (by omega)
 cases hd : L.drop (L.length - 1) with
 | nil => rw [hd] at h2; exact absurd h2 id
 | cons e r =>
  have h3 := congrArg List.length hd
  simp at h3
  have : r = [] := List.length_eq_zero_iff.1 (by omega)
  subst this
  rw [hd] at h2
  exact ⟨e, rfl, h2⟩
theorem PL_last {L : List Tk} (h : FE L) : ∃ e, PL L (L.length - 1) = [e] ∧ e.k = 0 := by
 obtain ⟨e, h1, h2⟩ := h.last
 refine ⟨e, ?_, h2⟩
 unfold PL; rw [h1, cut, if_pos (by omega)]
end Go.Proofs.YtidakhhekofkoaaGreatDoor
namespace Go.Proofs.YtidakhhekofkoaaGreatDoor
open Go.RowKit Go.Deep
def tkCellsP (L : List Tk) : List Value := L.flatMap fun t => [.int .i64 t.k, .string t.s, .int .i64 t.p]
theorem tkCellsP_snoc (L : List Tk) (t : Tk) : tkCellsP (L ++ [t]) = tkCellsP L ++ [.int .i64 t.k, .string t.s, .int .i64 t.p] := by
 simp [tkCellsP]
theorem Tryz.infoTokP : (Tryz.prog.info? 201).map (fun i => (i.zero, i.size, i.bytes)) = some (some (.agg #[.int .i64 0, .string ⟨#[]⟩, .int .i64 0]), 3, 32) := by kernel_rfl
theorem signK_ne (n : Nat) : signK n ≠ 0 := by unfold signK; repeat' split
                                               all_goals omega
theorem wordK_ne (l : List UInt8) : wordK l ≠ 0 := by unfold wordK; repeat' split
                                                      all_goals omega
theorem lexAt_ne (s : ByteArray) (j : Nat) (h : j < s.size) : (lexAt s j).k ≠ 0 := by
 unfold lexAt
 rw [dif_pos h]
 repeat' split
 all_goals first | exact wordK_ne _ | exact signK_ne _ | (show (3 : Nat) ≠ 0; decide) | (show (14 : Nat) ≠ 0; decide)
set_option maxHeartbeats 2000000 in
set_option maxRecDepth 100000 in
theorem scan_any (s : ByteArray) (w : World) (hs : s.size ≤ 400) (hG : GV w) :
  Calls Tryz.prog 113 #[.string s] w fun e w' => ∃ v, e = .returned v ∧ w'.ownsRow w.heap.size 201 3 v (lexP s (s.size + 1) 0).length (tkCellsP (lexP s (s.size + 1) 0)) ∧ Below w.heap.size w w' := by
 have hs0 : s.size ≤ maxLen := by unfold maxLen; omega
 obtain ⟨i0, hi, hz0, hz1, hz2⟩ := info_parts Tryz.infoTokP
 have HG := hide hG
 clear hG
 go_enter Tryz.func113, Tryz.ntmps113
 go_wp2_with fail
 refine (blanksEnd_any s 0 _ hs0 (Nat.zero_le _)).mono ?_
 rintro e w0 ⟨rfl, hw0⟩
 have hw1 := hw0.symm
 clear hw0
 subst hw1
 go_wp2_with fail
 go_loopw [3, 4] (fun v x wr => ∃ (i n : Nat) (acc : List Tk), i ≤ s.size ∧ s.size < n + i ∧ acc.length ≤ i ∧ x = .int .i64 (upTo isBl s i : Nat) ∧ Hid (lexP s (s.size + 1) 0 = acc ++ lexP s n i) ∧
   wr.ownsRow w.heap.size 201 3 v acc.length (tkCellsP acc) ∧ Below w.heap.size w wr) (fun _ x _ => s.size - (intOf x).toNat)
 case atStart => exact ⟨0, s.size + 1, [], Nat.zero_le _, by omega, Nat.le_refl _, rfl, rfl, World.ownsRow_nil _ _ _ _, Below.refl _ _⟩
 case round =>
  obtain ⟨i, n, acc, hii, hn, hacc, rfl, H, hown, hbel⟩ := hrel
  have hle := upTo_le isBl s i hii
  have hge := upTo_ge isBl s i
  have HADV := hide (lexP_adv s i hii)
  have HSTOP := hide (lexP_stop s (n - 1) i)
  have HGO := hide (lexP_go s (n - 1) i)
  have HNE := hide (lexAt_ne s (upTo isBl s i))
  have HEND := hide (lex_end s (upTo isBl s i))
  have HP := hide (lexAt_p s _ hle)
  have HPOS := hide (lexAt_pos s _ hle)
  have hn1 : n - 1 + 1 = n := by omega
  rw [hn1] at HSTOP HGO
  clear hn1
  have HTA := hide (fun W h hG => tokenAt_any s (upTo isBl s i) W hs0 h hG)
  generalize lexAt s (upTo isBl s i) = t at *
  generalize upTo isBl s i = a at *
  by_cases ha : a < s.size
  ·have hk0 := unhide HNE ha
   have hadv := unhide HADV hk0
   have hp : t.p = a := unhide HP
   have hpos := unhide HPOS hk0
   have HR : Hid (lexP s (s.size + 1) 0 = (acc ++ [t]) ++ lexP s (n - 1) (t.p + t.s.size)) := by show _ = _; rw [H.out, HGO.out hk0]; simp
   have HPP := hide hp
   have hpl : t.p ≤ a := by omega
   have hpg : a ≤ t.p := by omega
   clear HSTOP HGO HNE HEND HADV HP H HPOS hp
   go_wp2_with fail
   refine (unhide HTA _ ha ((unhide HG).later hbel)).mono ?_
   rintro e w1 ⟨rfl, hb1⟩
   clear HTA
   simp only [tkP]
   go_wp2_with (at_builtin; go_must (refine wpList_append_own _ rfl _ _ 125 rfl w.heap.size 201 i0 (.agg #[.int .i64 0, .string ⟨#[]⟩, .int .i64 0]) 3 32 Tryz.underlying125 hi hz0 hz1 hz2 rfl (by decide) _ acc.length (tkCellsP acc) rfl ?c0 ⟨w1.heap.size + 1, 0, none⟩ 1 1 [.int .i64 t.k, .string t.s, .int .i64 t.p] rfl rfl ?c1 ?c2 ?c3 ?c4 ?c5 ?_))
   case c0 => exact ((owns_later hown hb1).alloc _).alloc _
   case c1 =>
    intro j u hj
    match j, hj with
    | 0, hj => simp at hj; subst hj; simp [Addr.add]
    | 1, hj => simp at hj; subst hj; simp [Addr.add]
    | 2, hj => simp at hj; subst hj; simp [Addr.add]
    | j + 3, hj => simp at hj
   case c2 => intro u hu; simp at hu; rcases hu with rfl | rfl | rfl <;> rfl
   case c3 => unfold maxLen; omega
   case c4 => omega
   case c5 => have := hbel.size; have := hb1.size; simp; omega
   intro v' w2 hown2 hgrow _
   have hol := own_lt hown
   have hsz := hb1.size
   have hc0 : w2.cell? ⟨w1.heap.size, 0, none⟩ = some (.int .i64 t.k) := (box_kept hgrow (by simp; omega) (fun k hk => by have := hol k hk; omega) 0).trans (by simp)
   have hc1 : w2.cell? ⟨w1.heap.size, 1, none⟩ = some (.string t.s) := (box_kept hgrow (by simp; omega) (fun k hk => by have := hol k hk; omega) 1).trans (by simp)
   have hc2 : w2.cell? ⟨w1.heap.size, 2, none⟩ = some (.int .i64 t.p) := (box_kept hgrow (by simp; omega) (fun k hk => by have := hol k hk; omega) 2).trans (by simp)
   have HB2 : Hid (Below w.heap.size w w2) := ((((hbel.trans (hb1.mono hbel.size)).alloc (by have := hbel.size; omega) _).alloc (by have := hbel.size; simp; omega) _).grown hgrow (by have := hbel.size; simp; omega) (fun k hk => (hol k hk).1))
   have HO2 : Hid (w2.ownsRow w.heap.size 201 3 v' (acc ++ [t]).length (tkCellsP (acc ++ [t]))) := by
    rw [tkCellsP_snoc, List.length_append]; exact hown2
   clear hown2 hgrow hown hol hb1 hbel hsz
   have htl : t.s.size ≤ s.size := by omega
   have hts : (a : Int) + (t.s.size : Int) ≤ 400 := by omega
   go_wp2_with fail
   refine (blanksEnd_any s (a + t.s.size) _ hs0 (by omega)).mono ?_
   rintro e w3 ⟨rfl, hw3⟩
   have hw4 := hw3.symm
   clear hw3
   subst hw4
   have hg2 := upTo_ge isBl s (a + t.s.size)
   have HG2 := hide hg2
   clear hg2
   go_wp2_with fail
   go_roundw
   case rel => exact ⟨t.p + t.s.size, n - 1, acc ++ [t], hadv.2, by omega, by simp; omega, by rw [unhide HPP], HR.out, HO2.out, HB2.out⟩
   case measure => simp [intOf]; have := unhide HG2; omega
  ·have ha' : a = s.size := by omega
   have ht := unhide HEND (by omega)
   subst ht
   have HR : Hid (lexP s (s.size + 1) 0 = acc ++ [⟨0, ByteArray.empty, s.size⟩]) := by show _ = _; rw [H.out, HSTOP.out rfl]
   clear HSTOP HGO HNE HEND HADV HP H HTA HPOS
   have hsa : acc.length ≤ 400 := by omega
   subst ha'
   go_wp2_with (at_builtin; go_must (refine wpList_append_own _ rfl _ _ 125 rfl w.heap.size 201 i0 (.agg #[.int .i64 0, .string ⟨#[]⟩, .int .i64 0]) 3 32 Tryz.underlying125 hi hz0 hz1 hz2 rfl (by decide) _ acc.length (tkCellsP acc) rfl ?c0 ⟨wr.heap.size, 0, none⟩ 1 1 [.int .i64 0, .string ⟨#[]⟩, .int .i64 (s.size : Int)] rfl rfl ?c1 ?c2 ?c3 ?c4 ?c5 ?_))
   case c0 => exact hown.alloc _
   case c1 =>
    intro j u hj
    match j, hj with
    | 0, hj => simp at hj; subst hj; simp [Addr.add]
    | 1, hj => simp at hj; subst hj; simp [Addr.add]
    | 2, hj => simp at hj; subst hj; simp [Addr.add]
    | j + 3, hj => simp at hj
   case c2 => intro u hu; simp at hu; rcases hu with rfl | rfl | rfl <;> rfl
   case c3 => unfold maxLen; omega
   case c4 => omega
   case c5 => have := hbel.size; simp; omega
   intro v' w2 hown2 hgrow _
   have hol := own_lt hown
   have HB2 : Hid (Below w.heap.size w w2) := (hbel.alloc hbel.size _).grown hgrow (by have := hbel.size; simp; omega) (fun k hk => (hol k hk).1)
   have HO2 : Hid (w2.ownsRow w.heap.size 201 3 v' (acc ++ [(⟨0, ByteArray.empty, s.size⟩ : Tk)]).length (tkCellsP (acc ++ [⟨0, ByteArray.empty, s.size⟩]))) := by
    rw [tkCellsP_snoc, List.length_append]; exact hown2
   clear hown2 hgrow hown hol hbel
   go_wp2_with fail
   go_ret
   exact ⟨_, rfl, by rw [HR.out]; exact HO2.out, HB2.out⟩
end Go.Proofs.YtidakhhekofkoaaGreatDoor
