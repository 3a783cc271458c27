/- The reference's arguments: the faults of a call of a template. -/
import Derived.Test.YtoclbcffbhldmaaGreatDoorF6
import Derived.Test.YtoclbcffbhldmaaGreatDoorArg
import Derived.Deep.DeepCutAuto
set_option linter.unusedSimpArgs false
namespace Go.Proofs.YtoclbcffbhldmaaGreatDoor
open Go.RowKit Go.Deep

/-- What stands through the calls of arguments: the two boxes, the fault's state. -/
structure AS (w wr : World) (fb : Nat) (x : Nat × Nat) (o1 : Option Addr) (n1 k1 : Nat) (o2 : Option Addr) (n2 k2 : Nat) (a b : Int) (s : ByteArray) (c : Int) (o : Option Addr) (n k : Nat) (d : Int) (p : Option Addr) : Prop where
  fbx : FB wr fb x
  mbx : wr.heap[w.heap.size]? = some (.cells #[.slice o1 n1 k1, .slice o2 n2 k2] 118 (0, 0))
  rbx : wr.heap[w.heap.size + 1]? = some (.cells #[.int .i64 a, .int .u8 b, .string s, .int .i64 c, .slice o n k, .int .i64 d, .pointer p] 125 (0, 0))
  kt : KT w wr
  gr : w.grownBy wr (some fb)
theorem AS.later {w wr w' : World} {fb : Nat} {x : Nat × Nat} {o1 : Option Addr} {n1 k1 : Nat} {o2 : Option Addr} {n2 k2 : Nat} {a b : Int} {s : ByteArray} {c : Int} {o : Option Addr} {n k : Nat} {d : Int} {p : Option Addr} (h : AS w wr fb x o1 n1 k1 o2 n2 k2 a b s c o n k d p) (hb : Below wr.heap.size wr w') : AS w w' fb x o1 n1 k1 o2 n2 k2 a b s c o n k d p :=
  ⟨h.fbx.later hb, (hb.block _ (lt_of_blk h.mbx)).trans h.mbx, (hb.block _ (lt_of_blk h.rbx)).trans h.rbx, h.kt.trans (KT.below hb), h.gr.trans (grown_below hb _)⟩
theorem AS.call {w wr w' : World} {fb : Nat} {x y : Nat × Nat} {o1 : Option Addr} {n1 k1 : Nat} {o2 : Option Addr} {n2 k2 : Nat} {a b : Int} {s : ByteArray} {c : Int} {o : Option Addr} {n k : Nat} {d : Int} {p : Option Addr} (h : AS w wr fb x o1 n1 k1 o2 n2 k2 a b s c o n k d p) (hf : FB w' fb y) (hg : wr.grownBy w' (some fb)) (hfb : fb < w.heap.size) : AS w w' fb y o1 n1 k1 o2 n2 k2 a b s c o n k d p :=
  ⟨hf, (hg.block _ (lt_of_blk h.mbx) (by simp; omega)).trans h.mbx, (hg.block _ (lt_of_blk h.rbx) (by simp; omega)).trans h.rbx, h.kt.trans (KT.fb h.fbx hg), h.gr.trans hg⟩

theorem bdn (w : World) : ∀ n, Below w.heap.size w (w.drewN n)
  | 0 => Below.refl _ _
  | n + 1 => (bdn w n).drew
theorem takes_is (s : ByteArray) (K : ByteArray) (ok : Bool) (w : World) (hK : K = ⟨(tplTakes (tplNo s.toList)).toArray⟩) (hok : ok = decide (tplNo s.toList ≤ 11)) :
    Calls Tryz.prog 113 #[.string s] w fun e w' => e = .returned (.tuple #[.string K, .bool ok]) ∧ w' = w := by
  subst hK hok; exact takes_any s w
theorem fArgs_cons (al : List Tk) (K : ByteArray) (args : List Tk) (i : Nat) (t : Tk) (r : List Tk) (h : args.drop i = t :: r) : fArgs al (K.data.toList.drop i) (args.drop i) = fArg al (K.data.toList.drop i) t ++ fArgs al (K.data.toList.drop (i + 1)) (args.drop (i + 1)) := by
  rw [h, fArgs, List.tail_drop, drop_tail h]

set_option maxHeartbeats 4000000 in
set_option maxRecDepth 100000 in
theorem arguments_any (w : World) (al : List Tk) (hlen : al.length ≤ 401) (o1 : Option Addr) (n1 k1 : Nat) (o2 : Option Addr) (n2 k2 : Nat) (fb : Nat) (x : Nat × Nat) (r : Rl) (a b : Int) (s : ByteArray) (c : Int) (o : Option Addr) (n k : Nat) (d : Int) (p : Option Addr)
    (ha : ActsAre w o1 n1 k1 al) (hf : FB w fb x) (h : RlIs w r a b s c o n k d p) (hc : r.call = true) (hargs : r.args.length ≤ 2) (hne : 0 < r.args.length) (hkind : ∀ t ∈ r.args, (t.k = 2 ∨ t.k = 3) ∧ t.s.size ≤ 400 ∧ (t.k = 3 → ∃ e : UInt8, t.s = ⟨#[e]⟩)) (hws : r.word.s.size ≤ 400) :
    Calls Tryz.prog 85 #[.agg #[.slice o1 n1 k1, .slice o2 n2 k2], .pointer (some ⟨fb, 0, none⟩), rlV a b s c o n k d p] w fun e w' => e = .returned (.tuple #[]) ∧ FB w' fb (meets x (fCall al r)) ∧ w.grownBy w' (some fb) := by
  obtain ⟨-, h2⟩ := h
  rw [if_pos hc] at h2
  obtain ⟨-, hs, hcp, ho, hd, hp⟩ := h2
  subst hs hcp hd hp
  have hao : ActsAre w o n k r.args := ho
  have hn := hao.len
  subst hn
  obtain ⟨t00, l00, ht00⟩ := drop_ne hne
  obtain ⟨g, hgo, -⟩ := hao.tok ht00
  subst hgo
  clear ht00
  have HA := hide ha
  have HAO := hide hao
  have HKD := hide hkind
  have hfl := lt_of_blk hf
  have h0 : AS w ((w.alloc (.cells #[.slice o1 n1 k1, .slice o2 n2 k2] 118)).alloc (.cells #[.int .i64 a, .int .u8 b, .string r.word.s, .int .i64 r.word.p, .slice (some ⟨g, 0, none⟩) r.args.length k, .int .i64 r.fin, .pointer none] 125)) fb x o1 n1 k1 o2 n2 k2 a b r.word.s r.word.p (some ⟨g, 0, none⟩) r.args.length k r.fin none :=
    ⟨(hf.later ((Below.refl _ _).alloc (Nat.le_refl _) _)).later ((Below.refl _ _).alloc (Nat.le_refl _) _), (Below.heap_alloc _ _ _ (by simp)).trans (blk_alloc _ _), blk_alloc' _ _ _ (by simp), (KT.alloc _ _).trans (KT.alloc _ _), grown_alloc (grown_alloc (World.grownBy.refl _ _) _) _⟩
  have H0 := hide h0
  clear ha hao ho hf h0 hkind hc
  simp only [rlV]
  obtain ⟨f1, hf1⟩ : ∃ f, f = if 8 < r.word.s.size then [(r.word.p, 1)] else [] := ⟨_, rfl⟩
  obtain ⟨f2, hf2⟩ : ∃ f, f = if tplNo r.word.s.toList ≤ 11 then [] else [(r.word.p, 3)] := ⟨_, rfl⟩
  have HF1 := hide hf1
  have HF2 := hide hf2
  clear hf1 hf2
  go_enter Tryz.func85, Tryz.ntmps85
  go_upto_if 14 with fail
  go_cut [] (fun wc => AS w wc fb (meets x f1) o1 n1 k1 o2 n2 k2 a b r.word.s r.word.p (some ⟨g, 0, none⟩) r.args.length k r.fin none)
  case first =>
    by_cases hl : 8 < r.word.s.size
    · have hL : (8 : Int) < (r.word.s.size : Int) := by omega
      have HL := hide hl
      clear hl
      go_wp2_with (go_at_call 83; refine (meets_any _ fb x r.word.p 1 (unhide H0).fbx).mono ?_)
      rintro e w1 ⟨rfl, hfb1, hg1⟩
      have H1 := hide ((unhide H0).call hfb1 hg1 hfl)
      clear hfb1 hg1
      go_wp2_with fail
      go_meet
      rw [unhide HF1, if_pos (unhide HL)]; exact unhide H1
    · have hL : ¬ (8 : Int) < (r.word.s.size : Int) := by omega
      have HL := hide hl
      clear hl
      go_wp2_with fail
      go_meet
      rw [unhide HF1, if_neg (unhide HL)]; exact unhide H0
  case rest =>
  have H1 := hide hcut
  clear hcut H0
  have rc := fun o => cell_of_blk (unhide H1).rbx o
  obtain ⟨K, hK⟩ : ∃ K : ByteArray, K = ⟨(tplTakes (tplNo r.word.s.toList)).toArray⟩ := ⟨_, rfl⟩
  obtain ⟨ok, hok⟩ : ∃ b, b = decide (tplNo r.word.s.toList ≤ 11) := ⟨_, rfl⟩
  have hKl : K.data.toList = tplTakes (tplNo r.word.s.toList) := by rw [hK]
  have hKs : K.size ≤ 2 := by rw [← size_data, hKl]; unfold tplTakes; repeat' split
                              all_goals simp
  have HKL := hide hKl
  have HK := hide hK
  have HOK := hide hok
  clear hK hKl hok
  go_upto_if 28 with (go_at_call 113; refine (takes_is _ K ok _ (unhide HK) (unhide HOK)).mono ?_; rintro e w' ⟨rfl, rfl⟩)
  go_cut [7] (fun _ wc => AS w wc fb (meets x (f1 ++ f2)) o1 n1 k1 o2 n2 k2 a b r.word.s r.word.p (some ⟨g, 0, none⟩) r.args.length k r.fin none)
  case first =>
    cases ok with
    | true =>
      go_wp2_with fail
      go_meet
      rw [unhide HF2, if_pos (of_decide_eq_true (unhide HOK).symm), List.append_nil]; exact unhide H1
    | false =>
      go_wp2_with (go_at_call 83; refine (meets_any _ fb (meets x f1) r.word.p 3 (unhide H1).fbx).mono ?_)
      rintro e w1 ⟨rfl, hfb1, hg1⟩
      have H2 := hide ((unhide H1).call hfb1 hg1 hfl)
      clear hfb1 hg1
      go_wp2_with fail
      go_meet
      rw [unhide HF2, if_neg (of_decide_eq_false (unhide HOK).symm), meets_append]; exact unhide H2
  case rest =>
  have H2 := hide hcut
  clear hcut H1 rc HK HOK ok
  go_wp2_with fail
  go_loopw [8] (fun v wr => ∃ (i : Nat) (y : Nat × Nat), i ≤ r.args.length ∧ v = .int .i64 i ∧ AS w wr fb y o1 n1 k1 o2 n2 k2 a b r.word.s r.word.p (some ⟨g, 0, none⟩) r.args.length k r.fin none ∧ Hid (meets (meets x (f1 ++ f2)) (fArgs al K.data.toList r.args) = meets y (fArgs al (K.data.toList.drop i) (r.args.drop i)))) (fun v _ => r.args.length - (intOf v).toNat)
  case atStart => exact ⟨0, _, Nat.zero_le _, rfl, unhide H2, rfl⟩
  case round =>
    clear H2
    obtain ⟨i, y, hi, rfl, has, HY⟩ := hrel
    have H3 := hide has
    have rc := fun o => cell_of_blk has.rbx o
    have mc := fun o => cell_of_blk has.mbx o
    have hzr := lt_of_blk has.rbx
    have hzr0 : w.heap.size < wr.heap.size := by omega
    by_cases hlt : i < r.args.length
    · obtain ⟨t, l, ht⟩ := drop_ne hlt
      obtain ⟨g', hgo, hg, _, t0, t1, t2⟩ := (has.kt.acts (unhide HAO)).tok ht
      cases hgo
      have hmem : t ∈ r.args := drop_mem ht
      have HTK := hide ((unhide HKD) t hmem)
      have HFC := hide (fArgs_cons al K r.args i t l ht)
      clear ht hmem has
      obtain ⟨fN, hfN⟩ : ∃ f, f = if t.k = 2 then fName al t.s t.p else [] := ⟨_, rfl⟩
      have HFN := hide hfN
      clear hfN
      go_upto_if 48 with fail
      go_cut [] (fun wc => AS w wc fb (meets y fN) o1 n1 k1 o2 n2 k2 a b r.word.s r.word.p (some ⟨g, 0, none⟩) r.args.length k r.fin none ∧ wc.heap[wr.heap.size]? = some (.cells #[.int .u8 (refK t.k), .string t.s, .int .i64 t.p] 122 (0, 0)))
      case first =>
        have H4 := hide ((unhide H3).later ((Below.refl wr.heap.size wr).alloc (Nat.le_refl _) (.cells #[.int .u8 (refK t.k), .string t.s, .int .i64 t.p] 122)))
        rcases (unhide HTK).1 with hk | hk
        · have e1 : (refK t.k == 110) = true := by rw [hk]; rfl
          have HK2 := hide hk
          clear hk
          go_wp2_with (go_at_call 112; refine (named_any _ _ _ _ _ _ _ _ _ y _ _ ((unhide H4).kt.acts (unhide HA)) hlen (unhide H4).fbx (unhide HTK).2.1).mono ?_)
          rintro e w5 ⟨rfl, hf5, hg5⟩
          have H5 := hide ((unhide H4).call hf5 hg5 hfl)
          have HB5 := hide ((hg5.block wr.heap.size (by simp) (by have := lt_of_blk (unhide H3).fbx; simp; omega)).trans (blk_alloc _ _))
          clear hf5 hg5
          go_wp2_with fail
          go_meet
          rw [unhide HFN, if_pos (unhide HK2)]; exact ⟨unhide H5, unhide HB5⟩
        · have e1 : (refK t.k == 110) = false := by rw [hk]; rfl
          have HK2 := hide hk
          clear hk
          go_wp2_with fail
          go_meet
          rw [unhide HFN, if_neg (by rw [unhide HK2]; decide)]; exact ⟨unhide H4, blk_alloc _ _⟩
      case rest =>
      obtain ⟨has4, hbx4⟩ := hcut
      have H4 := hide has4
      have bc := fun o => cell_of_blk hbx4 o
      have HBX := hide hbx4
      clear has4 H3 hbx4 t0 t1 t2 rc mc
      have hzb : wr.heap.size < wc.heap.size := lt_of_blk (unhide HBX)
      have drop1 : meets y (fArgs al (K.data.toList.drop i) (r.args.drop i)) = meets (meets (meets y fN) (if badArg (K.data.toList.drop i) t = true then [(t.p, 4)] else [])) (fArgs al (K.data.toList.drop (i + 1)) (r.args.drop (i + 1))) := by
        rw [unhide HFC, fArg, ← unhide HFN, meets_append, meets_append]
      have HD1 := hide drop1
      clear drop1
      have finBad : badArg (K.data.toList.drop i) t = true → ∀ W, AS w W fb (meet (meets y fN) t.p 4) o1 n1 k1 o2 n2 k2 a b r.word.s r.word.p (some ⟨g, 0, none⟩) r.args.length k r.fin none → AS w W fb (meet (meets y fN) t.p 4) o1 n1 k1 o2 n2 k2 a b r.word.s r.word.p (some ⟨g, 0, none⟩) r.args.length k r.fin none ∧ Hid (meets (meets x (f1 ++ f2)) (fArgs al K.data.toList r.args) = meets (meet (meets y fN) t.p 4) (fArgs al (K.data.toList.drop (i + 1)) (r.args.drop (i + 1)))) := by
        intro hb W hW
        refine ⟨hW, ?_⟩
        show _ = _
        rw [unhide HY, unhide HD1, if_pos hb]; rfl
      have finOk : badArg (K.data.toList.drop i) t = false → Hid (meets (meets x (f1 ++ f2)) (fArgs al K.data.toList r.args) = meets (meets y fN) (fArgs al (K.data.toList.drop (i + 1)) (r.args.drop (i + 1)))) := by
        intro hb
        show _ = _
        rw [unhide HY, unhide HD1, if_neg (by simp [hb])]; rfl
      have FBD := hide finBad
      have FOK := hide finOk
      clear finBad finOk
      by_cases hki : i < K.size
      · have hlt' : (i : Int) < (K.size : Int) := by omega
        have hge' : decide (K.size ≤ i) = false := by simp; omega
        have hdr := drop_at K i hki
        rcases (unhide HTK).1 with hk | hk
        · have e1 : (refK t.k == 100) = false := by rw [hk]; rfl
          by_cases hc : K[i].toNat = 110
          · have hba : badArg (K.data.toList.drop i) t = false := by rw [hdr, badArg, if_pos hk]; simp [hc]
            have HBA := hide hba
            have e2 : ((K[i].toNat : Int) != refK t.k) = false := by rw [hk, hc]; rfl
            clear hba hdr hk hc
            go_wp2_with fail
            go_quiet (fail)
            go_wp2_with fail
            go_roundw
            case rel => exact ⟨i + 1, _, by omega, by go_num, (unhide H4).later (bdn _ _), (unhide FOK) (unhide HBA)⟩
            case measure => simp [intOf]; omega
          · have hba : badArg (K.data.toList.drop i) t = true := by rw [hdr, badArg, if_pos hk]; simp [hc]
            have HBA := hide hba
            have e2 : ((K[i].toNat : Int) != refK t.k) = true := by rw [hk, bne_iff_ne]; show (K[i].toNat : Int) ≠ 110; omega
            clear hba hdr hk hc
            go_wp2_with fail
            go_quiet (fail)
            go_wp2_with fail
            refine (meets_any _ fb (meets y fN) t.p 4 ((unhide H4).later (bdn _ _)).fbx).mono ?_
            rintro e w6 ⟨rfl, hf6, hg6⟩
            have H6 := hide (((unhide H4).later (bdn _ _)).call hf6 hg6 hfl)
            clear hf6 hg6
            go_wp2_with fail
            go_roundw
            case rel => exact ⟨i + 1, _, by omega, by go_num, ((unhide FBD) (unhide HBA) _ (unhide H6)).1, ((unhide FBD) (unhide HBA) _ (unhide H6)).2⟩
            case measure => simp [intOf]; omega
        · have e1 : (refK t.k == 100) = true := by rw [hk]; rfl
          by_cases hc : K[i].toNat = 100
          · obtain ⟨ch, hch⟩ := (unhide HTK).2.2 hk
            have e2 : ((K[i].toNat : Int) != refK t.k) = false := by rw [hk, hc]; rfl
            have hsz : 0 < t.s.size := by rw [hch]; exact Nat.zero_lt_one
            have hb0 : t.s[0].toNat = ch.toNat := by simp only [hch]; rfl
            by_cases hl1 : ch.toNat < 49
            · have hba : badArg (K.data.toList.drop i) t = true := by rw [hdr, badArg, if_neg (by omega), if_pos hc, hch]; simp; omega
              have HBA := hide hba
              have d1 : (t.s[0].toNat : Int) < 49 := by omega
              have d2 : ¬ (51 : Int) < (t.s[0].toNat : Int) := by omega
              clear hba hdr hk hc hch hb0
              go_wp2_with fail
              go_quiet (fail)
              go_wp2_with fail
              refine (meets_any _ fb (meets y fN) t.p 4 ((unhide H4).later (bdn _ _)).fbx).mono ?_
              rintro e w6 ⟨rfl, hf6, hg6⟩
              have H6 := hide (((unhide H4).later (bdn _ _)).call hf6 hg6 hfl)
              clear hf6 hg6
              go_wp2_with fail
              go_roundw
              case rel => exact ⟨i + 1, _, by omega, by go_num, ((unhide FBD) (unhide HBA) _ (unhide H6)).1, ((unhide FBD) (unhide HBA) _ (unhide H6)).2⟩
              case measure => simp [intOf]; omega
            by_cases hl2 : 51 < ch.toNat
            · have hba : badArg (K.data.toList.drop i) t = true := by rw [hdr, badArg, if_neg (by omega), if_pos hc, hch]; simp; omega
              have HBA := hide hba
              have d1 : ¬ (t.s[0].toNat : Int) < 49 := by omega
              have d2 : (51 : Int) < (t.s[0].toNat : Int) := by omega
              clear hba hdr hk hc hch hb0
              go_wp2_with fail
              go_quiet (fail)
              go_wp2_with fail
              refine (meets_any _ fb (meets y fN) t.p 4 ((unhide H4).later (bdn _ _)).fbx).mono ?_
              rintro e w6 ⟨rfl, hf6, hg6⟩
              have H6 := hide (((unhide H4).later (bdn _ _)).call hf6 hg6 hfl)
              clear hf6 hg6
              go_wp2_with fail
              go_roundw
              case rel => exact ⟨i + 1, _, by omega, by go_num, ((unhide FBD) (unhide HBA) _ (unhide H6)).1, ((unhide FBD) (unhide HBA) _ (unhide H6)).2⟩
              case measure => simp [intOf]; omega
            · have hba : badArg (K.data.toList.drop i) t = false := by rw [hdr, badArg, if_neg (by omega), if_pos hc, hch]; simp; omega
              have HBA := hide hba
              have d1 : ¬ (t.s[0].toNat : Int) < 49 := by omega
              have d2 : ¬ (51 : Int) < (t.s[0].toNat : Int) := by omega
              clear hba hdr hk hc hch hb0
              go_wp2_with fail
              go_quiet (fail)
              go_wp2_with fail
              go_roundw
              case rel => exact ⟨i + 1, _, by omega, by go_num, (unhide H4).later (bdn _ _), (unhide FOK) (unhide HBA)⟩
              case measure => simp [intOf]; omega
          · have hba : badArg (K.data.toList.drop i) t = true := by rw [hdr, badArg, if_neg (by omega), if_neg hc]
            have HBA := hide hba
            have e2 : ((K[i].toNat : Int) != refK t.k) = true := by rw [hk, bne_iff_ne]; show (K[i].toNat : Int) ≠ 100; omega
            clear hba hdr hk hc
            go_wp2_with fail
            go_quiet (fail)
            go_wp2_with fail
            refine (meets_any _ fb (meets y fN) t.p 4 ((unhide H4).later (bdn _ _)).fbx).mono ?_
            rintro e w6 ⟨rfl, hf6, hg6⟩
            have H6 := hide (((unhide H4).later (bdn _ _)).call hf6 hg6 hfl)
            clear hf6 hg6
            go_wp2_with fail
            go_roundw
            case rel => exact ⟨i + 1, _, by omega, by go_num, ((unhide FBD) (unhide HBA) _ (unhide H6)).1, ((unhide FBD) (unhide HBA) _ (unhide H6)).2⟩
            case measure => simp [intOf]; omega
      · have hba : badArg (K.data.toList.drop i) t = true := by rw [List.drop_eq_nil_of_le (by rw [size_data]; omega)]; rfl
        have HBA := hide hba
        have hge : (K.size : Int) ≤ (i : Int) := by omega
        have hge' : K.size ≤ i := by omega
        clear hba hki
        go_wp2_with fail
        go_quiet (fail)
        go_wp2_with fail
        refine (meets_any _ fb (meets y fN) t.p 4 ((unhide H4).later (bdn _ _)).fbx).mono ?_
        rintro e w6 ⟨rfl, hf6, hg6⟩
        have H6 := hide (((unhide H4).later (bdn _ _)).call hf6 hg6 hfl)
        clear hf6 hg6
        go_wp2_with fail
        go_roundw
        case rel => exact ⟨i + 1, _, by omega, by go_num, ((unhide FBD) (unhide HBA) _ (unhide H6)).1, ((unhide FBD) (unhide HBA) _ (unhide H6)).2⟩
        case measure => simp [intOf]; omega
    · have hii : i = r.args.length := by omega
      subst hii
      have hye : meets (meets x (f1 ++ f2)) (fArgs al K.data.toList r.args) = y := by
        rw [unhide HY, List.drop_eq_nil_of_le (Nat.le_refl _)]; cases (K.data.toList.drop r.args.length) <;> rfl
      have hall : meets x (fCall al r) = meets y (if r.args.length < K.size then [(r.fin, 4)] else []) := by
        rw [fCall, ← unhide HF1, ← unhide HF2, ← unhide HKL, size_data, ← List.append_assoc, meets_append, meets_append, hye]
      have HALL := hide hall
      clear hall hye hlt hi
      by_cases hfew : r.args.length < K.size
      · have HFW := hide hfew
        go_wp2_with fail
        refine (meets_any _ fb y r.fin 4 has.fbx).mono ?_
        rintro e w6 ⟨rfl, hf6, hg6⟩
        have H6 := hide (has.call hf6 hg6 hfl)
        clear hf6 hg6
        go_wp2_with fail
        go_end0
        refine ⟨rfl, ?_, (unhide H6).gr⟩
        rw [unhide HALL, if_pos (unhide HFW)]; exact (unhide H6).fbx
      · have HFW := hide hfew
        go_wp2_with fail
        go_end0
        refine ⟨rfl, ?_, has.gr⟩
        rw [unhide HALL, if_neg (unhide HFW)]; exact has.fbx
end Go.Proofs.YtoclbcffbhldmaaGreatDoor
