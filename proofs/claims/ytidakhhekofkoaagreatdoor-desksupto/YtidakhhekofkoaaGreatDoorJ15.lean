/- The reference's arguments: the faults of a call of a template. -/
import Derived.Test.YtidakhhekofkoaaGreatDoorJ14
import Derived.Test.YtidakhhekofkoaaGreatDoorJ04
import Derived.Deep.DeepCutAuto
import Derived.Test.YtidakhhekofkoaaGreatDoorJ07
import Derived.Test.YtidakhhekofkoaaGreatDoorJ02
set_option linter.unusedSimpArgs false
namespace Go.Proofs.YtidakhhekofkoaaGreatDoor
open Go.RowKit Go.Deep
structure AS (w wr:World) (fb:Nat) (x:Nat × Nat) (o1:Option Addr) (n1 k1:Nat) (o2:Option Addr) (n2 k2:Nat) (a b:Int) (s:ByteArray) (c:Int) (o:Option Addr) (n k:Nat) (d:Int) (p:Option Addr):Prop where
 fbx:FB wr fb x
 mbx:wr.heap[w.heap.size]? =some (.cells #[.slice o1 n1 k1,.slice o2 n2 k2] 228 (0,0))
 rbx:wr.heap[w.heap.size+1]? =some (.cells #[.int .i64 a,.int .u8 b,.string s,.int .i64 c,.slice o n k,.int .i64 d,.pointer p] 235 (0,0))
 kt:KT w wr
 gr:w.grownBy wr (some fb)
theorem AS.later {w wr w':World} {fb:Nat} {x:Nat × Nat} {o1:Option Addr} {n1 k1:Nat} {o2:Option Addr} {n2 k2:Nat} {a b:Int} {s:ByteArray} {c:Int} {o:Option Addr} {n k:Nat} {d:Int} {p:Option Addr} (h:AS w wr fb x o1 n1 k1 o2 n2 k2 a b s c o n k d p) (hb:Below wr.heap.size wr w'):AS w w' fb x o1 n1 k1 o2 n2 k2 a b s c o n k d p:=
 ⟨h.fbx.later hb,(hb.block _ (lt_of_blk h.mbx)).trans h.mbx,(hb.block _ (lt_of_blk h.rbx)).trans h.rbx,h.kt.trans (KT.below hb),h.gr.trans (grown_below hb _)⟩
theorem AS.call {w wr w':World} {fb:Nat} {x y:Nat × Nat} {o1:Option Addr} {n1 k1:Nat} {o2:Option Addr} {n2 k2:Nat} {a b:Int} {s:ByteArray} {c:Int} {o:Option Addr} {n k:Nat} {d:Int} {p:Option Addr} (h:AS w wr fb x o1 n1 k1 o2 n2 k2 a b s c o n k d p) (hf:FB w' fb y) (hg:wr.grownBy w' (some fb)) (hfb:fb<w.heap.size):AS w w' fb y o1 n1 k1 o2 n2 k2 a b s c o n k d p:=
 ⟨hf,(hg.block _ (lt_of_blk h.mbx) (by simp;omega)).trans h.mbx,(hg.block _ (lt_of_blk h.rbx) (by simp;omega)).trans h.rbx,h.kt.trans (KT.fb h.fbx hg),h.gr.trans hg⟩
theorem bdn (w:World): ∀n,Below w.heap.size w (w.drewN n)
 |0=>Below.refl _ _
 |n+1=>(bdn w n).drew
theorem takes_is (s:ByteArray) (K:ByteArray) (ok:Bool) (w:World) (hK:K=⟨(tplTakes (tplNo s.toList)).toArray⟩) (hok:ok=decide (tplNo s.toList≤11)):
  Calls Tryz.prog 203 #[.string s] w fun e w'=>e= .returned (.tuple #[.string K,.bool ok])∧w'=w:=by
 subst hK hok;exact takes_any s w
theorem fArgs_cons (al:List Tk) (K:ByteArray) (args:List Tk) (i:Nat) (t:Tk) (r:List Tk) (h:args.drop i=t::r):fArgs al (K.data.toList.drop i) (args.drop i)=fArg al (K.data.toList.drop i) t++fArgs al (K.data.toList.drop (i+1)) (args.drop (i+1)):=by
 rw [h,fArgs,List.tail_drop,drop_tail h]
set_option maxHeartbeats 4000000 in
set_option maxRecDepth 100000 in
theorem arguments_any (w : World) (al : List Tk) (hlen : al.length ≤ 401) (o1 : Option Addr) (n1 k1 : Nat) (o2 : Option Addr) (n2 k2 : Nat) (fb : Nat) (x : Nat × Nat) (r : Rl) (a b : Int) (s : ByteArray) (c : Int) (o : Option Addr) (n k : Nat) (d : Int) (p : Option Addr)
    (ha : ActsAre w o1 n1 k1 al) (hf : FB w fb x) (h : RlIs w r a b s c o n k d p) (hc : r.call = true) (hargs : r.args.length ≤ 2) (hne : 0 < r.args.length) (hkind : ∀ t ∈ r.args, (t.k = 2 ∨ t.k = 3) ∧ t.s.size ≤ 400 ∧ (t.k = 3 → ∃ e : UInt8, t.s = ⟨#[e]⟩)) (hws : r.word.s.size ≤ 400) :
    Calls Tryz.prog 176 #[.agg #[.slice o1 n1 k1, .slice o2 n2 k2], .pointer (some ⟨fb, 0, none⟩), rlV a b s c o n k d p] w fun e w' => e = .returned (.tuple #[]) ∧ FB w' fb (meets x (fCall al r)) ∧ w.grownBy w' (some fb) := by
  obtain ⟨-, h2⟩ := h
  rw [if_pos hc] at h2
  obtain ⟨-, hs, hcp, ho, hd, hp⟩ := h2
  subst hs hcp hd hp
  have hao : ActsAre w o n k r.args := ho
  have hn := hao.len
  subst hn
  obtain ⟨t00, l00, ht00⟩ := drop_ne hne
  obtain ⟨g, hgo, -⟩ := hao.tok ht00
  subst hgo
  clear ht00
  have HA := hide ha
  have HAO := hide hao
  have HKD := hide hkind
  have hfl := lt_of_blk hf
  have h0 : AS w ((w.alloc (.cells #[.slice o1 n1 k1, .slice o2 n2 k2] 228)).alloc (.cells #[.int .i64 a, .int .u8 b, .string r.word.s, .int .i64 r.word.p, .slice (some ⟨g, 0, none⟩) r.args.length k, .int .i64 r.fin, .pointer none] 235)) fb x o1 n1 k1 o2 n2 k2 a b r.word.s r.word.p (some ⟨g, 0, none⟩) r.args.length k r.fin none :=
    ⟨(hf.later ((Below.refl _ _).alloc (Nat.le_refl _) _)).later ((Below.refl _ _).alloc (Nat.le_refl _) _), (Below.heap_alloc _ _ _ (by simp)).trans (blk_alloc _ _), blk_alloc' _ _ _ (by simp), (KT.alloc _ _).trans (KT.alloc _ _), grown_alloc (grown_alloc (World.grownBy.refl _ _) _) _⟩
  have H0 := hide h0
  clear ha hao ho hf h0 hkind hc
  simp only [rlV]
  obtain ⟨f1, hf1⟩ : ∃ f, f = if 8 < r.word.s.size then [(r.word.p, 1)] else [] := ⟨_, rfl⟩
  obtain ⟨f2, hf2⟩ : ∃ f, f = if tplNo r.word.s.toList ≤ 11 then [] else [(r.word.p, 3)] := ⟨_, rfl⟩
  have HF1 := hide hf1
  have HF2 := hide hf2
  clear hf1 hf2
  go_enter Tryz.func176, Tryz.ntmps176
  go_upto_if 14 with fail
  go_cut [] (fun wc => AS w wc fb (meets x f1) o1 n1 k1 o2 n2 k2 a b r.word.s r.word.p (some ⟨g, 0, none⟩) r.args.length k r.fin none)
  case first =>
    by_cases hl : 8 < r.word.s.size
    · have hL : (8 : Int) < (r.word.s.size : Int) := by omega
      have HL := hide hl
      clear hl
      go_wp2_with (go_at_call 174; refine (meets_any _ fb x r.word.p 1 (unhide H0).fbx).mono ?_)
      rintro e w1 ⟨rfl, hfb1, hg1⟩
      have H1 := hide ((unhide H0).call hfb1 hg1 hfl)
      clear hfb1 hg1
      go_wp2_with fail
      go_meet
      rw [unhide HF1, if_pos (unhide HL)]; exact unhide H1
    · have hL : ¬ (8 : Int) < (r.word.s.size : Int) := by omega
      have HL := hide hl
      clear hl
      go_wp2_with fail
      go_meet
      rw [unhide HF1, if_neg (unhide HL)]; exact unhide H0
  case rest =>
  have H1 := hide hcut
  clear hcut H0
  have rc := fun o => cell_of_blk (unhide H1).rbx o
  obtain ⟨K, hK⟩ : ∃ K : ByteArray, K = ⟨(tplTakes (tplNo r.word.s.toList)).toArray⟩ := ⟨_, rfl⟩
  obtain ⟨ok, hok⟩ : ∃ b, b = decide (tplNo r.word.s.toList ≤ 11) := ⟨_, rfl⟩
  have hKl : K.data.toList = tplTakes (tplNo r.word.s.toList) := by rw [hK]
  have hKs : K.size ≤ 2 := by rw [← size_data, hKl]; unfold tplTakes; repeat' split
                              all_goals simp
  have HKL := hide hKl
  have HK := hide hK
  have HOK := hide hok
  clear hK hKl hok
  go_upto_if 28 with (go_at_call 203; refine (takes_is _ K ok _ (unhide HK) (unhide HOK)).mono ?_; rintro e w' ⟨rfl, rfl⟩)
  go_cut [7] (fun _ wc => AS w wc fb (meets x (f1 ++ f2)) o1 n1 k1 o2 n2 k2 a b r.word.s r.word.p (some ⟨g, 0, none⟩) r.args.length k r.fin none)
  case first =>
    cases ok with
    | true =>
      go_wp2_with fail
      go_meet
      rw [unhide HF2, if_pos (of_decide_eq_true (unhide HOK).symm), List.append_nil]; exact unhide H1
    | false =>
      go_wp2_with (go_at_call 174; refine (meets_any _ fb (meets x f1) r.word.p 3 (unhide H1).fbx).mono ?_)
      rintro e w1 ⟨rfl, hfb1, hg1⟩
      have H2 := hide ((unhide H1).call hfb1 hg1 hfl)
      clear hfb1 hg1
      go_wp2_with fail
      go_meet
      rw [unhide HF2, if_neg (of_decide_eq_false (unhide HOK).symm), meets_append]; exact unhide H2
  case rest =>
  have H2 := hide hcut
  clear hcut H1 rc HK HOK ok
  go_wp2_with fail
  go_loopw [8] (fun v wr => ∃ (i : Nat) (y : Nat × Nat), i ≤ r.args.length ∧ v = .int .i64 i ∧ AS w wr fb y o1 n1 k1 o2 n2 k2 a b r.word.s r.word.p (some ⟨g, 0, none⟩) r.args.length k r.fin none ∧ Hid (meets (meets x (f1 ++ f2)) (fArgs al K.data.toList r.args) = meets y (fArgs al (K.data.toList.drop i) (r.args.drop i)))) (fun v _ => r.args.length - (intOf v).toNat)
  case atStart => exact ⟨0, _, Nat.zero_le _, rfl, unhide H2, rfl⟩
  case round =>
    clear H2
    obtain ⟨i, y, hi, rfl, has, HY⟩ := hrel
    have H3 := hide has
    have rc := fun o => cell_of_blk has.rbx o
    have mc := fun o => cell_of_blk has.mbx o
    have hzr := lt_of_blk has.rbx
    have hzr0 : w.heap.size < wr.heap.size := by omega
    by_cases hlt : i < r.args.length
    · obtain ⟨t, l, ht⟩ := drop_ne hlt
      obtain ⟨g', hgo, hg, _, t0, t1, t2⟩ := (has.kt.acts (unhide HAO)).tok ht
      cases hgo
      have hmem : t ∈ r.args := drop_mem ht
      have HTK := hide ((unhide HKD) t hmem)
      have HFC := hide (fArgs_cons al K r.args i t l ht)
      clear ht hmem has
      obtain ⟨fN, hfN⟩ : ∃ f, f = if t.k = 2 then fName al t.s t.p else [] := ⟨_, rfl⟩
      have HFN := hide hfN
      clear hfN
      go_upto_if 48 with fail
      go_cut [] (fun wc => AS w wc fb (meets y fN) o1 n1 k1 o2 n2 k2 a b r.word.s r.word.p (some ⟨g, 0, none⟩) r.args.length k r.fin none ∧ wc.heap[wr.heap.size]? = some (.cells #[.int .u8 (refK t.k), .string t.s, .int .i64 t.p] 232 (0, 0)))
      case first =>
        have H4 := hide ((unhide H3).later ((Below.refl wr.heap.size wr).alloc (Nat.le_refl _) (.cells #[.int .u8 (refK t.k), .string t.s, .int .i64 t.p] 232)))
        rcases (unhide HTK).1 with hk | hk
        · have e1 : (refK t.k == 110) = true := by rw [hk]; rfl
          have HK2 := hide hk
          clear hk
          go_wp2_with (go_at_call 202; refine (named_any _ _ _ _ _ _ _ _ _ y _ _ ((unhide H4).kt.acts (unhide HA)) hlen (unhide H4).fbx (unhide HTK).2.1).mono ?_)
          rintro e w5 ⟨rfl, hf5, hg5⟩
          have H5 := hide ((unhide H4).call hf5 hg5 hfl)
          have HB5 := hide ((hg5.block wr.heap.size (by simp) (by have := lt_of_blk (unhide H3).fbx; simp; omega)).trans (blk_alloc _ _))
          clear hf5 hg5
          go_wp2_with fail
          go_meet
          rw [unhide HFN, if_pos (unhide HK2)]; exact ⟨unhide H5, unhide HB5⟩
        · have e1 : (refK t.k == 110) = false := by rw [hk]; rfl
          have HK2 := hide hk
          clear hk
          go_wp2_with fail
          go_meet
          rw [unhide HFN, if_neg (by rw [unhide HK2]; decide)]; exact ⟨unhide H4, blk_alloc _ _⟩
      case rest =>
      obtain ⟨has4, hbx4⟩ := hcut
      have H4 := hide has4
      have bc := fun o => cell_of_blk hbx4 o
      have HBX := hide hbx4
      clear has4 H3 hbx4 t0 t1 t2 rc mc
      have hzb : wr.heap.size < wc.heap.size := lt_of_blk (unhide HBX)
      have drop1 : meets y (fArgs al (K.data.toList.drop i) (r.args.drop i)) = meets (meets (meets y fN) (if badArg (K.data.toList.drop i) t = true then [(t.p, 4)] else [])) (fArgs al (K.data.toList.drop (i + 1)) (r.args.drop (i + 1))) := by
        rw [unhide HFC, fArg, ← unhide HFN, meets_append, meets_append]
      have HD1 := hide drop1
      clear drop1
      have finBad : badArg (K.data.toList.drop i) t = true → ∀ W, AS w W fb (meet (meets y fN) t.p 4) o1 n1 k1 o2 n2 k2 a b r.word.s r.word.p (some ⟨g, 0, none⟩) r.args.length k r.fin none → AS w W fb (meet (meets y fN) t.p 4) o1 n1 k1 o2 n2 k2 a b r.word.s r.word.p (some ⟨g, 0, none⟩) r.args.length k r.fin none ∧ Hid (meets (meets x (f1 ++ f2)) (fArgs al K.data.toList r.args) = meets (meet (meets y fN) t.p 4) (fArgs al (K.data.toList.drop (i + 1)) (r.args.drop (i + 1)))) := by
        intro hb W hW
        refine ⟨hW, ?_⟩
        show _ = _
        rw [unhide HY, unhide HD1, if_pos hb]; rfl
      have finOk : badArg (K.data.toList.drop i) t = false → Hid (meets (meets x (f1 ++ f2)) (fArgs al K.data.toList r.args) = meets (meets y fN) (fArgs al (K.data.toList.drop (i + 1)) (r.args.drop (i + 1)))) := by
        intro hb
        show _ = _
        rw [unhide HY, unhide HD1, if_neg (by simp [hb])]; rfl
      have FBD := hide finBad
      have FOK := hide finOk
      clear finBad finOk
      by_cases hki : i < K.size
      · have hlt' : (i : Int) < (K.size : Int) := by omega
        have hge' : decide (K.size ≤ i) = false := by simp; omega
        have hdr := drop_at K i hki
        rcases (unhide HTK).1 with hk | hk
        · have e1 : (refK t.k == 100) = false := by rw [hk]; rfl
          by_cases hc : K[i].toNat = 110
          · have hba : badArg (K.data.toList.drop i) t = false := by rw [hdr, badArg, if_pos hk]; simp [hc]
            have HBA := hide hba
            have e2 : ((K[i].toNat : Int) != refK t.k) = false := by rw [hk, hc]; rfl
            clear hba hdr hk hc
            go_wp2_with fail
            go_quiet (fail)
            go_wp2_with fail
            go_roundw
            case rel => exact ⟨i + 1, _, by omega, by go_num, (unhide H4).later (bdn _ _), (unhide FOK) (unhide HBA)⟩
            case measure => simp [intOf]; omega
          · have hba : badArg (K.data.toList.drop i) t = true := by rw [hdr, badArg, if_pos hk]; simp [hc]
            have HBA := hide hba
            have e2 : ((K[i].toNat : Int) != refK t.k) = true := by rw [hk, bne_iff_ne]; show (K[i].toNat : Int) ≠ 110; omega
            clear hba hdr hk hc
            go_wp2_with fail
            go_quiet (fail)
            go_wp2_with fail
            refine (meets_any _ fb (meets y fN) t.p 4 ((unhide H4).later (bdn _ _)).fbx).mono ?_
            rintro e w6 ⟨rfl, hf6, hg6⟩
            have H6 := hide (((unhide H4).later (bdn _ _)).call hf6 hg6 hfl)
            clear hf6 hg6
            go_wp2_with fail
            go_roundw
            case rel => exact ⟨i + 1, _, by omega, by go_num, ((unhide FBD) (unhide HBA) _ (unhide H6)).1, ((unhide FBD) (unhide HBA) _ (unhide H6)).2⟩
            case measure => simp [intOf]; omega
        · have e1 : (refK t.k == 100) = true := by rw [hk]; rfl
          by_cases hc : K[i].toNat = 100
          · obtain ⟨ch, hch⟩ := (unhide HTK).2.2 hk
            have e2 : ((K[i].toNat : Int) != refK t.k) = false := by rw [hk, hc]; rfl
            have hsz : 0 < t.s.size := by rw [hch]; exact Nat.zero_lt_one
            have hb0 : t.s[0].toNat = ch.toNat := by simp only [hch]; rfl
            by_cases hl1 : ch.toNat < 49
            · have hba : badArg (K.data.toList.drop i) t = true := by rw [hdr, badArg, if_neg (by omega), if_pos hc, hch]; simp; omega
              have HBA := hide hba
              have d1 : (t.s[0].toNat : Int) < 49 := by omega
              have d2 : ¬ (51 : Int) < (t.s[0].toNat : Int) := by omega
              clear hba hdr hk hc hch hb0
              go_wp2_with fail
              go_quiet (fail)
              go_wp2_with fail
              refine (meets_any _ fb (meets y fN) t.p 4 ((unhide H4).later (bdn _ _)).fbx).mono ?_
              rintro e w6 ⟨rfl, hf6, hg6⟩
              have H6 := hide (((unhide H4).later (bdn _ _)).call hf6 hg6 hfl)
              clear hf6 hg6
              go_wp2_with fail
              go_roundw
              case rel => exact ⟨i + 1, _, by omega, by go_num, ((unhide FBD) (unhide HBA) _ (unhide H6)).1, ((unhide FBD) (unhide HBA) _ (unhide H6)).2⟩
              case measure => simp [intOf]; omega
            by_cases hl2 : 51 < ch.toNat
            · have hba : badArg (K.data.toList.drop i) t = true := by rw [hdr, badArg, if_neg (by omega), if_pos hc, hch]; simp; omega
              have HBA := hide hba
              have d1 : ¬ (t.s[0].toNat : Int) < 49 := by omega
              have d2 : (51 : Int) < (t.s[0].toNat : Int) := by omega
              clear hba hdr hk hc hch hb0
              go_wp2_with fail
              go_quiet (fail)
              go_wp2_with fail
              refine (meets_any _ fb (meets y fN) t.p 4 ((unhide H4).later (bdn _ _)).fbx).mono ?_
              rintro e w6 ⟨rfl, hf6, hg6⟩
              have H6 := hide (((unhide H4).later (bdn _ _)).call hf6 hg6 hfl)
              clear hf6 hg6
              go_wp2_with fail
              go_roundw
              case rel => exact ⟨i + 1, _, by omega, by go_num, ((unhide FBD) (unhide HBA) _ (unhide H6)).1, ((unhide FBD) (unhide HBA) _ (unhide H6)).2⟩
              case measure => simp [intOf]; omega
            · have hba : badArg (K.data.toList.drop i) t = false := by rw [hdr, badArg, if_neg (by omega), if_pos hc, hch]; simp; omega
              have HBA := hide hba
              have d1 : ¬ (t.s[0].toNat : Int) < 49 := by omega
              have d2 : ¬ (51 : Int) < (t.s[0].toNat : Int) := by omega
              clear hba hdr hk hc hch hb0
              go_wp2_with fail
              go_quiet (fail)
              go_wp2_with fail
              go_roundw
              case rel => exact ⟨i + 1, _, by omega, by go_num, (unhide H4).later (bdn _ _), (unhide FOK) (unhide HBA)⟩
              case measure => simp [intOf]; omega
          · have hba : badArg (K.data.toList.drop i) t = true := by rw [hdr, badArg, if_neg (by omega), if_neg hc]
            have HBA := hide hba
            have e2 : ((K[i].toNat : Int) != refK t.k) = true := by rw [hk, bne_iff_ne]; show (K[i].toNat : Int) ≠ 100; omega
            clear hba hdr hk hc
            go_wp2_with fail
            go_quiet (fail)
            go_wp2_with fail
            refine (meets_any _ fb (meets y fN) t.p 4 ((unhide H4).later (bdn _ _)).fbx).mono ?_
            rintro e w6 ⟨rfl, hf6, hg6⟩
            have H6 := hide (((unhide H4).later (bdn _ _)).call hf6 hg6 hfl)
            clear hf6 hg6
            go_wp2_with fail
            go_roundw
            case rel => exact ⟨i + 1, _, by omega, by go_num, ((unhide FBD) (unhide HBA) _ (unhide H6)).1, ((unhide FBD) (unhide HBA) _ (unhide H6)).2⟩
            case measure => simp [intOf]; omega
      · have hba : badArg (K.data.toList.drop i) t = true := by rw [List.drop_eq_nil_of_le (by rw [size_data]; omega)]; rfl
        have HBA := hide hba
        have hge : (K.size : Int) ≤ (i : Int) := by omega
        have hge' : K.size ≤ i := by omega
        clear hba hki
        go_wp2_with fail
        go_quiet (fail)
        go_wp2_with fail
        refine (meets_any _ fb (meets y fN) t.p 4 ((unhide H4).later (bdn _ _)).fbx).mono ?_
        rintro e w6 ⟨rfl, hf6, hg6⟩
        have H6 := hide (((unhide H4).later (bdn _ _)).call hf6 hg6 hfl)
        clear hf6 hg6
        go_wp2_with fail
        go_roundw
        case rel => exact ⟨i + 1, _, by omega, by go_num, ((unhide FBD) (unhide HBA) _ (unhide H6)).1, ((unhide FBD) (unhide HBA) _ (unhide H6)).2⟩
        case measure => simp [intOf]; omega
    · have hii : i = r.args.length := by omega
      subst hii
      have hye : meets (meets x (f1 ++ f2)) (fArgs al K.data.toList r.args) = y := by
        rw [unhide HY, List.drop_eq_nil_of_le (Nat.le_refl _)]; cases (K.data.toList.drop r.args.length) <;> rfl
      have hall : meets x (fCall al r) = meets y (if r.args.length < K.size then [(r.fin, 4)] else []) := by
        rw [fCall, ← unhide HF1, ← unhide HF2, ← unhide HKL, size_data, ← List.append_assoc, meets_append, meets_append, hye]
      have HALL := hide hall
      clear hall hye hlt hi
      by_cases hfew : r.args.length < K.size
      · have HFW := hide hfew
        go_wp2_with fail
        refine (meets_any _ fb y r.fin 4 has.fbx).mono ?_
        rintro e w6 ⟨rfl, hf6, hg6⟩
        have H6 := hide (has.call hf6 hg6 hfl)
        clear hf6 hg6
        go_wp2_with fail
        go_end0
        refine ⟨rfl, ?_, (unhide H6).gr⟩
        rw [unhide HALL, if_pos (unhide HFW)]; exact (unhide H6).fbx
      · have HFW := hide hfew
        go_wp2_with fail
        go_end0
        refine ⟨rfl, ?_, has.gr⟩
        rw [unhide HALL, if_neg (unhide HFW)]; exact has.fbx
end Go.Proofs.YtidakhhekofkoaaGreatDoor
namespace Go.Proofs.YtidakhhekofkoaaGreatDoor
open Go.Deep
def Fg (Q:Tk→Prop):Fm→Prop
 | .nil=>False
 | .node _ _ a l r=>(a.1=0∧(∃t,Q t∧t.k=2∧t.s=a.2.1∧t.p=a.2.2)∧l= .nil∧r= .nil)∨
   ((1≤a.1∧a.1≤3)∧l= .nil∧r= .nil)∨((4≤a.1∧a.1≤8)∧Fg Q l∧r= .nil)∨((9≤a.1∧a.1≤12)∧Fg Q l∧Fg Q r)
theorem Fg.leaf {Q:Tk→Prop} {t:Tk} (h:Q t) (hk:t.k=2):Fg Q (leaf 0 t.s t.p):=Or.inl ⟨rfl,⟨t,h,hk,rfl,rfl⟩,rfl,rfl⟩
theorem Fg.word {Q:Tk→Prop} {k:Nat} {s:ByteArray} {p:Nat} (h:1≤k∧k≤3):Fg Q (Go.Proofs.YtidakhhekofkoaaGreatDoor.leaf k s p):=Or.inr (Or.inl ⟨h,rfl,rfl⟩)
theorem Fg.one {Q:Tk→Prop} {k:Nat} {f:Fm} (h:4≤k∧k≤8) (hf:Fg Q f):Fg Q (one k f):=Or.inr (Or.inr (Or.inl ⟨h,hf,rfl⟩))
theorem Fg.two {Q:Tk→Prop} {k:Nat} {f g:Fm} (h:9≤k∧k≤12) (hf:Fg Q f) (hg:Fg Q g):Fg Q (two k f g):=Or.inr (Or.inr (Or.inr ⟨h,hf,hg⟩))
theorem sizeF_leaf (k:Nat) (s:ByteArray) (p:Nat):sizeF (leaf k s p)=1:=rfl
theorem sizeF_one (k:Nat) (f:Fm):sizeF (one k f)=1+sizeF f:=rfl
theorem sizeF_two (k:Nat) (f g:Fm):sizeF (two k f g)=1+sizeF f+sizeF g:=rfl
theorem opOf_range (k:Nat) (h:opOf k≠0):4≤opOf k∧opOf k≤8:=by
 revert h;unfold opOf;repeat' split
 all_goals (intro h;first|omega|exact absurd rfl h)
theorem headK_ne {l:List Tk} {k:Nat} (h:headK l=k) (hk:k≠0): ∃t r,l=t::r∧t.k=k:=by
 cases l with
 |nil=>exact absurd h.symm hk
 |cons t r=>exact ⟨t,r,rfl,h⟩
theorem headK_len {l:List Tk} (h:headK l≠0):l.tail.length+1=l.length:=by
 cases l with
 |nil=>exact absurd rfl h
 |cons t r=>simp
theorem all_tail {Q:Tk→Prop} {l:List Tk} (h: ∀t∈l,Q t): ∀t∈l.tail,Q t:=fun t ht=>h t (List.mem_of_mem_tail ht)
theorem pf_good (Q:Tk→Prop): ∀n lev f l f' l',pf n lev f l= .ok (f',l')→lev≤6→(5≤lev→Fg Q f)→(∀t∈l,Q t)→
  Fg Q f'∧(∀t∈l',Q t)∧sizeF f'+l'.length≤(if 5≤lev then sizeF f else 0)+l.length
 |0,_,_,_,_,_,h,_,_,_=>by simp [pf] at h
 |n+1,0,f,l,f',l',h,_,_,hq=>by
  rw [pf] at h
  split at h
  ·cases h
  ·rename_i a l1 e
   have h1:=pf_good Q n 1 .nil l a l1 e (by omega) (by omega) hq
   split at h
   ·rename_i hk
    split at h
    ·cases h
    ·rename_i b l2 e2
     have h2:=pf_good Q n 0 .nil l1.tail b l2 e2 (by omega) (by omega) (all_tail h1.2.1)
     have hl:=headK_len (l:=l1) (by omega)
     cases h
     refine ⟨Fg.two (by omega) h1.1 h2.1,h2.2.1, ?_⟩
     have s1:=h1.2.2;have s2:=h2.2.2
     simp at s1 s2⊢
     rw [sizeF_two];omega
   ·cases h;have s1:=h1.2.2;simp at s1;exact ⟨h1.1,h1.2.1,by simp;omega⟩
 |n+1,1,f,l,f',l',h,_,_,hq=>by
  rw [pf] at h
  split at h
  ·cases h
  ·rename_i a l1 e
   have h1:=pf_good Q n 2 .nil l a l1 e (by omega) (by omega) hq
   have h2:=pf_good Q n 5 a l1 f' l' h (by omega) (fun _=>h1.1) h1.2.1
   have s1:=h1.2.2;have s2:=h2.2.2
   simp at s1 s2
   exact ⟨h2.1,h2.2.1,by simp;omega⟩
 |n+1,2,f,l,f',l',h,_,_,hq=>by
  rw [pf] at h
  split at h
  ·cases h
  ·rename_i a l1 e
   have h1:=pf_good Q n 3 .nil l a l1 e (by omega) (by omega) hq
   have h2:=pf_good Q n 6 a l1 f' l' h (by omega) (fun _=>h1.1) h1.2.1
   have s1:=h1.2.2;have s2:=h2.2.2
   simp at s1 s2
   exact ⟨h2.1,h2.2.1,by simp;omega⟩
 |n+1,3,f,l,f',l',h,_,_,hq=>by
  rw [pf] at h
  split at h
  ·cases h
  ·rename_i a l1 e
   have h1:=pf_good Q n 4 .nil l a l1 e (by omega) (by omega) hq
   split at h
   ·rename_i hk
    split at h
    ·cases h
    ·rename_i b l2 e2
     have h2:=pf_good Q n 4 .nil l1.tail b l2 e2 (by omega) (by omega) (all_tail h1.2.1)
     have hl:=headK_len (l:=l1) (by omega)
     cases h
     refine ⟨Fg.two (by omega) h1.1 h2.1,h2.2.1, ?_⟩
     have s1:=h1.2.2;have s2:=h2.2.2
     simp at s1 s2⊢
     rw [sizeF_two];omega
   ·cases h;have s1:=h1.2.2;simp at s1;exact ⟨h1.1,h1.2.1,by simp;omega⟩
 |n+1,4,f,l,f',l',h,_,_,hq=>by
  rw [pf] at h
  split at h
  ·rename_i ho
   split at h
   ·cases h
   ·rename_i a l1 e
    have h1:=pf_good Q n 4 .nil l.tail a l1 e (by omega) (by omega) (all_tail hq)
    have hl:=headK_len (l:=l) (by intro e0;rw [e0] at ho;exact ho rfl)
    have s1:=h1.2.2
    simp at s1
    cases h
    refine ⟨Fg.one (opOf_range _ ho) h1.1,h1.2.1, ?_⟩
    rw [sizeF_one];simp;omega
  ·split at h
   ·rename_i hk
    split at h
    ·cases h
    ·rename_i a l1 e
     have h1:=pf_good Q n 0 .nil l.tail a l1 e (by omega) (by omega) (all_tail hq)
     have s1:=h1.2.2
     simp at s1
     split at h
     ·cases h;exact ⟨h1.1,all_tail h1.2.1,by simp;omega⟩
     ·cases h
   ·split at h
    ·rename_i hk
     cases h
     have hl:=headK_len (l:=l) (by omega)
     refine ⟨Fg.word (by omega),all_tail hq, ?_⟩
     rw [sizeF_leaf];simp;omega
    ·split at h
     ·rename_i hk
      cases h
      obtain ⟨t,r,rfl,ht⟩:=headK_ne hk (by omega)
      exact ⟨Fg.leaf (hq t List.mem_cons_self) ht,all_tail hq,by rw [sizeF_leaf];simp;omega⟩
     ·cases h
 |n+1,5,f,l,f',l',h,_,hf,hq=>by
  rw [pf] at h
  split at h
  ·rename_i hk
   split at h
   ·cases h
   ·rename_i b l1 e
    have h1:=pf_good Q n 2 .nil l.tail b l1 e (by omega) (by omega) (all_tail hq)
    have h2:=pf_good Q n 5 _ l1 f' l' h (by omega) (fun _=>Fg.two (by omega) (hf (by omega)) h1.1) h1.2.1
    have hl:=headK_len (l:=l) (by omega)
    have s1:=h1.2.2;have s2:=h2.2.2
    rw [sizeF_two] at s2
    simp at s1 s2
    exact ⟨h2.1,h2.2.1,by simp;omega⟩
  ·cases h;exact ⟨hf (by omega),hq,by simp⟩
 |n+1,6,f,l,f',l',h,_,hf,hq=>by
  rw [pf] at h
  split at h
  ·rename_i hk
   split at h
   ·cases h
   ·rename_i b l1 e
    have h1:=pf_good Q n 3 .nil l.tail b l1 e (by omega) (by omega) (all_tail hq)
    have h2:=pf_good Q n 6 _ l1 f' l' h (by omega) (fun _=>Fg.two (by omega) (hf (by omega)) h1.1) h1.2.1
    have hl:=headK_len (l:=l) (by omega)
    have s1:=h1.2.2;have s2:=h2.2.2
    rw [sizeF_two] at s2
    simp at s1 s2
    exact ⟨h2.1,h2.2.1,by simp;omega⟩
  ·cases h;exact ⟨hf (by omega),hq,by simp⟩
 |n+1,k+7,f,l,f',l',h,hk,_,_=>by omega
def RlGood (Q:Tk→Prop) (m:Nat) (r:Rl):Prop:=
 (r.call=true∧Q r.word∧r.word.k=2∧r.f= .nil∧ ∃x,Q x∧x.k=2∧(r.args=[x]∨ ∃y,Q y∧(y.k=2∨y.k=3)∧r.args=[x,y]))∨
 (r.call=false∧Fg Q r.f∧sizeF r.f≤m∧r.args=[])
theorem headT_ok {Q:Tk→Prop} {l:List Tk} {k:Nat} (h:headK l=k) (hk:k≠0) (hq: ∀t∈l,Q t):Q (headT l)∧(headT l).k=k:=by
 obtain ⟨t,r,rfl,ht⟩:=headK_ne h hk
 exact ⟨hq t List.mem_cons_self,ht⟩
theorem ruleRead_good (Q:Tk→Prop) (l:List Tk) (r:Rl) (l':List Tk) (h:ruleRead l= .ok (r,l')) (hq: ∀t∈l,Q t):RlGood Q l.length r∧(∀t∈l',Q t):=by
 unfold ruleRead at h
 split at h
 ·rename_i h0
  have w0:=headT_ok h0.1 (by omega) hq
  split at h
  ·rename_i h1
   have w1:=headT_ok h1 (by omega) (all_tail (all_tail hq))
   split at h
   ·split at h
    ·rename_i h3
     have w3:Q (headT l.tail.tail.tail.tail)∧((headT l.tail.tail.tail.tail).k=2∨(headT l.tail.tail.tail.tail).k=3):=by
      rcases h3 with h3|h3
      ·have:=headT_ok h3 (by omega) (all_tail (all_tail (all_tail (all_tail hq))));exact ⟨this.1,Or.inl this.2⟩
      ·have:=headT_ok h3 (by omega) (all_tail (all_tail (all_tail (all_tail hq))));exact ⟨this.1,Or.inr this.2⟩
     split at h
     ·cases h
      exact ⟨Or.inl ⟨rfl,w0.1,w0.2,rfl,_,w1.1,w1.2,Or.inr ⟨_,w3.1,w3.2,rfl⟩⟩,all_tail (all_tail (all_tail (all_tail (all_tail (all_tail hq)))))⟩
     ·cases h
    ·cases h
   ·split at h
    ·cases h
     exact ⟨Or.inl ⟨rfl,w0.1,w0.2,rfl,_,w1.1,w1.2,Or.inl rfl⟩,all_tail (all_tail (all_tail (all_tail hq)))⟩
    ·cases h
  ·cases h
 ·split at h
  ·cases h
  ·rename_i f l1 e
   cases h
   have:=pf_good Q _ 0 .nil l f l' e (by omega) (by omega) hq
   have s1:=this.2.2
   simp at s1
   exact ⟨Or.inr ⟨rfl,this.1,by show sizeF f≤_;omega,rfl⟩,this.2.1⟩
theorem actsRead_good (Q:Tk→Prop): ∀n l ts l',actsRead n l= .ok (ts,l')→(∀t∈l,Q t)→(∀t∈ts,Q t∧t.k=2)∧ts≠[]∧ts.length≤n∧(∀t∈l',Q t)
 |0,l,ts,l',h,_=>by simp [actsRead] at h
 |n+1,l,ts,l',h,hq=>by
  rw [actsRead] at h
  split at h
  ·rename_i h0
   have w0:=headT_ok h0 (by omega) hq
   split at h
   ·split at h
    ·cases h
    ·rename_i ts1 l1 e
     have:=actsRead_good Q n l.tail.tail ts1 l1 e (all_tail (all_tail hq))
     cases h
     refine ⟨fun t ht=> ?_,by simp,by simp;omega,this.2.2.2⟩
     rcases List.mem_cons.1 ht with rfl|ht
     ·exact w0
     ·exact this.1 t ht
   ·cases h
    exact ⟨fun t ht=>by rw [List.mem_singleton] at ht;subst ht;exact w0,by simp,by simp,all_tail hq⟩
  ·cases h
theorem RlGood.mono {Q:Tk→Prop} {m m':Nat} {r:Rl} (h:RlGood Q m r) (hm:m≤m'):RlGood Q m' r:=by
 rcases h with h|⟨h1,h2,h3,h4⟩
 ·exact Or.inl h
 ·exact Or.inr ⟨h1,h2,by omega,h4⟩
theorem rulesRead_good (Q:Tk→Prop) (m:Nat): ∀n l rs,rulesRead n l= .ok rs→l.length≤m→(∀t∈l,Q t)→(∀r∈rs,RlGood Q m r)∧rs.length≤n
 |0,l,rs,h,_,_=>by simp [rulesRead] at h
 |n+1,l,rs,h,hm,hq=>by
  rw [rulesRead] at h
  split at h
  ·cases h;exact ⟨fun r hr=>(List.not_mem_nil hr).elim,by simp⟩
  ·split at h
   ·split at h
    ·cases h
    ·rename_i r l1 e
     have hr:=ruleRead_good Q l.tail r l1 e (all_tail hq)
     have hl:=ruleRead_len l.tail r l1 e
     split at h
     ·split at h
      ·cases h
      ·rename_i rs1 e1
       have h1:=rulesRead_good Q m n l1.tail rs1 e1 (by simp at hl⊢;omega) (all_tail hr.2)
       cases h
       refine ⟨fun x hx=> ?_,by simp;omega⟩
       rcases List.mem_cons.1 hx with rfl|hx
       ·exact (show RlGood Q _ r from hr.1).mono (by simp;omega)
       ·exact h1.1 x hx
     ·cases h
   ·cases h
theorem modelRead_good (Q:Tk→Prop) (l:List Tk) (al:List Tk) (rs:List Rl) (h:modelRead l= .ok (al,rs)) (hq: ∀t∈l,Q t):
  (∀t∈al,Q t∧t.k=2)∧al≠[]∧al.length≤l.length∧(∀r∈rs,RlGood Q l.length r)∧rs.length≤l.length:=by
 unfold modelRead at h
 split at h
 ·split at h
  ·cases h
  ·rename_i ts l1 e
   have ha:=actsRead_good Q _ _ _ _ e (all_tail hq)
   have hl:=actsRead_len _ _ _ _ e
   split at h
   ·split at h
    ·cases h
    ·rename_i rs1 e1
     have hr:=rulesRead_good Q l.length _ _ _ e1 (by simp at hl⊢;omega) (all_tail ha.2.2.2)
     cases h
     exact ⟨ha.1,ha.2.1,ha.2.2.1,hr.1,by simp at hl;omega⟩
   ·cases h
 ·cases h
theorem lexR_small (s:ByteArray): ∀n i,i≤s.size→ ∀t∈lexR s n i,t.s.size≤s.size∧t.p≤s.size
 |0,_,_,t,h=>by simp [lexR] at h
 |n+1,i,hi,t,h=>by
  have h1:=upTo_le isBl s i hi
  have h2:=lexAt_s s _ h1
  have h3:=lexAt_p s _ h1
  by_cases hk:(lexAt s (upTo isBl s i)).k≤1
  ·rw [lexR_stop s n i hk] at h;simp at h;subst h;omega
  ·rw [lexR_go s n i hk] at h
   have ha:=lex_adv s i hi hk
   rcases List.mem_cons.1 h with rfl|h
   ·omega
   ·exact lexR_small s n _ ha.2 t h
def dups (pre:List Tk) (a:Tk):List (Nat × Nat):=
 match pre with
 |[]=>[]
 |t::r=>(if t.s.toList=a.s.toList then [(a.p,3)] else [])++dups r a
def fLong (a:Tk):List (Nat × Nat):=if 8<a.s.size then [(a.p,1)] else []
def fAct (pre:List Tk) (i:Nat) (a:Tk):List (Nat × Nat):=fLong a++(dups pre a++(if 6≤i then [(a.p,4)] else []))
def fActs (al:List Tk):Nat→List Tk→List (Nat × Nat)
 |_,[]=>[]
 |i,a::r=>fAct (al.take i) i a++fActs al (i+1) r
def fRule (al:List Tk) (i:Nat) (r:Rl):List (Nat × Nat):=(if 4≤i then [(r.pl,4)] else [])++(fFm al r.f++(if r.call=true then fCall al r else []))
def fRules (al:List Tk):Nat→List Rl→List (Nat × Nat)
 |_,[]=>[]
 |i,r::l=>fRule al i r++fRules al (i+1) l
def faults (al:List Tk) (rs:List Rl):List (Nat × Nat):=fActs al 0 al++fRules al 0 rs
def nodesL:List Rl→Nat
 |[]=>0
 |r::l=>sizeF (ruleF r)+nodesL l
def rdOf (n:Nat):Except Nat (List Tk × List Rl)→Except (Nat × Nat) (List Tk × List Rl)
 | .error q=> .error (q,2)
 | .ok (al,rs)=>if (meets (0,0) (faults al rs)).2≠0 then .error (meets (0,0) (faults al rs)) else if 16<nodesL rs then .error (n,4) else .ok (al,rs)
def readM (s:ByteArray):Except (Nat × Nat) (List Tk × List Rl):=if 400<s.size then .error (0,1) else rdOf s.size (modelRead (lexR s (s.size+1) 0))
theorem dropTl {α:Type} {l:List α} {k:Nat} {x:α} {r:List α} (h:l.drop k=x::r):l.drop (k+1)=r:=by
 have:=congrArg List.tail h
 simpa using this
theorem take_snoc {α:Type} {l:List α} {k:Nat} {x:α} {r:List α} (h:l.drop k=x::r):l.take (k+1)=l.take k++[x]:=by
 rw [List.take_add_one]
 have:l[k]? =some x:=by
  have:=congrArg (fun l=>l[0]?) h
  simpa using this
 rw [this];rfl
def Errs (l:List (Nat × Nat)):Prop:= ∀f∈l,f.2≠0
theorem Errs.append {l m:List (Nat × Nat)} (h:Errs l) (k:Errs m):Errs (l++m):=fun f hf=>(List.mem_append.1 hf).elim (h f) (k f)
theorem Errs.nil:Errs []:=fun _ h=>(List.not_mem_nil h).elim
theorem Errs.ite {p:Prop} [Decidable p] {l m:List (Nat × Nat)} (h:Errs l) (k:Errs m):Errs (if p then l else m):=by split<;>assumption
theorem Errs.one {a b:Nat} (h:b≠0):Errs [(a,b)]:=fun f hf=>by rw [List.mem_singleton] at hf;subst hf;exact h
theorem meet_ne (x:Nat × Nat) (p e:Nat) (he:e≠0):(meet x p e).2≠0:=by
 unfold meet;split
 ·exact he
 ·rename_i h;intro h';exact h (Or.inl h')
theorem meets_ne: ∀(l:List (Nat × Nat)) (x:Nat × Nat),Errs l→x.2≠0→(meets x l).2≠0
 |[],_,_,h=>h
 |f::l,x,he,_=>meets_ne l _ (fun g hg=>he g (List.mem_cons_of_mem _ hg)) (meet_ne x _ _ (he f List.mem_cons_self))
theorem meets_zero {l:List (Nat × Nat)} (he:Errs l) (h:(meets (0,0) l).2=0):l=[]:=by
 cases l with
 |nil=>rfl
 |cons f l=>exact absurd h (meets_ne l _ (fun g hg=>he g (List.mem_cons_of_mem _ hg)) (meet_ne _ _ _ (he f List.mem_cons_self)))
theorem fName_errs (al:List Tk) (s:ByteArray) (p:Nat):Errs (fName al s p):=(Errs.ite (Errs.one (by decide)) Errs.nil).append (Errs.ite Errs.nil (Errs.one (by decide)))
theorem fFm_errs (al:List Tk): ∀f,Errs (fFm al f)
 | .nil=>Errs.nil
 | .node _ _ _ l r=>(Errs.ite (fName_errs al _ _) Errs.nil).append ((fFm_errs al l).append (fFm_errs al r))
theorem fArgs_errs (al:List Tk): ∀(k:List UInt8) (l:List Tk),Errs (fArgs al k l)
 |_,[]=>by rw [fArgs];exact Errs.nil
 |k,t::r=>by rw [fArgs];exact ((Errs.ite (fName_errs al _ _) Errs.nil).append (Errs.ite (Errs.one (by decide)) Errs.nil)).append (fArgs_errs al _ r)
theorem fCall_errs (al:List Tk) (r:Rl):Errs (fCall al r):=(Errs.ite (Errs.one (by decide)) Errs.nil).append ((Errs.ite Errs.nil (Errs.one (by decide))).append ((fArgs_errs al _ _).append (Errs.ite (Errs.one (by decide)) Errs.nil)))
theorem dups_errs (a:Tk): ∀l,Errs (dups l a)
 |[]=>Errs.nil
 |_::r=>(Errs.ite (Errs.one (by decide)) Errs.nil).append (dups_errs a r)
theorem fActs_errs (al:List Tk): ∀i l,Errs (fActs al i l)
 |_,[]=>Errs.nil
 |i,a::r=>((Errs.ite (Errs.one (by decide)) Errs.nil).append ((dups_errs a _).append (Errs.ite (Errs.one (by decide)) Errs.nil))).append (fActs_errs al (i+1) r)
theorem fRules_errs (al:List Tk): ∀i l,Errs (fRules al i l)
 |_,[]=>Errs.nil
 |i,r::l=>((Errs.ite (Errs.one (by decide)) Errs.nil).append ((fFm_errs al _).append (Errs.ite (fCall_errs al r) Errs.nil))).append (fRules_errs al (i+1) l)
theorem faults_errs (al:List Tk) (rs:List Rl):Errs (faults al rs):=(fActs_errs al _ _).append (fRules_errs al _ _)
theorem fRules_nil {al:List Tk}: ∀{i:Nat} {rs:List Rl},fRules al i rs=[]→ ∀r∈rs,fFm al r.f=[]∧(r.call=true→fCall al r=[])
 |_,[],_,r,hr=>(List.not_mem_nil hr).elim
 |i,x::l,h,r,hr=>by
  rw [fRules,fRule] at h
  obtain ⟨h1,h2⟩:=List.append_eq_nil_iff.1 h
  obtain ⟨h3,h4⟩:=List.append_eq_nil_iff.1 h1
  obtain ⟨h5,h6⟩:=List.append_eq_nil_iff.1 h4
  rcases List.mem_cons.1 hr with rfl|hr
  ·exact ⟨h5,fun hc=>by rw [if_pos hc] at h6;exact h6⟩
  ·exact fRules_nil h2 r hr
theorem dig_ok {t : Tk} (h : TkOk t) (hk : t.k = 3) : ∃ c : UInt8, t.s = ⟨#[c]⟩ ∧ 48 ≤ c.toNat ∧ c.toNat ≤ 57 := by
  obtain ⟨c, hc, h1⟩ := h.2.2.1 hk
  refine ⟨c, ?_, h1⟩
  cases hs : t.s with
  | mk d => rw [hs] at hc; have : d = #[c] := by rw [← Array.toList_inj]; exact hc
            rw [this]
theorem takes_len {n:Nat} (h:n≤11):(tplTakes n=[110]∧n≤1)∨(tplTakes n=[110,100]∧2≤n∧n≤3)∨(tplTakes n=[110,110]∧4≤n):=by
 unfold tplTakes
 split
 ·exact Or.inl ⟨rfl,by assumption⟩
 ·split
  ·exact Or.inr (Or.inl ⟨rfl,by omega,by assumption⟩)
  ·exact Or.inr (Or.inr ⟨rfl,by omega⟩)
theorem call_ok {al:List Tk} {Q:Tk→Prop} {m:Nat} {r:Rl} (hQ: ∀t,Q t→TkOk t) (hg:RlGood Q m r) (hc:r.call=true) (h:fCall al r=[]):CallOk r:=by
 rcases hg with ⟨_,_,_,_,x,hx,hxk,hargs⟩|⟨h1,_⟩
 ·unfold fCall at h
  obtain ⟨_,h2⟩:=List.append_eq_nil_iff.1 h
  obtain ⟨h3,h4⟩:=List.append_eq_nil_iff.1 h2
  obtain ⟨h5,h6⟩:=List.append_eq_nil_iff.1 h4
  have hn:tplNo r.word.s.toList≤11:=by
   rcases Nat.lt_or_ge 11 (tplNo r.word.s.toList) with hh|hh
   ·rw [if_neg (by omega)] at h3;cases h3
   ·exact hh
  have hlen:¬ r.args.length<(tplTakes (tplNo r.word.s.toList)).length:=by
   intro hh;rw [if_pos hh] at h6;cases h6
  have hbad: ∀{ks:List UInt8} {t:Tk} {l:List Tk},fArgs al ks (t::l)=[]→badArg ks t=false∧fArgs al ks.tail l=[]:=by
   intro ks t l he
   rw [fArgs,fArg] at he
   obtain ⟨e1,e2⟩:=List.append_eq_nil_iff.1 he
   obtain ⟨_,e3⟩:=List.append_eq_nil_iff.1 e1
   refine ⟨?_,e2⟩
   cases hb:badArg ks t with
   |false=>rfl
   |true=>rw [if_pos hb] at e3;cases e3
  rcases takes_len hn with ⟨ht,hk⟩|⟨ht,hk⟩|⟨ht,hk⟩
  ·rcases hargs with ha|⟨y,hy,hyk,ha⟩
   ·exact Or.inl ⟨hk,x,ha⟩
   ·rw [ha,ht] at h5
    have:=hbad (hbad h5).2
    exact absurd this.1 (by simp [badArg])
  ·rcases hargs with ha|⟨y,hy,hyk,ha⟩
   ·rw [ha,ht] at hlen;exact absurd (by simp) hlen
   ·rw [ha,ht] at h5
    have hb:=(hbad (hbad h5).2).1
    rcases hyk with hyk|hyk
    ·simp [badArg,hyk] at hb
    ·obtain ⟨c,hc1,hc2,hc3⟩:=dig_ok (hQ y hy) hyk
     simp [badArg,hyk,hc1] at hb
     exact Or.inr (Or.inl ⟨hk.1,hk.2,x,y,ha,c,hc1,by omega,hc3⟩)
  ·rcases hargs with ha|⟨y,hy,hyk,ha⟩
   ·rw [ha,ht] at hlen;exact absurd (by simp) hlen
   ·exact Or.inr (Or.inr ⟨hk,hn,x,y,ha⟩)
 ·rw [h1] at hc;cases hc
theorem timesF_size (a:ByteArray): ∀n,sizeF (timesF a n)≤2+4 * n
 |0=>by show 1+(1+0+0)+0≤2;omega
 |1=>by show 1+(1+0+0)+0≤6;omega
 |n+2=>by
  have:=timesF_size a (n+1)
  show 1+(1+(1+0+0)+(1+sizeF (timesF a (n+1))+0))+0≤_
  omega
theorem tplF_size (k:Nat) (a b:ByteArray) (n:Nat):sizeF (tplF k a b n)≤12+4 * n:=by
 have:=timesF_size a n
 unfold tplF
 split
 ·show 1+0+0≤_;omega
 split
 ·show 1+(1+(1+0+0)+(1+(1+(1+0+0)+0)+0))+0≤_;omega
 split
 ·omega
 split
 ·show 1+sizeF (timesF a n)+0≤_;omega
 repeat' split
 all_goals (simp only [sizeF_two,sizeF_one,acF,sizeF_leaf];omega)
theorem ruleF_size {Q:Tk→Prop} {m:Nat} {r:Rl} (hg:RlGood Q m r) (hok:r.call=true→CallOk r):sizeF (ruleF r)≤48+m:=by
 unfold ruleF
 rcases hg with ⟨hc,_⟩|⟨h1,_,h3,_⟩
 ·rw [if_pos hc]
  have h1:=tplF_size (tplNo r.word.s.toList) (argS r.args 0) (argS r.args 1) (digitN (argS r.args 1))
  rcases hok hc with ⟨hk,x,ha⟩|⟨hk,hk2,x,y,ha,c,hc1,hc2,hc3⟩|⟨hk,hk2,x,y,ha⟩
  ·have:digitN (argS r.args 1)=0:=by rw [ha];rfl
   omega
  ·have:digitN (argS r.args 1)≤9:=by rw [ha];show digitN y.s≤9;rw [hc1];show c.toNat - 48≤9;omega
   omega
  ·have h2:sizeF (tplF (tplNo r.word.s.toList) (argS r.args 0) (argS r.args 1) (digitN (argS r.args 1)))≤12:=by
    unfold tplF
    rw [if_neg (by omega),if_neg (by omega),if_neg (by omega),if_neg (by omega)]
    repeat' split
    all_goals (simp only [sizeF_two,sizeF_one,acF,sizeF_leaf];omega)
   omega
 ·rw [if_neg (by simp [h1])];omega
end Go.Proofs.YtidakhhekofkoaaGreatDoor
namespace Go.Proofs.YtidakhhekofkoaaGreatDoor
open Go.RowKit Go.Deep
def RdLeft (s:ByteArray) (w w':World) (e:Ending):Prop:=
 Below w.heap.size w w'∧(match readM s with
  | .error x=>e= .returned (.tuple #[.agg #[.slice none 0 0,.slice none 0 0],.int .i64 x.1,.int .i64 x.2])
  | .ok (al,rs)=> ∃o1 n1 k1 o2 n2 k2,e= .returned (.tuple #[.agg #[.slice o1 n1 k1,.slice o2 n2 k2],.int .i64 0,.int .i64 0])∧ActsAre w' o1 n1 k1 al∧RowR w' o2 n2 k2 rs)
structure RS (w W:World) (mb:Nat) (x:Nat × Nat) (o1:Option Addr) (n1 k1:Nat) (o2:Option Addr) (n2 k2:Nat) (al:List Tk) (rs:List Rl):Prop where
 rbx:W.heap[w.heap.size]? =some (.cells #[.slice none 0 0,.slice none 0 0] 228 (0,0))
 mbx:W.heap[mb]? =some (.cells #[.slice o1 n1 k1,.slice o2 n2 k2] 228 (0,0))
 fbx:FB W (mb+1) x
 act:ActsAre W o1 n1 k1 al
 rul:RowR W o2 n2 k2 rs
 bel:Below w.heap.size w W
 lt:w.heap.size<mb
theorem RowR.fb {w w':World} {fb:Nat} {x:Nat × Nat} {o:Option Addr} {n k:Nat} {rs:List Rl} (h:RowR w o n k rs) (hf:FB w fb x) (hg:w.grownBy w' (some fb)):RowR w' o n k rs:=by
 obtain ⟨cells,h1,h2⟩:=h
 refine ⟨cells,owns_keep h1 hg ?_,(KT.fb hf hg).rules h2⟩
 rcases hb:(Value.slice o n k).ownBlock with _|b
 ·exact Or.inl rfl
 ·refine Or.inr (fun e=> ?_)
  cases e
  exact own_ty h1 hb hf (by decide)
theorem RowR.keepTy {w w':World} {rb ty:Nat} {cc:Array Value} {m:Nat × Nat} {o:Option Addr} {n k:Nat} {rs:List Rl} (h:RowR w o n k rs) (hk:KT w w') (hb:w.heap[rb]? =some (.cells cc ty m)) (hne:ty≠235) (hg:w.grownBy w' (some rb)):RowR w' o n k rs:=by
 obtain ⟨cells,h1,h2⟩:=h
 refine ⟨cells,owns_keep h1 hg ?_,hk.rules h2⟩
 rcases hb':(Value.slice o n k).ownBlock with _|b
 ·exact Or.inl rfl
 ·refine Or.inr (fun e=> ?_)
  cases e
  exact own_ty h1 hb' hb hne
theorem owns_val {w:World} {base e size n:Nat} {v:Value} {xs:List Value} (h:w.ownsRow base e size v n xs): ∃o k,v= .slice o n k:=by
 obtain ⟨_,⟨h1,h2⟩|⟨g,cap,cur,hv,_⟩⟩:=h
 ·subst h2;exact ⟨_,_,h1⟩
 ·exact ⟨_,_,hv⟩
theorem owns1_at {w:World} {base e n k i:Nat} {o:Option Addr} {xs:List Value} (h:w.ownsRow base e 1 (.slice o n k) n xs) (hi:i<n): ∃g,o=some ⟨g,0,none⟩∧g<w.heap.size∧w.cell? ⟨g,i,none⟩=xs[i]? :=by
 obtain ⟨_,⟨h1,h2⟩|⟨g,cap,cur,hv,_,hrow,hle,_,hcs,htake⟩⟩:=h
 ·omega
 ·cases hv
  refine ⟨g,rfl,lt_of_blk hrow, ?_⟩
  rw [cell_of_blk hrow,←Array.getElem?_toList,←htake,List.getElem?_take,if_pos (by omega)]
theorem FsAre.at {w:World}: ∀{rs:List Rl} {ps:List (Option Addr)} {j:Nat} {r:Rl} {l:List Rl},FsAre w rs ps→rs.drop j=r::l→ ∃p,ps[j]? =some p∧IsF w (ruleF r) p
 |[],_,j,r,l,_,h=>by simp at h
 |x::xs,ps,0,r,l,⟨p,ps',e,h1,_⟩,h=>by
  simp at h
  obtain ⟨rfl,_⟩:=h
  subst e
  exact ⟨p,rfl,h1⟩
 |x::xs,ps,j+1,r,l,⟨p,ps',e,_,h2⟩,h=>by
  obtain ⟨q,hq,hf⟩:=h2.at (j:=j) (r:=r) (l:=l) (by simpa using h)
  subst e
  exact ⟨q,by simpa using hq,hf⟩
theorem nodesL_append: ∀a b:List Rl,nodesL (a++b)=nodesL a+nodesL b
 |[],b=>by simp [nodesL]
 |r::l,b=>by rw [List.cons_append,nodesL,nodesL,nodesL_append l b];omega
theorem nodesL_le (m:Nat): ∀l:List Rl,(∀r∈l,sizeF (ruleF r)≤m)→nodesL l≤l.length * m
 |[],_=>by simp [nodesL]
 |r::l,h=>by
  have h1:=h r List.mem_cons_self
  have h2:=nodesL_le m l (fun x hx=>h x (List.mem_cons_of_mem _ hx))
  rw [nodesL,List.length_cons,Nat.succ_mul];omega
theorem RS.later {w W:World} {mb:Nat} {x:Nat × Nat} {o1:Option Addr} {n1 k1:Nat} {o2:Option Addr} {n2 k2:Nat} {al:List Tk} {rs:List Rl} {W':World} (h:RS w W mb x o1 n1 k1 o2 n2 k2 al rs) (hb:Below W.heap.size W W'):RS w W' mb x o1 n1 k1 o2 n2 k2 al rs:=
 ⟨(hb.block _ (lt_of_blk h.rbx)).trans h.rbx,(hb.block _ (lt_of_blk h.mbx)).trans h.mbx,h.fbx.later hb,(KT.below hb).acts h.act,h.rul.later hb,h.bel.trans (hb.mono h.bel.size),h.lt⟩
theorem RS.alloc {w W:World} {mb:Nat} {x:Nat × Nat} {o1:Option Addr} {n1 k1:Nat} {o2:Option Addr} {n2 k2:Nat} {al:List Tk} {rs:List Rl} (h:RS w W mb x o1 n1 k1 o2 n2 k2 al rs) (o:Obj):RS w (W.alloc o) mb x o1 n1 k1 o2 n2 k2 al rs:=h.later ((Below.refl _ _).alloc (Nat.le_refl _) _)
theorem RS.call {w W:World} {mb:Nat} {x:Nat × Nat} {o1:Option Addr} {n1 k1:Nat} {o2:Option Addr} {n2 k2:Nat} {al:List Tk} {rs:List Rl} {W':World} {y:Nat × Nat} (h:RS w W mb x o1 n1 k1 o2 n2 k2 al rs) (hf:FB W' (mb+1) y) (hg:W.grownBy W' (some (mb+1))):RS w W' mb y o1 n1 k1 o2 n2 k2 al rs:=
 ⟨(hg.block _ (lt_of_blk h.rbx) (by have:=h.lt;simp;omega)).trans h.rbx,(hg.block _ (lt_of_blk h.mbx) (by simp)).trans h.mbx,hf,(KT.fb h.fbx hg).acts h.act,h.rul.fb h.fbx hg,below_grown h.bel hg (by have:=h.lt;omega),h.lt⟩
theorem fActs_at {al:List Tk} {i:Nat} {t:Tk} {r:List Tk} (h:al.drop i=t::r):fActs al i (al.drop i)=fAct (al.take i) i t++fActs al (i+1) (al.drop (i+1)):=by
 rw [h,fActs,dropTl h]
theorem fRules_at {al:List Tk} {rs:List Rl} {i:Nat} {t:Rl} {r:List Rl} (h:rs.drop i=t::r):fRules al i (rs.drop i)=fRule al i t++fRules al (i+1) (rs.drop (i+1)):=by
 rw [h,fRules,dropTl h]
theorem dups_at {l:List Tk} {a:Tk} {k:Nat} {t:Tk} {r:List Tk} (h:l.drop k=t::r):dups (l.drop k) a=(if t.s.toList=a.s.toList then [(a.p,3)] else [])++dups (l.drop (k+1)) a:=by
 rw [h,dups,dropTl h]
theorem Fg.leaf_size {Q:Tk→Prop} {m:Nat} (hQ: ∀t,Q t→t.s.size≤m): ∀{f:Fm} {s:ByteArray} {p:Nat},Fg Q f→Leaf f s p→s.size≤m
 | .nil,_,_,h,_=>False.elim h
 | .node _ _ a l r,s,p,h,hl=>by
  rcases hl with ⟨h0,hs,hp⟩|hl|hl
  ·rcases h with ⟨_,⟨t,ht,_,h1,_⟩,_⟩|⟨h1,_⟩|⟨h1,_⟩|⟨h1,_⟩
   ·rw [←hs,←h1];exact hQ t ht
   all_goals omega
  ·rcases h with ⟨_,_,hn,_⟩|⟨_,hn,_⟩|⟨_,hf,_⟩|⟨_,hf,_⟩
   ·rw [hn] at hl;exact False.elim hl
   ·rw [hn] at hl;exact False.elim hl
   ·exact hf.leaf_size hQ hl
   ·exact hf.leaf_size hQ hl
  ·rcases h with ⟨_,_,_,hn⟩|⟨_,_,hn⟩|⟨_,_,hn⟩|⟨_,_,hf⟩
   ·rw [hn] at hl;exact False.elim hl
   ·rw [hn] at hl;exact False.elim hl
   ·rw [hn] at hl;exact False.elim hl
   ·exact hf.leaf_size hQ hl
def TkS (t:Tk):Prop:=TkOk t∧t.s.size≤400
set_option maxHeartbeats 8000000 in
set_option maxRecDepth 100000 in
theorem Read_any (s:ByteArray) (w:World):Calls Tryz.prog 137 #[.string s] w fun e w'=>RdLeft s w w' e:=by
 by_cases hs:400<s.size
 ·have HL:Hid (readM s= .error (0,1)):=by show _=_;unfold readM;rw [if_pos hs]
  have hs':(400:Int)<(s.size:Int):=by omega
  clear hs
  go_enter Tryz.func137,Tryz.ntmps137
  go_wp2_with fail
  have rc:=fun o=>cell_of_blk (blk_alloc w (.cells #[.slice none 0 0,.slice none 0 0] 228)) o
  exact bodyPost_ret (v:= .tuple #[.agg #[.slice none 0 0,.slice none 0 0],.int .i64 0,.int .i64 1]) (by simp [results,Tryz.results137,go_sem,rc]) rfl ⟨(Below.refl _ _).alloc (Nat.le_refl _) _,by rw [unhide HL];rfl⟩
 have hs':¬ (400:Int)<(s.size:Int):=by omega
 have HS:=hide (show s.size≤400 by omega)
 have HRM:Hid (readM s=rdOf s.size (modelRead (lexR s (s.size+1) 0))):=by show _=_;unfold readM;rw [if_neg hs]
 have HP:=hide (fun W=>Parse_any s W (unhide HS))
 have hll:(lexR s (s.size+1) 0).length≤401:=by have:=lexR_len s (s.size+1) 0 (Nat.zero_le _);omega
 have HQ:Hid (∀t∈lexR s (s.size+1) 0,TkS t):=fun t ht=>⟨lexR_ok s _ _ t ht,by have:=lexR_small s _ 0 (Nat.zero_le _) t ht;omega⟩
 generalize lexR s (s.size+1) 0=L at *
 clear hs
 go_enter Tryz.func137,Tryz.ntmps137
 go_wp2_with (go_at_call 173;refine ((unhide HP) _).mono ?_)
 rintro e w1 ⟨hb1,o1,n1,k1,o2,n2,k2,hx⟩
 have hz1:w.heap.size<w1.heap.size:=by have:=hb1.size;simp at this;omega
 have HR1:=hide (show w1.heap[w.heap.size]? =some (.cells #[.slice none 0 0,.slice none 0 0] 228 (0,0)) from (hb1.block _ (by simp)).trans (blk_alloc _ _))
 have HB1:=hide (((Below.refl w.heap.size w).alloc (Nat.le_refl _) (.cells #[.slice none 0 0,.slice none 0 0] 228)).trans (hb1.mono (by simp)))
 clear hb1
 cases hm:modelRead L with
 |error q=>
  rw [hm] at hx
  have hx':e= .returned (.tuple #[.agg #[.slice o1 n1 k1,.slice o2 n2 k2],.int .i64 q]):=hx
  clear hx
  subst hx'
  have HL:Hid (readM s= .error (q,2)):=by show _=_;rw [unhide HRM,hm];rfl
  clear hm HRM
  have rf:=fun o=>frozen_of_blk (unhide HR1) o
  have rc:=fun o=>cell_of_blk (unhide HR1) o
  go_wp2_with fail
  refine bodyPost_ret (v:= .tuple #[.agg #[.slice none 0 0,.slice none 0 0],.int .i64 q,.int .i64 2]) ?_ rfl ?_
  ·have hfin:(((w1.setCell ⟨w.heap.size,0,none⟩ (.slice none 0 0)).setCell ⟨w.heap.size,1,none⟩ (.slice none 0 0)).alloc (.cells #[.slice o1 n1 k1,.slice o2 n2 k2] 228)).heap[w.heap.size]? =some (.cells #[.slice none 0 0,.slice none 0 0] 228 (0,0)):=(Below.heap_alloc _ _ _ (by simp;omega)).trans (blk_set (blk_set (unhide HR1) 0 _) 1 _)
   clear rc rf
   have rc:=fun o=>cell_of_blk hfin o
   simp [results,Tryz.results137,go_sem,rc]
  refine ⟨(((unhide HB1).setCell (Nat.le_refl _) _).setCell (Nat.le_refl _) _).alloc (by simp;omega) _, ?_⟩
  rw [unhide HL];rfl
 |ok m=>
  obtain ⟨al,rs⟩:=m
  rw [hm] at hx
  obtain ⟨rfl,ha,hr⟩:=hx
  have HL:Hid (readM s=if (meets (0,0) (faults al rs)).2≠0 then .error (meets (0,0) (faults al rs)) else if 16<nodesL rs then .error (s.size,4) else .ok (al,rs)):=by show _=_;rw [unhide HRM,hm];rfl
  have hgd:=modelRead_good TkS L al rs hm (unhide HQ)
  have hal:al.length≤401:=by have:=hgd.2.2.1;omega
  have hrl:rs.length≤401:=by have:=hgd.2.2.2.2;omega
  have HG:Hid (∀r∈rs,RlGood TkS 401 r):=fun r hr=>(hgd.2.2.2.1 r hr).mono hll
  have hn1:=ActsAre.len ha
  have hn2:=RowR.len hr
  subst hn1 hn2
  have h0:RS w ((w1.alloc (.cells #[.slice o1 al.length k1,.slice o2 rs.length k2] 228)).alloc (.cells #[.int .i64 0,.int .i64 0] 284)) w1.heap.size (0,0) o1 al.length k1 o2 rs.length k2 al rs:=by
   have hb2:=((Below.refl w1.heap.size w1).alloc (Nat.le_refl _) (.cells #[.slice o1 al.length k1,.slice o2 rs.length k2] 228)).alloc (by simp) (.cells #[.int .i64 0,.int .i64 0] 284)
   exact ⟨(hb2.block _ hz1).trans (unhide HR1),(Below.heap_alloc _ _ _ (by simp)).trans (blk_alloc _ _),blk_alloc' _ _ _ (by simp),(KT.below hb2).acts ha,(show RowR w1 _ _ _ _ from hr).later hb2,(unhide HB1).trans (hb2.mono (unhide HB1).size),hz1⟩
  have H0:=hide h0
  have HNE:=hide hgd.2.1
  clear ha hr hm hgd h0 HRM HP HR1 HB1 HQ hll
  go_wp2_with fail
  obtain ⟨g,rfl⟩: ∃g,o1=some ⟨g,0,none⟩:=by
   obtain ⟨t,l,ht⟩:=drop_ne (L:=al) (i:=0) (by have:=unhide HNE;exact List.length_pos_iff.2 this)
   obtain ⟨g,hgo,_⟩:=(unhide H0).act.tok ht
   exact ⟨g,hgo⟩
  go_loopw [8] (fun v wr=> ∃(i:Nat) (y:Nat × Nat),i≤al.length∧v= .int .i64 i∧RS w wr w1.heap.size y (some ⟨g,0,none⟩) al.length k1 o2 rs.length k2 al rs∧Hid (meets (0,0) (faults al rs)=meets y (fActs al i (al.drop i)++fRules al 0 rs))) (fun v _=>al.length - (intOf v).toNat)
  case atStart=>exact ⟨0,_,Nat.zero_le _,rfl,unhide H0,rfl⟩
  case round=>
   clear H0
   obtain ⟨i,y,hi,rfl,hrs,HY⟩:=hrel
   have H1:=hide hrs
   have mc:=fun o=>cell_of_blk hrs.mbx o
   have hzr:w1.heap.size+1<wr.heap.size:=lt_of_blk hrs.fbx
   have hzr0:w1.heap.size<wr.heap.size:=by omega
   by_cases hlt:i<al.length
   ·obtain ⟨t,l,ht⟩:=drop_ne hlt
    obtain ⟨g',hgo,hg, -,t0,t1,t2⟩:=hrs.act.tok ht
    cases hgo
    have HT:=hide ht
    clear hrs ht
    go_upto_if 46 with fail
    go_cut [] (fun wc=>RS w wc w1.heap.size (meets y (fLong t)) (some ⟨g,0,none⟩) al.length k1 o2 rs.length k2 al rs∧wc.heap[wr.heap.size]? =some (.cells #[.int .u8 (refK t.k),.string t.s,.int .i64 t.p] 232 (0,0)))
    case first=>
     have H2:=hide ((unhide H1).alloc (.cells #[.int .u8 (refK t.k),.string t.s,.int .i64 t.p] 232))
     by_cases hl:8<t.s.size
     ·have hL:(8:Int)<(t.s.size:Int):=by omega
      have HLL:=hide (show fLong t=[(t.p,1)] from if_pos hl)
      clear hl
      go_wp2_with fail
      refine (meets_any _ (w1.heap.size+1) y t.p 1 (unhide H2).fbx).mono ?_
      rintro e w3 ⟨rfl,hf3,hg3⟩
      have H3:=hide ((unhide H2).call hf3 hg3)
      have HB3:=hide ((hg3.block wr.heap.size (by simp) (by simp;omega)).trans (blk_alloc _ _))
      clear hf3 hg3
      go_wp2_with fail
      go_meet
      rw [unhide HLL];exact ⟨unhide H3,unhide HB3⟩
     ·have hL:¬ (8:Int)<(t.s.size:Int):=by omega
      have HLL:=hide (show fLong t=[] from if_neg hl)
      clear hl
      go_wp2_with fail
      go_meet
      rw [unhide HLL];exact ⟨unhide H2,blk_alloc _ _⟩
    case rest=>
    obtain ⟨hrs2,hbx2⟩:=hcut
    have H2:=hide hrs2
    have HB2:=hide hbx2
    have hzb:wr.heap.size<wc.heap.size:=lt_of_blk (unhide HB2)
    clear hrs2 H1 hbx2 t0 t1 t2 mc
    generalize wr.heap.size=b0 at *
    clear hg
    go_wp2_with fail
    go_loopw [10] (fun v wq=> ∃(k:Nat) (z:Nat × Nat),k≤i∧v= .int .i64 k∧RS w wq w1.heap.size z (some ⟨g,0,none⟩) al.length k1 o2 rs.length k2 al rs∧wq.heap[b0]? =some (.cells #[.int .u8 (refK t.k),.string t.s,.int .i64 t.p] 232 (0,0))∧Hid (meets (meets y (fLong t)) (dups (al.take i) t)=meets z (dups ((al.take i).drop k) t))) (fun v _=>i - (intOf v).toNat)
    case atStart=>exact ⟨0,_,Nat.zero_le _,rfl,unhide H2,unhide HB2,rfl⟩
    case round=>
     clear H2 HB2
     obtain ⟨k,z,hk,rfl,hrs3,hbx3,HZ⟩:=hrel
     have H3:=hide hrs3
     have HB3:=hide hbx3
     have mc:=fun o=>cell_of_blk hrs3.mbx o
     have bc:=fun o=>cell_of_blk hbx3 o
     have hz3:b0<wr.heap.size:=lt_of_blk hbx3
     have hz30:w1.heap.size<wr.heap.size:=by omega
     by_cases hki:k<i
     ·obtain ⟨u,l2,hu⟩:=drop_ne (L:=al) (i:=k) (by omega)
      obtain ⟨g',hgo,hg3, -,u0,u1,u2⟩:=hrs3.act.tok hu
      cases hgo
      have hdu:(al.take i).drop k=u::((al.take i).drop (k+1)):=by
       have h1:k<(al.take i).length:=by simp;omega
       rw [List.drop_eq_getElem_cons h1]
       congr 1
       have h2:al[k]? =some u:=by have:=congrArg (fun l=>l[0]?) hu;simpa using this
       have h3:k<al.length:=by omega
       rw [List.getElem?_eq_getElem h3] at h2
       rw [List.getElem_take]
       exact Option.some.inj h2
      have HDU:=hide (dups_at (a:=t) hdu)
      clear hu hdu hrs3 hbx3
      cases he:(u.s.toList==t.s.toList) with
      |true=>
       have HE:=hide (beq_iff_eq.1 he)
       go_wp2_with fail
       go_quiet (fail)
       go_wp2_with fail
       refine (meets_any _ (w1.heap.size+1) z t.p 3 ((unhide H3).later (bdn _ _)).fbx).mono ?_
       rintro e w4 ⟨rfl,hf4,hg4⟩
       have H4:=hide (((unhide H3).later (bdn _ _)).call hf4 hg4)
       have HB4:=hide ((hg4.block b0 (by have:=(bdn wr nq).size;omega) (by simp;omega)).trans (((bdn wr nq).block b0 hz3).trans (unhide HB3)))
       clear hf4 hg4
       go_wp2_with fail
       go_roundw
       case rel=>exact ⟨k+1,_,by omega,by go_num,unhide H4,unhide HB4,by show _=_;rw [unhide HZ,unhide HDU,if_pos (unhide HE)];rfl⟩
       case measure=>simp [intOf];omega
      |false=>
       have HE:=hide (beq_eq_false_iff_ne.1 he)
       go_wp2_with fail
       go_quiet (fail)
       go_wp2_with fail
       go_roundw
       case rel=>exact ⟨k+1,_,by omega,by go_num,(unhide H3).later (bdn _ _),((bdn wr nq).block b0 hz3).trans (unhide HB3),by show _=_;rw [unhide HZ,unhide HDU,if_neg (unhide HE)];rfl⟩
       case measure=>simp [intOf];omega
     ·have hke:k=i:=by omega
      subst hke
      have hz:meets (meets y (fLong t)) (dups (al.take k) t)=z:=by
       rw [unhide HZ,List.drop_eq_nil_of_le (by simp;omega)];rfl
      have HN:Hid (meets (0,0) (faults al rs)=meets z ((if 6≤k then [(t.p,4)] else [])++(fActs al (k+1) (al.drop (k+1))++fRules al 0 rs))):=by
       show _=_
       rw [unhide HY,fActs_at (unhide HT),fAct,←hz];simp only [meets_append]
      clear hz HZ HY hrs3 hbx3
      by_cases h6:6≤k
      ·have h6':(6:Int)≤(k:Int):=by omega
       rw [if_pos h6] at HN
       go_wp2_with fail
       refine (meets_any _ (w1.heap.size+1) z t.p 4 (unhide H3).fbx).mono ?_
       rintro e w4 ⟨rfl,hf4,hg4⟩
       have H4:=hide ((unhide H3).call hf4 hg4)
       clear hf4 hg4
       go_wp2_with fail
       go_roundw
       case rel=>exact ⟨k+1,_,by omega,by go_num,unhide H4,HN⟩
       case measure=>simp [intOf];omega
      ·have h6':¬ (6:Int)≤(k:Int):=by omega
       rw [if_neg h6] at HN
       go_wp2_with fail
       go_roundw
       case rel=>exact ⟨k+1,_,by omega,by go_num,unhide H3,HN⟩
       case measure=>simp [intOf];omega
   ·have hie:i=al.length:=by omega
    subst hie
    have HY3:Hid (meets (0,0) (faults al rs)=meets y (fRules al 0 (rs.drop 0))):=by
     show _=_
     rw [unhide HY,List.drop_eq_nil_of_le (Nat.le_refl _)];rfl
    clear HY hrs hlt hi
    go_wp2_with fail
    clear mc hzr hzr0
    go_loopw [11] (fun v wq=> ∃(j:Nat) (z:Nat × Nat),j≤rs.length∧v= .int .i64 j∧RS w wq w1.heap.size z (some ⟨g,0,none⟩) al.length k1 o2 rs.length k2 al rs∧Hid (meets (0,0) (faults al rs)=meets z (fRules al j (rs.drop j)))) (fun v _=>rs.length - (intOf v).toNat)
    case atStart=>exact ⟨0,_,Nat.zero_le _,rfl,unhide H1,HY3⟩
    case round=>
     clear H1 HY3
     obtain ⟨j,z,hj,rfl,hrs3,HZ⟩:=hrel
     have H3:=hide hrs3
     have mc:=fun o=>cell_of_blk hrs3.mbx o
     have hz3:w1.heap.size+1<wr.heap.size:=lt_of_blk hrs3.fbx
     have hz30:w1.heap.size<wr.heap.size:=by omega
     by_cases hjl:j<rs.length
     ·obtain ⟨r,l,hr⟩: ∃r l,rs.drop j=r::l:=by
       cases hd:rs.drop j with
       |nil=>have:=congrArg List.length hd;simp at this;omega
       |cons r l=>exact ⟨r,l,rfl⟩
      obtain ⟨g2,hgo,hg2, -,a,b,s',c,o',n',k',d,p,hri,q0,q1,q2,q3,q4,q5,q6⟩:=hrs3.rul.at hr
      have ha:=hri.1
      subst hgo ha
      have HRI:=hide hri
      have HGR:=hide ((unhide HG) r (List.mem_of_mem_drop (i:=j) (by rw [hr];exact List.mem_cons_self)))
      have HFR:=hide (fRules_at (al:=al) hr)
      clear hri hr hrs3
      go_upto_if 88 with fail
      go_cut [] (fun wc=>RS w wc w1.heap.size (meets z (if 4≤j then [(r.pl,4)] else [])) (some ⟨g,0,none⟩) al.length k1 (some ⟨g2,0,none⟩) rs.length k2 al rs∧wc.heap[wr.heap.size]? =some (.cells #[.int .i64 r.pl,.int .u8 b,.string s',.int .i64 c,.slice o' n' k',.int .i64 d,.pointer p] 235 (0,0))∧RlIs wc r r.pl b s' c o' n' k' d p)
      case first=>
       have H4:=hide ((unhide H3).alloc (.cells #[.int .i64 r.pl,.int .u8 b,.string s',.int .i64 c,.slice o' n' k',.int .i64 d,.pointer p] 235))
       have HRI4:=hide ((KT.alloc wr (.cells #[.int .i64 r.pl,.int .u8 b,.string s',.int .i64 c,.slice o' n' k',.int .i64 d,.pointer p] 235)).rl (unhide HRI))
       by_cases hl:4≤j
       ·have hL:(4:Int)≤(j:Int):=by omega
        have HLL:=hide hl
        clear hl
        go_wp2_with fail
        refine (meets_any _ (w1.heap.size+1) z r.pl 4 (unhide H4).fbx).mono ?_
        rintro e w5 ⟨rfl,hf5,hg5⟩
        have H5:=hide ((unhide H4).call hf5 hg5)
        have HRI5:=hide ((KT.fb (unhide H4).fbx hg5).rl (unhide HRI4))
        have HB5:=hide ((hg5.block wr.heap.size (by simp) (by simp;omega)).trans (blk_alloc _ _))
        clear hf5 hg5
        go_wp2_with fail
        go_meet
        rw [if_pos (unhide HLL)];exact ⟨unhide H5,unhide HB5,unhide HRI5⟩
       ·have hL:¬ (4:Int)≤(j:Int):=by omega
        have HLL:=hide hl
        clear hl
        go_wp2_with fail
        go_meet
        rw [if_neg (unhide HLL)];exact ⟨unhide H4,blk_alloc _ _,unhide HRI4⟩
      case rest=>
      obtain ⟨hrs5,hbx5,hri5⟩:=hcut
      have hzb:wr.heap.size<wc.heap.size:=lt_of_blk hbx5
      have H5:=hide hrs5
      have HB5:=hide hbx5
      have HRI5:=hide hri5
      have bc:=fun o=>cell_of_blk hbx5 o
      have hz5:w1.heap.size<wc.heap.size:=by omega
      clear hrs5 hbx5 hri5 H3 HRI mc q0 q1 q2 q3 q4 q5 q6 hg2
      have mc:=fun o=>cell_of_blk (unhide H5).mbx o
      rcases unhide HGR with ⟨hcall,hwq,_,hfn,x,hxq,hxk,hargs⟩|⟨hcall,hfg,_,_⟩
      ·have hp:=(unhide HRI5).2
       rw [if_pos hcall] at hp
       obtain ⟨-,hs5,hc5,ho5,hd5,hp5⟩:=hp
       subst hs5 hc5 hd5 hp5
       clear ho5
       have HHC:=hide hcall
       have HFN:=hide hfn
       have HWS:=hide hwq.2
       have HKD:Hid (∀t∈r.args,(t.k=2∨t.k=3)∧t.s.size≤400∧(t.k=3→ ∃e:UInt8,t.s=⟨#[e]⟩)):=by
        intro t ht
        rcases hargs with ha|⟨y',hyq,hyk,ha⟩
        ·rw [ha,List.mem_singleton] at ht;subst ht
         exact ⟨Or.inl hxk,hxq.2,fun h=>by rw [hxk] at h;cases h⟩
        ·rw [ha] at ht
         rcases List.mem_cons.1 ht with rfl|ht
         ·exact ⟨Or.inl hxk,hxq.2,fun h=>by rw [hxk] at h;cases h⟩
         ·rw [List.mem_singleton] at ht;subst ht
          exact ⟨hyk,hyq.2,fun h=>by obtain ⟨e,he,_⟩:=dig_ok hyq.1 h;exact ⟨e,he⟩⟩
       have hal2:r.args.length≤2∧0<r.args.length:=by
        rcases hargs with ha|⟨y',hyq,hyk,ha⟩<;>rw [ha]<;>simp
       clear hcall hfn hwq hxq hxk hargs x
       go_wp2_with fail
       refine (names_any al hal .nil _ _ _ _ _ _ _ (w1.heap.size+1) _ none (unhide H5).act (unhide H5).fbx rfl (fun _ _ h=>False.elim h)).mono ?_
       rintro e w6 ⟨rfl,hf6,hg6⟩
       have H6:=hide ((unhide H5).call hf6 hg6)
       have HB6:=hide ((hg6.block wr.heap.size hzb (by simp;omega)).trans (unhide HB5))
       have HRI6:=hide ((KT.fb (unhide H5).fbx hg6).rl (unhide HRI5))
       have hz6:wr.heap.size<w6.heap.size:=lt_of_blk (unhide HB6)
       have hz60:w1.heap.size<w6.heap.size:=by omega
       clear hf6 hg6 mc bc
       have mc:=fun o=>cell_of_blk (unhide H6).mbx o
       have bc:=fun o=>cell_of_blk (unhide HB6) o
       go_wp2_with fail
       refine (arguments_any _ al hal _ _ _ _ _ _ (w1.heap.size+1) _ r _ _ _ _ _ _ _ _ _ (unhide H6).act (unhide H6).fbx (unhide HRI6) (unhide HHC) hal2.1 hal2.2 (unhide HKD) (unhide HWS)).mono ?_
       rintro e w7 ⟨rfl,hf7,hg7⟩
       have H7:=hide ((unhide H6).call hf7 hg7)
       clear hf7 hg7
       go_wp2_with fail
       go_roundw
       case rel=>exact ⟨j+1,_,by omega,by go_num,unhide H7,by show _=_;rw [unhide HZ,unhide HFR,fRule,unhide HFN,if_pos (unhide HHC)];simp only [meets_append];try rfl⟩
       case measure=>simp [intOf];omega
      ·have hp:=(unhide HRI5).2
       rw [if_neg (by simp [hcall])] at hp
       obtain ⟨hif,hsome⟩:=hp
       obtain ⟨pp,rfl⟩:=Option.isSome_iff_exists.1 hsome
       have HIF:=hide hif
       have HHC:=hide hcall
       have HSZ:Hid (∀s p,Leaf r.f s p→s.size≤400):=fun s p hl=>hfg.leaf_size (fun t ht=>ht.2) hl
       clear hif hsome hcall hfg
       go_wp2_with fail
       refine (names_any al hal r.f _ _ _ _ _ _ _ (w1.heap.size+1) _ _ (unhide H5).act (unhide H5).fbx (unhide HIF) (unhide HSZ)).mono ?_
       rintro e w6 ⟨rfl,hf6,hg6⟩
       have H6:=hide ((unhide H5).call hf6 hg6)
       have HB6:=hide ((hg6.block wr.heap.size hzb (by simp;omega)).trans (unhide HB5))
       have hz6:wr.heap.size<w6.heap.size:=lt_of_blk (unhide HB6)
       clear hf6 hg6 mc bc
       have bc:=fun o=>cell_of_blk (unhide HB6) o
       go_wp2_with fail
       go_roundw
       case rel=>exact ⟨j+1,_,by omega,by go_num,unhide H6,by show _=_;rw [unhide HZ,unhide HFR,fRule,if_neg (show ¬ r.call=true by simp [unhide HHC])];simp only [meets_append,List.append_nil]⟩
       case measure=>simp [intOf];omega
     ·have hje:j=rs.length:=by omega
      subst hje
      have HZE:Hid (meets (0,0) (faults al rs)=z):=by
       show _=_
       rw [unhide HZ,List.drop_eq_nil_of_le (Nat.le_refl _)];rfl
      have fc:=fun o=>cell_of_blk hrs3.fbx o
      have rc:=fun o=>cell_of_blk hrs3.rbx o
      have rf:=fun o=>frozen_of_blk hrs3.rbx o
      clear HZ hjl hj hrs3
      rw [unhide HZE] at HL
      by_cases hx:z.2=0
      ·have hx':((z.2:Nat):Int)=0:=by omega
       rw [if_neg (by simp [hx])] at HL
       have HFN:Hid (faults al rs=[]):=meets_zero (faults_errs al rs) (by rw [unhide HZE];exact hx)
       have HOK:Hid (∀r∈rs,r.call=true→CallOk r):=fun r hr hc=>call_ok (fun t h=>h.1) ((unhide HG) r hr) hc ((fRules_nil (List.append_eq_nil_iff.1 (unhide HFN)).2 r hr).2 hc)
       have HSZ:Hid (∀r∈rs,sizeF (ruleF r)≤449):=fun r hr=>by have:=ruleF_size ((unhide HG) r hr) ((unhide HOK) r hr);omega
       clear HFN hx HZE
       go_wp2_with fail
       refine (Formulas_any _ _ _ _ _ _ _ rs (unhide H3).rul hrl (unhide HOK)).mono ?_
       rintro e w5 ⟨v5,ps,rfl,hown5,hfs5,hb5⟩
       have H5:=hide ((unhide H3).later hb5)
       obtain ⟨o5,c5,rfl⟩:=owns_val hown5
       have HO5:=hide hown5
       have HF5:=hide hfs5
       clear hown5 hfs5 hb5 mc fc rc rf hz3 hz30 H3 hx'
       go_wp2_with fail
       go_loopw [13,15] (fun va vb wq=> ∃(j:Nat),j≤rs.length∧va= .int .i64 (nodesL (rs.take j))∧vb= .int .i64 j∧Below w5.heap.size w5 wq) (fun _ v _=>rs.length - (intOf v).toNat)
       case atStart=>exact ⟨0,Nat.zero_le _,rfl,rfl,Below.refl _ _⟩
       case round=>
        obtain ⟨j,hj,rfl,rfl,hbel⟩:=hrel
        have HBEL:=hide hbel
        by_cases hjl:j<rs.length
        ·obtain ⟨r,l,hr⟩: ∃r l,rs.drop j=r::l:=by
          cases hd:rs.drop j with
          |nil=>have:=congrArg List.length hd;simp at this;omega
          |cons r l=>exact ⟨r,l,rfl⟩
         obtain ⟨g5,hgo,hg5,hcl⟩:=owns1_at (owns_later (unhide HO5) hbel) hjl
         obtain ⟨p,hp,hif⟩:=((unhide HF5).later hbel).at hr
         subst hgo
         rw [List.getElem?_map,hp] at hcl
         have hcl':wr.cell? ⟨g5,j,none⟩=some (.pointer p):=hcl
         have hszr:=(unhide HSZ) r (List.mem_of_mem_drop (i:=j) (by rw [hr];exact List.mem_cons_self))
         have hsum:nodesL (rs.take j)≤401 * 449:=by
          have h1:=nodesL_le 449 (rs.take j) (fun x hx=>(unhide HSZ) x (List.mem_of_mem_take hx))
          have h2:(rs.take j).length≤401:=by simp;omega
          exact Nat.le_trans h1 (Nat.mul_le_mul_right _ h2)
         have HSN:Hid (nodesL (rs.take (j+1))=nodesL (rs.take j)+sizeF (ruleF r)):=by
          show _=_
          rw [take_snoc hr,nodesL_append];rfl
         have HIF:=hide hif
         clear hif hr hp hcl hbel
         generalize nodesL (rs.take j)=N at *
         go_wp2_with fail
         refine (size_any (ruleF r) _ _ (unhide HIF) (by omega)).mono ?_
         rintro e w6 ⟨rfl,n6,rfl⟩
         generalize sizeF (ruleF r)=M at *
         go_wp2_with fail
         go_roundw
         case rel=>exact ⟨j+1,by omega,by rw [unhide HSN];go_num,by go_num,(unhide HBEL).trans ((bdn wr n6).mono (unhide HBEL).size)⟩
         case measure=>simp [intOf];omega
        ·have hje:j=rs.length:=by omega
         subst hje
         clear hjl hj
         have hsum:nodesL rs≤401 * 449:=by
          have h1:=nodesL_le 449 rs (unhide HSZ)
          exact Nat.le_trans h1 (Nat.mul_le_mul_right _ hrl)
         rw [List.take_length]
         have H6:=hide ((unhide H5).later hbel)
         clear hbel HBEL
         have mc:=fun o=>cell_of_blk (unhide H6).mbx o
         have rc:=fun o=>cell_of_blk (unhide H6).rbx o
         have rf:=fun o=>frozen_of_blk (unhide H6).rbx o
         have hz6:w1.heap.size+1<wr.heap.size:=lt_of_blk (unhide H6).fbx
         have hz60:w1.heap.size<wr.heap.size:=by omega
         by_cases h16:16<nodesL rs
         ·rw [if_pos h16] at HL
          have h16':(16:Int)<(nodesL rs:Int):=by omega
          go_wp2_with fail
          have hfin:((wr.setCell ⟨w.heap.size,0,none⟩ (.slice none 0 0)).setCell ⟨w.heap.size,1,none⟩ (.slice none 0 0)).heap[w.heap.size]? =some (.cells #[.slice none 0 0,.slice none 0 0] 228 (0,0)):=blk_set (blk_set (unhide H6).rbx 0 _) 1 _
          clear rc rf mc
          have rc:=fun o=>cell_of_blk hfin o
          refine bodyPost_ret (v:= .tuple #[.agg #[.slice none 0 0,.slice none 0 0],.int .i64 s.size,.int .i64 4]) (by simp [results,Tryz.results137,go_sem,rc]) rfl ?_
          refine ⟨((unhide H6).bel.setCell (Nat.le_refl _) _).setCell (Nat.le_refl _) _, ?_⟩
          rw [unhide HL];rfl
         ·rw [if_neg h16] at HL
          have h16':¬ (16:Int)<(nodesL rs:Int):=by omega
          go_wp2_with fail
          have hfin:((wr.setCell ⟨w.heap.size,0,none⟩ (.slice (some ⟨g,0,none⟩) al.length k1)).setCell ⟨w.heap.size,1,none⟩ (.slice o2 rs.length k2)).heap[w.heap.size]? =some (.cells #[.slice (some ⟨g,0,none⟩) al.length k1,.slice o2 rs.length k2] 228 (0,0)):=blk_set (blk_set (unhide H6).rbx 0 _) 1 _
          clear rc rf mc
          have rc:=fun o=>cell_of_blk hfin o
          refine bodyPost_ret (v:= .tuple #[.agg #[.slice (some ⟨g,0,none⟩) al.length k1,.slice o2 rs.length k2],.int .i64 0,.int .i64 0]) (by simp [results,Tryz.results137,go_sem,rc]) rfl ?_
          refine ⟨((unhide H6).bel.setCell (Nat.le_refl _) _).setCell (Nat.le_refl _) _, ?_⟩
          have hg9:=(grown_set wr w.heap.size 0 (.slice (some ⟨g,0,none⟩) al.length k1)).trans (grown_set _ w.heap.size 1 (.slice o2 rs.length k2))
          have hk9:=KT.grown hg9 ⟨_,_,(unhide H6).rbx⟩ (by decide) (by decide)
          rw [unhide HL]
          exact ⟨_,_,_,_,_,_,rfl,hk9.acts (unhide H6).act,(unhide H6).rul.keepTy hk9 (unhide H6).rbx (by decide) hg9⟩
      ·have hx':¬ ((z.2:Nat):Int)=0:=by omega
       rw [if_pos hx] at HL
       go_wp2_with fail
       go_region
       go_wp2_with fail
       have hfin:((wr.setCell ⟨w.heap.size,0,none⟩ (.slice none 0 0)).setCell ⟨w.heap.size,1,none⟩ (.slice none 0 0)).heap[w.heap.size]? =some (.cells #[.slice none 0 0,.slice none 0 0] 228 (0,0)):=blk_set (blk_set (unhide H3).rbx 0 _) 1 _
       have hfin':((wr.setCell ⟨w.heap.size,0,none⟩ (.slice none 0 0)).setCell ⟨w.heap.size,1,none⟩ (.slice none 0 0)).drew.heap[w.heap.size]? =some (.cells #[.slice none 0 0,.slice none 0 0] 228 (0,0)):=hfin
       clear rc rf mc fc
       have rc:=fun o=>cell_of_blk hfin' o
       refine bodyPost_ret (v:= .tuple #[.agg #[.slice none 0 0,.slice none 0 0],.int .i64 z.1,.int .i64 z.2]) (by simp [results,Tryz.results137,go_sem,rc]) rfl ?_
       refine ⟨(((unhide H3).bel.setCell (Nat.le_refl _) _).setCell (Nat.le_refl _) _).drew, ?_⟩
       rw [unhide HL]
end Go.Proofs.YtidakhhekofkoaaGreatDoor
namespace Go.Proofs.YtidakhhekofkoaaGreatDoor
open Go.Deep
structure Nd where
 k:Nat
 a:Int
 b:Int
 t:Int
def lastI (s:ByteArray):Nat→List Tk→Int→Int
 |_,[],x=>x
 |i,t::r,x=>lastI s (i+1) r (if t.s.toList=s.toList then (i:Int) else x)
def addN (al:List Tk):Fm→List Nd→List Nd × Int
 | .nil,L=>(L, -1)
 | .node _ _ a l r,L=>
  ((addN al r (addN al l L).1).1++[⟨a.1,(addN al l L).2,(addN al r (addN al l L).1).2,if a.1=0 then lastI a.2.1 0 al (-1) else -1⟩],((addN al r (addN al l L).1).1.length:Int))
theorem addN_pre (al:List Tk): ∀(f:Fm) (L:List Nd),(∃M,(addN al f L).1=L++M)∧(addN al f L).2<((addN al f L).1.length:Int)
 | .nil,L=>⟨⟨[],by simp [addN]⟩,by show (-1:Int)<_;omega⟩
 | .node _ _ a l r,L=>by
  obtain ⟨⟨M1,h1⟩,_⟩:=addN_pre al l L
  obtain ⟨⟨M2,h2⟩,_⟩:=addN_pre al r (addN al l L).1
  refine ⟨⟨M1++(M2++[⟨a.1,(addN al l L).2,(addN al r (addN al l L).1).2,if a.1=0 then lastI a.2.1 0 al (-1) else -1⟩]), ?_⟩, ?_⟩
  ·rw [addN];show (addN al r (addN al l L).1).1++_=_;rw [←List.append_assoc,←List.append_assoc,←h1,←h2]
  ·rw [addN];show ((addN al r (addN al l L).1).1.length:Int)<_;simp;omega
end Go.Proofs.YtidakhhekofkoaaGreatDoor
namespace Go.Proofs.YtidakhhekofkoaaGreatDoor
def bitAt (V:List Bool) (k:Int):Bool:=if k<0 then true else (V[k.toNat]?).getD true
theorem bitAt_pre {V S:List Bool} {k:Int} (h:k<V.length):bitAt (V++S) k=bitAt V k:=by
 unfold bitAt
 by_cases h0:k<0
 ·rw [if_pos h0,if_pos h0]
 ·rw [if_neg h0,if_neg h0,List.getElem?_append_left (by omega)]
def ptStep (P:List Bool) (inside more:Bool) (act:Int) (V:List Bool) (d:Nd):List Bool:=
 V++[stepP d.k inside more (decide (d.t=act)) (bitAt V d.a) (bitAt V d.b) (bitAt P d.a) (bitAt P V.length)]
def ptOf (P:List Bool) (inside more:Bool) (act:Int) (L:List Nd):List Bool:=L.foldl (ptStep P inside more act) []
theorem ptOf_snoc (P:List Bool) (inside more:Bool) (act:Int) (L:List Nd) (d:Nd):ptOf P inside more act (L++[d])=ptStep P inside more act (ptOf P inside more act L) d:=by
 unfold ptOf;rw [List.foldl_append];rfl
theorem snocInd {α:Type} {M:List α→Prop} (h0:M []) (h1: ∀l a,M l→M (l++[a])) (l:List α):M l:=by
 have: ∀n (l:List α),l.length=n→M l:=by
  intro n
  induction n with
  |zero=>intro l hl;rw [List.length_eq_zero_iff.1 hl];exact h0
  |succ n ih=>
   intro l hl
   have hne:l≠[]:=fun e=>by rw [e] at hl;simp at hl
   rw [←List.dropLast_concat_getLast hne]
   exact h1 _ _ (ih _ (by rw [List.length_dropLast];omega))
 exact this _ l rfl
def p0R (L:List Nd):Bool × List Bool:=(true,ptOf [] false false (-1) L)
def ahR (L:List Nd) (p:Bool × List Bool) (a:Nat):Bool × List Bool:=(false,ptOf p.2 true (!p.1) a L)
end Go.Proofs.YtidakhhekofkoaaGreatDoor
namespace Go.Proofs.YtidakhhekofkoaaGreatDoor
open Go.Deep
def Dist (al:List Tk):Prop:= ∀(i j:Nat) (t u:Tk),al[i]? =some t→al[j]? =some u→t.s.toList=u.s.toList→i=j
theorem dups_nil {a:Tk}: ∀{l:List Tk},dups l a=[]→ ∀t∈l,t.s.toList≠a.s.toList
 |[],_,t,ht=>(List.not_mem_nil ht).elim
 |x::r,h,t,ht=>by
  rw [dups] at h
  obtain ⟨h1,h2⟩:=List.append_eq_nil_iff.1 h
  rcases List.mem_cons.1 ht with rfl|ht
  ·intro e;rw [if_pos e] at h1;cases h1
  ·exact dups_nil h2 t ht
theorem fActs_nil {al:List Tk}: ∀{i:Nat} {l:List Tk},fActs al i l=[]→ ∀(j:Nat) (a:Tk),l[j]? =some a→dups (al.take (i+j)) a=[]∧a.s.size≤8∧i+j<6
 |i,[],_,j,a,h=>by simp at h
 |i,x::r,h,j,a,hj=>by
  rw [fActs,fAct] at h
  obtain ⟨h1,h2⟩:=List.append_eq_nil_iff.1 h
  obtain ⟨h3,h4⟩:=List.append_eq_nil_iff.1 h1
  obtain ⟨h5,h6⟩:=List.append_eq_nil_iff.1 h4
  cases j with
  |zero=>
   rw [List.getElem?_cons_zero] at hj
   cases hj
   refine ⟨h5, ?_, ?_⟩
   ·unfold fLong at h3
    rcases Nat.lt_or_ge 8 x.s.size with hh|hh
    ·rw [if_pos hh] at h3;cases h3
    ·exact hh
   ·rcases Nat.lt_or_ge i 6 with hh|hh
    ·exact hh
    ·rw [if_pos hh] at h6;cases h6
  |succ j=>
   rw [List.getElem?_cons_succ] at hj
   have:=fActs_nil h2 j a hj
   rw [show i+(j+1)=i+1+j by omega]
   exact this
theorem dist_of {al:List Tk} (h:fActs al 0 al=[]):Dist al:=by
 have key: ∀(i j:Nat) (t u:Tk),i<j→al[i]? =some t→al[j]? =some u→t.s.toList≠u.s.toList:=by
  intro i j t u hij hi hj
  obtain ⟨h1,_⟩:=fActs_nil h j u hj
  rw [Nat.zero_add] at h1
  refine dups_nil h1 t ?_
  have:(al.take j)[i]? =some t:=by rw [List.getElem?_take,if_pos hij];exact hi
  exact List.mem_of_getElem? this
 intro i j t u hi hj he
 rcases Nat.lt_trichotomy i j with hlt|heq|hgt
 ·exact absurd he (key i j t u hlt hi hj)
 ·exact heq
 ·exact absurd he.symm (key j i u t hgt hj hi)
theorem addN_len' (al:List Tk): ∀(f:Fm) (L:List Nd),(addN al f L).1.length=L.length+sizeF f
 | .nil,L=>rfl
 | .node _ _ a l r,L=>by
  rw [addN]
  show ((addN al r (addN al l L).1).1++[_]).length=L.length+(1+sizeF l+sizeF r)
  rw [List.length_append,addN_len' al r,addN_len' al l];simp;omega
def nodM (al:List Tk):List Rl→List Nd × List Int→List Nd × List Int
 |[],p=>p
 |r::rs,p=>nodM al rs ((addN al (ruleF r) p.1).1,p.2++[(addN al (ruleF r) p.1).2])
theorem nodM_snoc (al:List Tk) (r:Rl): ∀(rs:List Rl) (p:List Nd × List Int),nodM al (rs++[r]) p=((addN al (ruleF r) (nodM al rs p).1).1,(nodM al rs p).2++[(addN al (ruleF r) (nodM al rs p).1).2])
 |[],p=>rfl
 |x::rs,p=>by rw [List.cons_append,nodM,nodM_snoc al r rs];rfl
theorem nodM_len (al:List Tk): ∀(rs:List Rl) (p:List Nd × List Int),(nodM al rs p).1.length=p.1.length+nodesL rs∧(nodM al rs p).2.length=p.2.length+rs.length
 |[],p=>⟨rfl,rfl⟩
 |r::rs,p=>by
  obtain ⟨h1,h2⟩:=nodM_len al rs ((addN al (ruleF r) p.1).1,p.2++[(addN al (ruleF r) p.1).2])
  rw [nodM]
  refine ⟨?_, ?_⟩
  ·rw [h1,addN_len',nodesL];omega
  ·rw [h2,List.length_append];simp;omega
theorem nodM_tops (al:List Tk): ∀(rs:List Rl) (p:List Nd × List Int),(∀t∈p.2,t<(p.1.length:Int))→ ∀t∈(nodM al rs p).2,t<((nodM al rs p).1.length:Int)
 |[],p,h=>h
 |r::rs,p,h=>by
  rw [nodM]
  refine nodM_tops al rs _ (fun t ht=> ?_)
  obtain ⟨⟨M,e⟩,g⟩:=addN_pre al (ruleF r) p.1
  rcases List.mem_append.1 ht with ht|ht
  ·have:=h t ht
   show t<((addN al (ruleF r) p.1).1.length:Int)
   rw [e,List.length_append];omega
  ·rcases List.mem_singleton.1 ht with rfl
   exact g
theorem sizeF_pos' {f:Fm} (h:f≠ .nil):0<sizeF f:=by
 cases f with
 |nil=>exact absurd rfl h
 |node u v a l r=>show 0<1+sizeF l+sizeF r;omega
end Go.Proofs.YtidakhhekofkoaaGreatDoor
namespace Go.Proofs.YtidakhhekofkoaaGreatDoor
open Go.RowKit Go.Deep
def fiT (i:Fin 5):Nat:=if i=0 then 5 else 3
structure NS (w:World) (nb B:Nat) (v:Fin 5→Value) (x:Fin 5→List Value):Prop where
 blk:w.heap[nb]? =some (.cells #[v 0,v 1,v 2,v 3,v 4] 294 (0,0))
 own: ∀i,w.ownsRow B (fiT i) 1 (v i) (x i).length (x i)
 dis: ∀i j,i≠j→ ∀k,(v i).ownBlock=some k→(v j).ownBlock≠some k
 low:B≤w.heap.size
def upd {α:Type} (f:Fin 5→α) (i:Fin 5) (a:α):Fin 5→α:=fun j=>if j=i then a else f j
theorem upd_same {α:Type} (f:Fin 5→α) (i:Fin 5) (a:α):upd f i a i=a:=if_pos rfl
theorem upd_ne {α:Type} (f:Fin 5→α) {i j:Fin 5} (a:α) (h:j≠i):upd f i a j=f j:=if_neg h
theorem NS.later {w w':World} {nb B:Nat} {v:Fin 5→Value} {x:Fin 5→List Value} (h:NS w nb B v x) (hb:Below w.heap.size w w'):NS w' nb B v x:=
 ⟨(hb.block _ (lt_of_blk h.blk)).trans h.blk,fun i=>owns_later (h.own i) hb,h.dis,Nat.le_trans h.low hb.size⟩
structure NF (nb B:Nat) (w w':World):Prop where
 kt:KT w w'
 os:w'.os=w.os
 tape:w'.tape=w.tape
 output:w'.output=w.output
 size:w.heap.size≤w'.heap.size
 low: ∀b,b<B→b≠nb→w'.heap[b]? =w.heap[b]?
theorem NF.trans {nb B:Nat} {a b c:World} (h:NF nb B a b) (k:NF nb B b c):NF nb B a c:=
 ⟨h.kt.trans k.kt,k.os.trans h.os,k.tape.trans h.tape,k.output.trans h.output,Nat.le_trans h.size k.size,fun x h1 h2=>(k.low x h1 h2).trans (h.low x h1 h2)⟩
theorem NF.refl (nb B:Nat) (w:World):NF nb B w w:=⟨KT.refl w,rfl,rfl,rfl,Nat.le_refl _,fun _ _ _=>rfl⟩
theorem NF.below {nb B:Nat} {w w':World} (h:Below w.heap.size w w') (hB:B≤w.heap.size):NF nb B w w':=
 ⟨KT.below h,h.os,h.tape,h.output,h.size,fun b h1 _=>h.block b (by omega)⟩
theorem NS.app {w w2:World} {nb B:Nat} {v:Fin 5→Value} {x:Fin 5→List Value} (h:NS w nb B v x) (i:Fin 5) (u:Value) {g cap:Nat} (ho:w2.ownsRow B (fiT i) 1 (.slice (some ⟨g,0,none⟩) ((x i).length+1) cap) ((x i).length+1) (x i++[u])) (hg:w.grownBy w2 (v i).ownBlock) (hat:(v i).ownBlock=some g∨g=w.heap.size):
  NS (w2.setCell ⟨nb,i.val,none⟩ (.slice (some ⟨g,0,none⟩) ((x i).length+1) cap)) nb B (upd v i (.slice (some ⟨g,0,none⟩) ((x i).length+1) cap)) (upd x i (x i++[u]))∧NF nb B w (w2.setCell ⟨nb,i.val,none⟩ (.slice (some ⟨g,0,none⟩) ((x i).length+1) cap)):=by
 have hty: ∀i:Fin 5,294≠fiT i:=by intro i;unfold fiT;split<;>decide
 have hb2:w2.heap[nb]? =some (.cells #[v 0,v 1,v 2,v 3,v 4] 294 (0,0)):=(hg.block nb (lt_of_blk h.blk) (fun e=>own_ty (h.own i) e.symm h.blk (hty i))).trans h.blk
 have hgb:(Value.slice (some ⟨g,0,none⟩) ((x i).length+1) cap).ownBlock=some g:=rfl
 refine ⟨⟨?_,fun j=> ?_,fun a b hab k h1 h2=> ?_, ?_⟩, ?_⟩
 ·have:=blk_set hb2 i.val (.slice (some ⟨g,0,none⟩) ((x i).length+1) cap)
  rw [this]
  match i with
  |0=>rfl
  |1=>rfl
  |2=>rfl
  |3=>rfl
  |4=>rfl
 ·by_cases hj:j=i
  ·subst hj
   rw [upd_same,upd_same,List.length_append]
   exact owns_keep ho (grown_set _ _ _ _) (Or.inr (fun e=>own_ty ho e hb2 (hty j)))
  ·rw [upd_ne _ _ hj,upd_ne _ _ hj]
   have h1:(v j).ownBlock=none∨(v j).ownBlock≠(v i).ownBlock:=by
    cases hk:(v j).ownBlock with
    |none=>exact Or.inl rfl
    |some k=>exact Or.inr (fun e=>h.dis j i hj k hk e.symm)
   have h2:=owns_keep (h.own j) hg h1
   exact owns_keep h2 (grown_set _ _ _ _) (Or.inr (fun e=>own_ty h2 e hb2 (hty j)))
 ·by_cases ha:a=i
  ·subst ha
   rw [upd_same] at h1
   rw [upd_ne _ _ (fun e=>hab e.symm)] at h2
   rw [hgb] at h1;cases h1
   rcases hat with e|e
   ·exact h.dis a b hab g e h2
   ·have:=(own_lt (h.own b) _ h2).2;omega
  ·rw [upd_ne _ _ ha] at h1
   by_cases hb:b=i
   ·subst hb
    rw [upd_same,hgb] at h2;cases h2
    rcases hat with e|e
    ·exact h.dis a b hab g h1 e
    ·have:=(own_lt (h.own a) _ h1).2;omega
   ·rw [upd_ne _ _ hb] at h2
    exact h.dis a b hab k h1 h2
 ·have h1:=h.low;have h2:=hg.size;simp [World.setCell];omega
 ·have k1:KT w w2:=by
   cases hk:(v i).ownBlock with
   |none=>rw [hk] at hg;exact KT.grownNone hg
   |some k=>
    rw [hk] at hg
    have hkb:TyAt w k (fiT i):=by
     obtain ⟨_,h2|⟨g',cap',cur',hv',_,hh',_⟩⟩:=h.own i
     ·rw [h2.1] at hk;cases hk
     ·have e:some g'=some k:=by rw [hv'] at hk;exact hk
      cases e;exact ⟨_,_,hh'⟩
    exact KT.grown hg hkb (by unfold fiT;split<;>decide) (by unfold fiT;split<;>decide)
  refine ⟨k1.trans (KT.set _ _ ⟨_,_,hb2⟩ (by decide) (by decide)),hg.os,hg.tape,hg.output,by have:=hg.size;simpa [World.setCell] using this,fun b h1 h2=> ?_⟩
  refine (Below.heap_setCell _ _ _ _ (by show b≠nb;exact h2)).trans (hg.block b (by have:=h.low;omega) (fun e=> ?_))
  have:=(own_lt (h.own i) b e.symm).1;omega
theorem readM_err {s:ByteArray} {x:Nat × Nat} (h:readM s= .error x):x.2≠0:=by
 unfold readM at h
 split at h
 ·cases h;exact (by decide:(1:Nat)≠0)
 ·cases hm:modelRead (lexR s (s.size+1) 0) with
  |error q=>rw [hm] at h;cases h;exact (by decide:(2:Nat)≠0)
  |ok m=>
   obtain ⟨al,rs⟩:=m
   rw [hm,rdOf] at h
   split at h
   ·rename_i h0;cases h;exact h0
   ·split at h
    ·cases h;exact (by decide:(4:Nat)≠0)
    ·cases h
structure MGood (al:List Tk) (rs:List Rl):Prop where
 acts: ∀t∈al,TkS t∧t.k=2
 ne:al≠[]
 alen:al.length≤401
 rules: ∀r∈rs,RlGood TkS 401 r
 rlen:rs.length≤401
 nof:faults al rs=[]
 nodes:nodesL rs≤16
theorem readM_good {s:ByteArray} {al:List Tk} {rs:List Rl} (h:readM s= .ok (al,rs)):MGood al rs:=by
 unfold readM at h
 split at h
 ·cases h
 ·rename_i hs
  cases hm:modelRead (lexR s (s.size+1) 0) with
  |error q=>rw [hm] at h;cases h
  |ok m=>
   obtain ⟨al',rs'⟩:=m
   rw [hm,rdOf] at h
   split at h
   ·cases h
   ·rename_i h0
    split at h
    ·cases h
    ·rename_i h16
     cases h
     have hll:(lexR s (s.size+1) 0).length≤401:=by have:=lexR_len s (s.size+1) 0 (Nat.zero_le _);omega
     have hg:=modelRead_good TkS _ _ _ hm (fun t ht=>⟨lexR_ok s _ _ t ht,by have:=lexR_small s _ 0 (Nat.zero_le _) t ht;omega⟩)
     exact ⟨hg.1,hg.2.1,by have:=hg.2.2.1;omega,fun r hr=>(hg.2.2.2.1 r hr).mono hll,by have:=hg.2.2.2.2;omega,meets_zero (faults_errs _ _) (by simpa using h0),by omega⟩
theorem num_any (a:Int) (w:World):Calls Tryz.prog 93 #[.int .i64 a] w fun e w'=>e= .returned (.int .i64 a)∧w'=w:=by
 go_enter Tryz.func93,Tryz.ntmps93
 go_wp2_with fail
 go_ret
 exact ⟨rfl,rfl⟩
def opC (p q:Option Addr):Array Value:= #[.int .i64 1,.int .i64 0,.string ⟨#[97,99,116,115,32,97,44,98,59,114,117,108,101,32,114,101,115,112,111,110,115,101,40,97,44,98,41,59]⟩,.string ⟨#[]⟩,.slice none 0 0,.slice none 0 0,.slice none 0 0,.int .i64 1,.int .i64 0,.string ⟨#[97,99,116,115,32,97]⟩,.string ⟨#[]⟩,.slice none 0 0,.slice none 0 0,.slice none 0 0,.int .i64 2,.int .i64 0,.string ⟨#[97,99,116,115,32,97,44,98,59,114,117,108,101,32,114,101,115,112,111,110,115,101,40,97,44,98,41,59]⟩,.string ⟨#[]⟩,.slice p 2 2,.slice none 0 0,.slice none 0 0,.int .i64 2,.int .i64 0,.string ⟨#[97,99,116,115,32,97,44,98,59,114,117,108,101,32,114,101,115,112,111,110,115,101,40,97,44,98,41,59]⟩,.string ⟨#[]⟩,.slice q 1 1,.slice none 0 0,.slice none 0 0,.int .i64 3,.int .i64 0,.string ⟨#[97,99,116,115,32,97,44,98,59,114,117,108,101,32,114,101,115,112,111,110,115,101,40,97,44,98,41,59]⟩,.string ⟨#[]⟩,.slice none 0 0,.slice none 0 0,.slice none 0 0,.int .i64 3,.int .i64 0,.string ⟨#[97,99,116,115]⟩,.string ⟨#[]⟩,.slice none 0 0,.slice none 0 0,.slice none 0 0,.int .i64 4,.int .i64 0,.string ⟨#[]⟩,.string ⟨#[]⟩,.slice none 0 0,.slice none 0 0,.slice none 0 0,.int .i64 5,.int .i64 0,.string ⟨#[97,99,116,115,32,97,44,98,59,114,117,108,101,32,114,101,115,112,111,110,115,101,40,97,44,98,41,59]⟩,.string ⟨#[]⟩,.slice none 0 0,.slice none 0 0,.slice none 0 0,.int .i64 6,.int .i64 0,.string ⟨#[83]⟩,.string ⟨#[]⟩,.slice none 0 0,.slice none 0 0,.slice none 0 0,.int .i64 7,.int .i64 0,.string ⟨#[97,99,116,115,32,97,44,98,59,114,117,108,101,32,114,101,115,112,111,110,115,101,40,97,44,98,41,59]⟩,.string ⟨#[]⟩,.slice none 0 0,.slice none 0 0,.slice none 0 0,.int .i64 8,.int .i64 0,.string ⟨#[]⟩,.string ⟨#[]⟩,.slice none 0 0,.slice none 0 0,.slice none 0 0,.int .i64 9,.int .i64 0,.string ⟨#[97,99,116,115,32,97,44,98,59,114,117,108,101,32,114,101,115,112,111,110,115,101,40,97,44,98,41,59]⟩,.string ⟨#[]⟩,.slice none 0 0,.slice none 0 0,.slice none 0 0,.int .i64 10,.int .i64 0,.string ⟨#[120]⟩,.string ⟨#[]⟩,.slice none 0 0,.slice none 0 0,.slice none 0 0,.int .i64 11,.int .i64 0,.string ⟨#[120]⟩,.string ⟨#[97]⟩,.slice none 0 0,.slice none 0 0,.slice none 0 0,.int .i64 12,.int .i64 0,.string ⟨#[120]⟩,.string ⟨#[]⟩,.slice none 0 0,.slice none 0 0,.slice none 0 0,.int .i64 13,.int .i64 0,.string ⟨#[120]⟩,.string ⟨#[]⟩,.slice none 0 0,.slice none 0 0,.slice none 0 0,.int .i64 14,.int .i64 0,.string ⟨#[120]⟩,.string ⟨#[]⟩,.slice none 0 0,.slice none 0 0,.slice none 0 0,.int .i64 15,.int .i64 0,.string ⟨#[]⟩,.string ⟨#[]⟩,.slice none 0 0,.slice none 0 0,.slice none 0 0]
set_option maxHeartbeats 2000000 in
set_option maxRecDepth 100000 in
theorem opening_any (w:World):Calls Tryz.prog 35 #[] w fun e w'=>e= .returned (.slice (some ⟨w.heap.size+2,0,none⟩) 18 18)∧w'=((w.alloc (.cells #[.string ⟨#[97]⟩,.string ⟨#[98]⟩] 9)).alloc (.cells #[.string ⟨#[99]⟩] 9)).alloc (.cells (opC (some ⟨w.heap.size,0,none⟩) (some ⟨w.heap.size+1,0,none⟩)) 74):=by
 go_enter Tryz.func35,Tryz.ntmps35
 go_wp2_with fail
 go_ret
 exact ⟨rfl,rfl⟩
end Go.Proofs.YtidakhhekofkoaaGreatDoor
