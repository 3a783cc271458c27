/- The reference's add: a formula's parts. -/
import Derived.Test.YtidakhhekofkoaaGreatDoorK17
import Derived.Deep.AppendLies
import Derived.Deep.RegionLaw
import Derived.BigQuiet
import Derived.Deep.RegionHeld
set_option linter.unusedSimpArgs false
namespace Go.Proofs.YtidakhhekofkoaaGreatDoor
open Go.RowKit Go.Deep
theorem Fg.ne {Q : Tk → Prop} {f : Fm} (h : Fg Q f) : f ≠ .nil := by
  intro e; subst e; exact h
end Go.Proofs.YtidakhhekofkoaaGreatDoor
namespace Go.Proofs.YtidakhhekofkoaaGreatDoor
open Go.Deep
def atT (tr : List ByteArray) (s : ByteArray) (i : Nat) : Bool := match i with
  | 0 => false
  | j + 1 => match tr[j]? with
    | some x => x.toList == s.toList
    | none => false
def holdsM (s : ByteArray) (tr : List ByteArray) : Bool × Nat :=
  match readM s with
  | .error x => (false, x.2)
  | .ok (al, rs) => if tr.all (fun x => hasN al x) = true then (rs.all (fun r => semF tr.length (atT tr) (ruleF r) 1), 0) else (false, 3)
theorem Fg.weak {Q R : Tk → Prop} (h : ∀ t, Q t → R t) : ∀ {f : Fm}, Fg Q f → Fg R f
  | .nil, hf => False.elim hf
  | .node _ _ a l r, hf => by
    rcases hf with ⟨h1, ⟨t, h2, h3⟩, h4⟩ | hf | ⟨h1, h2, h3⟩ | ⟨h1, h2, h3⟩
    · exact Or.inl ⟨h1, ⟨t, h t h2, h3⟩, h4⟩
    · exact Or.inr (Or.inl hf)
    · exact Or.inr (Or.inr (Or.inl ⟨h1, Fg.weak h h2, h3⟩))
    · exact Or.inr (Or.inr (Or.inr ⟨h1, Fg.weak h h2, Fg.weak h h3⟩))
def TkA (_ : Tk) : Prop := True
theorem Fg.act (s : ByteArray) : Fg TkA (acF s) := Or.inl ⟨rfl, ⟨⟨2, s, 0⟩, trivial, rfl, rfl, rfl⟩, rfl, rfl⟩
theorem timesF_fg (a : ByteArray) : ∀ n, Fg TkA (timesF a n)
  | 0 => Fg.one (by decide) (Fg.act a)
  | 1 => Fg.one (by decide) (Fg.act a)
  | n + 2 => Fg.one (by decide) (Fg.two (by decide) (Fg.act a) (Fg.one (by decide) (timesF_fg a (n + 1))))
theorem tplF_fg (k : Nat) (a b : ByteArray) (n : Nat) : Fg TkA (tplF k a b n) := by
  have ha := Fg.act a
  have hb := Fg.act b
  have ht : Fg TkA (leaf 1 ByteArray.empty 0) := Fg.word (by decide)
  unfold tplF
  repeat' split
  · exact ha
  · exact Fg.one (by decide) (Fg.two (by decide) ha (Fg.one (by decide) (Fg.one (by decide) ht)))
  · exact timesF_fg a n
  · exact Fg.one (by decide) (timesF_fg a n)
  · exact Fg.one (by decide) (Fg.two (by decide) ha (Fg.one (by decide) hb))
  · exact Fg.two (by decide) (Fg.two (by decide) (Fg.one (by decide) hb) ha) (Fg.one (by decide) (Fg.one (by decide) hb))
  · exact Fg.one (by decide) (Fg.two (by decide) ha (Fg.one (by decide) hb))
  · exact Fg.two (by decide) (Fg.one (by decide) hb) (Fg.one (by decide) (Fg.two (by decide) (Fg.one (by decide) hb) ha))
  · exact Fg.two (by decide) (Fg.one (by decide) ha) (Fg.one (by decide) hb)
  · exact Fg.one (by decide) (Fg.two (by decide) (Fg.one (by decide) ha) (Fg.one (by decide) hb))
  · exact Fg.one (by decide) (Fg.two (by decide) ha (Fg.one (by decide) (Fg.one (by decide) (Fg.one (by decide) hb))))
  · exact Fg.one (by decide) (Fg.two (by decide) ha (Fg.one (by decide) (Fg.one (by decide) hb)))
theorem MGood.fg {al : List Tk} {rs : List Rl} (h : MGood al rs) : ∀ r ∈ rs, Fg TkA (ruleF r) := by
  intro r hr
  unfold ruleF
  split
  · exact tplF_fg _ _ _ _
  · rename_i hc
    rcases h.rules r hr with ⟨h1, _⟩ | ⟨_, h2, _⟩
    · exact absurd h1 hc
    · exact h2.weak (fun _ _ => trivial)
end Go.Proofs.YtidakhhekofkoaaGreatDoor
namespace Go.Proofs.YtidakhhekofkoaaGreatDoor.Rt
open Go.Deep
theorem ba_ext {a b : ByteArray} (h : a.data.toList = b.data.toList) : a = b := by
  obtain ⟨a⟩ := a
  obtain ⟨b⟩ := b
  congr
  exact Array.toList_inj.1 h
theorem extract_list (s : ByteArray) (i j : Nat) : (s.extract i j).data.toList = (s.data.toList.drop i).take (j - i) := by
  rw [ByteArray.data_extract, Array.toList_extract, List.extract_eq_take_drop]
theorem span_all (p : UInt8 → Bool) : ∀ (l : List UInt8), ∀ c ∈ l.take (span p l), p c = true
  | [], c, h => by simp at h
  | d :: r, c, h => by
    unfold span at h
    split at h
    · rename_i hd
      rw [List.take_succ_cons] at h
      rcases List.mem_cons.1 h with rfl | h
      · exact hd
      · exact span_all p r c h
    · simp at h
theorem span_app (p : UInt8 → Bool) : ∀ (x y : List UInt8), (∀ c ∈ x, p c = true) → (∀ c, y.head? = some c → p c = false) → span p (x ++ y) = x.length
  | [], y, _, hy => by
    cases y with
    | nil => rfl
    | cons c r => show span p (c :: r) = 0; unfold span; rw [if_neg (by rw [hy c rfl]; decide)]
  | c :: x, y, hx, hy => by
    rw [List.cons_append, span, if_pos (hx c (List.mem_cons_self ..)), span_app p x y (fun d hd => hx d (List.mem_cons_of_mem _ hd)) hy]; rfl
def TkN (t : Tk) : Prop := (t.k = 2 → t.s.data.toList ≠ [] ∧ (∀ c ∈ t.s.data.toList, isLet c = true) ∧ isWord t.s.data.toList = false) ∧ (t.k = 3 → ∃ c : UInt8, t.s.data.toList = [c] ∧ 48 ≤ c.toNat ∧ c.toNat ≤ 57)
theorem isWord_of {l : List UInt8} (h : wordK l = 2) : isWord l = false := by
  cases hw : isWord l with
  | false => rfl
  | true => have := wordK_word l hw; omega
theorem signK_ge (c : Nat) : signK c ≠ 2 ∧ signK c ≠ 3 := by
  unfold signK
  repeat' split
  all_goals exact ⟨by decide, by decide⟩
theorem lexAt_nm (s : ByteArray) (j : Nat) : TkN (lexAt s j) := by
  unfold lexAt
  split
  · rename_i h
    split
    · rename_i hl
      refine ⟨fun hk => ⟨?_, ?_, isWord_of hk⟩, fun hk => ?_⟩
      · show (s.extract j (upTo isLet s j)).data.toList ≠ []
        rw [extract_list]
        have e : upTo isLet s j - j = span isLet (s.data.toList.drop j) := by unfold upTo; omega
        rw [e, drop_at s j h, span, if_pos hl, List.take_succ_cons]
        exact List.cons_ne_nil _ _
      · show ∀ c ∈ (s.extract j (upTo isLet s j)).data.toList, isLet c = true
        rw [extract_list]
        have e : upTo isLet s j - j = span isLet (s.data.toList.drop j) := by unfold upTo; omega
        rw [e]
        exact span_all _ _
      · have hk' : wordK (s.extract j (upTo isLet s j)).data.toList = 3 := hk
        unfold wordK at hk'
        repeat' split at hk'
        all_goals omega
    · split
      · rename_i hd
        exact ⟨fun hk => (by cases hk), fun _ => ⟨s[j], extract_one s j h, hd.1, hd.2⟩⟩
      · split
        · split
          · exact ⟨fun hk => (by cases hk), fun hk => (by cases hk)⟩
          · exact ⟨fun hk => absurd hk (signK_ge _).1, fun hk => absurd hk (signK_ge _).2⟩
        · exact ⟨fun hk => absurd hk (signK_ge _).1, fun hk => absurd hk (signK_ge _).2⟩
  · exact ⟨fun hk => (by cases hk), fun hk => (by cases hk)⟩
theorem lexR_nm (s : ByteArray) : ∀ n i, ∀ t ∈ lexR s n i, TkN t
  | 0, _, t, h => by simp [lexR] at h
  | n + 1, i, t, h => by
    by_cases hk : (lexAt s (upTo isBl s i)).k ≤ 1
    · rw [lexR_stop s n i hk] at h; simp at h; subst h; exact lexAt_nm _ _
    · rw [lexR_go s n i hk] at h
      rcases List.mem_cons.1 h with rfl | h
      · exact lexAt_nm _ _
      · exact lexR_nm s n _ t h
theorem readM_nm {s : ByteArray} {al : List Tk} {rs : List Rl} (h : readM s = .ok (al, rs)) : (∀ t ∈ al, TkN t ∧ t.k = 2) ∧ ∀ r ∈ rs, ∃ m, RlGood TkN m r := by
  unfold readM at h
  split at h
  · cases h
  · cases hm : modelRead (lexR s (s.size + 1) 0) with
    | error q => rw [hm] at h; cases h
    | ok m =>
      obtain ⟨al', rs'⟩ := m
      rw [hm, rdOf] at h
      split at h
      · cases h
      · split at h
        · cases h
        · cases h
          have hg := modelRead_good TkN _ _ _ hm (fun t ht => lexR_nm s _ _ t ht)
          exact ⟨hg.1, fun r hr => ⟨_, hg.2.2.2.1 r hr⟩⟩
def ks (t : Tk) : Nat × List UInt8 := (t.k, t.s.data.toList)
def LX (s : ByteArray) (i : Nat) (T : List (Nat × List UInt8)) (j : Nat) : Prop := i + T.length ≤ j ∧ ∀ n, (lexR s (n + T.length) i).map ks = T ++ (lexR s n j).map ks
theorem LX.nil (s : ByteArray) (i : Nat) : LX s i [] i := ⟨Nat.le_refl _, fun _ => rfl⟩
theorem LX.trans {s : ByteArray} {i j k : Nat} {T U : List (Nat × List UInt8)} (h : LX s i T j) (g : LX s j U k) : LX s i (T ++ U) k := ⟨by have := h.1; have := g.1; rw [List.length_append]; omega, fun n => by
  rw [List.length_append, show n + (T.length + U.length) = (n + U.length) + T.length by omega, h.2, g.2, List.append_assoc]⟩
theorem LX.blank {s : ByteArray} {i : Nat} (h : i < s.size) (hb : isBl s[i] = true) : LX s i [] (i + 1) := ⟨by simp, fun n => by
  show (lexR s n i).map ks = (lexR s n (i + 1)).map ks
  cases n with
  | zero => rfl
  | succ n => rw [lexR, lexR, upTo_yes isBl s i h hb]⟩
theorem LX.tok {s : ByteArray} {i : Nat} (h : i < s.size) (hb : isBl s[i] = false) {k : Nat} {l : List UInt8} (hk : (lexAt s i).k = k) (h2 : 2 ≤ k) (hl : (lexAt s i).s.data.toList = l) (hp : (lexAt s i).p = i) (h1 : 1 ≤ l.length := by simp) : LX s i [(k, l)] (i + l.length) := ⟨by simp; omega, fun n => by
  have e := upTo_no isBl s i h hb
  rw [show n + [(k, l)].length = n + 1 from rfl, lexR_go s n i (by rw [e, hk]; omega), e, hp, List.map_cons]
  have e2 : ks (lexAt s i) = (k, l) := by unfold ks; rw [hk, hl]
  have e3 : (lexAt s i).s.size = l.length := by rw [← hl]; rfl
  rw [e2, e3]; rfl⟩
def At (s : ByteArray) (i : Nat) (l : List UInt8) : Prop := ∃ r, s.data.toList.drop i = l ++ r
theorem At.tail {s : ByteArray} {i : Nat} {l m : List UInt8} (h : At s i (l ++ m)) : At s (i + l.length) m := by
  obtain ⟨r, h⟩ := h
  exact ⟨r, by rw [← List.drop_drop, h, List.append_assoc, List.drop_left]⟩
theorem At.byte {s : ByteArray} {i : Nat} {c : UInt8} {l : List UInt8} (h : At s i (c :: l)) : ∃ hi : i < s.size, s[i] = c := by
  obtain ⟨r, h⟩ := h
  have hi : i < s.size := by
    have := congrArg List.length h
    rw [List.length_drop, size_data] at this
    simp at this; omega
  refine ⟨hi, ?_⟩
  rw [drop_at s i hi] at h
  simp at h; exact h.1
theorem LX.bl {s : ByteArray} {i : Nat} {c : UInt8} {l : List UInt8} (h : At s i (c :: l)) (hc : isBl c = true) : LX s i [] (i + 1) := by
  obtain ⟨hi, e⟩ := h.byte
  exact LX.blank hi (by rw [e]; exact hc)
theorem LX.sign {s : ByteArray} {i : Nat} {c : UInt8} {l : List UInt8} (h : At s i (c :: l)) (hk : 9 ≤ signK c.toNat) (hl : isLet c = false) (hd : ¬ (48 ≤ c.toNat ∧ c.toNat ≤ 57)) (hb : isBl c = false) (ha : c.toNat ≠ 45) : LX s i [(signK c.toNat, [c])] (i + 1) := by
  obtain ⟨hi, e⟩ := h.byte
  have hx := lex_sign s i hi (by rw [e]; exact hl) (by rw [e]; exact hd) (fun h => ha (by rw [← e]; exact h.1))
  rw [e] at hx
  exact LX.tok hi (by rw [e]; exact hb) (by rw [hx]) (by omega) (by rw [hx]; show (s.extract i (i + 1)).data.toList = [c]; rw [extract_one s i hi, e]) (by rw [hx])
theorem LX.arrow {s : ByteArray} {i : Nat} {l : List UInt8} (h : At s i (45 :: 62 :: l)) : LX s i [(14, [45, 62])] (i + 2) := by
  obtain ⟨hi, e⟩ := h.byte
  obtain ⟨hi2, e2⟩ := (At.tail (l := [45]) h).byte
  have hx := lex_arrow s i hi (by rw [e]; rfl) hi2 (by show s[i + 1].toNat = 62; rw [show s[i + 1] = 62 from e2]; rfl)
  exact LX.tok hi (by rw [e]; decide) (by rw [hx]) (by omega) (by rw [hx]) (by rw [hx])
theorem LX.digit {s : ByteArray} {i : Nat} {c : UInt8} {l : List UInt8} (h : At s i (c :: l)) (h1 : 48 ≤ c.toNat) (h2 : c.toNat ≤ 57) : LX s i [(3, [c])] (i + 1) := by
  obtain ⟨hi, e⟩ := h.byte
  have hx := lex_digit s i hi (by rw [e]; exact h1) (by rw [e]; exact h2)
  have hb : isBl c = false := by unfold isBl; simp; omega
  exact LX.tok hi (by rw [e]; exact hb) (by rw [hx]) (by omega) (by rw [hx]; show (s.extract i (i + 1)).data.toList = [c]; rw [extract_one s i hi, e]) (by rw [hx])
theorem LX.word {s : ByteArray} {i : Nat} {x : List UInt8} {d : UInt8} {l : List UInt8} (h : At s i (x ++ d :: l)) (hx : x ≠ []) (hl : ∀ c ∈ x, isLet c = true) (hd : isLet d = false) : LX s i [(wordK x, x)] (i + x.length) := by
  obtain ⟨c, y, rfl⟩ : ∃ c y, x = c :: y := by
    cases x with
    | nil => exact absurd rfl hx
    | cons c y => exact ⟨c, y, rfl⟩
  obtain ⟨hi, e⟩ := At.byte (c := c) (l := y ++ d :: l) h
  have hc := hl c (List.mem_cons_self ..)
  have hn := lex_name s i hi (by rw [e]; exact hc)
  have hex : (s.extract i (upTo isLet s i)).data.toList = c :: y := by
    obtain ⟨r, hr⟩ := h
    have e1 : upTo isLet s i - i = (c :: y).length := by
      unfold upTo
      rw [hr, List.append_assoc, span_app isLet (c :: y) (d :: l ++ r) hl (fun c' h' => by simp at h'; rw [← h']; exact hd)]
      omega
    rw [extract_list, e1, hr, List.append_assoc, List.take_left]
  have hb : isBl c = false := by
    unfold isLet at hc
    unfold isBl
    simp at hc ⊢
    omega
  have hw : 2 ≤ wordK (c :: y) := by
    cases hw : isWord (c :: y) with
    | true => have := wordK_word _ hw; omega
    | false => rw [wordK_none _ hw]; omega
  exact LX.tok hi (by rw [e]; exact hb) (by rw [hn]; show wordK (s.extract i (upTo isLet s i)).data.toList = _; rw [hex]) hw (by rw [hn]; exact hex) (by rw [hn])
end Go.Proofs.YtidakhhekofkoaaGreatDoor.Rt
namespace Go.Proofs.YtidakhhekofkoaaGreatDoor.Rt
open Go.Deep
def opT (k : Nat) : Nat × List UInt8 :=
  if k = 4 then (17, [33]) else if k = 5 then (9, [88]) else if k = 6 then (10, [78]) else if k = 7 then (11, [70]) else if k = 8 then (12, [71]) else if k = 9 then (13, [85]) else if k = 10 then (16, [38]) else if k = 11 then (15, [124]) else (14, [45, 62])
def ftoks : Fm → List (Nat × List UInt8)
  | .nil => []
  | .node _ _ a l r =>
    if a.1 = 0 then [(2, a.2.1.data.toList)] else if a.1 = 1 then [(6, [116, 114, 117, 101])] else if a.1 = 2 then [(7, [102, 97, 108, 115, 101])] else if a.1 = 3 then [(8, [101, 110, 100])]
    else if a.1 ≤ 8 then opT a.1 :: ftoks l
    else (18, [40]) :: (ftoks l ++ opT a.1 :: (ftoks r ++ [(19, [41])]))
theorem app_list (a b : ByteArray) : (a ++ b).data.toList = a.data.toList ++ b.data.toList := by
  rw [ByteArray.data_append, Array.toList_append]
theorem symB_list (k : Nat) : (symB k).data.toList = (opT k).2 := by
  unfold symB opT
  repeat' split
  all_goals rfl
theorem txt_one {u v : Nat} {a : Nat × ByteArray × Nat} {l r : Fm} (h : 4 ≤ a.1) (h' : a.1 ≤ 8) : (txtF (.node u v a l r)).data.toList = (opT a.1).2 ++ 32 :: (txtF l).data.toList := by
  rw [txtF, if_neg (by omega), if_neg (by omega), if_neg (by omega), if_neg (by omega), if_pos h', app_list, app_list, symB_list]
  simp
theorem txt_two {u v : Nat} {a : Nat × ByteArray × Nat} {l r : Fm} (h : 9 ≤ a.1) : (txtF (.node u v a l r)).data.toList = 40 :: ((txtF l).data.toList ++ 32 :: ((opT a.1).2 ++ 32 :: ((txtF r).data.toList ++ [41]))) := by
  rw [txtF, if_neg (by omega), if_neg (by omega), if_neg (by omega), if_neg (by omega), if_neg (by omega)]
  simp only [app_list, symB_list]
  simp
theorem LX.one {s : ByteArray} {i k : Nat} {l : List UInt8} (h4 : 4 ≤ k) (h8 : k ≤ 12) (h : At s i ((opT k).2 ++ 32 :: l)) : LX s i [opT k] (i + (opT k).2.length) := by
  have h' : k = 4 ∨ k = 5 ∨ k = 6 ∨ k = 7 ∨ k = 8 ∨ k = 9 ∨ k = 10 ∨ k = 11 ∨ k = 12 := by omega
  rcases h' with rfl | rfl | rfl | rfl | rfl | rfl | rfl | rfl | rfl
  · exact LX.sign (c := 33) h (by decide) (by decide) (by decide) (by decide) (by decide)
  · exact LX.sign (c := 88) h (by decide) (by decide) (by decide) (by decide) (by decide)
  · exact LX.sign (c := 78) h (by decide) (by decide) (by decide) (by decide) (by decide)
  · exact LX.sign (c := 70) h (by decide) (by decide) (by decide) (by decide) (by decide)
  · exact LX.sign (c := 71) h (by decide) (by decide) (by decide) (by decide) (by decide)
  · exact LX.sign (c := 85) h (by decide) (by decide) (by decide) (by decide) (by decide)
  · exact LX.sign (c := 38) h (by decide) (by decide) (by decide) (by decide) (by decide)
  · exact LX.sign (c := 124) h (by decide) (by decide) (by decide) (by decide) (by decide)
  · exact LX.arrow (l := 32 :: l) h
theorem isLet_bl : isLet 32 = false := by decide
theorem LX.form : ∀ (f : Fm), Fg TkN f → ∀ (s : ByteArray) (i : Nat) (d : UInt8) (l : List UInt8), At s i ((txtF f).data.toList ++ d :: l) → isLet d = false → LX s i (ftoks f) (i + (txtF f).data.toList.length)
  | .nil, h, _, _, _, _, _, _ => False.elim h
  | .node u v a l r, h, s, i, d, t, hat, hd => by
    rcases h with ⟨hk, ⟨tk, htn, h2, hs, _⟩, rfl, rfl⟩ | ⟨hk, rfl, rfl⟩ | ⟨hk, hl, rfl⟩ | ⟨hk, hl, hr⟩
    · have e1 : (txtF (.node u v a .nil .nil)) = a.2.1 := by rw [txtF, if_pos hk]
      have e2 : ftoks (.node u v a .nil .nil) = [(2, a.2.1.data.toList)] := by rw [ftoks, if_pos hk]
      obtain ⟨n1, n2, n3⟩ := htn.1 h2
      rw [hs] at n1 n2 n3
      rw [e1] at hat ⊢
      rw [e2, ← wordK_none _ n3]
      exact LX.word hat n1 n2 hd
    · have h' : a.1 = 1 ∨ a.1 = 2 ∨ a.1 = 3 := by omega
      rcases h' with h' | h' | h'
      · have e1 : (txtF (.node u v a .nil .nil)) = ⟨#[116, 114, 117, 101]⟩ := by rw [txtF, if_neg (by omega), if_pos h']
        have e2 : ftoks (.node u v a .nil .nil) = [(6, [116, 114, 117, 101])] := by rw [ftoks, if_neg (by omega), if_pos h']
        rw [e1] at hat ⊢
        rw [e2]
        exact LX.word (x := [116, 114, 117, 101]) hat (by decide) (by decide) hd
      · have e1 : (txtF (.node u v a .nil .nil)) = ⟨#[102, 97, 108, 115, 101]⟩ := by rw [txtF, if_neg (by omega), if_neg (by omega), if_pos h']
        have e2 : ftoks (.node u v a .nil .nil) = [(7, [102, 97, 108, 115, 101])] := by rw [ftoks, if_neg (by omega), if_neg (by omega), if_pos h']
        rw [e1] at hat ⊢
        rw [e2]
        exact LX.word (x := [102, 97, 108, 115, 101]) hat (by decide) (by decide) hd
      · have e1 : (txtF (.node u v a .nil .nil)) = ⟨#[101, 110, 100]⟩ := by rw [txtF, if_neg (by omega), if_neg (by omega), if_neg (by omega), if_pos h']
        have e2 : ftoks (.node u v a .nil .nil) = [(8, [101, 110, 100])] := by rw [ftoks, if_neg (by omega), if_neg (by omega), if_neg (by omega), if_pos h']
        rw [e1] at hat ⊢
        rw [e2]
        exact LX.word (x := [101, 110, 100]) hat (by decide) (by decide) hd
    · have e1 := txt_one (u := u) (v := v) (a := a) (l := l) (r := .nil) (by omega) (by omega)
      have e2 : ftoks (.node u v a l .nil) = opT a.1 :: ftoks l := by rw [ftoks, if_neg (by omega), if_neg (by omega), if_neg (by omega), if_neg (by omega), if_pos (by omega)]
      rw [e1] at hat ⊢
      rw [e2]
      have h0 : At s i ((opT a.1).2 ++ 32 :: ((txtF l).data.toList ++ d :: t)) := by simpa using hat
      have h1 := At.tail h0
      have h2 := At.tail (l := [32]) (m := (txtF l).data.toList ++ d :: t) h1
      have x := ((LX.one (by omega) (by omega) h0).trans (LX.bl h1 (by decide))).trans (LX.form l hl s _ d t h2 hd)
      simpa [Nat.add_assoc, Nat.add_comm, Nat.add_left_comm] using x
    · have e1 := txt_two (u := u) (v := v) (a := a) (l := l) (r := r) (by omega)
      have e2 : ftoks (.node u v a l r) = (18, [40]) :: (ftoks l ++ opT a.1 :: (ftoks r ++ [(19, [41])])) := by rw [ftoks, if_neg (by omega), if_neg (by omega), if_neg (by omega), if_neg (by omega), if_neg (by omega)]
      rw [e1] at hat ⊢
      rw [e2]
      have h0 : At s i ([40] ++ ((txtF l).data.toList ++ 32 :: ((opT a.1).2 ++ 32 :: ((txtF r).data.toList ++ 41 :: (d :: t))))) := by simpa using hat
      have h1 := At.tail h0
      have h2 := At.tail h1
      have h3 := At.tail (l := [32]) h2
      have h4 := At.tail h3
      have h5 := At.tail (l := [32]) h4
      have h6 := At.tail h5
      have x1 := LX.sign (c := 40) h0 (by decide) (by decide) (by decide) (by decide) (by decide)
      have x2 := LX.form l hl s _ 32 _ h1 isLet_bl
      have x3 := LX.bl h2 (by decide)
      have x4 := LX.one (by omega) (by omega) h3
      have x5 := LX.bl h4 (by decide)
      have x6 := LX.form r hr s _ 41 _ h5 (by decide)
      have x7 := LX.sign (c := 41) h6 (by decide) (by decide) (by decide) (by decide) (by decide)
      have x := (((((x1.trans x2).trans x3).trans x4).trans x5).trans x6).trans x7
      have e3 : signK (40 : UInt8).toNat = 18 := by decide
      have e4 : signK (41 : UInt8).toNat = 19 := by decide
      rw [e3, e4] at x
      simpa [Nat.add_assoc, Nat.add_comm, Nat.add_left_comm] using x
def FE : Fm → Fm → Prop
  | .nil, .nil => True
  | .node _ _ a l r, .node _ _ b l' r' => a.1 = b.1 ∧ (a.1 = 0 → a.2.1 = b.2.1) ∧ FE l l' ∧ FE r r'
  | .nil, .node _ _ _ _ _ => False
  | .node _ _ _ _ _, .nil => False
theorem map_cons {L : List Tk} {k : Nat} {x : List UInt8} {T : List (Nat × List UInt8)} (h : L.map ks = (k, x) :: T) : ∃ t L', L = t :: L' ∧ t.k = k ∧ t.s.data.toList = x ∧ L'.map ks = T := by
  cases L with
  | nil => simp at h
  | cons t L' =>
    simp [ks] at h
    exact ⟨t, L', rfl, h.1.1, h.1.2, h.2⟩
def P4 (L : List Tk) (f : Fm) (L1 : List Tk) (b : Nat) : Prop := ∀ p, b ≤ p → pf p 4 .nil L = .ok (f, L1)
theorem lev6 {f : Fm} {L : List Tk} (h : headK L ≠ 16) (p : Nat) : pf (p + 1) 6 f L = .ok (f, L) := by rw [pf, if_neg h]
theorem lev5 {f : Fm} {L : List Tk} (h : headK L ≠ 15) (p : Nat) : pf (p + 1) 5 f L = .ok (f, L) := by rw [pf, if_neg h]
theorem P4.l3 {L : List Tk} {f : Fm} {L1 : List Tk} {b : Nat} (h : P4 L f L1 b) (h1 : headK L1 ≠ 13) (p : Nat) (hp : b + 1 ≤ p) : pf p 3 .nil L = .ok (f, L1) := by
  obtain ⟨q, rfl⟩ : ∃ q, p = q + 1 := ⟨p - 1, by omega⟩
  rw [pf, h q (by omega)]
  show (if headK L1 = 13 then _ else _) = _
  rw [if_neg h1]
theorem P4.l2 {L : List Tk} {f : Fm} {L1 : List Tk} {b : Nat} (h : P4 L f L1 b) (h1 : headK L1 ≠ 13) (h2 : headK L1 ≠ 16) (p : Nat) (hp : b + 2 ≤ p) : pf p 2 .nil L = .ok (f, L1) := by
  obtain ⟨q, rfl⟩ : ∃ q, p = q + 2 := ⟨p - 2, by omega⟩
  rw [pf, h.l3 h1 (q + 1) (by omega)]
  exact lev6 h2 q
theorem P4.l1 {L : List Tk} {f : Fm} {L1 : List Tk} {b : Nat} (h : P4 L f L1 b) (h1 : headK L1 ≠ 13) (h2 : headK L1 ≠ 16) (h3 : headK L1 ≠ 15) (p : Nat) (hp : b + 3 ≤ p) : pf p 1 .nil L = .ok (f, L1) := by
  obtain ⟨q, rfl⟩ : ∃ q, p = q + 2 := ⟨p - 2, by omega⟩
  rw [pf, h.l2 h1 h2 (q + 1) (by omega)]
  exact lev5 h3 q
theorem P4.l0 {L : List Tk} {f : Fm} {L1 : List Tk} {b : Nat} (h : P4 L f L1 b) (h1 : headK L1 ≠ 13) (h2 : headK L1 ≠ 16) (h3 : headK L1 ≠ 15) (h4 : headK L1 ≠ 14) (p : Nat) (hp : b + 4 ≤ p) : pf p 0 .nil L = .ok (f, L1) := by
  obtain ⟨q, rfl⟩ : ∃ q, p = q + 1 := ⟨p - 1, by omega⟩
  rw [pf, h.l1 h1 h2 h3 q (by omega)]
  show (if headK L1 = 14 then _ else _) = _
  rw [if_neg h4]
theorem pf_two {L L2 L3 : List Tk} {f g : Fm} {b c k : Nat} (h : P4 L f L2 b) (g4 : P4 L2.tail g L3 c) (hk9 : 9 ≤ k) (hk : k ≤ 12) (ho : headK L2 = (opT k).1) (h3 : headK L3 = 19) (p : Nat) (hp : b + 6 ≤ p) (hq : c + 6 ≤ p) : pf p 0 .nil L = .ok (two k f g, L3) := by
  obtain ⟨q, rfl⟩ : ∃ q, p = q + 5 := ⟨p - 5, by omega⟩
  have n13 : headK L3 ≠ 13 := by omega
  have n14 : headK L3 ≠ 14 := by omega
  have n15 : headK L3 ≠ 15 := by omega
  have n16 : headK L3 ≠ 16 := by omega
  have h' : k = 9 ∨ k = 10 ∨ k = 11 ∨ k = 12 := by omega
  rcases h' with rfl | rfl | rfl | rfl
  · have ho : headK L2 = 13 := ho
    have e3 : pf (q + 2) 3 .nil L = .ok (two 9 f g, L3) := by
      rw [pf, h (q + 1) (by omega)]
      show (if headK L2 = 13 then _ else _) = _
      rw [if_pos ho, g4 (q + 1) (by omega)]
    have e2 : pf (q + 3) 2 .nil L = .ok (two 9 f g, L3) := by rw [pf, e3]; exact lev6 n16 _
    have e1 : pf (q + 4) 1 .nil L = .ok (two 9 f g, L3) := by rw [pf, e2]; exact lev5 n15 _
    rw [pf, e1]
    show (if headK L3 = 14 then _ else _) = _
    rw [if_neg n14]
  · have ho : headK L2 = 16 := ho
    have e6 : pf (q + 2) 6 f L2 = .ok (two 10 f g, L3) := by
      rw [pf, if_pos ho, g4.l3 n13 (q + 1) (by omega)]
      exact lev6 n16 _
    have e2 : pf (q + 3) 2 .nil L = .ok (two 10 f g, L3) := by rw [pf, h.l3 (by omega) (q + 2) (by omega)]; exact e6
    have e1 : pf (q + 4) 1 .nil L = .ok (two 10 f g, L3) := by rw [pf, e2]; exact lev5 n15 _
    rw [pf, e1]
    show (if headK L3 = 14 then _ else _) = _
    rw [if_neg n14]
  · have ho : headK L2 = 15 := ho
    have e5 : pf (q + 3) 5 f L2 = .ok (two 11 f g, L3) := by
      rw [pf, if_pos ho, g4.l2 n13 n16 (q + 2) (by omega)]
      exact lev5 n15 _
    have e1 : pf (q + 4) 1 .nil L = .ok (two 11 f g, L3) := by rw [pf, h.l2 (by omega) (by omega) (q + 3) (by omega)]; exact e5
    rw [pf, e1]
    show (if headK L3 = 14 then _ else _) = _
    rw [if_neg n14]
  · have ho : headK L2 = 14 := ho
    rw [pf, h.l1 (by omega) (by omega) (by omega) (q + 4) (by omega)]
    show (if headK L2 = 14 then _ else _) = _
    rw [if_pos ho, g4.l0 n13 n16 n15 n14 (q + 4) (by omega)]
theorem pf_form : ∀ (f : Fm), Fg TkN f → ∀ (L : List Tk) (R : List (Nat × List UInt8)), L.map ks = ftoks f ++ R → ∃ f' L', P4 L f' L' (6 * (ftoks f).length) ∧ FE f f' ∧ L'.map ks = R
  | .nil, h, _, _, _ => False.elim h
  | .node u v a l r, h, L, R, hL => by
    rcases h with ⟨hk, ⟨tk, htn, h2, hs, _⟩, rfl, rfl⟩ | ⟨hk, rfl, rfl⟩ | ⟨hk, hl, rfl⟩ | ⟨hk, hl, hr⟩
    · have e2 : ftoks (.node u v a .nil .nil) = [(2, a.2.1.data.toList)] := by rw [ftoks, if_pos hk]
      rw [e2] at hL ⊢
      obtain ⟨t, L', rfl, k1, k2, k3⟩ := map_cons hL
      refine ⟨leaf 0 t.s t.p, L', fun p hp => ?_, ⟨hk, fun _ => (ba_ext k2).symm, trivial, trivial⟩, k3⟩
      obtain ⟨q, rfl⟩ : ∃ q, p = q + 1 := ⟨p - 1, by simp at hp; omega⟩
      have hh : headK (t :: L') = 2 := k1
      rw [pf, if_neg (by rw [hh]; decide), if_neg (by rw [hh]; decide), if_neg (by rw [hh]; decide), if_pos hh]
      rfl
    · have h' : a.1 = 1 ∨ a.1 = 2 ∨ a.1 = 3 := by omega
      have key : ∀ k x, 6 ≤ k → k ≤ 8 → a.1 = k - 5 → ftoks (.node u v a .nil .nil) = [(k, x)] → ∃ f' L', P4 L f' L' (6 * (ftoks (.node u v a .nil .nil)).length) ∧ FE (.node u v a .nil .nil) f' ∧ L'.map ks = R := by
        intro k x k6 k8 ka e2
        rw [e2] at hL ⊢
        obtain ⟨t, L', rfl, k1, k2, k3⟩ := map_cons hL
        refine ⟨leaf (k - 5) ByteArray.empty 0, L', fun p hp => ?_, ⟨ka, fun e => by omega, trivial, trivial⟩, k3⟩
        obtain ⟨q, rfl⟩ : ∃ q, p = q + 1 := ⟨p - 1, by simp at hp; omega⟩
        have hh : headK (t :: L') = k := k1
        have hop : opOf k = 0 := by
          have h3 : k = 6 ∨ k = 7 ∨ k = 8 := by omega
          rcases h3 with h3 | h3 | h3 <;> rw [h3] <;> decide
        rw [pf, if_neg (by rw [hh, hop]; decide), if_neg (by omega), if_pos (by omega), hh]
        rfl
      rcases h' with h' | h' | h'
      · exact key 6 _ (by omega) (by omega) h' (by rw [ftoks, if_neg (by omega), if_pos h'])
      · exact key 7 _ (by omega) (by omega) h' (by rw [ftoks, if_neg (by omega), if_neg (by omega), if_pos h'])
      · exact key 8 _ (by omega) (by omega) h' (by rw [ftoks, if_neg (by omega), if_neg (by omega), if_neg (by omega), if_pos h'])
    · have e2 : ftoks (.node u v a l .nil) = opT a.1 :: ftoks l := by rw [ftoks, if_neg (by omega), if_neg (by omega), if_neg (by omega), if_neg (by omega), if_pos (by omega)]
      rw [e2] at hL ⊢
      obtain ⟨t, L1, rfl, k1, k2, k3⟩ := map_cons (k := (opT a.1).1) (x := (opT a.1).2) hL
      obtain ⟨f', L', hP, hF, hM⟩ := pf_form l hl L1 R k3
      have hop : opOf t.k = a.1 := by
        rw [k1]
        have h' : a.1 = 4 ∨ a.1 = 5 ∨ a.1 = 6 ∨ a.1 = 7 ∨ a.1 = 8 := by omega
        rcases h' with h' | h' | h' | h' | h' <;> rw [h'] <;> decide
      refine ⟨one a.1 f', L', fun p hp => ?_, ⟨rfl, fun e => by omega, hF, trivial⟩, hM⟩
      obtain ⟨q, rfl⟩ : ∃ q, p = q + 1 := ⟨p - 1, by simp at hp; omega⟩
      rw [pf, if_pos (by show opOf t.k ≠ 0; rw [hop]; omega), List.tail_cons, hP q (by simp at hp; omega)]
      show (Except.ok (one (opOf t.k) f', L') : Rd) = _
      rw [hop]
    · have e2 : ftoks (.node u v a l r) = (18, [40]) :: (ftoks l ++ opT a.1 :: (ftoks r ++ [(19, [41])])) := by rw [ftoks, if_neg (by omega), if_neg (by omega), if_neg (by omega), if_neg (by omega), if_neg (by omega)]
      rw [e2] at hL ⊢
      obtain ⟨t, L1, rfl, k1, k2, k3⟩ := map_cons hL
      obtain ⟨f', L2, hP, hF, hM⟩ := pf_form l hl L1 (opT a.1 :: (ftoks r ++ [(19, [41])]) ++ R) (by rw [k3]; simp)
      obtain ⟨t2, L3, rfl, j1, j2, j3⟩ := map_cons (k := (opT a.1).1) (x := (opT a.1).2) (T := (ftoks r ++ [(19, [41])]) ++ R) hM
      obtain ⟨g', L4, hQ, hG, hM2⟩ := pf_form r hr L3 ((19, [41]) :: R) (by rw [j3]; simp)
      obtain ⟨t5, L6, rfl, i1, i2, i3⟩ := map_cons hM2
      refine ⟨two a.1 f' g', L6, fun p hp => ?_, ⟨rfl, fun e => by omega, hF, hG⟩, i3⟩
      obtain ⟨q, rfl⟩ : ∃ q, p = q + 1 := ⟨p - 1, by simp at hp; omega⟩
      have hh : headK (t :: L1) = 18 := k1
      simp only [List.length_cons, List.length_append, List.length_nil] at hp
      rw [pf, if_neg (by rw [hh]; decide), if_pos hh, List.tail_cons, pf_two hP hQ (by omega) (by omega) j1 (by exact i1) q (by omega) (by omega)]
      show (if headK (t5 :: L6) = 19 then (Except.ok (two a.1 f' g', L6) : Rd) else _) = _
      rw [if_pos (by exact i1)]
def actsB : List Tk → List UInt8
  | [] => []
  | [t] => t.s.data.toList
  | t :: r => t.s.data.toList ++ 44 :: 32 :: actsB r
def actsT : List Tk → List (Nat × List UInt8)
  | [] => []
  | [t] => [(2, t.s.data.toList)]
  | t :: r => (2, t.s.data.toList) :: (20, [44]) :: actsT r
def bodyB (r : Rl) : List UInt8 :=
  if r.call = true then r.word.s.data.toList ++ 40 :: ((argS r.args 0).data.toList ++ (if 1 < r.args.length then 44 :: 32 :: (argS r.args 1).data.toList else []) ++ [41]) else (txtF r.f).data.toList
def ruleB (r : Rl) : List UInt8 := [114, 117, 108, 101, 32] ++ (bodyB r ++ [59, 10])
def rulesB : List Rl → List UInt8
  | [] => []
  | r :: l => ruleB r ++ rulesB l
def argK (l : List Tk) (i : Nat) : Nat := match l.drop i with | t :: _ => t.k | [] => 0
def bodyT (r : Rl) : List (Nat × List UInt8) :=
  if r.call = true then (2, r.word.s.data.toList) :: (18, [40]) :: (2, (argS r.args 0).data.toList) :: ((if 1 < r.args.length then [(20, [44]), (argK r.args 1, (argS r.args 1).data.toList)] else []) ++ [(19, [41])]) else ftoks r.f
def ruleT (r : Rl) : List (Nat × List UInt8) := (5, [114, 117, 108, 101]) :: (bodyT r ++ [(21, [59])])
def rulesT : List Rl → List (Nat × List UInt8)
  | [] => []
  | r :: l => ruleT r ++ rulesT l
theorem txtActs_pos : ∀ (l : List Tk) (out : ByteArray) (i : Nat), 0 < i → (txtActs out i l).data.toList = out.data.toList ++ (if l = [] then [] else 44 :: 32 :: actsB l)
  | [], out, i, _ => by simp [txtActs]
  | [t], out, i, h => by
    rw [txtActs, txtActs, if_pos h, app_list, app_list]
    simp [actsB]
  | t :: t2 :: r, out, i, h => by
    rw [txtActs, if_pos h, txtActs_pos (t2 :: r) _ (i + 1) (by omega), app_list, app_list]
    simp [actsB]
theorem txtActs_list (l : List Tk) (out : ByteArray) : (txtActs out 0 l).data.toList = out.data.toList ++ actsB l := by
  cases l with
  | nil => simp [txtActs, actsB]
  | cons t r =>
    rw [txtActs, if_neg (by omega), txtActs_pos r _ 1 (by omega), app_list]
    cases r with
    | nil => simp [actsB]
    | cons t2 r => simp [actsB]
theorem txtRule_list (out : ByteArray) (r : Rl) : (txtRule out r).data.toList = out.data.toList ++ ruleB r := by
  unfold txtRule ruleB bodyB
  split
  · split
    · simp only [app_list]; simp
    · simp only [app_list]; simp
  · simp only [app_list]; simp
theorem txtRules_list : ∀ (l : List Rl) (out : ByteArray), (txtRules out l).data.toList = out.data.toList ++ rulesB l
  | [], out => by simp [txtRules, rulesB]
  | r :: l, out => by rw [txtRules, txtRules_list l, txtRule_list, rulesB, List.append_assoc]
theorem txtM_list (al : List Tk) (rs : List Rl) : (txtM al rs).data.toList = [97, 99, 116, 115] ++ (32 :: (actsB al ++ 59 :: (10 :: rulesB rs))) := by
  unfold txtM
  rw [txtRules_list, app_list, txtActs_list]
  simp
theorem LX.cast {s : ByteArray} {i j j' : Nat} {T T' : List (Nat × List UInt8)} (h : LX s i T j) (hT : T = T') (hj : j = j') : LX s i T' j' := by subst hT hj; exact h
theorem TkN.name {t : Tk} (h : TkN t) (hk : t.k = 2) {s : ByteArray} {i : Nat} {d : UInt8} {l : List UInt8} (hat : At s i (t.s.data.toList ++ d :: l)) (hd : isLet d = false) : LX s i [(2, t.s.data.toList)] (i + t.s.data.toList.length) := by
  obtain ⟨n1, n2, n3⟩ := h.1 hk
  rw [show (2 : Nat) = wordK t.s.data.toList from (wordK_none _ n3).symm]
  exact LX.word hat n1 n2 hd
theorem LX.acts : ∀ (al : List Tk), al ≠ [] → (∀ t ∈ al, TkN t ∧ t.k = 2) → ∀ (s : ByteArray) (i : Nat) (l : List UInt8), At s i (actsB al ++ 59 :: l) → LX s i (actsT al) (i + (actsB al).length)
  | [], h, _, _, _, _, _ => absurd rfl h
  | [t], _, ht, s, i, l, hat => by
    obtain ⟨h1, h2⟩ := ht t (List.mem_cons_self ..)
    exact h1.name h2 hat (by decide)
  | t :: t2 :: r, _, ht, s, i, l, hat => by
    obtain ⟨h1, h2⟩ := ht t (List.mem_cons_self ..)
    have h0 : At s i (t.s.data.toList ++ 44 :: (32 :: (actsB (t2 :: r) ++ 59 :: l))) := by simpa [actsB] using hat
    have a1 := At.tail h0
    have a2 := At.tail (l := [44]) a1
    have a3 := At.tail (l := [32]) a2
    have x1 := h1.name h2 h0 (by decide)
    have x2 := LX.sign (c := 44) a1 (by decide) (by decide) (by decide) (by decide) (by decide)
    have x3 := LX.bl a2 (by decide)
    have x4 := LX.acts (t2 :: r) (by simp) (fun u hu => ht u (List.mem_cons_of_mem _ hu)) s _ l a3
    have x := ((x1.trans x2).trans x3).trans x4
    rw [show signK (44 : UInt8).toNat = 20 by decide] at x
    exact x.cast (by simp [actsT]) (by simp [actsB]; omega)
def RlN (r : Rl) : Prop := (r.call = true ∧ TkN r.word ∧ r.word.k = 2 ∧ r.f = .nil ∧ ∃ x, TkN x ∧ x.k = 2 ∧ (r.args = [x] ∨ ∃ y, TkN y ∧ (y.k = 2 ∨ y.k = 3) ∧ r.args = [x, y])) ∨ (r.call = false ∧ Fg TkN r.f ∧ r.args = [])
theorem LX.arg {y : Tk} (h : TkN y) (hk : y.k = 2 ∨ y.k = 3) {s : ByteArray} {i : Nat} {d : UInt8} {l : List UInt8} (hat : At s i (y.s.data.toList ++ d :: l)) (hd : isLet d = false) : LX s i [(y.k, y.s.data.toList)] (i + y.s.data.toList.length) := by
  rcases hk with hk | hk
  · rw [hk]; exact h.name hk hat hd
  · obtain ⟨c, h1, h2, h3⟩ := h.2 hk
    rw [hk, h1]
    rw [h1] at hat
    exact LX.digit hat h2 h3
theorem LX.body {r : Rl} (h : RlN r) {s : ByteArray} {i : Nat} {l : List UInt8} (hat : At s i (bodyB r ++ 59 :: l)) : LX s i (bodyT r) (i + (bodyB r).length) := by
  rcases h with ⟨hc, hw, hwk, _, x, hx, hxk, ha⟩ | ⟨hc, hf, _⟩
  · have e40 : signK (40 : UInt8).toNat = 18 := by decide
    have e41 : signK (41 : UInt8).toNat = 19 := by decide
    have e44 : signK (44 : UInt8).toNat = 20 := by decide
    rcases ha with ha | ⟨y, hy, hyk, ha⟩
    · have eB : bodyB r = r.word.s.data.toList ++ 40 :: (x.s.data.toList ++ [41]) := by unfold bodyB; rw [if_pos hc, ha]; simp [argS]
      have eT : bodyT r = (2, r.word.s.data.toList) :: (18, [40]) :: (2, x.s.data.toList) :: [(19, [41])] := by unfold bodyT; rw [if_pos hc, ha]; simp [argS]
      rw [eB] at hat ⊢
      rw [eT]
      have h0 : At s i (r.word.s.data.toList ++ 40 :: (x.s.data.toList ++ 41 :: (59 :: l))) := by simpa using hat
      have a1 := At.tail h0
      have a2 := At.tail (l := [40]) a1
      have a3 := At.tail a2
      have x1 := hw.name hwk h0 (by decide)
      have x2 := LX.sign (c := 40) a1 (by decide) (by decide) (by decide) (by decide) (by decide)
      have x3 := hx.name hxk a2 (by decide)
      have x4 := LX.sign (c := 41) a3 (by decide) (by decide) (by decide) (by decide) (by decide)
      have X := ((x1.trans x2).trans x3).trans x4
      rw [e40, e41] at X
      simpa [Nat.add_assoc, Nat.add_comm, Nat.add_left_comm] using X
    · have eB : bodyB r = r.word.s.data.toList ++ 40 :: (x.s.data.toList ++ 44 :: 32 :: (y.s.data.toList ++ [41])) := by unfold bodyB; rw [if_pos hc, ha]; simp [argS]
      have eT : bodyT r = (2, r.word.s.data.toList) :: (18, [40]) :: (2, x.s.data.toList) :: (20, [44]) :: (y.k, y.s.data.toList) :: [(19, [41])] := by unfold bodyT; rw [if_pos hc, ha]; simp [argS, argK]
      rw [eB] at hat ⊢
      rw [eT]
      have h0 : At s i (r.word.s.data.toList ++ 40 :: (x.s.data.toList ++ 44 :: (32 :: (y.s.data.toList ++ 41 :: (59 :: l))))) := by simpa using hat
      have a1 := At.tail h0
      have a2 := At.tail (l := [40]) a1
      have a3 := At.tail a2
      have a4 := At.tail (l := [44]) a3
      have a5 := At.tail (l := [32]) a4
      have a6 := At.tail a5
      have x1 := hw.name hwk h0 (by decide)
      have x2 := LX.sign (c := 40) a1 (by decide) (by decide) (by decide) (by decide) (by decide)
      have x3 := hx.name hxk a2 (by decide)
      have x4 := LX.sign (c := 44) a3 (by decide) (by decide) (by decide) (by decide) (by decide)
      have x5 := LX.bl a4 (by decide)
      have x6 := LX.arg hy hyk a5 (by decide)
      have x7 := LX.sign (c := 41) a6 (by decide) (by decide) (by decide) (by decide) (by decide)
      have X := (((((x1.trans x2).trans x3).trans x4).trans x5).trans x6).trans x7
      rw [e40, e41, e44] at X
      simpa [Nat.add_assoc, Nat.add_comm, Nat.add_left_comm] using X
  · have eB : bodyB r = (txtF r.f).data.toList := by unfold bodyB; rw [if_neg (by rw [hc]; decide)]
    have eT : bodyT r = ftoks r.f := by unfold bodyT; rw [if_neg (by rw [hc]; decide)]
    rw [eB] at hat ⊢
    rw [eT]
    exact LX.form r.f hf s i 59 l hat (by decide)
theorem LX.rule {r : Rl} (h : RlN r) {s : ByteArray} {i : Nat} {l : List UInt8} (hat : At s i (ruleB r ++ l)) : LX s i (ruleT r) (i + (ruleB r).length) := by
  have h0 : At s i ([114, 117, 108, 101] ++ 32 :: (bodyB r ++ 59 :: (10 :: l))) := by simpa [ruleB] using hat
  have a1 := At.tail h0
  have a2 := At.tail (l := [32]) a1
  have a3 := At.tail a2
  have a4 := At.tail (l := [59]) a3
  have x1 := LX.word (x := [114, 117, 108, 101]) h0 (by decide) (by decide) (by decide)
  have x2 := LX.bl a1 (by decide)
  have x3 := LX.body h a2
  have x4 := LX.sign (c := 59) a3 (by decide) (by decide) (by decide) (by decide) (by decide)
  have x5 := LX.bl a4 (by decide)
  have X := (((x1.trans x2).trans x3).trans x4).trans x5
  rw [show signK (59 : UInt8).toNat = 21 by decide, show wordK [114, 117, 108, 101] = 5 by decide] at X
  exact X.cast (by simp [ruleT]) (by simp [ruleB]; omega)
theorem LX.rules : ∀ (rs : List Rl), (∀ r ∈ rs, RlN r) → ∀ (s : ByteArray) (i : Nat), At s i (rulesB rs) → LX s i (rulesT rs) (i + (rulesB rs).length)
  | [], _, s, i, _ => LX.nil s i
  | r :: l, h, s, i, hat => by
    have h0 : At s i (ruleB r ++ rulesB l) := hat
    have x := (LX.rule (h r (List.mem_cons_self ..)) h0).trans (LX.rules l (fun r' h' => h r' (List.mem_cons_of_mem _ h')) s _ (At.tail h0))
    simpa [rulesB, rulesT, Nat.add_assoc] using x
def modelT (al : List Tk) (rs : List Rl) : List (Nat × List UInt8) := (4, [97, 99, 116, 115]) :: (actsT al ++ (21, [59]) :: rulesT rs)
theorem lex_txt {al : List Tk} {rs : List Rl} (ha : al ≠ []) (h1 : ∀ t ∈ al, TkN t ∧ t.k = 2) (h2 : ∀ r ∈ rs, RlN r) : (lexR (txtM al rs) ((txtM al rs).size + 1) 0).map ks = modelT al rs ++ [(0, [])] := by
  have hl := txtM_list al rs
  generalize txtM al rs = s at *
  have h0 : At s 0 ([97, 99, 116, 115] ++ 32 :: (actsB al ++ 59 :: (10 :: rulesB rs))) := ⟨[], by rw [List.drop_zero, hl, List.append_nil]⟩
  have a1 := At.tail h0
  have a2 := At.tail (l := [32]) a1
  have a3 := At.tail a2
  have a4 := At.tail (l := [59]) a3
  have a5 := At.tail (l := [10]) a4
  have x1 := LX.word (x := [97, 99, 116, 115]) h0 (by decide) (by decide) (by decide)
  have x2 := LX.bl a1 (by decide)
  have x3 := LX.acts al ha h1 s _ _ a2
  have x4 := LX.sign (c := 59) a3 (by decide) (by decide) (by decide) (by decide) (by decide)
  have x5 := LX.bl a4 (by decide)
  have x6 := LX.rules rs h2 s _ a5
  have X := ((((x1.trans x2).trans x3).trans x4).trans x5).trans x6
  rw [show signK (59 : UInt8).toNat = 21 by decide, show wordK [97, 99, 116, 115] = 4 by decide] at X
  have hsz : s.size = 4 + 1 + (actsB al).length + 1 + 1 + (rulesB rs).length := by
    rw [← size_data, hl]; simp; omega
  have X' : LX s 0 (modelT al rs) s.size := by
    rw [hsz]
    simpa [modelT, Nat.add_assoc, Nat.add_comm, Nat.add_left_comm] using X
  obtain ⟨n, hn⟩ : ∃ n, s.size + 1 = (n + 1) + (modelT al rs).length := ⟨s.size - (modelT al rs).length, by have := X'.1; omega⟩
  rw [hn, X'.2]
  congr 1
  have e : lexAt s (upTo isBl s s.size) = ⟨0, ByteArray.empty, s.size⟩ := by rw [upTo_end isBl s s.size (Nat.le_refl _)]; exact lex_end s _ (Nat.le_refl _)
  rw [lexR_stop s n s.size (by rw [e]; exact Nat.zero_le _), e]
  rfl
def RE (r r' : Rl) : Prop := r'.call = r.call ∧ (r.call = true → r'.word.s = r.word.s ∧ r'.word.k = 2 ∧ r'.args.map ks = r.args.map ks ∧ r'.f = .nil) ∧ (r.call = false → FE r.f r'.f ∧ r'.args = [])
def RsE : List Rl → List Rl → Prop
  | [], [] => True
  | r :: l, r' :: l' => RE r r' ∧ RsE l l'
  | [], _ :: _ => False
  | _ :: _, [] => False
theorem actsRead_ok : ∀ (al : List Tk), al ≠ [] → ∀ (n : Nat) (L : List Tk) (R : List (Nat × List UInt8)), al.length ≤ n → L.map ks = actsT al ++ (21, [59]) :: R → ∃ al' L', actsRead n L = .ok (al', L') ∧ al'.map ks = al.map (fun t => (2, t.s.data.toList)) ∧ L'.map ks = (21, [59]) :: R
  | [], h, _, _, _, _, _ => absurd rfl h
  | [t], _, n, L, R, hn, hL => by
    obtain ⟨m, rfl⟩ : ∃ m, n = m + 1 := ⟨n - 1, by simp at hn; omega⟩
    obtain ⟨t', L', rfl, k1, k2, k3⟩ := map_cons (k := 2) (x := t.s.data.toList) (T := (21, [59]) :: R) hL
    obtain ⟨t2, L2, rfl, j1, j2, j3⟩ := map_cons k3
    refine ⟨[t'], t2 :: L2, ?_, by simp [ks, k1, k2], k3⟩
    rw [actsRead, if_pos (by exact k1), if_neg (by show ¬ t2.k = 20; omega)]
    rfl
  | t :: t2 :: r, _, n, L, R, hn, hL => by
    obtain ⟨m, rfl⟩ : ∃ m, n = m + 1 := ⟨n - 1, by simp at hn; omega⟩
    obtain ⟨t', L', rfl, k1, k2, k3⟩ := map_cons (k := 2) (x := t.s.data.toList) (T := (20, [44]) :: (actsT (t2 :: r) ++ (21, [59]) :: R)) hL
    obtain ⟨c, L2, rfl, j1, j2, j3⟩ := map_cons k3
    obtain ⟨al', L3, h1, h2, h3⟩ := actsRead_ok (t2 :: r) (by simp) m L2 R (by simp at hn ⊢; omega) j3
    refine ⟨t' :: al', L3, ?_, by rw [List.map_cons, h2]; simp [ks, k1, k2], h3⟩
    rw [actsRead, if_pos (by exact k1), if_pos (by exact j1)]
    show (match actsRead m L2 with | .error q => (.error q : Except Nat (List Tk × List Tk)) | .ok (ts, l1) => .ok (t' :: ts, l1)) = _
    rw [h1]
theorem ftoks_head : ∀ (f : Fm), Fg TkN f → ∀ (L : List Tk) (R : List (Nat × List UInt8)), L.map ks = ftoks f ++ (21, [59]) :: R → ¬ (headK L = 2 ∧ headK L.tail = 18)
  | .nil, h, _, _, _ => False.elim h
  | .node u v a l r, h, L, R, hL => by
    rintro ⟨e1, e2⟩
    rcases h with ⟨hk, _, rfl, rfl⟩ | ⟨hk, rfl, rfl⟩ | ⟨hk, hl, rfl⟩ | ⟨hk, hl, hr⟩
    · rw [ftoks, if_pos hk] at hL
      obtain ⟨t, L', rfl, k1, k2, k3⟩ := map_cons (T := (21, [59]) :: R) hL
      obtain ⟨t2, L2, rfl, j1, j2, j3⟩ := map_cons k3
      have : t2.k = 18 := e2
      omega
    · have h' : a.1 = 1 ∨ a.1 = 2 ∨ a.1 = 3 := by omega
      rcases h' with h' | h' | h'
      · rw [ftoks, if_neg (by omega), if_pos h'] at hL
        obtain ⟨t, L', rfl, k1, _⟩ := map_cons (T := (21, [59]) :: R) hL
        have : t.k = 2 := e1
        omega
      · rw [ftoks, if_neg (by omega), if_neg (by omega), if_pos h'] at hL
        obtain ⟨t, L', rfl, k1, _⟩ := map_cons (T := (21, [59]) :: R) hL
        have : t.k = 2 := e1
        omega
      · rw [ftoks, if_neg (by omega), if_neg (by omega), if_neg (by omega), if_pos h'] at hL
        obtain ⟨t, L', rfl, k1, _⟩ := map_cons (T := (21, [59]) :: R) hL
        have : t.k = 2 := e1
        omega
    · rw [ftoks, if_neg (by omega), if_neg (by omega), if_neg (by omega), if_neg (by omega), if_pos (by omega)] at hL
      obtain ⟨t, L', rfl, k1, _⟩ := map_cons (k := (opT a.1).1) (x := (opT a.1).2) (T := ftoks l ++ (21, [59]) :: R) hL
      have h2 : t.k = 2 := e1
      rw [h2] at k1
      have h' : a.1 = 4 ∨ a.1 = 5 ∨ a.1 = 6 ∨ a.1 = 7 ∨ a.1 = 8 := by omega
      rcases h' with h' | h' | h' | h' | h' <;> rw [h'] at k1 <;> revert k1 <;> decide
    · rw [ftoks, if_neg (by omega), if_neg (by omega), if_neg (by omega), if_neg (by omega), if_neg (by omega)] at hL
      obtain ⟨t, L', rfl, k1, _⟩ := map_cons (k := 18) (x := [40]) (T := (ftoks l ++ opT a.1 :: (ftoks r ++ [(19, [41])])) ++ (21, [59]) :: R) (by simpa using hL)
      have : t.k = 2 := e1
      omega
theorem ruleRead_ok {r : Rl} (h : RlN r) {L : List Tk} {R : List (Nat × List UInt8)} (hL : L.map ks = bodyT r ++ (21, [59]) :: R) : ∃ r' L', ruleRead L = .ok (r', L') ∧ RE r r' ∧ L'.map ks = (21, [59]) :: R := by
  rcases h with ⟨hc, hw, hwk, hf, x, hx, hxk, ha⟩ | ⟨hc, hf, _⟩
  · rcases ha with ha | ⟨y, hy, hyk, ha⟩
    · have eT : bodyT r = (2, r.word.s.data.toList) :: (18, [40]) :: (2, x.s.data.toList) :: [(19, [41])] := by unfold bodyT; rw [if_pos hc, ha]; simp [argS]
      rw [eT] at hL
      obtain ⟨t1, L1, rfl, a1, b1, c1⟩ := map_cons (T := (18, [40]) :: (2, x.s.data.toList) :: (19, [41]) :: (21, [59]) :: R) hL
      obtain ⟨t2, L2, rfl, a2, b2, c2⟩ := map_cons c1
      obtain ⟨t3, L3, rfl, a3, b3, c3⟩ := map_cons c2
      obtain ⟨t4, L4, rfl, a4, b4, c4⟩ := map_cons c3
      refine ⟨⟨0, true, t1, [t3], t4.p, .nil⟩, L4, ?_, ⟨hc.symm, fun _ => ⟨ba_ext b1, a1, by rw [ha]; simp [ks, a3, b3, hxk], rfl⟩, fun e => by rw [hc] at e; cases e⟩, c4⟩
      unfold ruleRead
      rw [if_pos ⟨a1, a2⟩, if_pos (by exact a3), if_neg (by show ¬ t4.k = 20; omega), if_pos (by exact a4)]
      rfl
    · have eT : bodyT r = (2, r.word.s.data.toList) :: (18, [40]) :: (2, x.s.data.toList) :: (20, [44]) :: (y.k, y.s.data.toList) :: [(19, [41])] := by unfold bodyT; rw [if_pos hc, ha]; simp [argS, argK]
      rw [eT] at hL
      obtain ⟨t1, L1, rfl, a1, b1, c1⟩ := map_cons (T := (18, [40]) :: (2, x.s.data.toList) :: (20, [44]) :: (y.k, y.s.data.toList) :: (19, [41]) :: (21, [59]) :: R) hL
      obtain ⟨t2, L2, rfl, a2, b2, c2⟩ := map_cons c1
      obtain ⟨t3, L3, rfl, a3, b3, c3⟩ := map_cons c2
      obtain ⟨t4, L4, rfl, a4, b4, c4⟩ := map_cons c3
      obtain ⟨t5, L5, rfl, a5, b5, c5⟩ := map_cons c4
      obtain ⟨t6, L6, rfl, a6, b6, c6⟩ := map_cons c5
      refine ⟨⟨0, true, t1, [t3, t5], t6.p, .nil⟩, L6, ?_, ⟨hc.symm, fun _ => ⟨ba_ext b1, a1, by rw [ha]; simp [ks, a3, b3, hxk, a5, b5], rfl⟩, fun e => by rw [hc] at e; cases e⟩, c6⟩
      unfold ruleRead
      rw [if_pos ⟨a1, a2⟩, if_pos (by exact a3), if_pos (by exact a4), if_pos (by show t5.k = 2 ∨ t5.k = 3; rw [a5]; exact hyk), if_pos (by exact a6)]
      rfl
  · have eT : bodyT r = ftoks r.f := by unfold bodyT; rw [if_neg (by rw [hc]; decide)]
    rw [eT] at hL
    have hh := ftoks_head r.f hf L R hL
    obtain ⟨f', L', hP, hF, hM⟩ := pf_form r.f hf L ((21, [59]) :: R) hL
    obtain ⟨t2, L2, rfl, j1, _⟩ := map_cons hM
    have j1' : headK (t2 :: L2) = 21 := j1
    have hlen : (ftoks r.f).length ≤ L.length := by
      have := congrArg List.length hL
      simp at this; omega
    refine ⟨⟨0, false, tk0, [], 0, f'⟩, t2 :: L2, ?_, ⟨hc.symm, fun e => (by rw [hc] at e; cases e), fun _ => ⟨hF, rfl⟩⟩, hM⟩
    unfold ruleRead
    rw [if_neg hh, hP.l0 (by omega) (by omega) (by omega) (by omega) _ (by omega)]
theorem rulesT_len (rs : List Rl) : rs.length ≤ (rulesT rs).length := by
  induction rs with
  | nil => exact Nat.le_refl _
  | cons r l ih => simp [rulesT, ruleT]; omega
theorem rulesRead_ok : ∀ (rs : List Rl), (∀ r ∈ rs, RlN r) → ∀ (n : Nat) (L : List Tk), rs.length + 1 ≤ n → L.map ks = rulesT rs ++ [(0, [])] → ∃ rs', rulesRead n L = .ok rs' ∧ RsE rs rs'
  | [], _, n, L, hn, hL => by
    obtain ⟨m, rfl⟩ : ∃ m, n = m + 1 := ⟨n - 1, by omega⟩
    obtain ⟨t, L', rfl, k1, _⟩ := map_cons (T := []) hL
    exact ⟨[], by rw [rulesRead, if_pos (by exact k1)], trivial⟩
  | r :: l, h, n, L, hn, hL => by
    obtain ⟨m, rfl⟩ : ∃ m, n = m + 1 := ⟨n - 1, by omega⟩
    have hL' : L.map ks = (5, [114, 117, 108, 101]) :: (bodyT r ++ (21, [59]) :: (rulesT l ++ [(0, [])])) := by rw [hL]; simp [rulesT, ruleT]
    obtain ⟨t, L1, rfl, k1, k2, k3⟩ := map_cons hL'
    obtain ⟨r', L2, h1, h2, h3⟩ := ruleRead_ok (h r (List.mem_cons_self ..)) k3
    obtain ⟨t3, L3, rfl, j1, j2, j3⟩ := map_cons h3
    obtain ⟨rs', g1, g2⟩ := rulesRead_ok l (fun r' h' => h r' (List.mem_cons_of_mem _ h')) m L3 (by simp at hn ⊢; omega) j3
    refine ⟨{ r' with pl := t.p } :: rs', ?_, ⟨h2, g2⟩⟩
    rw [rulesRead, if_neg (by show ¬ t.k = 0; omega), if_pos (by exact k1), List.tail_cons, h1]
    show (if headK (t3 :: L3) = 21 then _ else _) = _
    rw [if_pos (by exact j1), List.tail_cons, g1]
    rfl
theorem modelRead_ok {al : List Tk} {rs : List Rl} (ha : al ≠ []) (h2 : ∀ r ∈ rs, RlN r) {L : List Tk} (hL : L.map ks = modelT al rs ++ [(0, [])]) : ∃ al' rs', modelRead L = .ok (al', rs') ∧ al'.map ks = al.map (fun t => (2, t.s.data.toList)) ∧ RsE rs rs' := by
  have hL' : L.map ks = (4, [97, 99, 116, 115]) :: (actsT al ++ (21, [59]) :: (rulesT rs ++ [(0, [])])) := by rw [hL]; simp [modelT]
  obtain ⟨t, L1, rfl, k1, k2, k3⟩ := map_cons hL'
  have hlen : al.length ≤ (actsT al).length := by
    clear hL hL' k3 ha
    induction al with
    | nil => exact Nat.le_refl _
    | cons x r ih =>
      cases r with
      | nil => exact Nat.le_refl _
      | cons y r => simp [actsT] at ih ⊢; omega
  obtain ⟨al', L2, h1, h3, h4⟩ := actsRead_ok al ha (t :: L1).length L1 _ (by have := congrArg List.length k3; simp at this ⊢; omega) k3
  obtain ⟨t3, L3, rfl, j1, j2, j3⟩ := map_cons h4
  obtain ⟨rs', g1, g2⟩ := rulesRead_ok rs h2 (t3 :: L3).length L3 (by have := congrArg List.length j3; have := rulesT_len rs; simp at *; omega) j3
  refine ⟨al', rs', ?_, h3, g2⟩
  unfold modelRead
  rw [if_pos (by exact k1), List.tail_cons, h1]
  show (if headK (t3 :: L3) = 21 then _ else _) = _
  rw [if_pos (by exact j1), List.tail_cons, g1]
end Go.Proofs.YtidakhhekofkoaaGreatDoor.Rt
