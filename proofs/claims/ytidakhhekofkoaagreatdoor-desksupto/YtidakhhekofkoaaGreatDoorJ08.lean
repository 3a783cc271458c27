/- The reference's reader of formulas: what it reads is what the plain reader pf reads. -/
import Derived.Test.YtidakhhekofkoaaGreatDoorJ07
import Derived.Deep.LoopGhost
namespace Go.Proofs.YtidakhhekofkoaaGreatDoor
open Go.RowKit Go.Deep
set_option maxHeartbeats 400000 in
theorem two_lost (c:Int) (vf vg:Option Addr) (w:World):
  Calls Tryz.prog 252 #[.int .u8 c,.pointer vf,.pointer vg] w fun e w'=> ∃v,e= .returned (.pointer v)∧Below w.heap.size w w':=by
 go_enter Tryz.func252,Tryz.ntmps252
 go_wp2
 go_ret
 exact ⟨_,rfl,(Below.refl _ _).alloc (Nat.le_refl _) _⟩
theorem head_yes {l:List Tk} (h:Ends l) {k:Nat} (hk:2≤k) (e:headK l=k): ∃t u r,l=t::u::r∧t.k=k:=by
 match l,h with
 |[t],h=>exact absurd (show t.k≤1 from h) (by have:t.k=k:=e;omega)
 |t::u::r,_=>exact ⟨t,u,r,rfl,e⟩
theorem head_no {l:List Tk} (h:Ends l) {k:Nat} (e:headK l≠k): ∃t r,l=t::r∧t.k≠k:=by
 match l,h with
 |t::r,_=>exact ⟨t,r,rfl,e⟩
def SU (n:Nat):Prop:= ∀(w:World) (pb g cap:Nat) (L:List Tk) (i:Nat),PS w pb g cap L i false→6 * (L.drop i).length+1≤n→
 Calls Tryz.prog 297 #[.pointer (some ⟨pb,0,none⟩)] w fun e w'=>Left L pb g cap w w' e (pf n 4 .nil (L.drop i))
def ST (n:Nat):Prop:= ∀(w:World) (pb g cap:Nat) (L:List Tk) (i:Nat),PS w pb g cap L i false→6 * (L.drop i).length+2≤n→
 Calls Tryz.prog 296 #[.pointer (some ⟨pb,0,none⟩)] w fun e w'=>Left L pb g cap w w' e (pf n 3 .nil (L.drop i))
def SA (n:Nat):Prop:= ∀(w:World) (pb g cap:Nat) (L:List Tk) (i:Nat),PS w pb g cap L i false→6 * (L.drop i).length+3≤n→
 Calls Tryz.prog 291 #[.pointer (some ⟨pb,0,none⟩)] w fun e w'=>Left L pb g cap w w' e (pf n 2 .nil (L.drop i))
def SO (n:Nat):Prop:= ∀(w:World) (pb g cap:Nat) (L:List Tk) (i:Nat),PS w pb g cap L i false→6 * (L.drop i).length+4≤n→
 Calls Tryz.prog 289 #[.pointer (some ⟨pb,0,none⟩)] w fun e w'=>Left L pb g cap w w' e (pf n 1 .nil (L.drop i))
def SF (n:Nat):Prop:= ∀(w:World) (pb g cap:Nat) (L:List Tk) (i:Nat),PS w pb g cap L i false→6 * (L.drop i).length+5≤n→
 Calls Tryz.prog 282 #[.pointer (some ⟨pb,0,none⟩)] w fun e w'=>Left L pb g cap w w' e (pf n 0 .nil (L.drop i))
theorem drop_tail {L:List Tk} {i:Nat} {t:Tk} {r:List Tk} (h:L.drop i=t::r):L.drop (i+1)=r:=by rw [←List.drop_drop,h];rfl
set_option maxHeartbeats 1000000 in
theorem until_step (n:Nat) (hU:SU n):ST (n+1):=by
 intro w pb g cap L i h hn
 have HU:=hide hU
 have HP:=hide h
 clear hU h
 go_enter Tryz.func296,Tryz.ntmps296
 go_wp2_with (go_at_call 297;refine ((unhide HU) _ _ _ _ _ _ (unhide HP) (by omega)).mono ?_)
 rintro e w1 ⟨hg1,p,rfl,hx⟩
 have HG1:=hide hg1
 cases hpf:pf n 4 .nil (L.drop i) with
 |error q=>
  have HX:Hid (pf (n+1) 3 .nil (L.drop i)= .error q):=by show _=_;rw [pf,hpf]
  rw [hpf] at hx
  obtain ⟨i1,hq1,hp1⟩:=hx
  obtain ⟨t,r,ht⟩:=drop_ne hp1.lt
  have HP1:=hide hp1
  have HQ:=hide hq1
  have HT:=hide ht
  clear hp1 hg1 hq1 ht hpf
  go_wp2_with (go_at_call 247;refine (take_no _ 13 _ _ _ _ _ _ _ _ _ (unhide HP1) (unhide HT) rfl (by decide) (by decide) (Or.inl rfl)).mono ?_)
  rintro e w2 ⟨rfl,hp2,hg2⟩
  have HP2:=hide hp2
  have HG2:=hide hg2
  clear hp2 hg2
  go_wp2_with fail
  go_ret
  rw [unhide HX]
  exact ⟨(unhide HG1).trans (unhide HG2),_,rfl,i1,unhide HQ,unhide HP2⟩
 |ok x=>
  obtain ⟨a,l1⟩:=x
  have hlen:=pf_len _ _ _ _ _ _ hpf
  rw [hpf] at hx
  obtain ⟨hf1,i1,hl1,hp1⟩:=hx
  subst hl1
  by_cases h13:headK (L.drop i1)=13
  ·obtain ⟨t,u,r,ht,hk⟩:=head_yes hp1.ends (by decide) h13
   have ht2:=drop_tail ht
   have hX:pf (n+1) 3 .nil (L.drop i)=(match pf n 4 .nil (L.drop (i1+1)) with| .error q=> .error q| .ok (b,l2)=> .ok (two 9 a b,l2)):=by
    rw [pf,hpf];simp only [h13,if_true];rw [ht,ht2];rfl
   have HX:=hide hX
   have hlt2:6 * (L.drop (i1+1)).length+1≤n:=by rw [ht2];rw [ht] at hlen;simp only [List.length_cons] at hlen⊢;omega
   have HL:=hide hlt2
   have HF1:=hide hf1
   have HP1:=hide hp1
   have HT:=hide ht
   have HK:=hide hk
   clear hp1 hg1 ht hpf hX h13 hk hf1 ht2 hlt2
   go_wp2_with (go_at_call 247;refine (take_yes _ 13 _ _ _ _ _ _ _ _ _ (unhide HP1) (unhide HT) rfl (by decide) (by decide) (unhide HK)).mono ?_)
   rintro e w2 ⟨rfl,hp2,hg2⟩
   have HP2:=hide hp2
   have HG2:=hide hg2
   clear hp2 hg2
   go_wp2_with (go_at_call 297;refine ((unhide HU) _ _ _ _ _ _ (unhide HP2) (unhide HL)).mono ?_)
   rintro e w3 ⟨hg3,p3,rfl,hx3⟩
   have HF3:=hide (((unhide HF1).keepP (unhide HP1) (unhide HG2)).keepP (unhide HP2) hg3)
   cases hpf3:pf n 4 .nil (L.drop (i1+1)) with
   |error q=>
    rw [hpf3] at hx3
    have HX3:Hid (pf (n+1) 3 .nil (L.drop i)= .error q):=by show _=_;rw [unhide HX,hpf3]
    obtain ⟨i3,hq3,hp3⟩:=hx3
    have HP3:=hide hp3
    have HQ3:=hide hq3
    have HG3:=hide hg3
    clear hp3 hq3 hg3 hpf3
    go_wp2_with (go_at_call 252;refine (two_lost _ _ _ _).mono ?_)
    rintro e w4 ⟨v,rfl,hb4⟩
    have HB4:=hide hb4
    clear hb4
    go_wp2_with fail
    go_ret
    rw [unhide HX3]
    exact ⟨(((unhide HG1).trans (unhide HG2)).trans (unhide HG3)).trans (grown_below (unhide HB4) _),_,rfl,i3,unhide HQ3,(unhide HP3).later (unhide HB4)⟩
   |ok x=>
    obtain ⟨b,l2⟩:=x
    rw [hpf3] at hx3
    have HX3:Hid (pf (n+1) 3 .nil (L.drop i)= .ok (two 9 a b,l2)):=by show _=_;rw [unhide HX,hpf3]
    obtain ⟨hf3,i3,hl3,hp3⟩:=hx3
    have HP3:=hide hp3
    have HQ3:=hide hl3
    have HG3:=hide hg3
    have HFB:=hide hf3
    clear hp3 hl3 hg3 hpf3 hf3
    go_wp2_with (go_at_call 252;refine (two_any 9 _ _ _ _ _ _ (unhide HF3) (unhide HFB) rfl).mono ?_)
    rintro e w4 ⟨v,rfl,hv,hb4⟩
    have HB4:=hide hb4
    have HV:=hide hv
    clear hb4 hv
    go_wp2_with fail
    go_ret
    rw [unhide HX3]
    exact ⟨(((unhide HG1).trans (unhide HG2)).trans (unhide HG3)).trans (grown_below (unhide HB4) _),_,rfl,unhide HV,i3,unhide HQ3,(unhide HP3).later (unhide HB4)⟩
  ·obtain ⟨t,r,ht,hk⟩:=head_no hp1.ends h13
   have HX:Hid (pf (n+1) 3 .nil (L.drop i)= .ok (a,L.drop i1)):=by show _=_;rw [pf,hpf];simp only [h13,if_false]
   have HF1:=hide hf1
   have HP1:=hide hp1
   have HT:=hide ht
   have HK:=hide hk
   clear hp1 hg1 ht hpf h13 hk hf1
   go_wp2_with (go_at_call 247;refine (take_no _ 13 _ _ _ _ _ _ _ _ _ (unhide HP1) (unhide HT) rfl (by decide) (by decide) (Or.inr (unhide HK))).mono ?_)
   rintro e w2 ⟨rfl,hp2,hg2⟩
   have HP2:=hide hp2
   have HG2:=hide hg2
   clear hp2 hg2
   go_wp2_with fail
   go_ret
   rw [unhide HX]
   exact ⟨(unhide HG1).trans (unhide HG2),_,rfl,(unhide HF1).keepP (unhide HP1) (unhide HG2),i1,rfl,unhide HP2⟩
set_option maxHeartbeats 1000000 in
theorem formula_step (n:Nat) (hO:SO n) (hF:SF n):SF (n+1):=by
 intro w pb g cap L i h hn
 have HO:=hide hO
 have HFS:=hide hF
 have HP:=hide h
 clear hO hF h
 go_enter Tryz.func282,Tryz.ntmps282
 go_wp2_with (go_at_call 289;refine ((unhide HO) _ _ _ _ _ _ (unhide HP) (by omega)).mono ?_)
 rintro e w1 ⟨hg1,p,rfl,hx⟩
 have HG1:=hide hg1
 cases hpf:pf n 1 .nil (L.drop i) with
 |error q=>
  have HX:Hid (pf (n+1) 0 .nil (L.drop i)= .error q):=by show _=_;rw [pf,hpf]
  rw [hpf] at hx
  obtain ⟨i1,hq1,hp1⟩:=hx
  obtain ⟨t,r,ht⟩:=drop_ne hp1.lt
  have HP1:=hide hp1
  have HQ:=hide hq1
  have HT:=hide ht
  clear hp1 hg1 hq1 ht hpf
  go_wp2_with (go_at_call 247;refine (take_no _ 14 _ _ _ _ _ _ _ _ _ (unhide HP1) (unhide HT) rfl (by decide) (by decide) (Or.inl rfl)).mono ?_)
  rintro e w2 ⟨rfl,hp2,hg2⟩
  have HP2:=hide hp2
  have HG2:=hide hg2
  clear hp2 hg2
  go_wp2_with fail
  go_ret
  rw [unhide HX]
  exact ⟨(unhide HG1).trans (unhide HG2),_,rfl,i1,unhide HQ,unhide HP2⟩
 |ok x=>
  obtain ⟨a,l1⟩:=x
  have hlen:=pf_len _ _ _ _ _ _ hpf
  rw [hpf] at hx
  obtain ⟨hf1,i1,hl1,hp1⟩:=hx
  subst hl1
  by_cases h13:headK (L.drop i1)=14
  ·obtain ⟨t,u,r,ht,hk⟩:=head_yes hp1.ends (by decide) h13
   have ht2:=drop_tail ht
   have hX:pf (n+1) 0 .nil (L.drop i)=(match pf n 0 .nil (L.drop (i1+1)) with| .error q=> .error q| .ok (b,l2)=> .ok (two 12 a b,l2)):=by
    rw [pf,hpf];simp only [h13,if_true];rw [ht,ht2];rfl
   have HX:=hide hX
   have hlt2:6 * (L.drop (i1+1)).length+5≤n:=by rw [ht2];rw [ht] at hlen;simp only [List.length_cons] at hlen⊢;omega
   have HL:=hide hlt2
   have HF1:=hide hf1
   have HP1:=hide hp1
   have HT:=hide ht
   have HK:=hide hk
   clear hp1 hg1 ht hpf hX h13 hk hf1 ht2 hlt2
   go_wp2_with (go_at_call 247;refine (take_yes _ 14 _ _ _ _ _ _ _ _ _ (unhide HP1) (unhide HT) rfl (by decide) (by decide) (unhide HK)).mono ?_)
   rintro e w2 ⟨rfl,hp2,hg2⟩
   have HP2:=hide hp2
   have HG2:=hide hg2
   clear hp2 hg2
   go_wp2_with (go_at_call 282;refine ((unhide HFS) _ _ _ _ _ _ (unhide HP2) (unhide HL)).mono ?_)
   rintro e w3 ⟨hg3,p3,rfl,hx3⟩
   have HF3:=hide (((unhide HF1).keepP (unhide HP1) (unhide HG2)).keepP (unhide HP2) hg3)
   cases hpf3:pf n 0 .nil (L.drop (i1+1)) with
   |error q=>
    rw [hpf3] at hx3
    have HX3:Hid (pf (n+1) 0 .nil (L.drop i)= .error q):=by show _=_;rw [unhide HX,hpf3]
    obtain ⟨i3,hq3,hp3⟩:=hx3
    have HP3:=hide hp3
    have HQ3:=hide hq3
    have HG3:=hide hg3
    clear hp3 hq3 hg3 hpf3
    go_wp2_with (go_at_call 252;refine (two_lost _ _ _ _).mono ?_)
    rintro e w4 ⟨v,rfl,hb4⟩
    have HB4:=hide hb4
    clear hb4
    go_wp2_with fail
    go_ret
    rw [unhide HX3]
    exact ⟨(((unhide HG1).trans (unhide HG2)).trans (unhide HG3)).trans (grown_below (unhide HB4) _),_,rfl,i3,unhide HQ3,(unhide HP3).later (unhide HB4)⟩
   |ok x=>
    obtain ⟨b,l2⟩:=x
    rw [hpf3] at hx3
    have HX3:Hid (pf (n+1) 0 .nil (L.drop i)= .ok (two 12 a b,l2)):=by show _=_;rw [unhide HX,hpf3]
    obtain ⟨hf3,i3,hl3,hp3⟩:=hx3
    have HP3:=hide hp3
    have HQ3:=hide hl3
    have HG3:=hide hg3
    have HFB:=hide hf3
    clear hp3 hl3 hg3 hpf3 hf3
    go_wp2_with (go_at_call 252;refine (two_any 12 _ _ _ _ _ _ (unhide HF3) (unhide HFB) rfl).mono ?_)
    rintro e w4 ⟨v,rfl,hv,hb4⟩
    have HB4:=hide hb4
    have HV:=hide hv
    clear hb4 hv
    go_wp2_with fail
    go_ret
    rw [unhide HX3]
    exact ⟨(((unhide HG1).trans (unhide HG2)).trans (unhide HG3)).trans (grown_below (unhide HB4) _),_,rfl,unhide HV,i3,unhide HQ3,(unhide HP3).later (unhide HB4)⟩
  ·obtain ⟨t,r,ht,hk⟩:=head_no hp1.ends h13
   have HX:Hid (pf (n+1) 0 .nil (L.drop i)= .ok (a,L.drop i1)):=by show _=_;rw [pf,hpf];simp only [h13,if_false]
   have HF1:=hide hf1
   have HP1:=hide hp1
   have HT:=hide ht
   have HK:=hide hk
   clear hp1 hg1 ht hpf h13 hk hf1
   go_wp2_with (go_at_call 247;refine (take_no _ 14 _ _ _ _ _ _ _ _ _ (unhide HP1) (unhide HT) rfl (by decide) (by decide) (Or.inr (unhide HK))).mono ?_)
   rintro e w2 ⟨rfl,hp2,hg2⟩
   have HP2:=hide hp2
   have HG2:=hide hg2
   clear hp2 hg2
   go_wp2_with fail
   go_ret
   rw [unhide HX]
   exact ⟨(unhide HG1).trans (unhide HG2),_,rfl,(unhide HF1).keepP (unhide HP1) (unhide HG2),i1,rfl,unhide HP2⟩
set_option maxHeartbeats 1000000 in
theorem and_step (n : Nat) (hU : ∀ m, m ≤ n → ST m) : SA (n + 1) := by
  intro w pb g cap L i h hn
  have HU := hide hU
  have HP := hide h
  clear hU h
  go_enter Tryz.func291, Tryz.ntmps291
  go_wp2_with (go_at_call 296; refine ((unhide HU) n (Nat.le_refl _) _ _ _ _ _ _ (unhide HP) (by omega)).mono ?_)
  rintro e w1 ⟨hg1, p, rfl, hx⟩
  have hstart : ∃ pa, (Value.pointer p = .pointer pa) ∧ w.grownBy w1 (some pb) ∧
      ((∃ acc j, n ≤ n ∧ 6 * (L.drop j).length + 1 ≤ n ∧ IsF w1 acc pa ∧ PS w1 pb g cap L j false ∧ Hid (pf (n + 1) 2 .nil (L.drop i) = pf n 6 acc (L.drop j))) ∨
       (∃ j, PS w1 pb g cap L j true ∧ Hid (pf (n + 1) 2 .nil (L.drop i) = .error (headP (L.drop j))))) := by
    refine ⟨p, rfl, hg1, ?_⟩
    cases hpf : pf n 3 .nil (L.drop i) with
    | error q =>
      rw [hpf] at hx
      obtain ⟨i1, hq1, hp1⟩ := hx
      exact Or.inr ⟨i1, hp1, by show _ = _; rw [pf, hpf, hq1]⟩
    | ok x =>
      obtain ⟨a, l1⟩ := x
      have hlen := pf_len _ _ _ _ _ _ hpf
      rw [hpf] at hx
      obtain ⟨hf1, i1, hl1, hp1⟩ := hx
      exact Or.inl ⟨a, i1, Nat.le_refl _, by rw [hl1]; omega, hf1, hp1, by show _ = _; rw [pf, hpf, hl1]⟩
  have HS := hide hstart
  clear hstart hx hg1
  go_wp2_with fail
  go_loopg [3] n (fun m v wr => ∃ pa, v = .pointer pa ∧ w.grownBy wr (some pb) ∧
      ((∃ acc j, m ≤ n ∧ 6 * (L.drop j).length + 1 ≤ m ∧ IsF wr acc pa ∧ PS wr pb g cap L j false ∧ Hid (pf (n + 1) 2 .nil (L.drop i) = pf m 6 acc (L.drop j))) ∨
       (∃ j, PS wr pb g cap L j true ∧ Hid (pf (n + 1) 2 .nil (L.drop i) = .error (headP (L.drop j))))))
  case atStart => exact unhide HS
  case round =>
    clear HS
    obtain ⟨pa, rfl, hgj, hcase⟩ := hrel
    have HGJ := hide hgj
    clear hgj
    rcases hcase with ⟨acc, j, hm, hmj, hfa, hpj, hxj⟩ | ⟨j, hpj, hxj⟩
    · obtain ⟨m, rfl⟩ : ∃ m, gk = m + 1 := ⟨gk - 1, by omega⟩
      by_cases h16 : headK (L.drop j) = 16
      · obtain ⟨t, u, r, ht, hk⟩ := head_yes hpj.ends (by decide) h16
        have ht2 := drop_tail ht
        have HXJ : Hid (pf (n + 1) 2 .nil (L.drop i) = (match pf m 3 .nil (L.drop (j + 1)) with | .error q => .error q | .ok (b, l2) => pf m 6 (two 10 acc b) l2)) := by
          show _ = _
          rw [hxj.out, pf]; simp only [h16, if_true]; rw [ht, ht2]; rfl
        have hlt2 : 6 * (L.drop (j + 1)).length + 2 ≤ m := by rw [ht2]; rw [ht] at hmj; simp only [List.length_cons] at hmj ⊢; omega
        have HL := hide hlt2
        have HFA := hide hfa
        have HPJ := hide hpj
        have HT := hide ht
        have HK := hide hk
        clear hpj ht h16 hk hfa ht2 hlt2 hxj
        go_wp2_with (go_at_call 247; refine (take_yes _ 16 _ _ _ _ _ _ _ _ _ (unhide HPJ) (unhide HT) rfl (by decide) (by decide) (unhide HK)).mono ?_)
        rintro e w2 ⟨rfl, hp2, hg2⟩
        have HP2 := hide hp2
        have HG2 := hide hg2
        clear hp2 hg2
        go_wp2_with (go_at_call 296; refine ((unhide HU) m (by omega) _ _ _ _ _ _ (unhide HP2) (unhide HL)).mono ?_)
        rintro e w3 ⟨hg3, p3, rfl, hx3⟩
        have HF3 := hide (((unhide HFA).keepP (unhide HPJ) (unhide HG2)).keepP (unhide HP2) hg3)
        have HG3 := hide hg3
        clear hg3
        cases hpf3 : pf m 3 .nil (L.drop (j + 1)) with
        | error q =>
          rw [hpf3] at hx3
          obtain ⟨i3, hq3, hp3⟩ := hx3
          have HX3 : Hid (pf (n + 1) 2 .nil (L.drop i) = .error (headP (L.drop i3))) := by show _ = _; rw [unhide HXJ, hpf3, hq3]
          have HP3 := hide hp3
          clear hp3 hq3 hpf3
          go_wp2_with (go_at_call 252; refine (two_lost _ _ _ _).mono ?_)
          rintro e w4 ⟨v, rfl, hb4⟩
          have HB4 := hide hb4
          clear hb4
          go_wp2_with fail
          go_roundg m
          case measure => omega
          case rel => exact ⟨_, rfl, (((unhide HGJ).trans (unhide HG2)).trans (unhide HG3)).trans (grown_below (unhide HB4) _), Or.inr ⟨i3, (unhide HP3).later (unhide HB4), unhide HX3⟩⟩
        | ok x =>
          obtain ⟨b, l2⟩ := x
          have hlen3 := pf_len _ _ _ _ _ _ hpf3
          rw [hpf3] at hx3
          obtain ⟨hf3, i3, hl3, hp3⟩ := hx3
          subst hl3
          have HX3 : Hid (pf (n + 1) 2 .nil (L.drop i) = pf m 6 (two 10 acc b) (L.drop i3)) := by show _ = _; rw [unhide HXJ, hpf3]
          have HP3 := hide hp3
          have HFB := hide hf3
          have hl3 : 6 * (L.drop i3).length + 1 ≤ m := by have := unhide HL; omega
          clear hp3 hpf3 hf3 hlen3
          go_wp2_with (go_at_call 252; refine (two_any 10 _ _ _ _ _ _ (unhide HF3) (unhide HFB) rfl).mono ?_)
          rintro e w4 ⟨v, rfl, hv, hb4⟩
          have HB4 := hide hb4
          have HV := hide hv
          clear hb4 hv
          go_wp2_with fail
          go_roundg m
          case measure => omega
          case rel => exact ⟨_, rfl, (((unhide HGJ).trans (unhide HG2)).trans (unhide HG3)).trans (grown_below (unhide HB4) _), Or.inl ⟨_, i3, by omega, hl3, unhide HV, (unhide HP3).later (unhide HB4), unhide HX3⟩⟩
      · obtain ⟨t, r, ht, hk⟩ := head_no hpj.ends h16
        have HX : Hid (pf (n + 1) 2 .nil (L.drop i) = .ok (acc, L.drop j)) := by show _ = _; rw [hxj.out, pf]; simp only [h16, if_false]
        have HFA := hide hfa
        have HPJ := hide hpj
        have HT := hide ht
        have HK := hide hk
        clear hpj ht h16 hk hfa hxj
        go_wp2_with (go_at_call 247; refine (take_no _ 16 _ _ _ _ _ _ _ _ _ (unhide HPJ) (unhide HT) rfl (by decide) (by decide) (Or.inr (unhide HK))).mono ?_)
        rintro e w2 ⟨rfl, hp2, hg2⟩
        have HP2 := hide hp2
        have HG2 := hide hg2
        clear hp2 hg2
        go_wp2_with fail
        go_ret
        rw [unhide HX]
        exact ⟨(unhide HGJ).trans (unhide HG2), _, rfl, (unhide HFA).keepP (unhide HPJ) (unhide HG2), j, rfl, unhide HP2⟩
    · obtain ⟨t, r, ht⟩ := drop_ne hpj.lt
      have HPJ := hide hpj
      have HT := hide ht
      have HXJ := hide hxj.out
      clear hpj ht hxj
      go_wp2_with (go_at_call 247; refine (take_no _ 16 _ _ _ _ _ _ _ _ _ (unhide HPJ) (unhide HT) rfl (by decide) (by decide) (Or.inl rfl)).mono ?_)
      rintro e w2 ⟨rfl, hp2, hg2⟩
      have HP2 := hide hp2
      have HG2 := hide hg2
      clear hp2 hg2
      go_wp2_with fail
      go_ret
      rw [unhide HXJ]
      exact ⟨(unhide HGJ).trans (unhide HG2), _, rfl, j, rfl, unhide HP2⟩
set_option maxHeartbeats 1000000 in
theorem or_step (n : Nat) (hU : ∀ m, m ≤ n → SA m) : SO (n + 1) := by
  intro w pb g cap L i h hn
  have HU := hide hU
  have HP := hide h
  clear hU h
  go_enter Tryz.func289, Tryz.ntmps289
  go_wp2_with (go_at_call 291; refine ((unhide HU) n (Nat.le_refl _) _ _ _ _ _ _ (unhide HP) (by omega)).mono ?_)
  rintro e w1 ⟨hg1, p, rfl, hx⟩
  have hstart : ∃ pa, (Value.pointer p = .pointer pa) ∧ w.grownBy w1 (some pb) ∧
      ((∃ acc j, n ≤ n ∧ 6 * (L.drop j).length + 1 ≤ n ∧ IsF w1 acc pa ∧ PS w1 pb g cap L j false ∧ Hid (pf (n + 1) 1 .nil (L.drop i) = pf n 5 acc (L.drop j))) ∨
       (∃ j, PS w1 pb g cap L j true ∧ Hid (pf (n + 1) 1 .nil (L.drop i) = .error (headP (L.drop j))))) := by
    refine ⟨p, rfl, hg1, ?_⟩
    cases hpf : pf n 2 .nil (L.drop i) with
    | error q =>
      rw [hpf] at hx
      obtain ⟨i1, hq1, hp1⟩ := hx
      exact Or.inr ⟨i1, hp1, by show _ = _; rw [pf, hpf, hq1]⟩
    | ok x =>
      obtain ⟨a, l1⟩ := x
      have hlen := pf_len _ _ _ _ _ _ hpf
      rw [hpf] at hx
      obtain ⟨hf1, i1, hl1, hp1⟩ := hx
      exact Or.inl ⟨a, i1, Nat.le_refl _, by rw [hl1]; omega, hf1, hp1, by show _ = _; rw [pf, hpf, hl1]⟩
  have HS := hide hstart
  clear hstart hx hg1
  go_wp2_with fail
  go_loopg [3] n (fun m v wr => ∃ pa, v = .pointer pa ∧ w.grownBy wr (some pb) ∧
      ((∃ acc j, m ≤ n ∧ 6 * (L.drop j).length + 1 ≤ m ∧ IsF wr acc pa ∧ PS wr pb g cap L j false ∧ Hid (pf (n + 1) 1 .nil (L.drop i) = pf m 5 acc (L.drop j))) ∨
       (∃ j, PS wr pb g cap L j true ∧ Hid (pf (n + 1) 1 .nil (L.drop i) = .error (headP (L.drop j))))))
  case atStart => exact unhide HS
  case round =>
    clear HS
    obtain ⟨pa, rfl, hgj, hcase⟩ := hrel
    have HGJ := hide hgj
    clear hgj
    rcases hcase with ⟨acc, j, hm, hmj, hfa, hpj, hxj⟩ | ⟨j, hpj, hxj⟩
    · obtain ⟨m, rfl⟩ : ∃ m, gk = m + 1 := ⟨gk - 1, by omega⟩
      by_cases h16 : headK (L.drop j) = 15
      · obtain ⟨t, u, r, ht, hk⟩ := head_yes hpj.ends (by decide) h16
        have ht2 := drop_tail ht
        have HXJ : Hid (pf (n + 1) 1 .nil (L.drop i) = (match pf m 2 .nil (L.drop (j + 1)) with | .error q => .error q | .ok (b, l2) => pf m 5 (two 11 acc b) l2)) := by
          show _ = _
          rw [hxj.out, pf]; simp only [h16, if_true]; rw [ht, ht2]; rfl
        have hlt2 : 6 * (L.drop (j + 1)).length + 3 ≤ m := by rw [ht2]; rw [ht] at hmj; simp only [List.length_cons] at hmj ⊢; omega
        have HL := hide hlt2
        have HFA := hide hfa
        have HPJ := hide hpj
        have HT := hide ht
        have HK := hide hk
        clear hpj ht h16 hk hfa ht2 hlt2 hxj
        go_wp2_with (go_at_call 247; refine (take_yes _ 15 _ _ _ _ _ _ _ _ _ (unhide HPJ) (unhide HT) rfl (by decide) (by decide) (unhide HK)).mono ?_)
        rintro e w2 ⟨rfl, hp2, hg2⟩
        have HP2 := hide hp2
        have HG2 := hide hg2
        clear hp2 hg2
        go_wp2_with (go_at_call 291; refine ((unhide HU) m (by omega) _ _ _ _ _ _ (unhide HP2) (unhide HL)).mono ?_)
        rintro e w3 ⟨hg3, p3, rfl, hx3⟩
        have HF3 := hide (((unhide HFA).keepP (unhide HPJ) (unhide HG2)).keepP (unhide HP2) hg3)
        have HG3 := hide hg3
        clear hg3
        cases hpf3 : pf m 2 .nil (L.drop (j + 1)) with
        | error q =>
          rw [hpf3] at hx3
          obtain ⟨i3, hq3, hp3⟩ := hx3
          have HX3 : Hid (pf (n + 1) 1 .nil (L.drop i) = .error (headP (L.drop i3))) := by show _ = _; rw [unhide HXJ, hpf3, hq3]
          have HP3 := hide hp3
          clear hp3 hq3 hpf3
          go_wp2_with (go_at_call 252; refine (two_lost _ _ _ _).mono ?_)
          rintro e w4 ⟨v, rfl, hb4⟩
          have HB4 := hide hb4
          clear hb4
          go_wp2_with fail
          go_roundg m
          case measure => omega
          case rel => exact ⟨_, rfl, (((unhide HGJ).trans (unhide HG2)).trans (unhide HG3)).trans (grown_below (unhide HB4) _), Or.inr ⟨i3, (unhide HP3).later (unhide HB4), unhide HX3⟩⟩
        | ok x =>
          obtain ⟨b, l2⟩ := x
          have hlen3 := pf_len _ _ _ _ _ _ hpf3
          rw [hpf3] at hx3
          obtain ⟨hf3, i3, hl3, hp3⟩ := hx3
          subst hl3
          have HX3 : Hid (pf (n + 1) 1 .nil (L.drop i) = pf m 5 (two 11 acc b) (L.drop i3)) := by show _ = _; rw [unhide HXJ, hpf3]
          have HP3 := hide hp3
          have HFB := hide hf3
          have hl3 : 6 * (L.drop i3).length + 1 ≤ m := by have := unhide HL; omega
          clear hp3 hpf3 hf3 hlen3
          go_wp2_with (go_at_call 252; refine (two_any 11 _ _ _ _ _ _ (unhide HF3) (unhide HFB) rfl).mono ?_)
          rintro e w4 ⟨v, rfl, hv, hb4⟩
          have HB4 := hide hb4
          have HV := hide hv
          clear hb4 hv
          go_wp2_with fail
          go_roundg m
          case measure => omega
          case rel => exact ⟨_, rfl, (((unhide HGJ).trans (unhide HG2)).trans (unhide HG3)).trans (grown_below (unhide HB4) _), Or.inl ⟨_, i3, by omega, hl3, unhide HV, (unhide HP3).later (unhide HB4), unhide HX3⟩⟩
      · obtain ⟨t, r, ht, hk⟩ := head_no hpj.ends h16
        have HX : Hid (pf (n + 1) 1 .nil (L.drop i) = .ok (acc, L.drop j)) := by show _ = _; rw [hxj.out, pf]; simp only [h16, if_false]
        have HFA := hide hfa
        have HPJ := hide hpj
        have HT := hide ht
        have HK := hide hk
        clear hpj ht h16 hk hfa hxj
        go_wp2_with (go_at_call 247; refine (take_no _ 15 _ _ _ _ _ _ _ _ _ (unhide HPJ) (unhide HT) rfl (by decide) (by decide) (Or.inr (unhide HK))).mono ?_)
        rintro e w2 ⟨rfl, hp2, hg2⟩
        have HP2 := hide hp2
        have HG2 := hide hg2
        clear hp2 hg2
        go_wp2_with fail
        go_ret
        rw [unhide HX]
        exact ⟨(unhide HGJ).trans (unhide HG2), _, rfl, (unhide HFA).keepP (unhide HPJ) (unhide HG2), j, rfl, unhide HP2⟩
    · obtain ⟨t, r, ht⟩ := drop_ne hpj.lt
      have HPJ := hide hpj
      have HT := hide ht
      have HXJ := hide hxj.out
      clear hpj ht hxj
      go_wp2_with (go_at_call 247; refine (take_no _ 15 _ _ _ _ _ _ _ _ _ (unhide HPJ) (unhide HT) rfl (by decide) (by decide) (Or.inl rfl)).mono ?_)
      rintro e w2 ⟨rfl, hp2, hg2⟩
      have HP2 := hide hp2
      have HG2 := hide hg2
      clear hp2 hg2
      go_wp2_with fail
      go_ret
      rw [unhide HXJ]
      exact ⟨(unhide HGJ).trans (unhide HG2), _, rfl, j, rfl, unhide HP2⟩
def ops5:ByteArray:=⟨#[33,88,78,70,71]⟩
theorem blk_alloc' (w:World) (o:Obj) (n:Nat) (h:n=w.heap.size):(w.alloc o).heap[n]? =some o:=by rw [h];exact blk_alloc w o
theorem within_is (s:ByteArray) (c:UInt8) (b:Bool) (w:World) (hs:s.size≤maxLen) (h:hasC s.data.toList c=b):
  Calls Tryz.prog 279 #[.string s,.int .u8 (c.toNat:Int)] w fun e w'=>e= .returned (.bool b)∧w'=w:=by
 rw [←h];exact within_any s c w hs
set_option maxHeartbeats 1000000 in
theorem unary_fail0 (n:Nat) (w:World) (pb g cap:Nat) (L:List Tk) (i k q:Nat) (s:ByteArray) (r:List Tk) (h:PS w pb g cap L i false) (ht:L.drop i=⟨k,s,q⟩::r)
  (h1:(refK k==111)=false) (h2:(refK k==110)=false) (h3:(refK k==119)=false) (hx:pf n 4 .nil (L.drop i)= .error q):
  Calls Tryz.prog 297 #[.pointer (some ⟨pb,0,none⟩)] w fun e w'=>Left L pb g cap w w' e (pf n 4 .nil (L.drop i)):=by
 rw [hx]
 have HT:=hide ht
 have HP:=hide h
 obtain ⟨c0,c1,c2⟩:=h.cells
 clear h ht hx
 go_enter Tryz.func297,Tryz.ntmps297
 go_wp2_with (go_at_call 201;refine (now_any _ _ _ _ _ _ _ _ _ (unhide HP) (unhide HT)).mono ?_)
 rintro e w1 ⟨rfl,hb⟩
 have HP1:=hide ((unhide HP).later hb)
 have HB:=hide hb
 simp only [tkR]
 clear hb c0 c1 c2
 go_wp2_with (go_at_call 280;refine (fail_any _ _ _ _ _ _ _ ((unhide HP1).alloc _)).mono ?_)
 rintro e w2 ⟨rfl,hp2,hg2⟩
 have HP2:=hide hp2
 have HG2:=hide hg2
 clear hp2 hg2
 go_wp2_with fail
 go_ret
 refine ⟨grown_alloc ((grown_alloc (grown_below (unhide HB) _) _).trans (unhide HG2)) _,_,rfl,i, ?_,(unhide HP2).alloc _⟩
 rw [unhide HT];rfl
set_option maxHeartbeats 1000000 in
theorem unary_fail1 (n:Nat) (w:World) (pb g cap:Nat) (L:List Tk) (i k q:Nat) (c:UInt8) (r:List Tk) (h:PS w pb g cap L i false) (ht:L.drop i=⟨k,⟨#[c]⟩,q⟩::r)
  (h1:(refK k==111)=true) (h2:(refK k==110)=false) (h3:(refK k==119)=false) (hc:hasC ops5.data.toList c=false) (h40:([c]==[40])=false) (hx:pf n 4 .nil (L.drop i)= .error q):
  Calls Tryz.prog 297 #[.pointer (some ⟨pb,0,none⟩)] w fun e w'=>Left L pb g cap w w' e (pf n 4 .nil (L.drop i)):=by
 rw [hx]
 have HT:=hide ht
 have HP:=hide h
 have HC:=hide hc
 obtain ⟨c0,c1,c2⟩:=h.cells
 clear h ht hx hc
 go_enter Tryz.func297,Tryz.ntmps297
 go_wp2_with (go_at_call 201;refine (now_any _ _ _ _ _ _ _ _ _ (unhide HP) (unhide HT)).mono ?_)
 rintro e w1 ⟨rfl,hb⟩
 have HP1:=hide ((unhide HP).later hb)
 have HB:=hide hb
 simp only [tkR]
 clear hb c0 c1 c2
 go_wp2_with (first|(go_at_call 279;refine (within_is _ _ false _ (by decide) (unhide HC)).mono ?_;rintro e w' ⟨rfl,rfl⟩)|(go_at_call 280;refine (fail_any _ _ _ _ _ _ _ ((unhide HP1).alloc _)).mono ?_))
 rintro e w2 ⟨rfl,hp2,hg2⟩
 have HP2:=hide hp2
 have HG2:=hide hg2
 clear hp2 hg2
 go_wp2_with fail
 go_ret
 refine ⟨grown_alloc ((grown_alloc (grown_below (unhide HB) _) _).trans (unhide HG2)) _,_,rfl,i, ?_,(unhide HP2).alloc _⟩
 rw [unhide HT];rfl
set_option maxHeartbeats 1000000 in
theorem unary_fail2 (n:Nat) (w:World) (pb g cap:Nat) (L:List Tk) (i k q:Nat) (r:List Tk) (h:PS w pb g cap L i false) (ht:L.drop i=⟨k,⟨#[45,62]⟩,q⟩::r)
  (h1:(refK k==111)=true) (h2:(refK k==110)=false) (h3:(refK k==119)=false) (hx:pf n 4 .nil (L.drop i)= .error q):
  Calls Tryz.prog 297 #[.pointer (some ⟨pb,0,none⟩)] w fun e w'=>Left L pb g cap w w' e (pf n 4 .nil (L.drop i)):=by
 rw [hx]
 have HT:=hide ht
 have HP:=hide h
 obtain ⟨c0,c1,c2⟩:=h.cells
 clear h ht hx
 go_enter Tryz.func297,Tryz.ntmps297
 go_wp2_with (go_at_call 201;refine (now_any _ _ _ _ _ _ _ _ _ (unhide HP) (unhide HT)).mono ?_)
 rintro e w1 ⟨rfl,hb⟩
 have HP1:=hide ((unhide HP).later hb)
 have HB:=hide hb
 simp only [tkR]
 clear hb c0 c1 c2
 go_wp2_with (go_at_call 280;refine (fail_any _ _ _ _ _ _ _ ((unhide HP1).alloc _)).mono ?_)
 rintro e w2 ⟨rfl,hp2,hg2⟩
 have HP2:=hide hp2
 have HG2:=hide hg2
 clear hp2 hg2
 go_wp2_with fail
 go_ret
 refine ⟨grown_alloc ((grown_alloc (grown_below (unhide HB) _) _).trans (unhide HG2)) _,_,rfl,i, ?_,(unhide HP2).alloc _⟩
 rw [unhide HT];rfl
set_option maxHeartbeats 1000000 in
theorem unary_fail3 (n:Nat) (w:World) (pb g cap:Nat) (L:List Tk) (i k q:Nat) (s:ByteArray) (r:List Tk) (h:PS w pb g cap L i false) (ht:L.drop i=⟨k,s,q⟩::r)
  (h1:(refK k==111)=false) (h2:(refK k==110)=false) (h3:(refK k==119)=true) (h6:(s.toList==[116,114,117,101])=false) (h7:(s.toList==[102,97,108,115,101])=false) (h8:(s.toList==[101,110,100])=false) (hx:pf n 4 .nil (L.drop i)= .error q):
  Calls Tryz.prog 297 #[.pointer (some ⟨pb,0,none⟩)] w fun e w'=>Left L pb g cap w w' e (pf n 4 .nil (L.drop i)):=by
 rw [hx]
 have HT:=hide ht
 have HP:=hide h
 obtain ⟨c0,c1,c2⟩:=h.cells
 clear h ht hx
 go_enter Tryz.func297,Tryz.ntmps297
 go_wp2_with (go_at_call 201;refine (now_any _ _ _ _ _ _ _ _ _ (unhide HP) (unhide HT)).mono ?_)
 rintro e w1 ⟨rfl,hb⟩
 have HP1:=hide ((unhide HP).later hb)
 have HB:=hide hb
 simp only [tkR]
 clear hb c0 c1 c2
 go_wp2_with (go_at_call 280;refine (fail_any _ _ _ _ _ _ _ ((unhide HP1).alloc _)).mono ?_)
 rintro e w2 ⟨rfl,hp2,hg2⟩
 have HP2:=hide hp2
 have HG2:=hide hg2
 clear hp2 hg2
 go_wp2_with fail
 go_ret
 refine ⟨grown_alloc ((grown_alloc (grown_below (unhide HB) _) _).trans (unhide HG2)) _,_,rfl,i, ?_,(unhide HP2).alloc _⟩
 rw [unhide HT];rfl
set_option maxHeartbeats 1000000 in
theorem unary_name (n:Nat) (w:World) (pb g cap:Nat) (L:List Tk) (i k q:Nat) (s:ByteArray) (u:Tk) (r:List Tk) (h:PS w pb g cap L i false) (ht:L.drop i=⟨k,s,q⟩::u::r)
  (h1:(refK k==111)=false) (h2:(refK k==110)=true) (hx:pf n 4 .nil (L.drop i)= .ok (leaf 0 s q,u::r)):
  Calls Tryz.prog 297 #[.pointer (some ⟨pb,0,none⟩)] w fun e w'=>Left L pb g cap w w' e (pf n 4 .nil (L.drop i)):=by
 rw [hx]
 have HT:=hide ht
 have HP:=hide h
 have hlt:=h.lt
 have hlen:=h.len
 obtain ⟨c0,c1,c2⟩:=h.cells
 clear h ht hx
 go_enter Tryz.func297,Tryz.ntmps297
 go_wp2_with (go_at_call 201;refine (now_any _ _ _ _ _ _ _ _ _ (unhide HP) (unhide HT)).mono ?_)
 rintro e w1 ⟨rfl,hb⟩
 have HP1:=hide ((unhide HP).later hb)
 have HB:=hide hb
 simp only [tkR]
 clear hb c0 c1 c2
 obtain ⟨c0,c1,c2⟩:=(unhide HP1).cells
 have hf:=frozen_of_blk (unhide HP1).blk 1
 have hp1:=lt_of_blk (unhide HP1).blk
 go_wp2_with fail
 go_ret
 exact ⟨grown_alloc (grown_alloc ((grown_below (unhide HB) _).trans (grown_set _ _ _ _)) _) _,_,rfl,⟨w1.heap.size+1,none,none,rfl,blk_alloc' _ _ _ (by simp),rfl,rfl⟩,i+1,drop_tail (unhide HT),(((unhide HP1).setI (unhide HT)).alloc _).alloc _⟩
set_option maxHeartbeats 1000000 in
theorem unary_w6 (n:Nat) (w:World) (pb g cap:Nat) (L:List Tk) (i q:Nat) (u:Tk) (r:List Tk) (h:PS w pb g cap L i false) (ht:L.drop i=⟨6,⟨#[116,114,117,101]⟩,q⟩::u::r)
  (hx:pf n 4 .nil (L.drop i)= .ok (leaf 1 ByteArray.empty 0,u::r)):
  Calls Tryz.prog 297 #[.pointer (some ⟨pb,0,none⟩)] w fun e w'=>Left L pb g cap w w' e (pf n 4 .nil (L.drop i)):=by
 have hr:refK 6=119:=rfl
 rw [hx]
 have HT:=hide ht
 have HP:=hide h
 have hlt:=h.lt
 have hlen:=h.len
 obtain ⟨c0,c1,c2⟩:=h.cells
 clear h ht hx
 go_enter Tryz.func297,Tryz.ntmps297
 go_wp2_with (go_at_call 201;refine (now_any _ _ _ _ _ _ _ _ _ (unhide HP) (unhide HT)).mono ?_)
 rintro e w1 ⟨rfl,hb⟩
 have HP1:=hide ((unhide HP).later hb)
 have HB:=hide hb
 simp only [tkR]
 clear hb c0 c1 c2
 obtain ⟨c0,c1,c2⟩:=(unhide HP1).cells
 have hf:=frozen_of_blk (unhide HP1).blk 1
 have hp1:=lt_of_blk (unhide HP1).blk
 simp only [hr]
 go_wp2_with fail
 go_ret
 exact ⟨grown_alloc (grown_alloc ((grown_below (unhide HB) _).trans (grown_set _ _ _ _)) _) _,_,rfl,⟨w1.heap.size+1,none,none,rfl,blk_alloc' _ _ _ (by simp),rfl,rfl⟩,i+1,drop_tail (unhide HT),(((unhide HP1).setI (unhide HT)).alloc _).alloc _⟩
set_option maxHeartbeats 1000000 in
theorem unary_w7 (n:Nat) (w:World) (pb g cap:Nat) (L:List Tk) (i q:Nat) (u:Tk) (r:List Tk) (h:PS w pb g cap L i false) (ht:L.drop i=⟨7,⟨#[102,97,108,115,101]⟩,q⟩::u::r)
  (hx:pf n 4 .nil (L.drop i)= .ok (leaf 2 ByteArray.empty 0,u::r)):
  Calls Tryz.prog 297 #[.pointer (some ⟨pb,0,none⟩)] w fun e w'=>Left L pb g cap w w' e (pf n 4 .nil (L.drop i)):=by
 have hr:refK 7=119:=rfl
 rw [hx]
 have HT:=hide ht
 have HP:=hide h
 have hlt:=h.lt
 have hlen:=h.len
 obtain ⟨c0,c1,c2⟩:=h.cells
 clear h ht hx
 go_enter Tryz.func297,Tryz.ntmps297
 go_wp2_with (go_at_call 201;refine (now_any _ _ _ _ _ _ _ _ _ (unhide HP) (unhide HT)).mono ?_)
 rintro e w1 ⟨rfl,hb⟩
 have HP1:=hide ((unhide HP).later hb)
 have HB:=hide hb
 simp only [tkR]
 clear hb c0 c1 c2
 obtain ⟨c0,c1,c2⟩:=(unhide HP1).cells
 have hf:=frozen_of_blk (unhide HP1).blk 1
 have hp1:=lt_of_blk (unhide HP1).blk
 simp only [hr]
 go_wp2_with fail
 go_ret
 exact ⟨grown_alloc (grown_alloc ((grown_below (unhide HB) _).trans (grown_set _ _ _ _)) _) _,_,rfl,⟨w1.heap.size+1,none,none,rfl,blk_alloc' _ _ _ (by simp),rfl,rfl⟩,i+1,drop_tail (unhide HT),(((unhide HP1).setI (unhide HT)).alloc _).alloc _⟩
set_option maxHeartbeats 1000000 in
theorem unary_w8 (n:Nat) (w:World) (pb g cap:Nat) (L:List Tk) (i q:Nat) (u:Tk) (r:List Tk) (h:PS w pb g cap L i false) (ht:L.drop i=⟨8,⟨#[101,110,100]⟩,q⟩::u::r)
  (hx:pf n 4 .nil (L.drop i)= .ok (leaf 3 ByteArray.empty 0,u::r)):
  Calls Tryz.prog 297 #[.pointer (some ⟨pb,0,none⟩)] w fun e w'=>Left L pb g cap w w' e (pf n 4 .nil (L.drop i)):=by
 have hr:refK 8=119:=rfl
 rw [hx]
 have HT:=hide ht
 have HP:=hide h
 have hlt:=h.lt
 have hlen:=h.len
 obtain ⟨c0,c1,c2⟩:=h.cells
 clear h ht hx
 go_enter Tryz.func297,Tryz.ntmps297
 go_wp2_with (go_at_call 201;refine (now_any _ _ _ _ _ _ _ _ _ (unhide HP) (unhide HT)).mono ?_)
 rintro e w1 ⟨rfl,hb⟩
 have HP1:=hide ((unhide HP).later hb)
 have HB:=hide hb
 simp only [tkR]
 clear hb c0 c1 c2
 obtain ⟨c0,c1,c2⟩:=(unhide HP1).cells
 have hf:=frozen_of_blk (unhide HP1).blk 1
 have hp1:=lt_of_blk (unhide HP1).blk
 simp only [hr]
 go_wp2_with fail
 go_ret
 exact ⟨grown_alloc (grown_alloc ((grown_below (unhide HB) _).trans (grown_set _ _ _ _)) _) _,_,rfl,⟨w1.heap.size+1,none,none,rfl,blk_alloc' _ _ _ (by simp),rfl,rfl⟩,i+1,drop_tail (unhide HT),(((unhide HP1).setI (unhide HT)).alloc _).alloc _⟩
set_option maxHeartbeats 1000000 in
theorem unary_op (n:Nat) (hU:SU n) (w:World) (pb g cap:Nat) (L:List Tk) (i k q:Nat) (c:UInt8) (u:Tk) (r:List Tk) (h:PS w pb g cap L i false) (ht:L.drop i=⟨k,⟨#[c]⟩,q⟩::u::r)
  (h1:(refK k==111)=true) (hc:hasC ops5.data.toList c=true) (hop:(c.toNat:Int)=refO (opOf k)) (hn:6 * (L.drop (i+1)).length+1≤n)
  (hx:pf (n+1) 4 .nil (L.drop i)=(match pf n 4 .nil (L.drop (i+1)) with| .error q=> .error q| .ok (a,l1)=> .ok (one (opOf k) a,l1))):
  Calls Tryz.prog 297 #[.pointer (some ⟨pb,0,none⟩)] w fun e w'=>Left L pb g cap w w' e (pf (n+1) 4 .nil (L.drop i)):=by
 have HU:=hide hU
 have HN:=hide hn
 have HC:=hide hc
 have HOP:=hide hop
 clear hU hn hc hop
 have HX:=hide hx
 have HT:=hide ht
 have HP:=hide h
 have hlt:=h.lt
 have hlen:=h.len
 obtain ⟨c0,c1,c2⟩:=h.cells
 clear h ht hx
 go_enter Tryz.func297,Tryz.ntmps297
 go_wp2_with (go_at_call 201;refine (now_any _ _ _ _ _ _ _ _ _ (unhide HP) (unhide HT)).mono ?_)
 rintro e w1 ⟨rfl,hb⟩
 have HP1:=hide ((unhide HP).later hb)
 have HB:=hide hb
 simp only [tkR]
 clear hb c0 c1 c2
 obtain ⟨c0,c1,c2⟩:=(unhide HP1).cells
 have hf:=frozen_of_blk (unhide HP1).blk 1
 have hp1:=lt_of_blk (unhide HP1).blk
 go_wp2_with (first|(go_at_call 279;refine (within_is _ _ true _ (by decide) (unhide HC)).mono ?_;rintro e w' ⟨rfl,rfl⟩)|(go_at_call 297;refine ((unhide HU) _ _ _ _ _ _ (((unhide HP1).setI (unhide HT)).alloc _) (unhide HN)).mono ?_))
 rintro e w2 ⟨hg2,p2,rfl,hx2⟩
 have HG2:=hide hg2
 have hbx2:w2.heap[w1.heap.size]? =some (.cells #[.int .u8 (refK k),.string ⟨#[c]⟩,.int .i64 q] 232 (0,0)):=
   (hg2.block _ (by simp) (by simp;omega)).trans (blk_alloc' _ _ _ (by simp))
 have b1:=cell_of_blk hbx2 1
 simp at b1
 clear hg2 hbx2 c0 c1 c2
 cases hpf:pf n 4 .nil (L.drop (i+1)) with
 |error q=>
  rw [hpf] at hx2
  have HX2:Hid (pf (n+1) 4 .nil (L.drop i)= .error q):=by show _=_;rw [unhide HX,hpf]
  obtain ⟨i3,hq3,hp3⟩:=hx2
  have HP3:=hide hp3
  have HQ3:=hide hq3
  clear hp3 hq3 hpf
  go_wp2_with fail
  go_ret
  rw [unhide HX2]
  exact ⟨grown_alloc ((grown_alloc ((grown_below (unhide HB) _).trans (grown_set _ _ _ _)) _).trans (unhide HG2)) _,_,rfl,i3,unhide HQ3,(unhide HP3).alloc _⟩
 |ok x=>
  obtain ⟨a,l1⟩:=x
  rw [hpf] at hx2
  have HX2:Hid (pf (n+1) 4 .nil (L.drop i)= .ok (one (opOf k) a,l1)):=by show _=_;rw [unhide HX,hpf]
  obtain ⟨hf3,i3,hq3,hp3⟩:=hx2
  have HP3:=hide hp3
  have HQ3:=hide hq3
  have HF3:=hide hf3
  clear hp3 hq3 hpf hf3
  go_wp2_with fail
  go_ret
  rw [unhide HX2]
  refine ⟨grown_alloc ((grown_alloc ((grown_below (unhide HB) _).trans (grown_set _ _ _ _)) _).trans (unhide HG2)) _,_,rfl,⟨w2.heap.size,p2,none,rfl, ?_,(unhide HF3).later ((Below.refl _ _).alloc (Nat.le_refl _) _),rfl⟩,i3,unhide HQ3,(unhide HP3).alloc _⟩
  rw [blk_alloc,←unhide HOP];rfl
set_option maxHeartbeats 1000000 in
theorem unary_bracket (n:Nat) (hF:SF n) (w:World) (pb g cap:Nat) (L:List Tk) (i k q:Nat) (u:Tk) (r:List Tk) (h:PS w pb g cap L i false) (ht:L.drop i=⟨k,⟨#[40]⟩,q⟩::u::r)
  (h1:(refK k==111)=true) (hn:6 * (L.drop (i+1)).length+5≤n)
  (hx:pf (n+1) 4 .nil (L.drop i)=(match pf n 0 .nil (L.drop (i+1)) with| .error q=> .error q| .ok (a,l1)=>if headK l1=19 then .ok (a,l1.tail) else .error (headP l1))):
  Calls Tryz.prog 297 #[.pointer (some ⟨pb,0,none⟩)] w fun e w'=>Left L pb g cap w w' e (pf (n+1) 4 .nil (L.drop i)):=by
 have HU:=hide hF
 have HN:=hide hn
 have HC:Hid (hasC ops5.data.toList 40=false):=by show _=_;rfl
 clear hF hn
 have HX:=hide hx
 have HT:=hide ht
 have HP:=hide h
 have hlt:=h.lt
 have hlen:=h.len
 obtain ⟨c0,c1,c2⟩:=h.cells
 clear h ht hx
 go_enter Tryz.func297,Tryz.ntmps297
 go_wp2_with (go_at_call 201;refine (now_any _ _ _ _ _ _ _ _ _ (unhide HP) (unhide HT)).mono ?_)
 rintro e w1 ⟨rfl,hb⟩
 have HP1:=hide ((unhide HP).later hb)
 have HB:=hide hb
 simp only [tkR]
 clear hb c0 c1 c2
 obtain ⟨c0,c1,c2⟩:=(unhide HP1).cells
 have hf:=frozen_of_blk (unhide HP1).blk 1
 have hp1:=lt_of_blk (unhide HP1).blk
 go_wp2_with (first|(go_at_call 279;refine (within_is _ _ false _ (by decide) (unhide HC)).mono ?_;rintro e w' ⟨rfl,rfl⟩)|(go_at_call 282;refine ((unhide HU) _ _ _ _ _ _ (((unhide HP1).setI (unhide HT)).alloc _) (unhide HN)).mono ?_))
 rintro e w2 ⟨hg2,p2,rfl,hx2⟩
 have HG2:=hide hg2
 clear hg2 c0 c1 c2
 cases hpf:pf n 0 .nil (L.drop (i+1)) with
 |error q=>
  rw [hpf] at hx2
  have HX2:Hid (pf (n+1) 4 .nil (L.drop i)= .error q):=by show _=_;rw [unhide HX,hpf]
  obtain ⟨i3,hq3,hp3⟩:=hx2
  obtain ⟨t3,r3,ht3⟩:=drop_ne hp3.lt
  have HP3:=hide hp3
  have HQ3:=hide hq3
  have HT3:=hide ht3
  clear hp3 hq3 hpf ht3
  go_wp2_with (go_at_call 245;refine (must_no _ 19 _ _ _ _ _ _ _ _ _ (unhide HP3) (unhide HT3) rfl (by decide) (by decide) (Or.inl rfl)).mono ?_)
  rintro e w4 ⟨rfl,hp4,hg4⟩
  have HP4:=hide hp4
  have HG4:=hide hg4
  clear hp4 hg4
  go_wp2_with fail
  go_ret
  rw [unhide HX2]
  exact ⟨((grown_alloc ((grown_below (unhide HB) _).trans (grown_set _ _ _ _)) _).trans (unhide HG2)).trans (unhide HG4),_,rfl,i3,unhide HQ3,unhide HP4⟩
 |ok x=>
  obtain ⟨a,l1⟩:=x
  rw [hpf] at hx2
  obtain ⟨hf3,i3,hq3,hp3⟩:=hx2
  subst hq3
  by_cases h19:headK (L.drop i3)=19
  ·obtain ⟨t3,u3,r3,ht3,hk3⟩:=head_yes hp3.ends (by decide) h19
   have HX2:Hid (pf (n+1) 4 .nil (L.drop i)= .ok (a,L.drop (i3+1))):=by show _=_;rw [unhide HX,hpf];simp only [h19,if_true];rw [drop_tail ht3,ht3];rfl
   have HP3:=hide hp3
   have HF3:=hide hf3
   have HT3:=hide ht3
   have HK3:=hide hk3
   clear hp3 hpf hf3 ht3 hk3 h19
   go_wp2_with (go_at_call 245;refine (must_yes _ 19 _ _ _ _ _ _ _ _ _ (unhide HP3) (unhide HT3) rfl (by decide) (by decide) (unhide HK3)).mono ?_)
   rintro e w4 ⟨rfl,hp4,hg4⟩
   have HP4:=hide hp4
   have HG4:=hide hg4
   clear hp4 hg4
   go_wp2_with fail
   go_ret
   rw [unhide HX2]
   exact ⟨((grown_alloc ((grown_below (unhide HB) _).trans (grown_set _ _ _ _)) _).trans (unhide HG2)).trans (unhide HG4),_,rfl,(unhide HF3).keepP (unhide HP3) (unhide HG4),i3+1,rfl,unhide HP4⟩
  ·obtain ⟨t3,r3,ht3,hk3⟩:=head_no hp3.ends h19
   have HX2:Hid (pf (n+1) 4 .nil (L.drop i)= .error (headP (L.drop i3))):=by show _=_;rw [unhide HX,hpf];simp only [h19,if_false]
   have HP3:=hide hp3
   have HT3:=hide ht3
   have HK3:=hide hk3
   clear hp3 hpf hf3 ht3 hk3 h19
   go_wp2_with (go_at_call 245;refine (must_no _ 19 _ _ _ _ _ _ _ _ _ (unhide HP3) (unhide HT3) rfl (by decide) (by decide) (Or.inr (unhide HK3))).mono ?_)
   rintro e w4 ⟨rfl,hp4,hg4⟩
   have HP4:=hide hp4
   have HG4:=hide hg4
   clear hp4 hg4
   go_wp2_with fail
   go_ret
   rw [unhide HX2]
   exact ⟨((grown_alloc ((grown_below (unhide HB) _).trans (grown_set _ _ _ _)) _).trans (unhide HG2)).trans (unhide HG4),_,rfl,i3,rfl,unhide HP4⟩
theorem s_of_list {s:ByteArray} {l:List UInt8} (h:s.data.toList=l):s=⟨l.toArray⟩:=by
 obtain ⟨⟨d⟩⟩:=s
 have:d=l:=h
 rw [this]
theorem Ends.more {t:Tk} {r:List Tk} (h:Ends (t::r)) (hk:2≤t.k): ∃u r',r=u::r':=by
 cases r with
 |nil=>exact absurd (show t.k≤1 from h) (by omega)
 |cons u r=>exact ⟨u,r,rfl⟩
set_option maxHeartbeats 1000000 in
theorem unary_step (n:Nat) (hU:SU n) (hF:SF n):SU (n+1):=by
 intro w pb g cap L i h hn
 obtain ⟨⟨k,s,q⟩,r,ht⟩:=drop_ne h.lt
 have hok:=h.ok _ (drop_mem ht)
 obtain ⟨hk21,hs,_,_⟩:=hok
 dsimp only at hk21 hs
 have hen:=h.ends
 rw [ht] at hen
 by_cases hk2:2≤k
 ·obtain ⟨u,r',rfl⟩:=hen.more hk2
  have ht2:=drop_tail ht
  have hn2:6 * (L.drop (i+1)).length+5≤n:=by rw [ht2];rw [ht] at hn;simp only [List.length_cons] at hn⊢;omega
  have hcases:k=2∨k=3∨k=4∨k=5∨k=6∨k=7∨k=8∨k=9∨k=10∨k=11∨k=12∨k=13∨k=14∨k=15∨k=16∨k=17∨k=18∨k=19∨k=20∨k=21:=by omega
  rcases hcases with rfl|rfl|rfl|rfl|rfl|rfl|rfl|rfl|rfl|rfl|rfl|rfl|rfl|rfl|rfl|rfl|rfl|rfl|rfl|rfl
  ·exact unary_name (n+1) w pb g cap L i 2 q s u r' h ht (by decide) (by decide) (by rw [ht,pf];simp [headK,opOf,headS,headP])
  ·exact unary_fail0 (n+1) w pb g cap L i 3 q s _ h ht (by decide) (by decide) (by decide) (by rw [ht,pf];simp [headK,opOf,headP])
  ·have hs':=s_of_list (hs (by decide));subst hs'
   exact unary_fail3 (n+1) w pb g cap L i 4 q _ _ h ht (by decide) (by decide) (by decide) (by rw [ByteArray.toList_eq];decide) (by rw [ByteArray.toList_eq];decide) (by rw [ByteArray.toList_eq];decide) (by rw [ht,pf];simp [headK,opOf,headP])
  ·have hs':=s_of_list (hs (by decide));subst hs'
   exact unary_fail3 (n+1) w pb g cap L i 5 q _ _ h ht (by decide) (by decide) (by decide) (by rw [ByteArray.toList_eq];decide) (by rw [ByteArray.toList_eq];decide) (by rw [ByteArray.toList_eq];decide) (by rw [ht,pf];simp [headK,opOf,headP])
  ·have hs':=s_of_list (hs (by decide));subst hs'
   exact unary_w6 (n+1) w pb g cap L i q u r' h ht (by rw [ht,pf];simp [headK,opOf])
  ·have hs':=s_of_list (hs (by decide));subst hs'
   exact unary_w7 (n+1) w pb g cap L i q u r' h ht (by rw [ht,pf];simp [headK,opOf])
  ·have hs':=s_of_list (hs (by decide));subst hs'
   exact unary_w8 (n+1) w pb g cap L i q u r' h ht (by rw [ht,pf];simp [headK,opOf])
  ·have hs':=s_of_list (hs (by decide));subst hs'
   exact unary_op n hU w pb g cap L i 9 q 88 u r' h ht (by decide) (by decide) (by decide) (by omega) (by rw [ht2,ht,pf];rfl)
  ·have hs':=s_of_list (hs (by decide));subst hs'
   exact unary_op n hU w pb g cap L i 10 q 78 u r' h ht (by decide) (by decide) (by decide) (by omega) (by rw [ht2,ht,pf];rfl)
  ·have hs':=s_of_list (hs (by decide));subst hs'
   exact unary_op n hU w pb g cap L i 11 q 70 u r' h ht (by decide) (by decide) (by decide) (by omega) (by rw [ht2,ht,pf];rfl)
  ·have hs':=s_of_list (hs (by decide));subst hs'
   exact unary_op n hU w pb g cap L i 12 q 71 u r' h ht (by decide) (by decide) (by decide) (by omega) (by rw [ht2,ht,pf];rfl)
  ·have hs':=s_of_list (hs (by decide));subst hs'
   exact unary_fail1 (n+1) w pb g cap L i 13 q 85 _ h ht (by decide) (by decide) (by decide) (by decide) (by decide) (by rw [ht,pf];simp [headK,opOf,headP])
  ·have hs':=s_of_list (hs (by decide));subst hs'
   exact unary_fail2 (n+1) w pb g cap L i 14 q _ h ht (by decide) (by decide) (by decide) (by rw [ht,pf];simp [headK,opOf,headP])
  ·have hs':=s_of_list (hs (by decide));subst hs'
   exact unary_fail1 (n+1) w pb g cap L i 15 q 124 _ h ht (by decide) (by decide) (by decide) (by decide) (by decide) (by rw [ht,pf];simp [headK,opOf,headP])
  ·have hs':=s_of_list (hs (by decide));subst hs'
   exact unary_fail1 (n+1) w pb g cap L i 16 q 38 _ h ht (by decide) (by decide) (by decide) (by decide) (by decide) (by rw [ht,pf];simp [headK,opOf,headP])
  ·have hs':=s_of_list (hs (by decide));subst hs'
   exact unary_op n hU w pb g cap L i 17 q 33 u r' h ht (by decide) (by decide) (by decide) (by omega) (by rw [ht2,ht,pf];rfl)
  ·have hs':=s_of_list (hs (by decide));subst hs'
   exact unary_bracket n hF w pb g cap L i 18 q u r' h ht (by decide) (by omega) (by rw [ht2,ht,pf];rfl)
  ·have hs':=s_of_list (hs (by decide));subst hs'
   exact unary_fail1 (n+1) w pb g cap L i 19 q 41 _ h ht (by decide) (by decide) (by decide) (by decide) (by decide) (by rw [ht,pf];simp [headK,opOf,headP])
  ·have hs':=s_of_list (hs (by decide));subst hs'
   exact unary_fail1 (n+1) w pb g cap L i 20 q 44 _ h ht (by decide) (by decide) (by decide) (by decide) (by decide) (by rw [ht,pf];simp [headK,opOf,headP])
  ·have hs':=s_of_list (hs (by decide));subst hs'
   exact unary_fail1 (n+1) w pb g cap L i 21 q 59 _ h ht (by decide) (by decide) (by decide) (by decide) (by decide) (by rw [ht,pf];simp [headK,opOf,headP])
 ·have hcases:k=0∨k=1:=by omega
  rcases hcases with rfl|rfl
  ·exact unary_fail0 (n+1) w pb g cap L i 0 q s _ h ht (by decide) (by decide) (by decide) (by rw [ht,pf];simp [headK,opOf,headP])
  ·exact unary_fail0 (n+1) w pb g cap L i 1 q s _ h ht (by decide) (by decide) (by decide) (by rw [ht,pf];simp [headK,opOf,headP])
theorem reads_all: ∀n m,m≤n→SU m∧ST m∧SA m∧SO m∧SF m
 |0,m,hm=>by
  have:m=0:=by omega
  subst this
  exact ⟨fun _ _ _ _ _ _ _ h=>by omega,fun _ _ _ _ _ _ _ h=>by omega,fun _ _ _ _ _ _ _ h=>by omega,fun _ _ _ _ _ _ _ h=>by omega,fun _ _ _ _ _ _ _ h=>by omega⟩
 |n+1,m,hm=>by
  by_cases hlt:m≤n
  ·exact reads_all n m hlt
  ·have:m=n+1:=by omega
   subst this
   have ih:=reads_all n
   have hn:=ih n (Nat.le_refl _)
   exact ⟨unary_step n hn.1 hn.2.2.2.2,until_step n hn.1,and_step n (fun m hm=>(ih m hm).2.1),or_step n (fun m hm=>(ih m hm).2.2.1),formula_step n hn.2.2.2.1 hn.2.2.2.2⟩
theorem formula_any (n:Nat):SF n:=(reads_all n n (Nat.le_refl _)).2.2.2.2
end Go.Proofs.YtidakhhekofkoaaGreatDoor
