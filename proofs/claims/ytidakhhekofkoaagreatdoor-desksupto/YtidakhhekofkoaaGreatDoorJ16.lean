/- The program's IsName, allStates, leadsTo, rightActs. -/
import Derived.Test.YtidakhhekofkoaaGreatDoorJ02
import Derived.Test.YtidakhhekofkoaaGreatDoorJ09
import Derived.Test.YtidakhhekofkoaaGreatDoorJ11
import Derived.Deep.RegionHeld
import Derived.Deep.DeepCutAuto
import Derived.BigQuiet
import Derived.Test.YtidakhhekofkoaaGreatDoorJ01
set_option linter.unusedSimpArgs false
set_option linter.unusedVariables false
namespace Go.Proofs.YtidakhhekofkoaaGreatDoor
open Go.RowKit Go.Deep
def InS (w:World) (o:Option Addr) (l:List Int):Prop:= ∀(j:Nat) (x:Int),l[j]? =some x→ ∃b off,o=some ⟨b,off,none⟩∧b<w.heap.size∧w.cell? ⟨b,off+j,none⟩=some (.int .i64 x)
def BoS (w:World) (o:Option Addr) (l:List Bool):Prop:= ∀(j:Nat) (x:Bool),l[j]? =some x→ ∃b off,o=some ⟨b,off,none⟩∧b<w.heap.size∧w.cell? ⟨b,off+j,none⟩=some (.bool x)
def RwS (w:World) (o:Option Addr) (l:List (List Int)):Prop:= ∀(j:Nat) (r:List Int),l[j]? =some r→ ∃b off ro rc,o=some ⟨b,off,none⟩∧b<w.heap.size∧w.cell? ⟨b,off+j,none⟩=some (.slice ro r.length rc)∧InS w ro r
theorem InS.later {w w':World} {o:Option Addr} {l:List Int} (h:InS w o l) (hb:Below w.heap.size w w'):InS w' o l:=fun j x hx=>by
 obtain ⟨b,off,h1,h2,h3⟩:=h j x hx
 exact ⟨b,off,h1,Nat.lt_of_lt_of_le h2 hb.size,(bcell3 hb _ _ h2).trans h3⟩
theorem RwS.later {w w':World} {o:Option Addr} {l:List (List Int)} (h:RwS w o l) (hb:Below w.heap.size w w'):RwS w' o l:=fun j x hx=>by
 obtain ⟨b,off,ro,rc,h1,h2,h3,h4⟩:=h j x hx
 exact ⟨b,off,ro,rc,h1,Nat.lt_of_lt_of_le h2 hb.size,(bcell3 hb _ _ h2).trans h3,h4.later hb⟩
def TellsB (p:Prop) (e:Ending):Prop:= ∃b,e= .returned (.bool b)∧(b=true↔p)
theorem TellsB.yes {p:Prop} (h:p):TellsB p (.returned (.bool true)):=⟨true,rfl,fun _=>h,fun _=>rfl⟩
theorem TellsB.no {p:Prop} (h:¬ p):TellsB p (.returned (.bool false)):=⟨false,rfl,fun e=>Bool.noConfusion e,fun k=>absurd k h⟩
theorem span_all {p:UInt8→Bool}: ∀{l:List UInt8},span p l=l.length↔ ∀c∈l,p c=true
 |[]=>⟨fun _ c hc=>(List.not_mem_nil hc).elim,fun _=>rfl⟩
 |c::r=>by
  rw [span,List.length_cons]
  by_cases h:p c=true
  ·rw [if_pos h]
   have ih:=span_all (p:=p) (l:=r)
   constructor
   ·intro e d hd
    rcases List.mem_cons.1 hd with rfl|hd
    ·exact h
    ·exact ih.1 (by omega) d hd
   ·intro e
    have:=ih.2 (fun d hd=>e d (List.mem_cons_of_mem _ hd))
    omega
  ·rw [if_neg h]
   exact ⟨fun e=>by omega,fun e=>absurd (e c (List.mem_cons_self ..)) h⟩
theorem wordK_two (l:List UInt8):wordK l=2↔isWord l=false:=by
 unfold wordK isWord
 by_cases h1:l=[97,99,116,115]
 ·simp [h1]
 ·by_cases h2:l=[114,117,108,101]
  ·simp [h2]
  ·by_cases h3:l=[116,114,117,101]
   ·simp [h3]
   ·by_cases h4:l=[102,97,108,115,101]
    ·simp [h4]
    ·by_cases h5:l=[101,110,100]
     ·simp [h5]
     ·simp [h1,h2,h3,h4,h5]
set_option maxHeartbeats 2000000 in
set_option maxRecDepth 100000 in
theorem IsName_any (s:ByteArray) (w:World) (hG:GV w):
  Calls Tryz.prog 131 #[.string s] w fun e w'=>TellsB (NmOk s) e∧Below w.heap.size w w':=by
 have HG:=hide hG
 clear hG
 by_cases h1:1≤s.size
 ·by_cases h8:s.size≤8
  ·have HL:=hide (lettersEnd_any s w (by unfold maxLen;omega))
   have hi1:(1:Int)≤(s.size:Int):=by omega
   have hi8:(s.size:Int)≤8:=by omega
   have hu:upTo isLet s 0=span isLet s.data.toList:=by unfold upTo;simp
   by_cases hal: ∀c∈s.data.toList,isLet c=true
   ·have hue:upTo isLet s 0=s.size:=by rw [hu,span_all.2 hal,size_data]
    rw [hue] at HL
    have HW:=hide (wordKind_any s w (unhide HG))
    by_cases hwd:isWord s.data.toList=false
    ·have HN:Hid (NmOk s):=⟨h1,h8,hal,hwd⟩
     have hk2:wordK s.toList=2:=(wordK_two _).2 (by rw [ByteArray.toList_eq];exact hwd)
     rw [hk2] at HW
     clear hal hu hue hwd hk2
     go_enter Tryz.func131,Tryz.ntmps131
     go_wp2_with (go_at_call 170;refine (unhide HL).mono ?_)
     rintro e w1 ⟨rfl,hw1⟩
     have h2:=hw1.symm
     clear hw1
     subst h2
     go_wp2_with (go_at_call 171;refine (unhide HW).mono ?_)
     rintro e w2 ⟨rfl,hb2⟩
     have HB:=hide hb2
     clear hb2
     go_wp2_with fail
     go_ret
     exact ⟨TellsB.yes (unhide HN),unhide HB⟩
    ·have HN:Hid (¬ NmOk s):=fun h=>hwd h.wd
     have hk2:wordK s.toList≠2:=fun e=>hwd ((wordK_two _).1 (by rw [←e,ByteArray.toList_eq]))
     have hk3:(((wordK s.toList:Nat):Int)==2)=false:=by rw [beq_eq_false_iff_ne];omega
     clear hal hu hue hwd hk2
     go_enter Tryz.func131,Tryz.ntmps131
     go_wp2_with (go_at_call 170;refine (unhide HL).mono ?_)
     rintro e w1 ⟨rfl,hw1⟩
     have h2:=hw1.symm
     clear hw1
     subst h2
     go_wp2_with (go_at_call 171;refine (unhide HW).mono ?_)
     rintro e w2 ⟨rfl,hb2⟩
     have HB:=hide hb2
     clear hb2
     go_wp2_with fail
     go_ret
     exact ⟨TellsB.no (unhide HN),unhide HB⟩
   ·have HN:Hid (¬ NmOk s):=fun h=>hal h.lt
    have hue:¬ (upTo isLet s 0:Int)=(s.size:Int):=by
     rw [hu]
     intro e
     exact hal (span_all.1 (by rw [size_data];omega))
    clear hal hu
    go_enter Tryz.func131,Tryz.ntmps131
    go_wp2_with (go_at_call 170;refine (unhide HL).mono ?_)
    rintro e w1 ⟨rfl,hw1⟩
    have h2:=hw1.symm
    clear hw1
    subst h2
    go_wp2_with fail
    go_ret
    exact ⟨TellsB.no (unhide HN),Below.refl _ _⟩
  ·have HN:Hid (¬ NmOk s):=fun h=>h8 h.n8
   have hi1:(1:Int)≤(s.size:Int):=by omega
   have hi8:¬ (s.size:Int)≤8:=by omega
   go_enter Tryz.func131,Tryz.ntmps131
   go_wp2_with fail
   go_ret
   exact ⟨TellsB.no (unhide HN),Below.refl _ _⟩
 ·have HN:Hid (¬ NmOk s):=fun h=>h1 h.n1
  have hi1:¬ (1:Int)≤(s.size:Int):=by omega
  go_enter Tryz.func131,Tryz.ntmps131
  go_wp2_with fail
  go_ret
  exact ⟨TellsB.no (unhide HN),Below.refl _ _⟩
theorem all_take_false {α:Type} {p:α→Bool} {l:List α} {k:Nat} {x:α} (hx:l[k]? =some x) (h:p x=false):l.all p=false:=by
 rw [List.all_eq_false]
 exact ⟨x,List.mem_of_getElem? hx,by rw [h];decide⟩
theorem all_take_succ {α:Type} {p:α→Bool} {l:List α} {k:Nat} {x:α} (hx:l[k]? =some x) (h:p x=true) (ht:(l.take k).all p=true):(l.take (k+1)).all p=true:=by
 rw [List.take_add_one,hx,List.all_append,ht]
 simp [h]
theorem any_take_true {α:Type} {p:α→Bool} {l:List α} {k:Nat} {x:α} (hx:l[k]? =some x) (h:p x=true):l.any p=true:=by
 rw [List.any_eq_true]
 exact ⟨x,List.mem_of_getElem? hx,h⟩
theorem any_take_succ {α:Type} {p:α→Bool} {l:List α} {k:Nat} {x:α} (hx:l[k]? =some x) (h:p x=false) (ht:(l.take k).any p=false):(l.take (k+1)).any p=false:=by
 rw [List.take_add_one,hx,List.any_append,ht]
 simp [h]
set_option maxHeartbeats 1000000 in
set_option maxRecDepth 100000 in
theorem allStates_any (w:World) (ro:Option Addr) (rc:Nat) (r:List Int) (n:Nat) (h:InS w ro r) (hl:r.length≤10000000000000):
  Calls Tryz.prog 132 #[.slice ro r.length rc,.int .i64 (n:Int)] w fun e w'=>e= .returned (.bool (r.all (stOk n)))∧w'=w:=by
 have H:=hide h
 clear h
 go_enter Tryz.func132,Tryz.ntmps132
 go_wp2_with fail
 go_loopw [9] (fun x wr=> ∃k:Nat,k≤r.length∧x= .int .i64 k∧Hid (w=wr)∧Hid ((r.take k).all (stOk n)=true)) (fun x _=>r.length - (intOf x).toNat)
 case atStart=>exact ⟨0,Nat.zero_le _,rfl,rfl,rfl⟩
 case round=>
  obtain ⟨k,hk,rfl,HW,HK⟩:=hrel
  have hw:=unhide HW
  subst hw
  clear HW
  by_cases hlt:k<r.length
  ·have hkn:(k:Int)<(r.length:Int):=by omega
   obtain ⟨b,off,rfl,hb,hc⟩:=unhide H k r[k] (List.getElem?_eq_getElem hlt)
   have HX:=hide (List.getElem?_eq_getElem hlt)
   generalize r[k]=x at *
   by_cases h0:x<0
   ·have HF:=hide (all_take_false (p:=stOk n) (unhide HX) (by unfold stOk;rw [decide_eq_false (by omega)];rfl))
    go_wp2_with fail
    go_ret
    exact ⟨ret_bool (unhide HF).symm,rfl⟩
   ·by_cases h1:(n:Int)≤x
    ·have HF:=hide (all_take_false (p:=stOk n) (unhide HX) (by unfold stOk;rw [decide_eq_false (show ¬ x<(n:Int) by omega),Bool.and_false]))
     go_wp2_with fail
     go_ret
     exact ⟨ret_bool (unhide HF).symm,rfl⟩
    ·have HF:=hide (all_take_succ (p:=stOk n) (unhide HX) (by unfold stOk;rw [decide_eq_true (show 0≤x by omega),decide_eq_true (show x<(n:Int) by omega)];rfl) (unhide HK))
     go_wp2_with fail
     go_roundw
     case rel=>exact ⟨k+1,by omega,by go_num,trivial,HF⟩
     case measure=>simp [intOf];omega
  ·have hkn:¬ (k:Int)<(r.length:Int):=by omega
   rw [List.take_of_length_le (by omega)] at HK
   go_wp2_with fail
   go_ret
   exact ⟨ret_bool (unhide HK).symm,rfl⟩
set_option maxHeartbeats 1000000 in
set_option maxRecDepth 100000 in
theorem leadsTo_any (w:World) (ro:Option Addr) (rc:Nat) (r:List Int) (so:Option Addr) (sc:Nat) (L:List Bool) (h:InS w ro r) (hL:BoS w so L) (hr:r.all (stOk L.length)=true) (hl:r.length≤10000000000000) (hl2:L.length≤10000000000000):
  Calls Tryz.prog 172 #[.slice ro r.length rc,.slice so L.length sc] w fun e w'=>e= .returned (.bool (r.any fun x=>lv L x.toNat))∧w'=w:=by
 have H:=hide h
 have HL:=hide hL
 have HR:=hide hr
 clear h hL hr
 go_enter Tryz.func172,Tryz.ntmps172
 go_wp2_with fail
 go_loopw [9] (fun x wr=> ∃k:Nat,k≤r.length∧x= .int .i64 k∧Hid (w=wr)∧Hid ((r.take k).any (fun x=>lv L x.toNat)=false)) (fun x _=>r.length - (intOf x).toNat)
 case atStart=>exact ⟨0,Nat.zero_le _,rfl,rfl,rfl⟩
 case round=>
  obtain ⟨k,hk,rfl,HW,HK⟩:=hrel
  have hw:=unhide HW
  subst hw
  clear HW
  by_cases hlt:k<r.length
  ·have hkn:(k:Int)<(r.length:Int):=by omega
   obtain ⟨b,off,rfl,hb,hc⟩:=unhide H k r[k] (List.getElem?_eq_getElem hlt)
   have HX:=hide (List.getElem?_eq_getElem hlt)
   have hx:=List.all_eq_true.1 (unhide HR) r[k] (List.getElem_mem hlt)
   generalize r[k]=x at *
   unfold stOk at hx
   have hx0:0≤x:=by simp at hx;omega
   have hx1:x<(L.length:Int):=by simp at hx;omega
   clear hx
   obtain ⟨y,rfl⟩: ∃y:Nat,x=(y:Int):=⟨x.toNat,by omega⟩
   have hy:y<L.length:=by omega
   obtain ⟨b2,off2,rfl,hb2,hc2⟩:=unhide HL y L[y] (List.getElem?_eq_getElem hy)
   have HY:Hid (lv L ((y:Int)).toNat=L[y]):=by
    show _=_
    unfold lv
    rw [Int.toNat_natCast,List.getElem?_eq_getElem hy];rfl
   generalize hz:L[y]=z at *
   clear hz
   cases z with
   |true=>
    have HF:=hide (any_take_true (p:=fun x=>lv L x.toNat) (unhide HX) (unhide HY))
    go_wp2_with fail
    go_ret
    exact ⟨ret_bool (unhide HF).symm,rfl⟩
   |false=>
    have HF:=hide (any_take_succ (p:=fun x=>lv L x.toNat) (unhide HX) (unhide HY) (unhide HK))
    go_wp2_with fail
    go_roundw
    case rel=>exact ⟨k+1,by omega,by go_num,trivial,HF⟩
    case measure=>simp [intOf];omega
  ·have hkn:¬ (k:Int)<(r.length:Int):=by omega
   rw [List.take_of_length_le (by omega)] at HK
   go_wp2_with fail
   go_ret
   exact ⟨ret_bool (unhide HK).symm,rfl⟩
theorem TxS.cells {w:World} {b off:Nat} {l:List ByteArray} (h:TxS w (some ⟨b,off,none⟩) l): ∀j,j<l.length→w.cell? ⟨b,off+j,none⟩=some (.string (l.getD j ByteArray.empty)):=fun j hj=>by
 obtain ⟨b',off',h1,_,h3⟩:=h j l[j] (List.getElem?_eq_getElem hj)
 cases h1
 rw [h3,List.getD_eq_getElem?_getD,List.getElem?_eq_getElem hj]
 rfl
set_option maxHeartbeats 2000000 in
set_option maxRecDepth 100000 in
theorem rightActs_any (w:World) (ao:Option Addr) (ac:Nat) (l:List ByteArray) (hT:TxS w ao l) (hc:l.length≤ac) (hG:GV w) (hl:l.length≤10000000000000):
  Calls Tryz.prog 85 #[.slice ao l.length ac] w fun e w'=>TellsB (ActsOk l) e∧Below w.heap.size w w':=by
 have HT:=hide hT
 have HG:=hide hG
 clear hT hG
 by_cases h1:1≤l.length
 ·by_cases h6:l.length≤6
  ·have hi1:¬ (l.length:Int)<1:=by omega
   have hi6:¬ (6:Int)<(l.length:Int):=by omega
   go_enter Tryz.func85,Tryz.ntmps85
   go_wp2_with fail
   go_loopw [15] (fun x wr=> ∃k:Nat,k≤l.length∧x= .int .i64 k∧Hid (Below w.heap.size w wr)∧Hid ((∀a∈l.take k,NmOk a)∧(l.take k).Nodup)) (fun x _=>l.length - (intOf x).toNat)
   case atStart=>exact ⟨0,Nat.zero_le _,rfl,Below.refl _ _,fun a ha=>by simp at ha,by simp⟩
   case round=>
    obtain ⟨k,hk,rfl,HB,HK⟩:=hrel
    by_cases hlt:k<l.length
    ·have hkn:(k:Int)<(l.length:Int):=by omega
     obtain ⟨b,off,rfl,hb,hcx⟩:=(unhide HT).later (unhide HB) k l[k] (List.getElem?_eq_getElem hlt)
     have HX:=hide (List.getElem?_eq_getElem hlt)
     have HN:=hide (IsName_any l[k] wr ((unhide HG).later (unhide HB)))
     have HCT:=hide (fun (W:World) (hb:Below w.heap.size w W)=>Tryz.slices_Contains_string b off k ac l l[k] W (by omega) (by omega) ((unhide HT).later hb).cells)
     generalize l[k]=a at *
     go_wp2_with (go_at_call 131;refine (unhide HN).mono ?_)
     rintro e w1 ⟨⟨n,rfl,hn⟩,hb1⟩
     have HB1:=hide ((unhide HB).trans (hb1.mono (unhide HB).size))
     clear hb1
     cases n with
     |false=>
      have HF:Hid (¬ ActsOk l):=fun h=>by
       have:=hn.2 (h.nm a (List.mem_of_getElem? (unhide HX)))
       cases this
      clear hn
      go_wp2_with fail
      go_ret
      exact ⟨TellsB.no (unhide HF),unhide HB1⟩
     |true=>
      have HNM:=hide (hn.1 rfl)
      clear hn
      have hkc:k≤ac:=by omega
      have HC:=hide (unhide HCT w1 (unhide HB1))
      generalize hcs:Lib.containsS (l.take k) a=cs at *
      have HCS:=hide hcs
      clear hcs
      go_wp2_with (go_at_call 77;refine (unhide HC).mono ?_)
      rintro e w2 ⟨rfl,hw2⟩
      have h2:=hw2.symm
      clear hw2
      subst h2
      cases cs with
      |true=>
       have HF:Hid (¬ ActsOk l):=fun h=>by
        have hm:=(Lib.containsS_iff _ _).1 (unhide HCS)
        obtain ⟨i,hi⟩:=List.mem_iff_getElem?.1 hm
        rw [List.getElem?_take] at hi
        split at hi
        ·rename_i hik
         have hil:=(List.getElem?_eq_some_iff.1 hi).1
         have e:l[i]=l[k]:=by
          have e1:=hi.trans (unhide HX).symm
          rw [List.getElem?_eq_getElem hil,List.getElem?_eq_getElem hlt] at e1
          exact Option.some.inj e1
         have:=(List.getElem_inj h.nd).1 e
         omega
        ·cases hi
       go_wp2_with fail
       go_ret
       exact ⟨TellsB.no (unhide HF),unhide HB1⟩
      |false=>
       have HK2:Hid ((∀a∈l.take (k+1),NmOk a)∧(l.take (k+1)).Nodup):=by
        have hnm:a∉l.take k:=fun hm=>by
         have:=(Lib.containsS_iff _ _).2 hm
         rw [unhide HCS] at this
         cases this
        show _∧_
        rw [List.take_add_one,unhide HX]
        refine ⟨fun c hc=> ?_, ?_⟩
        ·rcases List.mem_append.1 hc with hc|hc
         ·exact (unhide HK).1 c hc
         ·have:c=a:=by simpa using hc
          rw [this]
          exact unhide HNM
        ·rw [List.nodup_append]
         refine ⟨(unhide HK).2,by simp,fun x hx y hy=> ?_⟩
         have:y=a:=by simpa using hy
         subst this
         intro e
         exact hnm (e▸hx)
       go_wp2_with fail
       go_roundw
       case rel=>exact ⟨k+1,by omega,by go_num,HB1,HK2⟩
       case measure=>simp [intOf];omega
    ·have hkn:¬ (k:Int)<(l.length:Int):=by omega
     rw [List.take_of_length_le (by omega)] at HK
     go_wp2_with fail
     go_ret
     exact ⟨TellsB.yes (⟨h1,h6,(unhide HK).1,(unhide HK).2⟩),unhide HB⟩
  ·have HF:Hid (¬ ActsOk l):=fun h=>h6 h.n6
   have hi1:¬ (l.length:Int)<1:=by omega
   have hi6:(6:Int)<(l.length:Int):=by omega
   go_enter Tryz.func85,Tryz.ntmps85
   go_wp2_with fail
   go_ret
   exact ⟨TellsB.no (unhide HF),Below.refl _ _⟩
 ·have HF:Hid (¬ ActsOk l):=fun h=>h1 h.n1
  have hi1:(l.length:Int)<1:=by omega
  go_enter Tryz.func85,Tryz.ntmps85
  go_wp2_with fail
  go_ret
  exact ⟨TellsB.no (unhide HF),Below.refl _ _⟩
structure TbI (w:World) (ao fo no:Option Addr) (ac:Nat) (z:Tz):Prop where
 acts:TxS w ao z.acts
 fl:InS w fo z.fl
 nx:RwS w no z.nx
 ac:z.acts.length≤ac
 al:z.acts.length≤10000000000000
 fll:z.fl.length≤10000000000000
 nxl:z.nx.length≤10000000000000
 rl: ∀r∈z.nx,r.length≤10000000000000
theorem TbI.later {w w':World} {ao fo no:Option Addr} {ac:Nat} {z:Tz} (h:TbI w ao fo no ac z) (hb:Below w.heap.size w w'):TbI w' ao fo no ac z:=
 ⟨h.acts.later hb,h.fl.later hb,h.nx.later hb,h.ac,h.al,h.fll,h.nxl,h.rl⟩
set_option maxHeartbeats 2000000 in
set_option maxRecDepth 100000 in
theorem rightRows_any (w:World) (ao fo no:Option Addr) (ac fc nc:Nat) (z:Tz) (hI:TbI w ao fo no ac z):
  Calls Tryz.prog 86 #[.agg #[.slice ao z.acts.length ac,.slice fo z.fl.length fc,.slice no z.nx.length nc]] w fun e w'=>TellsB (RowsOk z) e∧Below w.heap.size w w':=by
 have hB:Below w.heap.size w (w.alloc (.cells #[.slice ao z.acts.length ac,.slice fo z.fl.length fc,.slice no z.nx.length nc] 36)):=(Below.refl _ _).alloc (Nat.le_refl _) _
 have HI:=hide (hI.later hB)
 have HB:=hide hB
 have HBL:=hide (blk_alloc w (.cells #[.slice ao z.acts.length ac,.slice fo z.fl.length fc,.slice no z.nx.length nc] 36))
 have hl1:=hI.al
 have hl2:=hI.fll
 have hl3:=hI.nxl
 clear hI hB
 by_cases h1:1≤z.nx.length
 ·by_cases h6:z.nx.length≤100
  ·by_cases hf:z.fl.length=z.nx.length
   ·have hi1:¬ (z.nx.length:Int)<1:=by omega
    have hi6:¬ (100:Int)<(z.nx.length:Int):=by omega
    have hi7:(z.fl.length:Int)=(z.nx.length:Int):=by omega
    have HF:=hide hf
    clear hf
    go_enter Tryz.func86,Tryz.ntmps86
    go_wp2_with fail
    generalize w.alloc (.cells #[.slice ao z.acts.length ac,.slice fo z.fl.length fc,.slice no z.nx.length nc] 36)=W at *
    have mc:=fun o=>cell_of_blk (unhide HBL) o
    have hml:=lt_of_blk (unhide HBL)
    go_loopw [25] (fun x wr=> ∃k:Nat,k≤z.nx.length∧x= .int .i64 k∧Hid (W=wr)∧Hid (∀r∈z.nx.take k,r.length=z.acts.length∧r.all (stOk z.nx.length)=true)) (fun x _=>z.nx.length - (intOf x).toNat)
    case atStart=>exact ⟨0,Nat.zero_le _,rfl,rfl,fun r hr=>by simp at hr⟩
    case round=>
     obtain ⟨k,hk,rfl,HW,HK⟩:=hrel
     have hw:=unhide HW
     subst hw
     clear HW
     by_cases hlt:k<z.nx.length
     ·have hkn:(k:Int)<(z.nx.length:Int):=by omega
      obtain ⟨b,off,ro,rc,rfl,hb,hcx,hrr⟩:=(unhide HI).nx k z.nx[k] (List.getElem?_eq_getElem hlt)
      have HX:=hide (List.getElem?_eq_getElem hlt)
      have hrl:=(unhide HI).rl z.nx[k] (List.getElem_mem hlt)
      generalize z.nx[k]=r at *
      have HA:=hide (allStates_any W ro rc r z.nx.length hrr hrl)
      clear hrr
      by_cases hne:r.length=z.acts.length
      ·rw [hne] at HA hcx hrl
       have HNE:=hide hne
       clear hne
       generalize hal:r.all (stOk z.nx.length)=al at *
       have HAL:=hide hal
       clear hal
       go_wp2_with (go_at_call 132;refine (unhide HA).mono ?_)
       rintro e w2 ⟨rfl,hw2⟩
       have h2:=hw2.symm
       clear hw2
       subst h2
       cases al with
       |false=>
        have HN:Hid (¬ RowsOk z):=fun h=>by
         have:=(h.rs r (List.mem_of_getElem? (unhide HX))).2
         rw [unhide HAL] at this
         cases this
        go_wp2_with fail
        go_ret
        exact ⟨TellsB.no (unhide HN),unhide HB⟩
       |true=>
        have HK2:Hid (∀r∈z.nx.take (k+1),r.length=z.acts.length∧r.all (stOk z.nx.length)=true):=by
         intro q hq
         rw [List.take_add_one,unhide HX] at hq
         rcases List.mem_append.1 hq with hq|hq
         ·exact unhide HK q hq
         ·have:q=r:=by simpa using hq
          rw [this]
          exact ⟨unhide HNE,unhide HAL⟩
        go_wp2_with fail
        go_roundw
        case rel=>exact ⟨k+1,by omega,by go_num,trivial,HK2⟩
        case measure=>simp [intOf];omega
      ·have hie:¬ (r.length:Int)=(z.acts.length:Int):=by omega
       have HN:Hid (¬ RowsOk z):=fun h=>hne (h.rs r (List.mem_of_getElem? (unhide HX))).1
       go_wp2_with fail
       go_ret
       exact ⟨TellsB.no (unhide HN),unhide HB⟩
     ·have hkn:¬ (k:Int)<(z.nx.length:Int):=by omega
      rw [List.take_of_length_le (by omega)] at HK
      go_wp2_with fail
      go_ret
      exact ⟨TellsB.yes (⟨h1,h6,unhide HF,unhide HK⟩),unhide HB⟩
   ·have HN:Hid (¬ RowsOk z):=fun h=>hf h.fl
    have hi1:¬ (z.nx.length:Int)<1:=by omega
    have hi6:¬ (100:Int)<(z.nx.length:Int):=by omega
    have hi7:¬ (z.fl.length:Int)=(z.nx.length:Int):=by omega
    go_enter Tryz.func86,Tryz.ntmps86
    go_wp2_with fail
    go_ret
    exact ⟨TellsB.no (unhide HN),unhide HB⟩
  ·have HN:Hid (¬ RowsOk z):=fun h=>h6 h.n100
   have hi1:¬ (z.nx.length:Int)<1:=by omega
   have hi6:(100:Int)<(z.nx.length:Int):=by omega
   go_enter Tryz.func86,Tryz.ntmps86
   go_wp2_with fail
   go_ret
   exact ⟨TellsB.no (unhide HN),unhide HB⟩
 ·have HN:Hid (¬ RowsOk z):=fun h=>h1 h.n1
  have hi1:(z.nx.length:Int)<1:=by omega
  go_enter Tryz.func86,Tryz.ntmps86
  go_wp2_with fail
  go_ret
  exact ⟨TellsB.no (unhide HN),unhide HB⟩
end Go.Proofs.YtidakhhekofkoaaGreatDoor
