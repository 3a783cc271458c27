/- A desk of the program: Cases. -/
import Derived.Test.YtidakhhekofkoaaGreatDoorJ46
import Derived.Test.YtidakhhekofkoaaGreatDoorJ36
import Derived.Test.YtidakhhekofkoaaGreatDoorJ28
import Derived.Test.YtidakhhekofkoaaGreatDoorJ01
import Derived.Maps.RangeWalk
import Derived.Sort.OwnSorted
set_option linter.unusedSimpArgs false
set_option linter.unusedVariables false
namespace Go.Proofs.YtidakhhekofkoaaGreatDoor
open Go.RowKit Go.Deep Go.Maps Go.Sort
def mkBa (x:List UInt8):ByteArray:=⟨x.toArray⟩
theorem mkBa_id (b:ByteArray):mkBa b.data.toList=b:=by unfold mkBa;rw [Array.toArray_toList]
theorem sorted_ris (ss:List (List UInt8)):RisL ((ss.mergeSort leB).map mkBa):=by
 refine List.pairwise_map.2 ?_
 have h:(ss.mergeSort leB).Pairwise fun a b=>leB a b=true:=List.pairwise_mergeSort (le:=leB) (fun a b c h1 h2=>leB_trans (x:=a) (y:=b) (z:=c) h1 h2) (fun a b=>by rcases leB_total a b with h|h<;>simp only [h,Bool.true_or,Bool.or_true]) ss
 refine h.imp fun {a b} h=> ?_
 show leB (mkBa a).data.toList (mkBa b).data.toList=true
 unfold mkBa
 simpa using h
theorem sorted_str (ss:List (List UInt8)):strsC ((ss.mergeSort leB).map mkBa)=(ss.mergeSort leB).map encStr:=by
 unfold strsC
 rw [List.map_map]
 rfl
theorem col_perm {cs:List Cs} {D:DataW Unit} {left:Lit→Bool} {ss:List (List UInt8)} (hhas: ∀id,Maps.has D (klI id)=true↔ ∃c∈cs,c.id=id) (hnd:(cs.map (·.id)).Nodup) (hC:Collected D left ss) (hl: ∀kl,left kl=false):((ss.mergeSort leB).map mkBa).Perm (cs.map (·.id)):=by
 have h1:ss.Perm (cs.map fun c=>c.id.data.toList):=by
  refine (List.perm_ext_iff_of_nodup hC.1 ?_).2 fun x=> ?_
  ·have e:(cs.map fun c=>c.id.data.toList)=(cs.map (·.id)).map fun b=>b.data.toList:=by rw [List.map_map];rfl
   rw [e]
   refine List.pairwise_map.2 (hnd.imp fun {a b} hne e=>hne (byte_inj e))
  ·rw [hC.2 x,List.mem_map]
   have hx:=hhas (mkBa x)
   have ek:klI (mkBa x)= .string x:=by unfold klI mkBa;simp
   rw [ek] at hx
   constructor
   ·rintro ⟨h,_⟩
    obtain ⟨c,hc,e⟩:=hx.1 h
    exact ⟨c,hc,by rw [e];unfold mkBa;simp⟩
   ·rintro ⟨c,hc,e⟩
    exact ⟨hx.2 ⟨c,hc,by rw [←e,mkBa_id]⟩,hl _⟩
 have h2:=((List.mergeSort_perm ss leB).trans h1).map mkBa
 have e:(cs.map fun c=>c.id.data.toList).map mkBa=cs.map (·.id):=by
  rw [List.map_map]
  exact List.map_congr_left fun c _=>mkBa_id c.id
 rw [e] at h2
 exact h2
theorem ptrE_inv' {v:Value} {y:DataW Unit × List MemPlace} (h:ptrE v=some y): ∃c:Option Addr,v= .pointer c:=by
 unfold ptrE at h
 split at h
 ·exact ⟨_,rfl⟩
 ·exact ⟨_,rfl⟩
 ·cases h
set_option maxHeartbeats 4000000 in
set_option maxRecDepth 100000 in
theorem Cases_any (w:World) (db:Nat) (t:Tb) (cs:List Cs) (A n ab a0 fb f0 nb n0 ac fc nc:Nat) (rb ro rc:Nat→Nat) (mb:Nat) (pb:ByteArray→Nat) (D:DataW Unit) (hD:DkP w db t cs A n ab a0 fb f0 nb n0 ac fc nc rb ro rc mb pb D) (hids: ∀c∈cs,c.id.size≤140737488355328):
  Calls Tryz.prog 109 #[.pointer (some ⟨db,0,none⟩)] w fun e w'=>CasP cs w w' e:=by
 have c3:=cell_of_blk hD.blk 3
 have l0:=lt_of_blk hD.blk
 have hsz:=hD.sz
 have hfew:=hD.few
 have hml:=hD.mlt
 have HD:=hide hD
 have HID:=hide hids
 clear hD hids
 go_enter Tryz.func109,Tryz.ntmps109
 go_wp2_with (at_range;go_must (refine wpList_range_own _ rfl _ 93 rfl 9 97 lawT Tryz.underlying93 ptrE mb cs.length D rfl (unhide HD).mp ?_))
 intro w0 hrg0 hg0 hs0
 have HRG0:=hide hrg0
 have HB0:Hid (Below w.heap.size w w0):=(Below.refl _ _).grown hg0 (Nat.le_refl _) (fun j hj=>by cases hj)
 clear hrg0 hg0 hs0
 go_wp2_with fail
 go_loopw [3] (fun v wr=> ∃(left:Lit→Bool) (cnt:Nat) (ss:List (List UInt8)),ss.length+cnt≤cs.length∧Hid (wr.ranges Tryz.prog 9 ptrE mb w.heap.size cs.length D left cnt)∧Hid (wr.ownsRow w.heap.size 9 1 v ss.length (ss.map encStr))∧Hid (Collected D left ss)∧Hid (Below w.heap.size w wr)) (fun _ wr=>wr.rangeLeft mb w.heap.size)
 case atStart=>exact ⟨_,_,[],by simp,HRG0,World.ownsRow_nil _ _ _ _,Collected.start D,HB0⟩
 case round=>
  clear HRG0 HB0
  obtain ⟨left,cnt,ss,hcs,HRG,HRO,HC,HB⟩:=hrel
  go_wp2_with (at_next;go_must (refine wpList_next_ranges _ rfl _ rfl 9 lawT ptrE encStr Value.pointer (fun key kl hk=>by obtain ⟨x,hx,_⟩:=Maps.keyOf_str Tryz.underlying9 hk;exact ⟨x,hx⟩) (fun v y hv=>ptrE_inv' hv) mb w.heap.size cs.length _ _ _ rfl (unhide HRG) ?_ ?_))
  ·intro hc0 hl0
   have HL0:=hide hl0
   clear hl0
   obtain ⟨_,⟨hv,h0⟩|⟨g,cap,cur,hv,hbase,hb,h1,h2,h3,h4⟩⟩:=id (unhide HRO)
   ·subst hv
    have HS:=hide (Tryz.slices_Sort_none none 0 wr)
    have hs0:ss=[]:=List.eq_nil_of_length_eq_zero h0
    go_wp2_with fail
    refine (unhide HS).mono ?_
    rintro e w2 ⟨rfl,hw2⟩
    have hw:=hw2.symm
    clear hw2
    subst hw
    have HE:=hide hs0
    clear hs0 h0 HS
    go_wp2_with fail
    go_ret
    have hp:=col_perm (unhide HD).has (unhide HD).nd (unhide HC) (unhide HL0)
    rw [unhide HE] at hp
    exact ⟨[],none,0,rfl,List.Pairwise.nil,by simpa using hp,World.ownsRow_nil _ _ _ _,unhide HB⟩
   ·subst hv
    have HS:=hide (Tryz.slices_Sort_string g 0 cap ss wr (holds_of_block hb (by simpa using h4)) (lt_of_blk hb) (by omega))
    have HRW:=hide (And.intro hbase (And.intro hb (And.intro h1 (And.intro h2 h3))))
    obtain ⟨m,hm⟩: ∃m,m=ss.length:=⟨_,rfl⟩
    rw [←hm] at HS⊢
    have HM:=hide hm
    clear hbase hb h1 h2 h3 h4 hm hcs
    go_wp2_with fail
    refine (unhide HS).mono ?_
    rintro e w2 ⟨rfl,nn,os,hw2⟩
    have HW2:=hide hw2
    clear hw2 HS
    go_wp2_with fail
    refine bodyPost_ret (v:= .slice (some ⟨g,0,none⟩) m cap) (by simp [results,Tryz.results109,go_sem]) rfl ?_
    have hw2:=unhide HW2
    have hm:=unhide HM
    obtain ⟨hbase,hb,h1,h2,h3⟩:=unhide HRW
    have hll:((ss.mergeSort leB).map mkBa).length=m:=by rw [List.length_map,List.length_mergeSort,hm]
    refine ⟨(ss.mergeSort leB).map mkBa,some ⟨g,0,none⟩,cap,by rw [hll],sorted_ris ss,col_perm (unhide HD).has (unhide HD).nd (unhide HC) (unhide HL0), ?_, ?_⟩
    ·rw [hll,sorted_str,hw2,hm]
     exact ownsRow_sorted (by simp) hbase hb h1 h2 h3
    ·rw [hw2]
     exact (unhide HB).grown (grownBy_sorted _) (unhide HB).size (fun j hj=>by cases hj;exact hbase)
  ·intro x c kl yd yp w2 cnt2 hkey hlk hv hat hrg2 hlt hg2 hs2 hen
   obtain ⟨x',ex,rfl,_⟩:=Maps.keyOf_str Tryz.underlying9 hkey
   obtain rfl:x=x':=encStr_inj ex
   obtain ⟨oo,cc,hvv⟩:=owns_val (unhide HRO)
   subst hvv
   have hrow2:=(unhide HRO).kept hg2 (Or.inr (row_ne_iter (unhide HRO) (unhide HRG)).symm)
   have hC2:=(unhide HC).step hlk hat
   have hxs:(mkBa x).size≤281474976710656:=by
    have h1:Maps.has D (klI (mkBa x))=true:=by
     have:klI (mkBa x)= .string x:=by unfold klI mkBa;simp
     rw [this]
     exact has_true_of_atKey hat
    obtain ⟨c',hc',e⟩:=((unhide HD).has (mkBa x)).1 h1
    have:=unhide HID c' hc'
    rw [e] at this
    omega
   have HCL:=hide (sClone_any (mkBa x) w2 hxs)
   have hB2:Below w.heap.size w w2:=(unhide HB).grown hg2 (unhide HB).size (fun j hj=>by cases hj;exact Nat.le_refl _)
   have HROW2:=hide hrow2
   have HRG2:=hide hrg2
   have HC2:=hide hC2
   have HB2:=hide hB2
   have HLT:=hide hlt
   clear hs2 hkey hlk hv hat hrg2 hg2 hrow2 hC2 hxs hB2 hlt ex
   go_wp2_with fail
   refine (unhide HCL).mono ?_
   rintro e w3 ⟨rfl,hb3⟩
   have HRG3:=hide ((unhide HRG2).kept (grown_below hb3 none) (by simp) (by simp))
   have HROW3:=hide (owns_later (unhide HROW2) hb3)
   have HB3:=hide ((unhide HB2).trans (hb3.mono (unhide HB2).size))
   have hw3:=(unhide HB3).size
   clear hb3 HCL
   go_wp2_with (at_builtin;go_must (refine app1 rfl _ _ 25 rfl _ w.heap.size 9 infoVs rfl Tryz.underlying25 (v:= .slice oo ss.length cc) (n:=ss.length) (xs:=ss.map encStr) rfl (.string (mkBa x)) rfl rfl (unhide HROW3) (by omega) hw3 (by first|rfl|simp [World.setCell]) ?_))
   intro g cap w4 ho4 hg4 hat4
   have hba:Below w3.heap.size w3 (w3.alloc (.cells #[.string (mkBa x)] 9)):=(Below.refl _ _).alloc (Nat.le_refl _) _
   have hrow3a:=owns_later (unhide HROW3) hba
   have hrg3a:=(unhide HRG3).alloc (.cells #[.string (mkBa x)] 9)
   have HRG4:=hide (hrg3a.kept hg4 (row_ne_low hrow3a hml) (row_ne_iter hrow3a hrg3a))
   have HB4:Hid (Below w.heap.size w w4):=((unhide HB3).trans (hba.mono (unhide HB3).size)).grown hg4 (Nat.le_trans (unhide HB3).size hba.size) (fun j hj=>(own_lt hrow3a j hj).1)
   have HROW4:Hid (w4.ownsRow w.heap.size 9 1 (.slice (some ⟨g,0,none⟩) (ss.length+1) cap) (ss++[x]).length ((ss++[x]).map encStr)):=by
    show World.ownsRow _ _ _ _ _ _ _
    rw [List.length_append,List.map_append]
    exact ho4
   have hcnt:cnt2<cnt:=unhide HLT
   clear ho4 hg4 hat4 hba hrow3a hrg3a
   go_wp2_with fail
   go_roundw
   case rel=>exact ⟨_,cnt2,ss++[x],by rw [List.length_append];show ss.length+1+cnt2≤_;omega,HRG4,HROW4,HC2,HB4⟩
   case measure=>rw [(unhide HRG4).left_eq,(unhide HRG).left_eq];exact hcnt
end Go.Proofs.YtidakhhekofkoaaGreatDoor
