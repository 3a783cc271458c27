/- The reference's desk: Cases. -/
import Derived.Test.YtidakhhekofkoaaGreatDoorJ36
import Derived.Test.YtidakhhekofkoaaGreatDoorJ43
import Derived.BigQuiet
set_option linter.unusedSimpArgs false
set_option linter.unusedVariables false
namespace Go.Proofs.YtidakhhekofkoaaGreatDoor
open Go.RowKit Go.Deep
theorem bytesLess_lt: ∀(x y:List UInt8),Op.bytesLess x y=decide (x<y)
 |_,[]=>by simp [Op.bytesLess]
 |[],b::y=>by simp [Op.bytesLess]
 |a::x,b::y=>by
  rw [Op.bytesLess,bytesLess_lt x y,Bool.eq_iff_iff]
  simp [List.cons_lt_cons_iff]
theorem less_le {x y:ByteArray} (h:Op.bytesLess x.toList y.toList=true):leB x.data.toList y.data.toList=true:=by
 rw [ByteArray.toList_eq,ByteArray.toList_eq,bytesLess_lt] at h
 exact decide_eq_true (List.le_of_lt (of_decide_eq_true h))
theorem nless_le {x y:ByteArray} (h:Op.bytesLess x.toList y.toList=false):leB y.data.toList x.data.toList=true:=by
 rw [ByteArray.toList_eq,ByteArray.toList_eq,bytesLess_lt] at h
 exact decide_eq_true (List.not_lt.1 (of_decide_eq_false h))
set_option maxHeartbeats 4000000 in
set_option maxRecDepth 100000 in
theorem CasesR_any (w:World) (base rd:Nat) (t:Tb) (cs:List Cs) (A n ab a0 fb f0 nb n0 ac fc nc:Nat) (rb ro rc:Nat→Nat) (lo:Option Addr) (lc:Nat) (hD:DrP w base rd t cs A n ab a0 fb f0 nb n0 ac fc nc rb ro rc lo lc):
  Calls Tryz.prog 110 #[.pointer (some ⟨rd,0,none⟩)] w fun e w'=>CasP cs w w' e:=by
 have hfew:=hD.few
 have HD:=hide hD
 clear hD
 go_enter Tryz.func110,Tryz.ntmps110
 go_wp2_with fail
 go_loopw [3,4] (fun y x wr=> ∃(k:Nat) (o:Option Addr) (c:Nat) (L:List ByteArray),k≤cs.length∧y= .slice o k c∧x= .int .i64 k∧Hid (wr.ownsRow w.heap.size 9 1 (.slice o k c) k (strsC L))∧Hid (L.length=k)∧Hid (RisL L∧L.Perm ((cs.take k).map (·.id)))∧Hid (Below w.heap.size w wr)) (fun _ x _=>cs.length - (intOf x).toNat)
 case atStart=>exact ⟨0,none,0,[],Nat.zero_le _,rfl,rfl,World.ownsRow_nil _ _ _ _,rfl,⟨List.Pairwise.nil,List.Perm.refl _⟩,Below.refl _ _⟩
 case round=>
  obtain ⟨k,o,c,L,hk,rfl,rfl,HO,HL,HR,HB⟩:=hrel
  have c3:=cell_of_blk ((unhide HD).later (unhide HB)).blk 3
  have l0:=lt_of_blk ((unhide HD).later (unhide HB)).blk
  by_cases hlt:k<cs.length
  ·have hkn:(k:Int)<(cs.length:Int):=by omega
   have HCK:Hid ((cs.take (k+1)).map (·.id)=(cs.take k).map (·.id)++[cs[k].id]):=by show _=_;rw [List.take_add_one,List.getElem?_eq_getElem hlt,List.map_append];rfl
   obtain ⟨g,hg,hgw,_,hcw,_,_⟩:=case_at (unhide HD).ls (List.getElem?_eq_getElem hlt)
   subst hg
   have hc0:=(bcell3 (unhide HB) _ _ hgw).trans hcw
   have hgl:=Nat.lt_of_lt_of_le hgw (unhide HB).size
   have HCW:=hide hcw
   have HC3:=hide (cell_of_blk (unhide HD).blk 3)
   have hl0w:=lt_of_blk (unhide HD).blk
   clear hcw
   generalize cs[k].id=id at *
   have HBR:=hide (Below.refl wr.heap.size wr)
   go_wp2_with fail
   generalize wr=wS at *
   go_loopw [5] (fun x wr=> ∃a:Nat,a≤k∧x= .int .i64 a∧Hid (Below wS.heap.size wS wr)∧Hid (∀u∈L.drop a,leB id.data.toList u.data.toList=true)) (fun x _=>(intOf x).toNat)
   case atStart=>exact ⟨k,Nat.le_refl _,rfl,HBR,fun u hu=>by rw [List.drop_of_length_le (by rw [unhide HL];exact Nat.le_refl _)] at hu;exact (List.not_mem_nil hu).elim⟩
   case round=>
    obtain ⟨a,ha,rfl,HBW,HG⟩:=hrel
    have c3':=(bcell3 (unhide HBW) _ _ l0).trans c3
    have l0':=Nat.lt_of_lt_of_le l0 (unhide HBW).size
    have hc0':=(bcell3 (unhide HBW) _ _ hgl).trans hc0
    have hgl':=Nat.lt_of_lt_of_le hgl (unhide HBW).size
    have HOW:=hide (owns_later (unhide HO) (unhide HBW))
    have h4:(decide (0<a)=false∧Hid (a=0∨ ∃u,L[a - 1]? =some u∧leB u.data.toList id.data.toList=true))∨ ∃(b:Nat) (u:ByteArray) (pb:Nat),o=some ⟨pb,0,none⟩∧pb<wr.heap.size∧wr.cell? ⟨pb,b,none⟩=some (.string u)∧(a:Int) - 1=(b:Int)∧b+1=a∧decide (0<a)=true∧Hid (L[b]? =some u):=by
     by_cases hz:a=0
     ·exact Or.inl ⟨decide_eq_false (by omega),Or.inl hz⟩
     ·have hbl:a - 1<L.length:=by rw [unhide HL];omega
      obtain ⟨pb,h1,h2,h3⟩:=owns1_at (unhide HOW) (show a - 1<k by omega)
      exact Or.inr ⟨a - 1,L[a - 1],pb,h1,h2,h3.trans (by unfold strsC;rw [List.getElem?_map,List.getElem?_eq_getElem hbl];rfl),by omega,by omega,decide_eq_true (by omega),List.getElem?_eq_getElem hbl⟩
    have h5:(decide (0<a)=false∧Hid (a=0∨ ∃u,L[a - 1]? =some u∧leB u.data.toList id.data.toList=true))∨(∃(b:Nat) (u:ByteArray) (pb:Nat),o=some ⟨pb,0,none⟩∧pb<wr.heap.size∧wr.cell? ⟨pb,b,none⟩=some (.string u)∧(a:Int) - 1=(b:Int)∧b<k∧decide (0<a)=true∧Op.bytesLess u.toList id.toList=true∧Hid (a=0∨ ∃u,L[a - 1]? =some u∧leB u.data.toList id.data.toList=true))∨(∃(b:Nat) (u:ByteArray) (pb:Nat),o=some ⟨pb,0,none⟩∧pb<wr.heap.size∧wr.cell? ⟨pb,b,none⟩=some (.string u)∧(a:Int) - 1=(b:Int)∧b<k∧decide (0<a)=true∧Op.bytesLess u.toList id.toList=false∧(u.toList==id.toList)=true∧Hid (a=0∨ ∃u,L[a - 1]? =some u∧leB u.data.toList id.data.toList=true))∨ ∃(b:Nat) (u:ByteArray) (pb:Nat),o=some ⟨pb,0,none⟩∧pb<wr.heap.size∧wr.cell? ⟨pb,b,none⟩=some (.string u)∧(a:Int) - 1=(b:Int)∧b<k∧decide (0<a)=true∧Op.bytesLess u.toList id.toList=false∧(u.toList==id.toList)=false∧Hid (∀v∈L.drop b,leB id.data.toList v.data.toList=true):=by
     rcases h4 with h|⟨b,u,pb,h1,h2,h3,h4,h5,h6,h7⟩
     ·exact Or.inl h
     ·have hb1:a - 1=b:=by omega
      cases e1:Op.bytesLess u.toList id.toList with
      |true=>exact Or.inr (Or.inl ⟨b,u,pb,h1,h2,h3,h4,by omega,h6,e1,Or.inr ⟨u,by rw [hb1];exact unhide h7,less_le e1⟩⟩)
      |false=>
       cases e2:(u.toList==id.toList) with
       |true=>exact Or.inr (Or.inr (Or.inl ⟨b,u,pb,h1,h2,h3,h4,by omega,h6,e1,e2,Or.inr ⟨u,by rw [hb1];exact unhide h7,by
         have e3:=eq_of_beq e2
         rw [ByteArray.toList_eq,ByteArray.toList_eq] at e3
         rw [e3]
         exact leB_refl _⟩⟩))
       |false=>
        refine Or.inr (Or.inr (Or.inr ⟨b,u,pb,h1,h2,h3,h4,by omega,h6,e1,e2,fun v hv=> ?_⟩))
        have hbl:=(List.getElem?_eq_some_iff.1 (unhide h7)).1
        rw [List.drop_eq_getElem_cons hbl] at hv
        rcases List.mem_cons.1 hv with h|h
        ·rw [h,(List.getElem?_eq_some_iff.1 (unhide h7)).2]
         exact nless_le e1
        ·rw [h5] at h
         exact unhide HG v h
    clear h4
    rcases h5 with ⟨hd,HST⟩|⟨b,u,pb,rfl,hpl,hpc,hsb,hbk,hd,h1,HST⟩|⟨b,u,pb,rfl,hpl,hpc,hsb,hbk,hd,h1,h2,HST⟩|⟨b,u,pb,rfl,hpl,hpc,hsb,hbk,hd,h1,h2,HG2⟩
    rotate_left 3
    ·have ha0:(0:Int)<(a:Int):=by omega
     have hbki:(b:Int)<(k:Int):=by omega
     have hwr:IntKind.i64.wrap ((a:Int) - 1)=(b:Int):=by rw [hsb,IntKind.wrap_i64];omega
     have hcs8:(k:Int)<(cs.length:Int):=by omega
     go_wp2_with fail
     go_quiet (fail)
     go_wp2_with fail
     go_roundw
     case rel=>exact ⟨b,by omega,rfl,hide ((unhide HBW).trans ((bdn wr nq).mono (unhide HBW).size)),HG2⟩
     case measure=>simp [intOf];omega
    all_goals (
     go_wp2_with fail
     go_quiet (fail)
     go_wp2_with (at_builtin;go_must (refine app1 rfl _ _ 25 rfl _ w.heap.size 9 infoVs rfl Tryz.underlying25 (v:= .slice _ k c) (n:=k) (xs:=strsC L) rfl (.string ⟨#[]⟩) rfl rfl (owns_later (unhide HOW) (bdn wr nq)) (by omega) (Nat.le_trans (Nat.le_trans (unhide HB).size (unhide HBW).size) (bdn wr nq).size) (by first|rfl|simp [World.setCell]) ?_))
     intro g9 cap9 w9 ho9 hg9 hat9
     have hk9:k+1≤cap9:=by
      obtain ⟨_,⟨hv,_⟩|⟨g',cap',cur,hv,_,_,hle,_⟩⟩:=ho9
      ·cases hv
      ·cases hv;exact hle
     have ho9b:=own_lt ho9 g9 rfl
     have hbz:Below (wr.drewN nq).heap.size (wr.drewN nq) ((wr.drewN nq).alloc (.cells #[.string ⟨#[]⟩] 9)):=(Below.refl _ _).alloc (Nat.le_refl _) _
     have hwb:Below w.heap.size w (wr.drewN nq):=((unhide HB).trans ((unhide HBW).mono (unhide HB).size)).trans ((bdn wr nq).mono (Nat.le_trans (unhide HB).size (unhide HBW).size))
     have hw9:Below w.heap.size w w9:=(hwb.trans (hbz.mono hwb.size)).grown hg9 (Nat.le_trans hwb.size hbz.size) (fun b hb=>own_base (owns_later (owns_later (unhide HOW) (bdn wr nq)) hbz) hb)
     have hai:(a:Int)≤(k:Int):=by omega
     have hai1:(a:Int)≤(k:Int)+1:=by omega
     have ha0:(0:Int)≤(a:Int)+1:=by omega
     have hca:¬ cap9=a:=by omega
     have hwr1:IntKind.i64.wrap ((a:Int)+1)=(a:Int)+1:=by rw [IntKind.wrap_i64];omega
     have HO9:=hide ho9
     have HW9:=hide hw9
     have hc9s:=hw9.size
     clear ho9 hg9 hat9 hbz hwb hw9
     by_cases hcc:cap9=a+1
     ·obtain ⟨w2,hrun,hgr2,⟨z,hz⟩,hf2,hl2,hins⟩:=ins_copy (owns_later (unhide HO9) ((Below.refl _ _).drew)) (unhide HL) ha (cap9 - (a+1)) (cap9 - a) (0) (Or.inr ⟨by omega,rfl⟩)
      have HW2:=hide (((unhide HW9).trans (((Below.refl _ _).drew).mono (unhide HW9).size)).grown hgr2 (unhide HW9).size (fun b hb=>by cases hb;exact ho9b.1))
      have HINS:=hide hins
      clear hins hgr2
      go_wp2_with fail
      refine wp_region_held_drew (S:=fun _=>True) (by kernel_rfl) ?_ (fun hHeld=> ?_)
      ·exact trivial
      refine wpAnyH_take (i:=0) (v:= .slice (some ⟨g9,0,none⟩) (k+1) cap9) rfl (by kernel_rfl) (by kernel_rfl) (by kernel_rfl) (fun _ _ _ h=>h) (Or.inl ⟨by kernel_rfl,fun w hw=>by have _:=hw;go_simp⟩) hHeld ?_
      try simp only [Act.put,List.setIfInBounds_toArray,List.set_cons_zero,List.set_cons_succ,List.getElem_toArray,List.getElem_cons_succ,List.getElem_cons_zero]
      refine wpAnyH_take (i:=1) (v:= .int .i64 (a:Int)) rfl (by kernel_rfl) (by kernel_rfl) (by kernel_rfl) (fun _ _ _ h=>h) (Or.inl ⟨by kernel_rfl,fun w hw=>by have _:=hw;go_simp⟩) hHeld ?_
      try simp only [Act.put,List.setIfInBounds_toArray,List.set_cons_zero,List.set_cons_succ,List.getElem_toArray,List.getElem_cons_succ,List.getElem_cons_zero]
      refine wpAnyH_take (i:=2) (v:= .int .i64 ((a:Int)+1)) rfl (by kernel_rfl) (by kernel_rfl) (by kernel_rfl) (fun _ _ _ h=>h) (Or.inl ⟨by kernel_rfl,fun w hw=>by have _:=hw;go_simp⟩) hHeld ?_
      try simp only [Act.put,List.setIfInBounds_toArray,List.set_cons_zero,List.set_cons_succ,List.getElem_toArray,List.getElem_cons_succ,List.getElem_cons_zero]
      refine wpAnyH_take (i:=3) (v:= .slice (some ⟨g9,0,none⟩) (k - a) (cap9 - (a+1))) rfl (by kernel_rfl) (by kernel_rfl) (by kernel_rfl) (fun _ _ _ h=>h) (Or.inl ⟨by kernel_rfl,fun w hw=>by have _:=hw;go_simp⟩) hHeld ?_
      try simp only [Act.put,List.setIfInBounds_toArray,List.set_cons_zero,List.set_cons_succ,List.getElem_toArray,List.getElem_cons_succ,List.getElem_cons_zero]
      refine wpAnyH_take (i:=4) (v:= .slice (some ⟨g9,0,none⟩) (k+1) cap9) rfl (by kernel_rfl) (by kernel_rfl) (by kernel_rfl) (fun _ _ _ h=>h) (Or.inl ⟨by kernel_rfl,fun w hw=>by have _:=hw;go_simp⟩) hHeld ?_
      try simp only [Act.put,List.setIfInBounds_toArray,List.set_cons_zero,List.set_cons_succ,List.getElem_toArray,List.getElem_cons_succ,List.getElem_cons_zero]
      refine wpAnyH_take (i:=5) (v:= .int .i64 (a:Int)) rfl (by kernel_rfl) (by kernel_rfl) (by kernel_rfl) (fun _ _ _ h=>h) (Or.inl ⟨by kernel_rfl,fun w hw=>by have _:=hw;go_simp⟩) hHeld ?_
      try simp only [Act.put,List.setIfInBounds_toArray,List.set_cons_zero,List.set_cons_succ,List.getElem_toArray,List.getElem_cons_succ,List.getElem_cons_zero]
      refine wpAnyH_take (i:=6) (v:= .slice (some ⟨g9,a,none⟩) (k+1 - a) (cap9 - a)) rfl (by kernel_rfl) (by kernel_rfl) (by kernel_rfl) (fun _ _ _ h=>h) (Or.inl ⟨by kernel_rfl,fun w hw=>by have _:=hw;go_simp⟩) hHeld ?_
      try simp only [Act.put,List.setIfInBounds_toArray,List.set_cons_zero,List.set_cons_succ,List.getElem_toArray,List.getElem_cons_succ,List.getElem_cons_zero]
      clear hcc
      refine wpAnyH_ready (rs:=[7]) (by kernel_rfl) (by simp) ?_
      refine AllReadyH.cons rfl (fun K hK=> ?_) AllReadyH.nil
      go_simp
      refine hK.out _ _ trivial (fun hHeld=> ?_)
      clear hK K
      refine wpAnyH_done (by kernel_rfl) ?_ _
      clear hHeld hrun
      have HOWN:=hide (unhide HINS id)
      have HBEL:Hid (Below w.heap.size w (w2.setCell ⟨g9,a,none⟩ (.string id))):=(unhide HW2).grown (grown_set _ _ _ _) (unhide HW2).size (fun b hb=>by cases hb;exact ho9b.1)
      have HLEN:Hid ((L.take a++id::L.drop a).length=k+1):=by
       show _=_
       rw [List.length_append,List.length_cons,List.length_take,List.length_drop,unhide HL]
       omega
      have HRIS:Hid (RisL (L.take a++id::L.drop a)∧(L.take a++id::L.drop a).Perm ((cs.take (k+1)).map (·.id))):=⟨ris_ins (unhide HR).1 (unhide HG) (unhide HST),by rw [unhide HCK];exact (ins_perm L id a).trans ((unhide HR).2.append_right [id])⟩
      have x3:=(bcell3 (unhide HW2) _ _ hl0w).trans (unhide HC3)
      have xl:=Nat.lt_of_lt_of_le hl0w (unhide HW2).size
      have xc:=(bcell3 (unhide HW2) _ _ hgw).trans (unhide HCW)
      have xg:=Nat.lt_of_lt_of_le hgw (unhide HW2).size
      have hak:(a:Int)<(k:Int)+1:=by omega
      clear c3 c3' hc0 hc0'
      go_wp2_with fail
      go_roundw
      case rel=>exact ⟨k+1,some ⟨g9,0,none⟩,cap9,L.take a++id::L.drop a,by omega,rfl,by go_num,HOWN,HLEN,HRIS,HBEL⟩
      case measure=>simp [intOf];omega
     ·obtain ⟨w2,hrun,hgr2,⟨z,hz⟩,hf2,hl2,hins⟩:=ins_copy (owns_later (unhide HO9) ((Below.refl _ _).drew)) (unhide HL) ha (cap9 - (a+1)) (cap9 - a) (a+1) (Or.inl rfl)
      have HW2:=hide (((unhide HW9).trans (((Below.refl _ _).drew).mono (unhide HW9).size)).grown hgr2 (unhide HW9).size (fun b hb=>by cases hb;exact ho9b.1))
      have HINS:=hide hins
      clear hins hgr2
      go_wp2_with fail
      refine wp_region_held_drew (S:=fun _=>True) (by kernel_rfl) ?_ (fun hHeld=> ?_)
      ·exact trivial
      refine wpAnyH_take (i:=0) (v:= .slice (some ⟨g9,0,none⟩) (k+1) cap9) rfl (by kernel_rfl) (by kernel_rfl) (by kernel_rfl) (fun _ _ _ h=>h) (Or.inl ⟨by kernel_rfl,fun w hw=>by have _:=hw;go_simp⟩) hHeld ?_
      try simp only [Act.put,List.setIfInBounds_toArray,List.set_cons_zero,List.set_cons_succ,List.getElem_toArray,List.getElem_cons_succ,List.getElem_cons_zero]
      refine wpAnyH_take (i:=1) (v:= .int .i64 (a:Int)) rfl (by kernel_rfl) (by kernel_rfl) (by kernel_rfl) (fun _ _ _ h=>h) (Or.inl ⟨by kernel_rfl,fun w hw=>by have _:=hw;go_simp⟩) hHeld ?_
      try simp only [Act.put,List.setIfInBounds_toArray,List.set_cons_zero,List.set_cons_succ,List.getElem_toArray,List.getElem_cons_succ,List.getElem_cons_zero]
      refine wpAnyH_take (i:=2) (v:= .int .i64 ((a:Int)+1)) rfl (by kernel_rfl) (by kernel_rfl) (by kernel_rfl) (fun _ _ _ h=>h) (Or.inl ⟨by kernel_rfl,fun w hw=>by have _:=hw;go_simp⟩) hHeld ?_
      try simp only [Act.put,List.setIfInBounds_toArray,List.set_cons_zero,List.set_cons_succ,List.getElem_toArray,List.getElem_cons_succ,List.getElem_cons_zero]
      refine wpAnyH_take (i:=3) (v:= .slice (some ⟨g9,a+1,none⟩) (k - a) (cap9 - (a+1))) rfl (by kernel_rfl) (by kernel_rfl) (by kernel_rfl) (fun _ _ _ h=>h) (Or.inl ⟨by kernel_rfl,fun w hw=>by have _:=hw;go_simp⟩) hHeld ?_
      try simp only [Act.put,List.setIfInBounds_toArray,List.set_cons_zero,List.set_cons_succ,List.getElem_toArray,List.getElem_cons_succ,List.getElem_cons_zero]
      refine wpAnyH_take (i:=4) (v:= .slice (some ⟨g9,0,none⟩) (k+1) cap9) rfl (by kernel_rfl) (by kernel_rfl) (by kernel_rfl) (fun _ _ _ h=>h) (Or.inl ⟨by kernel_rfl,fun w hw=>by have _:=hw;go_simp⟩) hHeld ?_
      try simp only [Act.put,List.setIfInBounds_toArray,List.set_cons_zero,List.set_cons_succ,List.getElem_toArray,List.getElem_cons_succ,List.getElem_cons_zero]
      refine wpAnyH_take (i:=5) (v:= .int .i64 (a:Int)) rfl (by kernel_rfl) (by kernel_rfl) (by kernel_rfl) (fun _ _ _ h=>h) (Or.inl ⟨by kernel_rfl,fun w hw=>by have _:=hw;go_simp⟩) hHeld ?_
      try simp only [Act.put,List.setIfInBounds_toArray,List.set_cons_zero,List.set_cons_succ,List.getElem_toArray,List.getElem_cons_succ,List.getElem_cons_zero]
      refine wpAnyH_take (i:=6) (v:= .slice (some ⟨g9,a,none⟩) (k+1 - a) (cap9 - a)) rfl (by kernel_rfl) (by kernel_rfl) (by kernel_rfl) (fun _ _ _ h=>h) (Or.inl ⟨by kernel_rfl,fun w hw=>by have _:=hw;go_simp⟩) hHeld ?_
      try simp only [Act.put,List.setIfInBounds_toArray,List.set_cons_zero,List.set_cons_succ,List.getElem_toArray,List.getElem_cons_succ,List.getElem_cons_zero]
      refine wpAnyH_ready (rs:=[7]) (by kernel_rfl) (by simp) ?_
      refine AllReadyH.cons rfl (fun K hK=> ?_) AllReadyH.nil
      go_simp
      refine hK.out _ _ trivial (fun hHeld=> ?_)
      clear hK K
      refine wpAnyH_done (by kernel_rfl) ?_ _
      clear hHeld hrun
      have HOWN:=hide (unhide HINS id)
      have HBEL:Hid (Below w.heap.size w (w2.setCell ⟨g9,a,none⟩ (.string id))):=(unhide HW2).grown (grown_set _ _ _ _) (unhide HW2).size (fun b hb=>by cases hb;exact ho9b.1)
      have HLEN:Hid ((L.take a++id::L.drop a).length=k+1):=by
       show _=_
       rw [List.length_append,List.length_cons,List.length_take,List.length_drop,unhide HL]
       omega
      have HRIS:Hid (RisL (L.take a++id::L.drop a)∧(L.take a++id::L.drop a).Perm ((cs.take (k+1)).map (·.id))):=⟨ris_ins (unhide HR).1 (unhide HG) (unhide HST),by rw [unhide HCK];exact (ins_perm L id a).trans ((unhide HR).2.append_right [id])⟩
      have x3:=(bcell3 (unhide HW2) _ _ hl0w).trans (unhide HC3)
      have xl:=Nat.lt_of_lt_of_le hl0w (unhide HW2).size
      have xc:=(bcell3 (unhide HW2) _ _ hgw).trans (unhide HCW)
      have xg:=Nat.lt_of_lt_of_le hgw (unhide HW2).size
      have hak:(a:Int)<(k:Int)+1:=by omega
      clear c3 c3' hc0 hc0'
      go_wp2_with fail
      go_roundw
      case rel=>exact ⟨k+1,some ⟨g9,0,none⟩,cap9,L.take a++id::L.drop a,by omega,rfl,by go_num,HOWN,HLEN,HRIS,HBEL⟩
      case measure=>simp [intOf];omega)
  ·have hkn:¬ (k:Int)<(cs.length:Int):=by omega
   have hke:(cs.take k).map (·.id)=cs.map (·.id):=by rw [List.take_of_length_le (by omega)]
   rw [hke] at HR
   clear hke
   go_wp2_with fail
   refine bodyPost_ret (v:= .slice o k c) (by simp [results,Tryz.results110,go_sem]) rfl ?_
   have hl:=unhide HL
   subst hl
   exact ⟨L,o,c,rfl,(unhide HR).1,(unhide HR).2,unhide HO,unhide HB⟩
end Go.Proofs.YtidakhhekofkoaaGreatDoor
