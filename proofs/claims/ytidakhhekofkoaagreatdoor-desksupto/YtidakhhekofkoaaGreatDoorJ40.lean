/- A desk of the program: step, Start, Event, End. -/
import Derived.Test.YtidakhhekofkoaaGreatDoorJ38
import Derived.Test.YtidakhhekofkoaaGreatDoorJ28
import Derived.Lib.QuietBelow
set_option linter.unusedSimpArgs false
set_option linter.unusedVariables false
namespace Go.Proofs.YtidakhhekofkoaaGreatDoor
open Go.RowKit Go.Deep Go.Maps
theorem zeroW (w:World):(zeroValue 97).run Tryz.prog w= .ok (.pointer none) w:=by kernel_rfl
section
variable {w : World} {ops : Array Oper} {rest : List Oper} {o : Oper} {a : Act} {Q : Exit → Act → World → Prop}
theorem look_there (hg:o.guard=none) (m x:Operand) (hop:o.op=Op.lookup 93 m x true) (b k:Nat) (D:DataW Unit) (hm:a.eval m= .map (some b)) (hown:w.ownsMap Tryz.prog 9 ptrE b k D) (id:ByteArray) (hx:a.eval x= .string id) (hid:id.size≤140737488355328)
  (p:Nat) (hh:Maps.has D (klI id)=true) (hat: ∀zd,D.atKey (klI id) zd= .lit (.int .i64 (p:Int))) (hK:wpList Tryz.prog ops Q rest (a.put o.dst (.tuple #[.pointer (some ⟨p,0,none⟩),.bool true])) w):wpList Tryz.prog ops Q (o::rest) a w:=
 wpList_lookup_own_ok w hg m x _ hop 9 97 lawT Tryz.underlying93 ptrE (zeroW w) .nil [] rfl b k D hm hown _ _ hx (keyI hid) (fun v ps hv=>by
  rw [hat] at hv
  rw [ptrE_inv hv,hh]
  exact hK)
theorem look_gone (hg:o.guard=none) (m x:Operand) (hop:o.op=Op.lookup 93 m x true) (b k:Nat) (D:DataW Unit) (hm:a.eval m= .map (some b)) (hown:w.ownsMap Tryz.prog 9 ptrE b k D) (id:ByteArray) (hx:a.eval x= .string id) (hid:id.size≤140737488355328)
  (hh:Maps.has D (klI id)=false) (hK:wpList Tryz.prog ops Q rest (a.put o.dst (.tuple #[.pointer none,.bool false])) w):wpList Tryz.prog ops Q (o::rest) a w:=
 wpList_lookup_own_ok w hg m x _ hop 9 97 lawT Tryz.underlying93 ptrE (zeroW w) .nil [] rfl b k D hm hown _ _ hx (keyI hid) (fun v ps hv=>by
  rw [atKey_of_not_has hh] at hv
  rw [ptrE_nil hv,hh]
  exact hK)
end
theorem DkP.there {w:World} {db:Nat} {t:Tb} {cs:List Cs} {A n ab a0 fb f0 nb n0 ac fc nc:Nat} {rb ro rc:Nat→Nat} {mb:Nat} {pb:ByteArray→Nat} {D:DataW Unit} (h:DkP w db t cs A n ab a0 fb f0 nb n0 ac fc nc rb ro rc mb pb D) {id:ByteArray} {c:Cs} (hc:csAt cs id=some c):
  Maps.has D (klI id)=true∧(∀zd,D.atKey (klI id) zd= .lit (.int .i64 (pb id:Int)))∧c∈cs∧c.id=id:=by
 obtain ⟨h1,h2⟩:=csAt_some hc
 refine ⟨(h.has id).2 ⟨c,h1,h2⟩,fun zd=> ?_,h1,h2⟩
 have:=h.at_ c h1 zd
 rw [h2] at this
 exact this
theorem DkP.gone {w:World} {db:Nat} {t:Tb} {cs:List Cs} {A n ab a0 fb f0 nb n0 ac fc nc:Nat} {rb ro rc:Nat→Nat} {mb:Nat} {pb:ByteArray→Nat} {D:DataW Unit} (h:DkP w db t cs A n ab a0 fb f0 nb n0 ac fc nc rb ro rc mb pb D) {id:ByteArray} (hc:csAt cs id=none):
  Maps.has D (klI id)=false:=by
 cases e:Maps.has D (klI id) with
 |false=>rfl
 |true=>obtain ⟨c,h1,h2⟩:=(h.has id).1 e;exact (csAt_none hc c h1 h2).elim
set_option maxHeartbeats 2000000 in
set_option maxRecDepth 100000 in
theorem step_any (w:World) (db:Nat) (t:Tb) (cs:List Cs) (A n ab a0 fb f0 nb n0 ac fc nc:Nat) (rb ro rc:Nat→Nat) (mb:Nat) (pb:ByteArray→Nat) (D:DataW Unit) (hD:DkP w db t cs A n ab a0 fb f0 nb n0 ac fc nc rb ro rc mb pb D) (s:Nat) (hs:s<n) (act:ByteArray):
  Calls Tryz.prog 50 #[.pointer (some ⟨db,0,none⟩),.int .i64 (s:Int),.string act] w fun e w'=>e= .returned (.tuple #[.int .i64 ((dkStep t s act).1:Int),.int .i64 ((dkStep t s act).2:Int)])∧Below w.heap.size w w':=by
 have c0:=cell_of_blk hD.blk 0
 have c1:=cell_of_blk hD.blk 1
 have c2:=cell_of_blk hD.blk 2
 have l0:=lt_of_blk hD.blk
 have HN:=hide (next_any w t A n ab a0 fb f0 nb n0 ac fc nc rb ro rc hD.tb s hs act)
 have HD:=hide hD
 clear hD
 go_enter Tryz.func50,Tryz.ntmps50
 go_wp2_with fail
 refine (unhide HN).mono ?_
 clear HN c0 c1 c2 l0
 rintro e w1 ⟨hn,hb1⟩
 have HB1:=hide hb1
 have HD1:=hide ((unhide HD).later hb1)
 clear hb1 HD
 rcases hn with ⟨hf,rfl⟩|⟨a,hf,rfl⟩
 ·have e:dkStep t s act=(0,3):=by unfold dkStep;rw [hf]
  have HE:=hide e
  clear hf e
  go_wp2_with fail
  refine bodyPost_ret (v:= .tuple #[.int .i64 0,.int .i64 3]) (by simp [results,Tryz.results50,go_sem]) rfl ?_
  exact ⟨by rw [unhide HE];rfl,unhide HB1⟩
 ·have haA:a<A:=by
   have h1:=(List.getElem?_eq_some_iff.1 (fnd_some hf).2).1
   rw [Nat.sub_zero,(unhide HD1).tb.hA] at h1
   exact h1
  have hy:=(unhide HD1).tb.lt hs haA
  have e:dkStep t s act=if flT t (nxT t s a)<2 then (0,9) else (nxT t s a,0):=by unfold dkStep;rw [hf]
  have HE:=hide e
  clear hf e
  generalize nxT t s a=y at *
  have HH:=hide (has_alive w1 t A n ab a0 fb f0 nb n0 ac fc nc rb ro rc (unhide HD1).tb y hy)
  have c0:=cell_of_blk (unhide HD1).blk 0
  have c1:=cell_of_blk (unhide HD1).blk 1
  have c2:=cell_of_blk (unhide HD1).blk 2
  have l0:=lt_of_blk (unhide HD1).blk
  by_cases h2:2≤flT t y
  ·rw [decide_eq_true h2] at HH
   have HE2:Hid (dkStep t s act=(y,0)):=by show _=_;rw [unhide HE,if_neg (by omega)]
   clear h2
   go_wp2_with fail
   refine (unhide HH).mono ?_
   clear HH c0 c1 c2 l0
   rintro e w2 ⟨rfl,hb2⟩
   go_wp2_with fail
   refine bodyPost_ret (v:= .tuple #[.int .i64 (y:Int),.int .i64 0]) (by simp [results,Tryz.results50,go_sem]) rfl ?_
   exact ⟨by rw [unhide HE2];rfl,(unhide HB1).trans (hb2.mono (unhide HB1).size)⟩
  ·rw [decide_eq_false h2] at HH
   have HE2:Hid (dkStep t s act=(0,9)):=by show _=_;rw [unhide HE,if_pos (by omega)]
   clear h2
   go_wp2_with fail
   refine (unhide HH).mono ?_
   clear HH c0 c1 c2 l0
   rintro e w2 ⟨rfl,hb2⟩
   go_wp2_with fail
   refine bodyPost_ret (v:= .tuple #[.int .i64 0,.int .i64 9]) (by simp [results,Tryz.results50,go_sem]) rfl ?_
   exact ⟨by rw [unhide HE2];rfl,(unhide HB1).trans (hb2.mono (unhide HB1).size)⟩
def DkQ (db:Nat) (t:Tb) (cs cs':List Cs) (A n ab a0 fb f0 nb n0 ac fc nc:Nat) (rb ro rc:Nat→Nat) (mb:Nat) (pb:ByteArray→Nat) (w w':World):Prop:=
 FrD (DkS cs mb pb) w w'∧ ∃pb' D',DkP w' db t cs' A n ab a0 fb f0 nb n0 ac fc nc rb ro rc mb pb' D'∧ ∀k,DkS cs' mb pb' k→DkS cs mb pb k∨w.heap.size≤k
theorem DkP.begin {w:World} {db:Nat} {t:Tb} {cs:List Cs} {A n ab a0 fb f0 nb n0 ac fc nc:Nat} {rb ro rc:Nat→Nat} {mb:Nat} {pb:ByteArray→Nat} {D:DataW Unit} (h:DkP w db t cs A n ab a0 fb f0 nb n0 ac fc nc rb ro rc mb pb D) {id:ByteArray} (hid:id.size≤140737488355328) (hno: ∀c∈cs,c.id≠id) (h8:¬ 8≤cs.length)
  {W:World} (hb:Below w.heap.size w W) {p:Nat} (hp:W.heap[p]? =some (.cells #[.int .i64 0,.int .i64 0] 100 (0,0))) (hpn:w.heap.size≤p):
  ∃w',(Instr.mapUpdate 93 (.map (some mb)) (.string id) (.pointer (some ⟨p,0,none⟩))).run Tryz.prog W= .ok () w'∧DkQ db t cs (cs++[⟨id,0,0⟩]) A n ab a0 fb f0 nb n0 ac fc nc rb ro rc mb pb w w':=by
 have hW:=h.later hb
 obtain ⟨w',hrun,hm,ht⟩:=hW.mp.store lawT Tryz.underlying93 (by unfold maxLen;omega) (keyI hid) (ptrE_mk p)
 obtain ⟨h1,h2⟩:=hW.new (id:=id) hno (by omega) hp (fun hs=>by have:=h.blocks hs;omega) ⟨by have:=lt_of_blk h.blk;omega,by have:=h.tb.la;omega,by have:=h.tb.lf;omega,by have:=h.tb.ln;omega,fun i hi=>by have:=h.tb.lr i hi;omega⟩ hm ht
 refine ⟨w',hrun,(FrD.below hb).trans h2,_,_,h1,fun k hk=> ?_⟩
 rcases hk with rfl|⟨c,hc,rfl⟩
 ·exact Or.inl (Or.inl rfl)
 ·rcases List.mem_append.1 hc with hc|hc
  ·rw [pbPut_other _ _ (hno c hc)]
   exact Or.inl (Or.inr ⟨c,hc,rfl⟩)
  ·rw [List.mem_singleton.1 hc,pbPut_same]
   exact Or.inr hpn
set_option maxHeartbeats 4000000 in
set_option maxRecDepth 100000 in
theorem Start_any (w:World) (db:Nat) (t:Tb) (cs:List Cs) (A n ab a0 fb f0 nb n0 ac fc nc:Nat) (rb ro rc:Nat→Nat) (mb:Nat) (pb:ByteArray→Nat) (D:DataW Unit) (hD:DkP w db t cs A n ab a0 fb f0 nb n0 ac fc nc rb ro rc mb pb D) (id:ByteArray) (hid:id.size≤140737488355328):
  Calls Tryz.prog 30 #[.pointer (some ⟨db,0,none⟩),.string id] w fun e w'=>e= .returned (.int .i64 ((dkStart cs id).2:Int))∧DkQ db t cs (dkStart cs id).1 A n ab a0 fb f0 nb n0 ac fc nc rb ro rc mb pb w w':=by
 have c3:=cell_of_blk hD.blk 3
 have l0:=lt_of_blk hD.blk
 have HD:=hide hD
 clear hD
 go_enter Tryz.func30,Tryz.ntmps30
 cases hc:csAt cs id with
 |some c=>
  have HT:=hide ((unhide HD).there hc)
  have e:dkStart cs id=(cs,8):=by unfold dkStart;rw [hc]
  rw [e]
  clear hc e
  go_wp2_with (at_lookup;go_must (refine look_there rfl _ _ rfl mb cs.length D rfl (unhide HD).mp id rfl hid (pb id) (unhide HT).1 (unhide HT).2.1 ?_))
  clear HT
  go_wp2_with fail
  refine bodyPost_ret (v:= .int .i64 8) (by simp [results,Tryz.results30,go_sem]) rfl ?_
  exact ⟨rfl,FrD.refl _ _,pb,D,unhide HD,fun k hk=>Or.inl hk⟩
 |none=>
  have HT:=hide ((unhide HD).gone hc)
  have hlen:=(unhide HD).mp.len Tryz.underlying93 3
  rw [(unhide HD).sz] at hlen
  have HNO:=hide (csAt_none hc)
  by_cases h8:8≤cs.length
  ·have e:dkStart cs id=(cs,11):=by unfold dkStart;rw [hc];simp only [if_pos h8]
   rw [e]
   have h8i:(8:Int)≤(cs.length:Int):=by omega
   clear hc e
   go_wp2_with (at_lookup;go_must (refine look_gone rfl _ _ rfl mb cs.length D rfl (unhide HD).mp id rfl hid (unhide HT) ?_))
   go_wp2_with fail
   refine bodyPost_ret (v:= .int .i64 11) (by simp [results,Tryz.results30,go_sem]) rfl ?_
   exact ⟨rfl,FrD.refl _ _,pb,D,unhide HD,fun k hk=>Or.inl hk⟩
  ·have e:dkStart cs id=(cs++[⟨id,0,0⟩],0):=by unfold dkStart;rw [hc];simp only [if_neg h8]
   have HE0:=hide e
   have h8i:¬ (8:Int)≤(cs.length:Int):=by omega
   clear hc e
   go_wp2_with (at_lookup;go_must (refine look_gone rfl _ _ rfl mb cs.length D rfl (unhide HD).mp id rfl hid (unhide HT) ?_))
   clear HT hlen
   have HE:Hid (dkStart cs id=(cs++[⟨id,0,0⟩],0)):=unhide HE0
   go_wp2_with fail
   refine wp_region_held_drew (S:=fun w'=>w'.cell? ⟨db,3,none⟩=some (.map (some mb))) (by kernel_rfl) ?_ (fun hHeld=> ?_)
   ·exact c3
   refine wpAnyH_take (i:=0) (v:= .pointer (some ⟨db,0,none⟩)) rfl (by kernel_rfl) (by kernel_rfl) (by kernel_rfl) (fun _ _ _ h=>h) (Or.inl ⟨by kernel_rfl,fun w hw=>by have s0:=hw;go_simp⟩) hHeld ?_
   try simp only [Act.put,List.setIfInBounds_toArray,List.set_cons_zero,List.set_cons_succ,List.getElem_toArray,List.getElem_cons_succ,List.getElem_cons_zero]
   refine wpAnyH_take (i:=1) (v:= .pointer (some ⟨db,0,none⟩)) rfl (by kernel_rfl) (by kernel_rfl) (by kernel_rfl) (fun _ _ _ h=>h) (Or.inl ⟨by kernel_rfl,fun w hw=>by have s0:=hw;go_simp⟩) hHeld ?_
   try simp only [Act.put,List.setIfInBounds_toArray,List.set_cons_zero,List.set_cons_succ,List.getElem_toArray,List.getElem_cons_succ,List.getElem_cons_zero]
   refine wpAnyH_take (i:=2) (v:= .pointer (some ⟨db,3,none⟩)) rfl (by kernel_rfl) (by kernel_rfl) (by kernel_rfl) (fun _ _ _ h=>h) (Or.inl ⟨by kernel_rfl,fun w hw=>by have s0:=hw;go_simp⟩) hHeld ?_
   try simp only [Act.put,List.setIfInBounds_toArray,List.set_cons_zero,List.set_cons_succ,List.getElem_toArray,List.getElem_cons_succ,List.getElem_cons_zero]
   refine wpAnyH_take (i:=3) (v:= .map (some mb)) rfl (by kernel_rfl) (by kernel_rfl) (by kernel_rfl) (fun _ _ _ h=>h) (Or.inl ⟨by kernel_rfl,fun w hw=>by have s0:=hw;go_simp⟩) hHeld ?_
   try simp only [Act.put,List.setIfInBounds_toArray,List.set_cons_zero,List.set_cons_succ,List.getElem_toArray,List.getElem_cons_succ,List.getElem_cons_zero]
   refine wpAnyH_take (i:=4) (v:= .string id) rfl (by kernel_rfl) (by kernel_rfl) (by kernel_rfl) (fun _ _ _ h=>h) (Or.inl ⟨by kernel_rfl,fun w hw=>by have s0:=hw;go_simp⟩) hHeld ?_
   try simp only [Act.put,List.setIfInBounds_toArray,List.set_cons_zero,List.set_cons_succ,List.getElem_toArray,List.getElem_cons_succ,List.getElem_cons_zero]
   refine wpAnyH_take (i:=6) (v:= .agg #[.int .i64 0,.int .i64 0]) rfl (by kernel_rfl) (by kernel_rfl) (by kernel_rfl) (fun _ _ _ h=>h) (Or.inl ⟨by kernel_rfl,fun w hw=>by have s0:=hw;go_simp⟩) hHeld ?_
   try simp only [Act.put,List.setIfInBounds_toArray,List.set_cons_zero,List.set_cons_succ,List.getElem_toArray,List.getElem_cons_succ,List.getElem_cons_zero]
   refine wpAnyH_ready (rs:=[5,7]) (by kernel_rfl) (by simp) ?_
   refine AllReadyH.cons rfl (fun K hK=> ?_) (AllReadyH.cons rfl (fun K hK=> ?_) AllReadyH.nil)
   ·go_simp
    refine (sClone_any id _ (by omega)).mono ?_
    rintro e w5 ⟨rfl,hb5⟩
    have hb6:Below w.heap.size w w5:=((Below.refl _ _).drew).trans hb5
    have hl5:=Nat.lt_of_lt_of_le l0 hb6.size
    refine hK.out _ _ ((bcell3 hb6 _ _ l0).trans c3) (fun hHeld=> ?_)
    clear hK K
    refine wpAnyH_ready (rs:=[7]) (by kernel_rfl) (by simp) ?_
    refine AllReadyH.cons rfl (fun K hK=> ?_) AllReadyH.nil
    go_simp
    have hb7:Below w.heap.size w (w5.alloc (.cells #[.int .i64 0,.int .i64 0] 100)):=hb6.trans (((Below.refl _ _).alloc (Nat.le_refl _) _).mono hb6.size)
    refine hK.out _ _ ((bcell3 hb7 _ _ l0).trans c3) (fun hHeld=> ?_)
    clear hK K
    obtain ⟨w8,hrun,hq⟩:=(unhide HD).begin hid (unhide HNO) h8 hb7 (blk_alloc w5 _) hb6.size
    have hb5':=hb5
    clear hb5
    refine wpAnyH_ready (rs:=[8]) (by kernel_rfl) (by simp) ?_
    refine AllReadyH.cons rfl (fun K hK=> ?_) AllReadyH.nil
    go_simp
    have hq2:=hq
    obtain ⟨_,pb',D',hd',_⟩:=hq2
    refine hK.out _ _ (cell_of_blk hd'.blk 3) (fun hHeld=> ?_)
    clear hK K hrun hd' hHeld
    refine wpAnyH_done (by kernel_rfl) ?_ _
    have HQ:=hide hq
    clear hq
    go_wp2_with fail
    refine bodyPost_ret (v:= .int .i64 0) (by simp [results,Tryz.results30,go_sem]) rfl ?_
    rw [unhide HE]
    exact ⟨rfl,unhide HQ⟩
   ·go_simp
    have hb6:Below w.heap.size w (w.drew.alloc (.cells #[.int .i64 0,.int .i64 0] 100)):=((Below.refl _ _).drew).alloc (Nat.le_refl _) _
    refine hK.out _ _ ((bcell3 hb6 _ _ l0).trans c3) (fun hHeld=> ?_)
    clear hK K
    refine wpAnyH_ready (rs:=[5]) (by kernel_rfl) (by simp) ?_
    refine AllReadyH.cons rfl (fun K hK=> ?_) AllReadyH.nil
    go_simp
    refine (sClone_any id _ (by omega)).mono ?_
    rintro e w5 ⟨rfl,hb5⟩
    have hb7:Below w.heap.size w w5:=hb6.trans (hb5.mono hb6.size)
    refine hK.out _ _ ((bcell3 hb7 _ _ l0).trans c3) (fun hHeld=> ?_)
    clear hK K
    have hpk:w5.heap[w.heap.size]? =some (.cells #[.int .i64 0,.int .i64 0] 100 (0,0)):=(hb5.block _ (by simp)).trans (blk_alloc w.drew _)
    obtain ⟨w8,hrun,hq⟩:=(unhide HD).begin hid (unhide HNO) h8 hb7 hpk (Nat.le_refl _)
    clear hb5
    refine wpAnyH_ready (rs:=[8]) (by kernel_rfl) (by simp) ?_
    refine AllReadyH.cons rfl (fun K hK=> ?_) AllReadyH.nil
    go_simp
    have hq2:=hq
    obtain ⟨_,pb',D',hd',_⟩:=hq2
    refine hK.out _ _ (cell_of_blk hd'.blk 3) (fun hHeld=> ?_)
    clear hK K hrun hd' hHeld
    refine wpAnyH_done (by kernel_rfl) ?_ _
    have HQ:=hide hq
    clear hq
    go_wp2_with fail
    refine bodyPost_ret (v:= .int .i64 0) (by simp [results,Tryz.results30,go_sem]) rfl ?_
    rw [unhide HE]
    exact ⟨rfl,unhide HQ⟩
set_option maxHeartbeats 4000000 in
set_option maxRecDepth 100000 in
theorem Event_any (w:World) (db:Nat) (t:Tb) (cs:List Cs) (A n ab a0 fb f0 nb n0 ac fc nc:Nat) (rb ro rc:Nat→Nat) (mb:Nat) (pb:ByteArray→Nat) (D:DataW Unit) (hD:DkP w db t cs A n ab a0 fb f0 nb n0 ac fc nc rb ro rc mb pb D) (id act:ByteArray) (hid:id.size≤140737488355328) (hev: ∀c∈cs,c.ev≤4611686018427387904):
  Calls Tryz.prog 32 #[.pointer (some ⟨db,0,none⟩),.string id,.string act] w fun e w'=>e= .returned (.int .i64 ((dkEvent t cs id act).2:Int))∧FrD (DkS cs mb pb) w w'∧DkP w' db t (dkEvent t cs id act).1 A n ab a0 fb f0 nb n0 ac fc nc rb ro rc mb pb D:=by
 have c3:=cell_of_blk hD.blk 3
 have l0:=lt_of_blk hD.blk
 have HD:=hide hD
 clear hD
 go_enter Tryz.func32,Tryz.ntmps32
 cases hc:csAt cs id with
 |none=>
  have HT:=hide ((unhide HD).gone hc)
  have e:dkEvent t cs id act=(cs,8):=by unfold dkEvent;rw [hc]
  rw [e]
  clear hc e hev
  go_wp2_with (at_lookup;go_must (refine look_gone rfl _ _ rfl mb cs.length D rfl (unhide HD).mp id rfl hid (unhide HT) ?_))
  go_wp2_with fail
  refine bodyPost_ret (v:= .int .i64 8) (by simp [results,Tryz.results32,go_sem]) rfl ?_
  exact ⟨rfl,FrD.refl _ _,unhide HD⟩
 |some c=>
  have HT:=hide ((unhide HD).there hc)
  obtain ⟨hcm,hcid⟩:=csAt_some hc
  have hce:=hev c hcm
  have HCM:=hide hcm
  have HCI:=hide hcid
  have hst:=(unhide HD).st c hcm
  have hblk:=(unhide HD).cell c hcm
  rw [hcid] at hblk
  have HBK:=hide hblk
  have e:dkEvent t cs id act=if (dkStep t c.st act).2=0 then (csPut cs id (dkStep t c.st act).1 (c.ev+1),0) else (cs,(dkStep t c.st act).2):=by unfold dkEvent;rw [hc]
  have HE:=hide e
  have HSA:=hide (step_any w db t cs A n ab a0 fb f0 nb n0 ac fc nc rb ro rc mb pb D (unhide HD) c.st hst act)
  have hsl:(dkStep t c.st act).2=0→(dkStep t c.st act).1<n:=fun h0=>by
   unfold dkStep at h0⊢
   cases hf:fnd act t.acts 0 with
   |none=>rw [hf] at h0;cases h0
   |some a=>
    rw [hf] at h0
    have haA:a<A:=by
     have h1:=(List.getElem?_eq_some_iff.1 (fnd_some hf).2).1
     rw [Nat.sub_zero,(unhide HD).tb.hA] at h1
     exact h1
    have hy:=(unhide HD).tb.lt hst haA
    simp only at h0⊢
    split
    ·show 0<n;have:=(unhide HD).tb.n1;omega
    ·exact hy
  clear hc e hev hcm hcid hblk
  generalize hds:dkStep t c.st act=ds at *
  obtain ⟨d1,d2⟩:=ds
  simp only at hsl⊢
  have p0:=cell_of_blk (unhide HBK) 0
  have p1:=cell_of_blk (unhide HBK) 1
  have lp:=lt_of_blk (unhide HBK)
  clear hds
  go_wp2_with (at_lookup;go_must (refine look_there rfl _ _ rfl mb cs.length D rfl (unhide HD).mp id rfl hid (pb id) (unhide HT).1 (unhide HT).2.1 ?_))
  clear HT c3
  go_wp2_with fail
  refine (unhide HSA).mono ?_
  clear HSA p0 p1 lp
  rintro e w1 ⟨rfl,hb1⟩
  have HB:=hide hb1
  by_cases h0:d2=0
  ·subst h0
   have HD1:=hide ((unhide HD).later hb1)
   have hbk1:=(hb1.block _ (lt_of_blk (unhide HBK))).trans (unhide HBK)
   have p0:=cell_of_blk hbk1 0
   have p1:=cell_of_blk hbk1 1
   have q0:=frozen_of_blk hbk1 0
   have q1:=frozen_of_blk hbk1 1
   have lp:=lt_of_blk hbk1
   have hd1:=hsl rfl
   have hput:=(unhide HD1).put (unhide HCM) d1 (c.ev+1) hd1
   rw [unhide HCI] at hput
   have HPUT:=hide hput
   clear hput hsl hbk1 hb1
   go_wp2_with fail
   refine bodyPost_ret (v:= .int .i64 0) (by simp [results,Tryz.results32,go_sem]) rfl ?_
   have e2:dkEvent t cs id act=(csPut cs id d1 (c.ev+1),0):=by rw [unhide HE];rfl
   rw [e2]
   exact ⟨rfl,(FrD.below (unhide HB)).trans ((unhide HPUT).2),(unhide HPUT).1⟩
  ·have HE2:Hid (dkEvent t cs id act=(cs,d2)):=by show _=_;rw [unhide HE];simp only [if_neg h0]
   have h0i:¬ ((d2:Nat):Int)=0:=by omega
   clear hb1
   go_wp2_with fail
   refine bodyPost_ret (v:= .int .i64 (d2:Int)) (by simp [results,Tryz.results32,go_sem]) rfl ?_
   rw [unhide HE2]
   exact ⟨rfl,FrD.below (unhide HB),(unhide HD).later (unhide HB)⟩
set_option maxHeartbeats 4000000 in
set_option maxRecDepth 100000 in
theorem End_any (w:World) (db:Nat) (t:Tb) (cs:List Cs) (A n ab a0 fb f0 nb n0 ac fc nc:Nat) (rb ro rc:Nat→Nat) (mb:Nat) (pb:ByteArray→Nat) (D:DataW Unit) (hD:DkP w db t cs A n ab a0 fb f0 nb n0 ac fc nc rb ro rc mb pb D) (id:ByteArray) (hid:id.size≤140737488355328):
  Calls Tryz.prog 53 #[.pointer (some ⟨db,0,none⟩),.string id] w fun e w'=>e= .returned (.int .i64 ((dkEnd t cs id).2:Int))∧DkQ db t cs (dkEnd t cs id).1 A n ab a0 fb f0 nb n0 ac fc nc rb ro rc mb pb w w':=by
 have c3:=cell_of_blk hD.blk 3
 have l0:=lt_of_blk hD.blk
 have HD:=hide hD
 clear hD
 go_enter Tryz.func53,Tryz.ntmps53
 cases hc:csAt cs id with
 |none=>
  have HT:=hide ((unhide HD).gone hc)
  have e:dkEnd t cs id=(cs,8):=by unfold dkEnd;rw [hc]
  rw [e]
  clear hc e
  go_wp2_with (at_lookup;go_must (refine look_gone rfl _ _ rfl mb cs.length D rfl (unhide HD).mp id rfl hid (unhide HT) ?_))
  go_wp2_with fail
  refine bodyPost_ret (v:= .int .i64 8) (by simp [results,Tryz.results53,go_sem]) rfl ?_
  exact ⟨rfl,FrD.refl _ _,pb,D,unhide HD,fun k hk=>Or.inl hk⟩
 |some c=>
  have HT:=hide ((unhide HD).there hc)
  obtain ⟨hcm,hcid⟩:=csAt_some hc
  have HCM:=hide hcm
  have HCI:=hide hcid
  have hst:=(unhide HD).st c hcm
  have hblk:=(unhide HD).cell c hcm
  rw [hcid] at hblk
  have HBK:=hide hblk
  have e:dkEnd t cs id=if accT t c.st=true then (csDel cs id,0) else (cs,10):=by unfold dkEnd;rw [hc]
  have HE:=hide e
  clear hc e hcm hcid hblk
  go_wp2_with (at_lookup;go_must (refine look_there rfl _ _ rfl mb cs.length D rfl (unhide HD).mp id rfl hid (pb id) (unhide HT).1 (unhide HT).2.1 ?_))
  have HHA:=hide (fun d os=>has_acc (Go.Sort.grow (redrawn w d) os) t A n ab a0 fb f0 nb n0 ac fc nc rb ro rc ((unhide HD).tb.later (below_regrown w d os)) c.st hst)
  have k0:=fun d os=>cell_regrown (cell_of_blk (unhide HD).blk 0) d os
  have k1:=fun d os=>cell_regrown (cell_of_blk (unhide HD).blk 1) d os
  have k2:=fun d os=>cell_regrown (cell_of_blk (unhide HD).blk 2) d os
  have kl: ∀d os,db<(Go.Sort.grow (redrawn w d) os).heap.size:=fun d os=>Nat.lt_of_lt_of_le (lt_of_blk (unhide HD).blk) (below_regrown w d os).size
  have p0:=fun d os=>cell_regrown (cell_of_blk (unhide HBK) 0) d os
  have lp: ∀d os,pb id<(Go.Sort.grow (redrawn w d) os).heap.size:=fun d os=>Nat.lt_of_lt_of_le (lt_of_blk (unhide HBK)) (below_regrown w d os).size
  clear HT c3
  generalize accT t c.st=acc at *
  go_wp2_with fail
  refine wp_region_quiet_below (by kernel_rfl) (by kernel_rfl) ?_
  repeat (quiet_step (first|(go_at_call 48;exact Calls.regrown_of (unhide HHA _ _))))
  refine wpQuiet_nil ?_
  intro w1 hw'
  obtain ⟨⟨dq,osq⟩,hw''⟩:=hw'
  have hb1:Below w.heap.size w w1:=by rw [hw''];exact below_regrown w dq osq
  clear hw'' k0 k1 k2 kl p0 lp HHA
  have HB:=hide hb1
  have HD1:=hide ((unhide HD).later hb1)
  have c3:=cell_of_blk (unhide HD1).blk 3
  have l1:=lt_of_blk (unhide HD1).blk
  cases acc with
  |false=>
   clear hb1
   go_wp2_with fail
   refine bodyPost_ret (v:= .int .i64 10) (by simp [results,Tryz.results53,go_sem]) rfl ?_
   have e2:dkEnd t cs id=(cs,10):=by rw [unhide HE];rfl
   rw [e2]
   exact ⟨rfl,FrD.below (unhide HB),pb,D,(unhide HD).later (unhide HB),fun k hk=>Or.inl hk⟩
  |true=>
   clear hb1
   go_wp2_with (at_delete;go_must (refine wpList_delete_own _ rfl _ _ 93 9 rfl 97 lawT Tryz.underlying93 ptrE mb cs.length D rfl (unhide HD1).mp _ (klI id) rfl (keyI hid) ?_))
   intro w2 hm2 ht2
   have hdel:=(unhide HD1).del (unhide HCM) (w':=w2) (by rw [unhide HCI];exact hm2) ht2
   rw [unhide HCI] at hdel
   have HDEL:=hide hdel
   clear hdel hm2 ht2
   go_wp2_with fail
   refine bodyPost_ret (v:= .int .i64 0) (by simp [results,Tryz.results53,go_sem]) rfl ?_
   have e2:dkEnd t cs id=(csDel cs id,0):=by rw [unhide HE];rfl
   rw [e2]
   exact ⟨rfl,(FrD.below (unhide HB)).trans (unhide HDEL).2,pb,_,(unhide HDEL).1,fun k hk=>Or.inl (by
    rcases hk with rfl|⟨x,hx,rfl⟩
    ·exact Or.inl rfl
    ·exact Or.inr ⟨x,(csDel_mem.1 hx).1,rfl⟩)⟩
end Go.Proofs.YtidakhhekofkoaaGreatDoor
