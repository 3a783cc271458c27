/- A desk of the program: Open, Tell, Options. -/
import Derived.Test.YtidakhhekofkoaaGreatDoorJ40
import Derived.Carry
import Derived.Test.YtidakhhekofkoaaGreatDoorJ28
import Derived.Test.YtidakhhekofkoaaGreatDoorJ43
import Derived.Test.YtidakhhekofkoaaGreatDoorJ42
set_option linter.unusedSimpArgs false
set_option linter.unusedVariables false
namespace Go.Proofs.YtidakhhekofkoaaGreatDoor
open Go.RowKit Go.Deep Go.Maps
theorem tbl_low {W:World} {base:Nat} {t:Tb} {A n ab a0 fb f0 nb n0 ac fc nc:Nat} {rb ro rc:Nat→Nat} {rv:List Value} (h:TbW W base (.slice (some ⟨ab,a0,none⟩) A ac) (.slice (some ⟨fb,f0,none⟩) n fc) (.slice (some ⟨nb,n0,none⟩) n nc) t rv)
  (hL:TbL W t A n ab a0 fb f0 nb n0 rb ro rc):base≤ab∧base≤fb∧base≤nb∧ ∀i,i<n→base≤rb i:=by
 have hn:=hL.hn
 subst hn
 refine ⟨own_base h.acts rfl,own_base h.fl rfl,own_base h.nx rfl,fun i hi=> ?_⟩
 have hin:i<t.nx.length:=hi
 obtain ⟨g,c,h1,h2⟩:=h.rows i t.nx[i] (List.getElem?_eq_getElem hin)
 obtain ⟨b,e1,_,e2⟩:=owns1_at h.nx hin
 have hrow:=hL.row i hi
 cases e1
 rw [Nat.zero_add,e2,h1] at hrow
 injection hrow with hrow
 injection hrow with hrow
 injection hrow with hrow
 injection hrow with hrow
 rw [←hrow]
 exact own_base h2 rfl
def OpenP (b:List UInt8) (w w':World) (e:Ending):Prop:=Below w.heap.size w w'∧
 ((DecR b none∧e= .returned (.tuple #[.pointer none,.int .i64 6]))∨
 (∃t,DecR b (some t)∧¬ 2≤flT t 0∧e= .returned (.tuple #[.pointer none,.int .i64 7]))∨
 ∃t db A n ab a0 fb f0 nb n0 ac fc nc rb ro rc mb pb D,DecR b (some t)∧2≤flT t 0∧e= .returned (.tuple #[.pointer (some ⟨db,0,none⟩),.int .i64 0])∧DkP w' db t [] A n ab a0 fb f0 nb n0 ac fc nc rb ro rc mb pb D∧
  w.heap.size≤db∧w.heap.size≤mb∧w.heap.size≤ab∧w.heap.size≤fb∧w.heap.size≤nb∧ ∀i,i<n→w.heap.size≤rb i)
set_option maxHeartbeats 4000000 in
set_option maxRecDepth 100000 in
theorem Open_any (w:World) (b:ByteArray) (hG:GV w):Calls Tryz.prog 29 #[.string b] w fun e w'=>OpenP b.data.toList w w' e:=by
 have HDC:=hide (Decode_any w b hG)
 have hmm:= @run_makeMap Tryz.prog
 clear hG
 go_enter Tryz.func29,Tryz.ntmps29
 go_wp2_with fail
 refine (unhide HDC).mono ?_
 clear HDC
 rintro e w1 ⟨o,hr,hd⟩
 cases o with
 |none=>
  obtain ⟨hb1,he⟩:=hd
  have he':e= .returned (.tuple #[.agg #[.slice none 0 0,.slice none 0 0,.slice none 0 0],.int .i64 6]):=he
  subst he'
  clear he
  have hba:=hb1.trans (((Below.refl _ _).alloc (Nat.le_refl _) (.cells #[.slice none 0 0,.slice none 0 0,.slice none 0 0] 36)).mono hb1.size)
  have HBA:=hide hba
  have HR:=hide hr
  clear hba hr hb1
  go_wp2_with fail
  refine bodyPost_ret (v:= .tuple #[.pointer none,.int .i64 6]) (by simp [results,Tryz.results29,go_sem]) rfl ?_
  exact ⟨unhide HBA,Or.inl ⟨unhide HR,rfl⟩⟩
 |some t=>
  obtain ⟨ao,fo,no,ac,fc,nc,rv,rfl,hT,hR,hb1⟩:=DecT.of rfl hr.1 hd
  obtain ⟨ab,a0,fb,f0,nb,n0,rb,ro,rc,rfl,rfl,rfl,hL⟩:=tbl_of (hT.read hR.small).1 hR
  have hlow:=tbl_low (by rw [←hR.fl] at *;exact hT) hL
  have hb4:Below w1.heap.size w1 (((w1.alloc (.cells #[.slice (some ⟨ab,a0,none⟩) t.acts.length ac,.slice (some ⟨fb,f0,none⟩) t.fl.length fc,.slice (some ⟨nb,n0,none⟩) t.nx.length nc] 36)).alloc (.map #[] 0)).alloc (.cells #[.slice (some ⟨ab,a0,none⟩) t.acts.length ac,.slice (some ⟨fb,f0,none⟩) t.fl.length fc,.slice (some ⟨nb,n0,none⟩) t.nx.length nc,.map (some (w1.heap.size+1))] 95)):=(((Below.refl _ _).alloc (Nat.le_refl _) _).alloc (by simp) _).alloc (by simp;omega) _
  have hmp:(((w1.alloc (.cells #[.slice (some ⟨ab,a0,none⟩) t.acts.length ac,.slice (some ⟨fb,f0,none⟩) t.fl.length fc,.slice (some ⟨nb,n0,none⟩) t.nx.length nc] 36)).alloc (.map #[] 0)).alloc (.cells #[.slice (some ⟨ab,a0,none⟩) t.acts.length ac,.slice (some ⟨fb,f0,none⟩) t.fl.length fc,.slice (some ⟨nb,n0,none⟩) t.nx.length nc,.map (some (w1.heap.size+1))] 95)).ownsMap Tryz.prog 9 ptrE (w1.heap.size+1) 0 (.map []):=by
   have:=World.ownsMap_made (w1.alloc (.cells #[.slice (some ⟨ab,a0,none⟩) t.acts.length ac,.slice (some ⟨fb,f0,none⟩) t.fl.length fc,.slice (some ⟨nb,n0,none⟩) t.nx.length nc] 36)) Tryz.prog 9 ptrE
   have e:(w1.alloc (.cells #[.slice (some ⟨ab,a0,none⟩) t.acts.length ac,.slice (some ⟨fb,f0,none⟩) t.fl.length fc,.slice (some ⟨nb,n0,none⟩) t.nx.length nc] 36)).heap.size=w1.heap.size+1:=by simp
   rw [e] at this
   exact this.alloc _
  have hblk:(((w1.alloc (.cells #[.slice (some ⟨ab,a0,none⟩) t.acts.length ac,.slice (some ⟨fb,f0,none⟩) t.fl.length fc,.slice (some ⟨nb,n0,none⟩) t.nx.length nc] 36)).alloc (.map #[] 0)).alloc (.cells #[.slice (some ⟨ab,a0,none⟩) t.acts.length ac,.slice (some ⟨fb,f0,none⟩) t.fl.length fc,.slice (some ⟨nb,n0,none⟩) t.nx.length nc,.map (some (w1.heap.size+1))] 95)).heap[w1.heap.size+2]? =some (.cells #[.slice (some ⟨ab,a0,none⟩) t.acts.length ac,.slice (some ⟨fb,f0,none⟩) t.fl.length fc,.slice (some ⟨nb,n0,none⟩) t.nx.length nc,.map (some (w1.heap.size+1))] 95 (0,0)):=blk_alloc' _ _ _ (by simp)
  rw [hR.fl] at hb4 hmp hblk⊢
  have HR:=hide hr
  have HLOW:=hide hlow
  clear hd hr hT hR hlow
  generalize hAl:t.acts.length=A at *
  generalize hnl:t.nx.length=n at *
  have hn1:=hL.n1
  have HH:Hid (Calls Tryz.prog 48 #[.agg #[.slice (some ⟨ab,a0,none⟩) A ac,.slice (some ⟨fb,f0,none⟩) n fc,.slice (some ⟨nb,n0,none⟩) n nc],.int .i64 0,.int .i64 2] (((w1.alloc (.cells #[.slice (some ⟨ab,a0,none⟩) A ac,.slice (some ⟨fb,f0,none⟩) n fc,.slice (some ⟨nb,n0,none⟩) n nc] 36)).alloc (.map #[] 0)).alloc (.cells #[.slice (some ⟨ab,a0,none⟩) A ac,.slice (some ⟨fb,f0,none⟩) n fc,.slice (some ⟨nb,n0,none⟩) n nc,.map (some (w1.heap.size+1))] 95)) fun e w'=>e= .returned (.bool (decide (2≤flT t 0)))∧Below (((w1.alloc (.cells #[.slice (some ⟨ab,a0,none⟩) A ac,.slice (some ⟨fb,f0,none⟩) n fc,.slice (some ⟨nb,n0,none⟩) n nc] 36)).alloc (.map #[] 0)).alloc (.cells #[.slice (some ⟨ab,a0,none⟩) A ac,.slice (some ⟨fb,f0,none⟩) n fc,.slice (some ⟨nb,n0,none⟩) n nc,.map (some (w1.heap.size+1))] 95)).heap.size (((w1.alloc (.cells #[.slice (some ⟨ab,a0,none⟩) A ac,.slice (some ⟨fb,f0,none⟩) n fc,.slice (some ⟨nb,n0,none⟩) n nc] 36)).alloc (.map #[] 0)).alloc (.cells #[.slice (some ⟨ab,a0,none⟩) A ac,.slice (some ⟨fb,f0,none⟩) n fc,.slice (some ⟨nb,n0,none⟩) n nc,.map (some (w1.heap.size+1))] 95)) w'):=
   has_alive _ t A n ab a0 fb f0 nb n0 ac fc nc rb ro rc (hL.later hb4) 0 hn1
  have HL:=hide hL
  have HB1:=hide hb1
  have HB4:=hide hb4
  have HMP:=hide hmp
  have HBK:=hide hblk
  clear hL hb1 hb4 hmp hblk hAl hnl
  go_wp2_with fail
  refine (unhide HH).mono ?_
  clear HH
  generalize ((w1.alloc (.cells #[.slice (some ⟨ab,a0,none⟩) A ac,.slice (some ⟨fb,f0,none⟩) n fc,.slice (some ⟨nb,n0,none⟩) n nc] 36)).alloc (.map #[] 0)).alloc (.cells #[.slice (some ⟨ab,a0,none⟩) A ac,.slice (some ⟨fb,f0,none⟩) n fc,.slice (some ⟨nb,n0,none⟩) n nc,.map (some (w1.heap.size+1))] 95)=W4 at *
  rintro e w5 ⟨rfl,hb5⟩
  have HB5:=hide ((unhide HB1).trans (((unhide HB4).trans (hb5.mono (unhide HB4).size)).mono (unhide HB1).size))
  by_cases h2:2≤flT t 0
  ·rw [decide_eq_true h2]
   have HDK:=hide (show DkP W4 (w1.heap.size+2) t [] A n ab a0 fb f0 nb n0 ac fc nc rb ro rc (w1.heap.size+1) (fun _=>0) (.map []) from
    ⟨unhide HBK,(unhide HL).later (unhide HB4),unhide HMP,rfl,fun id=>⟨fun h=>(by cases h),fun ⟨c,hc,_⟩=>(List.not_mem_nil hc).elim⟩,fun c hc=>(List.not_mem_nil hc).elim,fun c hc=>(List.not_mem_nil hc).elim,List.nodup_nil,fun c hc=>(List.not_mem_nil hc).elim,fun c hc=>(List.not_mem_nil hc).elim,by simp,fun k hk=>by
     rcases hk with rfl|⟨c,hc,_⟩
     ·exact ⟨by omega,by have:=(unhide HL).la;omega,by have:=(unhide HL).lf;omega,by have:=(unhide HL).ln;omega,fun i hi=>by have:=(unhide HL).lr i hi;omega⟩
     ·exact (List.not_mem_nil hc).elim⟩)
   have HDK5:=hide ((unhide HDK).later hb5)
   clear hb5
   go_wp2_with fail
   refine bodyPost_ret (v:= .tuple #[.pointer (some ⟨w1.heap.size+2,0,none⟩),.int .i64 0]) (by simp [results,Tryz.results29,go_sem]) rfl ?_
   have hs:=(unhide HB1).size
   exact ⟨unhide HB5,Or.inr (Or.inr ⟨t,_,A,n,ab,a0,fb,f0,nb,n0,ac,fc,nc,rb,ro,rc,_,_,_,unhide HR,h2,rfl,unhide HDK5,by omega,by omega,(unhide HLOW).1,(unhide HLOW).2.1,(unhide HLOW).2.2.1,(unhide HLOW).2.2.2⟩)⟩
  ·rw [decide_eq_false h2]
   have H2:=hide h2
   clear hb5 h2
   go_wp2_with fail
   refine bodyPost_ret (v:= .tuple #[.pointer none,.int .i64 7]) (by simp [results,Tryz.results29,go_sem]) rfl ?_
   exact ⟨unhide HB5,Or.inr (Or.inl ⟨t,unhide HR,unhide H2,rfl⟩)⟩
def TellP (t:Tb) (cs:List Cs) (id:ByteArray) (e:Ending):Prop:=
 (csAt cs id=none∧e= .returned (.tuple #[.agg #[.int .i64 0,.bool false],.int .i64 8]))∨
 ∃c,csAt cs id=some c∧e= .returned (.tuple #[.agg #[.int .i64 (c.ev:Int),.bool (accT t c.st)],.int .i64 0])
set_option maxHeartbeats 4000000 in
set_option maxRecDepth 100000 in
theorem Tell_any (w:World) (db:Nat) (t:Tb) (cs:List Cs) (A n ab a0 fb f0 nb n0 ac fc nc:Nat) (rb ro rc:Nat→Nat) (mb:Nat) (pb:ByteArray→Nat) (D:DataW Unit) (hD:DkP w db t cs A n ab a0 fb f0 nb n0 ac fc nc rb ro rc mb pb D) (id:ByteArray) (hid:id.size≤140737488355328):
  Calls Tryz.prog 51 #[.pointer (some ⟨db,0,none⟩),.string id] w fun e w'=>TellP t cs id e∧Below w.heap.size w w':=by
 have hba:Below w.heap.size w (w.alloc (.cells #[.int .i64 0,.bool false] 105)):=(Below.refl _ _).alloc (Nat.le_refl _) _
 have HD:=hide (hD.later hba)
 have HBA:=hide hba
 have HRB:=hide (blk_alloc w (.cells #[.int .i64 0,.bool false] 105))
 have c3:=cell_of_blk hD.blk 3
 have l0:=lt_of_blk hD.blk
 have hlw:w.heap.size<(w.alloc (.cells #[.int .i64 0,.bool false] 105)).heap.size:=by simp
 clear hD hba
 go_enter Tryz.func51,Tryz.ntmps51
 cases hc:csAt cs id with
 |none=>
  have HT:=hide ((unhide HD).gone hc)
  have HC:=hide hc
  clear hc
  go_wp2_with (at_lookup;go_must (refine look_gone rfl _ _ rfl mb cs.length D rfl (unhide HD).mp id rfl hid (unhide HT) ?_))
  go_wp2_with fail
  have rc:=fun o=>cell_of_blk (unhide HRB) o
  refine bodyPost_ret (v:= .tuple #[.agg #[.int .i64 0,.bool false],.int .i64 8]) (by simp [results,Tryz.results51,go_sem,rc]) rfl ?_
  exact ⟨Or.inl ⟨unhide HC,rfl⟩,unhide HBA⟩
 |some c=>
  have HT:=hide ((unhide HD).there hc)
  obtain ⟨hcm,hcid⟩:=csAt_some hc
  have HC:=hide hc
  have hst:=(unhide HD).st c hcm
  have hblk:=(unhide HD).cell c hcm
  rw [hcid] at hblk
  have HBK:=hide hblk
  clear hc hcm hcid hblk
  go_wp2_with (at_lookup;go_must (refine look_there rfl _ _ rfl mb cs.length D rfl (unhide HD).mp id rfl hid (pb id) (unhide HT).1 (unhide HT).2.1 ?_))
  clear HT c3 l0
  generalize w.alloc (.cells #[.int .i64 0,.bool false] 105)=W at *
  have hRl:=lt_of_blk (unhide HRB)
  have hRd:w.heap.size≠db:=fun e=>by have:=(unhide HD).blk;rw [←e,unhide HRB] at this;cases this
  have hRp:w.heap.size≠pb id:=fun e=>by have:=unhide HBK;rw [←e,unhide HRB] at this;injection this with h;injection h with _ h2 _;exact absurd h2 (by decide)
  generalize hRe:w.heap.size=R at *
  have s0:=cell_of_blk (unhide HD).blk 0
  have s1:=cell_of_blk (unhide HD).blk 1
  have s2:=cell_of_blk (unhide HD).blk 2
  have s3:=cell_of_blk (unhide HBK) 0
  have s4:=cell_of_blk (unhide HBK) 1
  have ld:=lt_of_blk (unhide HD).blk
  have lp:=lt_of_blk (unhide HBK)
  refine wp_region_held_drew (S:=fun w'=>w'.cell? ⟨db,0,none⟩=some (.slice (some ⟨ab,a0,none⟩) A ac)∧w'.cell? ⟨db,1,none⟩=some (.slice (some ⟨fb,f0,none⟩) n fc)∧w'.cell? ⟨db,2,none⟩=some (.slice (some ⟨nb,n0,none⟩) n nc)∧w'.cell? ⟨pb id,0,none⟩=some (.int .i64 (c.st:Int))∧w'.cell? ⟨pb id,1,none⟩=some (.int .i64 (c.ev:Int))) (by kernel_rfl) ?_ (fun hHeld=> ?_)
  ·exact ⟨s0,s1,s2,s3,s4⟩
  clear s0 s1 s2 s3 s4
  refine wpAnyH_take (i:=0) (v:= .pointer (some ⟨pb id,0,none⟩)) rfl (by kernel_rfl) (by kernel_rfl) (by kernel_rfl) (fun _ _ _ h=>h) (Or.inl ⟨by kernel_rfl,fun w hw=>by obtain ⟨s0,s1,s2,s3,s4⟩:=hw;go_simp⟩) hHeld ?_
  try simp only [Act.put,List.setIfInBounds_toArray,List.set_cons_zero,List.set_cons_succ,List.getElem_toArray,List.getElem_cons_succ,List.getElem_cons_zero]
  refine wpAnyH_take (i:=1) (v:= .pointer (some ⟨pb id,0,none⟩)) rfl (by kernel_rfl) (by kernel_rfl) (by kernel_rfl) (fun _ _ _ h=>h) (Or.inl ⟨by kernel_rfl,fun w hw=>by obtain ⟨s0,s1,s2,s3,s4⟩:=hw;go_simp⟩) hHeld ?_
  try simp only [Act.put,List.setIfInBounds_toArray,List.set_cons_zero,List.set_cons_succ,List.getElem_toArray,List.getElem_cons_succ,List.getElem_cons_zero]
  refine wpAnyH_take (i:=2) (v:= .pointer (some ⟨pb id,1,none⟩)) rfl (by kernel_rfl) (by kernel_rfl) (by kernel_rfl) (fun _ _ _ h=>h) (Or.inl ⟨by kernel_rfl,fun w hw=>by obtain ⟨s0,s1,s2,s3,s4⟩:=hw;go_simp⟩) hHeld ?_
  try simp only [Act.put,List.setIfInBounds_toArray,List.set_cons_zero,List.set_cons_succ,List.getElem_toArray,List.getElem_cons_succ,List.getElem_cons_zero]
  refine wpAnyH_take (i:=3) (v:= .int .i64 (c.ev:Int)) rfl (by kernel_rfl) (by kernel_rfl) (by kernel_rfl) (fun _ _ _ h=>h) (Or.inl ⟨by kernel_rfl,fun w hw=>by obtain ⟨s0,s1,s2,s3,s4⟩:=hw;go_simp⟩) hHeld ?_
  try simp only [Act.put,List.setIfInBounds_toArray,List.set_cons_zero,List.set_cons_succ,List.getElem_toArray,List.getElem_cons_succ,List.getElem_cons_zero]
  refine wpAnyH_take (i:=4) (v:= .pointer (some ⟨db,0,none⟩)) rfl (by kernel_rfl) (by kernel_rfl) (by kernel_rfl) (fun _ _ _ h=>h) (Or.inl ⟨by kernel_rfl,fun w hw=>by obtain ⟨s0,s1,s2,s3,s4⟩:=hw;go_simp⟩) hHeld ?_
  try simp only [Act.put,List.setIfInBounds_toArray,List.set_cons_zero,List.set_cons_succ,List.getElem_toArray,List.getElem_cons_succ,List.getElem_cons_zero]
  refine wpAnyH_take (i:=5) (v:= .pointer (some ⟨db,0,none⟩)) rfl (by kernel_rfl) (by kernel_rfl) (by kernel_rfl) (fun _ _ _ h=>h) (Or.inl ⟨by kernel_rfl,fun w hw=>by obtain ⟨s0,s1,s2,s3,s4⟩:=hw;go_simp⟩) hHeld ?_
  try simp only [Act.put,List.setIfInBounds_toArray,List.set_cons_zero,List.set_cons_succ,List.getElem_toArray,List.getElem_cons_succ,List.getElem_cons_zero]
  refine wpAnyH_take (i:=6) (v:= .pointer (some ⟨db,0,none⟩)) rfl (by kernel_rfl) (by kernel_rfl) (by kernel_rfl) (fun _ _ _ h=>h) (Or.inl ⟨by kernel_rfl,fun w hw=>by obtain ⟨s0,s1,s2,s3,s4⟩:=hw;go_simp⟩) hHeld ?_
  try simp only [Act.put,List.setIfInBounds_toArray,List.set_cons_zero,List.set_cons_succ,List.getElem_toArray,List.getElem_cons_succ,List.getElem_cons_zero]
  refine wpAnyH_take (i:=7) (v:= .agg #[.slice (some ⟨ab,a0,none⟩) A ac,.slice (some ⟨fb,f0,none⟩) n fc,.slice (some ⟨nb,n0,none⟩) n nc]) rfl (by kernel_rfl) (by kernel_rfl) (by kernel_rfl) (fun _ _ _ h=>h) (Or.inl ⟨by kernel_rfl,fun w hw=>by obtain ⟨s0,s1,s2,s3,s4⟩:=hw;go_simp⟩) hHeld ?_
  try simp only [Act.put,List.setIfInBounds_toArray,List.set_cons_zero,List.set_cons_succ,List.getElem_toArray,List.getElem_cons_succ,List.getElem_cons_zero]
  refine wpAnyH_take (i:=8) (v:= .pointer (some ⟨pb id,0,none⟩)) rfl (by kernel_rfl) (by kernel_rfl) (by kernel_rfl) (fun _ _ _ h=>h) (Or.inl ⟨by kernel_rfl,fun w hw=>by obtain ⟨s0,s1,s2,s3,s4⟩:=hw;go_simp⟩) hHeld ?_
  try simp only [Act.put,List.setIfInBounds_toArray,List.set_cons_zero,List.set_cons_succ,List.getElem_toArray,List.getElem_cons_succ,List.getElem_cons_zero]
  refine wpAnyH_take (i:=9) (v:= .pointer (some ⟨pb id,0,none⟩)) rfl (by kernel_rfl) (by kernel_rfl) (by kernel_rfl) (fun _ _ _ h=>h) (Or.inl ⟨by kernel_rfl,fun w hw=>by obtain ⟨s0,s1,s2,s3,s4⟩:=hw;go_simp⟩) hHeld ?_
  try simp only [Act.put,List.setIfInBounds_toArray,List.set_cons_zero,List.set_cons_succ,List.getElem_toArray,List.getElem_cons_succ,List.getElem_cons_zero]
  refine wpAnyH_take (i:=10) (v:= .pointer (some ⟨pb id,0,none⟩)) rfl (by kernel_rfl) (by kernel_rfl) (by kernel_rfl) (fun _ _ _ h=>h) (Or.inl ⟨by kernel_rfl,fun w hw=>by obtain ⟨s0,s1,s2,s3,s4⟩:=hw;go_simp⟩) hHeld ?_
  try simp only [Act.put,List.setIfInBounds_toArray,List.set_cons_zero,List.set_cons_succ,List.getElem_toArray,List.getElem_cons_succ,List.getElem_cons_zero]
  refine wpAnyH_take (i:=11) (v:= .int .i64 (c.st:Int)) rfl (by kernel_rfl) (by kernel_rfl) (by kernel_rfl) (fun _ _ _ h=>h) (Or.inl ⟨by kernel_rfl,fun w hw=>by obtain ⟨s0,s1,s2,s3,s4⟩:=hw;go_simp⟩) hHeld ?_
  try simp only [Act.put,List.setIfInBounds_toArray,List.set_cons_zero,List.set_cons_succ,List.getElem_toArray,List.getElem_cons_succ,List.getElem_cons_zero]
  refine wpAnyH_ready (rs:=[12]) (by kernel_rfl) (by simp) ?_
  refine AllReadyH.cons rfl (fun K hK=> ?_) AllReadyH.nil
  go_simp
  refine (has_acc W.drew t A n ab a0 fb f0 nb n0 ac fc nc rb ro rc ((unhide HD).tb.later ((Below.refl _ _).drew)) c.st hst).mono ?_
  rintro e w5 ⟨rfl,hb5⟩
  have hb6:Below W.heap.size W w5:=((Below.refl _ _).drew).trans hb5
  have hS5:w5.cell? ⟨db,0,none⟩=some (.slice (some ⟨ab,a0,none⟩) A ac)∧w5.cell? ⟨db,1,none⟩=some (.slice (some ⟨fb,f0,none⟩) n fc)∧w5.cell? ⟨db,2,none⟩=some (.slice (some ⟨nb,n0,none⟩) n nc)∧w5.cell? ⟨pb id,0,none⟩=some (.int .i64 (c.st:Int))∧w5.cell? ⟨pb id,1,none⟩=some (.int .i64 (c.ev:Int)):=
   ⟨(bcell3 hb6 _ _ ld).trans hHeld.1,(bcell3 hb6 _ _ ld).trans hHeld.2.1,(bcell3 hb6 _ _ ld).trans hHeld.2.2.1,(bcell3 hb6 _ _ lp).trans hHeld.2.2.2.1,(bcell3 hb6 _ _ lp).trans hHeld.2.2.2.2⟩
  have hR5:=(hb6.block _ hRl).trans (unhide HRB)
  have HB6:=hide hb6
  refine hK.out _ _ hS5 (fun hHeld=> ?_)
  clear hK K hb5 hS5
  have r0:=frozen_of_blk hR5 0
  have r1:=frozen_of_blk hR5 1
  have r2:=cell_of_blk hR5 0
  have r3:=cell_of_blk hR5 1
  have rl:=lt_of_blk hR5
  have HFIN:=hide (blk_set (blk_set hR5 0 (.int .i64 (c.ev:Int))) 1 (.bool (accT t c.st)))
  have HFB:Hid (Below w.heap.size w ((w5.setCell ⟨R,0,none⟩ (.int .i64 (c.ev:Int))).setCell ⟨R,1,none⟩ (.bool (accT t c.st)))):=by
   have h1:Below w.heap.size w w5:=(by rw [hRe];exact (unhide HBA).trans (hb6.mono (by rw [←hRe];exact (unhide HBA).size)))
   exact (h1.setCell (by rw [hRe];exact Nat.le_refl _) _).setCell (by rw [hRe];exact Nat.le_refl _) _
  clear hb6 hR5
  obtain ⟨acc,hacc⟩: ∃acc,acc=accT t c.st:=⟨_,rfl⟩
  rw [←hacc] at HFB HFIN⊢
  have HACC:=hide hacc
  clear hacc
  refine wpAnyH_take (i:=13) (v:= .agg #[.int .i64 (c.ev:Int),.bool acc]) rfl (by kernel_rfl) (by kernel_rfl) (by kernel_rfl) (fun _ _ _ h=>h) (Or.inl ⟨by kernel_rfl,fun w hw=>by obtain ⟨s0,s1,s2,s3,s4⟩:=hw;go_simp⟩) hHeld ?_
  try simp only [Act.put,List.setIfInBounds_toArray,List.set_cons_zero,List.set_cons_succ,List.getElem_toArray,List.getElem_cons_succ,List.getElem_cons_zero]
  refine wpAnyH_ready (rs:=[14]) (by kernel_rfl) (by simp) ?_
  refine AllReadyH.cons rfl (fun K hK=> ?_) AllReadyH.nil
  go_simp
  refine hK.out _ _ ?keep (fun hHeld=> ?_)
  case keep=>
   have far: ∀(b o:Nat) (x:Value),R≠b→w5.cell? ⟨b,o,none⟩=some x→((w5.setCell ⟨R,0,none⟩ (.int .i64 (c.ev:Int))).setCell ⟨R,1,none⟩ (.bool acc)).cell? ⟨b,o,none⟩=some x:=fun b o x hne h=>by
    rw [World.cell?_setCell_far _ _ _ _ (by exact hne),World.cell?_setCell_far _ _ _ _ (by exact hne)]
    exact h
   exact ⟨far _ _ _ hRd hHeld.1,far _ _ _ hRd hHeld.2.1,far _ _ _ hRd hHeld.2.2.1,far _ _ _ hRp hHeld.2.2.2.1,far _ _ _ hRp hHeld.2.2.2.2⟩
  clear hK K r0 r1 r2 r3 rl
  have rc:=fun o=>cell_of_blk (unhide HFIN) o
  refine wpAnyH_take (i:=15) (v:= .int .i64 0) rfl (by kernel_rfl) (by kernel_rfl) (by kernel_rfl) (fun _ _ _ h=>h) (Or.inl ⟨by kernel_rfl,fun w hw=>by obtain ⟨s0,s1,s2,s3,s4⟩:=hw;go_simp⟩) hHeld ?_
  try simp only [Act.put,List.setIfInBounds_toArray,List.set_cons_zero,List.set_cons_succ,List.getElem_toArray,List.getElem_cons_succ,List.getElem_cons_zero]
  refine wpAnyH_done (by kernel_rfl) ?_ _
  clear hHeld
  go_wp2_with fail
  refine bodyPost_ret (v:= .tuple #[.agg #[.int .i64 (c.ev:Int),.bool acc],.int .i64 0]) (by simp [results,Tryz.results51,go_sem,rc]) rfl ?_
  exact ⟨Or.inr ⟨c,unhide HC,by rw [unhide HACC]⟩,unhide HFB⟩
def OptP (t:Tb) (cs:List Cs) (id:ByteArray) (w w':World) (e:Ending):Prop:=Below w.heap.size w w'∧
 ((csAt cs id=none∧e= .returned (.tuple #[.slice none 0 0,.int .i64 8]))∨
 ∃c o k,csAt cs id=some c∧e= .returned (.tuple #[.slice o (optsT t c.st).length k,.int .i64 0])∧w'.ownsRow w.heap.size 9 1 (.slice o (optsT t c.st).length k) (optsT t c.st).length (strsC (optsT t c.st)))
def optF (t:Tb) (s i:Nat):List ByteArray:=(t.acts.take i).filter fun x=>decide ((dkStep t s x).2=0)
theorem optF_all {t:Tb} {s i:Nat} (h:t.acts.length≤i):optF t s i=optsT t s:=by unfold optF optsT;rw [List.take_of_length_le h]
theorem optF_in {t:Tb} {s i:Nat} {x:ByteArray} (hx:t.acts[i]? =some x) (h:(dkStep t s x).2=0):optF t s (i+1)=optF t s i++[x]:=by
 unfold optF
 rw [List.take_add_one,hx,Option.toList_some,List.filter_append,List.filter_cons,if_pos (by simpa using h)]
 rfl
theorem optF_out {t:Tb} {s i:Nat} {x:ByteArray} (hx:t.acts[i]? =some x) (h:¬ (dkStep t s x).2=0):optF t s (i+1)=optF t s i:=by
 unfold optF
 rw [List.take_add_one,hx,Option.toList_some,List.filter_append,List.filter_cons,if_neg (by simpa using h)]
 exact List.append_nil _
theorem optF_le (t:Tb) (s i:Nat):(optF t s i).length≤i:=by
 unfold optF
 refine Nat.le_trans (List.length_filter_le _ _) ?_
 rw [List.length_take]
 omega
set_option maxHeartbeats 4000000 in
set_option maxRecDepth 100000 in
theorem Options_any (w:World) (db:Nat) (t:Tb) (cs:List Cs) (A n ab a0 fb f0 nb n0 ac fc nc:Nat) (rb ro rc:Nat→Nat) (mb:Nat) (pb:ByteArray→Nat) (D:DataW Unit) (hD:DkP w db t cs A n ab a0 fb f0 nb n0 ac fc nc rb ro rc mb pb D) (id:ByteArray) (hid:id.size≤140737488355328):
  Calls Tryz.prog 31 #[.pointer (some ⟨db,0,none⟩),.string id] w fun e w'=>OptP t cs id w w' e:=by
 obtain ⟨i0,hi0,hz0,hz1,hz2⟩:=info_parts Tryz.infoStr
 have c0:=cell_of_blk hD.blk 0
 have c3:=cell_of_blk hD.blk 3
 have l0:=lt_of_blk hD.blk
 have hA6:=hD.tb.A6
 have HD:=hide hD
 clear hD
 go_enter Tryz.func31,Tryz.ntmps31
 cases hc:csAt cs id with
 |none=>
  have HT:=hide ((unhide HD).gone hc)
  have HC:=hide hc
  clear hc
  go_wp2_with (at_lookup;go_must (refine look_gone rfl _ _ rfl mb cs.length D rfl (unhide HD).mp id rfl hid (unhide HT) ?_))
  go_wp2_with fail
  refine bodyPost_ret (v:= .tuple #[.slice none 0 0,.int .i64 8]) (by simp [results,Tryz.results31,go_sem]) rfl ?_
  exact ⟨Below.refl _ _,Or.inl ⟨unhide HC,rfl⟩⟩
 |some c=>
  have HT:=hide ((unhide HD).there hc)
  obtain ⟨hcm,hcid⟩:=csAt_some hc
  have HC:=hide hc
  have hst:=(unhide HD).st c hcm
  have hblk:=(unhide HD).cell c hcm
  rw [hcid] at hblk
  have HBK:=hide hblk
  clear hc hcm hcid hblk
  go_wp2_with (at_lookup;go_must (refine look_there rfl _ _ rfl mb cs.length D rfl (unhide HD).mp id rfl hid (pb id) (unhide HT).1 (unhide HT).2.1 ?_))
  go_wp2_with fail
  clear HT c3 c0 l0
  go_loopw [8,31] (fun tv x wr=> ∃(i:Nat) (o:Option Addr) (k:Nat),i≤A∧x= .int .i64 i∧tv= .slice o (optF t c.st i).length k∧Hid (Below w.heap.size w wr)∧Hid (wr.ownsRow w.heap.size 9 1 (.slice o (optF t c.st i).length k) (optF t c.st i).length (strsC (optF t c.st i)))) (fun _ x _=>A - (intOf x).toNat)
  case atStart=>exact ⟨0,none,0,Nat.zero_le _,rfl,rfl,Below.refl _ _,⟨rfl,Or.inl ⟨rfl,rfl⟩⟩⟩
  case round=>
   obtain ⟨i,o,k,hi,rfl,rfl,HBW,HOW⟩:=hrel
   by_cases hil:i<A
   ·have hin:(i:Int)<(A:Int):=by omega
    have hia:i<t.acts.length:=by rw [(unhide HD).tb.hA];exact hil
    have hDw:=(unhide HD).later (unhide HBW)
    have hac:=hDw.tb.act i t.acts[i] (List.getElem?_eq_getElem hia)
    have hla:=hDw.tb.la
    have HX:=hide (List.getElem?_eq_getElem hia:t.acts[i]? =some t.acts[i])
    have h8:t.acts[i].size≤8:=((unhide HD).tb.rt.acts.nm _ (List.getElem_mem hia)).n8
    generalize t.acts[i]=act at *
    have hbk:=((unhide HBW).block _ (lt_of_blk (unhide HBK))).trans (unhide HBK)
    have p0:=cell_of_blk hbk 0
    have lp:=lt_of_blk hbk
    have HSA:=hide (step_any wr db t cs A n ab a0 fb f0 nb n0 ac fc nc rb ro rc mb pb D hDw c.st hst act)
    have hfl:=optF_le t c.st i
    have HOI:=hide (@optF_in t c.st i act (unhide HX))
    have HOO:=hide (@optF_out t c.st i act (unhide HX))
    clear hbk hDw
    generalize dkStep t c.st act=ds at *
    obtain ⟨d1,d2⟩:=ds
    generalize hof:optF t c.st i=L at *
    have HOF:=hide hof
    clear hof
    go_wp2_with fail
    refine (unhide HSA).mono ?_
    clear HSA p0 lp hac hla
    rintro e w1 ⟨rfl,hb1⟩
    have HB1:=hide ((unhide HBW).trans (hb1.mono (unhide HBW).size))
    have HO1:=hide (owns_later (unhide HOW) hb1)
    clear hb1
    by_cases h0:d2=0
    ·subst h0
     have HNX:=hide (unhide HOI rfl)
     have HSC:=hide (sClone_any act w1 (by omega))
     go_wp2_with fail
     refine (unhide HSC).mono ?_
     clear HSC
     rintro e w2 ⟨rfl,hb2⟩
     have HB2:=hide ((unhide HB1).trans (hb2.mono (unhide HB1).size))
     have HO2:=hide (owns_later (unhide HO1) hb2)
     clear hb2 HB1 HO1
     go_wp2_with (at_builtin;go_must (refine wpList_append_lies _ rfl _ _ 25 rfl w.heap.size 9 i0 (.string ⟨#[]⟩) 1 16 Tryz.underlying25 hi0 hz0 hz1 hz2 rfl (by decide) _ L.length (strsC L) rfl ?c0 _ 1 1 [.string act] rfl rfl ?c1 ?c2 (by decide) ?c3 ?c4 ?c5 _ rfl ?_))
     case c0=>exact (unhide HO2).alloc _
     case c1=>
      intro j u hj
      match j,hj with
      |0,hj=>simp at hj;subst hj;exact cell_of_blk (blk_alloc' _ _ _ (by simp)) 0
      |j+1,hj=>simp at hj
     case c2=>intro u hu;simp at hu;subst hu;rfl
     case c3=>unfold maxLen;omega
     case c4=>omega
     case c5=>have:=(unhide HB2).size;simp;omega
     intro g8 c8 w8 ho8 hg8 _ _
     have hba8:Below w2.heap.size w2 (w2.alloc (.cells #[.string act] 9)):=(Below.refl _ _).alloc (Nat.le_refl _) _
     have HB8:=hide (((unhide HB2).trans (hba8.mono (unhide HB2).size)).grown hg8 (Nat.le_trans (unhide HB2).size hba8.size) (fun b hb=>own_base (unhide HO2) hb))
     have HO8:Hid (w8.ownsRow w.heap.size 9 1 (.slice (some ⟨g8,0,none⟩) (optF t c.st (i+1)).length c8) (optF t c.st (i+1)).length (strsC (optF t c.st (i+1)))):=by
      show World.ownsRow _ _ _ _ _ _ _
      rw [unhide HNX,List.length_append]
      unfold strsC
      rw [List.map_append]
      exact ho8
     have HLE:Hid ((optF t c.st (i+1)).length=L.length+1):=by show _=_;rw [unhide HNX,List.length_append];rfl
     clear ho8 hg8 hba8 HO2 HB2
     go_wp2_with fail
     go_roundw
     case rel=>exact ⟨i+1,some ⟨g8,0,none⟩,c8,by omega,by go_num,by rw [unhide HLE],HB8,HO8⟩
     case measure=>simp [intOf];omega
    ·have HNX:=hide (unhide HOO h0)
     have h0i:¬ ((d2:Nat):Int)=0:=by omega
     go_wp2_with fail
     go_roundw
     case rel=>exact ⟨i+1,o,k,by omega,by go_num,by rw [unhide HNX],HB1,by rw [unhide HNX];exact HO1⟩
     case measure=>simp [intOf];omega
   ·have hin:¬ (i:Int)<(A:Int):=by omega
    obtain rfl:i=A:=by omega
    have HOE:=hide (@optF_all t c.st i (by rw [(unhide HD).tb.hA];exact Nat.le_refl _))
    go_wp2_with fail
    refine bodyPost_ret (v:= .tuple #[.slice o (optF t c.st i).length k,.int .i64 0]) (by simp [results,Tryz.results31,go_sem]) rfl ?_
    refine ⟨unhide HBW,Or.inr ⟨c,o,k,unhide HC,by rw [unhide HOE], ?_⟩⟩
    have:=unhide HOW
    rw [unhide HOE] at this
    exact this
end Go.Proofs.YtidakhhekofkoaaGreatDoor
namespace Go.Proofs.YtidakhhekofkoaaGreatDoor
open Go.RowKit Go.Deep
def OpenQ (b:List UInt8) (w w':World) (e:Ending):Prop:=Below w.heap.size w w'∧
 ((DecR b none∧e= .returned (.tuple #[.pointer none,.int .i64 6]))∨
 (∃t,DecR b (some t)∧¬ 2≤flT t 0∧e= .returned (.tuple #[.pointer none,.int .i64 7]))∨
 ∃t rd A n ab a0 fb f0 nb n0 ac fc nc rb ro rc,DecR b (some t)∧2≤flT t 0∧e= .returned (.tuple #[.pointer (some ⟨rd,0,none⟩),.int .i64 0])∧DrP w' w.heap.size rd t [] A n ab a0 fb f0 nb n0 ac fc nc rb ro rc none 0∧
  w.heap.size≤rd∧w.heap.size≤ab∧w.heap.size≤fb∧w.heap.size≤nb∧ ∀i,i<n→w.heap.size≤rb i)
set_option maxHeartbeats 4000000 in
set_option maxRecDepth 100000 in
theorem OpenR_any (w:World) (b:ByteArray):Calls Tryz.prog 101 #[.string b] w fun e w'=>OpenQ b.data.toList w w' e:=by
 have HDC:=hide (DecodeR_any w b)
 go_enter Tryz.func101,Tryz.ntmps101
 go_wp2_with fail
 refine (unhide HDC).mono ?_
 clear HDC
 rintro e w1 ⟨o,hr,hd⟩
 cases o with
 |none=>
  obtain ⟨hb1,he⟩:=hd
  have he':e= .returned (.tuple #[.agg #[.slice none 0 0,.slice none 0 0,.slice none 0 0],.int .i64 6]):=he
  subst he'
  clear he
  have HBA:=hide (hb1.trans (((Below.refl _ _).alloc (Nat.le_refl _) (.cells #[.slice none 0 0,.slice none 0 0,.slice none 0 0] 36)).mono hb1.size))
  have HR:=hide hr
  clear hr hb1
  go_wp2_with fail
  refine bodyPost_ret (v:= .tuple #[.pointer none,.int .i64 6]) (by simp [results,Tryz.results101,go_sem]) rfl ?_
  exact ⟨unhide HBA,Or.inl ⟨unhide HR,rfl⟩⟩
 |some t=>
  obtain ⟨ao,fo,no,ac,fc,nc,rv,rfl,hT,hR,hb1⟩:=DecT.of rfl hr.1 hd
  obtain ⟨ab,a0,fb,f0,nb,n0,rb,ro,rc,rfl,rfl,rfl,hL⟩:=tbl_of (hT.read hR.small).1 hR
  have hlow:=tbl_low (by rw [←hR.fl] at *;exact hT) hL
  have hb4:Below w1.heap.size w1 ((w1.alloc (.cells #[.slice (some ⟨ab,a0,none⟩) t.acts.length ac,.slice (some ⟨fb,f0,none⟩) t.fl.length fc,.slice (some ⟨nb,n0,none⟩) t.nx.length nc] 36)).alloc (.cells #[.slice (some ⟨ab,a0,none⟩) t.acts.length ac,.slice (some ⟨fb,f0,none⟩) t.fl.length fc,.slice (some ⟨nb,n0,none⟩) t.nx.length nc,.slice none 0 0] 245)):=((Below.refl _ _).alloc (Nat.le_refl _) _).alloc (by simp) _
  have hb3:Below w1.heap.size w1 (w1.alloc (.cells #[.slice (some ⟨ab,a0,none⟩) t.acts.length ac,.slice (some ⟨fb,f0,none⟩) t.fl.length fc,.slice (some ⟨nb,n0,none⟩) t.nx.length nc] 36)):=(Below.refl _ _).alloc (Nat.le_refl _) _
  have hblk:((w1.alloc (.cells #[.slice (some ⟨ab,a0,none⟩) t.acts.length ac,.slice (some ⟨fb,f0,none⟩) t.fl.length fc,.slice (some ⟨nb,n0,none⟩) t.nx.length nc] 36)).alloc (.cells #[.slice (some ⟨ab,a0,none⟩) t.acts.length ac,.slice (some ⟨fb,f0,none⟩) t.fl.length fc,.slice (some ⟨nb,n0,none⟩) t.nx.length nc,.slice none 0 0] 245)).heap[w1.heap.size+1]? =some (.cells #[.slice (some ⟨ab,a0,none⟩) t.acts.length ac,.slice (some ⟨fb,f0,none⟩) t.fl.length fc,.slice (some ⟨nb,n0,none⟩) t.nx.length nc,.slice none 0 0] 245 (0,0)):=blk_alloc' _ _ _ (by simp)
  rw [hR.fl] at hb4 hb3 hblk⊢
  have HR:=hide hr
  have HLOW:=hide hlow
  clear hd hr hT hR hlow
  generalize hAl:t.acts.length=A at *
  generalize hnl:t.nx.length=n at *
  have hn1:=hL.n1
  have hfc:=(bcell3 hb3 _ _ hL.lf).trans (hL.fla 0 hn1)
  have hfl:=Nat.lt_of_lt_of_le hL.lf hb3.size
  have HL:=hide hL
  have HB1:=hide hb1
  have HB4:=hide hb4
  have HB3:=hide (hb1.trans (hb3.mono hb1.size))
  have HBK:=hide hblk
  have hni:(0:Int)<(n:Int):=by omega
  rw [Nat.add_zero] at hfc
  clear hL hb1 hb4 hb3 hblk hAl hnl
  by_cases h2:2≤flT t 0
  ·have h2i:¬ ((flT t 0:Nat):Int)<2:=by omega
   have H2:=hide h2
   clear h2
   go_wp2_with fail
   have hs:=(unhide HB1).size
   refine bodyPost_ret (v:= .tuple #[.pointer (some ⟨w1.heap.size+1,0,none⟩),.int .i64 0]) (by simp [results,Tryz.results101,go_sem]) rfl ?_
   refine ⟨(unhide HB1).trans ((unhide HB4).mono hs),Or.inr (Or.inr ⟨t,_,A,n,ab,a0,fb,f0,nb,n0,ac,fc,nc,rb,ro,rc,unhide HR,unhide H2,rfl,⟨unhide HBK,(unhide HL).later (unhide HB4),World.ownsRow_nil _ _ _ _,List.nodup_nil,fun c hc=>(List.not_mem_nil hc).elim,by simp,fun k hk=> ?_⟩,by omega,(unhide HLOW).1,(unhide HLOW).2.1,(unhide HLOW).2.2.1,(unhide HLOW).2.2.2⟩)⟩
   rcases hk with rfl|hk
   ·exact ⟨by have:=(unhide HL).la;omega,by have:=(unhide HL).lf;omega,by have:=(unhide HL).ln;omega,fun i hi=>by have:=(unhide HL).lr i hi;omega⟩
   ·cases hk
  ·have h2i:((flT t 0:Nat):Int)<2:=by omega
   have H2:=hide h2
   clear h2
   go_wp2_with fail
   refine bodyPost_ret (v:= .tuple #[.pointer none,.int .i64 7]) (by simp [results,Tryz.results101,go_sem]) rfl ?_
   exact ⟨unhide HB3,Or.inr (Or.inl ⟨t,unhide HR,unhide H2,rfl⟩)⟩
end Go.Proofs.YtidakhhekofkoaaGreatDoor
