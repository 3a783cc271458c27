/- Watched: the world of a desk that is watched; what the desk lets come; contains. -/
import Derived.Test.YtidakhhekofkoaaGreatDoorJ46
import Derived.Test.YtidakhhekofkoaaGreatDoorJ43
import Derived.Test.YtidakhhekofkoaaGreatDoorJ42
import Derived.Test.YtidakhhekofkoaaGreatDoorJ18
import Derived.Test.YtidakhhekofkoaaGreatDoorJ15
import Derived.Test.YtidakhhekofkoaaGreatDoorJ17
import Derived.Laws.EntriesVeiled
import Derived.Test.YtidakhhekofkoaaGreatDoorJ01
import Derived.Shelf.Strings.Builder1
import Derived.Shelf.Strings.Builder2
import Derived.Shelf.Strings.OnBuilder
import Derived.Test.YtidakhhekofkoaaGreatDoorProg
import Derived.Test.YtidakhhekofkoaaGreatDoorJ09
import Derived.Test.YtidakhhekofkoaaGreatDoorJ10
import Derived.Deep.RegionHeld
import Derived.Deep.AppendLies
import Derived.Deep.DeepCutAuto
import Derived.Test.YtidakhhekofkoaaGreatDoorJ26
import Derived.Test.YtidakhhekofkoaaGreatDoorJ07
import Derived.BigQuiet
import Derived.Deep.RegionWith
import Derived.Test.YtidakhhekofkoaaGreatDoorJ11
import Derived.Lib.QuietBelow
set_option linter.unusedSimpArgs false
set_option linter.unusedVariables false
namespace Go.Proofs.YtidakhhekofkoaaGreatDoor
open Go.RowKit Go.Deep Go.Maps
section
variable {w w' : World} {db : Nat} {t : Tb} {cs : List Cs} {A n ab a0 fb f0 nb n0 ac fc nc : Nat} {rb ro rc : Nat → Nat} {mb : Nat} {pb : ByteArray → Nat} {D : DataW Unit} {B : Nat}
end
section
variable {wO wr wr' : World} {T0 : Nat} {db : Nat} {t : Tb} {cs : List Cs} {A n ab a0 fb f0 nb n0 ac fc nc : Nat} {rb ro rc : Nat → Nat} {mb : Nat} {pb : ByteArray → Nat} {D : DataW Unit}
end
theorem step_at {t:Tb} (h:RightT t) {s a:Nat} (ha:a<t.acts.length):dkStep t s (nmT t a)=if flT t (nxT t s a)<2 then (0,9) else (nxT t s a,0):=by
 have hx:t.acts[a]? =some (nmT t a):=by unfold nmT;rw [List.getElem?_eq_getElem ha];rfl
 unfold dkStep
 rw [fnd_at h.acts.nd hx]
end Go.Proofs.YtidakhhekofkoaaGreatDoor
namespace Go.Proofs.YtidakhhekofkoaaGreatDoor
open Go.RowKit Go.Deep
set_option maxHeartbeats 4000000 in
set_option maxRecDepth 100000 in
theorem OptionsR_any (w:World) (base rd:Nat) (t:Tb) (cs:List Cs) (A n ab a0 fb f0 nb n0 ac fc nc:Nat) (rb ro rc:Nat→Nat) (lo:Option Addr) (lc:Nat) (hD:DrP w base rd t cs A n ab a0 fb f0 nb n0 ac fc nc rb ro rc lo lc) (id:ByteArray):
  Calls Tryz.prog 106 #[.pointer (some ⟨rd,0,none⟩),.string id] w fun e w'=>OptP t cs id w w' e:=by
 obtain ⟨i0,hi0,hz0,hz1,hz2⟩:=info_parts Tryz.infoStr
 have HFD:=hide (dfind_any w base rd t cs A n ab a0 fb f0 nb n0 ac fc nc rb ro rc lo lc hD id)
 have HD:=hide hD
 have hA6:=hD.tb.A6
 have hfew:=hD.few
 clear hD
 go_enter Tryz.func106,Tryz.ntmps106
 go_wp2_with fail
 refine (unhide HFD).mono ?_
 clear HFD
 rintro e w' ⟨hf,hw'⟩
 have hw:=hw'.symm
 clear hw'
 subst hw
 rcases hf with ⟨hc,rfl⟩|⟨q,c,hq,hc,hcid,rfl⟩
 ·have HC:=hide hc
  clear hc
  go_wp2_with fail
  refine bodyPost_ret (v:= .tuple #[.slice none 0 0,.int .i64 8]) (by simp [results,Tryz.results106,go_sem]) rfl ?_
  exact ⟨Below.refl _ _,Or.inl ⟨unhide HC,rfl⟩⟩
 ·have HC:=hide hc
  have HQ:=hide hq
  have hql:q<cs.length:=(List.getElem?_eq_some_iff.1 hq).1
  have hst:=(unhide HD).st c (List.mem_of_getElem? hq)
  have hq0:¬ (q:Int)<0:=by omega
  have hqi:(q:Int)<(cs.length:Int):=by omega
  clear hc hq hcid
  go_wp2_with fail
  go_loopw [7,8] (fun tv x wr=> ∃(i:Nat) (o:Option Addr) (k:Nat),i≤A∧x= .int .i64 i∧tv= .slice o (optF t c.st i).length k∧Hid (Below w.heap.size w wr)∧Hid (wr.ownsRow w.heap.size 9 1 (.slice o (optF t c.st i).length k) (optF t c.st i).length (strsC (optF t c.st i)))) (fun _ x _=>A - (intOf x).toNat)
  case atStart=>exact ⟨0,none,0,Nat.zero_le _,rfl,rfl,Below.refl _ _,⟨rfl,Or.inl ⟨rfl,rfl⟩⟩⟩
  case round=>
   obtain ⟨i,o,k,hi,rfl,rfl,HBW,HOW⟩:=hrel
   have hDw:=(unhide HD).later (unhide HBW)
   have c0:=cell_of_blk hDw.blk 0
   have c1:=cell_of_blk hDw.blk 1
   have c2:=cell_of_blk hDw.blk 2
   have c3:=cell_of_blk hDw.blk 3
   have l0:=lt_of_blk hDw.blk
   by_cases hil:i<A
   ·have hin:(i:Int)<(A:Int):=by omega
    have hia:i<t.acts.length:=by rw [hDw.tb.hA];exact hil
    have hx:t.acts[i]? =some (nmT t i):=by unfold nmT;rw [List.getElem?_eq_getElem hia];rfl
    have hac:=hDw.tb.act i (nmT t i) hx
    have hla:=hDw.tb.la
    obtain ⟨g,rfl,hgl,_,_,hg1,_⟩:=case_at hDw.ls (unhide HQ)
    have hrow:=hDw.tb.row c.st hst
    have hln:=hDw.tb.ln
    have hlr:=hDw.tb.lr c.st hst
    have hnx:=hDw.tb.nxt c.st i hst hil
    have hyn:=hDw.tb.lt hst hil
    have hfl:=hDw.tb.fla _ hyn
    have hlf:=hDw.tb.lf
    have hsi:(c.st:Int)<(n:Int):=by omega
    have hyi:(nxT t c.st i:Int)<(n:Int):=by omega
    have hfle:=optF_le t c.st i
    have hsa:=step_at hDw.tb.rt (s:=c.st) hia
    have HOI:=hide (@optF_in t c.st i (nmT t i) hx)
    have HOO:=hide (@optF_out t c.st i (nmT t i) hx)
    rw [hsa] at HOI HOO
    generalize hof:optF t c.st i=L at *
    have HOF:=hide hof
    clear hof hsa hx hDw
    generalize nxT t c.st i=y at *
    generalize flT t y=f at *
    generalize nmT t i=act at *
    by_cases h2:2≤f
    ·have hd2:decide ((2:Int)≤(f:Int))=true:=decide_eq_true (by omega)
     have HNX:=hide (unhide HOI (by rw [if_neg (by omega)]))
     go_wp2_with fail
     go_quiet (fail)
     have hbd:=bdn wr nq
     have HB2:=hide ((unhide HBW).trans (hbd.mono (unhide HBW).size))
     have HO2:=hide (owns_later (unhide HOW) hbd)
     have c0:=(bcell3 hbd _ _ l0).trans c0
     have hac:=(bcell3 hbd _ _ hla).trans hac
     have l0:=Nat.lt_of_lt_of_le l0 hbd.size
     have hla:=Nat.lt_of_lt_of_le hla hbd.size
     clear hbd c1 c2 c3 hg1 hgl hrow hln hlr hnx hfl hlf hyi hsi hyn
     generalize wr.drewN nq=w2 at *
     go_wp2_with (at_builtin;go_must (refine wpList_append_lies _ rfl _ _ 25 rfl w.heap.size 9 i0 (.string ⟨#[]⟩) 1 16 Tryz.underlying25 hi0 hz0 hz1 hz2 rfl (by decide) _ L.length (strsC L) rfl ?c0 _ 1 1 [.string act] rfl rfl ?c1 ?c2 (by decide) ?c3 ?c4 ?c5 _ rfl ?_))
     case c0=>exact (unhide HO2).alloc _
     case c1=>
      intro j u hj
      match j,hj with
      |0,hj=>simp at hj;subst hj;exact cell_of_blk (blk_alloc' _ _ _ (by simp)) 0
      |j+1,hj=>simp at hj
     case c2=>intro u hu;simp at hu;subst hu;rfl
     case c3=>unfold maxLen;omega
     case c4=>omega
     case c5=>have:=(unhide HB2).size;simp;omega
     intro g8 c8 w8 ho8 hg8 _ _
     have hba8:Below w2.heap.size w2 (w2.alloc (.cells #[.string act] 9)):=(Below.refl _ _).alloc (Nat.le_refl _) _
     have HB8:=hide (((unhide HB2).trans (hba8.mono (unhide HB2).size)).grown hg8 (Nat.le_trans (unhide HB2).size hba8.size) (fun b hb=>own_base (unhide HO2) hb))
     have HO8:Hid (w8.ownsRow w.heap.size 9 1 (.slice (some ⟨g8,0,none⟩) (optF t c.st (i+1)).length c8) (optF t c.st (i+1)).length (strsC (optF t c.st (i+1)))):=by
      show World.ownsRow _ _ _ _ _ _ _
      rw [unhide HNX,List.length_append]
      unfold strsC
      rw [List.map_append]
      exact ho8
     have HLE:Hid ((optF t c.st (i+1)).length=L.length+1):=by show _=_;rw [unhide HNX,List.length_append];rfl
     clear ho8 hg8 hba8 HO2 HB2
     go_wp2_with fail
     go_roundw
     case rel=>exact ⟨i+1,some ⟨g8,0,none⟩,c8,by omega,by go_num,by rw [unhide HLE],HB8,HO8⟩
     case measure=>simp [intOf];omega
    ·have hd2:decide ((2:Int)≤(f:Int))=false:=decide_eq_false (by omega)
     have HNX:=hide (unhide HOO (by rw [if_pos (by omega)];decide))
     go_wp2_with fail
     go_quiet (fail)
     go_wp2_with fail
     go_roundw
     case rel=>exact ⟨i+1,o,k,by omega,by go_num,by rw [unhide HNX],(unhide HBW).trans ((bdn _ _).mono (unhide HBW).size),by rw [unhide HNX];exact owns_later (unhide HOW) (bdn _ _)⟩
     case measure=>simp [intOf];omega
   ·have hin:¬ (i:Int)<(A:Int):=by omega
    have hie:A=i:=by omega
    have HOE:=hide (@optF_all t c.st i (by rw [hDw.tb.hA];omega))
    clear hDw
    go_wp2_with fail
    refine bodyPost_ret (v:= .tuple #[.slice o (optF t c.st i).length k,.int .i64 0]) (by simp [results,Tryz.results106,go_sem]) rfl ?_
    refine ⟨unhide HBW,Or.inr ⟨c,o,k,unhide HC,by rw [unhide HOE], ?_⟩⟩
    have:=unhide HOW
    rw [unhide HOE] at this
    exact this
set_option maxHeartbeats 4000000 in
set_option maxRecDepth 100000 in
theorem TellR_any (w:World) (base rd:Nat) (t:Tb) (cs:List Cs) (A n ab a0 fb f0 nb n0 ac fc nc:Nat) (rb ro rc:Nat→Nat) (lo:Option Addr) (lc:Nat) (hD:DrP w base rd t cs A n ab a0 fb f0 nb n0 ac fc nc rb ro rc lo lc) (id:ByteArray):
  Calls Tryz.prog 108 #[.pointer (some ⟨rd,0,none⟩),.string id] w fun e w'=>TellP t cs id e∧Below w.heap.size w w':=by
 have hba:Below w.heap.size w (w.alloc (.cells #[.int .i64 0,.bool false] 105)):=(Below.refl _ _).alloc (Nat.le_refl _) _
 have HFD:=hide (dfind_any _ base rd t cs A n ab a0 fb f0 nb n0 ac fc nc rb ro rc lo lc (hD.later hba) id)
 have HD:=hide (hD.later hba)
 have HRB:=hide (blk_alloc w (.cells #[.int .i64 0,.bool false] 105))
 have HBA:=hide hba
 have hfew:=hD.few
 have HLW:=hide (And.intro (lt_of_blk hD.blk) hD.tb.lf)
 have HLG:=hide (fun (i:Nat) (c:Cs) (hc:cs[i]? =some c)=>case_at hD.ls hc)
 clear hD hba
 go_enter Tryz.func108,Tryz.ntmps108
 go_wp2_with fail
 refine (unhide HFD).mono ?_
 clear HFD
 generalize hWe:w.alloc (.cells #[.int .i64 0,.bool false] 105)=W at *
 clear hWe
 rintro e w' ⟨hf,hw'⟩
 have hw:=hw'.symm
 clear hw'
 subst hw
 rcases hf with ⟨hc,rfl⟩|⟨q,c,hq,hc,hcid,rfl⟩
 ·have HC:=hide hc
  have hR:=unhide HRB
  have r0:=frozen_of_blk hR 0
  have r1:=frozen_of_blk hR 1
  have r2:=cell_of_blk hR 0
  have r3:=cell_of_blk hR 1
  have rl:=lt_of_blk hR
  have HFIN:=hide (blk_set (blk_set hR 0 (.int .i64 0)) 1 (.bool false))
  have HFB:Hid (Below w.heap.size w ((W.setCell ⟨w.heap.size,0,none⟩ (.int .i64 0)).setCell ⟨w.heap.size,1,none⟩ (.bool false))):=((unhide HBA).setCell (Nat.le_refl _) _).setCell (Nat.le_refl _) _
  clear hc hR
  go_wp2_with fail
  have rc9:=fun o=>cell_of_blk (unhide HFIN) o
  refine bodyPost_ret (v:= .tuple #[.agg #[.int .i64 0,.bool false],.int .i64 8]) (by simp [results,Tryz.results108,go_sem,rc9]) rfl ?_
  exact ⟨Or.inl ⟨unhide HC,rfl⟩,unhide HFB⟩
 ·have HC:=hide hc
  have hql:q<cs.length:=(List.getElem?_eq_some_iff.1 hq).1
  have hst:=(unhide HD).st c (List.mem_of_getElem? hq)
  have hq0:¬ (q:Int)<0:=by omega
  have hqi:(q:Int)<(cs.length:Int):=by omega
  obtain ⟨g,rfl,hgl,_,hg0,hg1,hg2⟩:=case_at (unhide HD).ls hq
  obtain ⟨g',e',hgw,_⟩:=unhide HLG q c hq
  cases e'
  have k1:=cell_of_blk (unhide HD).blk 1
  have k3:=cell_of_blk (unhide HD).blk 3
  have hfl:=(unhide HD).tb.fla c.st hst
  have hlf:=(unhide HD).tb.lf
  have lr:=lt_of_blk (unhide HD).blk
  have hmod:=acc_mod t c.st
  have hsi:(c.st:Int)<(n:Int):=by omega
  have hR:=unhide HRB
  have rl:=lt_of_blk hR
  have hw1:=(unhide HLW).1
  have hw2:=(unhide HLW).2
  generalize hN:cs.length=N at *
  generalize hse:c.st=st at *
  generalize hee:c.ev=ev at *
  have HST:=hide hse
  have HEV:=hide hee
  clear hN hse hee hc hq hcid hg0
  generalize hfe:flT t st=f at *
  clear hfe
  have g1:=hg1
  have g2:=hg2
  clear hg1 hg2
  obtain ⟨R,hRe⟩: ∃R,w.heap.size=R:=⟨_,rfl⟩
  rw [hRe] at hR rl⊢
  have hn1:R≠rd:=by omega
  have hn2:R≠g:=by omega
  have hn3:R≠fb:=by omega
  go_wp2_with fail
  cases hacc:accT t st
  ·rw [hacc] at hmod
   simp only [Bool.false_eq_true,if_false] at hmod
   refine wp_region_held_drew (S:=(fun w'=>w'.cell? ⟨rd,1,none⟩=some (.slice (some ⟨fb,f0,none⟩) n fc)∧w'.cell? ⟨rd,3,none⟩=some (.slice (some ⟨g,0,none⟩) N lc)∧w'.cell? ⟨g,q * 3+1,none⟩=some (.int .i64 (st:Int))∧w'.cell? ⟨g,q * 3+2,none⟩=some (.int .i64 (ev:Int))∧w'.cell? ⟨fb,f0+st,none⟩=some (.int .i64 (f:Int)))) (by kernel_rfl) ?_ (fun hHeld=> ?_)
   ·exact ⟨k1,k3,g1,g2,hfl⟩
   refine wpAnyH_take (i:=0) (v:= .pointer (some ⟨rd,0,none⟩)) rfl (by kernel_rfl) (by kernel_rfl) (by kernel_rfl) (fun _ _ _ h=>h) (Or.inl ⟨by kernel_rfl,fun w hw=>by obtain ⟨s0,s1,s2,s3,s4⟩:=hw;go_simp⟩) hHeld ?_
   try simp only [Act.put,List.setIfInBounds_toArray,List.set_cons_zero,List.set_cons_succ,List.getElem_toArray,List.getElem_cons_succ,List.getElem_cons_zero]
   refine wpAnyH_take (i:=1) (v:= .pointer (some ⟨rd,0,none⟩)) rfl (by kernel_rfl) (by kernel_rfl) (by kernel_rfl) (fun _ _ _ h=>h) (Or.inl ⟨by kernel_rfl,fun w hw=>by obtain ⟨s0,s1,s2,s3,s4⟩:=hw;go_simp⟩) hHeld ?_
   try simp only [Act.put,List.setIfInBounds_toArray,List.set_cons_zero,List.set_cons_succ,List.getElem_toArray,List.getElem_cons_succ,List.getElem_cons_zero]
   refine wpAnyH_take (i:=2) (v:= .pointer (some ⟨rd,3,none⟩)) rfl (by kernel_rfl) (by kernel_rfl) (by kernel_rfl) (fun _ _ _ h=>h) (Or.inl ⟨by kernel_rfl,fun w hw=>by obtain ⟨s0,s1,s2,s3,s4⟩:=hw;go_simp⟩) hHeld ?_
   try simp only [Act.put,List.setIfInBounds_toArray,List.set_cons_zero,List.set_cons_succ,List.getElem_toArray,List.getElem_cons_succ,List.getElem_cons_zero]
   refine wpAnyH_take (i:=3) (v:= .slice (some ⟨g,0,none⟩) N lc) rfl (by kernel_rfl) (by kernel_rfl) (by kernel_rfl) (fun _ _ _ h=>h) (Or.inl ⟨by kernel_rfl,fun w hw=>by obtain ⟨s0,s1,s2,s3,s4⟩:=hw;go_simp⟩) hHeld ?_
   try simp only [Act.put,List.setIfInBounds_toArray,List.set_cons_zero,List.set_cons_succ,List.getElem_toArray,List.getElem_cons_succ,List.getElem_cons_zero]
   refine wpAnyH_take (i:=4) (v:= .int .i64 (q:Int)) rfl (by kernel_rfl) (by kernel_rfl) (by kernel_rfl) (fun _ _ _ h=>h) (Or.inl ⟨by kernel_rfl,fun w hw=>by obtain ⟨s0,s1,s2,s3,s4⟩:=hw;go_simp⟩) hHeld ?_
   try simp only [Act.put,List.setIfInBounds_toArray,List.set_cons_zero,List.set_cons_succ,List.getElem_toArray,List.getElem_cons_succ,List.getElem_cons_zero]
   refine wpAnyH_take (i:=5) (v:= .pointer (some ⟨g,q * 3,none⟩)) rfl (by kernel_rfl) (by kernel_rfl) (by kernel_rfl) (fun _ _ _ h=>h) (Or.inl ⟨by kernel_rfl,fun w hw=>by obtain ⟨s0,s1,s2,s3,s4⟩:=hw;go_simp⟩) hHeld ?_
   try simp only [Act.put,List.setIfInBounds_toArray,List.set_cons_zero,List.set_cons_succ,List.getElem_toArray,List.getElem_cons_succ,List.getElem_cons_zero]
   refine wpAnyH_take (i:=6) (v:= .pointer (some ⟨g,q * 3+2,none⟩)) rfl (by kernel_rfl) (by kernel_rfl) (by kernel_rfl) (fun _ _ _ h=>h) (Or.inl ⟨by kernel_rfl,fun w hw=>by obtain ⟨s0,s1,s2,s3,s4⟩:=hw;go_simp⟩) hHeld ?_
   try simp only [Act.put,List.setIfInBounds_toArray,List.set_cons_zero,List.set_cons_succ,List.getElem_toArray,List.getElem_cons_succ,List.getElem_cons_zero]
   refine wpAnyH_take (i:=7) (v:= .int .i64 (ev:Int)) rfl (by kernel_rfl) (by kernel_rfl) (by kernel_rfl) (fun _ _ _ h=>h) (Or.inl ⟨by kernel_rfl,fun w hw=>by obtain ⟨s0,s1,s2,s3,s4⟩:=hw;go_simp⟩) hHeld ?_
   try simp only [Act.put,List.setIfInBounds_toArray,List.set_cons_zero,List.set_cons_succ,List.getElem_toArray,List.getElem_cons_succ,List.getElem_cons_zero]
   refine wpAnyH_take (i:=8) (v:= .pointer (some ⟨rd,0,none⟩)) rfl (by kernel_rfl) (by kernel_rfl) (by kernel_rfl) (fun _ _ _ h=>h) (Or.inl ⟨by kernel_rfl,fun w hw=>by obtain ⟨s0,s1,s2,s3,s4⟩:=hw;go_simp⟩) hHeld ?_
   try simp only [Act.put,List.setIfInBounds_toArray,List.set_cons_zero,List.set_cons_succ,List.getElem_toArray,List.getElem_cons_succ,List.getElem_cons_zero]
   refine wpAnyH_take (i:=9) (v:= .pointer (some ⟨rd,0,none⟩)) rfl (by kernel_rfl) (by kernel_rfl) (by kernel_rfl) (fun _ _ _ h=>h) (Or.inl ⟨by kernel_rfl,fun w hw=>by obtain ⟨s0,s1,s2,s3,s4⟩:=hw;go_simp⟩) hHeld ?_
   try simp only [Act.put,List.setIfInBounds_toArray,List.set_cons_zero,List.set_cons_succ,List.getElem_toArray,List.getElem_cons_succ,List.getElem_cons_zero]
   refine wpAnyH_take (i:=10) (v:= .pointer (some ⟨rd,0,none⟩)) rfl (by kernel_rfl) (by kernel_rfl) (by kernel_rfl) (fun _ _ _ h=>h) (Or.inl ⟨by kernel_rfl,fun w hw=>by obtain ⟨s0,s1,s2,s3,s4⟩:=hw;go_simp⟩) hHeld ?_
   try simp only [Act.put,List.setIfInBounds_toArray,List.set_cons_zero,List.set_cons_succ,List.getElem_toArray,List.getElem_cons_succ,List.getElem_cons_zero]
   refine wpAnyH_take (i:=11) (v:= .pointer (some ⟨rd,1,none⟩)) rfl (by kernel_rfl) (by kernel_rfl) (by kernel_rfl) (fun _ _ _ h=>h) (Or.inl ⟨by kernel_rfl,fun w hw=>by obtain ⟨s0,s1,s2,s3,s4⟩:=hw;go_simp⟩) hHeld ?_
   try simp only [Act.put,List.setIfInBounds_toArray,List.set_cons_zero,List.set_cons_succ,List.getElem_toArray,List.getElem_cons_succ,List.getElem_cons_zero]
   refine wpAnyH_take (i:=12) (v:= .slice (some ⟨fb,f0,none⟩) n fc) rfl (by kernel_rfl) (by kernel_rfl) (by kernel_rfl) (fun _ _ _ h=>h) (Or.inl ⟨by kernel_rfl,fun w hw=>by obtain ⟨s0,s1,s2,s3,s4⟩:=hw;go_simp⟩) hHeld ?_
   try simp only [Act.put,List.setIfInBounds_toArray,List.set_cons_zero,List.set_cons_succ,List.getElem_toArray,List.getElem_cons_succ,List.getElem_cons_zero]
   refine wpAnyH_take (i:=13) (v:= .pointer (some ⟨rd,0,none⟩)) rfl (by kernel_rfl) (by kernel_rfl) (by kernel_rfl) (fun _ _ _ h=>h) (Or.inl ⟨by kernel_rfl,fun w hw=>by obtain ⟨s0,s1,s2,s3,s4⟩:=hw;go_simp⟩) hHeld ?_
   try simp only [Act.put,List.setIfInBounds_toArray,List.set_cons_zero,List.set_cons_succ,List.getElem_toArray,List.getElem_cons_succ,List.getElem_cons_zero]
   refine wpAnyH_take (i:=14) (v:= .pointer (some ⟨rd,0,none⟩)) rfl (by kernel_rfl) (by kernel_rfl) (by kernel_rfl) (fun _ _ _ h=>h) (Or.inl ⟨by kernel_rfl,fun w hw=>by obtain ⟨s0,s1,s2,s3,s4⟩:=hw;go_simp⟩) hHeld ?_
   try simp only [Act.put,List.setIfInBounds_toArray,List.set_cons_zero,List.set_cons_succ,List.getElem_toArray,List.getElem_cons_succ,List.getElem_cons_zero]
   refine wpAnyH_take (i:=15) (v:= .pointer (some ⟨rd,3,none⟩)) rfl (by kernel_rfl) (by kernel_rfl) (by kernel_rfl) (fun _ _ _ h=>h) (Or.inl ⟨by kernel_rfl,fun w hw=>by obtain ⟨s0,s1,s2,s3,s4⟩:=hw;go_simp⟩) hHeld ?_
   try simp only [Act.put,List.setIfInBounds_toArray,List.set_cons_zero,List.set_cons_succ,List.getElem_toArray,List.getElem_cons_succ,List.getElem_cons_zero]
   refine wpAnyH_take (i:=16) (v:= .slice (some ⟨g,0,none⟩) N lc) rfl (by kernel_rfl) (by kernel_rfl) (by kernel_rfl) (fun _ _ _ h=>h) (Or.inl ⟨by kernel_rfl,fun w hw=>by obtain ⟨s0,s1,s2,s3,s4⟩:=hw;go_simp⟩) hHeld ?_
   try simp only [Act.put,List.setIfInBounds_toArray,List.set_cons_zero,List.set_cons_succ,List.getElem_toArray,List.getElem_cons_succ,List.getElem_cons_zero]
   refine wpAnyH_take (i:=17) (v:= .int .i64 (q:Int)) rfl (by kernel_rfl) (by kernel_rfl) (by kernel_rfl) (fun _ _ _ h=>h) (Or.inl ⟨by kernel_rfl,fun w hw=>by obtain ⟨s0,s1,s2,s3,s4⟩:=hw;go_simp⟩) hHeld ?_
   try simp only [Act.put,List.setIfInBounds_toArray,List.set_cons_zero,List.set_cons_succ,List.getElem_toArray,List.getElem_cons_succ,List.getElem_cons_zero]
   refine wpAnyH_take (i:=18) (v:= .pointer (some ⟨g,q * 3,none⟩)) rfl (by kernel_rfl) (by kernel_rfl) (by kernel_rfl) (fun _ _ _ h=>h) (Or.inl ⟨by kernel_rfl,fun w hw=>by obtain ⟨s0,s1,s2,s3,s4⟩:=hw;go_simp⟩) hHeld ?_
   try simp only [Act.put,List.setIfInBounds_toArray,List.set_cons_zero,List.set_cons_succ,List.getElem_toArray,List.getElem_cons_succ,List.getElem_cons_zero]
   refine wpAnyH_take (i:=19) (v:= .pointer (some ⟨g,q * 3+1,none⟩)) rfl (by kernel_rfl) (by kernel_rfl) (by kernel_rfl) (fun _ _ _ h=>h) (Or.inl ⟨by kernel_rfl,fun w hw=>by obtain ⟨s0,s1,s2,s3,s4⟩:=hw;go_simp⟩) hHeld ?_
   try simp only [Act.put,List.setIfInBounds_toArray,List.set_cons_zero,List.set_cons_succ,List.getElem_toArray,List.getElem_cons_succ,List.getElem_cons_zero]
   refine wpAnyH_take (i:=20) (v:= .int .i64 (st:Int)) rfl (by kernel_rfl) (by kernel_rfl) (by kernel_rfl) (fun _ _ _ h=>h) (Or.inl ⟨by kernel_rfl,fun w hw=>by obtain ⟨s0,s1,s2,s3,s4⟩:=hw;go_simp⟩) hHeld ?_
   try simp only [Act.put,List.setIfInBounds_toArray,List.set_cons_zero,List.set_cons_succ,List.getElem_toArray,List.getElem_cons_succ,List.getElem_cons_zero]
   refine wpAnyH_take (i:=21) (v:= .pointer (some ⟨fb,f0+st,none⟩)) rfl (by kernel_rfl) (by kernel_rfl) (by kernel_rfl) (fun _ _ _ h=>h) (Or.inl ⟨by kernel_rfl,fun w hw=>by obtain ⟨s0,s1,s2,s3,s4⟩:=hw;go_simp⟩) hHeld ?_
   try simp only [Act.put,List.setIfInBounds_toArray,List.set_cons_zero,List.set_cons_succ,List.getElem_toArray,List.getElem_cons_succ,List.getElem_cons_zero]
   refine wpAnyH_take (i:=22) (v:= .int .i64 (f:Int)) rfl (by kernel_rfl) (by kernel_rfl) (by kernel_rfl) (fun _ _ _ h=>h) (Or.inl ⟨by kernel_rfl,fun w hw=>by obtain ⟨s0,s1,s2,s3,s4⟩:=hw;go_simp⟩) hHeld ?_
   try simp only [Act.put,List.setIfInBounds_toArray,List.set_cons_zero,List.set_cons_succ,List.getElem_toArray,List.getElem_cons_succ,List.getElem_cons_zero]
   refine wpAnyH_take (i:=23) (v:= .int .i64 0) rfl (by kernel_rfl) (by kernel_rfl) (by kernel_rfl) (fun _ _ _ h=>h) (Or.inl ⟨by kernel_rfl,fun w hw=>by obtain ⟨s0,s1,s2,s3,s4⟩:=hw;go_simp⟩) hHeld ?_
   try simp only [Act.put,List.setIfInBounds_toArray,List.set_cons_zero,List.set_cons_succ,List.getElem_toArray,List.getElem_cons_succ,List.getElem_cons_zero]
   refine wpAnyH_take (i:=24) (v:= .bool false) rfl (by kernel_rfl) (by kernel_rfl) (by kernel_rfl) (fun _ _ _ h=>h) (Or.inl ⟨by kernel_rfl,fun w hw=>by obtain ⟨s0,s1,s2,s3,s4⟩:=hw;go_simp⟩) hHeld ?_
   try simp only [Act.put,List.setIfInBounds_toArray,List.set_cons_zero,List.set_cons_succ,List.getElem_toArray,List.getElem_cons_succ,List.getElem_cons_zero]
   refine wpAnyH_take (i:=25) (v:= .agg #[.int .i64 (ev:Int),.bool false]) rfl (by kernel_rfl) (by kernel_rfl) (by kernel_rfl) (fun _ _ _ h=>h) (Or.inl ⟨by kernel_rfl,fun w hw=>by obtain ⟨s0,s1,s2,s3,s4⟩:=hw;go_simp⟩) hHeld ?_
   try simp only [Act.put,List.setIfInBounds_toArray,List.set_cons_zero,List.set_cons_succ,List.getElem_toArray,List.getElem_cons_succ,List.getElem_cons_zero]
   refine wpAnyH_ready (rs:=[26]) (by kernel_rfl) (by simp) ?_
   refine AllReadyH.cons rfl (fun K hK=> ?_) AllReadyH.nil
   have r0:=frozen_of_blk hR 0
   have r1:=frozen_of_blk hR 1
   have r2:=cell_of_blk hR 0
   have r3:=cell_of_blk hR 1
   have HFIN:=hide (blk_set (blk_set hR 0 (.int .i64 (ev:Int))) 1 (.bool false))
   have HFB:Hid (Below w.heap.size w ((W.drew.setCell ⟨R,0,none⟩ (.int .i64 (ev:Int))).setCell ⟨R,1,none⟩ (.bool false))):=((unhide HBA).drew.setCell (Nat.le_of_eq hRe) _).setCell (Nat.le_of_eq hRe) _
   go_simp
   refine hK.out _ _ ?keep (fun hHeld=> ?_)
   case keep=>
    have far: ∀(b o:Nat) (x:Value),R≠b→W.cell? ⟨b,o,none⟩=some x→((W.drew.setCell ⟨R,0,none⟩ (.int .i64 (ev:Int))).setCell ⟨R,1,none⟩ (.bool false)).cell? ⟨b,o,none⟩=some x:=fun b o x hne h=>by
     rw [World.cell?_setCell_far _ _ _ _ (by exact hne),World.cell?_setCell_far _ _ _ _ (by exact hne)]
     exact h
    exact ⟨far _ _ _ hn1 k1,far _ _ _ hn1 k3,far _ _ _ hn2 g1,far _ _ _ hn2 g2,far _ _ _ hn3 hfl⟩
   clear hK K r0 r1 r2 r3
   have rc9:=fun o=>cell_of_blk (unhide HFIN) o
   refine wpAnyH_take (i:=27) (v:= .int .i64 0) rfl (by kernel_rfl) (by kernel_rfl) (by kernel_rfl) (fun _ _ _ h=>h) (Or.inl ⟨by kernel_rfl,fun w hw=>by obtain ⟨s0,s1,s2,s3,s4⟩:=hw;go_simp⟩) hHeld ?_
   try simp only [Act.put,List.setIfInBounds_toArray,List.set_cons_zero,List.set_cons_succ,List.getElem_toArray,List.getElem_cons_succ,List.getElem_cons_zero]
   refine wpAnyH_done (by kernel_rfl) ?_ _
   clear hHeld
   go_wp2_with fail
   refine bodyPost_ret (v:= .tuple #[.agg #[.int .i64 (ev:Int),.bool false],.int .i64 0]) (by simp [results,Tryz.results108,go_sem,rc9]) rfl ?_
   exact ⟨Or.inr ⟨c,unhide HC,by rw [unhide HST,unhide HEV,hacc]⟩,unhide HFB⟩
  ·rw [hacc] at hmod
   simp only [if_true] at hmod
   refine wp_region_held_drew (S:=(fun w'=>w'.cell? ⟨rd,1,none⟩=some (.slice (some ⟨fb,f0,none⟩) n fc)∧w'.cell? ⟨rd,3,none⟩=some (.slice (some ⟨g,0,none⟩) N lc)∧w'.cell? ⟨g,q * 3+1,none⟩=some (.int .i64 (st:Int))∧w'.cell? ⟨g,q * 3+2,none⟩=some (.int .i64 (ev:Int))∧w'.cell? ⟨fb,f0+st,none⟩=some (.int .i64 (f:Int)))) (by kernel_rfl) ?_ (fun hHeld=> ?_)
   ·exact ⟨k1,k3,g1,g2,hfl⟩
   refine wpAnyH_take (i:=0) (v:= .pointer (some ⟨rd,0,none⟩)) rfl (by kernel_rfl) (by kernel_rfl) (by kernel_rfl) (fun _ _ _ h=>h) (Or.inl ⟨by kernel_rfl,fun w hw=>by obtain ⟨s0,s1,s2,s3,s4⟩:=hw;go_simp⟩) hHeld ?_
   try simp only [Act.put,List.setIfInBounds_toArray,List.set_cons_zero,List.set_cons_succ,List.getElem_toArray,List.getElem_cons_succ,List.getElem_cons_zero]
   refine wpAnyH_take (i:=1) (v:= .pointer (some ⟨rd,0,none⟩)) rfl (by kernel_rfl) (by kernel_rfl) (by kernel_rfl) (fun _ _ _ h=>h) (Or.inl ⟨by kernel_rfl,fun w hw=>by obtain ⟨s0,s1,s2,s3,s4⟩:=hw;go_simp⟩) hHeld ?_
   try simp only [Act.put,List.setIfInBounds_toArray,List.set_cons_zero,List.set_cons_succ,List.getElem_toArray,List.getElem_cons_succ,List.getElem_cons_zero]
   refine wpAnyH_take (i:=2) (v:= .pointer (some ⟨rd,3,none⟩)) rfl (by kernel_rfl) (by kernel_rfl) (by kernel_rfl) (fun _ _ _ h=>h) (Or.inl ⟨by kernel_rfl,fun w hw=>by obtain ⟨s0,s1,s2,s3,s4⟩:=hw;go_simp⟩) hHeld ?_
   try simp only [Act.put,List.setIfInBounds_toArray,List.set_cons_zero,List.set_cons_succ,List.getElem_toArray,List.getElem_cons_succ,List.getElem_cons_zero]
   refine wpAnyH_take (i:=3) (v:= .slice (some ⟨g,0,none⟩) N lc) rfl (by kernel_rfl) (by kernel_rfl) (by kernel_rfl) (fun _ _ _ h=>h) (Or.inl ⟨by kernel_rfl,fun w hw=>by obtain ⟨s0,s1,s2,s3,s4⟩:=hw;go_simp⟩) hHeld ?_
   try simp only [Act.put,List.setIfInBounds_toArray,List.set_cons_zero,List.set_cons_succ,List.getElem_toArray,List.getElem_cons_succ,List.getElem_cons_zero]
   refine wpAnyH_take (i:=4) (v:= .int .i64 (q:Int)) rfl (by kernel_rfl) (by kernel_rfl) (by kernel_rfl) (fun _ _ _ h=>h) (Or.inl ⟨by kernel_rfl,fun w hw=>by obtain ⟨s0,s1,s2,s3,s4⟩:=hw;go_simp⟩) hHeld ?_
   try simp only [Act.put,List.setIfInBounds_toArray,List.set_cons_zero,List.set_cons_succ,List.getElem_toArray,List.getElem_cons_succ,List.getElem_cons_zero]
   refine wpAnyH_take (i:=5) (v:= .pointer (some ⟨g,q * 3,none⟩)) rfl (by kernel_rfl) (by kernel_rfl) (by kernel_rfl) (fun _ _ _ h=>h) (Or.inl ⟨by kernel_rfl,fun w hw=>by obtain ⟨s0,s1,s2,s3,s4⟩:=hw;go_simp⟩) hHeld ?_
   try simp only [Act.put,List.setIfInBounds_toArray,List.set_cons_zero,List.set_cons_succ,List.getElem_toArray,List.getElem_cons_succ,List.getElem_cons_zero]
   refine wpAnyH_take (i:=6) (v:= .pointer (some ⟨g,q * 3+2,none⟩)) rfl (by kernel_rfl) (by kernel_rfl) (by kernel_rfl) (fun _ _ _ h=>h) (Or.inl ⟨by kernel_rfl,fun w hw=>by obtain ⟨s0,s1,s2,s3,s4⟩:=hw;go_simp⟩) hHeld ?_
   try simp only [Act.put,List.setIfInBounds_toArray,List.set_cons_zero,List.set_cons_succ,List.getElem_toArray,List.getElem_cons_succ,List.getElem_cons_zero]
   refine wpAnyH_take (i:=7) (v:= .int .i64 (ev:Int)) rfl (by kernel_rfl) (by kernel_rfl) (by kernel_rfl) (fun _ _ _ h=>h) (Or.inl ⟨by kernel_rfl,fun w hw=>by obtain ⟨s0,s1,s2,s3,s4⟩:=hw;go_simp⟩) hHeld ?_
   try simp only [Act.put,List.setIfInBounds_toArray,List.set_cons_zero,List.set_cons_succ,List.getElem_toArray,List.getElem_cons_succ,List.getElem_cons_zero]
   refine wpAnyH_take (i:=8) (v:= .pointer (some ⟨rd,0,none⟩)) rfl (by kernel_rfl) (by kernel_rfl) (by kernel_rfl) (fun _ _ _ h=>h) (Or.inl ⟨by kernel_rfl,fun w hw=>by obtain ⟨s0,s1,s2,s3,s4⟩:=hw;go_simp⟩) hHeld ?_
   try simp only [Act.put,List.setIfInBounds_toArray,List.set_cons_zero,List.set_cons_succ,List.getElem_toArray,List.getElem_cons_succ,List.getElem_cons_zero]
   refine wpAnyH_take (i:=9) (v:= .pointer (some ⟨rd,0,none⟩)) rfl (by kernel_rfl) (by kernel_rfl) (by kernel_rfl) (fun _ _ _ h=>h) (Or.inl ⟨by kernel_rfl,fun w hw=>by obtain ⟨s0,s1,s2,s3,s4⟩:=hw;go_simp⟩) hHeld ?_
   try simp only [Act.put,List.setIfInBounds_toArray,List.set_cons_zero,List.set_cons_succ,List.getElem_toArray,List.getElem_cons_succ,List.getElem_cons_zero]
   refine wpAnyH_take (i:=10) (v:= .pointer (some ⟨rd,0,none⟩)) rfl (by kernel_rfl) (by kernel_rfl) (by kernel_rfl) (fun _ _ _ h=>h) (Or.inl ⟨by kernel_rfl,fun w hw=>by obtain ⟨s0,s1,s2,s3,s4⟩:=hw;go_simp⟩) hHeld ?_
   try simp only [Act.put,List.setIfInBounds_toArray,List.set_cons_zero,List.set_cons_succ,List.getElem_toArray,List.getElem_cons_succ,List.getElem_cons_zero]
   refine wpAnyH_take (i:=11) (v:= .pointer (some ⟨rd,1,none⟩)) rfl (by kernel_rfl) (by kernel_rfl) (by kernel_rfl) (fun _ _ _ h=>h) (Or.inl ⟨by kernel_rfl,fun w hw=>by obtain ⟨s0,s1,s2,s3,s4⟩:=hw;go_simp⟩) hHeld ?_
   try simp only [Act.put,List.setIfInBounds_toArray,List.set_cons_zero,List.set_cons_succ,List.getElem_toArray,List.getElem_cons_succ,List.getElem_cons_zero]
   refine wpAnyH_take (i:=12) (v:= .slice (some ⟨fb,f0,none⟩) n fc) rfl (by kernel_rfl) (by kernel_rfl) (by kernel_rfl) (fun _ _ _ h=>h) (Or.inl ⟨by kernel_rfl,fun w hw=>by obtain ⟨s0,s1,s2,s3,s4⟩:=hw;go_simp⟩) hHeld ?_
   try simp only [Act.put,List.setIfInBounds_toArray,List.set_cons_zero,List.set_cons_succ,List.getElem_toArray,List.getElem_cons_succ,List.getElem_cons_zero]
   refine wpAnyH_take (i:=13) (v:= .pointer (some ⟨rd,0,none⟩)) rfl (by kernel_rfl) (by kernel_rfl) (by kernel_rfl) (fun _ _ _ h=>h) (Or.inl ⟨by kernel_rfl,fun w hw=>by obtain ⟨s0,s1,s2,s3,s4⟩:=hw;go_simp⟩) hHeld ?_
   try simp only [Act.put,List.setIfInBounds_toArray,List.set_cons_zero,List.set_cons_succ,List.getElem_toArray,List.getElem_cons_succ,List.getElem_cons_zero]
   refine wpAnyH_take (i:=14) (v:= .pointer (some ⟨rd,0,none⟩)) rfl (by kernel_rfl) (by kernel_rfl) (by kernel_rfl) (fun _ _ _ h=>h) (Or.inl ⟨by kernel_rfl,fun w hw=>by obtain ⟨s0,s1,s2,s3,s4⟩:=hw;go_simp⟩) hHeld ?_
   try simp only [Act.put,List.setIfInBounds_toArray,List.set_cons_zero,List.set_cons_succ,List.getElem_toArray,List.getElem_cons_succ,List.getElem_cons_zero]
   refine wpAnyH_take (i:=15) (v:= .pointer (some ⟨rd,3,none⟩)) rfl (by kernel_rfl) (by kernel_rfl) (by kernel_rfl) (fun _ _ _ h=>h) (Or.inl ⟨by kernel_rfl,fun w hw=>by obtain ⟨s0,s1,s2,s3,s4⟩:=hw;go_simp⟩) hHeld ?_
   try simp only [Act.put,List.setIfInBounds_toArray,List.set_cons_zero,List.set_cons_succ,List.getElem_toArray,List.getElem_cons_succ,List.getElem_cons_zero]
   refine wpAnyH_take (i:=16) (v:= .slice (some ⟨g,0,none⟩) N lc) rfl (by kernel_rfl) (by kernel_rfl) (by kernel_rfl) (fun _ _ _ h=>h) (Or.inl ⟨by kernel_rfl,fun w hw=>by obtain ⟨s0,s1,s2,s3,s4⟩:=hw;go_simp⟩) hHeld ?_
   try simp only [Act.put,List.setIfInBounds_toArray,List.set_cons_zero,List.set_cons_succ,List.getElem_toArray,List.getElem_cons_succ,List.getElem_cons_zero]
   refine wpAnyH_take (i:=17) (v:= .int .i64 (q:Int)) rfl (by kernel_rfl) (by kernel_rfl) (by kernel_rfl) (fun _ _ _ h=>h) (Or.inl ⟨by kernel_rfl,fun w hw=>by obtain ⟨s0,s1,s2,s3,s4⟩:=hw;go_simp⟩) hHeld ?_
   try simp only [Act.put,List.setIfInBounds_toArray,List.set_cons_zero,List.set_cons_succ,List.getElem_toArray,List.getElem_cons_succ,List.getElem_cons_zero]
   refine wpAnyH_take (i:=18) (v:= .pointer (some ⟨g,q * 3,none⟩)) rfl (by kernel_rfl) (by kernel_rfl) (by kernel_rfl) (fun _ _ _ h=>h) (Or.inl ⟨by kernel_rfl,fun w hw=>by obtain ⟨s0,s1,s2,s3,s4⟩:=hw;go_simp⟩) hHeld ?_
   try simp only [Act.put,List.setIfInBounds_toArray,List.set_cons_zero,List.set_cons_succ,List.getElem_toArray,List.getElem_cons_succ,List.getElem_cons_zero]
   refine wpAnyH_take (i:=19) (v:= .pointer (some ⟨g,q * 3+1,none⟩)) rfl (by kernel_rfl) (by kernel_rfl) (by kernel_rfl) (fun _ _ _ h=>h) (Or.inl ⟨by kernel_rfl,fun w hw=>by obtain ⟨s0,s1,s2,s3,s4⟩:=hw;go_simp⟩) hHeld ?_
   try simp only [Act.put,List.setIfInBounds_toArray,List.set_cons_zero,List.set_cons_succ,List.getElem_toArray,List.getElem_cons_succ,List.getElem_cons_zero]
   refine wpAnyH_take (i:=20) (v:= .int .i64 (st:Int)) rfl (by kernel_rfl) (by kernel_rfl) (by kernel_rfl) (fun _ _ _ h=>h) (Or.inl ⟨by kernel_rfl,fun w hw=>by obtain ⟨s0,s1,s2,s3,s4⟩:=hw;go_simp⟩) hHeld ?_
   try simp only [Act.put,List.setIfInBounds_toArray,List.set_cons_zero,List.set_cons_succ,List.getElem_toArray,List.getElem_cons_succ,List.getElem_cons_zero]
   refine wpAnyH_take (i:=21) (v:= .pointer (some ⟨fb,f0+st,none⟩)) rfl (by kernel_rfl) (by kernel_rfl) (by kernel_rfl) (fun _ _ _ h=>h) (Or.inl ⟨by kernel_rfl,fun w hw=>by obtain ⟨s0,s1,s2,s3,s4⟩:=hw;go_simp⟩) hHeld ?_
   try simp only [Act.put,List.setIfInBounds_toArray,List.set_cons_zero,List.set_cons_succ,List.getElem_toArray,List.getElem_cons_succ,List.getElem_cons_zero]
   refine wpAnyH_take (i:=22) (v:= .int .i64 (f:Int)) rfl (by kernel_rfl) (by kernel_rfl) (by kernel_rfl) (fun _ _ _ h=>h) (Or.inl ⟨by kernel_rfl,fun w hw=>by obtain ⟨s0,s1,s2,s3,s4⟩:=hw;go_simp⟩) hHeld ?_
   try simp only [Act.put,List.setIfInBounds_toArray,List.set_cons_zero,List.set_cons_succ,List.getElem_toArray,List.getElem_cons_succ,List.getElem_cons_zero]
   refine wpAnyH_take (i:=23) (v:= .int .i64 1) rfl (by kernel_rfl) (by kernel_rfl) (by kernel_rfl) (fun _ _ _ h=>h) (Or.inl ⟨by kernel_rfl,fun w hw=>by obtain ⟨s0,s1,s2,s3,s4⟩:=hw;go_simp⟩) hHeld ?_
   try simp only [Act.put,List.setIfInBounds_toArray,List.set_cons_zero,List.set_cons_succ,List.getElem_toArray,List.getElem_cons_succ,List.getElem_cons_zero]
   refine wpAnyH_take (i:=24) (v:= .bool true) rfl (by kernel_rfl) (by kernel_rfl) (by kernel_rfl) (fun _ _ _ h=>h) (Or.inl ⟨by kernel_rfl,fun w hw=>by obtain ⟨s0,s1,s2,s3,s4⟩:=hw;go_simp⟩) hHeld ?_
   try simp only [Act.put,List.setIfInBounds_toArray,List.set_cons_zero,List.set_cons_succ,List.getElem_toArray,List.getElem_cons_succ,List.getElem_cons_zero]
   refine wpAnyH_take (i:=25) (v:= .agg #[.int .i64 (ev:Int),.bool true]) rfl (by kernel_rfl) (by kernel_rfl) (by kernel_rfl) (fun _ _ _ h=>h) (Or.inl ⟨by kernel_rfl,fun w hw=>by obtain ⟨s0,s1,s2,s3,s4⟩:=hw;go_simp⟩) hHeld ?_
   try simp only [Act.put,List.setIfInBounds_toArray,List.set_cons_zero,List.set_cons_succ,List.getElem_toArray,List.getElem_cons_succ,List.getElem_cons_zero]
   refine wpAnyH_ready (rs:=[26]) (by kernel_rfl) (by simp) ?_
   refine AllReadyH.cons rfl (fun K hK=> ?_) AllReadyH.nil
   have r0:=frozen_of_blk hR 0
   have r1:=frozen_of_blk hR 1
   have r2:=cell_of_blk hR 0
   have r3:=cell_of_blk hR 1
   have HFIN:=hide (blk_set (blk_set hR 0 (.int .i64 (ev:Int))) 1 (.bool true))
   have HFB:Hid (Below w.heap.size w ((W.drew.setCell ⟨R,0,none⟩ (.int .i64 (ev:Int))).setCell ⟨R,1,none⟩ (.bool true))):=((unhide HBA).drew.setCell (Nat.le_of_eq hRe) _).setCell (Nat.le_of_eq hRe) _
   go_simp
   refine hK.out _ _ ?keep (fun hHeld=> ?_)
   case keep=>
    have far: ∀(b o:Nat) (x:Value),R≠b→W.cell? ⟨b,o,none⟩=some x→((W.drew.setCell ⟨R,0,none⟩ (.int .i64 (ev:Int))).setCell ⟨R,1,none⟩ (.bool true)).cell? ⟨b,o,none⟩=some x:=fun b o x hne h=>by
     rw [World.cell?_setCell_far _ _ _ _ (by exact hne),World.cell?_setCell_far _ _ _ _ (by exact hne)]
     exact h
    exact ⟨far _ _ _ hn1 k1,far _ _ _ hn1 k3,far _ _ _ hn2 g1,far _ _ _ hn2 g2,far _ _ _ hn3 hfl⟩
   clear hK K r0 r1 r2 r3
   have rc9:=fun o=>cell_of_blk (unhide HFIN) o
   refine wpAnyH_take (i:=27) (v:= .int .i64 0) rfl (by kernel_rfl) (by kernel_rfl) (by kernel_rfl) (fun _ _ _ h=>h) (Or.inl ⟨by kernel_rfl,fun w hw=>by obtain ⟨s0,s1,s2,s3,s4⟩:=hw;go_simp⟩) hHeld ?_
   try simp only [Act.put,List.setIfInBounds_toArray,List.set_cons_zero,List.set_cons_succ,List.getElem_toArray,List.getElem_cons_succ,List.getElem_cons_zero]
   refine wpAnyH_done (by kernel_rfl) ?_ _
   clear hHeld
   go_wp2_with fail
   refine bodyPost_ret (v:= .tuple #[.agg #[.int .i64 (ev:Int),.bool true],.int .i64 0]) (by simp [results,Tryz.results108,go_sem,rc9]) rfl ?_
   exact ⟨Or.inr ⟨c,unhide HC,by rw [unhide HST,unhide HEV,hacc]⟩,unhide HFB⟩
theorem Tryz.infoCase:(Tryz.prog.info? 247).map (fun i=>(i.zero,i.size,i.bytes))=some (some (.agg #[.string ⟨#[]⟩,.int .i64 0,.int .i64 0]),3,32):=by kernel_rfl
theorem csC_snoc (cs:List Cs) (c:Cs):csC (cs++[c])=csC cs++[.string c.id,.int .i64 (c.st:Int),.int .i64 (c.ev:Int)]:=by
 unfold csC
 rw [List.flatMap_append]
 rfl
def DrQ (base rd:Nat) (t:Tb) (cs':List Cs) (A n ab a0 fb f0 nb n0 ac fc nc:Nat) (rb ro rc:Nat→Nat) (lo:Option Addr) (w w':World):Prop:=
 FrD (DrS rd lo) w w'∧ ∃lo' lc',DrP w' base rd t cs' A n ab a0 fb f0 nb n0 ac fc nc rb ro rc lo' lc'∧ ∀k,DrS rd lo' k→DrS rd lo k∨w.heap.size≤k
theorem own_lo {w:World} {base e n m lc k:Nat} {lo:Option Addr} {xs:List Value} (h:w.ownsRow base e 3 (.slice lo n lc) m xs) (hb:(Value.slice lo n lc).ownBlock=some k):lo=some ⟨k,0,none⟩∧base≤k∧ ∃c,w.heap[k]? =some (.cells c e (0,0)):=by
 obtain ⟨_,⟨hv,_⟩|⟨g,cap,cur,hv,hbg,hg,_⟩⟩:=h
 ·rw [hv] at hb;cases hb
 ·cases hv
  have:g=k:=Option.some.inj hb
  subst this
  exact ⟨rfl,hbg,cur,hg⟩
theorem DrP.more {w w8:World} {base rd:Nat} {t:Tb} {cs:List Cs} {A n ab a0 fb f0 nb n0 ac fc nc:Nat} {rb ro rc:Nat→Nat} {lo:Option Addr} {lc:Nat} (h:DrP w base rd t cs A n ab a0 fb f0 nb n0 ac fc nc rb ro rc lo lc) {id:ByteArray} (hno: ∀c∈cs,c.id≠id) (h8:¬ 8≤cs.length) {g8 c8:Nat}
  (ho8:w8.ownsRow base 247 3 (.slice (some ⟨g8,0,none⟩) (cs.length+1) c8) (cs.length+1) (csC cs++[.string id,.int .i64 0,.int .i64 0])) (hg8:(w.alloc (.cells #[.string id,.int .i64 0,.int .i64 0] 247)).grownBy w8 (Value.slice lo cs.length lc).ownBlock) (hat8:(Value.slice lo cs.length lc).ownBlock=some g8∨g8=w.heap.size+1):
  DrQ base rd t (cs++[⟨id,0,0⟩]) A n ab a0 fb f0 nb n0 ac fc nc rb ro rc lo w (w8.setCell ⟨rd,3,none⟩ (.slice (some ⟨g8,0,none⟩) (cs.length+1) c8)):=by
 have hrd:(Value.slice lo cs.length lc).ownBlock≠some rd:=fun e=>by
  obtain ⟨_,_,c,hc⟩:=own_lo h.ls e
  rw [h.blk] at hc
  injection hc with hc
  injection hc with _ hc _
  exact absurd hc (by decide)
 have hal: ∀k,k<w.heap.size→(w.alloc (.cells #[.string id,.int .i64 0,.int .i64 0] 247)).heap[k]? =w.heap[k]? :=fun k hk=>Below.heap_alloc _ _ _ hk
 have hals:(w.alloc (.cells #[.string id,.int .i64 0,.int .i64 0] 247)).heap.size=w.heap.size+1:=by simp
 have hf:FrD (DrS rd lo) w (w8.setCell ⟨rd,3,none⟩ (.slice (some ⟨g8,0,none⟩) (cs.length+1) c8)):=by
  refine ⟨hg8.os,hg8.tape,hg8.output, ?_,fun k hk hn=> ?_⟩
  ·have:=hg8.size
   simp [World.setCell]
   omega
  ·rw [Below.heap_setCell _ _ _ _ (fun e=>hn (Or.inl e)),hg8.block k (by omega) (fun e=>hn (Or.inr (own_lo h.ls e.symm).1)),hal k hk]
 have hb8:w8.heap[rd]? =some (.cells #[.slice (some ⟨ab,a0,none⟩) A ac,.slice (some ⟨fb,f0,none⟩) n fc,.slice (some ⟨nb,n0,none⟩) n nc,.slice lo cs.length lc] 245 (0,0)):=by
  rw [hg8.block rd (by have:=lt_of_blk h.blk;omega) (fun e=>hrd e.symm),hal rd (lt_of_blk h.blk)]
  exact h.blk
 have hl:(cs++[(⟨id,0,0⟩:Cs)]).length=cs.length+1:=by rw [List.length_append];rfl
 have hnew: ∀k,DrS rd (some ⟨g8,0,none⟩) k→DrS rd lo k∨w.heap.size≤k:=fun k hk=>by
  rcases hk with rfl|hk
  ·exact Or.inl (Or.inl rfl)
  ·injection hk with hk
   injection hk with hk
   rcases hat8 with h1|h1
   ·rw [←hk];exact Or.inl (Or.inr (own_lo h.ls h1).1)
   ·exact Or.inr (by omega)
 have hs:=fun {b:Nat} (hb: ∀k,DrS rd lo k→k≠b)=>(fun hk=>hb b hk rfl:¬ DrS rd lo b)
 refine ⟨hf,some ⟨g8,0,none⟩,c8,⟨?_,h.tb.frame hf (hs fun k hk=>(h.sep k hk).1) (hs fun k hk=>(h.sep k hk).2.1) (hs fun k hk=>(h.sep k hk).2.2.1) (fun i hi=>hs fun k hk=>(h.sep k hk).2.2.2 i hi), ?_, ?_,fun c hc=> ?_,by rw [hl];omega,fun k hk=> ?_⟩,hnew⟩
 ·rw [hl]
  exact blk_set hb8 3 _
 ·rw [hl,csC_snoc]
  refine owns_other ho8 (grown_set w8 rd 3 _) (fun b hb e=> ?_)
  cases hb
  obtain ⟨_,_,c,hc⟩:=own_lo ho8 e
  rw [hb8] at hc
  injection hc with hc
  injection hc with _ hc _
  exact absurd hc (by decide)
 ·rw [List.map_append,List.nodup_append]
  refine ⟨h.nd,by simp,fun x hx y hy e=> ?_⟩
  obtain ⟨c,hc,rfl⟩:=List.mem_map.1 hx
  have hy':y=id:=by simpa using hy
  exact hno c hc (e.trans hy')
 ·rcases List.mem_append.1 hc with hc|hc
  ·exact h.st c hc
  ·rw [List.mem_singleton.1 hc];have:=h.tb.n1;show 0<n;omega
 ·rcases hnew k hk with h1|h1
  ·exact h.sep k h1
  ·exact ⟨by have:=h.tb.la;omega,by have:=h.tb.lf;omega,by have:=h.tb.ln;omega,fun i hi=>by have:=h.tb.lr i hi;omega⟩
set_option maxHeartbeats 4000000 in
set_option maxRecDepth 100000 in
theorem StartR_any (w:World) (base rd:Nat) (t:Tb) (cs:List Cs) (A n ab a0 fb f0 nb n0 ac fc nc:Nat) (rb ro rc:Nat→Nat) (lo:Option Addr) (lc:Nat) (hD:DrP w base rd t cs A n ab a0 fb f0 nb n0 ac fc nc rb ro rc lo lc) (hbase:base≤w.heap.size) (id:ByteArray):
  Calls Tryz.prog 103 #[.pointer (some ⟨rd,0,none⟩),.string id] w fun e w'=>e= .returned (.int .i64 ((dkStart cs id).2:Int))∧DrQ base rd t (dkStart cs id).1 A n ab a0 fb f0 nb n0 ac fc nc rb ro rc lo w w':=by
 obtain ⟨i0,hi0,hz0,hz1,hz2⟩:=info_parts Tryz.infoCase
 have HFD:=hide (dfind_any w base rd t cs A n ab a0 fb f0 nb n0 ac fc nc rb ro rc lo lc hD id)
 have HD:=hide hD
 have hfew:=hD.few
 have c3:=cell_of_blk hD.blk 3
 have f3:=frozen_of_blk hD.blk 3
 have l0:=lt_of_blk hD.blk
 clear hD
 go_enter Tryz.func103,Tryz.ntmps103
 go_wp2_with fail
 refine (unhide HFD).mono ?_
 clear HFD
 rintro e w' ⟨hf,hw'⟩
 have hw:=hw'.symm
 clear hw'
 subst hw
 rcases hf with ⟨hc,rfl⟩|⟨q,c,hq,hc,hcid,rfl⟩
 ·by_cases h8:8≤cs.length
  ·have HE:Hid (dkStart cs id=(cs,11)):=by show _=_;unfold dkStart;rw [hc];simp only [if_pos h8]
   have h8i:(8:Int)≤(cs.length:Int):=by omega
   clear hc
   go_wp2_with fail
   refine bodyPost_ret (v:= .int .i64 11) (by simp [results,Tryz.results103,go_sem]) rfl ?_
   rw [unhide HE]
   exact ⟨rfl,FrD.refl _ _,lo,lc,unhide HD,fun k hk=>Or.inl hk⟩
  ·have HE:Hid (dkStart cs id=(cs++[⟨id,0,0⟩],0)):=by show _=_;unfold dkStart;rw [hc];simp only [if_neg h8]
   have h8i:¬ (8:Int)≤(cs.length:Int):=by omega
   have HNO:=hide (csAt_none hc)
   clear hc
   go_wp2_with (at_builtin;go_must (refine wpList_append_lies _ rfl _ _ 243 rfl base 247 i0 (.agg #[.string ⟨#[]⟩,.int .i64 0,.int .i64 0]) 3 32 Tryz.underlying243 hi0 hz0 hz1 hz2 rfl (by decide) _ cs.length (csC cs) rfl ?c0 _ 1 1 [.string id,.int .i64 0,.int .i64 0] rfl rfl ?c1 ?c2 (by decide) ?c3 ?c4 ?c5 (w.heap.size+1) (by simp) ?_))
   case c0=>exact (unhide HD).ls.alloc _
   case c1=>
    intro j u hj
    match j,hj with
    |0,hj=>simp at hj;subst hj;exact cell_of_blk (blk_alloc' _ _ _ (by simp)) 0
    |1,hj=>simp at hj;subst hj;exact cell_of_blk (blk_alloc' _ _ _ (by simp)) 1
    |2,hj=>simp at hj;subst hj;exact cell_of_blk (blk_alloc' _ _ _ (by simp)) 2
    |j+3,hj=>simp at hj
   case c2=>intro u hu;simp at hu;rcases hu with rfl|rfl|rfl<;>rfl
   case c3=>unfold maxLen;omega
   case c4=>omega
   case c5=>simp;omega
   intro g8 c8 w8 ho8 hg8 hat8 hlt8
   have HQ:=hide ((unhide HD).more (unhide HNO) h8 ho8 hg8 hat8)
   have hrd8:w8.heap[rd]? =some (.cells #[.slice (some ⟨ab,a0,none⟩) A ac,.slice (some ⟨fb,f0,none⟩) n fc,.slice (some ⟨nb,n0,none⟩) n nc,.slice lo cs.length lc] 245 (0,0)):=by
    refine (hg8.block rd (by simp;omega) (fun e=> ?_)).trans ((Below.heap_alloc _ _ _ l0).trans (unhide HD).blk)
    obtain ⟨_,_,c,hc⟩:=own_lo (unhide HD).ls e.symm
    rw [(unhide HD).blk] at hc
    injection hc with hc
    injection hc with _ hc _
    exact absurd hc (by decide)
   have d3:=cell_of_blk hrd8 3
   have e3:=frozen_of_blk hrd8 3
   have m0:=lt_of_blk hrd8
   clear ho8 hg8 hat8 hlt8 hrd8 c3 f3 l0
   go_wp2_with fail
   refine bodyPost_ret (v:= .int .i64 0) (by simp [results,Tryz.results103,go_sem]) rfl ?_
   rw [unhide HE]
   exact ⟨rfl,unhide HQ⟩
 ·have HE:Hid (dkStart cs id=(cs,8)):=by show _=_;unfold dkStart;rw [hc]
  have hq0:(0:Int)≤(q:Int):=by omega
  clear hc hq hcid
  go_wp2_with fail
  refine bodyPost_ret (v:= .int .i64 8) (by simp [results,Tryz.results103,go_sem]) rfl ?_
  rw [unhide HE]
  exact ⟨rfl,FrD.refl _ _,lo,lc,unhide HD,fun k hk=>Or.inl hk⟩
theorem owns_setS {w:World} {base e z n cap g:Nat} {xs:List Value} (h:w.ownsRow base e z (.slice (some ⟨g,0,none⟩) n cap) n xs) (i:Nat) (v:Value):(w.setCell ⟨g,i,none⟩ v).ownsRow base e z (.slice (some ⟨g,0,none⟩) n cap) n (xs.set i v):=by
 obtain ⟨hl,⟨hv,_⟩|⟨g',cap',cur,hv,hg,hrow,hle,hcap,hcs,htake⟩⟩:=h
 ·cases hv
 ·cases hv
  refine ⟨by simp [hl],Or.inr ⟨g,cap,cur.setIfInBounds i v,rfl,hg,blk_set hrow i v,hle,hcap,by simp [hcs], ?_⟩⟩
  rw [Array.toList_setIfInBounds,List.take_set,htake]
theorem csC_put: ∀{cs:List Cs} {q:Nat} {c:Cs} (s e:Nat),(cs.map (·.id)).Nodup→cs[q]? =some c→((csC cs).set (q * 3+1) (.int .i64 (s:Int))).set (q * 3+2) (.int .i64 (e:Int))=csC (csPut cs c.id s e)
 |[],q,c,s,e,_,h=>by simp at h
 |x::cs,0,c,s,e,hd,h=>by
  have hx:x=c:=by simpa using h
  subst hx
  rw [List.map_cons,List.nodup_cons] at hd
  have hrest:csPut cs x.id s e=cs:=by
   unfold csPut
   conv=>rhs;rw [←List.map_id cs]
   refine List.map_congr_left fun y hy=> ?_
   rw [if_neg (fun e=>hd.1 (by rw [←e];exact List.mem_map.2 ⟨y,hy,rfl⟩))]
   rfl
  have e1:csPut (x::cs) x.id s e=⟨x.id,s,e⟩::csPut cs x.id s e:=by unfold csPut;rw [List.map_cons,if_pos rfl]
  rw [e1,hrest]
  rfl
 |x::cs,q+1,c,s,e,hd,h=>by
  have h':cs[q]? =some c:=by simpa using h
  rw [List.map_cons,List.nodup_cons] at hd
  have hne:x.id≠c.id:=fun e=>hd.1 (by rw [e];exact List.mem_map.2 ⟨c,List.mem_of_getElem? h',rfl⟩)
  have e1:csPut (x::cs) c.id s e=x::csPut cs c.id s e:=by unfold csPut;rw [List.map_cons,if_neg hne]
  have ih:=csC_put s e hd.2 h'
  rw [e1]
  show (([Value.string x.id,.int .i64 (x.st:Int),.int .i64 (x.ev:Int)]++csC cs).set ((q+1) * 3+1) _).set ((q+1) * 3+2) _=[Value.string x.id,.int .i64 (x.st:Int),.int .i64 (x.ev:Int)]++csC (csPut cs c.id s e)
  rw [←ih,show (q+1) * 3+1=q * 3+1+3 by omega,show (q+1) * 3+2=q * 3+2+3 by omega]
  rfl
theorem DrP.put {w:World} {base rd:Nat} {t:Tb} {cs:List Cs} {A n ab a0 fb f0 nb n0 ac fc nc:Nat} {rb ro rc:Nat→Nat} {g lc:Nat} (h:DrP w base rd t cs A n ab a0 fb f0 nb n0 ac fc nc rb ro rc (some ⟨g,0,none⟩) lc) {q:Nat} {c:Cs} (hq:cs[q]? =some c) (s e:Nat) (hs:s<n):
  DrQ base rd t (csPut cs c.id s e) A n ab a0 fb f0 nb n0 ac fc nc rb ro rc (some ⟨g,0,none⟩) w ((w.setCell ⟨g,q * 3+1,none⟩ (.int .i64 (s:Int))).setCell ⟨g,q * 3+2,none⟩ (.int .i64 (e:Int))):=by
 have hg:w.grownBy ((w.setCell ⟨g,q * 3+1,none⟩ (.int .i64 (s:Int))).setCell ⟨g,q * 3+2,none⟩ (.int .i64 (e:Int))) (some g):=(grown_set _ _ _ _).trans (grown_set _ _ _ _)
 have hin:DrS rd (some ⟨g,0,none⟩) g:=Or.inr rfl
 have hf:FrD (DrS rd (some ⟨g,0,none⟩)) w ((w.setCell ⟨g,q * 3+1,none⟩ (.int .i64 (s:Int))).setCell ⟨g,q * 3+2,none⟩ (.int .i64 (e:Int))):=FrD.grown hg hin
 have hgr:g≠rd:=fun e=>by
  obtain ⟨_,_,c,hc⟩:=own_lo h.ls (k:=g) rfl
  rw [e,h.blk] at hc
  injection hc with hc
  injection hc with _ hc _
  exact absurd hc (by decide)
 have hss:=fun {b:Nat} (hb: ∀k,DrS rd (some ⟨g,0,none⟩) k→k≠b)=>(fun hk=>hb b hk rfl:¬ DrS rd (some ⟨g,0,none⟩) b)
 have hls:=owns_setS (owns_setS h.ls (q * 3+1) (.int .i64 (s:Int))) (q * 3+2) (.int .i64 (e:Int))
 rw [csC_put s e h.nd hq] at hls
 refine ⟨hf,some ⟨g,0,none⟩,lc,⟨?_,h.tb.frame hf (hss fun k hk=>(h.sep k hk).1) (hss fun k hk=>(h.sep k hk).2.1) (hss fun k hk=>(h.sep k hk).2.2.1) (fun i hi=>hss fun k hk=>(h.sep k hk).2.2.2 i hi), ?_, ?_,fun x hx=> ?_, ?_,h.sep⟩,fun k hk=>Or.inl hk⟩
 ·rw [csPut_len]
  exact (hg.block rd (lt_of_blk h.blk) (fun e=>hgr (Option.some.inj e).symm)).trans h.blk
 ·rw [csPut_len]
  exact hls
 ·rw [csPut_ids];exact h.nd
 ·rcases csPut_mem hx with ⟨_,hx'⟩|⟨rfl,_⟩
  ·exact h.st x hx'
  ·exact hs
 ·rw [csPut_len];exact h.few
set_option maxHeartbeats 4000000 in
set_option maxRecDepth 100000 in
theorem EventR_any (w:World) (base rd:Nat) (t:Tb) (cs:List Cs) (A n ab a0 fb f0 nb n0 ac fc nc:Nat) (rb ro rc:Nat→Nat) (lo:Option Addr) (lc:Nat) (hD:DrP w base rd t cs A n ab a0 fb f0 nb n0 ac fc nc rb ro rc lo lc) (id act:ByteArray) (hev: ∀c∈cs,c.ev≤4611686018427387904):
  Calls Tryz.prog 104 #[.pointer (some ⟨rd,0,none⟩),.string id,.string act] w fun e w'=>e= .returned (.int .i64 ((dkEvent t cs id act).2:Int))∧DrQ base rd t (dkEvent t cs id act).1 A n ab a0 fb f0 nb n0 ac fc nc rb ro rc lo w w':=by
 have HFD:=hide (dfind_any w base rd t cs A n ab a0 fb f0 nb n0 ac fc nc rb ro rc lo lc hD id)
 have HD:=hide hD
 have hA6:=hD.tb.A6
 have hfew:=hD.few
 clear hD
 go_enter Tryz.func104,Tryz.ntmps104
 go_wp2_with fail
 refine (unhide HFD).mono ?_
 clear HFD
 rintro e w' ⟨hf,hw'⟩
 have hw:=hw'.symm
 clear hw'
 subst hw
 rcases hf with ⟨hc,rfl⟩|⟨q,c,hq,hc,hcid,rfl⟩
 ·have HE:Hid (dkEvent t cs id act=(cs,8)):=by show _=_;unfold dkEvent;rw [hc]
  clear hc
  go_wp2_with fail
  refine bodyPost_ret (v:= .int .i64 8) (by simp [results,Tryz.results104,go_sem]) rfl ?_
  rw [unhide HE]
  exact ⟨rfl,FrD.refl _ _,lo,lc,unhide HD,fun k hk=>Or.inl hk⟩
 ·have HE:Hid (dkEvent t cs id act=if (dkStep t c.st act).2=0 then (csPut cs id (dkStep t c.st act).1 (c.ev+1),0) else (cs,(dkStep t c.st act).2)):=by show _=_;unfold dkEvent;rw [hc]
  have HQ:=hide hq
  have HCI:=hide hcid
  have hql:q<cs.length:=(List.getElem?_eq_some_iff.1 hq).1
  have hst:=(unhide HD).st c (List.mem_of_getElem? hq)
  have hce:=hev c (List.mem_of_getElem? hq)
  have hq0:¬ (q:Int)<0:=by omega
  have hqi:(q:Int)<(cs.length:Int):=by omega
  clear hc hq hcid hev
  go_wp2_with fail
  go_loopw [8] (fun x wr=> ∃a:Nat,a≤A∧x= .int .i64 a∧Hid (w=wr)∧Hid (act∉t.acts.take a)) (fun x _=>A - (intOf x).toNat)
  case atStart=>exact ⟨0,Nat.zero_le _,rfl,rfl,fun h=>List.not_mem_nil h⟩
  case round=>
   obtain ⟨a,ha,rfl,HW,HNI⟩:=hrel
   have hw:=unhide HW
   subst hw
   clear HW
   have c0:=cell_of_blk (unhide HD).blk 0
   have c1:=cell_of_blk (unhide HD).blk 1
   have c2:=cell_of_blk (unhide HD).blk 2
   have c3:=cell_of_blk (unhide HD).blk 3
   have l0:=lt_of_blk (unhide HD).blk
   by_cases haA:a<A
   ·have han:(a:Int)<(A:Int):=by omega
    have haa:a<t.acts.length:=by rw [(unhide HD).tb.hA];exact haA
    have hx:t.acts[a]? =some (nmT t a):=by unfold nmT;rw [List.getElem?_eq_getElem haa];rfl
    have hac:=(unhide HD).tb.act a (nmT t a) hx
    have hla:=(unhide HD).tb.la
    have HX:=hide hx
    by_cases he:nmT t a=act
    ·have hsa:=step_at (unhide HD).tb.rt (s:=c.st) haa
     rw [he] at hsa hac
     have HSA:=hide hsa
     obtain ⟨g,rfl,hgl,_,_,hg1,hg2⟩:=case_at (unhide HD).ls (unhide HQ)
     have hrow:=(unhide HD).tb.row c.st hst
     have hln:=(unhide HD).tb.ln
     have hlr:=(unhide HD).tb.lr c.st hst
     have hnx:=(unhide HD).tb.nxt c.st a hst haA
     have hyn:=(unhide HD).tb.lt hst haA
     have hfl:=(unhide HD).tb.fla _ hyn
     have hlf:=(unhide HD).tb.lf
     have hsi:(c.st:Int)<(n:Int):=by omega
     have hyi:(nxT t c.st a:Int)<(n:Int):=by omega
     clear he hx hsa
     generalize nxT t c.st a=y at *
     generalize flT t y=f at *
     have hev1:(c.ev:Int)+1<9223372036854775808:=by omega
     go_wp2_with fail
     go_quiet (fail)
     have hbd:=bdn w nq
     have HBD:=hide hbd
     have c0:=(bcell3 hbd _ _ l0).trans c0
     have c1:=(bcell3 hbd _ _ l0).trans c1
     have c2:=(bcell3 hbd _ _ l0).trans c2
     have c3:=(bcell3 hbd _ _ l0).trans c3
     have hg1:=(bcell3 hbd _ _ hgl).trans hg1
     have hg2:=(bcell3 hbd _ _ hgl).trans hg2
     have hfl:=(bcell3 hbd _ _ hlf).trans hfl
     have HD2:=hide ((unhide HD).later hbd)
     have l0:=Nat.lt_of_lt_of_le l0 hbd.size
     have hgl:=Nat.lt_of_lt_of_le hgl hbd.size
     have hlf:=Nat.lt_of_lt_of_le hlf hbd.size
     have hfz: ∀o,(w.drewN nq).frozen? ⟨g,o,none⟩=false:=fun o=>by
      obtain ⟨_,_,cc,hcc⟩:=own_lo (unhide HD2).ls (k:=g) rfl
      exact frozen_of_blk hcc o
     have hgr:g≠rd:=fun e=>by
      obtain ⟨_,_,cc,hcc⟩:=own_lo (unhide HD2).ls (k:=g) rfl
      rw [e,(unhide HD2).blk] at hcc
      injection hcc with hcc
      injection hcc with _ hcc _
      exact absurd hcc (by decide)
     have hrg:rd≠g:=fun e=>hgr e.symm
     clear hbd hnx hrow hln hlr hla hac
     generalize w.drewN nq=w2 at *
     by_cases h2:f<2
     ·have h2i:(f:Int)<2:=by omega
      go_wp2_with fail
      refine bodyPost_ret (v:= .int .i64 9) (by simp [results,Tryz.results104,go_sem]) rfl ?_
      rw [unhide HE,unhide HSA,if_pos h2]
      exact ⟨rfl,FrD.below (unhide HBD),some ⟨g,0,none⟩,lc,unhide HD2,fun k hk=>Or.inl hk⟩
     ·have h2i:¬ (f:Int)<2:=by omega
      have hz1:=hfz (q * 3+1)
      have hz2:=hfz (q * 3+2)
      go_wp2_with fail
      refine bodyPost_ret (v:= .int .i64 0) (by simp [results,Tryz.results104,go_sem]) rfl ?_
      rw [unhide HE,unhide HSA,if_neg h2]
      have hput:=(unhide HD2).put (unhide HQ) y (c.ev+1) hyn
      rw [unhide HCI,show ((c.ev+1:Nat):Int)=(c.ev:Int)+1 by omega] at hput
      obtain ⟨hfr,lo',lc',hP,hk⟩:=hput
      exact ⟨rfl,(FrD.below (unhide HBD)).trans hfr,lo',lc',hP,fun k hk'=>(hk k hk').imp_right fun h=>Nat.le_trans (unhide HBD).size h⟩
    ·have hne:=bytes_ne he
     have HNI2:Hid (act∉t.acts.take (a+1)):=by
      show ¬ _
      rw [List.take_add_one,unhide HX,List.mem_append]
      rintro (h|h)
      ·exact unhide HNI h
      ·exact he (by simpa using h:act=nmT t a).symm
     clear he hx
     generalize nmT t a=sa at *
     go_wp2_with fail
     go_roundw
     case rel=>exact ⟨a+1,by omega,by go_num,trivial,HNI2⟩
     case measure=>simp [intOf];omega
   ·have han:¬ (a:Int)<(A:Int):=by omega
    have HST:Hid (dkStep t c.st act=(0,3)):=by
     show _=_
     have h1:=unhide HNI
     rw [List.take_of_length_le (by rw [(unhide HD).tb.hA];omega)] at h1
     unfold dkStep
     cases hfn:fnd act t.acts 0 with
     |none=>rfl
     |some j=>exact absurd (List.mem_of_getElem? (fnd_some hfn).2) h1
    go_wp2_with fail
    refine bodyPost_ret (v:= .int .i64 3) (by simp [results,Tryz.results104,go_sem]) rfl ?_
    rw [unhide HE,unhide HST]
    exact ⟨rfl,FrD.refl _ _,lo,lc,unhide HD,fun k hk=>Or.inl hk⟩
theorem csDel_snoc (cs:List Cs) (c:Cs) (id:ByteArray):csDel (cs++[c]) id=if c.id=id then csDel cs id else csDel cs id++[c]:=by
 unfold csDel
 rw [List.filter_append]
 by_cases h:c.id=id
 ·rw [if_pos h,List.filter_cons_of_neg (by simp [h])];simp
 ·rw [if_neg h,List.filter_cons_of_pos (by simp [h])];simp
theorem csDel_le (cs:List Cs) (id:ByteArray):(csDel cs id).length≤cs.length:=List.length_filter_le _ _
theorem DrP.less {w w2:World} {base rd:Nat} {t:Tb} {cs:List Cs} {A n ab a0 fb f0 nb n0 ac fc nc:Nat} {rb ro rc:Nat→Nat} {lo:Option Addr} {lc:Nat} (h:DrP w base rd t cs A n ab a0 fb f0 nb n0 ac fc nc rb ro rc lo lc) (hbase:base≤w.heap.size) (hb:Below w.heap.size w w2) {id:ByteArray} {o:Option Addr} {k m:Nat} (hm:(csDel cs id).length=m)
  (ho:w2.ownsRow w.heap.size 247 3 (.slice o m k) m (csC (csDel cs id))):
  DrQ base rd t (csDel cs id) A n ab a0 fb f0 nb n0 ac fc nc rb ro rc lo w (w2.setCell ⟨rd,3,none⟩ (.slice o m k)):=by
 subst hm
 have l0:=lt_of_blk h.blk
 have hb2:=(hb.block rd l0).trans h.blk
 have hf:FrD (DrS rd lo) w (w2.setCell ⟨rd,3,none⟩ (.slice o (csDel cs id).length k)):=(FrD.below hb).trans (FrD.grown (grown_set w2 rd 3 _) (Or.inl rfl))
 have hnew: ∀j,DrS rd o j→DrS rd lo j∨w.heap.size≤j:=fun j hj=>by
  rcases hj with rfl|hj
  ·exact Or.inl (Or.inl rfl)
  ·exact Or.inr (own_lo ho (k:=j) (by rw [hj];rfl)).2.1
 have hs:=fun {b:Nat} (hb: ∀k,DrS rd lo k→k≠b)=>(fun hk=>hb b hk rfl:¬ DrS rd lo b)
 refine ⟨hf,o,k,⟨blk_set hb2 3 _,h.tb.frame hf (hs fun k hk=>(h.sep k hk).1) (hs fun k hk=>(h.sep k hk).2.1) (hs fun k hk=>(h.sep k hk).2.2.1) (fun i hi=>hs fun k hk=>(h.sep k hk).2.2.2 i hi), ?_,csDel_nodup h.nd,fun c hc=>h.st c (csDel_mem.1 hc).1,Nat.le_trans (csDel_le _ _) h.few,fun j hj=> ?_⟩,hnew⟩
 ·refine owns_other (owns_mono ho hbase) (grown_set w2 rd 3 _) (fun b hb e=> ?_)
  cases hb
  have:=(own_lo ho e).2.1
  omega
 ·rcases hnew j hj with h1|h1
  ·exact h.sep j h1
  ·exact ⟨by have:=h.tb.la;omega,by have:=h.tb.lf;omega,by have:=h.tb.ln;omega,fun i hi=>by have:=h.tb.lr i hi;omega⟩
set_option maxHeartbeats 4000000 in
set_option maxRecDepth 100000 in
theorem EndR_any (w:World) (base rd:Nat) (t:Tb) (cs:List Cs) (A n ab a0 fb f0 nb n0 ac fc nc:Nat) (rb ro rc:Nat→Nat) (lo:Option Addr) (lc:Nat) (hD:DrP w base rd t cs A n ab a0 fb f0 nb n0 ac fc nc rb ro rc lo lc) (hbase:base≤w.heap.size) (id:ByteArray):
  Calls Tryz.prog 105 #[.pointer (some ⟨rd,0,none⟩),.string id] w fun e w'=>e= .returned (.int .i64 ((dkEnd t cs id).2:Int))∧DrQ base rd t (dkEnd t cs id).1 A n ab a0 fb f0 nb n0 ac fc nc rb ro rc lo w w':=by
 obtain ⟨i0,hi0,hz0,hz1,hz2⟩:=info_parts Tryz.infoCase
 have HFD:=hide (dfind_any w base rd t cs A n ab a0 fb f0 nb n0 ac fc nc rb ro rc lo lc hD id)
 have HD:=hide hD
 have hfew:=hD.few
 clear hD
 go_enter Tryz.func105,Tryz.ntmps105
 go_wp2_with fail
 refine (unhide HFD).mono ?_
 clear HFD
 rintro e w' ⟨hf,hw'⟩
 have hw:=hw'.symm
 clear hw'
 subst hw
 rcases hf with ⟨hc,rfl⟩|⟨q,c,hq,hc,hcid,rfl⟩
 ·have HE:Hid (dkEnd t cs id=(cs,8)):=by show _=_;unfold dkEnd;rw [hc]
  clear hc
  go_wp2_with fail
  refine bodyPost_ret (v:= .int .i64 8) (by simp [results,Tryz.results105,go_sem]) rfl ?_
  rw [unhide HE]
  exact ⟨rfl,FrD.refl _ _,lo,lc,unhide HD,fun k hk=>Or.inl hk⟩
 ·have HE:Hid (dkEnd t cs id=if accT t c.st=true then (csDel cs id,0) else (cs,10)):=by show _=_;unfold dkEnd;rw [hc]
  have HQ:=hide hq
  have HCI:=hide hcid
  have hql:q<cs.length:=(List.getElem?_eq_some_iff.1 hq).1
  have hst:=(unhide HD).st c (List.mem_of_getElem? hq)
  have hq0:¬ (q:Int)<0:=by omega
  have hqi:(q:Int)<(cs.length:Int):=by omega
  have hsi:(c.st:Int)<(n:Int):=by omega
  obtain ⟨g,rfl,hgl,_,_,hg1,_⟩:=case_at (unhide HD).ls hq
  have c1:=cell_of_blk (unhide HD).blk 1
  have c3:=cell_of_blk (unhide HD).blk 3
  have l0:=lt_of_blk (unhide HD).blk
  have hfl:=(unhide HD).tb.fla c.st hst
  have hlf:=(unhide HD).tb.lf
  have ham:=acc_mod t c.st
  rw [Int.tmod_eq_emod_of_nonneg (by omega)] at ham
  have HAM:=hide ham
  clear ham
  clear hc hq hcid
  generalize flT t c.st=f at *
  by_cases h2:(f:Int)%2=0
  ·go_wp2_with fail
   go_quiet (fail)
   go_wp2_with fail
   refine bodyPost_ret (v:= .int .i64 10) (by simp [results,Tryz.results105,go_sem]) rfl ?_
   have hacc:¬ accT t c.st=true:=fun h=>by have h3:=unhide HAM;rw [h2,if_pos h] at h3;omega
   rw [unhide HE,if_neg hacc]
   exact ⟨rfl,FrD.below (bdn _ _),some ⟨g,0,none⟩,lc,(unhide HD).later (bdn _ _),fun k hk=>Or.inl hk⟩
  ·have HACC:Hid (accT t c.st=true):=by
    show _=_
    have h3:=unhide HAM
    by_cases h:accT t c.st=true
    ·exact h
    ·rw [if_neg h] at h3;exact absurd h3 h2
   go_wp2_with fail
   go_quiet (fail)
   have HB0:=hide (bdn w nq)
   clear c1 c3 hg1 hfl
   generalize w.drewN nq=w2 at *
   go_wp2_with fail
   generalize ((f:Int)%2==0)=bf
   clear h2 HAM
   go_loopw [6,7] (fun tv x wr=> ∃(i:Nat) (o:Option Addr) (k:Nat),i≤cs.length∧x= .int .i64 i∧tv= .slice o (csDel (cs.take i) id).length k∧Hid (Below w.heap.size w wr)∧Hid (wr.ownsRow w.heap.size 247 3 (.slice o (csDel (cs.take i) id).length k) (csDel (cs.take i) id).length (csC (csDel (cs.take i) id)))) (fun _ x _=>cs.length - (intOf x).toNat)
   case atStart=>exact ⟨0,none,0,Nat.zero_le _,rfl,rfl,HB0,⟨rfl,Or.inl ⟨rfl,rfl⟩⟩⟩
   case round=>
    obtain ⟨i,o,k,hi,rfl,rfl,HBW,HOW⟩:=hrel
    have hDw:=(unhide HD).later (unhide HBW)
    have c3:=cell_of_blk hDw.blk 3
    have f3:=frozen_of_blk hDw.blk 3
    have l0:=lt_of_blk hDw.blk
    have hle:(csDel (cs.take i) id).length≤8:=Nat.le_trans (csDel_le _ _) (Nat.le_trans (List.length_take_le _ _) (by omega))
    by_cases hil:i<cs.length
    ·have hin:(i:Int)<(cs.length:Int):=by omega
     have hx:cs[i]? =some cs[i]:=List.getElem?_eq_getElem hil
     have HX:=hide hx
     obtain ⟨g',e',hgl,_,hg0,hg1,hg2⟩:=case_at hDw.ls hx
     cases e'
     have HND:=hide hDw.nd
     have HSN:=hide (csDel_snoc (cs.take i) cs[i] id)
     rw [show cs.take i++[cs[i]]=cs.take (i+1) by rw [List.take_add_one,hx];rfl] at HSN
     generalize cs[i]=d at *
     clear hx hDw
     by_cases hiq:i=q
     ·have hii:(i:Int)=(q:Int):=by omega
      have hde:d.id=id:=by
       have h1:=unhide HX
       rw [hiq,unhide HQ] at h1
       rw [←Option.some.inj h1];exact unhide HCI
      have HNX:=hide ((unhide HSN).trans (if_pos hde))
      clear HSN hde hiq
      go_wp2_with fail
      go_roundw
      case rel=>exact ⟨i+1,o,k,by omega,by go_num,by rw [unhide HNX],HBW,by rw [unhide HNX];exact HOW⟩
      case measure=>simp [intOf];omega
     ·have hii:¬ (i:Int)=(q:Int):=by omega
      have hde:¬ d.id=id:=fun e=>hiq (by
       have h1:=unhide HX
       have h2:=unhide HQ
       have hm1:(cs.map (·.id))[i]? =some id:=by rw [List.getElem?_map,h1];exact congrArg some e
       have hm2:(cs.map (·.id))[q]? =some id:=by rw [List.getElem?_map,h2];exact congrArg some (unhide HCI)
       exact (List.getElem?_inj (List.getElem?_eq_some_iff.1 hm1).1 (unhide HND)).1 (hm1.trans hm2.symm))
      have HNX:=hide ((unhide HSN).trans (if_neg hde))
      clear HSN hde hiq
      generalize hof:csDel (cs.take i) id=L at *
      clear hof
      go_wp2_with (at_builtin;go_must (refine wpList_append_lies _ rfl _ _ 243 rfl w.heap.size 247 i0 (.agg #[.string ⟨#[]⟩,.int .i64 0,.int .i64 0]) 3 32 Tryz.underlying243 hi0 hz0 hz1 hz2 rfl (by decide) _ L.length (csC L) rfl ?c0 _ 1 1 [.string d.id,.int .i64 (d.st:Int),.int .i64 (d.ev:Int)] rfl rfl ?c1 ?c2 (by decide) ?c3 ?c4 ?c5 _ rfl ?_))
      case c0=>exact (unhide HOW).alloc _
      case c1=>
       intro j u hj
       match j,hj with
       |0,hj=>simp at hj;subst hj;exact cell_of_blk (blk_alloc' _ _ _ (by simp)) 0
       |1,hj=>simp at hj;subst hj;exact cell_of_blk (blk_alloc' _ _ _ (by simp)) 1
       |2,hj=>simp at hj;subst hj;exact cell_of_blk (blk_alloc' _ _ _ (by simp)) 2
       |j+3,hj=>simp at hj
      case c2=>intro u hu;simp at hu;rcases hu with rfl|rfl|rfl<;>rfl
      case c3=>unfold maxLen;omega
      case c4=>omega
      case c5=>have:=(unhide HBW).size;simp;omega
      intro g8 c8 w8 ho8 hg8 _ _
      have hba8:Below wr.heap.size wr (wr.alloc (.cells #[.string d.id,.int .i64 (d.st:Int),.int .i64 (d.ev:Int)] 247)):=(Below.refl _ _).alloc (Nat.le_refl _) _
      have HB8:=hide (((unhide HBW).trans (hba8.mono (unhide HBW).size)).grown hg8 (Nat.le_trans (unhide HBW).size hba8.size) (fun b hb=>(own_lo (unhide HOW) hb).2.1))
      have HO8:Hid (w8.ownsRow w.heap.size 247 3 (.slice (some ⟨g8,0,none⟩) (csDel (cs.take (i+1)) id).length c8) (csDel (cs.take (i+1)) id).length (csC (csDel (cs.take (i+1)) id))):=by
       show World.ownsRow _ _ _ _ _ _ _
       rw [unhide HNX,List.length_append,csC_snoc]
       exact ho8
      have HLE:Hid ((csDel (cs.take (i+1)) id).length=L.length+1):=by show _=_;rw [unhide HNX,List.length_append];rfl
      clear ho8 hg8 hba8 HOW
      go_wp2_with fail
      go_roundw
      case rel=>exact ⟨i+1,some ⟨g8,0,none⟩,c8,by omega,by go_num,by rw [unhide HLE],HB8,HO8⟩
      case measure=>simp [intOf];omega
    ·have hin:¬ (i:Int)<(cs.length:Int):=by omega
     have hie:cs.take i=cs:=List.take_of_length_le (by omega)
     have HIE:=hide hie
     clear hDw hie
     go_wp2_with fail
     refine bodyPost_ret (v:= .int .i64 0) (by simp [results,Tryz.results105,go_sem]) rfl ?_
     rw [unhide HE,if_pos (unhide HACC)]
     have ho:=unhide HOW
     have hl:(csDel cs id).length=(csDel (cs.take i) id).length:=by rw [unhide HIE]
     refine ⟨rfl,(unhide HD).less hbase (unhide HBW) hl ?_⟩
     rw [unhide HIE] at ho⊢
     exact ho
end Go.Proofs.YtidakhhekofkoaaGreatDoor
