/- The program's aliveStates, rightFlags, Right. -/
import Derived.Test.YtidakhhekofkoaaGreatDoorJ16
import Derived.Test.YtidakhhekofkoaaGreatDoorJ12
set_option linter.unusedSimpArgs false
set_option linter.unusedVariables false
namespace Go.Proofs.YtidakhhekofkoaaGreatDoor
open Go.RowKit Go.Deep
theorem and1_i64 (f:Int):bits .and .i64 f 1=f%2:=by
 show IntKind.i64.wrap ((BitVec.ofInt 64 f&&&BitVec.ofInt 64 1).toNat:Int)=_
 rw [BitVec.toNat_and,show (BitVec.ofInt 64 1).toNat=1 from rfl,Nat.and_one_is_mod,BitVec.toNat_ofInt]
 rw [IntKind.wrap_i64]
 omega
theorem and2_i64 {f:Int} (h0:0≤f) (h3:f≤3):bits .and .i64 f 2=if 2≤f then 2 else 0:=by
 have:f=0∨f=1∨f=2∨f=3:=by omega
 rcases this with rfl|rfl|rfl|rfl<;>rfl
theorem Tryz.infoBool:(Tryz.prog.info? 4).map (fun i=>(i.zero,i.size,i.bytes))=some (some (.bool false),1,1):=by kernel_rfl
def boolC (L:List Bool):Array Value:=(L.map Value.bool).toArray
theorem boolC_at (L:List Bool) (k:Nat) (x:Bool) (h:L[k]? =some x):(boolC L)[k]? =some (.bool x):=by
 unfold boolC
 rw [List.getElem?_toArray,List.getElem?_map,h]
 rfl
theorem boolC_set (L:List Bool) (k:Nat) (x:Bool):(boolC L).setIfInBounds k (.bool x)=boolC (L.set k x):=by
 unfold boolC
 rw [List.setIfInBounds_toArray,List.map_set]
def isT:Value→Bool
 | .bool true=>true
 |_=>false
def cntB (w:World) (g:Nat):Nat:=
 match w.heap[g]? with
 |some (.cells c _ _)=>c.toList.countP isT
 |_=>0
theorem cntB_eq {w:World} {g ty:Nat} {m:Nat × Nat} {L:List Bool} (h:w.heap[g]? =some (.cells (boolC L) ty m)):cntB w g=L.count true:=by
 unfold cntB
 rw [h]
 simp only [boolC]
 clear h
 induction L with
 |nil=>rfl
 |cons x r ih=>
  rw [List.map_cons,List.countP_cons,List.count_cons,ih]
  cases x<;>rfl
structure AL (w wr:World) (g:Nat) (T:Array Value) (L:List Bool):Prop where
 blk:wr.heap[g]? =some (.cells (boolC L) 4 (0,0))
 box:wr.heap[w.heap.size]? =some (.cells T 36 (0,0))
 bel:Below w.heap.size w wr
theorem AL.bos {w wr:World} {g:Nat} {T:Array Value} {L:List Bool} (h:AL w wr g T L):BoS wr (some ⟨g,0,none⟩) L:=fun j x hx=>
 ⟨g,0,rfl,lt_of_blk h.blk,by rw [Nat.zero_add,cell_of_blk h.blk,boolC_at L j x hx]⟩
theorem AL.set {w wr:World} {T:Array Value} {L:List Bool} (h:AL w wr (w.heap.size+1) T L) (k:Nat):AL w (wr.setCell ⟨w.heap.size+1,k,none⟩ (.bool true)) (w.heap.size+1) T (L.set k true):=by
 refine ⟨?_, ?_, ?_⟩
 ·have:=blk_set h.blk k (.bool true)
  rw [boolC_set] at this
  exact this
 ·exact (Below.heap_setCell _ _ _ _ (by show w.heap.size≠w.heap.size+1;omega)).trans h.box
 ·exact h.bel.setCell (p:=⟨w.heap.size+1,k,none⟩) (by show _≤w.heap.size+1;omega) _
def LvShut (z:Tz) (L:List Bool) (i:Nat):Prop:= ∀f r,z.fl[i]? =some f→z.nx[i]? =some r→lv L i=false→f%2=0∧r.any (fun x=>lv L x.toNat)=false
def LvSound (z:Tz) (L:List Bool):Prop:=L.length=z.nx.length∧ ∀i,lv L i=true→Lives (absT z) i
theorem LvSound.set {z:Tz} {L:List Bool} (h:LvSound z L) {k:Nat} (hk:Lives (absT z) k):LvSound z (L.set k true):=by
 refine ⟨by rw [List.length_set];exact h.1,fun i hi=> ?_⟩
 rw [lv_set] at hi
 split at hi
 ·rename_i e
  rw [←e.1]
  exact hk
 ·exact h.2 i hi
theorem lives_acc {z:Tz} {i:Nat} {f:Int} (h:z.fl[i]? =some f) (h1:f%2=1):Lives (absT z) i:=by
 refine .acc (f:=(f%2).toNat) ?_ (by omega)
 unfold absT
 simp only [List.getElem?_map,h]
 rfl
theorem lives_go {z:Tz} {L:List Bool} (hs:LvSound z L) {i:Nat} {r:List Int} (h:z.nx[i]? =some r) (h1:r.any (fun x=>lv L x.toNat)=true):Lives (absT z) i:=by
 obtain ⟨x,hx,e⟩:=List.any_eq_true.1 h1
 refine .step (r:=r.map Int.toNat) (j:=x.toNat) ?_ (List.mem_map.2 ⟨x,hx,rfl⟩) (hs.2 _ e)
 unfold absT
 simp only [List.getElem?_map,h]
 rfl
theorem lv_done {z:Tz} {L:List Bool} (hr:RowsOk z) (hs:LvSound z L) (hc: ∀i,i<z.nx.length→LvShut z L i) (i:Nat):lv L i=true↔Lives (absT z) i:=by
 refine lives_eq hs.2 (fun i f h1 h2=> ?_) (fun i r j h1 h2 h3=> ?_) i
 ·unfold absT at h1
  simp only [List.getElem?_map] at h1
  cases e:z.fl[i]? with
  |none=>rw [e] at h1;cases h1
  |some g=>
   rw [e] at h1
   have hg:(g%2).toNat=f:=Option.some.inj h1
   have hi:i<z.nx.length:=by have:=(List.getElem?_eq_some_iff.1 e).1;have:=hr.fl;omega
   cases hl:lv L i with
   |true=>rfl
   |false=>
    have:=(hc i hi g _ e (List.getElem?_eq_getElem hi) hl).1
    omega
 ·unfold absT at h1
  simp only [List.getElem?_map] at h1
  cases e:z.nx[i]? with
  |none=>rw [e] at h1;cases h1
  |some q=>
   rw [e] at h1
   have hq:q.map Int.toNat=r:=Option.some.inj h1
   have hi:=(List.getElem?_eq_some_iff.1 e).1
   cases hl:lv L i with
   |true=>rfl
   |false=>
    have hf:i<z.fl.length:=by have:=hr.fl;omega
    have h4:=(hc i hi _ _ (List.getElem?_eq_getElem hf) e hl).2
    rw [←hq] at h2
    obtain ⟨x,hx,rfl⟩:=List.mem_map.1 h2
    have:=List.any_eq_false.1 h4 x hx
    exact absurd h3 this
theorem count_set {L:List Bool} {k:Nat} (hk:L[k]? =some false):L.count true<(L.set k true).count true:=by
 have hl:LvLe L (L.set k true):=⟨by rw [List.length_set],fun i hi=>by
  rw [lv_set]
  split
  ·rfl
  ·exact hi⟩
 refine hl.count.2 fun e=> ?_
 have hlt:=(List.getElem?_eq_some_iff.1 hk).1
 rw [e,List.getElem?_set_self hlt] at hk
 cases hk
structure ALr (z:Tz) (L0 L:List Bool) (b:Bool) (k:Nat):Prop where
 s:LvSound z L
 t:b=true→L0.count true<L.count true
 f:b=false→L=L0∧ ∀i,i<k→LvShut z L i
def AlPost (z:Tz) (w':World) (e:Ending):Prop:= ∃g L,e= .returned (.slice (some ⟨g,0,none⟩) z.nx.length z.nx.length)∧L.length=z.nx.length∧BoS w' (some ⟨g,0,none⟩) L∧ ∀i,lv L i=true↔Lives (absT z) i
set_option maxHeartbeats 4000000 in
set_option maxRecDepth 100000 in
theorem alive_any (w:World) (ao fo no:Option Addr) (ac fc nc:Nat) (z:Tz) (hI:TbI w ao fo no ac z) (hR:RowsOk z):
  Calls Tryz.prog 133 #[.agg #[.slice ao z.acts.length ac,.slice fo z.fl.length fc,.slice no z.nx.length nc]] w fun e w'=>AlPost z w' e∧Below w.heap.size w w':=by
 have hB:Below w.heap.size w (w.alloc (.cells #[.slice ao z.acts.length ac,.slice fo z.fl.length fc,.slice no z.nx.length nc] 36)):=(Below.refl _ _).alloc (Nat.le_refl _) _
 have hl3:=hR.n100
 have hfa:z.fl.length≤z.nx.length:=Nat.le_of_eq hR.fl
 have hfb:z.nx.length≤z.fl.length:=Nat.le_of_eq hR.fl.symm
 obtain ⟨i0,hi0,hz0,hz1,hz2⟩:=info_parts Tryz.infoBool
 have hmk:=fun (w:World)=>make_run (P:=Tryz.prog) w 87 4 i0 (.bool false) Tryz.underlying87 hi0 hz0 hz1 rfl (by omega) z.nx.length (by omega)
 clear hi0 hz0 hz1 hz2
 have HI:=hide hI
 have HR:=hide hR
 have hbool:boolC (List.replicate z.nx.length false)=Array.replicate z.nx.length (.bool false):=by
  unfold boolC;simp
 have HA0:Hid (AL w ((w.alloc (.cells #[.slice ao z.acts.length ac,.slice fo z.fl.length fc,.slice no z.nx.length nc] 36)).alloc (.cells (Array.replicate z.nx.length (.bool false)) 4)) (w.heap.size+1) #[.slice ao z.acts.length ac,.slice fo z.fl.length fc,.slice no z.nx.length nc] (List.replicate z.nx.length false)):=by
  rw [←hbool]
  exact ⟨blk_alloc' _ _ _ (by simp),(Below.heap_alloc _ _ _ (by simp)).trans (blk_alloc _ _),hB.alloc (by simp) _⟩
 clear hI hR hB hbool
 go_enter Tryz.func133,Tryz.ntmps133
 go_wp2_with fail
 generalize ((w.alloc (.cells #[.slice ao z.acts.length ac,.slice fo z.fl.length fc,.slice no z.nx.length nc] 36)).alloc (.cells (Array.replicate z.nx.length (.bool false)) 4))=W0 at *
 go_loopw [4] (fun mo wr=> ∃b L,mo= .bool b∧Hid (AL w wr (w.heap.size+1) #[.slice ao z.acts.length ac,.slice fo z.fl.length fc,.slice no z.nx.length nc] L)∧Hid (LvSound z L)∧Hid (b=false→ ∀i,i<z.nx.length→LvShut z L i)) (fun mo wr=>2 * (z.nx.length - cntB wr (w.heap.size+1))+(if isT mo then 1 else 0))
 case atStart=>exact ⟨true,_,rfl,HA0,⟨by simp,fun i hi=>by unfold lv at hi;rw [List.getElem?_replicate] at hi;split at hi<;>cases hi⟩,fun h=>Bool.noConfusion h⟩
 case round=>
  obtain ⟨b,L,rfl,HA,HS,HC⟩:=hrel
  cases b with
  |false=>
   go_wp2_with fail
   go_ret
   exact ⟨⟨w.heap.size+1,L,rfl,(unhide HS).1,(unhide HA).bos,lv_done (unhide HR) (unhide HS) (unhide HC (by first|rfl|trivial))⟩,(unhide HA).bel⟩
  |true=>
   rename World=>wR
   have bc0:wR.cell? ⟨w.heap.size,0,none⟩=some (.slice ao z.acts.length ac):=cell_of_blk (unhide HA).box 0
   have bc1:wR.cell? ⟨w.heap.size,1,none⟩=some (.slice fo z.fl.length fc):=cell_of_blk (unhide HA).box 1
   have bc2:wR.cell? ⟨w.heap.size,2,none⟩=some (.slice no z.nx.length nc):=cell_of_blk (unhide HA).box 2
   have hbl:=lt_of_blk (unhide HA).box
   go_wp2_with fail
   clear bc0 bc1 bc2 hbl
   go_loopw [4,15] (fun mo x wq=> ∃(k:Nat) (b:Bool) (M:List Bool),k≤z.nx.length∧mo= .bool b∧x= .int .i64 k∧Hid (AL w wq (w.heap.size+1) #[.slice ao z.acts.length ac,.slice fo z.fl.length fc,.slice no z.nx.length nc] M)∧Hid (ALr z L M b k)) (fun _ x _=>z.nx.length - (intOf x).toNat)
   case atStart=>exact ⟨0,false,L,Nat.zero_le _,rfl,rfl,HA,⟨unhide HS,fun h=>Bool.noConfusion h,fun _=>⟨rfl,fun i hi=>by omega⟩⟩⟩
   case round=>
    obtain ⟨k,b,M,hk,rfl,rfl,HA',HR'⟩:=hrel
    by_cases hlt:k<z.nx.length
    ·have hkn:(k:Int)<(z.nx.length:Int):=by omega
     have hkf:(k:Int)<(z.fl.length:Int):=by omega
     have hkl:k<z.fl.length:=by omega
     have hkM:k<M.length:=by rw [(unhide HR').s.1];exact hlt
     have bc0:wr.cell? ⟨w.heap.size,0,none⟩=some (.slice ao z.acts.length ac):=cell_of_blk (unhide HA').box 0
     have bc1:wr.cell? ⟨w.heap.size,1,none⟩=some (.slice fo z.fl.length fc):=cell_of_blk (unhide HA').box 1
     have bc2:wr.cell? ⟨w.heap.size,2,none⟩=some (.slice no z.nx.length nc):=cell_of_blk (unhide HA').box 2
     have hbl:=lt_of_blk (unhide HA').box
     have hgl:=lt_of_blk (unhide HA').blk
     have gf:=frozen_of_blk (unhide HA').blk k
     have gc:=(cell_of_blk (unhide HA').blk k).trans (boolC_at M k M[k] (List.getElem?_eq_getElem hkM))
     have HI':=hide ((unhide HI).later (unhide HA').bel)
     obtain ⟨rb,off,ro,rc,hno,hb,hcx,hrr⟩:=(unhide HI').nx k z.nx[k] (List.getElem?_eq_getElem hlt)
     obtain ⟨fb,foff,hfo,hfb,hfc⟩:=(unhide HI').fl k z.fl[k] (List.getElem?_eq_getElem hkl)
     have HX:=hide (List.getElem?_eq_getElem hlt)
     have HY:=hide (List.getElem?_eq_getElem hkl)
     have HZ:=hide (List.getElem?_eq_getElem hkM)
     have hrl:=(unhide HI').rl z.nx[k] (List.getElem_mem hlt)
     have hra:=((unhide HR).rs z.nx[k] (List.getElem_mem hlt)).2
     subst hno
     subst hfo
     generalize z.nx[k]=r at *
     generalize z.fl[k]=f at *
     generalize M[k]=y at *
     rw [←(unhide HR').s.1] at hra
     have HL:=hide (leadsTo_any wr ro rc r (some ⟨w.heap.size+1,0,none⟩) z.nx.length M hrr (unhide HA').bos hra hrl (by rw [(unhide HR').s.1];omega))
     rw [(unhide HR').s.1] at HL
     clear hrr hra
     have hlvk:lv M k=y:=by unfold lv;rw [unhide HZ];rfl
     cases y with
     |true=>
      have HR2:Hid (ALr z L M b (k+1)):=⟨(unhide HR').s,(unhide HR').t,fun e=>⟨((unhide HR').f e).1,fun i hi=>by
       rcases Nat.lt_or_ge i k with h|h
       ·exact ((unhide HR').f e).2 i h
       ·obtain rfl:i=k:=by omega
        intro f' r' _ _ h3
        rw [hlvk] at h3
        cases h3⟩⟩
      clear hlvk
      go_wp2_with fail
      go_roundw
      case rel=>exact ⟨k+1,b,M,by omega,rfl,by go_num,HA',HR2⟩
      case measure=>simp [intOf];omega
     |false=>
      have HCS:=hide (count_set (unhide HZ))
      by_cases hf1:f%2=1
      ·have hand:bits .and .i64 f 1=1:=by rw [and1_i64];exact hf1
       have HS2:Hid (ALr z L (M.set k true) true (k+1)):=⟨(unhide HR').s.set (lives_acc (unhide HY) hf1),fun _=>by
        cases b with
        |true=>exact Nat.lt_trans ((unhide HR').t rfl) (unhide HCS)
        |false=>rw [←((unhide HR').f rfl).1];exact unhide HCS,fun e=>Bool.noConfusion e⟩
       have HA2:=hide ((unhide HA').set k)
       clear hlvk hf1
       go_wp2_with fail
       go_roundw
       case rel=>exact ⟨k+1,true,M.set k true,by omega,rfl,by go_num,HA2,HS2⟩
       case measure=>simp [intOf];omega
      ·have hand:bits .and .i64 f 1=0:=by rw [and1_i64];omega
       generalize hld:(r.any fun x=>lv M x.toNat)=ld at *
       have HLD:=hide hld
       clear hld
       have hf0:f%2=0:=by omega
       have HF0:=hide hf0
       clear hf1 hf0
       go_wp2_with (go_at_call 172;refine (unhide HL).mono ?_)
       rintro e w2 ⟨rfl,hw2⟩
       have h2:=hw2.symm
       clear hw2
       subst h2
       cases ld with
       |true=>
        have HS2:Hid (ALr z L (M.set k true) true (k+1)):=⟨(unhide HR').s.set (lives_go (unhide HR').s (unhide HX) (unhide HLD)),fun _=>by
         cases b with
         |true=>exact Nat.lt_trans ((unhide HR').t rfl) (unhide HCS)
         |false=>rw [←((unhide HR').f rfl).1];exact unhide HCS,fun e=>Bool.noConfusion e⟩
        have HA2:=hide ((unhide HA').set k)
        clear hlvk
        go_wp2_with fail
        go_roundw
        case rel=>exact ⟨k+1,true,M.set k true,by omega,rfl,by go_num,HA2,HS2⟩
        case measure=>simp [intOf];omega
       |false=>
        have HR2:Hid (ALr z L M b (k+1)):=⟨(unhide HR').s,(unhide HR').t,fun e=>⟨((unhide HR').f e).1,fun i hi=>by
         rcases Nat.lt_or_ge i k with h|h
         ·exact ((unhide HR').f e).2 i h
         ·obtain rfl:i=k:=by omega
          intro f' r' h1 h2 _
          rw [unhide HY] at h1
          rw [unhide HX] at h2
          cases h1;cases h2
          exact ⟨unhide HF0,unhide HLD⟩⟩⟩
        clear hlvk
        go_wp2_with fail
        go_roundw
        case rel=>exact ⟨k+1,b,M,by omega,rfl,by go_num,HA',HR2⟩
        case measure=>simp [intOf];omega
    ·have hkn:¬ (k:Int)<(z.nx.length:Int):=by omega
     have hkl:k=z.nx.length:=by omega
     subst hkl
     have HM:Hid (2 * (z.nx.length - cntB wr (w.heap.size+1))+(if isT (.bool b) then 1 else 0)<2 * (z.nx.length - cntB wR (w.heap.size+1))+(if isT (.bool true) then 1 else 0)):=by
      show _<_
      rw [cntB_eq (unhide HA').blk,cntB_eq (unhide HA).blk]
      have h1:=List.count_le_length (a:=true) (l:=M)
      rw [(unhide HR').s.1] at h1
      cases b with
      |true=>
       have:=(unhide HR').t rfl
       simp only [isT,if_true]
       omega
      |false=>
       have:=((unhide HR').f rfl).1
       rw [this]
       simp [isT]
     go_wp2_with fail
     go_roundw
     case rel=>exact ⟨b,M,rfl,HA',(unhide HR').s,fun e i hi=>((unhide HR').f e).2 i hi⟩
     case measure=>exact unhide HM
def FlOk (L:List Bool) (i:Nat) (f:Int):Prop:=0≤f∧f≤3∧(2≤f↔lv L i=true)
theorem flagsOk_iff {z:Tz} {L:List Bool} (h: ∀i,lv L i=true↔Lives (absT z) i):FlagsOk z↔ ∀(i:Nat) (f:Int),z.fl[i]? =some f→FlOk L i f:=by
 unfold FlagsOk FlOk
 constructor
 ·intro k i f hf
  rw [h i]
  exact k i f hf
 ·intro k i f hf
  have:=k i f hf
  rw [h i] at this
  exact this
set_option maxHeartbeats 4000000 in
set_option maxRecDepth 100000 in
theorem rightFlags_any (w:World) (ao fo no:Option Addr) (ac fc nc:Nat) (z:Tz) (hI:TbI w ao fo no ac z) (hR:RowsOk z):
  Calls Tryz.prog 87 #[.agg #[.slice ao z.acts.length ac,.slice fo z.fl.length fc,.slice no z.nx.length nc]] w fun e w'=>TellsB (FlagsOk z) e∧Below w.heap.size w w':=by
 have hB:Below w.heap.size w (w.alloc (.cells #[.slice ao z.acts.length ac,.slice fo z.fl.length fc,.slice no z.nx.length nc] 36)):=(Below.refl _ _).alloc (Nat.le_refl _) _
 have HAL:=hide (alive_any _ ao fo no ac fc nc z (hI.later hB) hR)
 have HBL:=hide (blk_alloc w (.cells #[.slice ao z.acts.length ac,.slice fo z.fl.length fc,.slice no z.nx.length nc] 36))
 have HI:=hide hI
 have HB:=hide hB
 have hl3:=hR.n100
 have hfa:z.fl.length≤z.nx.length:=Nat.le_of_eq hR.fl
 have hfb:z.nx.length≤z.fl.length:=Nat.le_of_eq hR.fl.symm
 clear hI hR hB
 go_enter Tryz.func87,Tryz.ntmps87
 go_wp2_with (go_at_call 133;refine (unhide HAL).mono ?_)
 rintro e w1 ⟨⟨g,L,rfl,hLl,hL,hLv⟩,hb1⟩
 generalize w.alloc (.cells #[.slice ao z.acts.length ac,.slice fo z.fl.length fc,.slice no z.nx.length nc] 36)=W at *
 have hbk:=(hb1.block _ (lt_of_blk (unhide HBL))).trans (unhide HBL)
 have HB1:=hide ((unhide HB).trans (hb1.mono (unhide HB).size))
 have HI1:=hide ((unhide HI).later (unhide HB1))
 have bc0:w1.cell? ⟨w.heap.size,0,none⟩=some (.slice ao z.acts.length ac):=cell_of_blk hbk 0
 have bc1:w1.cell? ⟨w.heap.size,1,none⟩=some (.slice fo z.fl.length fc):=cell_of_blk hbk 1
 have bc2:w1.cell? ⟨w.heap.size,2,none⟩=some (.slice no z.nx.length nc):=cell_of_blk hbk 2
 have hbl:=lt_of_blk hbk
 have HLV:=hide (flagsOk_iff hLv)
 have HL:=hide hL
 have hLa:L.length≤z.nx.length:=by omega
 have hLb:z.nx.length≤L.length:=by omega
 clear hbk hLv hL hLl hb1
 go_wp2_with fail
 go_loopw [9] (fun x wr=> ∃k:Nat,k≤z.nx.length∧x= .int .i64 k∧Hid (w1=wr)∧Hid (∀(i:Nat) (f:Int),i<k→z.fl[i]? =some f→FlOk L i f)) (fun x _=>z.nx.length - (intOf x).toNat)
 case atStart=>exact ⟨0,Nat.zero_le _,rfl,rfl,fun i f hi=>by omega⟩
 case round=>
  obtain ⟨k,hk,rfl,HW,HK⟩:=hrel
  have hw:=unhide HW
  subst hw
  clear HW
  by_cases hlt:k<z.nx.length
  ·have hkn:(k:Int)<(z.nx.length:Int):=by omega
   have hkf:(k:Int)<(z.fl.length:Int):=by omega
   have hkl:k<z.fl.length:=by omega
   have hkM:k<L.length:=by omega
   obtain ⟨fb,foff,rfl,hfb,hfc⟩:=(unhide HI1).fl k z.fl[k] (List.getElem?_eq_getElem hkl)
   obtain ⟨gb,goff,hgo,hgb,hgc⟩:=unhide HL k L[k] (List.getElem?_eq_getElem hkM)
   cases hgo
   rw [Nat.zero_add] at hgc
   have HY:=hide (List.getElem?_eq_getElem hkl)
   have hlvk:lv L k=L[k]:=by unfold lv;rw [List.getElem?_eq_getElem hkM];rfl
   have HLK:=hide hlvk
   clear hlvk
   generalize z.fl[k]=f at *
   generalize L[k]=y at *
   by_cases h0:f<0
   ·have HN:Hid (¬ FlagsOk z):=fun h=>by
     have:=((unhide HLV).1 h k f (unhide HY)).1
     omega
    go_wp2_with fail
    go_ret
    exact ⟨TellsB.no (unhide HN),unhide HB1⟩
   ·by_cases h3:3<f
    ·have HN:Hid (¬ FlagsOk z):=fun h=>by
      have:=((unhide HLV).1 h k f (unhide HY)).2.1
      omega
     go_wp2_with fail
     go_ret
     exact ⟨TellsB.no (unhide HN),unhide HB1⟩
    ·have hand:=and2_i64 (f:=f) (by omega) (by omega)
     by_cases hok:2≤f↔y=true
     ·have HK2:Hid (∀(i:Nat) (f:Int),i<k+1→z.fl[i]? =some f→FlOk L i f):=fun i f' hi hf'=>by
       rcases Nat.lt_or_ge i k with h|h
       ·exact unhide HK i f' h hf'
       ·obtain rfl:i=k:=by omega
        rw [unhide HY] at hf'
        cases hf'
        exact ⟨by omega,by omega,by rw [unhide HLK];exact hok⟩
      cases y with
      |true=>
       rw [if_pos (hok.2 rfl)] at hand
       clear hok
       go_wp2_with fail
       go_roundw
       case rel=>exact ⟨k+1,by omega,by go_num,trivial,HK2⟩
       case measure=>simp [intOf];omega
      |false=>
       rw [if_neg (fun h=>Bool.noConfusion (hok.1 h))] at hand
       clear hok
       go_wp2_with fail
       go_roundw
       case rel=>exact ⟨k+1,by omega,by go_num,trivial,HK2⟩
       case measure=>simp [intOf];omega
     ·have HN:Hid (¬ FlagsOk z):=fun h=>by
       have:=((unhide HLV).1 h k f (unhide HY)).2.2
       rw [unhide HLK] at this
       exact hok this
      cases y with
      |true=>
       rw [if_neg (fun h=>hok ⟨fun _=>rfl,fun _=>h⟩)] at hand
       clear hok
       go_wp2_with fail
       go_ret
       exact ⟨TellsB.no (unhide HN),unhide HB1⟩
      |false=>
       rw [if_pos (by
        apply Classical.byContradiction
        intro h
        exact hok ⟨fun h'=>absurd h' h,fun h'=>Bool.noConfusion h'⟩)] at hand
       clear hok
       go_wp2_with fail
       go_ret
       exact ⟨TellsB.no (unhide HN),unhide HB1⟩
  ·have hkn:¬ (k:Int)<(z.nx.length:Int):=by omega
   go_wp2_with fail
   go_ret
   refine ⟨TellsB.yes ((unhide HLV).2 fun i f hf=>unhide HK i f ?_ hf),unhide HB1⟩
   have:=(List.getElem?_eq_some_iff.1 hf).1
   omega
set_option maxHeartbeats 4000000 in
set_option maxRecDepth 100000 in
theorem Right_any (w:World) (ao fo no:Option Addr) (ac fc nc:Nat) (z:Tz) (hI:TbI w ao fo no ac z) (hG:GV w):
  Calls Tryz.prog 45 #[.agg #[.slice ao z.acts.length ac,.slice fo z.fl.length fc,.slice no z.nx.length nc]] w fun e w'=>TellsB (RightZ z) e∧Below w.heap.size w w':=by
 have hB:Below w.heap.size w (w.alloc (.cells #[.slice ao z.acts.length ac,.slice fo z.fl.length fc,.slice no z.nx.length nc] 36)):=(Below.refl _ _).alloc (Nat.le_refl _) _
 have HBL:=hide (blk_alloc w (.cells #[.slice ao z.acts.length ac,.slice fo z.fl.length fc,.slice no z.nx.length nc] 36))
 have HA:=hide (rightActs_any _ ao ac z.acts ((hI.later hB).acts) hI.ac (hG.later hB) hI.al)
 have HI:=hide hI
 have HB:=hide hB
 have HZ:=hide (right_iff z)
 clear hI hB hG
 go_enter Tryz.func45,Tryz.ntmps45
 go_wp2_with (go_at_call 85;refine (unhide HA).mono ?_)
 rintro e w1 ⟨⟨b1,rfl,h1⟩,hb1⟩
 generalize w.alloc (.cells #[.slice ao z.acts.length ac,.slice fo z.fl.length fc,.slice no z.nx.length nc] 36)=W at *
 have hbk:=(hb1.block _ (lt_of_blk (unhide HBL))).trans (unhide HBL)
 have HBK:=hide hbk
 have HB1:=hide ((unhide HB).trans (hb1.mono (unhide HB).size))
 clear hb1
 have bc0:w1.cell? ⟨w.heap.size,0,none⟩=some (.slice ao z.acts.length ac):=cell_of_blk hbk 0
 have bc1:w1.cell? ⟨w.heap.size,1,none⟩=some (.slice fo z.fl.length fc):=cell_of_blk hbk 1
 have bc2:w1.cell? ⟨w.heap.size,2,none⟩=some (.slice no z.nx.length nc):=cell_of_blk hbk 2
 have hbl:=lt_of_blk hbk
 clear hbk
 have HI1:=hide ((unhide HI).later (unhide HB1))
 cases b1 with
 |false=>
  have HN:Hid (¬ RightZ z):=fun h=>Bool.noConfusion (h1.2 ((unhide HZ).1 h).1)
  clear h1
  go_wp2_with fail
  go_ret
  exact ⟨TellsB.no (unhide HN),unhide HB1⟩
 |true=>
  have H1:=hide (h1.1 rfl)
  clear h1
  go_wp2_with (go_at_call 86;refine (rightRows_any w1 ao fo no ac fc nc z (unhide HI1)).mono ?_)
  rintro e w2 ⟨⟨b2,rfl,h2⟩,hb2⟩
  have hbk:=(hb2.block _ (lt_of_blk (unhide HBK))).trans (unhide HBK)
  have HB2:=hide ((unhide HB1).trans (hb2.mono (unhide HB1).size))
  clear hb2 bc0 bc1 bc2 hbl
  have bc0:w2.cell? ⟨w.heap.size,0,none⟩=some (.slice ao z.acts.length ac):=cell_of_blk hbk 0
  have bc1:w2.cell? ⟨w.heap.size,1,none⟩=some (.slice fo z.fl.length fc):=cell_of_blk hbk 1
  have bc2:w2.cell? ⟨w.heap.size,2,none⟩=some (.slice no z.nx.length nc):=cell_of_blk hbk 2
  have hbl:=lt_of_blk hbk
  clear hbk
  have HI2:=hide ((unhide HI).later (unhide HB2))
  cases b2 with
  |false=>
   have HN:Hid (¬ RightZ z):=fun h=>Bool.noConfusion (h2.2 ((unhide HZ).1 h).2.1)
   clear h2
   go_wp2_with fail
   go_ret
   exact ⟨TellsB.no (unhide HN),unhide HB2⟩
  |true=>
   have H2:=hide (h2.1 rfl)
   clear h2
   go_wp2_with (go_at_call 87;refine (rightFlags_any w2 ao fo no ac fc nc z (unhide HI2) (unhide H2)).mono ?_)
   rintro e w3 ⟨⟨b3,rfl,h3⟩,hb3⟩
   have HB3:=hide ((unhide HB2).trans (hb3.mono (unhide HB2).size))
   clear hb3 bc0 bc1 bc2 hbl
   have H3:Hid (b3=true↔RightZ z):=by
    show _↔_
    rw [h3,unhide HZ]
    exact ⟨fun h=>⟨unhide H1,unhide H2,h⟩,fun h=>h.2.2⟩
   clear h3
   go_wp2_with fail
   go_ret
   exact ⟨⟨b3,rfl,unhide H3⟩,unhide HB3⟩
end Go.Proofs.YtidakhhekofkoaaGreatDoor
