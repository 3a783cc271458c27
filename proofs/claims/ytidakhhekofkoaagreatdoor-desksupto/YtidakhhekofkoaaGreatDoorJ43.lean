/- events: raw numbers as activities. -/
import Derived.Test.YtidakhhekofkoaaGreatDoorJ31
import Derived.Test.YtidakhhekofkoaaGreatDoorJ42
import Derived.Laws.AppendOwnNone
import Derived.Test.YtidakhhekofkoaaGreatDoorJ28
import Derived.Test.YtidakhhekofkoaaGreatDoorJ19
import Derived.Test.YtidakhhekofkoaaGreatDoorJ05
import Derived.Test.YtidakhhekofkoaaGreatDoorJ21
set_option linter.unusedSimpArgs false
set_option linter.unusedVariables false
namespace Go.Proofs.YtidakhhekofkoaaGreatDoor
open Go.RowKit Go.Deep
def nmT (t:Tb) (a:Nat):ByteArray:=(t.acts[a]?).getD ⟨#[]⟩
theorem own_base {w:World} {base e n:Nat} {v:Value} {xs:List Value} (h:w.ownsRow base e 1 v n xs) {b:Nat} (hb:v.ownBlock=some b):base≤b:=by
 obtain ⟨_,⟨h1,_⟩|⟨g',cap,cur,hv,hbg,_⟩⟩:=h
 ·rw [h1] at hb;cases hb
 ·rw [hv] at hb;cases hb;exact hbg
theorem bytes_ne {x y:ByteArray} (h:x≠y):(x.toList==y.toList)=false:=beq_eq_false_iff_ne.2 fun e=>h (by
 apply byte_inj
 rw [ByteArray.toList_eq,ByteArray.toList_eq] at e
 exact e)
def csC (cs:List Cs):List Value:=cs.flatMap fun c=>[.string c.id,.int .i64 (c.st:Int),.int .i64 (c.ev:Int)]
theorem csC_at: ∀{cs:List Cs} {i:Nat} {c:Cs},cs[i]? =some c→(csC cs)[i * 3]? =some (.string c.id)∧(csC cs)[i * 3+1]? =some (.int .i64 (c.st:Int))∧(csC cs)[i * 3+2]? =some (.int .i64 (c.ev:Int))
 |[],i,c,h=>by simp at h
 |x::cs,0,c,h=>by
  have:x=c:=by simpa using h
  subst this
  exact ⟨rfl,rfl,rfl⟩
 |x::cs,i+1,c,h=>by
  have h':cs[i]? =some c:=by simpa using h
  have ih:=csC_at h'
  have e:csC (x::cs)=[.string x.id,.int .i64 (x.st:Int),.int .i64 (x.ev:Int)]++csC cs:=rfl
  rw [e]
  refine ⟨?_, ?_, ?_⟩
  ·rw [List.getElem?_append_right (by simp;omega)];simpa [Nat.add_mul] using ih.1
  ·rw [List.getElem?_append_right (by simp;omega)]
   have:(i+1) * 3+1 - [Value.string x.id,.int .i64 (x.st:Int),.int .i64 (x.ev:Int)].length=i * 3+1:=by simp;omega
   rw [this];exact ih.2.1
  ·rw [List.getElem?_append_right (by simp;omega)]
   have:(i+1) * 3+2 - [Value.string x.id,.int .i64 (x.st:Int),.int .i64 (x.ev:Int)].length=i * 3+2:=by simp;omega
   rw [this];exact ih.2.2
theorem csC_len (cs:List Cs):(csC cs).length=cs.length * 3:=by
 induction cs with
 |nil=>rfl
 |cons x cs ih=>show (_++csC cs).length=_;rw [List.length_append,ih,List.length_cons];simp;omega
theorem case_at {w:World} {base n k i:Nat} {o:Option Addr} {cs:List Cs} (h:w.ownsRow base 247 3 (.slice o n k) n (csC cs)) {c:Cs} (hc:cs[i]? =some c):
  ∃g,o=some ⟨g,0,none⟩∧g<w.heap.size∧base≤g∧w.cell? ⟨g,i * 3,none⟩=some (.string c.id)∧w.cell? ⟨g,i * 3+1,none⟩=some (.int .i64 (c.st:Int))∧w.cell? ⟨g,i * 3+2,none⟩=some (.int .i64 (c.ev:Int)):=by
 have hi:=(List.getElem?_eq_some_iff.1 hc).1
 obtain ⟨hl,⟨h1,h2⟩|⟨g,cap,cur,hv,hb,hrow,hle,_,hcs,htake⟩⟩:=h
 ·rw [csC_len] at hl
  omega
 ·cases hv
  have hn:cs.length=n:=by rw [csC_len] at hl;omega
  have hcell: ∀m v,(csC cs)[m]? =some v→w.cell? ⟨g,m,none⟩=some v:=fun m v hm=>by
   have hml:m<n * 3:=by have:=(List.getElem?_eq_some_iff.1 hm).1;rw [csC_len,hn] at this;exact this
   rw [cell_of_blk hrow,←Array.getElem?_toList]
   rw [←htake,List.getElem?_take_of_lt hml] at hm
   exact hm
  obtain ⟨e1,e2,e3⟩:=csC_at hc
  exact ⟨g,rfl,lt_of_blk hrow,hb,hcell _ _ e1,hcell _ _ e2,hcell _ _ e3⟩
def DrS (rd:Nat) (lo:Option Addr) (k:Nat):Prop:=k=rd∨lo=some ⟨k,0,none⟩
structure DrP (w:World) (base rd:Nat) (t:Tb) (cs:List Cs) (A n ab a0 fb f0 nb n0 ac fc nc:Nat) (rb ro rc:Nat→Nat) (lo:Option Addr) (lc:Nat):Prop where
 blk:w.heap[rd]? =some (.cells #[.slice (some ⟨ab,a0,none⟩) A ac,.slice (some ⟨fb,f0,none⟩) n fc,.slice (some ⟨nb,n0,none⟩) n nc,.slice lo cs.length lc] 245 (0,0))
 tb:TbL w t A n ab a0 fb f0 nb n0 rb ro rc
 ls:w.ownsRow base 247 3 (.slice lo cs.length lc) cs.length (csC cs)
 nd:(cs.map (·.id)).Nodup
 st: ∀c∈cs,c.st<n
 few:cs.length≤8
 sep: ∀k,DrS rd lo k→k≠ab∧k≠fb∧k≠nb∧ ∀i,i<n→k≠rb i
theorem DrP.later {w w':World} {base rd:Nat} {t:Tb} {cs:List Cs} {A n ab a0 fb f0 nb n0 ac fc nc:Nat} {rb ro rc:Nat→Nat} {lo:Option Addr} {lc:Nat} (h:DrP w base rd t cs A n ab a0 fb f0 nb n0 ac fc nc rb ro rc lo lc) (hb:Below w.heap.size w w'):DrP w' base rd t cs A n ab a0 fb f0 nb n0 ac fc nc rb ro rc lo lc:=
 ⟨(hb.block _ (lt_of_blk h.blk)).trans h.blk,h.tb.later hb,owns_later h.ls hb,h.nd,h.st,h.few,h.sep⟩
def FindP (cs:List Cs) (id:ByteArray) (e:Ending):Prop:=
 (csAt cs id=none∧e= .returned (.int .i64 (-1)))∨ ∃(i:Nat) (c:Cs),cs[i]? =some c∧csAt cs id=some c∧c.id=id∧e= .returned (.int .i64 (i:Int))
set_option maxHeartbeats 2000000 in
set_option maxRecDepth 100000 in
theorem dfind_any (w:World) (base rd:Nat) (t:Tb) (cs:List Cs) (A n ab a0 fb f0 nb n0 ac fc nc:Nat) (rb ro rc:Nat→Nat) (lo:Option Addr) (lc:Nat) (hD:DrP w base rd t cs A n ab a0 fb f0 nb n0 ac fc nc rb ro rc lo lc) (id:ByteArray):
  Calls Tryz.prog 148 #[.pointer (some ⟨rd,0,none⟩),.string id] w fun e w'=>FindP cs id e∧w'=w:=by
 have c3:=cell_of_blk hD.blk 3
 have l0:=lt_of_blk hD.blk
 have hfew:=hD.few
 have HD:=hide hD
 clear hD
 go_enter Tryz.func148,Tryz.ntmps148
 go_wp2_with fail
 go_loopw [5] (fun x wr=> ∃k:Nat,k≤cs.length∧x= .int .i64 k∧Hid (w=wr)∧Hid (∀c∈cs.take k,c.id≠id)) (fun x _=>cs.length - (intOf x).toNat)
 case atStart=>exact ⟨0,Nat.zero_le _,rfl,rfl,fun c hc=>(List.not_mem_nil hc).elim⟩
 case round=>
  obtain ⟨k,hk,rfl,HW,HK⟩:=hrel
  have hw:=unhide HW
  subst hw
  clear HW
  by_cases hlt:k<cs.length
  ·have hkn:(k:Int)<(cs.length:Int):=by omega
   obtain ⟨g,rfl,hgl,_,hg0,_,_⟩:=case_at (unhide HD).ls (List.getElem?_eq_getElem hlt:cs[k]? =some cs[k])
   have HX:=hide (List.getElem?_eq_getElem hlt:cs[k]? =some cs[k])
   generalize cs[k]=c at *
   by_cases he:c.id=id
   ·have HF:Hid (csAt cs id=some c):=by
     have:=csAt_mem (unhide HD).nd (List.mem_of_getElem? (unhide HX))
     rw [he] at this
     exact this
    have HE:=hide he
    rw [he] at hg0
    clear he
    go_wp2_with fail
    refine bodyPost_ret (v:= .int .i64 (k:Int)) (by simp [results,Tryz.results148,go_sem]) rfl ?_
    exact ⟨Or.inr ⟨k,c,unhide HX,unhide HF,unhide HE,rfl⟩,rfl⟩
   ·have hne:=bytes_ne he
    have HK2:Hid (∀c∈cs.take (k+1),c.id≠id):=fun q hq=>by
     rw [List.take_add_one,unhide HX] at hq
     rcases List.mem_append.1 hq with h|h
     ·exact unhide HK q h
     ·have:q=c:=by simpa using h
      rw [this];exact he
    clear he
    go_wp2_with fail
    go_roundw
    case rel=>exact ⟨k+1,by omega,by go_num,trivial,HK2⟩
    case measure=>simp [intOf];omega
  ·have hkn:¬ (k:Int)<(cs.length:Int):=by omega
   have HN:Hid (csAt cs id=none):=by
    have h1:=unhide HK
    rw [List.take_of_length_le (by omega)] at h1
    show _=_
    unfold csAt
    rw [List.find?_eq_none]
    intro c hc
    simpa using h1 c hc
   go_wp2_with fail
   refine bodyPost_ret (v:= .int .i64 (-1)) (by simp [results,Tryz.results148,go_sem]) rfl ?_
   exact ⟨Or.inl ⟨unhide HN,rfl⟩,rfl⟩
def natT (z:Tz):Tb:=⟨z.acts,z.fl.map Int.toNat,z.nx.map fun r=>r.map Int.toNat⟩
structure StZ (z:Tz):Prop where
 fl: ∀f∈z.fl,0≤f∧f≤3
 rs: ∀r∈z.nx,r.length=z.acts.length∧ ∀x∈r,0≤x∧x<(z.nx.length:Int)
theorem natT_z {z:Tz} (h:StZ z):(natT z).z=z:=by
 refine Tz.ext' rfl (z_toNat fun x hx=>(h.fl x hx).1) ?_
 show (z.nx.map fun r=>r.map Int.toNat).map zI=z.nx
 rw [List.map_map]
 conv=>rhs;rw [←List.map_id z.nx]
 exact List.map_congr_left fun r hr=>z_toNat fun x hx=>((h.rs r hr).2 x hx).1
theorem natT_sh {z:Tz} (h:StZ z) (hA1:1≤z.acts.length) (hA6:z.acts.length≤6) (hn1:1≤z.nx.length) (hn:z.nx.length≤100) (hf:z.fl.length=z.nx.length):ShT (natT z) z.acts.length z.nx.length:=by
 refine ⟨rfl,by unfold natT;simp,by unfold natT;simp [hf],hA1,hA6,hn1,hn,fun r hr=> ?_⟩
 have hr':r∈z.nx.map fun r=>r.map Int.toNat:=hr
 obtain ⟨q,hq,rfl⟩:=List.mem_map.1 hr'
 obtain ⟨h1,h2⟩:=h.rs q hq
 refine ⟨by rw [List.length_map];exact h1,fun x hx=> ?_⟩
 obtain ⟨y,hy,rfl⟩:=List.mem_map.1 hx
 have:=h2 y hy
 omega
theorem tbk_of {W:World} {ao fo no:Option Addr} {ac:Nat} {t:Tb} {A n:Nat} (h:TbI W ao fo no ac t.z) (hS:ShT t A n):
  ∃fb f0 nb n0 rb ro rc,fo=some ⟨fb,f0,none⟩∧no=some ⟨nb,n0,none⟩∧TbK W t A n fb f0 nb n0 rb ro rc:=by
 have hA:=hS.A1
 have hn:=hS.n1
 have hnl:=hS.hn
 have hfl:=hS.hf
 have hzf: ∀i,i<n→t.z.fl[i]? =some (flT t i:Int):=fun i hi=>by
  show (zI t.fl)[i]? =_
  unfold zI flT
  rw [List.getElem?_map,List.getElem?_eq_getElem (show i<t.fl.length by omega)]
  rfl
 have hzr: ∀i,i<n→ ∃r,t.nx[i]? =some r∧r.length=A∧t.z.nx[i]? =some (zI r):=fun i hi=>by
  have hi':i<t.nx.length:=by omega
  refine ⟨t.nx[i],List.getElem?_eq_getElem hi',(hS.rs _ (List.getElem_mem hi')).1, ?_⟩
  show (t.nx.map zI)[i]? =_
  rw [List.getElem?_map,List.getElem?_eq_getElem hi']
  rfl
 obtain ⟨fb,f0,rfl,hfl',_⟩:=h.fl 0 _ (hzf 0 (by omega))
 obtain ⟨r0,_,_,hr0⟩:=hzr 0 (by omega)
 obtain ⟨nb,n0,_,_,rfl,hnl',_,_⟩:=h.nx 0 _ hr0
 have hrow: ∀i,∃p:Nat × Nat × Nat,i<n→W.cell? ⟨nb,n0+i,none⟩=some (.slice (some ⟨p.1,p.2.1,none⟩) A p.2.2)∧p.1<W.heap.size∧ ∀a,a<A→W.cell? ⟨p.1,p.2.1+a,none⟩=some (.int .i64 (nxT t i a:Int)):=fun i=>by
  by_cases hi:i<n
  ·obtain ⟨r,h1,h2,h3⟩:=hzr i hi
   obtain ⟨b,off,ro,rc,e1,_,e3,e4⟩:=h.nx i _ h3
   cases e1
   have hget: ∀a,a<A→(zI r)[a]? =some (nxT t i a:Int):=fun a ha=>by
    unfold zI nxT
    rw [List.getElem?_map,h1,List.getElem?_eq_getElem (show a<r.length by omega)]
    simp only [Option.getD_some,Option.map_some]
    rw [List.getElem?_eq_getElem (show a<r.length by omega)]
    rfl
   obtain ⟨qb,q0,rfl,hql,_⟩:=e4 0 _ (hget 0 (by omega))
   refine ⟨(qb,q0,rc),fun _=>⟨?_,hql,fun a ha=> ?_⟩⟩
   ·rw [e3]
    have:(zI r).length=A:=by unfold zI;rw [List.length_map];exact h2
    rw [this]
   ·obtain ⟨b',off',e5,_,e6⟩:=e4 a _ (hget a ha)
    cases e5
    exact e6
  ·exact ⟨(0,0,0),fun h=>absurd h hi⟩
 have hch:=fun i=>Classical.choose_spec (hrow i)
 refine ⟨fb,f0,nb,n0,fun i=>(Classical.choose (hrow i)).1,fun i=>(Classical.choose (hrow i)).2.1,fun i=>(Classical.choose (hrow i)).2.2,rfl,rfl,⟨hS,fun i hi=> ?_,fun i hi=>(hch i hi).1,fun i a hi ha=>(hch i hi).2.2 a ha,hfl',hnl',fun i hi=>(hch i hi).2.1⟩⟩
 obtain ⟨b,off,e1,_,e3⟩:=h.fl i _ (hzf i hi)
 cases e1
 exact e3
structure NmI (l:List ByteArray) (i:Nat):Prop where
 nm: ∀a∈l.take i,NmOk a
 nd:(l.take i).Nodup
theorem NmI.next {l:List ByteArray} {i:Nat} {s:ByteArray} (h:NmI l i) (hs:l[i]? =some s) (hn:NmOk s) (hd:s∉l.take i):NmI l (i+1):=by
 have e:l.take (i+1)=l.take i++[s]:=by rw [List.take_add_one,hs];rfl
 refine ⟨fun a ha=> ?_, ?_⟩
 ·rw [e] at ha
  rcases List.mem_append.1 ha with ha|ha
  ·exact h.nm a ha
  ·rw [List.mem_singleton.1 ha];exact hn
 ·rw [e,List.nodup_append]
  exact ⟨h.nd,by simp,fun x hx y hy e=>by
   rw [List.mem_singleton.1 hy] at e
   exact hd (e▸hx)⟩
set_option maxHeartbeats 16000000 in
set_option maxRecDepth 100000 in
theorem RightR_any (w:World) (ao fo no:Option Addr) (ac fc nc:Nat) (z:Tz) (hI:TbI w ao fo no ac z):
  Calls Tryz.prog 146 #[.agg #[.slice ao z.acts.length ac,.slice fo z.fl.length fc,.slice no z.nx.length nc]] w fun e w'=>TellsB (RightZ z) e∧Below w.heap.size w w':=by
 have H0:=hide (OnB.start w #[.slice ao z.acts.length ac,.slice fo z.fl.length fc,.slice no z.nx.length nc])
 have HI:=hide hI
 have HZ:=hide (right_iff z)
 have hl1:=hI.al
 have hl2:=hI.fll
 have hl3:=hI.nxl
 clear hI
 have c0:=cell_of_blk (unhide H0).b0 0
 have c1:=cell_of_blk (unhide H0).b0 1
 have c2:=cell_of_blk (unhide H0).b0 2
 have l0:=lt_of_blk (unhide H0).b0
 by_cases hA1:1≤z.acts.length
 case neg=>
  have HN:Hid (¬ RightZ z):=fun h=>hA1 ((unhide HZ).1 h).1.n1
  have hi1:(z.acts.length:Int)<1:=by omega
  go_enter Tryz.func146,Tryz.ntmps146
  go_wp2_with fail
  refine bodyPost_ret (v:= .bool false) (by simp [results,Tryz.results146,go_sem]) rfl ?_
  exact ⟨TellsB.no (unhide HN),(unhide H0).bel⟩
 have hi1:¬ (z.acts.length:Int)<1:=by omega
 by_cases hA6:z.acts.length≤6
 case neg=>
  have HN:Hid (¬ RightZ z):=fun h=>hA6 ((unhide HZ).1 h).1.n6
  have hi2:6<(z.acts.length:Int):=by omega
  go_enter Tryz.func146,Tryz.ntmps146
  go_wp2_with fail
  refine bodyPost_ret (v:= .bool false) (by simp [results,Tryz.results146,go_sem]) rfl ?_
  exact ⟨TellsB.no (unhide HN),(unhide H0).bel⟩
 have hi2:¬ 6<(z.acts.length:Int):=by omega
 by_cases hn1:1≤z.fl.length
 case neg=>
  have HN:Hid (¬ RightZ z):=fun h=>hn1 (by have h2:=((unhide HZ).1 h).2.1;rw [h2.fl];exact h2.n1)
  have hi3:(z.fl.length:Int)<1:=by omega
  go_enter Tryz.func146,Tryz.ntmps146
  go_wp2_with fail
  refine bodyPost_ret (v:= .bool false) (by simp [results,Tryz.results146,go_sem]) rfl ?_
  exact ⟨TellsB.no (unhide HN),(unhide H0).bel⟩
 have hi3:¬ (z.fl.length:Int)<1:=by omega
 by_cases hn100:z.fl.length≤100
 case neg=>
  have HN:Hid (¬ RightZ z):=fun h=>hn100 (by have h2:=((unhide HZ).1 h).2.1;rw [h2.fl];exact h2.n100)
  have hi4:100<(z.fl.length:Int):=by omega
  go_enter Tryz.func146,Tryz.ntmps146
  go_wp2_with fail
  refine bodyPost_ret (v:= .bool false) (by simp [results,Tryz.results146,go_sem]) rfl ?_
  exact ⟨TellsB.no (unhide HN),(unhide H0).bel⟩
 have hi4:¬ 100<(z.fl.length:Int):=by omega
 by_cases hfn:z.nx.length=z.fl.length
 case neg=>
  have HN:Hid (¬ RightZ z):=fun h=>hfn (((unhide HZ).1 h).2.1).fl.symm
  have hi5:¬ (z.nx.length:Int)=(z.fl.length:Int):=by omega
  go_enter Tryz.func146,Tryz.ntmps146
  go_wp2_with fail
  refine bodyPost_ret (v:= .bool false) (by simp [results,Tryz.results146,go_sem]) rfl ?_
  exact ⟨TellsB.no (unhide HN),(unhide H0).bel⟩
 rw [hfn] at c2 H0⊢
 have HFN:=hide hfn
 clear hfn hl3
 obtain ⟨n,hn⟩: ∃n,z.fl.length=n:=⟨_,rfl⟩
 obtain ⟨A,hA⟩: ∃A,z.acts.length=A:=⟨_,rfl⟩
 rw [hn,hA] at H0 c0 c1 c2⊢
 rw [hn] at hn1 hn100 hl2 hi3 hi4 HFN
 rw [hA] at hA1 hA6 hl1 hi1 hi2
 have HNF:=hide hn
 have HAF:=hide hA
 clear hn hA
 go_enter Tryz.func146,Tryz.ntmps146
 go_wp2_with fail
 clear c0 c1 c2 l0
 generalize w.alloc (.cells #[.slice ao A ac,.slice fo n fc,.slice no n nc] 36)=W0 at *
 go_loopw [4] (fun x wr=> ∃i:Nat,i≤A∧x= .int .i64 i∧Hid (OnB w wr #[.slice ao A ac,.slice fo n fc,.slice no n nc])∧Hid (NmI z.acts i)) (fun x _=>A - (intOf x).toNat)
 case atStart=>exact ⟨0,Nat.zero_le _,rfl,H0,⟨fun a ha=>by simp at ha,by simp⟩⟩
 case round=>
  obtain ⟨i,hi,rfl,H1,HM⟩:=hrel
  have c0:=cell_of_blk (unhide H1).b0 0
  have l0:=lt_of_blk (unhide H1).b0
  by_cases hil:i<A
  ·have hin:(i:Int)<(A:Int):=by omega
   have hia:i<z.acts.length:=by rw [unhide HAF];exact hil
   obtain ⟨b,off,rfl,hbl,hbc⟩:=((unhide HI).later (unhide H1).bel).acts i z.acts[i] (List.getElem?_eq_getElem hia)
   have HX:=hide (List.getElem?_eq_getElem hia:z.acts[i]? =some z.acts[i])
   generalize z.acts[i]=s at *
   have HRi:Hid (RightZ z→NmOk s∧s∉z.acts.take i):=fun h=>by
    have h1:=((unhide HZ).1 h).1
    refine ⟨h1.nm s (List.mem_of_getElem? (unhide HX)),fun hm=> ?_⟩
    obtain ⟨j,hj⟩:=List.mem_iff_getElem?.1 hm
    have hji:j<i:=by have:=(List.getElem?_eq_some_iff.1 hj).1;rw [List.length_take] at this;omega
    rw [List.getElem?_take_of_lt hji] at hj
    have:=(List.getElem?_inj (show j<z.acts.length by omega) h1.nd).1 (hj.trans (unhide HX).symm)
    omega
   have HWD:=hide (word_any s wr)
   by_cases hs1:1≤s.size
   case neg=>
    have HN:Hid (¬ RightZ z):=fun h=>hs1 ((unhide HRi h).1).n1
    have hj1:(s.size:Int)<1:=by omega
    go_wp2_with fail
    refine (unhide HWD).mono ?_
    rintro e w' ⟨rfl,hw'⟩
    subst hw'
    go_wp2_with fail
    refine bodyPost_ret (v:= .bool false) (by simp [results,Tryz.results146,go_sem]) rfl ?_
    exact ⟨TellsB.no (unhide HN),(unhide H1).bel⟩
   have hj1:¬ (s.size:Int)<1:=by omega
   by_cases hs8:s.size≤8
   case neg=>
    have HN:Hid (¬ RightZ z):=fun h=>hs8 ((unhide HRi h).1).n8
    have hj2:8<(s.size:Int):=by omega
    go_wp2_with fail
    refine (unhide HWD).mono ?_
    rintro e w' ⟨rfl,hw'⟩
    subst hw'
    go_wp2_with fail
    refine bodyPost_ret (v:= .bool false) (by simp [results,Tryz.results146,go_sem]) rfl ?_
    exact ⟨TellsB.no (unhide HN),(unhide H1).bel⟩
   have hj2:¬ 8<(s.size:Int):=by omega
   cases hwd:isWord s.data.toList with
   |true=>
    have HN:Hid (¬ RightZ z):=fun h=>by have:=((unhide HRi h).1).wd;rw [hwd] at this;cases this
    rw [hwd] at HWD
    clear hwd
    go_wp2_with fail
    refine (unhide HWD).mono ?_
    rintro e w' ⟨rfl,hw'⟩
    subst hw'
    go_wp2_with fail
    refine bodyPost_ret (v:= .bool false) (by simp [results,Tryz.results146,go_sem]) rfl ?_
    exact ⟨TellsB.no (unhide HN),(unhide H1).bel⟩
   |false=>
    rw [hwd] at HWD
    have HWS:=hide hwd
    clear hwd
    go_wp2_with fail
    refine (unhide HWD).mono ?_
    rintro e w' ⟨rfl,hw'⟩
    subst hw'
    clear HWD
    go_wp2_with fail
    rename World=>wR
    go_loopw [7] (fun x wr=> ∃k:Nat,k≤s.size∧x= .int .i64 k∧Hid (wr=wR)∧Hid (∀j (h:j<s.size),j<k→isLet s[j]=true)) (fun x _=>s.size - (intOf x).toNat)
    case atStart=>exact ⟨0,Nat.zero_le _,rfl,rfl,fun j _ h=>absurd h (Nat.not_lt_zero j)⟩
    case round=>
     obtain ⟨k,hk,rfl,HWe,HLe⟩:=hrel
     have hwe:=unhide HWe
     subst hwe
     clear HWe
     by_cases hks:k<s.size
     ·have hki:(k:Int)<(s.size:Int):=by omega
      have HLT:=hide (letter_any s[k] wr)
      cases hlt:isLet s[k] with
      |true=>
       rw [hlt] at HLT
       have HL2:Hid (∀j (h:j<s.size),j<k+1→isLet s[j]=true):=fun j h hj=>by
        by_cases e:j=k
        ·subst e;exact hlt
        ·exact unhide HLe j h (by omega)
       clear hlt
       go_wp2_with fail
       refine (unhide HLT).mono ?_
       rintro e w' ⟨rfl,hw'⟩
       subst hw'
       clear HLT
       go_wp2_with fail
       go_roundw
       case rel=>exact ⟨k+1,by omega,by go_num,trivial,HL2⟩
       case measure=>simp [intOf];omega
      |false=>
       rw [hlt] at HLT
       have HN:Hid (¬ RightZ z):=fun h=>by
        have h1:=((unhide HRi h).1).lt s[k] (by
         show s.data[k]∈s.data.toList
         exact Array.getElem_mem_toList _)
        rw [hlt] at h1
        cases h1
       clear hlt
       go_wp2_with fail
       refine (unhide HLT).mono ?_
       rintro e w' ⟨rfl,hw'⟩
       subst hw'
       clear HLT
       go_wp2_with fail
       refine bodyPost_ret (v:= .bool false) (by simp [results,Tryz.results146,go_sem]) rfl ?_
       exact ⟨TellsB.no (unhide HN),(unhide H1).bel⟩
     ·have hki:¬ (k:Int)<(s.size:Int):=by omega
      have HNO:Hid (NmOk s):=⟨hs1,hs8,fun c hc=>by
       obtain ⟨j,hj,rfl⟩:=List.getElem_of_mem hc
       have hj':j<s.size:=by rw [Array.length_toList] at hj;exact hj
       have:=unhide HLe j hj' (by omega)
       rw [Array.getElem_toList]
       exact this,unhide HWS⟩
      go_wp2_with fail
      rename World=>wQ
      go_loopw [9] (fun x wr=> ∃k:Nat,k≤i∧x= .int .i64 k∧Hid (wr=wQ)∧Hid (s∉z.acts.take k)) (fun x _=>i - (intOf x).toNat)
      case atStart=>exact ⟨0,Nat.zero_le _,rfl,rfl,fun h=>List.not_mem_nil h⟩
      case round=>
       obtain ⟨k,hk,rfl,HWe,HNI⟩:=hrel
       have hwe:=unhide HWe
       subst hwe
       clear HWe
       by_cases hks:k<i
       ·have hki:(k:Int)<(i:Int):=by omega
        have hkA:(k:Int)<(A:Int):=by omega
        have hka:k<z.acts.length:=by omega
        obtain ⟨b2,off2,e2,hbl2,hbc2⟩:=((unhide HI).later (unhide H1).bel).acts k z.acts[k] (List.getElem?_eq_getElem hka)
        cases e2
        have HX2:=hide (List.getElem?_eq_getElem hka:z.acts[k]? =some z.acts[k])
        generalize z.acts[k]=s2 at *
        by_cases he:s2=s
        ·have HN:Hid (¬ RightZ z):=fun h=>(unhide HRi h).2 (by
          refine List.mem_of_getElem? (i:=k) ?_
          rw [List.getElem?_take_of_lt hks,unhide HX2,he])
         subst he
         go_wp2_with fail
         refine bodyPost_ret (v:= .bool false) (by simp [results,Tryz.results146,go_sem]) rfl ?_
         exact ⟨TellsB.no (unhide HN),(unhide H1).bel⟩
        ·have hne:=bytes_ne he
         have HNI2:Hid (s∉z.acts.take (k+1)):=by
          show ¬ _
          rw [List.take_add_one,unhide HX2,List.mem_append]
          rintro (h|h)
          ·exact unhide HNI h
          ·exact he (by simpa using h:s=s2).symm
         clear he
         go_wp2_with fail
         go_roundw
         case rel=>exact ⟨k+1,by omega,by go_num,trivial,HNI2⟩
         case measure=>simp [intOf];omega
       ·have hki:¬ (k:Int)<(i:Int):=by omega
        have hke:i=k:=by omega
        subst hke
        have HM2:=hide ((unhide HM).next (unhide HX) (unhide HNO) (unhide HNI))
        go_wp2_with fail
        go_roundw
        case rel=>exact ⟨i+1,by omega,by go_num,H1,HM2⟩
        case measure=>simp [intOf];omega
  ·have hin:¬ (i:Int)<(A:Int):=by omega
   have HAO:Hid (ActsOk z.acts):=by
    have h1:=unhide HM
    have h2:z.acts.take i=z.acts:=List.take_of_length_le (by rw [unhide HAF];omega)
    exact ⟨by rw [unhide HAF];exact hA1,by rw [unhide HAF];exact hA6,fun a ha=>h1.nm a (by rw [h2];exact ha),by have:=h1.nd;rw [h2] at this;exact this⟩
   go_wp2_with fail
   clear c0 l0 HM
   rename World=>wR
   go_loopw [10] (fun x wr=> ∃k:Nat,k≤n∧x= .int .i64 k∧Hid (OnB w wr #[.slice ao A ac,.slice fo n fc,.slice no n nc])∧Hid ((∀f∈z.fl.take k,0≤f∧f≤3)∧ ∀r∈z.nx.take k,r.length=z.acts.length∧ ∀x∈r,0≤x∧x<(z.nx.length:Int))) (fun x _=>n - (intOf x).toNat)
   case atStart=>exact ⟨0,Nat.zero_le _,rfl,H1,⟨fun f hf=>(List.not_mem_nil hf).elim,fun r hr=>(List.not_mem_nil hr).elim⟩⟩
   case round=>
    obtain ⟨k,hk,rfl,H2,HS⟩:=hrel
    by_cases hkn:k<n
    ·have hki:(k:Int)<(n:Int):=by omega
     have hkf:k<z.fl.length:=by rw [unhide HNF];exact hkn
     have hkx:k<z.nx.length:=by rw [unhide HFN];exact hkn
     have hIw:=(unhide HI).later (unhide H2).bel
     obtain ⟨b,off,rfl,hbl,hbc⟩:=hIw.fl k z.fl[k] (List.getElem?_eq_getElem hkf)
     obtain ⟨b2,off2,ro,rc,rfl,hbl2,hbc2,hrr⟩:=hIw.nx k z.nx[k] (List.getElem?_eq_getElem hkx)
     have hrl:=hIw.rl z.nx[k] (List.getElem_mem hkx)
     have HXF:=hide (List.getElem?_eq_getElem hkf:z.fl[k]? =some z.fl[k])
     have HXR:=hide (List.getElem?_eq_getElem hkx:z.nx[k]? =some z.nx[k])
     generalize z.fl[k]=f at *
     generalize z.nx[k]=r at *
     have c0:=cell_of_blk (unhide H2).b0 0
     have c1:=cell_of_blk (unhide H2).b0 1
     have c2:=cell_of_blk (unhide H2).b0 2
     have l0:=lt_of_blk (unhide H2).b0
     have HRi:Hid (RightZ z→(0≤f∧f≤3)∧r.length=A∧ ∀x∈r,0≤x∧x<(n:Int)):=fun h=>by
      obtain ⟨_,h2,h3⟩:=(unhide HZ).1 h
      obtain ⟨h4,h5,_⟩:=h3 k f (unhide HXF)
      obtain ⟨h6,h7⟩:=h2.rs r (List.mem_of_getElem? (unhide HXR))
      refine ⟨⟨h4,h5⟩,by rw [h6];exact unhide HAF,fun x hx=> ?_⟩
      have:=stOk_iff.1 (List.all_eq_true.1 h7 x hx)
      rw [unhide HFN] at this
      exact this
     have HRR:=hide hrr
     clear hIw hrr
     by_cases hf0:0≤f
     case neg=>
      have HN:Hid (¬ RightZ z):=fun h=>hf0 (unhide HRi h).1.1
      have hf0':f<0:=by omega
      go_wp2_with fail
      go_quiet (fail)
      go_wp2_with fail
      refine bodyPost_ret (v:= .bool false) (by simp [results,Tryz.results146,go_sem]) rfl ?_
      exact ⟨TellsB.no (unhide HN),((unhide H2).later (bdn _ _)).bel⟩
     have hd0:decide (f<0)=false:=decide_eq_false (by omega)
     by_cases hf3:f≤3
     case neg=>
      have HN:Hid (¬ RightZ z):=fun h=>hf3 (unhide HRi h).1.2
      have hd3:decide (3<f)=true:=decide_eq_true (by omega)
      go_wp2_with fail
      go_quiet (fail)
      go_wp2_with fail
      refine bodyPost_ret (v:= .bool false) (by simp [results,Tryz.results146,go_sem]) rfl ?_
      exact ⟨TellsB.no (unhide HN),((unhide H2).later (bdn _ _)).bel⟩
     have hd3:decide (3<f)=false:=decide_eq_false (by omega)
     by_cases hrA:r.length=A
     case neg=>
      have HN:Hid (¬ RightZ z):=fun h=>hrA (unhide HRi h).2.1
      have hdr:((r.length:Int) !=(A:Int))=true:=by rw [bne_iff_ne];omega
      go_wp2_with fail
      go_quiet (fail)
      go_wp2_with fail
      refine bodyPost_ret (v:= .bool false) (by simp [results,Tryz.results146,go_sem]) rfl ?_
      exact ⟨TellsB.no (unhide HN),((unhide H2).later (bdn _ _)).bel⟩
     rw [hrA] at hbc2 hrl
     have HRA:=hide hrA
     clear hrA
     go_wp2_with fail
     go_quiet (fail)
     have hbd:=bdn wr nq
     have H3:=hide ((unhide H2).later hbd)
     have HC2:=hide ((bcell3 hbd _ _ hbl2).trans hbc2)
     have HRQ:=hide ((unhide HRR).later hbd)
     have hbl3:=Nat.lt_of_lt_of_le hbl2 hbd.size
     clear hbd hbc hbl hbc2 hbl2 c0 c1 c2 l0
     generalize hwd:wr.drewN nq=wd at *
     clear hwd
     go_wp2_with fail
     go_loopw [11] (fun x wr=> ∃a:Nat,a≤A∧x= .int .i64 a∧Hid (wr=wd)∧Hid (∀y∈r.take a,0≤y∧y<(n:Int))) (fun x _=>A - (intOf x).toNat)
     case atStart=>exact ⟨0,Nat.zero_le _,rfl,rfl,fun y hy=>(List.not_mem_nil hy).elim⟩
     case round=>
      obtain ⟨a,ha,rfl,HWe,HY⟩:=hrel
      have hwe:=unhide HWe
      clear HWe
      subst hwe
      have c0:=cell_of_blk (unhide H3).b0 0
      have c2:=cell_of_blk (unhide H3).b0 2
      have l0:=lt_of_blk (unhide H3).b0
      by_cases haA:a<A
      ·have han:(a:Int)<(A:Int):=by omega
       have har:a<r.length:=by rw [unhide HRA];exact haA
       obtain ⟨b3,off3,rfl,hbl4,hbc4⟩:=unhide HRQ a r[a] (List.getElem?_eq_getElem har)
       have HXY:=hide (List.getElem?_eq_getElem har:r[a]? =some r[a])
       generalize r[a]=y at *
       have hbc3:=unhide HC2
       by_cases hy0:0≤y
       case neg=>
        have HN:Hid (¬ RightZ z):=fun h=>hy0 ((unhide HRi h).2.2 y (List.mem_of_getElem? (unhide HXY))).1
        have hy0':y<0:=by omega
        go_wp2_with fail
        refine bodyPost_ret (v:= .bool false) (by simp [results,Tryz.results146,go_sem]) rfl ?_
        exact ⟨TellsB.no (unhide HN),(unhide H3).bel⟩
       have hy0':¬ y<0:=by omega
       by_cases hyn:y<(n:Int)
       case neg=>
        have HN:Hid (¬ RightZ z):=fun h=>hyn ((unhide HRi h).2.2 y (List.mem_of_getElem? (unhide HXY))).2
        have hyn':(n:Int)≤y:=by omega
        go_wp2_with fail
        refine bodyPost_ret (v:= .bool false) (by simp [results,Tryz.results146,go_sem]) rfl ?_
        exact ⟨TellsB.no (unhide HN),(unhide H3).bel⟩
       have hyn':¬ (n:Int)≤y:=by omega
       have HY2:Hid (∀y∈r.take (a+1),0≤y∧y<(n:Int)):=fun q hq=>by
        rw [List.take_add_one,unhide HXY] at hq
        rcases List.mem_append.1 hq with h|h
        ·exact unhide HY q h
        ·have:q=y:=by simpa using h
         rw [this]
         exact ⟨hy0,hyn⟩
       go_wp2_with fail
       go_roundw
       case rel=>exact ⟨a+1,by omega,by go_num,trivial,HY2⟩
       case measure=>simp [intOf];omega
      ·have han:¬ (a:Int)<(A:Int):=by omega
       have HS2:Hid ((∀f∈z.fl.take (k+1),0≤f∧f≤3)∧ ∀r∈z.nx.take (k+1),r.length=z.acts.length∧ ∀x∈r,0≤x∧x<(z.nx.length:Int)):=by
        refine ⟨fun q hq=> ?_,fun q hq=> ?_⟩
        ·rw [List.take_add_one,unhide HXF] at hq
         rcases List.mem_append.1 hq with h|h
         ·exact (unhide HS).1 q h
         ·have:q=f:=by simpa using h
          rw [this]
          exact ⟨hf0,hf3⟩
        ·rw [List.take_add_one,unhide HXR] at hq
         rcases List.mem_append.1 hq with h|h
         ·exact (unhide HS).2 q h
         ·have:q=r:=by simpa using h
          rw [this]
          refine ⟨(unhide HRA).trans (unhide HAF).symm,fun x hx=> ?_⟩
          have h1:=unhide HY
          rw [List.take_of_length_le (by rw [unhide HRA];omega)] at h1
          rw [unhide HFN]
          exact h1 x hx
       go_wp2_with fail
       go_roundw
       case rel=>exact ⟨k+1,by omega,by go_num,H3,HS2⟩
       case measure=>simp [intOf];omega
    ·have hki:¬ (k:Int)<(n:Int):=by omega
     have HST:Hid (StZ z):=by
      have h1:=unhide HS
      rw [List.take_of_length_le (by rw [unhide HNF];omega),List.take_of_length_le (by rw [unhide HFN];omega)] at h1
      exact ⟨h1.1,h1.2⟩
     have hzt:=natT_z (unhide HST)
     have hsh:=natT_sh (unhide HST) (by rw [unhide HAF];exact hA1) (by rw [unhide HAF];exact hA6) (by rw [unhide HFN];exact hn1) (by rw [unhide HFN];exact hn100) (by rw [unhide HNF,unhide HFN])
     rw [unhide HAF,unhide HFN] at hsh
     have hIw:=(unhide HI).later (unhide H2).bel
     rw [←hzt] at hIw
     obtain ⟨fb,f0,nb,n0,rb,ro,rc,rfl,rfl,hK⟩:=tbk_of hIw hsh
     have HK:=hide hK
     have HZT:=hide hzt
     have HSH:=hide hsh
     have hf3:Hid (∀i,i<n→flT (natT z) i≤3):=fun i hi=>by
      have hil:i<z.fl.length:=by rw [unhide HNF];exact hi
      have h1:=(unhide HST).fl z.fl[i] (List.getElem_mem hil)
      unfold flT natT
      simp only [List.getElem?_map,List.getElem?_eq_getElem hil,Option.map_some,Option.getD_some]
      omega
     clear hzt hsh hIw hK
     generalize natT z=t at *
     have c0:=cell_of_blk (unhide H2).b0 0
     have c1:=cell_of_blk (unhide H2).b0 1
     have c2:=cell_of_blk (unhide H2).b0 2
     have l0:=lt_of_blk (unhide H2).b0
     go_wp2_with fail
     refine (Living_any wr t A n ao A ac fb f0 nb n0 fc nc rb ro rc (unhide HK)).mono ?_
     clear c0 c1 c2 l0
     rintro e w5 ⟨L,rfl,hblk,hLl,hLv,hb5⟩
     have H5:=hide ((unhide H2).later hb5)
     have HK5:=hide ((unhide HK).later hb5)
     have HLB:=hide hblk
     have HLV:=hide hLv
     have HLL:=hide hLl
     clear hblk hLl hLv hb5 HK
     generalize wr.heap.size=g at *
     go_wp2_with fail
     go_loopw [13] (fun x wq=> ∃k:Nat,k≤n∧x= .int .i64 k∧Hid (Below w5.heap.size w5 wq)∧Hid (∀i,i<k→(2≤flT t i↔Lives t i))) (fun x _=>n - (intOf x).toNat)
     case atStart=>exact ⟨0,Nat.zero_le _,rfl,Below.refl _ _,fun i hi=>absurd hi (Nat.not_lt_zero i)⟩
     case round=>
      obtain ⟨k2,hk2,rfl,HB6,HLK⟩:=hrel
      have H6:=hide ((unhide H5).later (unhide HB6))
      have HK6:=hide ((unhide HK5).later (unhide HB6))
      have hLB6:=((unhide HB6).block _ (lt_of_blk (unhide HLB))).trans (unhide HLB)
      by_cases hkl:k2<n
      ·have hki2:(k2:Int)<(n:Int):=by omega
       have c1:=cell_of_blk (unhide H6).b0 1
       have l0:=lt_of_blk (unhide H6).b0
       have hfl:=(unhide HK6).fla k2 hkl
       have hlf:=(unhide HK6).lf
       have hcl:wr.cell? ⟨g+1,k2,none⟩=some (.bool (lv L k2)):=by
        rw [cell_of_blk hLB6]
        have hkL:k2<L.length:=by rw [unhide HLL];exact hkl
        unfold lv
        rw [List.getElem?_eq_getElem hkL]
        exact boolC_at L k2 L[k2] (List.getElem?_eq_getElem hkL)
       have hlg:=lt_of_blk hLB6
       have hiff:=unhide HLV k2
       have HRi:Hid (RightZ z→(2≤flT t k2↔Lives t k2)):=fun h=>by
        rw [←unhide HZT,rightZ_t] at h
        have hk3:k2<t.fl.length:=by rw [(unhide HSH).hf];exact hkl
        exact h.alive k2 (flT t k2) (by unfold flT;rw [List.getElem?_eq_getElem hk3];rfl)
       clear hLB6
       generalize hfe:flT t k2=f at *
       have HFE:=hide hfe
       clear hfe
       cases hlv:lv L k2 with
       |true=>
        rw [hlv] at hcl
        have hliv:=hiff.1 hlv
        by_cases hf2:2≤f
        ·have hf2':2≤(f:Int):=by omega
         have HLK2:Hid (∀i,i<k2+1→(2≤flT t i↔Lives t i)):=fun i hi=>by
          by_cases e:i=k2
          ·subst e;rw [unhide HFE];exact ⟨fun _=>hliv,fun _=>hf2⟩
          ·exact unhide HLK i (by omega)
         clear hlv hiff
         go_wp2_with fail
         go_quiet (fail)
         go_wp2_with fail
         go_roundw
         case rel=>exact ⟨k2+1,by omega,by go_num,(unhide HB6).trans ((bdn _ _).mono (unhide HB6).size),HLK2⟩
         case measure=>simp [intOf];omega
        ·have hd2:decide ((2:Int)≤(f:Int))=false:=decide_eq_false (by omega)
         have HN:Hid (¬ RightZ z):=fun h=>hf2 ((unhide HRi h).2 hliv)
         clear hlv hiff
         go_wp2_with fail
         go_quiet (fail)
         go_wp2_with fail
         refine bodyPost_ret (v:= .bool false) (by simp [results,Tryz.results146,go_sem]) rfl ?_
         exact ⟨TellsB.no (unhide HN),((unhide H6).later (bdn _ _)).bel⟩
       |false=>
        rw [hlv] at hcl
        have hliv:¬ Lives t k2:=fun h=>by have:=hiff.2 h;rw [hlv] at this;cases this
        by_cases hf2:2≤f
        ·have hf2':2≤(f:Int):=by omega
         have HN:Hid (¬ RightZ z):=fun h=>hliv ((unhide HRi h).1 hf2)
         clear hlv hiff
         go_wp2_with fail
         go_quiet (fail)
         go_wp2_with fail
         refine bodyPost_ret (v:= .bool false) (by simp [results,Tryz.results146,go_sem]) rfl ?_
         exact ⟨TellsB.no (unhide HN),((unhide H6).later (bdn _ _)).bel⟩
        ·have hd2:decide ((2:Int)≤(f:Int))=false:=decide_eq_false (by omega)
         have HLK2:Hid (∀i,i<k2+1→(2≤flT t i↔Lives t i)):=fun i hi=>by
          by_cases e:i=k2
          ·subst e;rw [unhide HFE];exact ⟨fun h=>absurd h hf2,fun h=>absurd h hliv⟩
          ·exact unhide HLK i (by omega)
         clear hlv hiff
         go_wp2_with fail
         go_quiet (fail)
         go_wp2_with fail
         go_roundw
         case rel=>exact ⟨k2+1,by omega,by go_num,(unhide HB6).trans ((bdn _ _).mono (unhide HB6).size),HLK2⟩
         case measure=>simp [intOf];omega
      ·have hki2:¬ (k2:Int)<(n:Int):=by omega
       have HY:Hid (RightZ z):=by
        show RightZ z
        rw [←unhide HZT,rightZ_t]
        have hs:=unhide HSH
        have hac:t.acts=z.acts:=by have:=unhide HZT;exact congrArg Tz.acts this
        refine ⟨by rw [hac];exact unhide HAO,by rw [hs.hn];exact hn1,by rw [hs.hn];exact hn100,by rw [hs.hf,hs.hn],fun r hr=> ?_,fun f hf=> ?_,fun i f hi=> ?_⟩
        ·rw [hs.hA,hs.hn];exact hs.rs r hr
        ·obtain ⟨i,hi⟩:=List.mem_iff_getElem?.1 hf
         have hil:i<n:=by have:=(List.getElem?_eq_some_iff.1 hi).1;rw [hs.hf] at this;exact this
         have:=unhide hf3 i hil
         unfold flT at this
         rw [hi] at this
         exact this
        ·have hil:i<n:=by have:=(List.getElem?_eq_some_iff.1 hi).1;rw [hs.hf] at this;exact this
         have:=unhide HLK i (by omega)
         unfold flT at this
         rw [hi] at this
         exact this
       go_wp2_with fail
       refine bodyPost_ret (v:= .bool true) (by simp [results,Tryz.results146,go_sem]) rfl ?_
       exact ⟨TellsB.yes (unhide HY),(unhide H6).bel⟩
theorem bytes_app (a b:ByteArray):(a++b).data.toList=a.data.toList++b.data.toList:=by simp
def pre1c (t:Tb) (k j:Nat) (a:ByteArray):List UInt8:=pre1 t k++[u8 a.size]++a.data.toList.take j
theorem pre1c_zero (t:Tb) (k:Nat) (a:ByteArray):pre1c t k 0 a=pre1 t k++[u8 a.size]:=by unfold pre1c;simp
theorem pre1c_succ (t:Tb) (k:Nat) {j:Nat} {a:ByteArray} (h:j<a.size):pre1c t k (j+1) a=pre1c t k j a++[u8 a[j].toNat]:=by
 unfold pre1c
 have hg:a.data.toList[j]? =some a[j]:=by rw [Array.getElem?_toList];exact Array.getElem?_eq_getElem h
 have e:u8 a[j].toNat=a[j]:=by unfold u8;simp
 rw [List.take_add_one,hg,e,←List.append_assoc]
 rfl
theorem pre1c_all {t:Tb} {k:Nat} {a:ByteArray} (h:t.acts[k]? =some a) {j:Nat} (hj:a.size≤j):pre1c t k j a=pre1 t (k+1):=by
 unfold pre1c
 rw [pre1_succ h,List.take_of_length_le (by rw [Array.length_toList];exact hj)]
theorem pre1c_le {t:Tb} (h:RightT t) (k j:Nat) {a:ByteArray} (ha:a.size≤8):(pre1c t k j a).length≤70:=by
 have:=pre1_le h k
 have h2:a.data.toList.length=a.size:=by rw [Array.length_toList];rfl
 unfold pre1c
 simp only [List.length_append,List.length_cons,List.length_nil,List.length_take]
 omega
def pre2c (t:Tb) (k j f:Nat) (r:List Nat):List UInt8:=pre2 t k++[u8 f]++(r.take j).map u8
theorem pre2c_zero (t:Tb) (k f:Nat) (r:List Nat):pre2c t k 0 f r=pre2 t k++[u8 f]:=by unfold pre2c;simp
theorem pre2c_succ (t:Tb) (k f:Nat) {j x:Nat} {r:List Nat} (h:r[j]? =some x):pre2c t k (j+1) f r=pre2c t k j f r++[u8 x]:=by
 unfold pre2c
 rw [List.take_add_one,h]
 show pre2 t k++[u8 f]++(r.take j++[x]).map u8=_
 rw [List.map_append,←List.append_assoc]
 rfl
theorem pre2c_all {t:Tb} (hl:t.fl.length=t.nx.length) {k f j:Nat} {r:List Nat} (hf:t.fl[k]? =some f) (h:t.nx[k]? =some r) (hj:r.length≤j):pre2c t k j f r=pre2 t (k+1):=by
 unfold pre2c
 rw [pre2_succ hl hf h,List.take_of_length_le hj]
theorem pre2c_le {t:Tb} (h:RightT t) (k j f:Nat) {r:List Nat} (hr:r.length≤6):(pre2c t k j f r).length≤1000:=by
 have:=pre2_le h k
 unfold pre2c
 simp only [List.length_append,List.length_cons,List.length_nil,List.length_take,List.length_map]
 omega
theorem pre2_first (t:Tb):pre2 t 0=pre1 t t.acts.length++[u8 t.nx.length]:=by unfold pre2;simp [rowsB]
theorem bf_first (w1:World) (t:Tb) (na:Nat) (hna:na=t.acts.length) (h6:na≤6):Bf w1.heap.size w1 (w1.alloc (.cells #[.int .u8 83,.int .u8 1,.int .u8 (na:Int)] 5)) (.slice (some ⟨w1.heap.size,0,none⟩) 3 3) (pre1 t 0):=by
 have e:pre1 t 0=[83,1,u8 na]:=by unfold pre1;rw [hna];simp [actsB]
 rw [e]
 refine ⟨⟨by simp [bytC],.inr ⟨w1.heap.size,3,_,(0,0),rfl,Nat.le_refl _,blk_alloc' _ _ _ (by simp),Nat.zero_le _,Nat.le_refl _,by unfold maxLen;omega,rfl, ?_⟩⟩, ?_,by simp⟩
 ·show [Value.int .u8 83,.int .u8 1,.int .u8 (na:Int)]=bytC [83,1,u8 na]
  unfold bytC
  simp [u8_toNat (show na<256 by omega)]
 ·exact (Below.refl _ _).alloc (Nat.le_refl _) _
set_option maxHeartbeats 8000000 in
set_option maxRecDepth 100000 in
theorem EncodeR_right (w:World) (ao fo no:Option Addr) (ac fc nc na nf:Nat) (t:Tb) (hI:TbI w ao fo no ac t.z) (hR:RightT t) (hna:na=t.acts.length) (hnf:nf=t.fl.length):
  Calls Tryz.prog 102 #[.agg #[.slice ao na ac,.slice fo nf fc,.slice no nf nc]] w fun e w'=>e= .returned (.tuple #[.string ⟨(encB t).toArray⟩,.int .i64 0])∧Below w.heap.size w w':=by
 obtain ⟨i0,hi0,hz0,hz1,hz2⟩:=info_parts Tryz.infoU8
 have hnn:nf=t.nx.length:=hnf.trans hR.fl
 have hB:Below w.heap.size w (w.alloc (.cells #[.slice ao na ac,.slice fo nf fc,.slice no nf nc] 36)):=(Below.refl _ _).alloc (Nat.le_refl _) _
 have HBL:=hide (blk_alloc w (.cells #[.slice ao na ac,.slice fo nf fc,.slice no nf nc] 36))
 have e1:t.z.fl.length=nf:=by rw [hnf];exact zI_len _
 have e2:t.z.nx.length=nf:=by rw [hnn];unfold Tb.z;simp
 have e3:t.z.acts.length=na:=by rw [hna];rfl
 have HRG:=hide (RightR_any (w.alloc (.cells #[.slice ao na ac,.slice fo nf fc,.slice no nf nc] 36)) ao fo no ac fc nc t.z (hI.later hB))
 rw [e1,e2,e3] at HRG
 have HI:=hide hI
 have HR:=hide hR
 have HB:=hide hB
 have hna6:na≤6:=by have:=hR.acts.n6;omega
 have hnf6:nf≤100:=by have:=hR.n100;omega
 have HNA:=hide hna
 have HNF:=hide hnf
 have HNN:=hide hnn
 clear hI hB hR hna hnf hnn e1 e2 e3
 have c0:=cell_of_blk (unhide HBL) 0
 have c1:=cell_of_blk (unhide HBL) 1
 have c2:=cell_of_blk (unhide HBL) 2
 have l0:=lt_of_blk (unhide HBL)
 go_enter Tryz.func102,Tryz.ntmps102
 go_wp2_with fail
 refine (unhide HRG).mono ?_
 clear HRG c0 c1 c2 l0
 rintro e w1 ⟨⟨b,rfl,hbt⟩,hb1⟩
 have hbe:b=true:=hbt.2 ((rightZ_t t).2 (unhide HR))
 subst hbe
 clear hbt
 generalize w.alloc (.cells #[.slice ao na ac,.slice fo nf fc,.slice no nf nc] 36)=W at *
 have HBL1:=hide ((hb1.block _ (lt_of_blk (unhide HBL))).trans (unhide HBL))
 have HB1:=hide ((unhide HB).trans (hb1.mono (unhide HB).size))
 have HI1:=hide ((unhide HI).later (unhide HB1))
 clear hb1 HB HBL HI
 have c0:=cell_of_blk (unhide HBL1) 0
 have l0:=lt_of_blk (unhide HBL1)
 have hw1:w.heap.size+1≤w1.heap.size:=l0
 have HBF0:=hide (bf_first w1 t na (unhide HNA) hna6)
 go_wp2_with fail
 clear c0 l0
 go_loopw [5,6] (fun bv x wr=> ∃k:Nat,k≤na∧x= .int .i64 k∧Hid (Bf w1.heap.size w1 wr bv (pre1 t k))) (fun _ x _=>na - (intOf x).toNat)
 case atStart=>exact ⟨0,Nat.zero_le _,rfl,HBF0⟩
 case round=>
  obtain ⟨k,hk,rfl,HBF⟩:=hrel
  have hbel:Below w1.heap.size w1 wr:=(unhide HBF).2.1
  have hpl:=pre1_le (unhide HR) k
  have hblr:=(hbel.block _ (lt_of_blk (unhide HBL1))).trans (unhide HBL1)
  have c0:=cell_of_blk hblr 0
  have c1:=cell_of_blk hblr 1
  have l0:=lt_of_blk hblr
  clear hblr
  by_cases hlt:k<na
  ·have hkn:(k:Int)<(na:Int):=by omega
   have hkl:k<t.acts.length:=by have:=unhide HNA;omega
   obtain ⟨b,off,rfl,hb,hcx⟩:=((unhide HI1).later hbel).acts k t.acts[k] (List.getElem?_eq_getElem hkl)
   have HX:=hide (List.getElem?_eq_getElem hkl:t.acts[k]? =some t.acts[k])
   have ha8:=((unhide HR).acts.nm _ (List.getElem_mem hkl)).n8
   have hcb:b<w1.heap.size:=by
    obtain ⟨b',off',e1,hb',_⟩:=(unhide HI1).acts k t.acts[k] (List.getElem?_eq_getElem hkl)
    cases e1
    exact hb'
   generalize t.acts[k]=a at *
   have HC1:Hid (w1.cell? ⟨b,off+k,none⟩=some (.string a)):=(bcell3 hbel _ _ hcb).symm.trans hcx
   clear hbel
   go_wp2_with (at_builtin;go_must (refine Lib.wpList_append_byte rfl _ _ 51 rfl w1.heap.size 5 i0 Tryz.underlying51 hi0 hz0 hz1 hz2 _ (pre1 t k).length (bytC (pre1 t k)) rfl w1 wr (a.size:Int) ?c0 rfl ?c1 ?_))
   case c0=>exact unhide HBF
   case c1=>omega
   intro v1 w2 hb1
   have HBF1:=hide (Bf.byte (n:=a.size) (r:=pre1c t k 0 a) (by omega) hb1 (by simp) (pre1c_zero t k a))
   clear hb1 c0 c1 l0 hb hcx
   go_wp2_with fail
   rename World=>wR
   go_loopw [5,7] (fun bv x wr=> ∃j:Nat,j≤a.size∧x= .int .i64 j∧Hid (Bf w1.heap.size w1 wr bv (pre1c t k j a))) (fun _ x _=>a.size - (intOf x).toNat)
   case atStart=>exact ⟨0,Nat.zero_le _,rfl,HBF1⟩
   case round=>
    obtain ⟨j,hj,rfl,HBF2⟩:=hrel
    have hbel:Below w1.heap.size w1 wr:=(unhide HBF2).2.1
    have hblr:=(hbel.block _ (lt_of_blk (unhide HBL1))).trans (unhide HBL1)
    have c0:=cell_of_blk hblr 0
    have l0:=lt_of_blk hblr
    have hcx:=(bcell3 hbel _ _ hcb).trans (unhide HC1)
    have hb:=Nat.lt_of_lt_of_le hcb hbel.size
    clear hblr hbel
    by_cases hjl:j<a.size
    ·have hjn:(j:Int)<(a.size:Int):=by omega
     have hpc:=pre1c_le (unhide HR) k j ha8
     have HSU:=hide (pre1c_succ t k hjl)
     have hc8:=a[j].toNat_lt
     generalize hP:pre1c t k j a=P at *
     clear hP
     go_wp2_with (at_builtin;go_must (refine Lib.wpList_append_byte rfl _ _ 51 rfl w1.heap.size 5 i0 Tryz.underlying51 hi0 hz0 hz1 hz2 _ (P).length (bytC (P)) rfl w1 wr (a[j].toNat:Int) ?d0 rfl ?d1 ?_))
     case d0=>exact unhide HBF2
     case d1=>omega
     intro v3 w3 hb3
     have HBF3:=hide (Bf.byte (n:=a[j].toNat) (r:=pre1c t k (j+1) a) (by omega) hb3 (by simp) (unhide HSU))
     clear hb3
     go_wp2_with fail
     go_roundw
     case rel=>exact ⟨j+1,by omega,by go_num,HBF3⟩
     case measure=>simp [intOf];omega
    ·have hjn:¬ (j:Int)<(a.size:Int):=by omega
     rw [pre1c_all (unhide HX) (by omega)] at HBF2
     go_wp2_with fail
     go_roundw
     case rel=>exact ⟨k+1,by omega,by go_num,HBF2⟩
     case measure=>simp [intOf];omega
  ·have hkn:¬ (k:Int)<(na:Int):=by omega
   have hke:k=t.acts.length:=by have:=unhide HNA;omega
   subst hke
   clear hbel
   go_wp2_with (at_builtin;go_must (refine Lib.wpList_append_byte rfl _ _ 51 rfl w1.heap.size 5 i0 Tryz.underlying51 hi0 hz0 hz1 hz2 _ (pre1 t t.acts.length).length (bytC (pre1 t t.acts.length)) rfl w1 wr (nf:Int) ?g0 rfl ?g1 ?_))
   case g0=>exact unhide HBF
   case g1=>omega
   intro v1 w2 hb1
   have HBF1:=hide (Bf.byte (n:=nf) (r:=pre2 t 0) (by omega) hb1 (by simp) (by rw [pre2_first,unhide HNN]))
   clear hb1 c0 c1 l0 HBF
   go_wp2_with fail
   rename World=>wR
   go_loopw [5,8] (fun bv x wr=> ∃k:Nat,k≤nf∧x= .int .i64 k∧Hid (Bf w1.heap.size w1 wr bv (pre2 t k))) (fun _ x _=>nf - (intOf x).toNat)
   case atStart=>exact ⟨0,Nat.zero_le _,rfl,HBF1⟩
   case round=>
    obtain ⟨k,hk2,rfl,HBF⟩:=hrel
    have hbel:Below w1.heap.size w1 wr:=(unhide HBF).2.1
    have hpl2:=pre2_le (unhide HR) k
    have hblr:=(hbel.block _ (lt_of_blk (unhide HBL1))).trans (unhide HBL1)
    have c1:=cell_of_blk hblr 1
    have l0:=lt_of_blk hblr
    clear hblr
    by_cases hlt:k<nf
    ·have hkn2:(k:Int)<(nf:Int):=by omega
     have hkf:k<t.fl.length:=by have:=unhide HNF;omega
     have hkx:k<t.nx.length:=by have:=unhide HNN;omega
     have hzf:t.z.fl[k]? =some (t.fl[k]:Int):=by
      show (zI t.fl)[k]? =_
      exact zI_at (List.getElem?_eq_getElem hkf)
     have hzx:t.z.nx[k]? =some (zI t.nx[k]):=by
      show (t.nx.map zI)[k]? =_
      rw [List.getElem?_map,List.getElem?_eq_getElem hkx]
      rfl
     obtain ⟨b,off,rfl,hb0,hc0⟩:=(unhide HI1).fl k _ hzf
     obtain ⟨b2,off2,ro,rc,rfl,hb2,hc2,hrr⟩:=(unhide HI1).nx k _ hzx
     have HXF:=hide (List.getElem?_eq_getElem hkf:t.fl[k]? =some t.fl[k])
     have HXR:=hide (List.getElem?_eq_getElem hkx:t.nx[k]? =some t.nx[k])
     have hf3:=(unhide HR).fs t.fl[k] (List.getElem_mem hkf)
     have hr6:=(unhide HR).rs t.nx[k] (List.getElem_mem hkx)
     have hcf:=(bcell3 hbel _ _ hb0).trans hc0
     have hlf:=Nat.lt_of_lt_of_le hb0 hbel.size
     rw [zI_len] at hc2
     generalize t.fl[k]=f at *
     generalize t.nx[k]=r at *
     have HC2:=hide hc2
     have HRR:=hide hrr
     have HR6:=hide hr6
     have hrl:r.length=na:=by rw [hr6.1];exact (unhide HNA).symm
     rw [hrl] at HC2
     have HRL:=hide hrl
     have hr66:r.length≤6:=by omega
     clear hbel hc0 hc2 hrr hr6 hrl hzf hzx
     go_wp2_with (at_builtin;go_must (refine Lib.wpList_append_byte rfl _ _ 51 rfl w1.heap.size 5 i0 Tryz.underlying51 hi0 hz0 hz1 hz2 _ (pre2 t k).length (bytC (pre2 t k)) rfl w1 wr (f:Int) ?m0 rfl ?m1 ?_))
     case m0=>exact unhide HBF
     case m1=>omega
     intro v2 w3 hb3
     have HBF2:=hide (Bf.byte (n:=f) (r:=pre2c t k 0 f r) (by omega) hb3 (by simp) (pre2c_zero t k f r))
     clear hb3 c1 l0 hcf hlf HBF
     go_wp2_with fail
     rename World=>wS
     go_loopw [5,9] (fun bv x wr=> ∃j:Nat,j≤na∧x= .int .i64 j∧Hid (Bf w1.heap.size w1 wr bv (pre2c t k j f r))) (fun _ x _=>na - (intOf x).toNat)
     case atStart=>exact ⟨0,Nat.zero_le _,rfl,HBF2⟩
     case round=>
      obtain ⟨j,hj,rfl,HBF3⟩:=hrel
      have hbel:Below w1.heap.size w1 wr:=(unhide HBF3).2.1
      have hblr:=(hbel.block _ (lt_of_blk (unhide HBL1))).trans (unhide HBL1)
      have c0:=cell_of_blk hblr 0
      have c2:=cell_of_blk hblr 2
      have l0:=lt_of_blk hblr
      have hc2:=(bcell3 hbel _ _ hb2).trans (unhide HC2)
      have hl2:=Nat.lt_of_lt_of_le hb2 hbel.size
      clear hblr
      by_cases hjl:j<na
      ·have hjn:(j:Int)<(na:Int):=by omega
       have hjr:j<r.length:=by rw [unhide HRL];exact hjl
       obtain ⟨b3,off3,rfl,hb3,hc3⟩:=unhide HRR j (r[j]:Nat) (zI_at (List.getElem?_eq_getElem hjr))
       have hx8:r[j]<256:=by have:=(unhide HR6).2 r[j] (List.getElem_mem hjr);have:=(unhide HR).n100;omega
       have hcx:=(bcell3 hbel _ _ hb3).trans hc3
       have hl3:=Nat.lt_of_lt_of_le hb3 hbel.size
       have HSU:=hide (pre2c_succ t k f (List.getElem?_eq_getElem hjr:r[j]? =some r[j]))
       have hpc:=pre2c_le (unhide HR) k j f hr66
       generalize r[j]=y at *
       clear hbel hc3
       generalize hP:pre2c t k j f r=P at *
       clear hP
       go_wp2_with (at_builtin;go_must (refine Lib.wpList_append_byte rfl _ _ 51 rfl w1.heap.size 5 i0 Tryz.underlying51 hi0 hz0 hz1 hz2 _ (P).length (bytC (P)) rfl w1 wr (y:Int) ?p0 rfl ?p1 ?_))
       case p0=>exact unhide HBF3
       case p1=>omega
       intro v4 w4 hb4
       have HBF4:=hide (Bf.byte (n:=y) (r:=pre2c t k (j+1) f r) hx8 hb4 (by simp) (unhide HSU))
       clear hb4
       go_wp2_with fail
       go_roundw
       case rel=>exact ⟨j+1,by omega,by go_num,HBF4⟩
       case measure=>simp [intOf];omega
      ·have hjn:¬ (j:Int)<(na:Int):=by omega
       rw [pre2c_all (unhide HR).fl (unhide HXF) (unhide HXR) (by rw [unhide HRL];omega)] at HBF3
       clear hbel
       go_wp2_with fail
       go_roundw
       case rel=>exact ⟨k+1,by omega,by go_num,HBF3⟩
       case measure=>simp [intOf];omega
    ·have hkn2:¬ (k:Int)<(nf:Int):=by omega
     have hke:k=t.nx.length:=by have:=unhide HNN;omega
     subst hke
     rw [pre2_all t (unhide HR).fl] at HBF hpl2
     have HEN:Hid (encB t=bodyB t++sum2 (bodyB t)):=rfl
     obtain ⟨g,c,hv,hby,hg⟩:=Bf.slice (unhide HBF) (by unfold bodyB;simp)
     subst hv
     have hcv:=run_convert_bytes_back (P:=Tryz.prog) wr 51 9 5 ⟨g,0,none⟩ c (bodyB t) Tryz.underlying51 Tryz.underlying5 Tryz.underlying9 (fun j hj=>by
      obtain ⟨b',off',e1,_,e3⟩:=hby j (bodyB t)[j] (List.getElem?_eq_getElem hj)
      cases e1
      rw [Addr.add_lit]
      exact e3)
     have HSM:=hide (SumR_any wr ⟨(bodyB t).toArray⟩ (by show (bodyB t).toArray.size≤_;rw [List.size_toArray];omega))
     have HBY:=hide hby
     have HS1:Hid ((⟨(bodyB t).toArray⟩:ByteArray).data.toList=bodyB t):=hide rfl
     rw [show (⟨(bodyB t).toArray⟩:ByteArray).data.toList=bodyB t from rfl] at HSM
     have HS2:Hid ((⟨(sum2 (bodyB t)).toArray⟩:ByteArray).data.toList=sum2 (bodyB t)):=hide rfl
     have hz1:(⟨(bodyB t).toArray⟩:ByteArray).size≤900:=by show (bodyB t).toArray.size≤_;rw [List.size_toArray];exact hpl2
     have hz2:(⟨(sum2 (bodyB t)).toArray⟩:ByteArray).size≤2:=by show (sum2 (bodyB t)).toArray.size≤_;rw [List.size_toArray];exact Nat.le_refl 2
     have hcv2:=fun (w5:World) (hb:Below wr.heap.size wr w5)=>run_convert_bytes_back (P:=Tryz.prog) w5 51 9 5 ⟨g,0,none⟩ c (bodyB t) Tryz.underlying51 Tryz.underlying5 Tryz.underlying9 (fun j hj=>by
      obtain ⟨b',off',e1,h2,e3⟩:=hby j (bodyB t)[j] (List.getElem?_eq_getElem hj)
      cases e1
      rw [Addr.add_lit]
      exact (bcell3 hb _ _ h2).trans e3)
     have HCV:=hide hcv2
     clear hby hcv2
     generalize (⟨(bodyB t).toArray⟩:ByteArray)=s1 at *
     generalize (⟨(sum2 (bodyB t)).toArray⟩:ByteArray)=s2 at *
     go_wp2_with fail
     refine (unhide HSM).mono ?_
     clear HSM hcv c1 l0
     rintro e w5 ⟨rfl,hb5⟩
     have hcv:=unhide HCV w5 hb5
     have HB5:=hide ((unhide HB1).trans ((hbel.trans (hb5.mono hbel.size)).mono (unhide HB1).size))
     have hsz:s1.size+s2.size≤1000:=by omega
     clear hb5 hbel
     go_wp2_with fail
     refine bodyPost_ret (v:= .tuple #[.string (s1++s2),.int .i64 0]) (by simp [results,Tryz.results102,go_sem]) rfl ?_
     have hee:s1++s2=(⟨(encB t).toArray⟩:ByteArray):=by
      apply byte_inj
      rw [bytes_app,unhide HS1,unhide HS2,unhide HEN]
     exact ⟨by rw [hee],unhide HB5⟩
set_option maxHeartbeats 4000000 in
set_option maxRecDepth 100000 in
theorem EncodeR_any (w:World) (ao fo no:Option Addr) (ac fc nc:Nat) (z:Tz) (hI:TbI w ao fo no ac z):
  Calls Tryz.prog 102 #[.agg #[.slice ao z.acts.length ac,.slice fo z.fl.length fc,.slice no z.nx.length nc]] w fun e w'=>EncP z e∧Below w.heap.size w w':=by
 by_cases hz:RightZ z
 ·obtain ⟨t,rfl,hR⟩:=hz
  have e1:t.z.fl.length=t.fl.length:=zI_len _
  have e2:t.z.nx.length=t.fl.length:=by unfold Tb.z;simp [hR.fl]
  have e3:t.z.acts.length=t.acts.length:=rfl
  have h:=EncodeR_right w ao fo no ac fc nc t.acts.length t.fl.length t hI hR rfl rfl
  rw [e1,e2,e3]
  exact h.mono fun e w' ⟨he,hb⟩=>⟨Or.inl ⟨t,rfl,hR,he⟩,hb⟩
 ·have hB:Below w.heap.size w (w.alloc (.cells #[.slice ao z.acts.length ac,.slice fo z.fl.length fc,.slice no z.nx.length nc] 36)):=(Below.refl _ _).alloc (Nat.le_refl _) _
  have HBL:=hide (blk_alloc w (.cells #[.slice ao z.acts.length ac,.slice fo z.fl.length fc,.slice no z.nx.length nc] 36))
  have HRG:=hide (RightR_any _ ao fo no ac fc nc z (hI.later hB))
  have HB:=hide hB
  have HZ:=hide hz
  clear hI hB hz
  have c0:=cell_of_blk (unhide HBL) 0
  have c1:=cell_of_blk (unhide HBL) 1
  have c2:=cell_of_blk (unhide HBL) 2
  have l0:=lt_of_blk (unhide HBL)
  go_enter Tryz.func102,Tryz.ntmps102
  go_wp2_with fail
  refine (unhide HRG).mono ?_
  clear HRG c0 c1 c2 l0
  rintro e w1 ⟨⟨b,rfl,hbt⟩,hb1⟩
  have hbe:b=false:=by
   cases b with
   |false=>rfl
   |true=>exact absurd (hbt.1 rfl) (unhide HZ)
  subst hbe
  have HB1:=hide ((unhide HB).trans (hb1.mono (unhide HB).size))
  clear hbt hb1
  go_wp2_with fail
  refine bodyPost_ret (v:= .tuple #[.string ⟨#[]⟩,.int .i64 6]) (by simp [results,Tryz.results102,go_sem]) rfl ?_
  exact ⟨Or.inr ⟨unhide HZ,rfl⟩,unhide HB1⟩
end Go.Proofs.YtidakhhekofkoaaGreatDoor
namespace Go.Proofs.YtidakhhekofkoaaGreatDoor
theorem actsB_app: ∀(l m:List ByteArray),actsB (l++m)=actsB l++actsB m
 |[],m=>rfl
 |a::l,m=>by rw [List.cons_append,actsB,actsB_app l m,actsB];simp
theorem rowsB_app: ∀(fs gs:List Nat) (l m:List (List Nat)),fs.length=l.length→rowsB (fs++gs) (l++m)=rowsB fs l++rowsB gs m
 |[],gs,[],m,_=>by simp [rowsB]
 |[],_,_::_,_,h=>by simp at h
 |_::_,_,[],_,h=>by simp at h
 |f::fs,gs,r::l,m,h=>by rw [List.cons_append,List.cons_append,rowsB,rowsB_app fs gs l m (by simpa using h),rowsB];simp
def atA (l:List ByteArray):Nat:=3+(actsB l).length
theorem atA_snoc (l:List ByteArray) (a:ByteArray):atA (l++[a])=atA l+1+a.size:=by
 unfold atA
 rw [actsB_snoc,List.length_append,List.length_append,size_data]
 simp only [List.length_cons,List.length_nil]
 omega
theorem enc_acts (t:Tb) (i:Nat): ∃rest,encB t=(83::1::u8 t.acts.length::actsB (t.acts.take i))++(actsB (t.acts.drop i)++rest)∧rest=u8 t.nx.length::rowsB t.fl t.nx++sum2 (bodyB t):=by
 refine ⟨_, ?_,rfl⟩
 have e:actsB t.acts=actsB (t.acts.take i)++actsB (t.acts.drop i):=by rw [←actsB_app,List.take_append_drop]
 unfold encB
 generalize sum2 (bodyB t)=q
 unfold bodyB
 rw [e]
 simp
theorem len_pre (t:Tb) (i:Nat):(83::1::u8 t.acts.length::actsB (t.acts.take i)).length=atA (t.acts.take i):=by
 unfold atA
 simp only [List.length_cons]
 omega
theorem enc_name {t:Tb} {i:Nat} {a:ByteArray} (h:t.acts[i]? =some a):
  (encB t)[atA (t.acts.take i)]? =some (u8 a.size)∧((encB t).drop (atA (t.acts.take i)+1)).take a.size=a.data.toList∧atA (t.acts.take i)+1+a.size<(encB t).length:=by
 obtain ⟨rest,h1,h2⟩:=enc_acts t i
 have hi:=(List.getElem?_eq_some_iff.1 h).1
 have hd:t.acts.drop i=a::t.acts.drop (i+1):=by
  rw [List.drop_eq_getElem_cons hi]
  congr 1
  rw [List.getElem?_eq_getElem hi] at h
  exact Option.some.inj h
 rw [hd,actsB] at h1
 have hl:=len_pre t i
 have hr:1≤rest.length:=by rw [h2];simp
 refine ⟨?_, ?_, ?_⟩
 ·rw [h1,List.getElem?_append_right (by rw [hl];exact Nat.le_refl _),hl,Nat.sub_self]
  rfl
 ·rw [h1,←hl,List.drop_append,List.drop_of_length_le (by omega),List.nil_append]
  rw [show (83::1::u8 t.acts.length::actsB (t.acts.take i)).length+1 - (83::1::u8 t.acts.length::actsB (t.acts.take i)).length=1 by omega]
  simp only [List.cons_append,List.drop_succ_cons,List.drop_zero,List.append_assoc]
  rw [List.take_append_of_le_length (by rw [size_data];exact Nat.le_refl _),List.take_of_length_le (by rw [size_data];exact Nat.le_refl _)]
 ·rw [h1,List.length_append,hl]
  simp only [List.length_append,List.length_cons,size_data]
  omega
theorem pre2_len (t:Tb):(pre2 t 0).length=atA t.acts+1:=by
 rw [pre2_first]
 unfold pre1 atA
 rw [List.take_length]
 simp only [List.length_append,List.length_cons,List.length_nil]
theorem rowsB_length (A:Nat): ∀(fs:List Nat) (l:List (List Nat)),fs.length=l.length→(∀r∈l,r.length=A)→(rowsB fs l).length=l.length * (1+A)
 |[],[],_,_=>by simp [rowsB]
 |[],_::_,h,_=>by simp at h
 |_::_,[],h,_=>by simp at h
 |f::fs,r::l,h,hr=>by
  rw [rowsB,List.length_cons,List.length_append,List.length_map,rowsB_length A fs l (by simpa using h) (fun q hq=>hr q (List.mem_cons_of_mem _ hq)),hr r (List.mem_cons_self ..),List.length_cons,Nat.add_mul]
  omega
theorem enc_rows {t:Tb} (hf:t.fl.length=t.nx.length) (k:Nat):encB t=pre2 t k++(rowsB (t.fl.drop k) (t.nx.drop k)++sum2 (bodyB t)):=by
 have e:rowsB t.fl t.nx=rowsB (t.fl.take k) (t.nx.take k)++rowsB (t.fl.drop k) (t.nx.drop k):=by
  rw [←rowsB_app _ _ _ _ (by simp [hf]),List.take_append_drop,List.take_append_drop]
 unfold encB
 generalize sum2 (bodyB t)=q
 unfold bodyB pre2 pre1
 rw [e,List.take_length]
 simp
theorem enc_state {t:Tb} (hf:t.fl.length=t.nx.length) {k f:Nat} {r:List Nat} (h1:t.fl[k]? =some f) (h2:t.nx[k]? =some r):
  (encB t)[(pre2 t k).length]? =some (u8 f)∧ ∀j x,r[j]? =some x→(encB t)[(pre2 t k).length+1+j]? =some (u8 x):=by
 have hkf:=(List.getElem?_eq_some_iff.1 h1).1
 have hkx:=(List.getElem?_eq_some_iff.1 h2).1
 have e1:t.fl.drop k=f::t.fl.drop (k+1):=by
  rw [List.drop_eq_getElem_cons hkf]
  rw [List.getElem?_eq_getElem hkf] at h1
  rw [Option.some.inj h1]
 have e2:t.nx.drop k=r::t.nx.drop (k+1):=by
  rw [List.drop_eq_getElem_cons hkx]
  rw [List.getElem?_eq_getElem hkx] at h2
  rw [Option.some.inj h2]
 have e:=enc_rows hf k
 rw [e1,e2,rowsB] at e
 constructor
 ·rw [e,List.getElem?_append_right (Nat.le_refl _),Nat.sub_self]
  rfl
 ·intro j x hx
  have hj:=(List.getElem?_eq_some_iff.1 hx).1
  rw [e,List.getElem?_append_right (by omega),show (pre2 t k).length+1+j - (pre2 t k).length=j+1 by omega,List.cons_append,List.getElem?_cons_succ,List.append_assoc,List.getElem?_append_left (by rw [List.length_map];exact hj),List.getElem?_map,hx]
  rfl
theorem enc_count {t:Tb} (hR:RightT t):(encB t)[atA t.acts]? =some (u8 t.nx.length)∧atA t.acts+1+t.nx.length * (1+t.acts.length)<(encB t).length:=by
 have e:=enc_rows hR.fl 0
 rw [List.drop_zero,List.drop_zero] at e
 have hl:=pre2_len t
 constructor
 ·rw [e,List.getElem?_append_left (by omega),pre2_first]
  have h3:(pre1 t t.acts.length).length=atA t.acts:=by rw [pre2_first,List.length_append] at hl;simpa using hl
  rw [List.getElem?_append_right (by omega),h3,Nat.sub_self]
  rfl
 ·rw [e,List.length_append,List.length_append,hl,rowsB_length t.acts.length _ _ hR.fl (fun r hr=>(hR.rs r hr).1)]
  have:(sum2 (bodyB t)).length=2:=rfl
  omega
theorem enc_two (t:Tb):(encB t)[2]? =some (u8 t.acts.length):=rfl
theorem pre2_next {t:Tb} (hR:RightT t) {k f:Nat} {r:List Nat} (h1:t.fl[k]? =some f) (h2:t.nx[k]? =some r):(pre2 t (k+1)).length=(pre2 t k).length+1+t.acts.length:=by
 rw [pre2_succ hR.fl h1 h2]
 simp only [List.length_append,List.length_cons,List.length_nil,List.length_map]
 rw [(hR.rs r (List.mem_of_getElem? h2)).1]
theorem ext_list (s:ByteArray) (i j:Nat):(s.extract i j).data.toList=(s.data.toList.drop i).take (j - i):=by
 rw [ByteArray.data_extract,Array.toList_extract,List.extract_eq_take_drop]
theorem pre2_at {t:Tb} (hR:RightT t): ∀{k:Nat},k≤t.nx.length→(pre2 t k).length=atA t.acts+1+k * (1+t.acts.length)
 |0,_=>by rw [pre2_len];simp
 |k+1,h=>by
  have hkf:k<t.fl.length:=by rw [hR.fl];exact h
  rw [pre2_next hR (List.getElem?_eq_getElem hkf) (List.getElem?_eq_getElem h),pre2_at hR (by omega),Nat.add_mul]
  omega
section
variable {s : ByteArray}
def Dn (s:ByteArray) (i:Nat) (ac:List ByteArray):Prop:= ∀t,RightT t→encB t=s.data.toList→ac=t.acts.take i
theorem Dn.start (s:ByteArray):Dn s 0 []:=fun t _ _=>by rw [List.take_zero]
theorem dec_two {c:Nat} (hc: ∀h:2<s.size,s[2].toNat=c): ∀t,RightT t→encB t=s.data.toList→t.acts.length=c:=fun t ht he=>by
 have h1:=enc_two t
 have hl:=ht.many
 rw [he] at h1 hl
 have h2:2<s.size:=by rw [←size_data];omega
 have h3:s.data.toList[2]? =some s[2]:=by
  rw [List.getElem?_eq_getElem (by rw [size_data];exact h2)]
  rfl
 rw [h3] at h1
 have h4:=hc h2
 rw [Option.some.inj h1,u8_toNat (by have:=ht.acts.n6;omega)] at h4
 exact h4
theorem s_at {k:Nat} (h:k<s.size):s.data.toList[k]? =some s[k]:=by
 rw [List.getElem?_eq_getElem (by rw [size_data];exact h)]
 rfl
theorem Dn.inside {i c:Nat} {ac:List ByteArray} (h:Dn s i ac) (hi:i<c) {t:Tb} (ht:RightT t) (he:encB t=s.data.toList) (hl:t.acts.length=c): ∃a,t.acts[i]? =some a∧ac=t.acts.take i∧(∃hk:atA ac<s.size,s[atA ac].toNat=a.size)∧atA ac+1+a.size<s.size∧(s.extract (atA ac+1) (atA ac+1+a.size))=a:=by
 have hil:i<t.acts.length:=by omega
 have hac:=h t ht he
 obtain ⟨h1,h2,h3⟩:=enc_name (List.getElem?_eq_getElem hil)
 rw [he,←hac] at h1 h2 h3
 rw [size_data] at h3
 have hk:atA ac<s.size:=by omega
 rw [s_at hk] at h1
 have h8:=(ht.acts.nm _ (List.getElem_mem hil)).n8
 refine ⟨_,List.getElem?_eq_getElem hil,hac,⟨hk,by rw [Option.some.inj h1,u8_toNat (by omega)]⟩,h3, ?_⟩
 apply byte_inj
 rw [ext_list,Nat.add_sub_cancel_left]
 exact h2
theorem Dn.next {i c n:Nat} {ac:List ByteArray} (h:Dn s i ac) (hi:i<c) (hc: ∀t,RightT t→encB t=s.data.toList→t.acts.length=c) (hk:atA ac<s.size) (hn:s[atA ac].toNat=n):Dn s (i+1) (ac++[s.extract (atA ac+1) (atA ac+1+n)]):=fun t ht he=>by
 obtain ⟨a,h1,h2,⟨_,h3⟩,_,h5⟩:=h.inside hi ht he (hc t ht he)
 rw [h3] at hn
 rw [←hn,h5,List.take_add_one,h1,←h2]
 rfl
theorem Dn.fail {i c:Nat} {ac:List ByteArray} (h:Dn s i ac) (hi:i<c) (hc: ∀t,RightT t→encB t=s.data.toList→t.acts.length=c) (hbad: ∀hk:atA ac<s.size,s.size<atA ac+1+s[atA ac].toNat):DecR s.data.toList none:=fun t ht he=>by
 obtain ⟨a,h1,h2,⟨hk,h3⟩,h4,h5⟩:=h.inside hi ht he (hc t ht he)
 have:=hbad hk
 omega
theorem atA_next {ac:List ByteArray} {n:Nat} (h:atA ac+1+n≤s.size):atA (ac++[s.extract (atA ac+1) (atA ac+1+n)])=atA ac+1+n:=by
 rw [atA_snoc,ByteArray.size_extract]
 omega
theorem dec_count {c:Nat} {ac:List ByteArray} (h:Dn s c ac) (hc: ∀t,RightT t→encB t=s.data.toList→t.acts.length=c) {t:Tb} (ht:RightT t) (he:encB t=s.data.toList):ac=t.acts∧(∃hk:atA ac<s.size,s[atA ac].toNat=t.nx.length)∧atA ac+1+t.nx.length * (1+ac.length)<s.size:=by
 have hac:ac=t.acts:=by rw [h t ht he,List.take_of_length_le (by rw [hc t ht he];exact Nat.le_refl _)]
 obtain ⟨h1,h2⟩:=enc_count ht
 rw [he,←hac] at h1 h2
 rw [size_data] at h2
 have hk:atA ac<s.size:=by omega
 rw [s_at hk] at h1
 exact ⟨hac,⟨hk,by rw [Option.some.inj h1,u8_toNat (by have:=ht.n100;omega)]⟩,h2⟩
theorem dec_count_fail {c:Nat} {ac:List ByteArray} (h:Dn s c ac) (hc: ∀t,RightT t→encB t=s.data.toList→t.acts.length=c) (hbad: ∀hk:atA ac<s.size,s.size<atA ac+1+s[atA ac].toNat * (1+ac.length)):DecR s.data.toList none:=fun t ht he=>by
 obtain ⟨_,⟨hk,h1⟩,h2⟩:=dec_count h hc ht he
 have:=hbad hk
 rw [h1] at this
 omega
def Ds (s:ByteArray) (ac:List ByteArray) (n i:Nat) (fl:List Nat) (nx:List (List Nat)):Prop:= ∀t,RightT t→encB t=s.data.toList→ac=t.acts∧t.nx.length=n∧fl=t.fl.take i∧nx=t.nx.take i
theorem Ds.start {c n:Nat} {ac:List ByteArray} (h:Dn s c ac) (hc: ∀t,RightT t→encB t=s.data.toList→t.acts.length=c) (hn: ∀hk:atA ac<s.size,s[atA ac].toNat=n):Ds s ac n 0 [] []:=fun t ht he=>by
 obtain ⟨h1,⟨hk,h2⟩,_⟩:=dec_count h hc ht he
 exact ⟨h1,by rw [←h2];exact hn hk,by rw [List.take_zero],by rw [List.take_zero]⟩
theorem Ds.at_ {ac:List ByteArray} {n i:Nat} {fl:List Nat} {nx:List (List Nat)} (h:Ds s ac n i fl nx) (hi:i<n) {t:Tb} (ht:RightT t) (he:encB t=s.data.toList): ∃f r,t.fl[i]? =some f∧t.nx[i]? =some r∧r.length=ac.length∧s.data.toList[atA ac+1+i * (1+ac.length)]? =some (u8 f)∧f≤3∧ ∀j x,r[j]? =some x→s.data.toList[atA ac+1+i * (1+ac.length)+1+j]? =some (u8 x)∧x<256:=by
 obtain ⟨h1,h2,_,_⟩:=h t ht he
 have hix:i<t.nx.length:=by omega
 have hif:i<t.fl.length:=by rw [ht.fl];exact hix
 obtain ⟨k1,k2⟩:=enc_state ht.fl (List.getElem?_eq_getElem hif) (List.getElem?_eq_getElem hix)
 rw [he,pre2_at ht (Nat.le_of_lt hix),←h1] at k1
 have hr:=ht.rs _ (List.getElem_mem hix)
 refine ⟨_,_,List.getElem?_eq_getElem hif,List.getElem?_eq_getElem hix,by rw [h1];exact hr.1,k1,ht.fs _ (List.getElem_mem hif),fun j x hx=>⟨?_, ?_⟩⟩
 ·have:=k2 j x hx
  rw [he,pre2_at ht (Nat.le_of_lt hix),←h1] at this
  exact this
 ·have:=hr.2 x (List.mem_of_getElem? hx)
  have:=ht.n100
  omega
def Dr (s:ByteArray) (ac:List ByteArray) (i a f:Nat) (q:List Nat):Prop:= ∀t,RightT t→encB t=s.data.toList→t.fl[i]? =some f∧ ∃r,t.nx[i]? =some r∧q=r.take a
theorem Dr.start {ac:List ByteArray} {n i:Nat} {fl:List Nat} {nx:List (List Nat)} (h:Ds s ac n i fl nx) (hi:i<n) {p:Nat} (hp:p=atA ac+1+i * (1+ac.length)) (hk:p<s.size):Dr s ac i 0 s[p].toNat []:=fun t ht he=>by
 subst hp
 obtain ⟨f,r,h1,h2,_,h4,h5,_⟩:=h.at_ hi ht he
 rw [s_at hk] at h4
 exact ⟨by rw [Option.some.inj h4,u8_toNat (by omega)];exact h1,r,h2,by rw [List.take_zero]⟩
theorem Dr.next {ac:List ByteArray} {n i a f:Nat} {fl q:List Nat} {nx:List (List Nat)} (h:Ds s ac n i fl nx) (hi:i<n) (hd:Dr s ac i a f q) (ha:a<ac.length) {p:Nat} (hp:p=atA ac+1+i * (1+ac.length)+1+a) (hk:p<s.size):Dr s ac i (a+1) f (q++[s[p].toNat]):=fun t ht he=>by
 subst hp
 obtain ⟨f',r,h1,h2,h3,_,_,h6⟩:=h.at_ hi ht he
 obtain ⟨k1,r',k2,k3⟩:=hd t ht he
 rw [h2] at k2
 cases k2
 have har:a<r.length:=by omega
 obtain ⟨e1,e2⟩:=h6 a r[a] (List.getElem?_eq_getElem har)
 rw [s_at hk] at e1
 refine ⟨k1,r,h2, ?_⟩
 rw [List.take_add_one,List.getElem?_eq_getElem har,k3,Option.some.inj e1,u8_toNat e2]
 rfl
theorem Ds.next {ac:List ByteArray} {n i f:Nat} {fl q:List Nat} {nx:List (List Nat)} (h:Ds s ac n i fl nx) (hi:i<n) (hd:Dr s ac i ac.length f q):Ds s ac n (i+1) (fl++[f]) (nx++[q]):=fun t ht he=>by
 obtain ⟨h1,h2,h3,h4⟩:=h t ht he
 obtain ⟨k1,r,k2,k3⟩:=hd t ht he
 have hr:=(ht.rs r (List.mem_of_getElem? k2)).1
 refine ⟨h1,h2,by rw [List.take_add_one,k1,h3];rfl, ?_⟩
 have e:r.take ac.length=r:=List.take_of_length_le (by rw [hr,h1];exact Nat.le_refl _)
 rw [List.take_add_one,k2,h4,k3,e]
 rfl
theorem Ds.done {ac:List ByteArray} {n:Nat} {fl:List Nat} {nx:List (List Nat)} (h:Ds s ac n n fl nx): ∀t,RightT t→encB t=s.data.toList→t=⟨ac,fl,nx⟩:=fun t ht he=>by
 obtain ⟨h1,h2,h3,h4⟩:=h t ht he
 rw [List.take_of_length_le (by rw [ht.fl,h2];exact Nat.le_refl _)] at h3
 rw [List.take_of_length_le (by omega)] at h4
 rw [h1,h3,h4]
end
end Go.Proofs.YtidakhhekofkoaaGreatDoor
namespace Go.Proofs.YtidakhhekofkoaaGreatDoor
open Go.RowKit Go.Deep
structure DcP (w W:World) (tb:Nat) (A F X:Value) (t:Tb) (rv:List Value):Prop where
 res:W.heap[w.heap.size]? =some (.cells #[.slice none 0 0,.slice none 0 0,.slice none 0 0] 36 (0,0))
 blk:W.heap[tb]? =some (.cells #[A,F,X] 36 (0,0))
 htb:w.heap.size<tb
 tab:TbV W w.heap.size A F X t rv
 bel:Below w.heap.size w W
section
variable {w W W' : World} {tb : Nat} {A F X : Value} {t : Tb} {rv : List Value}
theorem DcP.later (h:DcP w W tb A F X t rv) (hb:Below W.heap.size W W'):DcP w W' tb A F X t rv:=
 ⟨(hb.block _ (lt_of_blk h.res)).trans h.res,(hb.block _ (lt_of_blk h.blk)).trans h.blk,h.htb,h.tab.later hb,h.bel.trans (hb.mono h.bel.size)⟩
theorem DcP.own (h:DcP w W tb A F X t rv) {e n z:Nat} {v:Value} {xs:List Value} (hv:W.ownsRow w.heap.size e z v n xs) (hg:W.grownBy W' v.ownBlock) (he:e≠36) {A' F' X':Value} {t':Tb} {rv':List Value} (ht:TbV W' w.heap.size A' F' X' t' rv') (i:Nat) (x:Value) (hc:(#[A,F,X]:Array Value).setIfInBounds i x= #[A',F',X']):DcP w (W'.setCell ⟨tb,i,none⟩ x) tb A' F' X' t' rv':=by
 have h1:=(hg.block _ (lt_of_blk h.res) (fun e1=>own_ty hv e1.symm h.res (fun e2=>he e2.symm))).trans h.res
 have h2:=(hg.block _ (lt_of_blk h.blk) (fun e1=>own_ty hv e1.symm h.blk (fun e2=>he e2.symm))).trans h.blk
 have hb:=h.bel.grown hg h.bel.size (fun b hb=>(own_lt hv b hb).1)
 have htb:=h.htb
 refine ⟨(Below.heap_setCell _ _ _ _ (by show w.heap.size≠tb;omega)).trans h1, ?_,htb,ht.cellO h2 (by decide) i x,hb.setCell (p:=⟨tb,i,none⟩) (by show _≤tb;omega) _⟩
 have:=blk_set h2 i x
 rw [hc] at this
 exact this
theorem DcP.act (h:DcP w W tb A F X t rv) {A':Value} {s:ByteArray} (ho:W'.ownsRow w.heap.size 9 1 A' (t.acts.length+1) (strsC t.acts++[.string s])) (hg:W.grownBy W' A.ownBlock):DcP w (W'.setCell ⟨tb,0,none⟩ A') tb A' F X ⟨t.acts++[s],t.fl,t.nx⟩ rv:=
 h.own h.tab.acts hg (by decide) (h.tab.act ho hg) 0 A' rfl
theorem DcP.flag (h:DcP w W tb A F X t rv) {F':Value} {f:Nat} (ho:W'.ownsRow w.heap.size 3 1 F' (t.fl.length+1) (intC t.fl++[.int .i64 (f:Int)])) (hg:W.grownBy W' F.ownBlock) {g':Nat} (hF':F'.ownBlock=some g') (hat:F.ownBlock=some g'∨W.heap.size≤g'):DcP w (W'.setCell ⟨tb,1,none⟩ F') tb A F' X ⟨t.acts,t.fl++[f],t.nx⟩ rv:=
 h.own h.tab.fl hg (by decide) (h.tab.flag ho hg hF' hat) 1 F' rfl
theorem DcP.row (h:DcP w W tb A F X t rv) {v:Value} {q:List Nat} (hu:RwU W w.heap.size F rv v q) {X':Value} (ho:W'.ownsRow w.heap.size 33 1 X' (t.nx.length+1) (rv++[v])) (hg:W.grownBy W' X.ownBlock):DcP w (W'.setCell ⟨tb,2,none⟩ X') tb A F X' ⟨t.acts,t.fl,t.nx++[q]⟩ (rv++[v]):=
 h.own h.tab.nx hg (by decide) (h.tab.row hu ho hg) 2 X' rfl
theorem DcP.num (h:DcP w W tb A F X t rv) {v v':Value} {q:List Nat} (hu:RwU W w.heap.size F rv v q) {x:Nat} (ho:W'.ownsRow w.heap.size 3 1 v' (q.length+1) (intC q++[.int .i64 (x:Int)])) (hg:W.grownBy W' v.ownBlock) {g':Nat} (hv':v'.ownBlock=some g') (hat:v.ownBlock=some g'∨W.heap.size≤g'):
  DcP w W' tb A F X t rv∧RwU W' w.heap.size F rv v' (q++[x]):=by
 obtain ⟨t1,u1⟩:=h.tab.num hu ho hg hv' hat
 exact ⟨⟨(hg.block _ (lt_of_blk h.res) (fun e1=>own_ty hu.own e1.symm h.res (by decide))).trans h.res,(hg.block _ (lt_of_blk h.blk) (fun e1=>own_ty hu.own e1.symm h.blk (by decide))).trans h.blk,h.htb,t1,h.bel.grown hg h.bel.size (fun b hb=>(own_lt hu.own b hb).1)⟩,u1⟩
end
theorem EncodeR_n (w:World) (ao fo no:Option Addr) (na ac nf fc nn nc:Nat) (z:Tz) (hI:TbI w ao fo no ac z) (h1:z.acts.length=na) (h2:z.fl.length=nf) (h3:z.nx.length=nn):
  Calls Tryz.prog 102 #[.agg #[.slice ao na ac,.slice fo nf fc,.slice no nn nc]] w fun e w'=>EncP z e∧Below w.heap.size w w':=by
 subst h1 h2 h3;exact EncodeR_any w ao fo no ac fc nc z hI
set_option maxHeartbeats 16000000 in
set_option maxRecDepth 100000 in
theorem DecodeR_any (w:World) (b:ByteArray):
  Calls Tryz.prog 145 #[.string b] w fun e w'=> ∃o,DecR b.data.toList o∧DecP okE w o w' e:=by
 have hbz:Below w.heap.size w (w.alloc (.cells #[.slice none 0 0,.slice none 0 0,.slice none 0 0] 36)):=(Below.refl _ _).alloc (Nat.le_refl _) _
 have HBZ:=hide hbz
 have HR0:=hide (blk_alloc w (.cells #[.slice none 0 0,.slice none 0 0,.slice none 0 0] 36))
 clear hbz
 by_cases hbad:1000<b.size∨b.size<3
 ·have HFAIL:Hid (DecR b.data.toList none):=fun t ht he=>by
   have h1:=ht.few
   have h2:=ht.many
   rw [he,size_data] at h1 h2
   omega
  have hfail:(1000<(b.size:Int))∨¬ (1000<(b.size:Int))∧(b.size:Int)<3:=by omega
  clear hbad
  go_enter Tryz.func145,Tryz.ntmps145
  rcases hfail with hd|⟨hd,h3⟩
  all_goals (
   go_wp2_with fail
   generalize w.alloc (.cells #[.slice none 0 0,.slice none 0 0,.slice none 0 0] 36)=wr at *
   have fcc:=fun o=>cell_of_blk (unhide HR0) o
   refine bodyPost_ret (v:= .tuple #[.agg #[.slice none 0 0,.slice none 0 0,.slice none 0 0],.int .i64 6]) (by simp [results,Tryz.results145,go_sem,fcc]) rfl ?_
   exact ⟨none,unhide HFAIL,unhide HBZ,rfl⟩)
 ·have h1000:¬ 1000<(b.size:Int):=by omega
  have h3:¬ (b.size:Int)<3:=by omega
  have h2s:2<b.size:=by omega
  have h2i:(2:Int)<(b.size:Int):=by omega
  have hbl:b.size≤1000:=by omega
  have hDP0:DcP w ((w.alloc (.cells #[.slice none 0 0,.slice none 0 0,.slice none 0 0] 36)).alloc (.cells #[.slice none 0 0,.slice none 0 0,.slice none 0 0] 36)) (w.heap.size+1) (.slice none 0 0) (.slice none 0 0) (.slice none 0 0) ⟨[],[],[]⟩ []:=
   ⟨(Below.heap_alloc _ _ _ (by simp)).trans (blk_alloc _ _),blk_alloc' _ _ _ (by simp),by omega,⟨World.ownsRow_nil _ _ _ _,World.ownsRow_nil _ _ _ _,World.ownsRow_nil _ _ _ _,fun j r hr=>by simp at hr,fun v hv=>by simp at hv,List.Pairwise.nil⟩,((Below.refl _ _).alloc (Nat.le_refl _) _).alloc (by simp) _⟩
  have HDP0:=hide hDP0
  have HC:=hide (dec_two (s:=b) (c:=b[2].toNat) (fun _=>rfl))
  have hcl:b[2].toNat≤255:=by have:=b[2].toNat_lt;omega
  clear hbad hDP0 HBZ HR0
  go_enter Tryz.func145,Tryz.ntmps145
  go_wp2_with fail
  generalize ((w.alloc (.cells #[.slice none 0 0,.slice none 0 0,.slice none 0 0] 36)).alloc (.cells #[.slice none 0 0,.slice none 0 0,.slice none 0 0] 36))=W0 at *
  go_loopw [5,6] (fun y x wr=> ∃(i p:Nat) (ao:Option Addr) (ac:Nat) (l:List ByteArray),y= .int .i64 p∧x= .int .i64 i∧i≤b[2].toNat∧p≤b.size∧Hid (DcP w wr (w.heap.size+1) (.slice ao i ac) (.slice none 0 0) (.slice none 0 0) ⟨l,[],[]⟩ [])∧Hid (l.length=i)∧Hid (Dn b i l)∧Hid (p=atA l)) (fun _ x _=>b[2].toNat - (intOf x).toNat)
  case atStart=>exact ⟨0,3,none,0,[],rfl,rfl,Nat.zero_le _,by omega,HDP0,rfl,Dn.start b,rfl⟩
  case round=>
   obtain ⟨i,p,ao,ac,l,rfl,rfl,hic,hpb,HD,HL,HDN,HP⟩:=hrel
   have tc:=fun o=>cell_of_blk (unhide HD).blk o
   have tf:=fun o=>frozen_of_blk (unhide HD).blk o
   have tl:=lt_of_blk (unhide HD).blk
   by_cases hlt:i<b[2].toNat
   ·have hkn:(i:Int)<(b[2].toNat:Int):=by omega
    by_cases hp:p<b.size
    ·have hp1:¬ (b.size:Int)≤(p:Int):=by omega
     have hpi:(p:Int)<(b.size:Int):=by omega
     have hbd:b[p].toNat≤255:=by have:=b[p].toNat_lt;omega
     by_cases hn:p+1+b[p].toNat≤b.size
     ·have hn1:¬ (b.size:Int)<(p:Int)+1+(b[p].toNat:Int):=by omega
      have HOA:Hid (wr.ownsRow w.heap.size 9 1 (.slice ao i ac) i (strsC l)):=by
       have h1:wr.ownsRow w.heap.size 9 1 (.slice ao i ac) l.length (strsC l):=(unhide HD).tab.acts
       rw [unhide HL] at h1
       exact h1
      have HDN2:Hid (Dn b (i+1) (l++[b.extract (p+1) (p+1+b[p].toNat)])):=by
       have hpe:=unhide HP
       subst hpe
       exact (unhide HDN).next hlt (unhide HC) hp rfl
      have HP2:Hid (p+1+b[p].toNat=atA (l++[b.extract (p+1) (p+1+b[p].toNat)])):=by
       have hpe:=unhide HP
       subst hpe
       exact (atA_next hn).symm
      obtain ⟨x,hx⟩: ∃x,b.extract (p+1) (p+1+b[p].toNat)=x:=⟨_,rfl⟩
      rw [hx] at HDN2 HP2
      have hwr1:IntKind.i64.wrap ((p:Int)+1)=(p:Int)+1:=by rw [IntKind.wrap_i64];omega
      have hs0:(0:Int)≤(p:Int)+1+(b[p].toNat:Int):=by omega
      have hs1:(0:Int)≤(p:Int)+1:=by omega
      have hs2:(p:Int)+1≤(p:Int)+1+(b[p].toNat:Int):=by omega
      have hs3:((p:Int)+1+(b[p].toNat:Int)).toNat=p+1+b[p].toNat:=by omega
      have hwr2:IntKind.i64.wrap ((p:Int)+1+(b[p].toNat:Int))=(p:Int)+1+(b[p].toNat:Int):=by rw [IntKind.wrap_i64];omega
      go_wp2_with fail
      have hba:Below wr.heap.size wr (wr.alloc (.cells #[.string x] 9)).drew:=((Below.refl _ _).alloc (Nat.le_refl _) _).drew
      have hsz:w.heap.size≤(wr.alloc (.cells #[.string x] 9)).drew.heap.size:=Nat.le_trans (unhide HD).bel.size hba.size
      refine wp_region_held_drew (S:=fun _=>True) (by kernel_rfl) ?_ (fun hHeld=> ?_)
      ·exact trivial
      refine wpAnyH_take (i:=0) (v:= .pointer (some ⟨w.heap.size+1,0,none⟩)) rfl (by kernel_rfl) (by kernel_rfl) (by kernel_rfl) (fun _ _ _ h=>h) (Or.inl ⟨by kernel_rfl,fun w hw=>by have _:=hw;go_simp⟩) hHeld ?_
      try simp only [Act.put,List.setIfInBounds_toArray,List.set_cons_zero,List.set_cons_succ,List.getElem_toArray,List.getElem_cons_succ,List.getElem_cons_zero]
      refine wpAnyH_take (i:=2) (v:= .string b) rfl (by kernel_rfl) (by kernel_rfl) (by kernel_rfl) (fun _ _ _ h=>h) (Or.inl ⟨by kernel_rfl,fun w hw=>by have _:=hw;go_simp⟩) hHeld ?_
      try simp only [Act.put,List.setIfInBounds_toArray,List.set_cons_zero,List.set_cons_succ,List.getElem_toArray,List.getElem_cons_succ,List.getElem_cons_zero]
      refine wpAnyH_take (i:=3) (v:= .int .i64 (p:Int)) rfl (by kernel_rfl) (by kernel_rfl) (by kernel_rfl) (fun _ _ _ h=>h) (Or.inl ⟨by kernel_rfl,fun w hw=>by have _:=hw;go_simp⟩) hHeld ?_
      try simp only [Act.put,List.setIfInBounds_toArray,List.set_cons_zero,List.set_cons_succ,List.getElem_toArray,List.getElem_cons_succ,List.getElem_cons_zero]
      refine wpAnyH_take (i:=4) (v:= .int .i64 ((p:Int)+1)) rfl (by kernel_rfl) (by kernel_rfl) (by kernel_rfl) (fun _ _ _ h=>h) (Or.inl ⟨by kernel_rfl,fun w hw=>by have _:=hw;go_simp⟩) hHeld ?_
      try simp only [Act.put,List.setIfInBounds_toArray,List.set_cons_zero,List.set_cons_succ,List.getElem_toArray,List.getElem_cons_succ,List.getElem_cons_zero]
      refine wpAnyH_take (i:=5) (v:= .int .i64 (p:Int)) rfl (by kernel_rfl) (by kernel_rfl) (by kernel_rfl) (fun _ _ _ h=>h) (Or.inl ⟨by kernel_rfl,fun w hw=>by have _:=hw;go_simp⟩) hHeld ?_
      try simp only [Act.put,List.setIfInBounds_toArray,List.set_cons_zero,List.set_cons_succ,List.getElem_toArray,List.getElem_cons_succ,List.getElem_cons_zero]
      refine wpAnyH_take (i:=6) (v:= .int .i64 ((p:Int)+1)) rfl (by kernel_rfl) (by kernel_rfl) (by kernel_rfl) (fun _ _ _ h=>h) (Or.inl ⟨by kernel_rfl,fun w hw=>by have _:=hw;go_simp⟩) hHeld ?_
      try simp only [Act.put,List.setIfInBounds_toArray,List.set_cons_zero,List.set_cons_succ,List.getElem_toArray,List.getElem_cons_succ,List.getElem_cons_zero]
      refine wpAnyH_take (i:=7) (v:= .int .i64 (b[p].toNat:Int)) rfl (by kernel_rfl) (by kernel_rfl) (by kernel_rfl) (fun _ _ _ h=>h) (Or.inl ⟨by kernel_rfl,fun w hw=>by have _:=hw;go_simp⟩) hHeld ?_
      try simp only [Act.put,List.setIfInBounds_toArray,List.set_cons_zero,List.set_cons_succ,List.getElem_toArray,List.getElem_cons_succ,List.getElem_cons_zero]
      refine wpAnyH_take (i:=8) (v:= .int .i64 ((p:Int)+1+b[p].toNat)) rfl (by kernel_rfl) (by kernel_rfl) (by kernel_rfl) (fun _ _ _ h=>h) (Or.inl ⟨by kernel_rfl,fun w hw=>by have _:=hw;go_simp⟩) hHeld ?_
      try simp only [Act.put,List.setIfInBounds_toArray,List.set_cons_zero,List.set_cons_succ,List.getElem_toArray,List.getElem_cons_succ,List.getElem_cons_zero]
      refine wpAnyH_take (i:=9) (v:= .string x) rfl (by kernel_rfl) (by kernel_rfl) (by kernel_rfl) (fun _ _ _ h=>h) (Or.inl ⟨by kernel_rfl,fun w hw=>by have _:=hw;go_simp⟩) hHeld ?_
      try simp only [Act.put,List.setIfInBounds_toArray,List.set_cons_zero,List.set_cons_succ,List.getElem_toArray,List.getElem_cons_succ,List.getElem_cons_zero]
      refine wpAnyH_ready (rs:=[1,10]) (by kernel_rfl) (by simp) ?_
      refine AllReadyH.cons rfl (fun K hK=> ?ra) (AllReadyH.cons rfl (fun K hK=> ?rb) AllReadyH.nil)
      case' ra=>(go_simp;refine hK.out _ _ hHeld (fun hHeld=> ?_);clear hK K;refine wpAnyH_ready (rs:=[10]) (by kernel_rfl) (by simp) ?_;refine AllReadyH.cons rfl (fun K hK=> ?_) AllReadyH.nil;go_simp;refine hK.out _ _ trivial (fun hHeld=> ?_);clear hK K)
      case' rb=>(go_simp;refine hK.out _ _ trivial (fun hHeld=> ?_);clear hK K;refine wpAnyH_ready (rs:=[1]) (by kernel_rfl) (by simp) ?_;refine AllReadyH.cons rfl (fun K hK=> ?_) AllReadyH.nil;go_simp;refine hK.out _ _ hHeld (fun hHeld=> ?_);clear hK K)
      all_goals (
       refine wpAnyH_ready (rs:=[11]) (by kernel_rfl) (by simp) ?_
       refine AllReadyH.cons rfl (fun K hK=> ?_) AllReadyH.nil
       refine stp1 (by rfl) _ _ 25 (by rfl) w.heap.size 9 infoVs rfl Tryz.underlying25 (v:= .slice ao i ac) (n:=i) (xs:=strsC l) (by rfl) (H:=wr.heap.size) (.string x) (by rfl) rfl (owns_later (unhide HOA) hba) (blk_alloc wr _) (by omega) hsz ?_
       intro g4 cap4 w4 hown4 hgrow4 hat4
       have hgrow5:(wr.alloc (.cells #[.string x] 9)).drew.grownBy w4 (Value.slice ao i ac).ownBlock:=hgrow4
       have hdl:=(unhide HD).later hba
       have hblk4:=(hgrow5.block _ (lt_of_blk hdl.blk) (fun e=>own_ty hdl.tab.acts e.symm hdl.blk (by decide))).trans hdl.blk
       have tc4:=cell_of_blk hblk4 0
       have tf4:=frozen_of_blk hblk4 0
       have tl4:=lt_of_blk hblk4
       have HD4:=hide (hdl.act (A':= .slice (some ⟨g4,0,none⟩) (i+1) cap4) (s:=x) (by show World.ownsRow _ _ _ _ _ (l.length+1) _;rw [unhide HL];exact hown4) hgrow5)
       refine hK.out _ _ trivial (fun hHeld=> ?_)
       clear hK K
       clear hown4 hgrow4 hat4 hgrow5 hdl hblk4 tc tf tl
       refine wpAnyH_take (i:=12) (v:= .pointer (some ⟨w.heap.size+1,0,none⟩)) rfl (by kernel_rfl) (by kernel_rfl) (by kernel_rfl) (fun _ _ _ h=>h) (Or.inl ⟨by kernel_rfl,fun w hw=>by have _:=hw;go_simp⟩) hHeld ?_
       try simp only [Act.put,List.setIfInBounds_toArray,List.set_cons_zero,List.set_cons_succ,List.getElem_toArray,List.getElem_cons_succ,List.getElem_cons_zero]
       refine wpAnyH_ready (rs:=[13]) (by kernel_rfl) (by simp) ?_
       refine AllReadyH.cons rfl (fun K hK=> ?_) AllReadyH.nil
       go_simp
       refine hK.out _ _ trivial (fun hHeld=> ?_)
       clear hK K
       refine wpAnyH_done (by kernel_rfl) ?_ _
       clear hHeld
       clear tc4 tf4 tl4 hba hsz
       go_wp2_with fail
       go_roundw
       case rel=>exact ⟨i+1,p+1+b[p].toNat,some ⟨g4,0,none⟩,cap4,l++[x],by go_num,by go_num,by omega,hn,HD4,by show _=_;rw [List.length_append,unhide HL];rfl,HDN2,HP2⟩
       case measure=>simp [intOf];omega
       )
     ·have hn1:(b.size:Int)<(p:Int)+1+(b[p].toNat:Int):=by omega
      have HFAIL:Hid (DecR b.data.toList none):=by
       have hpe:=unhide HP
       subst hpe
       exact (unhide HDN).fail hlt (unhide HC) (fun _=>by omega)
      have HB:=hide (unhide HD).bel
      have HRS:=hide (unhide HD).res
      have rc:=fun o=>cell_of_blk (unhide HRS) o
      have rf:=fun o=>frozen_of_blk (unhide HRS) o
      have rl:=lt_of_blk (unhide HRS)
      go_wp2_with fail
      have hfin:=setT_blk (unhide HRS) (.slice none 0 0) (.slice none 0 0) (.slice none 0 0)
      have hbf:=setT_below (unhide HB) (Nat.le_refl _) (.slice none 0 0) (.slice none 0 0) (.slice none 0 0)
      change bodyPost _ _ _ _ _ (setT wr w.heap.size (.slice none 0 0) (.slice none 0 0) (.slice none 0 0))
      generalize setT wr w.heap.size (.slice none 0 0) (.slice none 0 0) (.slice none 0 0)=wf at *
      have fcc:=fun o=>cell_of_blk hfin o
      refine bodyPost_ret (v:= .tuple #[.agg #[.slice none 0 0,.slice none 0 0,.slice none 0 0],.int .i64 6]) (by simp [results,Tryz.results145,go_sem,fcc]) rfl ?_
      exact ⟨none,unhide HFAIL,hbf,rfl⟩
    ·have hp1:(b.size:Int)≤(p:Int):=by omega
     have HFAIL:Hid (DecR b.data.toList none):=by
      have hpe:=unhide HP
      subst hpe
      exact (unhide HDN).fail hlt (unhide HC) (fun h=>absurd h hp)
     have HB:=hide (unhide HD).bel
     have HRS:=hide (unhide HD).res
     have rc:=fun o=>cell_of_blk (unhide HRS) o
     have rf:=fun o=>frozen_of_blk (unhide HRS) o
     have rl:=lt_of_blk (unhide HRS)
     go_wp2_with fail
     have hfin:=setT_blk (unhide HRS) (.slice none 0 0) (.slice none 0 0) (.slice none 0 0)
     have hbf:=setT_below (unhide HB) (Nat.le_refl _) (.slice none 0 0) (.slice none 0 0) (.slice none 0 0)
     change bodyPost _ _ _ _ _ (setT wr w.heap.size (.slice none 0 0) (.slice none 0 0) (.slice none 0 0))
     generalize setT wr w.heap.size (.slice none 0 0) (.slice none 0 0) (.slice none 0 0)=wf at *
     have fcc:=fun o=>cell_of_blk hfin o
     refine bodyPost_ret (v:= .tuple #[.agg #[.slice none 0 0,.slice none 0 0,.slice none 0 0],.int .i64 6]) (by simp [results,Tryz.results145,go_sem,fcc]) rfl ?_
     exact ⟨none,unhide HFAIL,hbf,rfl⟩
   ·have hkn:¬ (i:Int)<(b[2].toNat:Int):=by omega
    have hie:i=b[2].toNat:=by omega
    have HCI:Hid (∀t,RightT t→encB t=b.data.toList→t.acts.length=i):=by show ∀t,_;rw [hie];exact unhide HC
    have hi255:i≤255:=by omega
    clear hie HC
    have HB:=hide (unhide HD).bel
    have HRS:=hide (unhide HD).res
    have rc:=fun o=>cell_of_blk (unhide HRS) o
    have rf:=fun o=>frozen_of_blk (unhide HRS) o
    have rl:=lt_of_blk (unhide HRS)
    by_cases hp:p<b.size
    ·have hp1:decide ((b.size:Int)≤(p:Int))=false:=decide_eq_false (by omega)
     have hpi:(p:Int)<(b.size:Int):=by omega
     have hbd:b[p].toNat≤255:=by have:=b[p].toNat_lt;omega
     have hmul:b[p].toNat * (1+i)≤255 * 256:=Nat.mul_le_mul hbd (by omega)
     have hmi:(b[p].toNat:Int) * (1+(i:Int))=((b[p].toNat * (1+i):Nat):Int):=by rw [Int.natCast_mul];rfl
     have HM:Hid (∀k,k<b[p].toNat→k * (1+i)+(1+i)≤b[p].toNat * (1+i)):=fun k hk=>by
      have:=Nat.mul_le_mul_right (1+i) (show k+1≤b[p].toNat from hk)
      rw [Nat.add_mul,Nat.one_mul] at this
      exact this
     have HFC:Hid ((∀hk:atA l<b.size,b.size<atA l+1+b[atA l].toNat * (1+l.length))→DecR b.data.toList none):=fun h=>dec_count_fail (unhide HDN) (unhide HCI) h
     have HDS:Hid (Ds b l b[p].toNat 0 [] []):=by
      have hpe:=unhide HP
      subst hpe
      exact Ds.start (unhide HDN) (unhide HCI) (fun _=>rfl)
     generalize hme:b[p].toNat * (1+i)=m at *
     have hwr0:IntKind.i64.wrap (b[p].toNat:Int)=(b[p].toNat:Int):=by rw [IntKind.wrap_i64];omega
     have hp2:¬ b.size≤p:=by omega
     have hwr1:IntKind.i64.wrap ((p:Int)+1)=(p:Int)+1:=by rw [IntKind.wrap_i64];omega
     have hwr2:IntKind.i64.wrap (1+(i:Int))=1+(i:Int):=by rw [IntKind.wrap_i64];omega
     have hwr3:IntKind.i64.wrap (m:Int)=(m:Int):=by rw [IntKind.wrap_i64];omega
     have hwr4:IntKind.i64.wrap ((p:Int)+1+(m:Int))=(p:Int)+1+(m:Int):=by rw [IntKind.wrap_i64];omega
     have HME:=hide hme
     clear hme
     by_cases hn:p+1+m≤b.size
     ·have hn1:decide ((b.size:Int)<(p:Int)+1+(m:Int))=false:=decide_eq_false (by omega)
      have hn2:(p:Int)+1+(m:Int)≤(b.size:Int):=by omega
      clear HFC
      go_wp2_with fail
      go_quiet (fail)
      go_wp2_with fail
      have HD2:=hide ((unhide HD).later (bdn wr nq))
      generalize wr.drewN nq=wd at *
      clear rc rf rl tc tf tl HB HRS HD hwr2 hwr3 hwr4 hmi
      have HN0:Hid (([]:List Nat).length=0∧([]:List (List Nat)).length=0∧ ∀q∈([]:List (List Nat)),q.length=i):=⟨rfl,rfl,fun q hq=>(List.not_mem_nil hq).elim⟩
      rename World=>w0'
      go_loopw [5,9] (fun y x wr=> ∃(k r:Nat) (fo:Option Addr) (fc:Nat) (xo:Option Addr) (xc:Nat) (fl:List Nat) (nx:List (List Nat)) (rv:List Value),y= .int .i64 r∧x= .int .i64 k∧k≤b[p].toNat∧Hid (r=p+1+k * (1+i))∧Hid (DcP w wr (w.heap.size+1) (.slice ao i ac) (.slice fo k fc) (.slice xo k xc) ⟨l,fl,nx⟩ rv)∧Hid (fl.length=k∧nx.length=k∧ ∀q∈nx,q.length=i)∧Hid (Ds b l b[p].toNat k fl nx)) (fun _ x _=>b[p].toNat - (intOf x).toNat)
      case atStart=>exact ⟨0,p+1,none,0,none,0,[],[],[],by go_num,rfl,Nat.zero_le _,by show _=_;omega,HD2,HN0,HDS⟩
      case round=>
       obtain ⟨k,r,fo,fc,xo,xc,fl,nx,rv,rfl,rfl,hkn',HR,HD3,HNN,HDS3⟩:=hrel
       by_cases hkl:k<b[p].toNat
       ·have hki:(k:Int)<(b[p].toNat:Int):=by omega
        have hrb:r+1+i≤b.size:=by have h1:=unhide HR;have h2:=unhide HM k hkl;omega
        have hrl:r<b.size:=by omega
        have hri:(r:Int)<(b.size:Int):=by omega
        have hbr:b[r].toNat≤255:=by have:=b[r].toNat_lt;omega
        have hwr5:IntKind.i64.wrap (b[r].toNat:Int)=(b[r].toNat:Int):=by rw [IntKind.wrap_i64];omega
        have HDR0:Hid (Dr b l k 0 b[r].toNat []):=by
         refine Dr.start (unhide HDS3) hkl ?_ hrl
         rw [unhide HL,←unhide HP]
         exact unhide HR
        have HOF:Hid (wr.ownsRow w.heap.size 3 1 (.slice fo k fc) k (intC fl)):=by
         have h1:wr.ownsRow w.heap.size 3 1 (.slice fo k fc) fl.length (intC fl):=(unhide HD3).tab.fl
         rw [(unhide HNN).1] at h1
         exact h1
        have tc:=fun o=>cell_of_blk (unhide HD3).blk o
        have tf:=fun o=>frozen_of_blk (unhide HD3).blk o
        have tl:=lt_of_blk (unhide HD3).blk
        go_wp2_with fail
        have hba:Below wr.heap.size wr (wr.alloc (.cells #[.int .i64 (b[r].toNat:Int)] 3)).drew:=((Below.refl _ _).alloc (Nat.le_refl _) _).drew
        have hsz:w.heap.size≤(wr.alloc (.cells #[.int .i64 (b[r].toNat:Int)] 3)).drew.heap.size:=Nat.le_trans (unhide HD3).bel.size hba.size
        refine wp_region_held_drew (S:=fun _=>True) (by kernel_rfl) ?_ (fun hHeld=> ?_)
        ·exact trivial
        refine wpAnyH_take (i:=0) (v:= .pointer (some ⟨w.heap.size+1,1,none⟩)) rfl (by kernel_rfl) (by kernel_rfl) (by kernel_rfl) (fun _ _ _ h=>h) (Or.inl ⟨by kernel_rfl,fun w hw=>by have _:=hw;go_simp⟩) hHeld ?_
        try simp only [Act.put,List.setIfInBounds_toArray,List.set_cons_zero,List.set_cons_succ,List.getElem_toArray,List.getElem_cons_succ,List.getElem_cons_zero]
        refine wpAnyH_take (i:=2) (v:= .string b) rfl (by kernel_rfl) (by kernel_rfl) (by kernel_rfl) (fun _ _ _ h=>h) (Or.inl ⟨by kernel_rfl,fun w hw=>by have _:=hw;go_simp⟩) hHeld ?_
        try simp only [Act.put,List.setIfInBounds_toArray,List.set_cons_zero,List.set_cons_succ,List.getElem_toArray,List.getElem_cons_succ,List.getElem_cons_zero]
        refine wpAnyH_take (i:=3) (v:= .int .i64 (r:Int)) rfl (by kernel_rfl) (by kernel_rfl) (by kernel_rfl) (fun _ _ _ h=>h) (Or.inl ⟨by kernel_rfl,fun w hw=>by have _:=hw;go_simp⟩) hHeld ?_
        try simp only [Act.put,List.setIfInBounds_toArray,List.set_cons_zero,List.set_cons_succ,List.getElem_toArray,List.getElem_cons_succ,List.getElem_cons_zero]
        refine wpAnyH_take (i:=4) (v:= .int .u8 (b[r].toNat:Int)) rfl (by kernel_rfl) (by kernel_rfl) (by kernel_rfl) (fun _ _ _ h=>h) (Or.inl ⟨by kernel_rfl,fun w hw=>by have _:=hw;go_simp⟩) hHeld ?_
        try simp only [Act.put,List.setIfInBounds_toArray,List.set_cons_zero,List.set_cons_succ,List.getElem_toArray,List.getElem_cons_succ,List.getElem_cons_zero]
        refine wpAnyH_take (i:=5) (v:= .int .i64 (b[r].toNat:Int)) rfl (by kernel_rfl) (by kernel_rfl) (by kernel_rfl) (fun _ _ _ h=>h) (Or.inl ⟨by kernel_rfl,fun w hw=>by have _:=hw;go_simp⟩) hHeld ?_
        try simp only [Act.put,List.setIfInBounds_toArray,List.set_cons_zero,List.set_cons_succ,List.getElem_toArray,List.getElem_cons_succ,List.getElem_cons_zero]
        refine wpAnyH_ready (rs:=[1,6]) (by kernel_rfl) (by simp) ?_
        refine AllReadyH.cons rfl (fun K hK=> ?rax) (AllReadyH.cons rfl (fun K hK=> ?rbx) AllReadyH.nil)
        case' rax=>(go_simp;refine hK.out _ _ hHeld (fun hHeld=> ?_);clear hK K;refine wpAnyH_ready (rs:=[6]) (by kernel_rfl) (by simp) ?_;refine AllReadyH.cons rfl (fun K hK=> ?_) AllReadyH.nil;go_simp;refine hK.out _ _ trivial (fun hHeld=> ?_);clear hK K)
        case' rbx=>(go_simp;refine hK.out _ _ trivial (fun hHeld=> ?_);clear hK K;refine wpAnyH_ready (rs:=[1]) (by kernel_rfl) (by simp) ?_;refine AllReadyH.cons rfl (fun K hK=> ?_) AllReadyH.nil;go_simp;refine hK.out _ _ hHeld (fun hHeld=> ?_);clear hK K)
        all_goals (
         refine wpAnyH_ready (rs:=[7]) (by kernel_rfl) (by simp) ?_
         refine AllReadyH.cons rfl (fun K hK=> ?_) AllReadyH.nil
         refine stp1 (by rfl) _ _ 33 (by rfl) w.heap.size 3 infoVi rfl Tryz.underlying33 (v:= .slice fo k fc) (n:=k) (xs:=intC fl) (by rfl) (H:=wr.heap.size) (.int .i64 (b[r].toNat:Int)) (by rfl) rfl (owns_later (unhide HOF) hba) (blk_alloc wr _) (by omega) hsz ?_
         intro g4 cap4 w4 hown4 hgrow4 hat4
         have hgrow5:(wr.alloc (.cells #[.int .i64 (b[r].toNat:Int)] 3)).drew.grownBy w4 (Value.slice fo k fc).ownBlock:=hgrow4
         have hdl:=(unhide HD3).later hba
         have hblk4:=(hgrow5.block _ (lt_of_blk hdl.blk) (fun e=>own_ty hdl.tab.fl e.symm hdl.blk (by decide))).trans hdl.blk
         have tc4:=cell_of_blk hblk4 1
         have tf4:=frozen_of_blk hblk4 1
         have tl4:=lt_of_blk hblk4
         have HD4:=hide (hdl.flag (F':= .slice (some ⟨g4,0,none⟩) (k+1) cap4) (f:=b[r].toNat) (by show World.ownsRow _ _ _ _ _ (fl.length+1) _;rw [(unhide HNN).1];exact hown4) hgrow5 rfl hat4)
         refine hK.out _ _ trivial (fun hHeld=> ?_)
         clear hK K
         clear hown4 hgrow4 hat4 hgrow5 hdl hblk4 tc tf tl
         refine wpAnyH_take (i:=8) (v:= .pointer (some ⟨w.heap.size+1,1,none⟩)) rfl (by kernel_rfl) (by kernel_rfl) (by kernel_rfl) (fun _ _ _ h=>h) (Or.inl ⟨by kernel_rfl,fun w hw=>by have _:=hw;go_simp⟩) hHeld ?_
         try simp only [Act.put,List.setIfInBounds_toArray,List.set_cons_zero,List.set_cons_succ,List.getElem_toArray,List.getElem_cons_succ,List.getElem_cons_zero]
         refine wpAnyH_ready (rs:=[9]) (by kernel_rfl) (by simp) ?_
         refine AllReadyH.cons rfl (fun K hK=> ?_) AllReadyH.nil
         go_simp
         refine hK.out _ _ trivial (fun hHeld=> ?_)
         clear hK K
         refine wpAnyH_done (by kernel_rfl) ?_ _
         clear tc4 tf4 tl4 hba hsz hHeld
         go_wp2_with fail
         generalize w4.setCell ⟨w.heap.size+1,1,none⟩ (.slice (some ⟨g4,0,none⟩) (k+1) cap4)=w5 at *
         generalize b[r].toNat=f at *
         have HU0:=hide (RwU.start w5 w.heap.size (.slice (some ⟨g4,0,none⟩) (k+1) cap4) rv)
         rename World=>w6'
         go_loopw [5,10,11] (fun y v x wr=> ∃(a:Nat) (vo:Option Addr) (vc:Nat) (q:List Nat),y= .int .i64 ((r+1+a:Nat))∧v= .slice vo a vc∧x= .int .i64 a∧a≤i∧Hid (DcP w wr (w.heap.size+1) (.slice ao i ac) (.slice (some ⟨g4,0,none⟩) (k+1) cap4) (.slice xo k xc) ⟨l,fl++[f],nx⟩ rv)∧Hid (RwU wr w.heap.size (.slice (some ⟨g4,0,none⟩) (k+1) cap4) rv (.slice vo a vc) q)∧Hid (q.length=a)∧Hid (Dr b l k a f q)) (fun _ _ x _=>i - (intOf x).toNat)
         case atStart=>exact ⟨0,none,0,[],by go_num,rfl,rfl,Nat.zero_le _,HD4,HU0,rfl,HDR0⟩
         case round=>
          obtain ⟨a,vo,vc,q,rfl,rfl,rfl,hai,HD5,HU,HQ,HDR⟩:=hrel
          have tc5:wr.cell? ⟨w.heap.size+1,0,none⟩=some (.slice ao i ac):=cell_of_blk (unhide HD5).blk 0
          have tl5:=lt_of_blk (unhide HD5).blk
          by_cases hal:a<i
          ·have han:(a:Int)<(i:Int):=by omega
           have hpl:r+1+a<b.size:=by omega
           have hpli:((r+1+a:Nat):Int)<(b.size:Int):=by omega
           have hbp:b[r+1+a].toNat≤255:=by have:=b[r+1+a].toNat_lt;omega
           have HDR2:Hid (Dr b l k (a+1) f (q++[b[r+1+a].toNat])):=by
            refine Dr.next (unhide HDS3) hkl (unhide HDR) (by rw [unhide HL];exact hal) ?_ hpl
            rw [unhide HL,←unhide HP,←unhide HR]
           have hwr6:IntKind.i64.wrap (b[r+1+a].toNat:Int)=(b[r+1+a].toNat:Int):=by rw [IntKind.wrap_i64];omega
           generalize hpe:r+1+a=pp at *
           have hpb2:pp≤1000:=by omega
           have HPE:=hide hpe
           clear hpe
           go_wp2_with (at_builtin;go_must (refine app1 rfl _ _ 33 rfl _ w.heap.size 3 infoVi rfl Tryz.underlying33 (n:=a) (xs:=intC q) rfl (.int .i64 (b[pp].toNat:Int)) rfl rfl ?y0 (by omega) (unhide HD5).bel.size (by first|rfl|simp [World.setCell]) ?_))
           case y0=>have h1:=(unhide HU).own;rw [unhide HQ] at h1;exact h1
           intro g9 cap9 w9 ho9 hg9 hat9
           have hbz:Below wr.heap.size wr (wr.alloc (.cells #[.int .i64 (b[pp].toNat:Int)] 3)):=(Below.refl _ _).alloc (Nat.le_refl _) _
           obtain ⟨hPa,hUa⟩:=((unhide HD5).later hbz).num ((unhide HU).later hbz) (x:=b[pp].toNat) (by rw [unhide HQ];exact ho9) hg9 rfl (hat9.imp id (fun h=>by simp;omega))
           have HPa:=hide hPa
           have HUa:=hide hUa
           clear ho9 hg9 hat9 hbz hPa hUa HD5 HU tc5 tl5
           go_wp2_with fail
           go_roundw
           case rel=>exact ⟨a+1,some ⟨g9,0,none⟩,cap9,q++[b[pp].toNat],by rw [show r+1+(a+1)=pp+1 from by have:=unhide HPE;omega];go_num,rfl,by go_num,by omega,HPa,HUa,by show _=_;rw [List.length_append,unhide HQ];rfl,HDR2⟩
           case measure=>simp [intOf];omega
          ·have han:¬ (a:Int)<(i:Int):=by omega
           have hae:a=i:=by omega
           subst hae
           have HDS4:Hid (Ds b l b[p].toNat (k+1) (fl++[f]) (nx++[q])):=Ds.next (unhide HDS3) hkl (by rw [unhide HL];exact unhide HDR)
           have hnk:k≤255:=by omega
           have tc6:wr.cell? ⟨w.heap.size+1,2,none⟩=some (.slice xo k xc):=cell_of_blk (unhide HD5).blk 2
           go_wp2_with (at_builtin;go_must (refine app1 rfl _ _ 34 rfl _ w.heap.size 33 infoVr rfl Tryz.underlying34 (n:=k) (xs:=rv) rfl (.slice vo a vc) rfl rfl ?z0 (by omega) (unhide HD5).bel.size (by first|rfl|simp [World.setCell]) ?_))
           case z0=>have h1:wr.ownsRow w.heap.size 33 1 (.slice xo k xc) nx.length rv:=(unhide HD5).tab.nx;rw [(unhide HNN).2.1] at h1;exact h1
           intro g9 cap9 w9 ho9 hg9 hat9
           have hbz:Below wr.heap.size wr (wr.alloc (.cells #[.slice vo a vc] 33)):=(Below.refl _ _).alloc (Nat.le_refl _) _
           have hdl:=(unhide HD5).later hbz
           have HPa:=hide (hdl.row ((unhide HU).later hbz) (X':= .slice (some ⟨g9,0,none⟩) (k+1) cap9) (by show World.ownsRow _ _ _ _ _ (nx.length+1) _;rw [(unhide HNN).2.1];exact ho9) hg9)
           have hblk9:=(hg9.block _ (lt_of_blk hdl.blk) (fun e=>own_ty hdl.tab.nx e.symm hdl.blk (by decide))).trans hdl.blk
           have tc9:=cell_of_blk hblk9 2
           have tf9:=frozen_of_blk hblk9 2
           have tl9:=lt_of_blk hblk9
           have HNN2:Hid ((fl++[f]).length=k+1∧(nx++[q]).length=k+1∧ ∀q'∈nx++[q],q'.length=a):=by
            refine ⟨by rw [List.length_append,(unhide HNN).1];rfl,by rw [List.length_append,(unhide HNN).2.1];rfl,fun q' hq'=> ?_⟩
            rcases List.mem_append.1 hq' with h|h
            ·exact (unhide HNN).2.2 q' h
            ·rw [List.mem_singleton.1 h];exact unhide HQ
           have HR2:Hid (r+1+a=p+1+(k+1) * (1+a)):=by show _=_;rw [Nat.add_mul,Nat.one_mul];have:=unhide HR;omega
           clear ho9 hg9 hat9 hbz hdl hblk9 HD5 HU tc5 tl5 tc6
           go_wp2_with fail
           go_roundw
           case rel=>exact ⟨k+1,r+1+a,some ⟨g4,0,none⟩,cap4,some ⟨g9,0,none⟩,cap9,fl++[f],nx++[q],rv++[.slice vo a vc],rfl,by go_num,by omega,HR2,HPa,HNN2,HDS4⟩
           case measure=>simp [intOf];omega
         )
       ·have hki:¬ (k:Int)<(b[p].toNat:Int):=by omega
        have HDONE:Hid (∀t,RightT t→encB t=b.data.toList→t=⟨l,fl,nx⟩):=by
         have hke:k=b[p].toNat:=by omega
         have h1:=unhide HDS3
         rw [←hke] at h1
         exact h1.done
        have HRDT:=hide ((unhide HD3).tab.read ⟨by show l.length≤1000;rw [unhide HL];omega,by show nx.length≤1000;rw [(unhide HNN).2.1];omega,by show fl.length≤1000;rw [(unhide HNN).1];omega,fun q hq=>by rw [(unhide HNN).2.2 q hq];omega⟩)
        have HENC:=hide (EncodeR_n wr ao fo xo i ac k fc k xc (⟨l,fl,nx⟩:Tb).z (unhide HRDT).1 (unhide HL) (by show (zI fl).length=k;unfold zI;rw [List.length_map];exact (unhide HNN).1) (by show (nx.map zI).length=k;rw [List.length_map];exact (unhide HNN).2.1))
        have tc0:wr.cell? ⟨w.heap.size+1,0,none⟩=some (.slice ao i ac):=cell_of_blk (unhide HD3).blk 0
        have tc1:wr.cell? ⟨w.heap.size+1,1,none⟩=some (.slice fo k fc):=cell_of_blk (unhide HD3).blk 1
        have tc2:wr.cell? ⟨w.heap.size+1,2,none⟩=some (.slice xo k xc):=cell_of_blk (unhide HD3).blk 2
        have tl:=lt_of_blk (unhide HD3).blk
        go_wp2_with fail
        refine (unhide HENC).mono ?_
        rintro e w7 ⟨henc,hb7⟩
        have HD7:=hide ((unhide HD3).later hb7)
        have HB:=hide (unhide HD7).bel
        have HRS:=hide (unhide HD7).res
        have rc:=fun o=>cell_of_blk (unhide HRS) o
        have rf:=fun o=>frozen_of_blk (unhide HRS) o
        have rl:=lt_of_blk (unhide HRS)
        clear HENC HRDT HD3 tc0 tc1 tc2 tl hb7
        rename World=>wr
        rcases henc with ⟨t,hz,hRt,rfl⟩|⟨hnr,rfl⟩
        ·have hte:t=⟨l,fl,nx⟩:=(Tb.z_inj hz).symm
         obtain ⟨eb,heb⟩: ∃eb:ByteArray,eb=⟨(encB t).toArray⟩:=⟨_,rfl⟩
         have hebl:eb.data.toList=encB t:=by rw [heb]
         rw [←heb]
         have HTE:=hide hte
         have HRT:=hide hRt
         have HEBL:=hide hebl
         clear hte hRt hebl heb hz
         by_cases heq:eb=b
         ·have hbe:(eb.toList==b.toList)=true:=by rw [heq];exact beq_self_eq_true _
          have HOK:Hid (DecR b.data.toList (some ⟨l,fl,nx⟩)):=by
           rw [←unhide HTE]
           exact ⟨unhide HRT,by rw [←unhide HEBL,heq]⟩
          have hi1:1≤i:=by
           have h1:=(unhide HRT).acts.n1
           rw [unhide HTE] at h1
           have h2:1≤l.length:=h1
           rw [unhide HL] at h2
           exact h2
          have HTW:=hide ((unhide HD7).tab.toW (fun q hq=>by rw [(unhide HNN).2.2 q hq];exact hi1))
          have tc0:wr.cell? ⟨w.heap.size+1,0,none⟩=some (.slice ao i ac):=cell_of_blk (unhide HD7).blk 0
          have tc1:wr.cell? ⟨w.heap.size+1,1,none⟩=some (.slice fo k fc):=cell_of_blk (unhide HD7).blk 1
          have tc2:wr.cell? ⟨w.heap.size+1,2,none⟩=some (.slice xo k xc):=cell_of_blk (unhide HD7).blk 2
          have tl:=lt_of_blk (unhide HD7).blk
          clear heq hi1
          go_wp2_with fail
          have hfin:=setT_blk (unhide HRS) (.slice ao i ac) (.slice fo k fc) (.slice xo k xc)
          have hbf:=setT_below (unhide HB) (Nat.le_refl _) (.slice ao i ac) (.slice fo k fc) (.slice xo k xc)
          have htf:=setT_tab (unhide HRS) (unhide HTW) (A':= .slice ao i ac) (F':= .slice fo k fc) (X':= .slice xo k xc)
          change bodyPost _ _ _ _ _ (setT wr w.heap.size (.slice ao i ac) (.slice fo k fc) (.slice xo k xc))
          generalize setT wr w.heap.size (.slice ao i ac) (.slice fo k fc) (.slice xo k xc)=wf at *
          have fcc:=fun o=>cell_of_blk hfin o
          refine bodyPost_ret (v:= .tuple #[.agg #[.slice ao i ac,.slice fo k fc,.slice xo k xc],.int .i64 0]) (by simp [results,Tryz.results145,go_sem,fcc]) rfl ?_
          exact ⟨some ⟨l,fl,nx⟩,unhide HOK,hbf,_,_,_,rv,rfl,htf⟩
         ·have hbe:=bytes_ne heq
          have HFAIL:Hid (DecR b.data.toList none):=fun t' ht' he'=>by
           have h1:=unhide HDONE t' ht' he'
           rw [←unhide HTE] at h1
           rw [h1,←unhide HEBL] at he'
           exact heq (byte_inj he')
          go_wp2_with fail
          have hfin:=setT_blk (unhide HRS) (.slice none 0 0) (.slice none 0 0) (.slice none 0 0)
          have hbf:=setT_below (unhide HB) (Nat.le_refl _) (.slice none 0 0) (.slice none 0 0) (.slice none 0 0)
          change bodyPost _ _ _ _ _ (setT wr w.heap.size (.slice none 0 0) (.slice none 0 0) (.slice none 0 0))
          generalize setT wr w.heap.size (.slice none 0 0) (.slice none 0 0) (.slice none 0 0)=wf at *
          have fcc:=fun o=>cell_of_blk hfin o
          refine bodyPost_ret (v:= .tuple #[.agg #[.slice none 0 0,.slice none 0 0,.slice none 0 0],.int .i64 6]) (by simp [results,Tryz.results145,go_sem,fcc]) rfl ?_
          exact ⟨none,unhide HFAIL,hbf,rfl⟩
        ·have HFAIL:Hid (DecR b.data.toList none):=fun t' ht' he'=>by
          have h1:=unhide HDONE t' ht' he'
          exact hnr ⟨t',by rw [h1],ht'⟩
         go_wp2_with fail
         have hfin:=setT_blk (unhide HRS) (.slice none 0 0) (.slice none 0 0) (.slice none 0 0)
         have hbf:=setT_below (unhide HB) (Nat.le_refl _) (.slice none 0 0) (.slice none 0 0) (.slice none 0 0)
         change bodyPost _ _ _ _ _ (setT wr w.heap.size (.slice none 0 0) (.slice none 0 0) (.slice none 0 0))
         generalize setT wr w.heap.size (.slice none 0 0) (.slice none 0 0) (.slice none 0 0)=wf at *
         have fcc:=fun o=>cell_of_blk hfin o
         refine bodyPost_ret (v:= .tuple #[.agg #[.slice none 0 0,.slice none 0 0,.slice none 0 0],.int .i64 6]) (by simp [results,Tryz.results145,go_sem,fcc]) rfl ?_
         exact ⟨none,unhide HFAIL,hbf,rfl⟩
     ·have hn1:decide ((b.size:Int)<(p:Int)+1+(m:Int))=true:=decide_eq_true (by omega)
      have hn2:(b.size:Int)<(p:Int)+1+(m:Int):=by omega
      have HFAIL:Hid (DecR b.data.toList none):=by
       refine unhide HFC (fun hk=> ?_)
       have hpe:=unhide HP
       subst hpe
       rw [unhide HL,unhide HME]
       omega
      clear HFC
      go_wp2_with fail
      go_quiet (fail)
      go_wp2_with fail
      have HRS2:=hide (((bdn wr nq).block _ (lt_of_blk (unhide HRS))).trans (unhide HRS))
      have HB2:=hide ((unhide HB).trans ((bdn wr nq).mono (unhide HB).size))
      generalize wr.drewN nq=wd at *
      have hfin:=setT_blk (unhide HRS2) (.slice none 0 0) (.slice none 0 0) (.slice none 0 0)
      have hbf:=setT_below (unhide HB2) (Nat.le_refl _) (.slice none 0 0) (.slice none 0 0) (.slice none 0 0)
      change bodyPost _ _ _ _ _ (setT wd w.heap.size (.slice none 0 0) (.slice none 0 0) (.slice none 0 0))
      generalize setT wd w.heap.size (.slice none 0 0) (.slice none 0 0) (.slice none 0 0)=wf at *
      have fcc:=fun o=>cell_of_blk hfin o
      refine bodyPost_ret (v:= .tuple #[.agg #[.slice none 0 0,.slice none 0 0,.slice none 0 0],.int .i64 6]) (by simp [results,Tryz.results145,go_sem,fcc]) rfl ?_
      exact ⟨none,unhide HFAIL,hbf,rfl⟩
    ·have hp1:decide ((b.size:Int)≤(p:Int))=true:=decide_eq_true (by omega)
     have hp2:b.size≤p:=by omega
     have HFAIL:Hid (DecR b.data.toList none):=by
      have hpe:=unhide HP
      subst hpe
      exact dec_count_fail (unhide HDN) (unhide HCI) (fun h=>absurd h hp)
     go_wp2_with fail
     go_quiet (fail)
     go_wp2_with fail
     have HRS2:=hide (((bdn wr nq).block _ (lt_of_blk (unhide HRS))).trans (unhide HRS))
     have HB2:=hide ((unhide HB).trans ((bdn wr nq).mono (unhide HB).size))
     generalize wr.drewN nq=wd at *
     have hfin:=setT_blk (unhide HRS2) (.slice none 0 0) (.slice none 0 0) (.slice none 0 0)
     have hbf:=setT_below (unhide HB2) (Nat.le_refl _) (.slice none 0 0) (.slice none 0 0) (.slice none 0 0)
     change bodyPost _ _ _ _ _ (setT wd w.heap.size (.slice none 0 0) (.slice none 0 0) (.slice none 0 0))
     generalize setT wd w.heap.size (.slice none 0 0) (.slice none 0 0) (.slice none 0 0)=wf at *
     have fcc:=fun o=>cell_of_blk hfin o
     refine bodyPost_ret (v:= .tuple #[.agg #[.slice none 0 0,.slice none 0 0,.slice none 0 0],.int .i64 6]) (by simp [results,Tryz.results145,go_sem,fcc]) rfl ?_
     exact ⟨none,unhide HFAIL,hbf,rfl⟩
end Go.Proofs.YtidakhhekofkoaaGreatDoor
