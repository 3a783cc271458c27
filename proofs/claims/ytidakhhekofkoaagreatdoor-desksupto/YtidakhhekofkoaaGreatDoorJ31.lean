/- A right table, as it lies; shaped, walk. -/
import Derived.Test.YtidakhhekofkoaaGreatDoorJ18
import Derived.Test.YtidakhhekofkoaaGreatDoorJ28
import Derived.Test.YtidakhhekofkoaaGreatDoorJ19
set_option linter.unusedSimpArgs false
set_option linter.unusedVariables false
namespace Go.Proofs.YtidakhhekofkoaaGreatDoor
open Go.RowKit Go.Deep
def nxT (t:Tb) (i a:Nat):Nat:=((t.nx[i]?.getD [])[a]?).getD 0
def flT (t:Tb) (i:Nat):Nat:=t.fl[i]?.getD 0
structure TbL (W:World) (t:Tb) (A n ab a0 fb f0 nb n0:Nat) (rb ro rc:Nat→Nat):Prop where
 hA:t.acts.length=A
 hn:t.nx.length=n
 A6:A≤6
 A1:1≤A
 n1:1≤n
 n100:n≤100
 rt:RightT t
 act: ∀i s,t.acts[i]? =some s→W.cell? ⟨ab,a0+i,none⟩=some (.string s)
 fla: ∀i,i<n→W.cell? ⟨fb,f0+i,none⟩=some (.int .i64 (flT t i:Int))
 row: ∀i,i<n→W.cell? ⟨nb,n0+i,none⟩=some (.slice (some ⟨rb i,ro i,none⟩) A (rc i))
 nxt: ∀i a,i<n→a<A→W.cell? ⟨rb i,ro i+a,none⟩=some (.int .i64 (nxT t i a:Int))
 la:ab<W.heap.size
 lf:fb<W.heap.size
 ln:nb<W.heap.size
 lr: ∀i,i<n→rb i<W.heap.size
theorem TbL.later {W W':World} {t:Tb} {A n ab a0 fb f0 nb n0:Nat} {rb ro rc:Nat→Nat} (h:TbL W t A n ab a0 fb f0 nb n0 rb ro rc) (hb:Below W.heap.size W W'):TbL W' t A n ab a0 fb f0 nb n0 rb ro rc:=
 ⟨h.hA,h.hn,h.A6,h.A1,h.n1,h.n100,h.rt,fun i s hs=>(bcell3 hb _ _ h.la).trans (h.act i s hs),fun i hi=>(bcell3 hb _ _ h.lf).trans (h.fla i hi),fun i hi=>(bcell3 hb _ _ h.ln).trans (h.row i hi),
  fun i a hi ha=>(bcell3 hb _ _ (h.lr i hi)).trans (h.nxt i a hi ha),Nat.lt_of_lt_of_le h.la hb.size,Nat.lt_of_lt_of_le h.lf hb.size,Nat.lt_of_lt_of_le h.ln hb.size,fun i hi=>Nat.lt_of_lt_of_le (h.lr i hi) hb.size⟩
theorem nxT_lt {t:Tb} (h:RightT t) {x a:Nat} (hx:x<t.nx.length) (ha:a<t.acts.length):nxT t x a<t.nx.length:=h.go hx ha
theorem TbL.lt {W:World} {t:Tb} {A n ab a0 fb f0 nb n0:Nat} {rb ro rc:Nat→Nat} (h:TbL W t A n ab a0 fb f0 nb n0 rb ro rc) {x a:Nat} (hx:x<n) (ha:a<A):nxT t x a<n:=by
 have:=nxT_lt h.rt (x:=x) (a:=a) (by have:=h.hn;omega) (by have:=h.hA;omega)
 have:=h.hn
 omega
theorem tbl_of {W:World} {ao fo no:Option Addr} {ac:Nat} {t:Tb} (h:TbI W ao fo no ac t.z) (hR:RightT t):
  ∃ab a0 fb f0 nb n0 rb ro rc,ao=some ⟨ab,a0,none⟩∧fo=some ⟨fb,f0,none⟩∧no=some ⟨nb,n0,none⟩∧TbL W t t.acts.length t.nx.length ab a0 fb f0 nb n0 rb ro rc:=by
 have hA:=hR.acts.n1
 have hn:=hR.n1
 have hfl:=hR.fl
 have hzf: ∀i,i<t.nx.length→t.z.fl[i]? =some (flT t i:Int):=fun i hi=>by
  show (zI t.fl)[i]? =_
  unfold zI flT
  rw [List.getElem?_map,List.getElem?_eq_getElem (show i<t.fl.length by omega)]
  rfl
 have hzr: ∀i,i<t.nx.length→ ∃r,t.nx[i]? =some r∧r.length=t.acts.length∧t.z.nx[i]? =some (zI r):=fun i hi=>by
  refine ⟨t.nx[i],List.getElem?_eq_getElem hi,(hR.rs _ (List.getElem_mem hi)).1, ?_⟩
  show (t.nx.map zI)[i]? =_
  rw [List.getElem?_map,List.getElem?_eq_getElem hi]
  rfl
 obtain ⟨ab,a0,rfl,hal,_⟩:=h.acts 0 t.acts[0] (show t.acts[0]? =_ from List.getElem?_eq_getElem (by omega))
 obtain ⟨fb,f0,rfl,hfl',_⟩:=h.fl 0 _ (hzf 0 (by omega))
 obtain ⟨r0,_,_,hr0⟩:=hzr 0 (by omega)
 obtain ⟨nb,n0,_,_,rfl,hnl,_,_⟩:=h.nx 0 _ hr0
 have hrow: ∀i,∃p:Nat × Nat × Nat,i<t.nx.length→W.cell? ⟨nb,n0+i,none⟩=some (.slice (some ⟨p.1,p.2.1,none⟩) t.acts.length p.2.2)∧p.1<W.heap.size∧ ∀a,a<t.acts.length→W.cell? ⟨p.1,p.2.1+a,none⟩=some (.int .i64 (nxT t i a:Int)):=fun i=>by
  by_cases hi:i<t.nx.length
  ·obtain ⟨r,h1,h2,h3⟩:=hzr i hi
   obtain ⟨b,off,ro,rc,e1,_,e3,e4⟩:=h.nx i _ h3
   cases e1
   have hget: ∀a,a<t.acts.length→(zI r)[a]? =some (nxT t i a:Int):=fun a ha=>by
    unfold zI nxT
    rw [List.getElem?_map,h1,List.getElem?_eq_getElem (show a<r.length by omega)]
    simp only [Option.getD_some,Option.map_some]
    rw [List.getElem?_eq_getElem (show a<r.length by omega)]
    rfl
   obtain ⟨qb,q0,rfl,hql,_⟩:=e4 0 _ (hget 0 (by omega))
   refine ⟨(qb,q0,rc),fun _=>⟨?_,hql,fun a ha=> ?_⟩⟩
   ·rw [e3]
    have:(zI r).length=t.acts.length:=by unfold zI;rw [List.length_map];exact h2
    rw [this]
   ·obtain ⟨b',off',e5,_,e6⟩:=e4 a _ (hget a ha)
    cases e5
    exact e6
  ·exact ⟨(0,0,0),fun h=>absurd h hi⟩
 have hch:=fun i=>Classical.choose_spec (hrow i)
 refine ⟨ab,a0,fb,f0,nb,n0,fun i=>(Classical.choose (hrow i)).1,fun i=>(Classical.choose (hrow i)).2.1,fun i=>(Classical.choose (hrow i)).2.2,rfl,rfl,rfl,⟨rfl,rfl,hR.acts.n6,hA,hn,hR.n100,hR,fun i s hs=> ?_,fun i hi=> ?_,fun i hi=>(hch i hi).1,fun i a hi ha=>(hch i hi).2.2 a ha,hal,hfl',hnl,fun i hi=>(hch i hi).2.1⟩⟩
 ·obtain ⟨b,off,e1,_,e3⟩:=h.acts i s hs
  cases e1
  exact e3
 ·obtain ⟨b,off,e1,_,e3⟩:=h.fl i _ (hzf i hi)
  cases e1
  exact e3
structure OnB (w W:World) (T:Array Value):Prop where
 b0:W.heap[w.heap.size]? =some (.cells T 36 (0,0))
 bel:Below w.heap.size w W
theorem OnB.later {w W W':World} {T:Array Value} (h:OnB w W T) (hb:Below W.heap.size W W'):OnB w W' T:=
 ⟨(hb.block _ (lt_of_blk h.b0)).trans h.b0,h.bel.trans (hb.mono h.bel.size)⟩
theorem OnB.start (w:World) (T:Array Value):OnB w (w.alloc (.cells T 36)) T:=⟨blk_alloc _ _,(Below.refl _ _).alloc (Nat.le_refl _) _⟩
end Go.Proofs.YtidakhhekofkoaaGreatDoor
namespace Go.Proofs.YtidakhhekofkoaaGreatDoor
structure Cs where
 id:ByteArray
 st:Nat
 ev:Nat
def csAt (cs:List Cs) (id:ByteArray):Option Cs:=cs.find? fun c=>decide (c.id=id)
theorem csAt_some {cs:List Cs} {id:ByteArray} {c:Cs} (h:csAt cs id=some c):c∈cs∧c.id=id:=by
 unfold csAt at h
 have h2:=List.find?_some h
 exact ⟨List.mem_of_find?_eq_some h,by simpa using h2⟩
theorem csAt_none {cs:List Cs} {id:ByteArray} (h:csAt cs id=none): ∀c∈cs,c.id≠id:=fun c hc e=>by
 unfold csAt at h
 exact (List.find?_eq_none.1 h c hc) (decide_eq_true e)
theorem csAt_mem: ∀{cs:List Cs} {c:Cs},(cs.map (·.id)).Nodup→c∈cs→csAt cs c.id=some c
 |[],c,_,h=>(List.not_mem_nil h).elim
 |x::cs,c,hd,h=>by
  rw [List.map_cons,List.nodup_cons] at hd
  unfold csAt
  rw [List.find?_cons]
  by_cases e:x.id=c.id
  ·rw [decide_eq_true e]
   rcases List.mem_cons.1 h with rfl|h'
   ·rfl
   ·exact (hd.1 (e▸List.mem_map.2 ⟨c,h',rfl⟩)).elim
  ·rw [decide_eq_false e]
   rcases List.mem_cons.1 h with rfl|h'
   ·exact (e rfl).elim
   ·exact csAt_mem hd.2 h'
def dkStep (t:Tb) (s:Nat) (act:ByteArray):Nat × Nat:=
 match fnd act t.acts 0 with
 |none=>(0,3)
 |some a=>if flT t (nxT t s a)<2 then (0,9) else (nxT t s a,0)
def csPut (cs:List Cs) (id:ByteArray) (s e:Nat):List Cs:=cs.map fun c=>if c.id=id then ⟨c.id,s,e⟩ else c
def csDel (cs:List Cs) (id:ByteArray):List Cs:=cs.filter fun c=>decide (c.id≠id)
theorem csPut_ids (cs:List Cs) (id:ByteArray) (s e:Nat):(csPut cs id s e).map (·.id)=cs.map (·.id):=by
 unfold csPut
 rw [List.map_map]
 refine List.map_congr_left fun c _=> ?_
 show (if c.id=id then (⟨c.id,s,e⟩:Cs) else c).id=c.id
 split<;>rfl
theorem csPut_len (cs:List Cs) (id:ByteArray) (s e:Nat):(csPut cs id s e).length=cs.length:=by unfold csPut;rw [List.length_map]
theorem csPut_mem {cs:List Cs} {id:ByteArray} {s e:Nat} {c:Cs} (h:c∈csPut cs id s e):(c.id≠id∧c∈cs)∨(c=⟨id,s,e⟩∧ ∃x∈cs,x.id=id):=by
 unfold csPut at h
 obtain ⟨x,hx,rfl⟩:=List.mem_map.1 h
 by_cases e:x.id=id
 ·rw [if_pos e,e]
  exact Or.inr ⟨rfl,x,hx,e⟩
 ·rw [if_neg e]
  exact Or.inl ⟨e,hx⟩
theorem csDel_mem {cs:List Cs} {id:ByteArray} {c:Cs}:c∈csDel cs id↔c∈cs∧c.id≠id:=by
 unfold csDel
 rw [List.mem_filter,decide_eq_true_iff]
theorem csDel_nodup {cs:List Cs} {id:ByteArray} (h:(cs.map (·.id)).Nodup):((csDel cs id).map (·.id)).Nodup:=by
 unfold csDel
 exact h.sublist (List.Sublist.map _ List.filter_sublist)
theorem csDel_len: ∀{cs:List Cs} {id:ByteArray},(cs.map (·.id)).Nodup→(∃c∈cs,c.id=id)→(csDel cs id).length+1=cs.length
 |[],id,_,h=>by obtain ⟨c,hc,_⟩:=h;exact (List.not_mem_nil hc).elim
 |x::cs,id,hd,h=>by
  rw [List.map_cons,List.nodup_cons] at hd
  unfold csDel
  rw [List.filter_cons]
  by_cases e:x.id=id
  ·rw [if_neg (by simp [e])]
   have:cs.filter (fun c=>decide (c.id≠id))=cs:=by
    rw [List.filter_eq_self]
    intro c hc
    exact decide_eq_true (fun e'=>hd.1 (by rw [e,←e'];exact List.mem_map.2 ⟨c,hc,rfl⟩))
   rw [this,List.length_cons]
  ·rw [if_pos (by simp [e]),List.length_cons,List.length_cons]
   obtain ⟨c,hc,ec⟩:=h
   rcases List.mem_cons.1 hc with rfl|hc
   ·exact (e ec).elim
   ·have:=csDel_len hd.2 ⟨c,hc,ec⟩
    unfold csDel at this
    omega
def dkStart (cs:List Cs) (id:ByteArray):List Cs × Nat:=
 match csAt cs id with
 |some _=>(cs,8)
 |none=>if 8≤cs.length then (cs,11) else (cs++[⟨id,0,0⟩],0)
def dkEvent (t:Tb) (cs:List Cs) (id act:ByteArray):List Cs × Nat:=
 match csAt cs id with
 |none=>(cs,8)
 |some c=>if (dkStep t c.st act).2=0 then (csPut cs id (dkStep t c.st act).1 (c.ev+1),0) else (cs,(dkStep t c.st act).2)
def dkEnd (t:Tb) (cs:List Cs) (id:ByteArray):List Cs × Nat:=
 match csAt cs id with
 |none=>(cs,8)
 |some c=>if accT t c.st=true then (csDel cs id,0) else (cs,10)
def optsT (t:Tb) (s:Nat):List ByteArray:=t.acts.filter fun x=>decide ((dkStep t s x).2=0)
theorem fnd_at {l:List ByteArray} (hd:l.Nodup) {i:Nat} {x:ByteArray} (h:l[i]? =some x):fnd x l 0=some i:=by
 cases e:fnd x l 0 with
 |none=>exact absurd (List.mem_of_getElem? h) (fnd_none e)
 |some j=>
  have hj:=(fnd_some e).2
  rw [Nat.sub_zero] at hj
  rw [(List.getElem?_inj (List.getElem?_eq_some_iff.1 h).1 hd).1 (h.trans hj.symm)]
end Go.Proofs.YtidakhhekofkoaaGreatDoor
namespace Go.Proofs.YtidakhhekofkoaaGreatDoor
open Go.RowKit Go.Deep
theorem AL.put {w wr:World} {T:Array Value} {L:List Bool} (h:AL w wr (w.heap.size+1) T L) (k:Nat) (x:Bool):AL w (wr.setCell ⟨w.heap.size+1,k,none⟩ (.bool x)) (w.heap.size+1) T (L.set k x):=by
 refine ⟨?_, ?_, ?_⟩
 ·have:=blk_set h.blk k (.bool x)
  rw [boolC_set] at this
  exact this
 ·exact (Below.heap_setCell _ _ _ _ (by show w.heap.size≠w.heap.size+1;omega)).trans h.box
 ·exact h.bel.setCell (p:=⟨w.heap.size+1,k,none⟩) (by show _≤w.heap.size+1;omega) _
theorem AL.at {w wr:World} {g:Nat} {T:Array Value} {L:List Bool} (h:AL w wr g T L) {k:Nat} (hk:k<L.length):wr.cell? ⟨g,k,none⟩=some (.bool (lv L k)):=by
 rw [cell_of_blk h.blk,boolC_at L k (lv L k) (by unfold lv;rw [List.getElem?_eq_getElem hk];rfl)]
theorem acc_mod (t:Tb) (i:Nat):(flT t i:Int).tmod 2=if accT t i then 1 else 0:=by
 unfold accT
 rw [Int.tmod_eq_emod_of_nonneg (by omega)]
 show ((flT t i:Nat):Int)%2=if (flT t i%2==1)=true then 1 else 0
 by_cases h:flT t i%2=1
 ·rw [if_pos (by simpa using h)];omega
 ·rw [if_neg (by simpa using h)];omega
structure ShT (t:Tb) (A n:Nat):Prop where
 hA:t.acts.length=A
 hn:t.nx.length=n
 hf:t.fl.length=n
 A1:1≤A
 A6:A≤6
 n1:1≤n
 n100:n≤100
 rs: ∀r∈t.nx,r.length=A∧ ∀x∈r,x<n
theorem ShT.step {t:Tb} {A n:Nat} (h:ShT t A n) {x a:Nat} (hx:x<n) (ha:a<A): ∃r k,t.nx[x]? =some r∧r[a]? =some k∧k<n:=by
 have hxl:x<t.nx.length:=by rw [h.hn];exact hx
 obtain ⟨h1,h2⟩:=h.rs t.nx[x] (List.getElem_mem hxl)
 have hal:a<t.nx[x].length:=by rw [h1];exact ha
 exact ⟨t.nx[x],t.nx[x][a],List.getElem?_eq_getElem hxl,List.getElem?_eq_getElem hal,h2 _ (List.getElem_mem hal)⟩
theorem ShT.lt {t:Tb} {A n:Nat} (h:ShT t A n) {x a:Nat} (hx:x<n) (ha:a<A):nxT t x a<n:=by
 obtain ⟨r,k,h1,h2,h3⟩:=h.step hx ha
 unfold nxT
 rw [h1]
 simp only [Option.getD_some]
 rw [h2]
 exact h3
structure TbK (W:World) (t:Tb) (A n fb f0 nb n0:Nat) (rb ro rc:Nat→Nat):Prop where
 sh:ShT t A n
 fla: ∀i,i<n→W.cell? ⟨fb,f0+i,none⟩=some (.int .i64 (flT t i:Int))
 row: ∀i,i<n→W.cell? ⟨nb,n0+i,none⟩=some (.slice (some ⟨rb i,ro i,none⟩) A (rc i))
 nxt: ∀i a,i<n→a<A→W.cell? ⟨rb i,ro i+a,none⟩=some (.int .i64 (nxT t i a:Int))
 lf:fb<W.heap.size
 ln:nb<W.heap.size
 lr: ∀i,i<n→rb i<W.heap.size
theorem TbK.later {W W':World} {t:Tb} {A n fb f0 nb n0:Nat} {rb ro rc:Nat→Nat} (h:TbK W t A n fb f0 nb n0 rb ro rc) (hb:Below W.heap.size W W'):TbK W' t A n fb f0 nb n0 rb ro rc:=
 ⟨h.sh,fun i hi=>(bcell3 hb _ _ h.lf).trans (h.fla i hi),fun i hi=>(bcell3 hb _ _ h.ln).trans (h.row i hi),
  fun i a hi ha=>(bcell3 hb _ _ (h.lr i hi)).trans (h.nxt i a hi ha),Nat.lt_of_lt_of_le h.lf hb.size,Nat.lt_of_lt_of_le h.ln hb.size,fun i hi=>Nat.lt_of_lt_of_le (h.lr i hi) hb.size⟩
def lvPart (t:Tb) (L:List Bool) (i a:Nat):Bool:=lv L i||(((t.nx[i]?.getD []).take a).any (lv L))
theorem lvPart_zero (t:Tb) (L:List Bool) (i:Nat):lvPart t L i 0=lv L i:=by unfold lvPart;simp
theorem lvPart_succ {t:Tb} {A n:Nat} (h:ShT t A n) (L:List Bool) {i a:Nat} (hi:i<n) (hl:i<L.length) (ha:a<A):
  lvPart t L i (a+1)=(lvPart t L i a||lv (L.set i (lvPart t L i a)) (nxT t i a)):=by
 obtain ⟨r,k,h1,h2,h3⟩:=h.step hi ha
 have hx:nxT t i a=k:=by unfold nxT;rw [h1];simp only [Option.getD_some];rw [h2];rfl
 have e1:lvPart t L i (a+1)=(lvPart t L i a||lv L k):=by
  unfold lvPart
  rw [h1]
  simp only [Option.getD_some]
  rw [List.take_add_one,h2,Option.toList_some,List.any_append]
  simp only [List.any_cons,List.any_nil,Bool.or_false]
  rw [Bool.or_assoc]
 rw [e1,hx,lv_set]
 by_cases e:i=k
 ·subst e
  rw [if_pos ⟨rfl,hl⟩]
  unfold lvPart
  cases lv L i<;>simp
 ·rw [if_neg (fun h=>e h.1)]
theorem lvPart_all {t:Tb} {A n:Nat} (h:ShT t A n) (L:List Bool) {i:Nat} (hi:i<n):L.set i (lvPart t L i A)=lvRow t L i:=by
 unfold lvPart lvRow
 have hxl:i<t.nx.length:=by rw [h.hn];exact hi
 have hr:=(h.rs t.nx[i] (List.getElem_mem hxl)).1
 rw [List.getElem?_eq_getElem hxl]
 simp only [Option.getD_some]
 rw [List.take_of_length_le (by omega)]
theorem lvRounds_succ (t:Tb): ∀n (l:List Bool),lvRounds t (n+1) l=lvRound t (lvRounds t n l)
 |0,l=>rfl
 |n+1,l=>by
  rw [lvRounds,lvRounds_succ t n (lvRound t l),lvRounds]
theorem lrange_fold (t:Tb) (L:List Bool) (i:Nat):(List.range (i+1)).foldl (lvRow t) L=lvRow t ((List.range i).foldl (lvRow t) L) i:=by
 rw [List.range_succ,List.foldl_append]
 rfl
def lvI (t:Tb) (n i:Nat):List Bool:=(List.range n).map fun j=>if j<i then accT t j else false
theorem lvI_len (t:Tb) (n i:Nat):(lvI t n i).length=n:=by unfold lvI;rw [List.length_map,List.length_range]
theorem lvI_zero (t:Tb) (n:Nat):lvI t n 0=List.replicate n false:=by
 unfold lvI
 refine List.ext_getElem (by simp) fun k h1 h2=> ?_
 simp
theorem lvI_all {t:Tb} {n:Nat} (hf:t.fl.length=n):lvI t n n=lv0 t:=by
 unfold lvI lv0
 refine List.ext_getElem (by simp [hf]) fun k h1 h2=> ?_
 rw [List.getElem_map,List.getElem_map,List.getElem_range]
 have hk:k<t.fl.length:=by rw [List.length_map] at h2;exact h2
 rw [if_pos (by omega)]
 unfold accT
 rw [List.getElem?_eq_getElem hk]
 rfl
theorem lvI_succ (t:Tb) (n i:Nat):(lvI t n i).set i (accT t i)=lvI t n (i+1):=by
 unfold lvI
 refine List.ext_getElem (by simp) fun k h1 h2=> ?_
 rw [List.getElem_set,List.getElem_map,List.getElem_map,List.getElem_range]
 by_cases e:i=k
 ·subst e
  rw [if_pos rfl,if_pos (by omega)]
 ·rw [if_neg e]
  by_cases h:k<i
  ·rw [if_pos h,if_pos (by omega)]
  ·rw [if_neg h,if_neg (by omega)]
def LivP (t:Tb) (n:Nat) (w w':World) (e:Ending):Prop:= ∃L:List Bool,e= .returned (.slice (some ⟨w.heap.size+1,0,none⟩) n n)∧w'.heap[w.heap.size+1]? =some (.cells (boolC L) 4 (0,0))∧L.length=n∧(∀i,lv L i=true↔Lives t i)∧Below w.heap.size w w'
set_option maxHeartbeats 8000000 in
set_option maxRecDepth 100000 in
theorem Living_any (w:World) (t:Tb) (A n:Nat) (ao:Option Addr) (na ac fb f0 nb n0 fc nc:Nat) (rb ro rc:Nat→Nat) (hL:TbK w t A n fb f0 nb n0 rb ro rc):
  Calls Tryz.prog 182 #[.agg #[.slice ao na ac,.slice (some ⟨fb,f0,none⟩) n fc,.slice (some ⟨nb,n0,none⟩) n nc]] w fun e w'=>LivP t n w w' e:=by
 have hA1:=hL.sh.A1
 have hA6:=hL.sh.A6
 have hn1:=hL.sh.n1
 have hn100:=hL.sh.n100
 have HL:=hide hL
 obtain ⟨i0,hi0,hz0,hz1,hz2⟩:=info_parts Tryz.infoBool
 have hmk:=fun (w:World)=>make_run (P:=Tryz.prog) w 87 4 i0 (.bool false) Tryz.underlying87 hi0 hz0 hz1 rfl (by omega) n (by omega)
 clear hi0 hz0 hz1 hz2
 have hB:Below w.heap.size w (w.alloc (.cells #[.slice ao na ac,.slice (some ⟨fb,f0,none⟩) n fc,.slice (some ⟨nb,n0,none⟩) n nc] 36)):=(Below.refl _ _).alloc (Nat.le_refl _) _
 have hbool:boolC (List.replicate n false)=Array.replicate n (.bool false):=by
  unfold boolC;simp
 have HA0:Hid (AL w ((w.alloc (.cells #[.slice ao na ac,.slice (some ⟨fb,f0,none⟩) n fc,.slice (some ⟨nb,n0,none⟩) n nc] 36)).alloc (.cells (Array.replicate n (.bool false)) 4)) (w.heap.size+1) #[.slice ao na ac,.slice (some ⟨fb,f0,none⟩) n fc,.slice (some ⟨nb,n0,none⟩) n nc] (lvI t n 0)):=by
  rw [lvI_zero,←hbool]
  exact ⟨blk_alloc' _ _ _ (by simp),(Below.heap_alloc _ _ _ (by simp)).trans (blk_alloc _ _),hB.alloc (by simp) _⟩
 have hb0:=blk_alloc w (.cells #[.slice ao na ac,.slice (some ⟨fb,f0,none⟩) n fc,.slice (some ⟨nb,n0,none⟩) n nc] 36)
 have c01:=cell_of_blk hb0 1
 have l0:=lt_of_blk hb0
 clear hL hB hbool hb0
 go_enter Tryz.func182,Tryz.ntmps182
 go_wp2_with fail
 clear c01 l0 hmk
 generalize ((w.alloc (.cells #[.slice ao na ac,.slice (some ⟨fb,f0,none⟩) n fc,.slice (some ⟨nb,n0,none⟩) n nc] 36)).alloc (.cells (Array.replicate n (.bool false)) 4))=W0 at *
 go_loopw [4] (fun x wr=> ∃k:Nat,k≤n∧x= .int .i64 k∧Hid (AL w wr (w.heap.size+1) #[.slice ao na ac,.slice (some ⟨fb,f0,none⟩) n fc,.slice (some ⟨nb,n0,none⟩) n nc] (lvI t n k))) (fun x _=>n - (intOf x).toNat)
 case atStart=>exact ⟨0,Nat.zero_le _,rfl,HA0⟩
 case round=>
  obtain ⟨k,hk,rfl,H1⟩:=hrel
  by_cases hlt:k<n
  ·have hkn:(k:Int)<(n:Int):=by omega
   have hcl:=(unhide H1).at (k:=k) (by rw [lvI_len];exact hlt)
   have hfr:=frozen_of_blk (unhide H1).blk k
   have hlg:=lt_of_blk (unhide H1).blk
   have c01:=cell_of_blk (unhide H1).box 1
   have l0:=lt_of_blk (unhide H1).box
   have hfl:=((unhide HL).later (unhide H1).bel).fla k hlt
   have hlf:=((unhide HL).later (unhide H1).bel).lf
   have hmod:=acc_mod t k
   have HP:=hide ((unhide H1).put k (accT t k))
   rw [lvI_succ] at HP
   cases hac:accT t k with
   |true=>
    rw [hac] at hmod HP
    simp only [if_true] at hmod
    go_wp2_with fail
    go_roundw
    case rel=>exact ⟨k+1,by omega,by go_num,HP⟩
    case measure=>simp [intOf];omega
   |false=>
    rw [hac] at hmod HP
    simp only [Bool.false_eq_true,if_false] at hmod
    go_wp2_with fail
    go_roundw
    case rel=>exact ⟨k+1,by omega,by go_num,HP⟩
    case measure=>simp [intOf];omega
  ·have hkn:¬ (k:Int)<(n:Int):=by omega
   have hke:n=k:=by omega
   subst hke
   rw [lvI_all (unhide HL).sh.hf] at H1
   go_wp2_with fail
   rename World=>wR0
   go_loopw [5] (fun x wr=> ∃k:Nat,k≤n∧x= .int .i64 k∧Hid (AL w wr (w.heap.size+1) #[.slice ao na ac,.slice (some ⟨fb,f0,none⟩) n fc,.slice (some ⟨nb,n0,none⟩) n nc] (lvRounds t k (lv0 t)))) (fun x _=>n - (intOf x).toNat)
   case atStart=>exact ⟨0,Nat.zero_le _,rfl,H1⟩
   case round=>
    obtain ⟨k,hk,rfl,H1⟩:=hrel
    have hsz:(lvRounds t k (lv0 t)).length=n:=(lvRounds_le t _ _).1.symm.trans (by unfold lv0;rw [List.length_map];exact (unhide HL).sh.hf)
    by_cases hlt2:k<n
    ·have hkn2:(k:Int)<(n:Int):=by omega
     have HKS:=hide (lvRounds_succ t k (lv0 t))
     generalize lvRounds t k (lv0 t)=L0 at *
     have HSZ:=hide hsz
     clear hsz
     go_wp2_with fail
     rename World=>wR
     go_loopw [6] (fun x wr=> ∃i:Nat,i≤n∧x= .int .i64 i∧Hid (AL w wr (w.heap.size+1) #[.slice ao na ac,.slice (some ⟨fb,f0,none⟩) n fc,.slice (some ⟨nb,n0,none⟩) n nc] ((List.range i).foldl (lvRow t) L0))) (fun x _=>n - (intOf x).toNat)
     case atStart=>exact ⟨0,Nat.zero_le _,rfl,H1⟩
     case round=>
      obtain ⟨i,hi,rfl,H2⟩:=hrel
      by_cases hil:i<n
      ·have hin:(i:Int)<(n:Int):=by omega
       have HRF:=hide (lrange_fold t L0 i)
       have hlen:((List.range i).foldl (lvRow t) L0).length=n:=(foldl_le t _ _).1.symm.trans (unhide HSZ)
       generalize (List.range i).foldl (lvRow t) L0=L at *
       have HLN:=hide hlen
       have H20:Hid (AL w wr (w.heap.size+1) #[.slice ao na ac,.slice (some ⟨fb,f0,none⟩) n fc,.slice (some ⟨nb,n0,none⟩) n nc] (L.set i (lvPart t L i 0))):=by
        show AL _ _ _ _ _
        have e:L.set i (lvPart t L i 0)=L:=by
         rw [lvPart_zero]
         refine List.ext_getElem (by simp) fun k h1 h2=> ?_
         rw [List.getElem_set]
         by_cases e:i=k
         ·subst e
          rw [if_pos rfl]
          unfold lv
          rw [List.getElem?_eq_getElem h2]
          rfl
         ·rw [if_neg e]
        rw [e]
        exact unhide H2
       clear hlen
       go_wp2_with fail
       rename World=>wS
       go_loopw [7] (fun x wr=> ∃a:Nat,a≤A∧x= .int .i64 a∧Hid (AL w wr (w.heap.size+1) #[.slice ao na ac,.slice (some ⟨fb,f0,none⟩) n fc,.slice (some ⟨nb,n0,none⟩) n nc] (L.set i (lvPart t L i a)))) (fun x _=>A - (intOf x).toNat)
       case atStart=>exact ⟨0,Nat.zero_le _,rfl,H20⟩
       case round=>
        obtain ⟨a,ha,rfl,H3⟩:=hrel
        have c02:=cell_of_blk (unhide H3).box 2
        have l0:=lt_of_blk (unhide H3).box
        have hrow:=((unhide HL).later (unhide H3).bel).row i hil
        have hln:=((unhide HL).later (unhide H3).bel).ln
        by_cases hal:a<A
        ·have han:(a:Int)<(A:Int):=by omega
         have hxn:=(unhide HL).sh.lt hil hal
         have HKS2:=hide (lvPart_succ (unhide HL).sh L (i:=i) (a:=a) hil (by rw [unhide HLN];exact hil) hal)
         have hci:=(unhide H3).at (k:=i) (by rw [List.length_set,unhide HLN];exact hil)
         have hcx:=(unhide H3).at (k:=nxT t i a) (by rw [List.length_set,unhide HLN];exact hxn)
         have hself:lv (L.set i (lvPart t L i a)) i=lvPart t L i a:=by rw [lv_set,if_pos ⟨rfl,by rw [unhide HLN];exact hil⟩]
         rw [hself] at hci
         have HP3:=hide ((unhide H3).put i (lvPart t L i (a+1)))
         rw [List.set_set] at HP3
         have hfr:=frozen_of_blk (unhide H3).blk i
         have hlg:=lt_of_blk (unhide H3).blk
         have hnx:=((unhide HL).later (unhide H3).bel).nxt i a hil hal
         have hlr:=((unhide HL).later (unhide H3).bel).lr i hil
         have hxi:(nxT t i a:Int)<(n:Int):=by omega
         generalize nxT t i a=x at *
         have hres:lvPart t L i a=true∧lvPart t L i (a+1)=true∨lvPart t L i a=false∧lv (L.set i (lvPart t L i a)) x=true∧lvPart t L i (a+1)=true∨lvPart t L i a=false∧lv (L.set i (lvPart t L i a)) x=false∧lvPart t L i (a+1)=false:=by
          rw [unhide HKS2]
          generalize lv (L.set i (lvPart t L i a)) x=y
          cases lvPart t L i a<;>cases y<;>simp
         clear hself
         rcases hres with ⟨k1,k2⟩|⟨k1,k3,k2⟩|⟨k1,k3,k2⟩
         all_goals (
          rw [k2] at HP3
          rw [k1] at hci
          try rw [k3] at hcx
          go_wp2_with fail
          go_roundw
          case rel=>exact ⟨a+1,by omega,by go_num,by rw [k2];exact HP3⟩
          case measure=>simp [intOf];omega)
        ·have han:¬ (a:Int)<(A:Int):=by omega
         have haA:a=A:=by omega
         have HFN:Hid (L.set i (lvPart t L i a)=lvRow t L i):=by
          show _=_
          rw [haA]
          exact lvPart_all (unhide HL).sh L hil
         go_wp2_with fail
         go_roundw
         case rel=>exact ⟨i+1,by omega,by go_num,by rw [unhide HRF,←unhide HFN];exact H3⟩
         case measure=>simp [intOf];omega
      ·have hin:¬ (i:Int)<(n:Int):=by omega
       have hie:i=n:=by omega
       subst hie
       go_wp2_with fail
       go_roundw
       case rel=>exact ⟨k+1,by omega,by go_num,by rw [unhide HKS];unfold lvRound;rw [unhide HSZ];exact H2⟩
       case measure=>simp [intOf];omega
    ·have hkn2:¬ (k:Int)<(n:Int):=by omega
     have hke:n=k:=by omega
     subst hke
     go_wp2_with fail
     go_ret
     refine ⟨_,rfl,(unhide H1).blk,hsz,fun i=> ?_,(unhide H1).bel⟩
     have:=living_ref (t:=t) (by rw [(unhide HL).sh.hf,(unhide HL).sh.hn]) i
     rw [(unhide HL).sh.hf] at this
     exact this
end Go.Proofs.YtidakhhekofkoaaGreatDoor
