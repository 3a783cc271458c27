/- Lists that are marked: the law's own book-keeping. -/
import Derived.Test.YtidakhhekofkoaaGreatDoorJ15
import Derived.OwnWalk
import Derived.ArgAppend
import Derived.Laws.CopyOwn
set_option linter.unusedSimpArgs false
set_option linter.unusedVariables false
namespace Go.Proofs.YtidakhhekofkoaaGreatDoor
open Go.RowKit Go.Deep
def AF (w:World) (b q:Nat) (v:Value):Prop:= ∀i,i<q→w.cell? ⟨b,i,none⟩=some v
structure MkF (v mv:Value) (N e:Nat) (w w':World):Prop where
 os:w'.os=w.os
 tape:w'.tape=w.tape
 output:w'.output=w.output
 size:w.heap.size≤w'.heap.size
 block: ∀k,k<w.heap.size→v.ownBlock≠some k→w'.heap[k]? =w.heap[k]?
 af: ∀b q,b<w.heap.size→q≤N→AF w b q mv→AF w' b q mv
 ty: ∀b,TyAt w b e→TyAt w' b e
 keeps: ∀{base n:Nat},w.ownsRow base e 1 v n (List.replicate n mv)→n≤N→w'.ownsRow base e 1 v n (List.replicate n mv)
theorem AF.of_owns {w:World} {base e n g cap:Nat} {mv:Value} (h:w.ownsRow base e 1 (.slice (some ⟨g,0,none⟩) n cap) n (List.replicate n mv)):AF w g n mv:=by
 intro i hi
 obtain ⟨g',h1,_,h2⟩:=owns1_at h hi
 cases h1
 rw [h2,List.getElem?_replicate,if_pos hi]
theorem MkF.grown {v mv:Value} {N e:Nat} {w w':World} (h:w.grownBy w' none):MkF v mv N e w w':=
 ⟨h.os,h.tape,h.output,h.size,fun k hk _=>h.block k hk (by intro e;cases e),fun b q hb _ ha i hi=>by
  have:=ha i hi
  have e:=h.block b hb (by intro e;cases e)
  unfold World.cell? at this⊢
  simp only [e];exact this,fun b ⟨c,m,hb⟩=>⟨c,m,(h.block b (lt_of_blk hb) (by intro e;cases e)).trans hb⟩,fun ho _=>owns_keep ho h (by
   cases hv:v.ownBlock with
   |none=>exact Or.inl rfl
   |some k=>exact Or.inr (by intro e;cases e))⟩
theorem owns_slice {w:World} {base e size n:Nat} {v:Value} {xs:List Value} (h:w.ownsRow base e size v n xs) (hn:0<n): ∃g cap,v= .slice (some ⟨g,0,none⟩) n cap∧base≤g:=by
 obtain ⟨_,⟨_,h2⟩|⟨g,cap,cur,hv,hg,_⟩⟩:=h
 ·omega
 ·exact ⟨g,cap,hv,hg⟩
theorem replicate_app {n m:Nat} {mv:Value}:List.replicate n mv++List.replicate m mv=List.replicate (n+m) mv:=by simp
theorem wpList_append_mark {P:Program} (w:World) {ops:Array Oper} {rest:List Oper} {o:Oper} {a:Act} {Q:Exit→Act→World→Prop} (hgd:o.guard=none) (s x:Operand) (t:TypeId)
  (ho:o.op=Op.call {callee:=Callee.builtin Builtin.append,args:= #[s,x],argTypes:= #[t,t]})
  (base:Nat) (e:TypeId) (i:TypeInfo) (z:Value) (bytes:Nat) (ht:P.underlying t=some (.slice e)) (hi:P.info? e=some i) (hz:i.zero=some z) (hsize:i.size=1) (hby:i.bytes=bytes) (hzs:z.cells.size=1)
  (v:Value) (n:Nat) (mv:Value) (hs:a.eval s=v) (hown:w.ownsRow base e 1 v n (List.replicate n mv))
  (ad:Addr) (m c:Nat) (hx:a.eval x= .slice (some ad) m c) (hnews: ∀j,j<m→w.cell? (ad.add j)=some mv) (h1:mv.oneCell'=true)
  (hm:0<m) (h63:n+m≤maxLen) (hbytes:(n+m) * bytes≤140737488355328) (hbase:base≤w.heap.size)
  (h: ∀g cap w',w'.ownsRow base e 1 (.slice (some ⟨g,0,none⟩) (n+m) cap) (n+m) (List.replicate (n+m) mv)→MkF v mv (n+m) e w w'→(v.ownBlock=some g∨w.heap.size≤g)→wpList P ops Q rest (a.put o.dst (.slice (some ⟨g,0,none⟩) (n+m) cap)) w'):wpList P ops Q (o::rest) a w:=by
 have hnl:(List.replicate m mv).length=m * 1:=by simp
 have hnc: ∀j u,(List.replicate m mv)[j]? =some u→w.cell? (ad.add j)=some u:=by
  intro j u hu
  rw [List.getElem?_replicate] at hu
  split at hu
  ·rename_i hj;cases hu;exact hnews j hj
  ·cases hu
 have hoc: ∀u∈List.replicate m mv,u.oneCell'=true:=by
  intro u hu
  rw [List.mem_replicate] at hu
  rw [hu.2];exact h1
 have grows: ∀(ao:Option Addr) (cap:Nat),v= .slice ao n cap→(ao=none→n=0∧cap=0)→(∀b,ao=some b→ ∀j u,(List.replicate n mv)[j]? =some u→w.cell? (b.add j)=some u)→cap<n+m→wpList P ops Q (o::rest) a w:=by
  intro ao cap hv hnone holds hfull
  refine wpList_append_grows w hgd s x t ho e i z 1 bytes ht hi hz hsize hby hzs (by decide) ao n cap (List.replicate n mv) (by rw [hs,hv]) hnone (by simp) holds ad m c (List.replicate m mv) hx hnl hnc hoc hfull h63 hbytes ?_
  intro v' w' ho' hg'
  obtain ⟨g,cap',rfl,hgb⟩:=owns_slice ho' (by omega)
  refine h g cap' w' ?_ (MkF.grown hg') (Or.inr hgb)
  rw [replicate_app] at ho'
  exact owns_mono ho' hbase
 obtain ⟨hlen,⟨hv,hn0⟩|⟨g,cap,cur,hv,hg,hrow,hle,hcap,hcs,htake⟩⟩:=id hown
 ·subst hn0
  exact grows none 0 hv (fun _=>⟨rfl,rfl⟩) (fun b hb=>by cases hb) (by omega)
 ·by_cases hr:n+m≤cap
  ·refine wpList_append_fits w hgd s x t ho base e i 1 ht hi hsize g n cap (List.replicate n mv) (by rw [hs,hv]) (hv▸hown) ad m c (List.replicate m mv) hx hnl hnc hoc hr ?_
   intro w' ho' hg'
   rw [replicate_app] at ho'
   refine h g cap w' ho' ⟨hg'.os,hg'.tape,hg'.output,hg'.size,fun k hk hne=>hg'.block k hk (by intro e;apply hne;rw [hv];exact e.symm),fun b q hb hq ha=> ?_,fun b ⟨c',m',hb⟩=> ?_,fun {base' n'} hk0 hq'=> ?_⟩ (Or.inl (by rw [hv];rfl))
   ·by_cases hbg:b=g
    ·subst hbg
     intro j hj
     exact AF.of_owns ho' j (by omega)
    ·intro j hj
     have:=ha j hj
     have e:=hg'.block b hb (by intro e;cases e;exact hbg rfl)
     unfold World.cell? at this⊢
     simp only [e];exact this
   ·by_cases hbg:b=g
    ·subst hbg
     obtain ⟨_,⟨hv2,_⟩|⟨g2,cap2,cur2,hv2,_,hrow2,_⟩⟩:=ho'
     ·cases hv2
     ·cases hv2;exact ⟨_,_,hrow2⟩
    ·exact ⟨c',m',(hg'.block b (lt_of_blk hb) (by intro e;cases e;exact hbg rfl)).trans hb⟩
   ·obtain ⟨k,hk⟩: ∃k,k=n+m:=⟨_,rfl⟩
    rw [←hk] at hq' ho'
    obtain ⟨hl2,⟨hv2,hn2⟩|⟨g2,cap2,cur2,hv2,hb2,hrow2,hle2,hcap2,hcs2,ht2⟩⟩:=hk0
    ·rw [hv] at hv2;cases hv2
    ·rw [hv] at hv2;cases hv2
     obtain ⟨_,⟨hv3,_⟩|⟨g3,cap3,cur3,hv3,hb3,hrow3,hle3,hcap3,hcs3,ht3⟩⟩:=ho'
     ·cases hv3
     ·cases hv3
      refine ⟨by simp,Or.inr ⟨g,cap,cur3,hv,hb2,hrow3,hle2,hcap2,hcs3, ?_⟩⟩
      have:=congrArg (List.take (n * 1)) ht3
      rw [List.take_take,Nat.min_eq_left (by omega)] at this
      rw [this,List.take_replicate,Nat.mul_one,Nat.min_eq_left hq']
  ·refine grows (some ⟨g,0,none⟩) cap hv (fun e=>by cases e) (fun b hb j u hu=> ?_) (by omega)
   cases hb
   rw [Addr.add_lit,Nat.zero_add,cell_of_blk hrow,←Array.getElem?_toList]
   rw [←htake,List.getElem?_take] at hu
   split at hu
   ·exact hu
   ·cases hu
def AllM (w:World) (l v:Value) (e:Nat):Prop:= ∃o n c,l= .slice o n c∧n≤10000000000000∧ ∀i,i<n→ ∃b,o=some ⟨b,0,none⟩∧TyAt w b e∧w.cell? ⟨b,i,none⟩=some v
set_option maxHeartbeats 1000000 in
set_option maxRecDepth 100000 in
theorem allTexts_any (w:World) (l:Value) (m:ByteArray) (h:AllM w l (.string m) 9):
  Calls Tryz.prog 66 #[l,.string m] w fun e w'=>e= .returned (.bool true)∧w'=w:=by
 obtain ⟨o,n,c,rfl,hn,h⟩:=h
 have H:=hide h
 clear h
 go_enter Tryz.func66,Tryz.ntmps66
 go_wp2_with fail
 go_loopw [5] (fun x wr=> ∃k:Nat,k≤n∧x= .int .i64 k∧Hid (w=wr)) (fun x _=>n - (intOf x).toNat)
 case atStart=>exact ⟨0,Nat.zero_le _,rfl,rfl⟩
 case round=>
  obtain ⟨k,hk,rfl,HW⟩:=hrel
  have hw:=unhide HW
  subst hw
  clear HW
  by_cases hlt:k<n
  ·have hkn:(k:Int)<(n:Int):=by omega
   obtain ⟨b,rfl,⟨_,_,hb0⟩,hc⟩:=unhide H k hlt
   have hb:=lt_of_blk hb0
   clear hb0
   go_wp2_with fail
   go_roundw
   case rel=>exact ⟨k+1,by omega,by go_num,trivial⟩
   case measure=>simp [intOf];omega
  ·have hkn:¬ (k:Int)<(n:Int):=by omega
   go_wp2_with fail
   go_ret
   exact ⟨rfl,rfl⟩
end Go.Proofs.YtidakhhekofkoaaGreatDoor
