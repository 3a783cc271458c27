/- The reference: ahead: the point ahead of one. -/
import Derived.Test.YtidakhhekofkoaaGreatDoorJ30
import Derived.Test.YtidakhhekofkoaaGreatDoorJ18
import Derived.OwnWalk
import Derived.Test.YtidakhhekofkoaaGreatDoorJ11
import Derived.Deep.DeepCutAuto
import Derived.BigQuiet
import Derived.Test.YtidakhhekofkoaaGreatDoorJ25
set_option linter.unusedSimpArgs false
set_option linter.unusedVariables false
namespace Go.Proofs.YtidakhhekofkoaaGreatDoor
open Go.RowKit Go.Deep
theorem ptOf_len (P:List Bool) (i m:Bool) (a:Int) (L:List Nd):(ptOf P i m a L).length=L.length:=by
 induction L using snocInd with
 |h0=>rfl
 |h1 L d ih=>rw [ptOf_snoc];unfold ptStep;rw [List.length_append,ih,List.length_append];rfl
theorem ptOf_pre (P:List Bool) (i m:Bool) (a:Int) (L M:List Nd): ∃S,ptOf P i m a (L++M)=ptOf P i m a L++S:=by
 induction M using snocInd with
 |h0=>exact ⟨[],by rw [List.append_nil,List.append_nil]⟩
 |h1 M d ih=>
  obtain ⟨S,hS⟩:=ih
  rw [←List.append_assoc,ptOf_snoc,hS]
  unfold ptStep
  exact ⟨_,List.append_assoc _ _ _⟩
theorem ptOf_at {P:List Bool} {i m:Bool} {a:Int} {L:List Nd} {k:Nat} {d:Nd} (h:L[k]? =some d) (ha:d.a<k) (hb:d.b<k):
  (ptOf P i m a L)[k]? =some (stepP d.k i m (decide (d.t=a)) (bitAt (ptOf P i m a L) d.a) (bitAt (ptOf P i m a L) d.b) (bitAt P d.a) (bitAt P k)):=by
 have hk:=(List.getElem?_eq_some_iff.1 h).1
 have e:L=(L.take k++[d])++L.drop (k+1):=by
  rw [List.append_assoc,List.singleton_append]
  conv=>lhs;rw [←List.take_append_drop k L]
  rw [List.drop_eq_getElem_cons hk,(List.getElem?_eq_some_iff.1 h).2]
 obtain ⟨S,hS⟩:=ptOf_pre P i m a (L.take k++[d]) (L.drop (k+1))
 rw [←e,ptOf_snoc] at hS
 have hl:(ptOf P i m a (L.take k)).length=k:=by rw [ptOf_len,List.length_take];omega
 unfold ptStep at hS
 rw [hl] at hS
 rw [hS,List.append_assoc,bitAt_pre (by rw [hl];exact ha),bitAt_pre (by rw [hl];exact hb),List.getElem?_append_right (by omega),hl,Nat.sub_self]
 rfl
theorem bitAt_nat {V:List Bool} {k:Nat} {x:Bool} (h:V[k]? =some x):bitAt V (k:Int)=x:=by
 unfold bitAt
 rw [if_neg (by omega),Int.toNat_natCast,h]
 rfl
theorem NSx.ex {w:World} {nb B:Nat} {L:List Nd} {T:List Int} (h:NSx w nb B L T): ∃p0 c0 p1 c1 p2 c2 p3 c3 p4 c4,w.heap[nb]? =some (.cells #[.slice p0 L.length c0,.slice p1 L.length c1,.slice p2 L.length c2,.slice p3 L.length c3,.slice p4 T.length c4] 294 (0,0))∧
  (∀(k:Nat) (d:Nd),L[k]? =some d→ ∃g0 g1 g2 g3,p0=some ⟨g0,0,none⟩∧p1=some ⟨g1,0,none⟩∧p2=some ⟨g2,0,none⟩∧p3=some ⟨g3,0,none⟩∧g0<w.heap.size∧g1<w.heap.size∧g2<w.heap.size∧g3<w.heap.size∧
   w.cell? ⟨g0,k,none⟩=some (.int .u8 (refO d.k))∧w.cell? ⟨g1,k,none⟩=some (.int .i64 d.a)∧w.cell? ⟨g2,k,none⟩=some (.int .i64 d.b)∧w.cell? ⟨g3,k,none⟩=some (.int .i64 d.t))∧
  ∀(k:Nat) (t:Int),T[k]? =some t→ ∃g4,p4=some ⟨g4,0,none⟩∧g4<w.heap.size∧w.cell? ⟨g4,k,none⟩=some (.int .i64 t):=by
 obtain ⟨v,hv⟩:=h
 have o0:=hv.own 0
 have o1:=hv.own 1
 have o2:=hv.own 2
 have o3:=hv.own 3
 have o4:=hv.own 4
 have l0:(ndX L T 0).length=L.length:=by simp [ndX]
 have l1:(ndX L T 1).length=L.length:=by simp [ndX]
 have l2:(ndX L T 2).length=L.length:=by simp [ndX]
 have l3:(ndX L T 3).length=L.length:=by simp [ndX]
 have l4:(ndX L T 4).length=T.length:=by simp [ndX]
 rw [l0] at o0;rw [l1] at o1;rw [l2] at o2;rw [l3] at o3;rw [l4] at o4
 obtain ⟨p0,c0,e0⟩:=owns_val o0
 obtain ⟨p1,c1,e1⟩:=owns_val o1
 obtain ⟨p2,c2,e2⟩:=owns_val o2
 obtain ⟨p3,c3,e3⟩:=owns_val o3
 obtain ⟨p4,c4,e4⟩:=owns_val o4
 rw [e0] at o0;rw [e1] at o1;rw [e2] at o2;rw [e3] at o3;rw [e4] at o4
 refine ⟨p0,c0,p1,c1,p2,c2,p3,c3,p4,c4,by rw [←e0,←e1,←e2,←e3,←e4];exact hv.blk,fun k d hd=> ?_,fun k t ht=> ?_⟩
 ·have hk:=(List.getElem?_eq_some_iff.1 hd).1
  obtain ⟨g0,rfl,h0,x0⟩:=owns1_at o0 hk
  obtain ⟨g1,rfl,h1,x1⟩:=owns1_at o1 hk
  obtain ⟨g2,rfl,h2,x2⟩:=owns1_at o2 hk
  obtain ⟨g3,rfl,h3,x3⟩:=owns1_at o3 hk
  exact ⟨g0,g1,g2,g3,rfl,rfl,rfl,rfl,h0,h1,h2,h3,by rw [x0];simp [ndX,hd],by rw [x1];simp [ndX,hd],by rw [x2];simp [ndX,hd],by rw [x3];simp [ndX,hd]⟩
 ·have hk:=(List.getElem?_eq_some_iff.1 ht).1
  obtain ⟨g4,rfl,h4,x4⟩:=owns1_at o4 hk
  exact ⟨g4,rfl,h4,by rw [x4];simp [ndX,ht]⟩
theorem bits_str (w:World) (g n:Nat) (b:List Bool) (ty:Nat) (m:Nat × Nat) (h:w.heap[g]? =some (.cells (bitC b) ty m)) (hn:b.length=n):
  (convert 51 9 (.slice (some ⟨g,0,none⟩) n n)).run Tryz.prog w= .ok (.string (setS b)) w:=by
 have:=run_convert_bytes_back (P:=Tryz.prog) w 51 9 5 ⟨g,0,none⟩ n (b.map bit8) Tryz.underlying51 Tryz.underlying5 Tryz.underlying9 (fun j hj=>by
  have hj':j<b.length:=by simpa using hj
  rw [Addr.add_lit,Nat.zero_add,cell_of_blk h,bitC_at (List.getElem?_eq_getElem hj')]
  simp)
 rw [List.length_map,hn] at this
 exact this
structure AX (w wr:World) (P:List Bool) (pe:Bool) (b:List Bool):Prop where
 blk:wr.heap[w.heap.size+2]? =some (.cells (bitC b) 5 (0,0))
 box:wr.heap[w.heap.size]? =some (.cells #[.string (setS P),.bool pe] 302 (0,0))
 res:wr.heap[w.heap.size+1]? =some (.cells #[.string ⟨#[]⟩,.bool false] 302 (0,0))
 bel:Below w.heap.size w wr
theorem AX.set {w wr:World} {P b:List Bool} {pe:Bool} (h:AX w wr P pe b) (k:Nat) (x:Bool):AX w (wr.setCell ⟨w.heap.size+2,k,none⟩ (.int .u8 ((bit8 x).toNat:Int))) P pe (b.set k x):=by
 refine ⟨?_, ?_, ?_, ?_⟩
 ·have:=blk_set h.blk k (.int .u8 ((bit8 x).toNat:Int))
  rw [bitC_set] at this
  exact this
 ·exact (Below.heap_setCell _ _ _ _ (by show w.heap.size≠w.heap.size+2;omega)).trans h.box
 ·exact (Below.heap_setCell _ _ _ _ (by show w.heap.size+1≠w.heap.size+2;omega)).trans h.res
 ·exact h.bel.setCell (p:=⟨w.heap.size+2,k,none⟩) (by show _≤w.heap.size+2;omega) _
theorem AX.bits {w wr:World} {P V:List Bool} {pe:Bool} {k n j:Nat} (h:AX w wr P pe (bitsTo V k)) (hV:V.length=n) (hk:k≤n) (hj:j<k): ∃y:Bool,V[j]? =some y∧wr.cell? ⟨w.heap.size+2,j,none⟩=some (.int .u8 (if y=true then 1 else 0)):=by
 have hjv:j<V.length:=by omega
 refine ⟨V[j],List.getElem?_eq_getElem hjv, ?_⟩
 rw [cell_of_blk h.blk,bitC_at (x:=V[j]) (by unfold bitsTo;rw [List.getElem?_append_left (by rw [List.length_take];omega),List.getElem?_take_of_lt hj];exact List.getElem?_eq_getElem hjv),bit8_nat]
theorem AX.slot {w wr:World} {P V:List Bool} {pe:Bool} {k n:Nat} (h:AX w wr P pe (bitsTo V k)) (hV:V.length=n) (hk:k<n): ∃z,wr.cell? ⟨w.heap.size+2,k,none⟩=some z:=by
 have hjv:k<(bitsTo V k).length:=by rw [bitsTo_len (by omega)];omega
 exact ⟨_,(cell_of_blk h.blk k).trans (bitC_at (List.getElem?_eq_getElem hjv))⟩
theorem AX.bit1 {w wr:World} {P V:List Bool} {pe:Bool} {k:Nat} (h:Hid (AX w wr P pe (bitsTo V k))) (hy:Hid (V[k]? =some true)):Hid (AX w (wr.setCell ⟨w.heap.size+2,k,none⟩ (.int .u8 1)) P pe (bitsTo V (k+1))):=by
 show AX _ _ _ _ _
 rw [bitsTo_succ (unhide hy)]
 exact (unhide h).set k true
theorem AX.bit0 {w wr:World} {P V:List Bool} {pe:Bool} {k:Nat} (h:Hid (AX w wr P pe (bitsTo V k))) (hy:Hid (V[k]? =some false)):Hid (AX w wr P pe (bitsTo V (k+1))):=by
 show AX _ _ _ _ _
 rw [bitsTo_same (unhide hy)]
 exact unhide h
set_option maxHeartbeats 60000000 in
set_option maxRecDepth 100000 in
theorem ahead_end (w:World) (nb B:Nat) (L:List Nd) (T:List Int) (hN:NSx w nb B L T) (hg:AllGood L) (hL:L.length≤1000) (P:List Bool) (pe:Bool):
  Calls Tryz.prog 207 #[.pointer (some ⟨nb,0,none⟩),.agg #[.string (setS P),.bool pe],.int .i64 (-1)] w fun e w'=>
   e= .returned (.agg #[.string (setS (ptOf P false false (-1) L)),.bool true])∧Below w.heap.size w w':=by
 have HG:=hide hg
 have HX0:Hid (AX w (((w.alloc (.cells #[.string (setS P),.bool pe] 302)).alloc (.cells #[.string ⟨#[]⟩,.bool false] 302)).alloc (.cells (Array.replicate L.length (.int .u8 0)) 5)) P pe (bitsTo (ptOf P false false (-1) L) 0)):=by
  rw [bitsTo_zero,ptOf_len]
  refine ⟨?_,(Below.heap_alloc _ _ _ (by simp;omega)).trans ((Below.heap_alloc _ _ _ (by simp)).trans (blk_alloc _ _)),(Below.heap_alloc _ _ _ (by simp)).trans (blk_alloc' _ _ _ (by simp)),(((Below.refl _ _).alloc (Nat.le_refl _) _).alloc (by simp) _).alloc (by simp;omega) _⟩
  rw [bitC_zero]
  exact blk_alloc' _ _ _ (by simp)
 have HVL:Hid ((ptOf P false false (-1) L).length=L.length):=ptOf_len _ _ _ _ _
 have HPT:=hide (fun (k:Nat) (d:Nd) (h1:L[k]? =some d) (h2:d.a<k) (h3:d.b<k)=> @ptOf_at P false false (-1) L k d h1 h2 h3)
 have hmk:=fun W:World=>mkBytes W L.length (by omega)
 obtain ⟨p0,c0,p1,c1,p2,c2,p3,c3,p4,c4,hnb,hnd,_⟩:=hN.ex
 have HNB:=hide hnb
 have HND:=hide hnd
 have b0:=cell_of_blk hnb 0
 have l0:=lt_of_blk hnb
 clear hN hg hnb hnd
 generalize hVV:ptOf P false false (-1) L=V at *
 clear hVV
 go_enter Tryz.func207,Tryz.ntmps207
 go_wp2_with fail
 generalize ((w.alloc (.cells #[.string (setS P),.bool pe] 302)).alloc (.cells #[.string ⟨#[]⟩,.bool false] 302)).alloc (.cells (Array.replicate L.length (.int .u8 0)) 5)=W0 at *
 clear hmk b0
 go_loopw [8] (fun x wr=> ∃k:Nat,k≤L.length∧x= .int .i64 k∧Hid (AX w wr P pe (bitsTo V k))) (fun x _=>L.length - (intOf x).toNat)
 case atStart=>exact ⟨0,Nat.zero_le _,rfl,HX0⟩
 case round=>
  obtain ⟨k,hk,rfl,HX⟩:=hrel
  have hbel:=(unhide HX).bel
  have hnb:=(hbel.block nb l0).trans (unhide HNB)
  have b0:=cell_of_blk hnb 0
  have b1:=cell_of_blk hnb 1
  have b2:=cell_of_blk hnb 2
  have b3:=cell_of_blk hnb 3
  have l0:=Nat.lt_of_lt_of_le l0 hbel.size
  have x0:wr.cell? ⟨w.heap.size,0,none⟩=some (.string (setS P)):=cell_of_blk (unhide HX).box 0
  have x1:wr.cell? ⟨w.heap.size,1,none⟩=some (.bool pe):=cell_of_blk (unhide HX).box 1
  have lx:=lt_of_blk (unhide HX).box
  by_cases hlt:k<L.length
  ·have hkn:(k:Int)<(L.length:Int):=by omega
   have hd:L[k]? =some L[k]:=List.getElem?_eq_getElem hlt
   have hgd:=unhide HG k L[k] hd
   have hpt:=unhide HPT k L[k] hd
   obtain ⟨g0,g1,g2,g3,rfl,rfl,rfl,rfl,h0,h1,h2,h3,e0,e1,e2,e3⟩:=unhide HND k L[k] hd
   have e0:=(bcell3 hbel _ _ h0).trans e0
   have e1:=(bcell3 hbel _ _ h1).trans e1
   have e2:=(bcell3 hbel _ _ h2).trans e2
   have e3:=(bcell3 hbel _ _ h3).trans e3
   have h0:=Nat.lt_of_lt_of_le h0 hbel.size
   have h1:=Nat.lt_of_lt_of_le h1 hbel.size
   have h2:=Nat.lt_of_lt_of_le h2 hbel.size
   have h3:=Nat.lt_of_lt_of_le h3 hbel.size
   have lv:=lt_of_blk (unhide HX).blk
   have vf:=frozen_of_blk (unhide HX).blk k
   have HBC:Hid (∀j,j<k→ ∃y:Bool,V[j]? =some y∧wr.cell? ⟨w.heap.size+2,j,none⟩=some (.int .u8 (if y=true then 1 else 0))):=fun j hj=>(unhide HX).bits (unhide HVL) hk hj
   obtain ⟨z0,vc⟩:=(unhide HX).slot (unhide HVL) hlt
   clear hnb hbel hd
   generalize L[k]=d at *
   obtain ⟨dk,da,db,dt⟩:=d
   replace hgd:(dk≤3∧da= -1∧db= -1)∨(4≤dk∧dk≤8∧(∃a:Nat,da=(a:Int)∧a<k)∧db= -1)∨(9≤dk∧dk≤12∧(∃a:Nat,da=(a:Int)∧a<k)∧ ∃b:Nat,db=(b:Int)∧b<k):=hgd
   dsimp only at hpt e0 e1 e2 e3
   rcases hgd with ⟨hk3,rfl,rfl⟩|⟨hk4,hk8,⟨ka,rfl,hka⟩,rfl⟩|⟨hk9,hk12,⟨ka,rfl,hka⟩,kb,rfl,hkb⟩
   ·have HBK:=hide (hpt (by omega) (by omega))
    clear hpt HBC
    have hdk:dk=0∨dk=1∨dk=2∨dk=3:=by omega
    rcases hdk with rfl|rfl|rfl|rfl
    ·by_cases hyd:(-1:Int)=dt
     ·rw [decide_eq_true hyd.symm] at HBK
      subst hyd
      as_aux_lemma=>((first|have HX2:=AX.bit1 HX HBK|have HX2:=AX.bit0 HX HBK);clear HBK HX;simp [refO] at e0;(try simp only [Bool.false_eq_true,reduceIte] at cu);(try simp only [Bool.false_eq_true,reduceIte] at cv);(try simp only [Bool.false_eq_true,reduceIte] at hua);(try simp only [Bool.false_eq_true,reduceIte] at hx);go_wp2_with fail;go_roundw;(case rel=>exact ⟨k+1,by omega,by go_num,HX2⟩);(case measure=>simp [intOf];omega))
     ·rw [decide_eq_false (fun e=>hyd e.symm)] at HBK
      as_aux_lemma=>((first|have HX2:=AX.bit1 HX HBK|have HX2:=AX.bit0 HX HBK);clear HBK HX;simp [refO] at e0;(try simp only [Bool.false_eq_true,reduceIte] at cu);(try simp only [Bool.false_eq_true,reduceIte] at cv);(try simp only [Bool.false_eq_true,reduceIte] at hua);(try simp only [Bool.false_eq_true,reduceIte] at hx);go_wp2_with fail;go_roundw;(case rel=>exact ⟨k+1,by omega,by go_num,HX2⟩);(case measure=>simp [intOf];omega))
    all_goals (as_aux_lemma=>((first|have HX2:=AX.bit1 HX HBK|have HX2:=AX.bit0 HX HBK);clear HBK HX;simp [refO] at e0;(try simp only [Bool.false_eq_true,reduceIte] at cu);(try simp only [Bool.false_eq_true,reduceIte] at cv);(try simp only [Bool.false_eq_true,reduceIte] at hua);(try simp only [Bool.false_eq_true,reduceIte] at hx);go_wp2_with fail;go_roundw;(case rel=>exact ⟨k+1,by omega,by go_num,HX2⟩);(case measure=>simp [intOf];omega)))
   ·obtain ⟨u,hu,cu⟩:=unhide HBC ka hka
    have HBK:=hide (hpt (by omega) (by omega))
    rw [bitAt_nat hu] at HBK
    have hkai:(ka:Int)<(L.length:Int):=by omega
    have hka0:ka<L.length:=by omega
    clear hpt HBC hu
    have hdk:dk=4∨dk=5∨dk=6∨dk=7∨dk=8:=by omega
    rcases hdk with rfl|rfl|rfl|rfl|rfl
    ·cases u<;>(as_aux_lemma=>((first|have HX2:=AX.bit1 HX HBK|have HX2:=AX.bit0 HX HBK);clear HBK HX;simp [refO] at e0;(try simp only [Bool.false_eq_true,reduceIte] at cu);(try simp only [Bool.false_eq_true,reduceIte] at cv);(try simp only [Bool.false_eq_true,reduceIte] at hua);(try simp only [Bool.false_eq_true,reduceIte] at hx);go_wp2_with fail;go_roundw;(case rel=>exact ⟨k+1,by omega,by go_num,HX2⟩);(case measure=>simp [intOf];omega)))
    all_goals (as_aux_lemma=>((first|have HX2:=AX.bit1 HX HBK|have HX2:=AX.bit0 HX HBK);clear HBK HX;simp [refO] at e0;(try simp only [Bool.false_eq_true,reduceIte] at cu);(try simp only [Bool.false_eq_true,reduceIte] at cv);(try simp only [Bool.false_eq_true,reduceIte] at hua);(try simp only [Bool.false_eq_true,reduceIte] at hx);go_wp2_with fail;go_roundw;(case rel=>exact ⟨k+1,by omega,by go_num,HX2⟩);(case measure=>simp [intOf];omega)))
   ·obtain ⟨u,hu,cu⟩:=unhide HBC ka hka
    have HBK:=hide (hpt (by omega) (by omega))
    rw [bitAt_nat hu] at HBK
    have hkai:(ka:Int)<(L.length:Int):=by omega
    have hka0:ka<L.length:=by omega
    obtain ⟨v,hv,cv⟩:=unhide HBC kb hkb
    rw [bitAt_nat hv] at HBK
    have hkbi:(kb:Int)<(L.length:Int):=by omega
    clear hpt HBC hu hv
    have hdk:dk=9∨dk=10∨dk=11∨dk=12:=by omega
    rcases hdk with rfl|rfl|rfl|rfl
    ·as_aux_lemma=>((first|have HX2:=AX.bit1 HX HBK|have HX2:=AX.bit0 HX HBK);clear HBK HX;simp [refO] at e0;(try simp only [Bool.false_eq_true,reduceIte] at cu);(try simp only [Bool.false_eq_true,reduceIte] at cv);(try simp only [Bool.false_eq_true,reduceIte] at hua);(try simp only [Bool.false_eq_true,reduceIte] at hx);go_wp2_with fail;go_roundw;(case rel=>exact ⟨k+1,by omega,by go_num,HX2⟩);(case measure=>simp [intOf];omega))
    all_goals (cases u<;>cases v<;>(as_aux_lemma=>((first|have HX2:=AX.bit1 HX HBK|have HX2:=AX.bit0 HX HBK);clear HBK HX;simp [refO] at e0;(try simp only [Bool.false_eq_true,reduceIte] at cu);(try simp only [Bool.false_eq_true,reduceIte] at cv);(try simp only [Bool.false_eq_true,reduceIte] at hua);(try simp only [Bool.false_eq_true,reduceIte] at hx);go_wp2_with fail;go_roundw;(case rel=>exact ⟨k+1,by omega,by go_num,HX2⟩);(case measure=>simp [intOf];omega))))
  ·have hkn:¬ (k:Int)<(L.length:Int):=by omega
   have hke:k=V.length:=by rw [unhide HVL];omega
   rw [hke,bitsTo_all] at HX
   clear hke
   have hcv:=bits_str wr _ L.length _ _ _ (unhide HX).blk (unhide HVL)
   have rc0:wr.cell? ⟨w.heap.size+1,0,none⟩=some (.string ⟨#[]⟩):=cell_of_blk (unhide HX).res 0
   have rc1:wr.cell? ⟨w.heap.size+1,1,none⟩=some (.bool false):=cell_of_blk (unhide HX).res 1
   have rf0:=frozen_of_blk (unhide HX).res 0
   have rf1:=frozen_of_blk (unhide HX).res 1
   have rl:=lt_of_blk (unhide HX).res
   have hfin:=blk_set (blk_set (unhide HX).res 0 (.string (setS V))) 1 (.bool true)
   have hbw:=((unhide HX).bel.setCell (p:=⟨w.heap.size+1,0,none⟩) (by show _≤w.heap.size+1;omega) (.string (setS V))).setCell (p:=⟨w.heap.size+1,1,none⟩) (by show _≤w.heap.size+1;omega) (.bool true)
   have HFIN:=hide hfin
   have HBW:=hide hbw
   clear hfin hbw
   go_wp2_with fail
   generalize (wr.setCell ⟨w.heap.size+1,0,none⟩ (.string (setS V))).setCell ⟨w.heap.size+1,1,none⟩ (.bool true)=wf at *
   have fcc:=fun o=>cell_of_blk (unhide HFIN) o
   refine bodyPost_ret (v:= .agg #[.string (setS V),.bool true]) (by simp [results,Tryz.results207,go_sem,fcc]) rfl ?_
   exact ⟨rfl,unhide HBW⟩
end Go.Proofs.YtidakhhekofkoaaGreatDoor
