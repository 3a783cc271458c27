/- The reference: ahead: the point ahead of one. (genTr8.py) -/
import Derived.Test.YtidakhhekofkoaaGreatDoorJ32
set_option linter.unusedSimpArgs false
set_option linter.unusedVariables false
namespace Go.Proofs.YtidakhhekofkoaaGreatDoor
open Go.RowKit Go.Deep
set_option maxHeartbeats 60000000 in
set_option maxRecDepth 100000 in
theorem ahead_in (w:World) (nb B:Nat) (L:List Nd) (T:List Int) (hN:NSx w nb B L T) (hg:AllGood L) (hL:L.length≤1000) (P:List Bool) (pe:Bool) (a:Nat) (ha:a≤1000) (hP:P.length=L.length):
  Calls Tryz.prog 207 #[.pointer (some ⟨nb,0,none⟩),.agg #[.string (setS P),.bool pe],.int .i64 ((a:Nat))] w fun e w'=>
   e= .returned (.agg #[.string (setS (ptOf P true (!pe) (a:Nat) L)),.bool false])∧Below w.heap.size w w':=by
 have HG:=hide hg
 have HX0:Hid (AX w (((w.alloc (.cells #[.string (setS P),.bool pe] 302)).alloc (.cells #[.string ⟨#[]⟩,.bool false] 302)).alloc (.cells (Array.replicate L.length (.int .u8 0)) 5)) P pe (bitsTo (ptOf P true (!pe) (a:Nat) L) 0)):=by
  rw [bitsTo_zero,ptOf_len]
  refine ⟨?_,(Below.heap_alloc _ _ _ (by simp;omega)).trans ((Below.heap_alloc _ _ _ (by simp)).trans (blk_alloc _ _)),(Below.heap_alloc _ _ _ (by simp)).trans (blk_alloc' _ _ _ (by simp)),(((Below.refl _ _).alloc (Nat.le_refl _) _).alloc (by simp) _).alloc (by simp;omega) _⟩
  rw [bitC_zero]
  exact blk_alloc' _ _ _ (by simp)
 have HVL:Hid ((ptOf P true (!pe) (a:Nat) L).length=L.length):=ptOf_len _ _ _ _ _
 have HPT:=hide (fun (k:Nat) (d:Nd) (h1:L[k]? =some d) (h2:d.a<k) (h3:d.b<k)=> @ptOf_at P true (!pe) (a:Nat) L k d h1 h2 h3)
 have hmk:=fun W:World=>mkBytes W L.length (by omega)
 obtain ⟨p0,c0,p1,c1,p2,c2,p3,c3,p4,c4,hnb,hnd,_⟩:=hN.ex
 have HNB:=hide hnb
 have HND:=hide hnd
 have b0:=cell_of_blk hnb 0
 have l0:=lt_of_blk hnb
 clear hN hg hnb hnd
 have HPL:=hide hP
 clear hP
 generalize hVV:ptOf P true (!pe) (a:Nat) L=V at *
 clear hVV
 go_enter Tryz.func207,Tryz.ntmps207
 go_wp2_with fail
 generalize ((w.alloc (.cells #[.string (setS P),.bool pe] 302)).alloc (.cells #[.string ⟨#[]⟩,.bool false] 302)).alloc (.cells (Array.replicate L.length (.int .u8 0)) 5)=W0 at *
 clear hmk b0
 go_loopw [8] (fun x wr=> ∃k:Nat,k≤L.length∧x= .int .i64 k∧Hid (AX w wr P pe (bitsTo V k))) (fun x _=>L.length - (intOf x).toNat)
 case atStart=>exact ⟨0,Nat.zero_le _,rfl,HX0⟩
 case round=>
  obtain ⟨k,hk,rfl,HX⟩:=hrel
  have hbel:=(unhide HX).bel
  have hnb:=(hbel.block nb l0).trans (unhide HNB)
  have b0:=cell_of_blk hnb 0
  have b1:=cell_of_blk hnb 1
  have b2:=cell_of_blk hnb 2
  have b3:=cell_of_blk hnb 3
  have l0:=Nat.lt_of_lt_of_le l0 hbel.size
  have x0:wr.cell? ⟨w.heap.size,0,none⟩=some (.string (setS P)):=cell_of_blk (unhide HX).box 0
  have x1:wr.cell? ⟨w.heap.size,1,none⟩=some (.bool pe):=cell_of_blk (unhide HX).box 1
  have lx:=lt_of_blk (unhide HX).box
  by_cases hlt:k<L.length
  ·have hkn:(k:Int)<(L.length:Int):=by omega
   have hd:L[k]? =some L[k]:=List.getElem?_eq_getElem hlt
   have hgd:=unhide HG k L[k] hd
   have hpt:=unhide HPT k L[k] hd
   obtain ⟨g0,g1,g2,g3,rfl,rfl,rfl,rfl,h0,h1,h2,h3,e0,e1,e2,e3⟩:=unhide HND k L[k] hd
   have e0:=(bcell3 hbel _ _ h0).trans e0
   have e1:=(bcell3 hbel _ _ h1).trans e1
   have e2:=(bcell3 hbel _ _ h2).trans e2
   have e3:=(bcell3 hbel _ _ h3).trans e3
   have h0:=Nat.lt_of_lt_of_le h0 hbel.size
   have h1:=Nat.lt_of_lt_of_le h1 hbel.size
   have h2:=Nat.lt_of_lt_of_le h2 hbel.size
   have h3:=Nat.lt_of_lt_of_le h3 hbel.size
   have lv:=lt_of_blk (unhide HX).blk
   have vf:=frozen_of_blk (unhide HX).blk k
   have HBC:Hid (∀j,j<k→ ∃y:Bool,V[j]? =some y∧wr.cell? ⟨w.heap.size+2,j,none⟩=some (.int .u8 (if y=true then 1 else 0))):=fun j hj=>(unhide HX).bits (unhide HVL) hk hj
   obtain ⟨z0,vc⟩:=(unhide HX).slot (unhide HVL) hlt
   clear hnb hbel hd
   generalize L[k]=d at *
   obtain ⟨dk,da,db,dt⟩:=d
   replace hgd:(dk≤3∧da= -1∧db= -1)∨(4≤dk∧dk≤8∧(∃a:Nat,da=(a:Int)∧a<k)∧db= -1)∨(9≤dk∧dk≤12∧(∃a:Nat,da=(a:Int)∧a<k)∧ ∃b:Nat,db=(b:Int)∧b<k):=hgd
   dsimp only at hpt e0 e1 e2 e3
   have hkP:k<P.length:=by rw [unhide HPL];exact hlt
   have hks:k<(setS P).size:=by rw [setS_size];exact hkP
   have hksi:(k:Int)<((setS P).size:Int):=by omega
   have hx:=setS_at hks (List.getElem?_eq_getElem hkP:P[k]? =some P[k])
   rw [bitAt_nat (List.getElem?_eq_getElem hkP)] at hpt
   generalize P[k]=x at *
   rcases hgd with ⟨hk3,rfl,rfl⟩|⟨hk4,hk8,⟨ka,rfl,hka⟩,rfl⟩|⟨hk9,hk12,⟨ka,rfl,hka⟩,kb,rfl,hkb⟩
   ·have HBK:=hide (hpt (by omega) (by omega))
    clear hpt HBC
    have hdk:dk=0∨dk=1∨dk=2∨dk=3:=by omega
    rcases hdk with rfl|rfl|rfl|rfl
    ·by_cases hyd:((a:Nat):Int)=dt
     ·rw [decide_eq_true hyd.symm] at HBK
      subst hyd
      as_aux_lemma=>((first|have HX2:=AX.bit1 HX HBK|have HX2:=AX.bit0 HX HBK);clear HBK HX;simp [refO] at e0;(try simp only [Bool.false_eq_true,reduceIte] at cu);(try simp only [Bool.false_eq_true,reduceIte] at cv);(try simp only [Bool.false_eq_true,reduceIte] at hua);(try simp only [Bool.false_eq_true,reduceIte] at hx);go_wp2_with fail;go_roundw;(case rel=>exact ⟨k+1,by omega,by go_num,HX2⟩);(case measure=>simp [intOf];omega))
     ·rw [decide_eq_false (fun e=>hyd e.symm)] at HBK
      as_aux_lemma=>((first|have HX2:=AX.bit1 HX HBK|have HX2:=AX.bit0 HX HBK);clear HBK HX;simp [refO] at e0;(try simp only [Bool.false_eq_true,reduceIte] at cu);(try simp only [Bool.false_eq_true,reduceIte] at cv);(try simp only [Bool.false_eq_true,reduceIte] at hua);(try simp only [Bool.false_eq_true,reduceIte] at hx);go_wp2_with fail;go_roundw;(case rel=>exact ⟨k+1,by omega,by go_num,HX2⟩);(case measure=>simp [intOf];omega))
    all_goals (as_aux_lemma=>((first|have HX2:=AX.bit1 HX HBK|have HX2:=AX.bit0 HX HBK);clear HBK HX;simp [refO] at e0;(try simp only [Bool.false_eq_true,reduceIte] at cu);(try simp only [Bool.false_eq_true,reduceIte] at cv);(try simp only [Bool.false_eq_true,reduceIte] at hua);(try simp only [Bool.false_eq_true,reduceIte] at hx);go_wp2_with fail;go_roundw;(case rel=>exact ⟨k+1,by omega,by go_num,HX2⟩);(case measure=>simp [intOf];omega)))
   ·obtain ⟨u,hu,cu⟩:=unhide HBC ka hka
    have HBK:=hide (hpt (by omega) (by omega))
    rw [bitAt_nat hu] at HBK
    have hkai:(ka:Int)<(L.length:Int):=by omega
    have hka0:ka<L.length:=by omega
    have hkaP:ka<P.length:=by rw [unhide HPL];omega
    have hkas:ka<(setS P).size:=by rw [setS_size];exact hkaP
    have hkasi:(ka:Int)<((setS P).size:Int):=by omega
    have hua:=setS_at hkas (List.getElem?_eq_getElem hkaP:P[ka]? =some P[ka])
    rw [bitAt_nat (List.getElem?_eq_getElem hkaP)] at HBK
    generalize P[ka]=ua at *
    clear hpt HBC hu
    have hdk:dk=4∨dk=5∨dk=6∨dk=7∨dk=8:=by omega
    rcases hdk with rfl|rfl|rfl|rfl|rfl
    ·cases u
     all_goals (as_aux_lemma=>((first|have HX2:=AX.bit1 HX HBK|have HX2:=AX.bit0 HX HBK);clear HBK HX;simp [refO] at e0;(try simp only [Bool.false_eq_true,reduceIte] at cu);(try simp only [Bool.false_eq_true,reduceIte] at cv);(try simp only [Bool.false_eq_true,reduceIte] at hua);(try simp only [Bool.false_eq_true,reduceIte] at hx);go_wp2_with fail;go_roundw;(case rel=>exact ⟨k+1,by omega,by go_num,HX2⟩);(case measure=>simp [intOf];omega)))
    ·cases pe
     ·cases ua
      all_goals (as_aux_lemma=>((first|have HX2:=AX.bit1 HX HBK|have HX2:=AX.bit0 HX HBK);clear HBK HX;simp [refO] at e0;(try simp only [Bool.false_eq_true,reduceIte] at cu);(try simp only [Bool.false_eq_true,reduceIte] at cv);(try simp only [Bool.false_eq_true,reduceIte] at hua);(try simp only [Bool.false_eq_true,reduceIte] at hx);go_wp2_with fail;go_roundw;(case rel=>exact ⟨k+1,by omega,by go_num,HX2⟩);(case measure=>simp [intOf];omega)))
     ·as_aux_lemma=>((first|have HX2:=AX.bit1 HX HBK|have HX2:=AX.bit0 HX HBK);clear HBK HX;simp [refO] at e0;(try simp only [Bool.false_eq_true,reduceIte] at cu);(try simp only [Bool.false_eq_true,reduceIte] at cv);(try simp only [Bool.false_eq_true,reduceIte] at hua);(try simp only [Bool.false_eq_true,reduceIte] at hx);go_wp2_with fail;go_roundw;(case rel=>exact ⟨k+1,by omega,by go_num,HX2⟩);(case measure=>simp [intOf];omega))
    ·cases pe
     ·cases ua
      all_goals (as_aux_lemma=>((first|have HX2:=AX.bit1 HX HBK|have HX2:=AX.bit0 HX HBK);clear HBK HX;simp [refO] at e0;(try simp only [Bool.false_eq_true,reduceIte] at cu);(try simp only [Bool.false_eq_true,reduceIte] at cv);(try simp only [Bool.false_eq_true,reduceIte] at hua);(try simp only [Bool.false_eq_true,reduceIte] at hx);go_wp2_with fail;go_roundw;(case rel=>exact ⟨k+1,by omega,by go_num,HX2⟩);(case measure=>simp [intOf];omega)))
     ·as_aux_lemma=>((first|have HX2:=AX.bit1 HX HBK|have HX2:=AX.bit0 HX HBK);clear HBK HX;simp [refO] at e0;(try simp only [Bool.false_eq_true,reduceIte] at cu);(try simp only [Bool.false_eq_true,reduceIte] at cv);(try simp only [Bool.false_eq_true,reduceIte] at hua);(try simp only [Bool.false_eq_true,reduceIte] at hx);go_wp2_with fail;go_roundw;(case rel=>exact ⟨k+1,by omega,by go_num,HX2⟩);(case measure=>simp [intOf];omega))
    ·cases u
     ·cases x
      all_goals (as_aux_lemma=>((first|have HX2:=AX.bit1 HX HBK|have HX2:=AX.bit0 HX HBK);clear HBK HX;simp [refO] at e0;(try simp only [Bool.false_eq_true,reduceIte] at cu);(try simp only [Bool.false_eq_true,reduceIte] at cv);(try simp only [Bool.false_eq_true,reduceIte] at hua);(try simp only [Bool.false_eq_true,reduceIte] at hx);go_wp2_with fail;go_roundw;(case rel=>exact ⟨k+1,by omega,by go_num,HX2⟩);(case measure=>simp [intOf];omega)))
     ·as_aux_lemma=>((first|have HX2:=AX.bit1 HX HBK|have HX2:=AX.bit0 HX HBK);clear HBK HX;simp [refO] at e0;(try simp only [Bool.false_eq_true,reduceIte] at cu);(try simp only [Bool.false_eq_true,reduceIte] at cv);(try simp only [Bool.false_eq_true,reduceIte] at hua);(try simp only [Bool.false_eq_true,reduceIte] at hx);go_wp2_with fail;go_roundw;(case rel=>exact ⟨k+1,by omega,by go_num,HX2⟩);(case measure=>simp [intOf];omega))
    ·cases u
     ·as_aux_lemma=>((first|have HX2:=AX.bit1 HX HBK|have HX2:=AX.bit0 HX HBK);clear HBK HX;simp [refO] at e0;(try simp only [Bool.false_eq_true,reduceIte] at cu);(try simp only [Bool.false_eq_true,reduceIte] at cv);(try simp only [Bool.false_eq_true,reduceIte] at hua);(try simp only [Bool.false_eq_true,reduceIte] at hx);go_wp2_with fail;go_roundw;(case rel=>exact ⟨k+1,by omega,by go_num,HX2⟩);(case measure=>simp [intOf];omega))
     ·cases x
      all_goals (as_aux_lemma=>((first|have HX2:=AX.bit1 HX HBK|have HX2:=AX.bit0 HX HBK);clear HBK HX;simp [refO] at e0;(try simp only [Bool.false_eq_true,reduceIte] at cu);(try simp only [Bool.false_eq_true,reduceIte] at cv);(try simp only [Bool.false_eq_true,reduceIte] at hua);(try simp only [Bool.false_eq_true,reduceIte] at hx);go_wp2_with fail;go_roundw;(case rel=>exact ⟨k+1,by omega,by go_num,HX2⟩);(case measure=>simp [intOf];omega)))
   ·obtain ⟨u,hu,cu⟩:=unhide HBC ka hka
    have HBK:=hide (hpt (by omega) (by omega))
    rw [bitAt_nat hu] at HBK
    have hkai:(ka:Int)<(L.length:Int):=by omega
    have hka0:ka<L.length:=by omega
    obtain ⟨v,hv,cv⟩:=unhide HBC kb hkb
    rw [bitAt_nat hv] at HBK
    have hkbi:(kb:Int)<(L.length:Int):=by omega
    clear hpt HBC hu hv
    have hdk:dk=9∨dk=10∨dk=11∨dk=12:=by omega
    rcases hdk with rfl|rfl|rfl|rfl
    ·cases v
     ·cases u
      ·as_aux_lemma=>((first|have HX2:=AX.bit1 HX HBK|have HX2:=AX.bit0 HX HBK);clear HBK HX;simp [refO] at e0;(try simp only [Bool.false_eq_true,reduceIte] at cu);(try simp only [Bool.false_eq_true,reduceIte] at cv);(try simp only [Bool.false_eq_true,reduceIte] at hua);(try simp only [Bool.false_eq_true,reduceIte] at hx);go_wp2_with fail;go_roundw;(case rel=>exact ⟨k+1,by omega,by go_num,HX2⟩);(case measure=>simp [intOf];omega))
      ·cases x
       all_goals (as_aux_lemma=>((first|have HX2:=AX.bit1 HX HBK|have HX2:=AX.bit0 HX HBK);clear HBK HX;simp [refO] at e0;(try simp only [Bool.false_eq_true,reduceIte] at cu);(try simp only [Bool.false_eq_true,reduceIte] at cv);(try simp only [Bool.false_eq_true,reduceIte] at hua);(try simp only [Bool.false_eq_true,reduceIte] at hx);go_wp2_with fail;go_roundw;(case rel=>exact ⟨k+1,by omega,by go_num,HX2⟩);(case measure=>simp [intOf];omega)))
     ·as_aux_lemma=>((first|have HX2:=AX.bit1 HX HBK|have HX2:=AX.bit0 HX HBK);clear HBK HX;simp [refO] at e0;(try simp only [Bool.false_eq_true,reduceIte] at cu);(try simp only [Bool.false_eq_true,reduceIte] at cv);(try simp only [Bool.false_eq_true,reduceIte] at hua);(try simp only [Bool.false_eq_true,reduceIte] at hx);go_wp2_with fail;go_roundw;(case rel=>exact ⟨k+1,by omega,by go_num,HX2⟩);(case measure=>simp [intOf];omega))
    ·cases u
     ·as_aux_lemma=>((first|have HX2:=AX.bit1 HX HBK|have HX2:=AX.bit0 HX HBK);clear HBK HX;simp [refO] at e0;(try simp only [Bool.false_eq_true,reduceIte] at cu);(try simp only [Bool.false_eq_true,reduceIte] at cv);(try simp only [Bool.false_eq_true,reduceIte] at hua);(try simp only [Bool.false_eq_true,reduceIte] at hx);go_wp2_with fail;go_roundw;(case rel=>exact ⟨k+1,by omega,by go_num,HX2⟩);(case measure=>simp [intOf];omega))
     ·cases v
      all_goals (as_aux_lemma=>((first|have HX2:=AX.bit1 HX HBK|have HX2:=AX.bit0 HX HBK);clear HBK HX;simp [refO] at e0;(try simp only [Bool.false_eq_true,reduceIte] at cu);(try simp only [Bool.false_eq_true,reduceIte] at cv);(try simp only [Bool.false_eq_true,reduceIte] at hua);(try simp only [Bool.false_eq_true,reduceIte] at hx);go_wp2_with fail;go_roundw;(case rel=>exact ⟨k+1,by omega,by go_num,HX2⟩);(case measure=>simp [intOf];omega)))
    ·cases u
     ·cases v
      all_goals (as_aux_lemma=>((first|have HX2:=AX.bit1 HX HBK|have HX2:=AX.bit0 HX HBK);clear HBK HX;simp [refO] at e0;(try simp only [Bool.false_eq_true,reduceIte] at cu);(try simp only [Bool.false_eq_true,reduceIte] at cv);(try simp only [Bool.false_eq_true,reduceIte] at hua);(try simp only [Bool.false_eq_true,reduceIte] at hx);go_wp2_with fail;go_roundw;(case rel=>exact ⟨k+1,by omega,by go_num,HX2⟩);(case measure=>simp [intOf];omega)))
     ·as_aux_lemma=>((first|have HX2:=AX.bit1 HX HBK|have HX2:=AX.bit0 HX HBK);clear HBK HX;simp [refO] at e0;(try simp only [Bool.false_eq_true,reduceIte] at cu);(try simp only [Bool.false_eq_true,reduceIte] at cv);(try simp only [Bool.false_eq_true,reduceIte] at hua);(try simp only [Bool.false_eq_true,reduceIte] at hx);go_wp2_with fail;go_roundw;(case rel=>exact ⟨k+1,by omega,by go_num,HX2⟩);(case measure=>simp [intOf];omega))
    ·cases u
     ·as_aux_lemma=>((first|have HX2:=AX.bit1 HX HBK|have HX2:=AX.bit0 HX HBK);clear HBK HX;simp [refO] at e0;(try simp only [Bool.false_eq_true,reduceIte] at cu);(try simp only [Bool.false_eq_true,reduceIte] at cv);(try simp only [Bool.false_eq_true,reduceIte] at hua);(try simp only [Bool.false_eq_true,reduceIte] at hx);go_wp2_with fail;go_roundw;(case rel=>exact ⟨k+1,by omega,by go_num,HX2⟩);(case measure=>simp [intOf];omega))
     ·cases v
      all_goals (as_aux_lemma=>((first|have HX2:=AX.bit1 HX HBK|have HX2:=AX.bit0 HX HBK);clear HBK HX;simp [refO] at e0;(try simp only [Bool.false_eq_true,reduceIte] at cu);(try simp only [Bool.false_eq_true,reduceIte] at cv);(try simp only [Bool.false_eq_true,reduceIte] at hua);(try simp only [Bool.false_eq_true,reduceIte] at hx);go_wp2_with fail;go_roundw;(case rel=>exact ⟨k+1,by omega,by go_num,HX2⟩);(case measure=>simp [intOf];omega)))
  ·have hkn:¬ (k:Int)<(L.length:Int):=by omega
   have hke:k=V.length:=by rw [unhide HVL];omega
   rw [hke,bitsTo_all] at HX
   clear hke
   have hcv:=bits_str wr _ L.length _ _ _ (unhide HX).blk (unhide HVL)
   have rc0:wr.cell? ⟨w.heap.size+1,0,none⟩=some (.string ⟨#[]⟩):=cell_of_blk (unhide HX).res 0
   have rc1:wr.cell? ⟨w.heap.size+1,1,none⟩=some (.bool false):=cell_of_blk (unhide HX).res 1
   have rf0:=frozen_of_blk (unhide HX).res 0
   have rf1:=frozen_of_blk (unhide HX).res 1
   have rl:=lt_of_blk (unhide HX).res
   have hfin:=blk_set (blk_set (unhide HX).res 0 (.string (setS V))) 1 (.bool false)
   have hbw:=((unhide HX).bel.setCell (p:=⟨w.heap.size+1,0,none⟩) (by show _≤w.heap.size+1;omega) (.string (setS V))).setCell (p:=⟨w.heap.size+1,1,none⟩) (by show _≤w.heap.size+1;omega) (.bool false)
   have HFIN:=hide hfin
   have hneg:decide ((a:Int)<0)=false:=decide_eq_false (by omega)
   have HBW:=hide hbw
   clear hfin hbw
   go_wp2_with fail
   generalize (wr.setCell ⟨w.heap.size+1,0,none⟩ (.string (setS V))).setCell ⟨w.heap.size+1,1,none⟩ (.bool false)=wf at *
   have fcc:=fun o=>cell_of_blk (unhide HFIN) o
   refine bodyPost_ret (v:= .agg #[.string (setS V),.bool false]) (by simp [results,Tryz.results207,go_sem,fcc]) rfl ?_
   exact ⟨rfl,unhide HBW⟩
end Go.Proofs.YtidakhhekofkoaaGreatDoor
