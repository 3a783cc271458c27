/- The program's sum, Bytes. -/
import Derived.Test.YtidakhhekofkoaaGreatDoorJ19
import Derived.Lib.BufSteps
import Derived.Laws.IdiomStrings
set_option linter.unusedSimpArgs false
set_option linter.unusedVariables false
namespace Go.Proofs.YtidakhhekofkoaaGreatDoor
open Go.RowKit Go.Deep
def bytC (l:List UInt8):List Value:=l.map fun b=>Value.int .u8 (b.toNat:Int)
theorem bytC_app (l r:List UInt8):bytC (l++r)=bytC l++bytC r:=by unfold bytC;rw [List.map_append]
theorem bytC_len (l:List UInt8):(bytC l).length=l.length:=by unfold bytC;rw [List.length_map]
def ByS (w:World) (o:Option Addr) (l:List UInt8):Prop:= ∀(j:Nat) (x:UInt8),l[j]? =some x→ ∃b off,o=some ⟨b,off,none⟩∧b<w.heap.size∧w.cell? ⟨b,off+j,none⟩=some (.int .u8 (x.toNat:Int))
theorem OwnF.bys {w:World} {B e n c:Nat} {o:Option Addr} {l:List UInt8} (h:w.ownsRowF B e 1 (.slice o n c) n (bytC l)):ByS w o l:=fun j x hx=>by
 have hj:=(List.getElem?_eq_some_iff.1 hx).1
 obtain ⟨hl,⟨_,hn⟩|⟨g,cap,cur,fz,hv,_,hg,_,hle,_,hcs,htake⟩⟩:=h
 ·rw [bytC_len] at hl;omega
 ·cases hv
  refine ⟨g,0,rfl,lt_of_blk hg, ?_⟩
  rw [Nat.zero_add,cell_of_blk hg,←Array.getElem?_toList]
  have:(bytC l)[j]? =some (.int .u8 (x.toNat:Int)):=by unfold bytC;rw [List.getElem?_map,hx];rfl
  rw [←htake,List.getElem?_take] at this
  split at this
  ·exact this
  ·cases this
theorem actsB_snoc (a:ByteArray): ∀l:List ByteArray,actsB (l++[a])=actsB l++([u8 a.size]++a.data.toList)
 |[]=>by simp [actsB]
 |x::l=>by rw [List.cons_append,actsB,actsB_snoc a l,actsB];simp
theorem rowsB_snoc (f:Nat) (r:List Nat): ∀(fs:List Nat) (l:List (List Nat)),fs.length=l.length→rowsB (fs++[f]) (l++[r])=rowsB fs l++(u8 f::r.map u8)
 |[],[],_=>by simp [rowsB]
 |[],_::_,h=>by simp at h
 |_::_,[],h=>by simp at h
 |x::fs,y::l,h=>by rw [List.cons_append,List.cons_append,rowsB,rowsB_snoc f r fs l (by simpa using h),rowsB];simp
set_option maxHeartbeats 1000000 in
set_option maxRecDepth 100000 in
theorem sum_any (w:World) (bo:Option Addr) (n bc:Nat) (l:List UInt8) (h:ByS w bo l) (hn:l.length=n) (hl:n≤10000000000000):
  Calls Tryz.prog 88 #[.slice bo n bc] w fun e w'=>e= .returned (.int .i64 (sumL 3 l:Nat))∧w'=w:=by
 subst hn
 have H:=hide h
 clear h
 go_enter Tryz.func88,Tryz.ntmps88
 go_wp2_with fail
 go_loopw [3,8] (fun s x wr=> ∃k:Nat,k≤l.length∧s= .int .i64 (sumL 3 (l.take k):Nat)∧x= .int .i64 k∧Hid (w=wr)) (fun _ x _=>l.length - (intOf x).toNat)
 case atStart=>exact ⟨0,Nat.zero_le _,rfl,rfl,rfl⟩
 case round=>
  obtain ⟨k,hk,rfl,rfl,HW⟩:=hrel
  have hw:=unhide HW
  subst hw
  clear HW
  by_cases hlt:k<l.length
  ·have hkn:(k:Int)<(l.length:Int):=by omega
   obtain ⟨b,off,rfl,hb,hc⟩:=unhide H k l[k] (List.getElem?_eq_getElem hlt)
   have HTK:Hid (sumL 3 (l.take (k+1))=sumS (sumL 3 (l.take k)) l[k].toNat):=by
    show _=_
    rw [List.take_add_one,List.getElem?_eq_getElem hlt,sumL_append]
    rfl
   have hs:=sumL_lt (n:=3) (by decide) (l.take k)
   have hc8:=l[k].toNat_lt
   generalize l[k].toNat=c at *
   generalize sumL 3 (l.take k)=S at *
   go_wp2_with fail
   go_roundw
   case rel=>exact ⟨k+1,by omega,by rw [unhide HTK];unfold sumS;go_num,by go_num,trivial⟩
   case measure=>simp [intOf];omega
  ·have hkn:¬ (k:Int)<(l.length:Int):=by omega
   rw [List.take_of_length_le (by omega)]
   go_wp2_with fail
   go_ret
   exact ⟨rfl,rfl⟩
theorem Tryz.infoU8:(Tryz.prog.info? 5).map (fun i=>(i.zero,i.size,i.bytes))=some (some (.int .u8 0),1,1):=by kernel_rfl
def Bf (B:Nat) (W0 wr:World) (v:Value) (l:List UInt8):Prop:=Lib.OwnBuf B 5 v l.length (bytC l) W0 wr
theorem Bf.of {B:Nat} {W0 wr:World} {v:Value} {l:List UInt8} {n:Nat} {xs:List Value} (h:Lib.OwnBuf B 5 v n xs W0 wr) (hn:n=l.length) (hx:xs=bytC l):Bf B W0 wr v l:=by
 subst hn;subst hx;exact h
theorem strCells_byt (s:ByteArray):Lib.strCells s=bytC s.data.toList:=rfl
def pre1 (t:Tb) (k:Nat):List UInt8:=[83,1,u8 t.acts.length]++actsB (t.acts.take k)
def pre2 (t:Tb) (k:Nat):List UInt8:=pre1 t t.acts.length++[u8 t.nx.length]++rowsB (t.fl.take k) (t.nx.take k)
theorem pre1_succ {t:Tb} {k:Nat} {a:ByteArray} (h:t.acts[k]? =some a):pre1 t (k+1)=pre1 t k++[u8 a.size]++a.data.toList:=by
 unfold pre1
 rw [List.take_add_one,h]
 show _++actsB (t.acts.take k++[a])=_
 rw [actsB_snoc]
 simp
theorem pre2_succ {t:Tb} {k f:Nat} {r:List Nat} (hl:t.fl.length=t.nx.length) (hf:t.fl[k]? =some f) (h:t.nx[k]? =some r):pre2 t (k+1)=pre2 t k++[u8 f]++r.map u8:=by
 unfold pre2
 rw [List.take_add_one,List.take_add_one,h,hf]
 show _++rowsB (t.fl.take k++[f]) (t.nx.take k++[r])=_
 rw [rowsB_snoc f r _ _ (by simp [hl])]
 simp
theorem pre2_all (t:Tb) (hl:t.fl.length=t.nx.length):pre2 t t.nx.length=bodyB t:=by
 unfold pre2 pre1 bodyB
 rw [List.take_length,List.take_length,←hl,List.take_length]
 simp
theorem pre1_le {t:Tb} (h:RightT t) (k:Nat):(pre1 t k).length≤60:=by
 have h1:=actsB_len (t.acts.take k) (fun a ha=>(h.acts.nm a (List.mem_of_mem_take ha)).n8)
 have h2:=h.acts.n6
 unfold pre1
 rw [List.length_append]
 rw [List.length_take] at h1
 simp only [List.length_cons,List.length_nil]
 omega
theorem pre2_le {t:Tb} (h:RightT t) (k:Nat):(pre2 t k).length≤900:=by
 have h1:=pre1_le h t.acts.length
 have h2:=rowsB_len 6 (t.fl.take k) (t.nx.take k) (fun r hr=>by rw [(h.rs r (List.mem_of_mem_take hr)).1];exact h.acts.n6)
 have h3:=h.n100
 rw [List.length_take] at h2
 unfold pre2
 rw [List.length_append,List.length_append]
 simp only [List.length_cons,List.length_nil]
 omega
theorem zI_at {l:List Nat} {k:Nat} {x:Nat} (h:l[k]? =some x):(zI l)[k]? =some (x:Int):=by unfold zI;rw [List.getElem?_map,h];rfl
theorem zI_len (l:List Nat):(zI l).length=l.length:=by unfold zI;rw [List.length_map]
theorem bytC_one {n:Nat} (h:n<256):[Value.int .u8 (n:Int)]=bytC [u8 n]:=by
 unfold bytC
 rw [List.map_cons,List.map_nil,u8_toNat h]
theorem Bf.byte {B:Nat} {W0 wr:World} {v:Value} {l r:List UInt8} {n m:Nat} (hn:n<256) (h:Lib.OwnBuf B 5 v m (bytC l++[.int .u8 (n:Int)]) W0 wr) (hm:m=l.length+1) (hr:r=l++[u8 n]):Bf B W0 wr v r:=by
 subst hr
 exact Bf.of h (by rw [hm];simp) (by rw [bytC_app,bytC_one hn])
theorem Bf.text {B:Nat} {W0 wr:World} {v:Value} {l r:List UInt8} {s:ByteArray} {m:Nat} (h:Lib.OwnBuf B 5 v m (bytC l++Lib.strCells s) W0 wr) (hm:m=l.length+s.size) (hr:r=l++s.data.toList):Bf B W0 wr v r:=by
 subst hr
 exact Bf.of h (by rw [hm,List.length_append,size_data]) (by rw [bytC_app,strCells_byt])
theorem Bf.slice {B:Nat} {W0 wr:World} {v:Value} {l:List UInt8} (h:Bf B W0 wr v l) (hl:l≠[]): ∃g c,v= .slice (some ⟨g,0,none⟩) l.length c∧ByS wr (some ⟨g,0,none⟩) l∧B≤g:=by
 have h1:=h.1
 obtain ⟨_,⟨_,hn⟩|⟨g,cap,cur,fz,hv,hb,_⟩⟩:=id h1
 ·exact absurd (List.length_eq_zero_iff.1 hn) hl
 ·refine ⟨g,cap,hv, ?_,hb⟩
  rw [hv] at h1
  exact OwnF.bys h1
set_option maxHeartbeats 4000000 in
set_option maxRecDepth 100000 in
theorem Bytes_any (w:World) (ao fo no:Option Addr) (ac fc nc na nf nn:Nat) (t:Tb) (hI:TbI w ao fo no ac t.z) (hR:RightT t) (hna:na=t.acts.length) (hnf:nf=t.fl.length) (hnn:nn=t.nx.length):
  Calls Tryz.prog 46 #[.agg #[.slice ao na ac,.slice fo nf fc,.slice no nn nc]] w fun e w'=>e= .returned (.string ⟨(encB t).toArray⟩)∧Below w.heap.size w w':=by
 obtain ⟨i0,hi0,hz0,hz1,hz2⟩:=info_parts Tryz.infoU8
 have hB:Below w.heap.size w (w.alloc (.cells #[.slice ao na ac,.slice fo nf fc,.slice no nn nc] 36)):=(Below.refl _ _).alloc (Nat.le_refl _) _
 have HBL:=hide (blk_alloc w (.cells #[.slice ao na ac,.slice fo nf fc,.slice no nn nc] 36))
 have HI:=hide (hI.later hB)
 have HR:=hide hR
 have HB:=hide hB
 have hna6:na≤6:=by have:=hR.acts.n6;omega
 have hnn6:nn≤100:=by have:=hR.n100;omega
 have hnf1:nf≤nn:=by have:=hR.fl;omega
 have hnf2:nn≤nf:=by have:=hR.fl;omega
 have HNA:=hide hna
 have HNF:=hide hnf
 have HNN:=hide hnn
 have HBF0:Hid (Bf (w.heap.size+1) (w.alloc (.cells #[.slice ao na ac,.slice fo nf fc,.slice no nn nc] 36)) ((w.alloc (.cells #[.slice ao na ac,.slice fo nf fc,.slice no nn nc] 36)).alloc (.cells #[.int .u8 83,.int .u8 1,.int .u8 (na:Int)] 5)) (.slice (some ⟨w.heap.size+1,0,none⟩) 3 3) (pre1 t 0)):=by
  have e:pre1 t 0=[83,1,u8 na]:=by unfold pre1;rw [hna];simp [actsB]
  rw [e]
  refine ⟨⟨by simp [bytC],.inr ⟨w.heap.size+1,3,_,(0,0),rfl,Nat.le_refl _,blk_alloc' _ _ _ (by simp),Nat.zero_le _,Nat.le_refl _,by unfold maxLen;omega,rfl, ?_⟩⟩, ?_,by simp⟩
  ·show [Value.int .u8 83,.int .u8 1,.int .u8 (na:Int)]=bytC [83,1,u8 na]
   unfold bytC
   simp [u8_toNat (show na<256 by omega)]
  ·have:=(Below.refl (w.alloc (.cells #[.slice ao na ac,.slice fo nf fc,.slice no nn nc] 36)).heap.size (w.alloc (.cells #[.slice ao na ac,.slice fo nf fc,.slice no nn nc] 36))).alloc (Nat.le_refl _) (.cells #[.int .u8 83,.int .u8 1,.int .u8 (na:Int)] 5)
   simpa using this
 clear hI hB hR hna hnf hnn
 go_enter Tryz.func46,Tryz.ntmps46
 go_wp2_with fail
 generalize hW0:w.alloc (.cells #[.slice ao na ac,.slice fo nf fc,.slice no nn nc] 36)=W0 at *
 have hsz0:W0.heap.size=w.heap.size+1:=by rw [←hW0];simp
 have HSZ:=hide hsz0
 clear hW0 hsz0
 go_loopw [3,19] (fun bv x wr=> ∃k:Nat,k≤na∧x= .int .i64 k∧Hid (Bf (w.heap.size+1) W0 wr bv (pre1 t k))) (fun _ x _=>na - (intOf x).toNat)
 case atStart=>exact ⟨0,Nat.zero_le _,rfl,HBF0⟩
 case round=>
  obtain ⟨k,hk,rfl,HBF⟩:=hrel
  have hbel:Below W0.heap.size W0 wr:=by rw [unhide HSZ];exact (unhide HBF).2.1
  have HBEL:=hide hbel
  have hpl:=pre1_le (unhide HR) k
  by_cases hlt:k<na
  ·have hkn:(k:Int)<(na:Int):=by omega
   have hkl:k<t.acts.length:=by have:=unhide HNA;omega
   obtain ⟨b,off,rfl,hb,hcx⟩:=((unhide HI).later hbel).acts k t.acts[k] (List.getElem?_eq_getElem hkl)
   have HX:=hide (List.getElem?_eq_getElem hkl)
   have ha8:=((unhide HR).acts.nm _ (List.getElem_mem hkl)).n8
   clear hbel
   generalize t.acts[k]=a at *
   go_wp2_with (at_builtin;go_must (refine Lib.wpList_append_byte rfl _ _ 51 rfl (w.heap.size+1) 5 i0 Tryz.underlying51 hi0 hz0 hz1 hz2 _ (pre1 t k).length (bytC (pre1 t k)) rfl W0 wr (a.size:Int) ?c0 rfl (by omega) ?_))
   case c0=>exact unhide HBF
   intro v1 w1 hb1
   have HBF1:=hide (Bf.byte (n:=a.size) (by omega) hb1 (by simp) rfl)
   clear hb1
   go_wp2_with (at_builtin;go_must (refine Lib.wpList_append_text rfl _ _ 51 9 rfl (w.heap.size+1) 5 i0 Tryz.underlying51 Tryz.underlying9 hi0 hz0 hz1 hz2 v1 (pre1 t k++[u8 a.size]).length (bytC (pre1 t k++[u8 a.size])) rfl W0 (unhide HBF1) a rfl ?c1 ?_))
   case c1=>simp;omega
   intro v2 w2 hb2
   have HBF2:=hide (Bf.text hb2 (by simp) (pre1_succ (unhide HX)))
   clear hb2
   go_wp2_with fail
   go_roundw
   case rel=>exact ⟨k+1,by omega,by go_num,HBF2⟩
   case measure=>simp [intOf];omega
  ·have hkn:¬ (k:Int)<(na:Int):=by omega
   have hke:k=t.acts.length:=by have:=unhide HNA;omega
   subst hke
   have hc0:wr.cell? ⟨w.heap.size,0,none⟩=some (.slice ao na ac):=(bcell3 hbel _ _ (lt_of_blk (unhide HBL))).trans (cell_of_blk (unhide HBL) 0)
   have hc1:wr.cell? ⟨w.heap.size,1,none⟩=some (.slice fo nf fc):=(bcell3 hbel _ _ (lt_of_blk (unhide HBL))).trans (cell_of_blk (unhide HBL) 1)
   have hc2:wr.cell? ⟨w.heap.size,2,none⟩=some (.slice no nn nc):=(bcell3 hbel _ _ (lt_of_blk (unhide HBL))).trans (cell_of_blk (unhide HBL) 2)
   have hbl:w.heap.size<wr.heap.size:=Nat.lt_of_lt_of_le (lt_of_blk (unhide HBL)) hbel.size
   clear hbel
   go_wp2_with (at_builtin;go_must (refine Lib.wpList_append_byte rfl _ _ 51 rfl (w.heap.size+1) 5 i0 Tryz.underlying51 hi0 hz0 hz1 hz2 _ (pre1 t t.acts.length).length (bytC (pre1 t t.acts.length)) rfl W0 wr (nn:Int) ?d0 rfl ?d1 ?_))
   case d0=>exact unhide HBF
   case d1=>omega
   intro v1 w1 hb1
   have HBF1:=hide (Bf.byte (n:=nn) (r:=pre2 t 0) (by omega) hb1 (by simp) (by unfold pre2;rw [unhide HNN];simp [rowsB]))
   have hbel1:Below W0.heap.size W0 w1:=by rw [unhide HSZ];exact (unhide HBF1).2.1
   clear hb1 hc0 hc1 hc2 hbl
   have hc2:w1.cell? ⟨w.heap.size,2,none⟩=some (.slice no nn nc):=(bcell3 hbel1 _ _ (lt_of_blk (unhide HBL))).trans (cell_of_blk (unhide HBL) 2)
   have hbl:w.heap.size<w1.heap.size:=Nat.lt_of_lt_of_le (lt_of_blk (unhide HBL)) hbel1.size
   clear hbel1
   go_wp2_with fail
   clear hc2 hbl HBF HBEL
   rename World=>wR
   go_loopw [3,43] (fun bv x wr=> ∃k:Nat,k≤nn∧x= .int .i64 k∧Hid (Bf (w.heap.size+1) W0 wr bv (pre2 t k))) (fun _ x _=>nn - (intOf x).toNat)
   case atStart=>exact ⟨0,Nat.zero_le _,rfl,HBF1⟩
   case round=>
    obtain ⟨k,hk,rfl,HBF⟩:=hrel
    have hbel:Below W0.heap.size W0 wr:=by rw [unhide HSZ];exact (unhide HBF).2.1
    have hc0:wr.cell? ⟨w.heap.size,0,none⟩=some (.slice ao na ac):=(bcell3 hbel _ _ (lt_of_blk (unhide HBL))).trans (cell_of_blk (unhide HBL) 0)
    have hc1:wr.cell? ⟨w.heap.size,1,none⟩=some (.slice fo nf fc):=(bcell3 hbel _ _ (lt_of_blk (unhide HBL))).trans (cell_of_blk (unhide HBL) 1)
    have hc2:wr.cell? ⟨w.heap.size,2,none⟩=some (.slice no nn nc):=(bcell3 hbel _ _ (lt_of_blk (unhide HBL))).trans (cell_of_blk (unhide HBL) 2)
    have hbl:w.heap.size<wr.heap.size:=Nat.lt_of_lt_of_le (lt_of_blk (unhide HBL)) hbel.size
    have hpl2:=pre2_le (unhide HR) k
    by_cases hlt:k<nn
    ·have hkn:(k:Int)<(nn:Int):=by omega
     have hkf:(k:Int)<(nf:Int):=by omega
     have hkl:k<t.nx.length:=by have:=unhide HNN;omega
     have hkl2:k<t.fl.length:=by have:=unhide HNF;omega
     obtain ⟨b,off,ro,rc,hno,hb0,hcx0,hrr⟩:=(unhide HI).nx k (zI t.nx[k]) (by show (t.nx.map zI)[k]? =_;rw [List.getElem?_map,List.getElem?_eq_getElem hkl];rfl)
     have hcx:=(bcell3 hbel _ _ hb0).trans hcx0
     have hb:b<wr.heap.size:=Nat.lt_of_lt_of_le hb0 hbel.size
     clear hcx0 hb0
     obtain ⟨fb,foff,hfo,hfb,hfc⟩:=((unhide HI).later hbel).fl k (t.fl[k]:Nat) (zI_at (List.getElem?_eq_getElem hkl2))
     have HX:=hide (List.getElem?_eq_getElem hkl)
     have HY:=hide (List.getElem?_eq_getElem hkl2)
     have hf3:=(unhide HR).fs _ (List.getElem_mem hkl2)
     have hr6:=(unhide HR).rs _ (List.getElem_mem hkl)
     rw [zI_len] at hcx
     have hr6a:t.nx[k].length≤6:=by have:=hr6.1;have:=(unhide HR).acts.n6;omega
     have HR6:Hid (∀x∈t.nx[k],x<256):=fun x hx=>by have:=hr6.2 x hx;have:=(unhide HR).n100;omega
     clear hr6
     subst hno
     subst hfo
     generalize t.nx[k]=r at *
     generalize t.fl[k]=f at *
     have HRR:=hide hrr
     have HBEL:=hide hbel
     clear hrr hbel
     go_wp2_with (at_builtin;go_must (refine Lib.wpList_append_byte rfl _ _ 51 rfl (w.heap.size+1) 5 i0 Tryz.underlying51 hi0 hz0 hz1 hz2 _ (pre2 t k).length (bytC (pre2 t k)) rfl W0 wr (f:Int) ?e0 rfl ?e1 ?_))
     case e0=>exact unhide HBF
     case e1=>omega
     intro v2 w2 hb2
     have HBF2:=hide (Bf.byte (n:=f) (by omega) hb2 (by simp) rfl)
     clear hb2 hc0 hc1 hc2 hbl hcx hb hfb hfc
     have HP2:=hide (pre2_succ (unhide HR).fl (unhide HY) (unhide HX))
     go_wp2_with fail
     rename World=>wS
     go_loopw [3,59] (fun bv x wr=> ∃j:Nat,j≤r.length∧x= .int .i64 j∧Hid (Bf (w.heap.size+1) W0 wr bv (pre2 t k++[u8 f]++(r.take j).map u8))) (fun _ x _=>r.length - (intOf x).toNat)
     case atStart=>exact ⟨0,Nat.zero_le _,rfl,by simpa using HBF2⟩
     case round=>
      obtain ⟨j,hj,rfl,HBF3⟩:=hrel
      have hbel:Below W0.heap.size W0 wr:=by rw [unhide HSZ];exact (unhide HBF3).2.1
      by_cases hjl:j<r.length
      ·have hjn:(j:Int)<(r.length:Int):=by omega
       obtain ⟨qb,qoff,hqo,hqb,hqc⟩:=(unhide HRR).later hbel j (r[j]:Nat) (zI_at (List.getElem?_eq_getElem hjl))
       have hx8:=unhide HR6 r[j] (List.getElem_mem hjl)
       have hlen:(pre2 t k++[u8 f]++(r.take j).map u8).length≤1000:=by
        simp only [List.length_append,List.length_map,List.length_take,List.length_cons,List.length_nil]
        omega
       have HTJ:Hid (pre2 t k++[u8 f]++(r.take (j+1)).map u8=(pre2 t k++[u8 f]++(r.take j).map u8)++[u8 r[j]]):=by
        show _=_
        rw [List.take_add_one,List.getElem?_eq_getElem hjl]
        show pre2 t k++[u8 f]++(r.take j++[r[j]]).map u8=_
        rw [List.map_append,←List.append_assoc]
        rfl
       subst hqo
       clear hbel
       generalize r[j]=x at *
       generalize pre2 t k++[u8 f]++(r.take j).map u8=P at *
       go_wp2_with (at_builtin;go_must (refine Lib.wpList_append_byte rfl _ _ 51 rfl (w.heap.size+1) 5 i0 Tryz.underlying51 hi0 hz0 hz1 hz2 _ P.length (bytC P) rfl W0 wr (x:Int) ?f0 rfl ?f1 ?_))
       case f0=>exact unhide HBF3
       case f1=>omega
       intro v3 w3 hb3
       have HBF4:=hide (Bf.byte (n:=x) hx8 hb3 (by simp) (unhide HTJ))
       clear hb3
       go_wp2_with fail
       go_roundw
       case rel=>exact ⟨j+1,by omega,by go_num,HBF4⟩
       case measure=>simp [intOf];omega
      ·have hjn:¬ (j:Int)<(r.length:Int):=by omega
       rw [List.take_of_length_le (by omega),←unhide HP2] at HBF3
       clear hbel
       go_wp2_with fail
       go_roundw
       case rel=>exact ⟨k+1,by omega,by go_num,HBF3⟩
       case measure=>simp [intOf];omega
    ·have hkn:¬ (k:Int)<(nn:Int):=by omega
     have hke:k=t.nx.length:=by have:=unhide HNN;omega
     subst hke
     rw [pre2_all t (unhide HR).fl] at HBF hpl2
     have hsum:=sumL_lt (n:=3) (by decide) (bodyB t)
     have HEN:Hid (encB t=bodyB t++[u8 (sumL 3 (bodyB t) / 256),u8 (sumL 3 (bodyB t)%256)]):=rfl
     clear hc0 hc1 hc2 hbl
     obtain ⟨g,c,hv,hby,hg⟩:=Bf.slice (unhide HBF) (by unfold bodyB;simp)
     have HBY:=hide hby
     subst hv
     clear hby
     generalize bodyB t=P at *
     have HSM:=hide (sum_any wr (some ⟨g,0,none⟩) P.length c P (unhide HBY) rfl (by omega))
     generalize sumL 3 P=S at *
     go_wp2_with fail
     refine (unhide HSM).mono ?_
     rintro e w5 ⟨rfl,hw5⟩
     have h5:=hw5.symm
     clear hw5
     subst h5
     go_wp2_with (at_builtin;go_must (refine wpList_append_ownF _ rfl _ _ 51 rfl (w.heap.size+1) 5 i0 (.int .u8 0) 1 1 Tryz.underlying51 hi0 hz0 hz1 hz2 rfl (by decide) _ P.length (bytC P) rfl ?g0 ⟨wr.heap.size,0,none⟩ 2 2 (bytC [u8 (S / 256),u8 (S%256)]) rfl rfl ?g1 ?g2 ?g3 ?g4 ?g5 ?_))
     case g0=>exact (unhide HBF).alloc _|>.1
     case g1=>
      intro j u hj
      have hu1:((u8 (S / 256)).toNat:Int)=(S:Int) / 256:=by rw [u8_toNat (by omega)];omega
      have hu2:((u8 (S%256)).toNat:Int)=(S:Int)%256:=by rw [u8_toNat (by omega)];omega
      have hbk:=blk_alloc' wr (.cells #[.int .u8 ((S:Int) / 256),.int .u8 ((S:Int)%256)] 5) wr.heap.size rfl
      match j,hj with
      |0,hj=>simp [bytC] at hj;subst hj;rw [hu1];exact cell_of_blk hbk 0
      |1,hj=>simp [bytC] at hj;subst hj;rw [hu2];exact cell_of_blk hbk 1
      |j+2,hj=>simp [bytC] at hj
     case g2=>intro u hu;simp [bytC] at hu;rcases hu with rfl|rfl<;>rfl
     case g3=>unfold maxLen;omega
     case g4=>omega
     case g5=>simp;have:=(unhide HBF).2.2;omega
     intro v8 w8 ho8 hg8 _
     rw [←bytC_app,←unhide HEN] at ho8
     have hb8:Below W0.heap.size W0 w8:=by
      have k0:=((unhide HBF).alloc (.cells #[.int .u8 ((S:Int) / 256),.int .u8 ((S:Int)%256)] 5)).2.1
      rw [unhide HSZ]
      exact k0.grown hg8 (by have:=(unhide HBF).2.2;simp;omega) (fun b hb=>by cases hb;exact hg)
     have HB8:=hide ((unhide HB).trans (hb8.mono (unhide HB).size))
     clear hbel hb8
     have hle:P.length+2=(encB t).length:=by rw [unhide HEN];simp
     rw [hle] at ho8
     obtain ⟨g9,c9,hv9,hby9,_⟩:=Bf.slice (B:=w.heap.size+1) (W0:=w8) (wr:=w8) (l:=encB t) ⟨ho8,Below.refl _ _,by have:=hg8.size;have:=(unhide HBF).2.2;simp at *;omega⟩ (by rw [unhide HEN];simp)
     subst hv9
     have hcv:=run_convert_bytes_back (P:=Tryz.prog) w8 51 9 5 ⟨g9,0,none⟩ c9 (encB t) Tryz.underlying51 Tryz.underlying5 Tryz.underlying9 (fun j hj=>by
      obtain ⟨b',off',e1,_,e3⟩:=hby9 j (encB t)[j] (List.getElem?_eq_getElem hj)
      cases e1
      rw [Addr.add_lit]
      exact e3)
     clear hby9 ho8 hg8 hle
     generalize hE:encB t=E at *
     have HE:=hide hE
     clear hE
     go_wp2_with fail
     go_ret
     exact ⟨by rw [unhide HE];rfl,unhide HB8⟩
def sumE (S:Nat):List UInt8:=[u8 (S / 256),u8 (S%256)]
theorem sum2_E (l:List UInt8):sum2 l=sumE (sumL 3 l):=rfl
theorem sumE_cell (w:World) {S:Nat} (hS:S<65521) (j:Nat) (hj:j<(sumE S).length):(w.alloc (.cells #[.int .u8 ((S:Int) / 256),.int .u8 ((S:Int)%256)] 5)).cell? ((⟨w.heap.size,0,none⟩:Addr).add j)=some (.int .u8 ((sumE S)[j].toNat:Int)):=by
 have hu1:((u8 (S / 256)).toNat:Int)=(S:Int) / 256:=by rw [u8_toNat (by omega)];omega
 have hu2:((u8 (S%256)).toNat:Int)=(S:Int)%256:=by rw [u8_toNat (by omega)];omega
 have hbk:=blk_alloc' w (.cells #[.int .u8 ((S:Int) / 256),.int .u8 ((S:Int)%256)] 5) w.heap.size rfl
 rw [Addr.add_lit,Nat.zero_add,cell_of_blk hbk]
 match j,hj with
 |0,_=>show some (Value.int .u8 ((S:Int) / 256))=some (.int .u8 ((u8 (S / 256)).toNat:Int));rw [hu1]
 |1,_=>show some (Value.int .u8 ((S:Int)%256))=some (.int .u8 ((u8 (S%256)).toNat:Int));rw [hu2]
 |j+2,hj=>exact absurd (show j+2<2 from hj) (by omega)
set_option maxHeartbeats 2000000 in
set_option maxRecDepth 100000 in
theorem SumR_any (w:World) (s:ByteArray) (hs:s.size≤10000000000000):
  Calls Tryz.prog 147 #[.string s] w fun e w'=>e= .returned (.string ⟨(sum2 s.data.toList).toArray⟩)∧Below w.heap.size w w':=by
 go_enter Tryz.func147,Tryz.ntmps147
 go_wp2_with fail
 go_loopw [3,4] (fun n x wr=> ∃k:Nat,k≤s.size∧n= .int .i64 ((sumL 3 (s.data.toList.take k):Nat):Int)∧x= .int .i64 k∧Hid (w=wr)) (fun _ x _=>s.size - (intOf x).toNat)
 case atStart=>exact ⟨0,Nat.zero_le _,rfl,rfl,rfl⟩
 case round=>
  obtain ⟨k,hk,rfl,rfl,HW⟩:=hrel
  have hw:=unhide HW
  subst hw
  clear HW
  by_cases hlt:k<s.size
  ·have hkn:(k:Int)<(s.size:Int):=by omega
   have hget:s.data.toList[k]? =some s[k]:=by
    rw [Array.getElem?_toList]
    exact Array.getElem?_eq_getElem hlt
   have HTK:Hid (sumL 3 (s.data.toList.take (k+1))=sumS (sumL 3 (s.data.toList.take k)) s[k].toNat):=by
    show _=_
    rw [List.take_add_one,hget,sumL_append]
    rfl
   have hsu:=sumL_lt (n:=3) (by decide) (s.data.toList.take k)
   have hc8:=s[k].toNat_lt
   clear hget
   generalize sumL 3 (s.data.toList.take k)=S at *
   go_wp2_with fail
   go_roundw
   case rel=>exact ⟨k+1,by omega,by rw [unhide HTK];unfold sumS;go_num,by go_num,trivial⟩
   case measure=>simp [intOf];omega
  ·have hkn:¬ (k:Int)<(s.size:Int):=by omega
   have htk:s.data.toList.take k=s.data.toList:=List.take_of_length_le (by rw [Array.length_toList];show s.size≤k;omega)
   rw [htk]
   have hsu:=sumL_lt (n:=3) (by decide) s.data.toList
   have HS2:=hide (sum2_E s.data.toList)
   generalize sumL 3 s.data.toList=S at *
   have hcv:=run_convert_bytes_back (P:=Tryz.prog) (w.alloc (.cells #[.int .u8 ((S:Int) / 256),.int .u8 ((S:Int)%256)] 5)) 51 9 5 ⟨w.heap.size,0,none⟩ 2 (sumE S) Tryz.underlying51 Tryz.underlying5 Tryz.underlying9 (sumE_cell w hsu)
   rw [show (sumE S).length=2 from rfl] at hcv
   generalize sumE S=E at *
   clear htk
   go_wp2_with fail
   refine bodyPost_ret (v:= .string ⟨E.toArray⟩) (by simp [results,Tryz.results147,go_sem]) rfl ?_
   exact ⟨by rw [unhide HS2],(Below.refl _ _).alloc (Nat.le_refl _) _⟩
end Go.Proofs.YtidakhhekofkoaaGreatDoor
