/- The law's markTexts, walked. -/
import Derived.Test.YtidakhhekofkoaaGreatDoorJ27
import Derived.Lib.ItoaLen
set_option linter.unusedSimpArgs false
set_option linter.unusedVariables false
namespace Go.Proofs.YtidakhhekofkoaaGreatDoor
open Go.RowKit Go.Deep
theorem Tryz.infoTB:(Tryz.prog.info? 118).map (fun i=>(i.zero,i.size,i.bytes))=some (some (.agg #[.string ⟨#[]⟩,.slice none 0 0,.slice none 0 0,.slice none 0 0,.slice none 0 0]),5,112):=by kernel_rfl
theorem tab_glob:Tryz.prog.globalNamed "internal/strconv.uint64pow10" =some 4:=by kernel_rfl
theorem tab_same {w w':World} (h:Lib.TabIs Tryz.prog w "internal/strconv.uint64pow10" .u64 Lib.pow10Tab) (e:w'.heap[4]? =w.heap[4]?):Lib.TabIs Tryz.prog w' "internal/strconv.uint64pow10" .u64 Lib.pow10Tab:=by
 unfold Lib.TabIs World.var? at h⊢
 rw [tab_glob] at h⊢
 simp only [Option.bind_some,e] at h⊢
 exact h
def NwB (w:World) (l G:Value):Prop:= ∃g m c,G= .slice (some ⟨g,0,none⟩) (m+1) c∧(l.ownBlock=some g∨w.heap.size≤g)
def MkPost (w:World) (lb:Nat) (dk:Value) (M:Nat) (to_:Option Addr) (tn tc:Nat) (ix rx wt et wb eb:Value) (C:List Value) (B0:Nat) (l:Value) (w':World) (e:Ending):Prop:=
 e= .returned (.tuple #[])∧ ∃to' tc' G1 G2 G3,LWd w' lb dk (M+1) (.slice to' (tn+1) tc') ix rx wt et wb eb∧w'.ownsRow B0 118 5 (.slice to' (tn+1) tc') (tn+1) (C++[.string (mkB (M+1)),l,G1,G2,G3])∧
  AllM w' l (.string (mkB (M+1))) 9∧AllM w' G1 (.string (mkB (M+1))) 9∧AllM w' G2 (.string (mkB (M+1))) 9∧AllM w' G3 (.string (mkB (M+1))) 9∧NwB w l G1∧NwB w l G2∧NwB w l G3∧NwB w (.slice to_ tn tc) (.slice to' (tn+1) tc')∧FrM lb l (.slice to_ tn tc) w w'
theorem mark_end {w W4 q8:World} {lb:Nat} {dk:Value} {M:Nat} {to_:Option Addr} {tn tc:Nat} {ix rx wt et wb eb:Value} {C:List Value} {B0 base:Nat} {lo:Option Addr} {n lc g1 cap1 g2 cap2 g3 cap3 g8 cap8:Nat} {mk:ByteArray} {bo:Obj} {tmps:Array Value}
  (hMS:MS w W4 lb dk (M+1) to_ tn tc ix rx wt et wb eb C B0 base (.slice lo n lc) n (List.replicate n (.string mk))) (hwa:Below W4.heap.size W4 (W4.drew.alloc bo))
  (ho:q8.ownsRow B0 118 5 (.slice (some ⟨g8,0,none⟩) (tn+1) cap8) (tn+1) (C++[.string mk,.slice lo n lc,.slice (some ⟨g1,0,none⟩) (n+1) cap1,.slice (some ⟨g2,0,none⟩) (n+2) cap2,.slice (some ⟨g3,0,none⟩) (n+3) cap3])) (hg:(W4.drew.alloc bo).grownBy q8 (Value.slice to_ tn tc).ownBlock) (hl:LWd q8 lb dk (M+1) (.slice to_ tn tc) ix rx wt et wb eb)
  (h1:AFt W4 g1 (n+1) (.string mk) 9) (h2:AFt W4 g2 (n+2) (.string mk) 9) (h3:AFt W4 g3 (n+3) (.string mk) 9) (hmk:mk=mkB (M+1)) (hn:n+3≤10000000000000) (k1:NwB w (.slice lo n lc) (.slice (some ⟨g1,0,none⟩) (n+1) cap1)) (k2:NwB w (.slice lo n lc) (.slice (some ⟨g2,0,none⟩) (n+2) cap2)) (k3:NwB w (.slice lo n lc) (.slice (some ⟨g3,0,none⟩) (n+3) cap3)) (k8:(Value.slice to_ tn tc).ownBlock=some g8∨g8=W4.heap.size+1):
  bodyPost Tryz.prog Tryz.f63 (fun e w'=>MkPost w lb dk M to_ tn tc ix rx wt et wb eb C B0 (.slice lo n lc) w' e) Exit.normal {tmps:=tmps,defers:=[]} (q8.setCell ⟨lb,2,none⟩ (.slice (some ⟨g8,0,none⟩) (tn+1) cap8)):=by
 subst hmk
 have aft: ∀{b q:Nat},AFt W4 b q (.string (mkB (M+1))) 9→AFt (q8.setCell ⟨lb,2,none⟩ (.slice (some ⟨g8,0,none⟩) (tn+1) cap8)) b q (.string (mkB (M+1))) 9:=fun h=>((h.later hwa).grown (owns_later hMS.bk hwa) hg (by decide)).set hl (by decide)
 have hal:AllM (q8.setCell ⟨lb,2,none⟩ (.slice (some ⟨g8,0,none⟩) (tn+1) cap8)) (.slice lo n lc) (.string (mkB (M+1))) 9:=by
  rcases Nat.eq_zero_or_pos n with h0|h0
  ·subst h0
   exact ⟨_,_,_,rfl,by omega,fun i hi=>by omega⟩
  ·obtain ⟨g,cap,hv,_⟩:=owns_slice hMS.ls h0
   cases hv
   refine (aft ⟨AF.of_owns hMS.ls, ?_⟩).allM (by omega)
   obtain ⟨_,⟨hv2,_⟩|⟨g',cap',cur,hv2,_,hrow,_⟩⟩:=hMS.ls
   ·cases hv2
   ·cases hv2;exact ⟨_,_,hrow⟩
 have hfr:FrM lb (.slice lo n lc) (.slice to_ tn tc) w (q8.setCell ⟨lb,2,none⟩ (.slice (some ⟨g8,0,none⟩) (tn+1) cap8)):=by
  have f:=hMS.fr
  refine ⟨hg.os.trans (hwa.os.trans f.os),hg.tape.trans (hwa.tape.trans f.tape),hg.output.trans (hwa.output.trans f.output), ?_,fun k k1 k2 k3 k4=> ?_⟩
  ·have:=f.size;have:=hwa.size;have:=hg.size;simp [World.setCell] at *;omega
  ·refine (Below.heap_setCell _ _ _ _ (by show k≠lb;exact k2)).trans ?_
   have hk4:k<W4.heap.size:=Nat.lt_of_lt_of_le k1 f.size
   exact (hg.block k (Nat.lt_of_lt_of_le hk4 hwa.size) (fun e=>k4 e.symm)).trans ((hwa.block k hk4).trans (f.block k k1 k2 k3 k4))
 have hO:=owns_keep ho (grown_set q8 lb 2 (.slice (some ⟨g8,0,none⟩) (tn+1) cap8)) (Or.inr (fun e=>own_ty ho e hl (by decide)))
 have hLW:LWd (q8.setCell ⟨lb,2,none⟩ (.slice (some ⟨g8,0,none⟩) (tn+1) cap8)) lb dk (M+1) (.slice (some ⟨g8,0,none⟩) (tn+1) cap8) ix rx wt et wb eb:=blk_set hl 2 _
 go_end0
 exact ⟨rfl,_,_,_,_,_,hLW,hO,hal,(aft h1).allM (by omega),(aft h2).allM (by omega),(aft h3).allM (by omega),k1,k2,k3,⟨_,_,_,rfl,k8.imp id (fun e=>by have:=hMS.fr.size;omega)⟩,hfr⟩
set_option maxHeartbeats 4000000 in
set_option maxRecDepth 100000 in
theorem markTexts_any (w:World) (lb:Nat) (dk:Value) (M:Nat) (to_:Option Addr) (tn tc:Nat) (ix rx wt et wb eb:Value) (C:List Value) (B0 base:Nat) (lo:Option Addr) (n lc:Nat) (xs:List Value)
  (hL:LWd w lb dk M (.slice to_ tn tc) ix rx wt et wb eb) (hC:w.ownsRow B0 118 5 (.slice to_ tn tc) tn C) (hB0:B0≤w.heap.size) (hl:w.ownsRow base 9 1 (.slice lo n lc) n xs) (hbase:base≤w.heap.size)
  (hn:n+3≤8796093022208) (htn:(tn+1) * 112≤140737488355328) (hM:M≤4611686018427387904) (htab:Lib.TabIs Tryz.prog w "internal/strconv.uint64pow10" .u64 Lib.pow10Tab) (hlbg:lb≠4):
  Calls Tryz.prog 63 #[.pointer (some ⟨lb,0,none⟩),.slice lo n lc] w fun e w'=>MkPost w lb dk M to_ tn tc ix rx wt et wb eb C B0 (.slice lo n lc) w' e:=by
 obtain ⟨i0,hi0,hz0,hz1,hz2⟩:=info_parts infoStr
 obtain ⟨j0,hj0,hy0,hy1,hy2⟩:=info_parts Tryz.infoTB
 have bc:=fun o=>cell_of_blk hL o
 have bf:=fun o=>frozen_of_blk hL o
 have hlt:=lt_of_blk hL
 have HMS0:Hid (MS w w lb dk M to_ tn tc ix rx wt et wb eb C B0 base (.slice lo n lc) n xs):=⟨hL,hC,hl,⟨rfl,rfl,rfl,Nat.le_refl _,fun k _ _ _ _=>rfl⟩⟩
 have HMS1:=hide ((unhide HMS0).setM ((M:Int)+1) (M+1) (by omega))
 have HTAB:=hide (tab_same htab (Below.heap_setCell w ⟨lb,1,none⟩ (.int .i64 ((M:Int)+1)) 4 (by show _≠lb;exact fun e=>hlbg e.symm)))
 clear hL hC hl htab
 go_enter Tryz.func63,Tryz.ntmps63
 go_wp2_with fail
 refine (Tryz.strconv_Itoa ((M:Int)+1) (by omega) (by omega) _ (unhide HTAB)).mono ?_
 rintro e w1 ⟨rfl,k1,os1,hw1⟩
 have hb1:Below _ _ w1:=hw1▸Lib.below_grow _ _ (Nat.le_refl _) k1 os1
 have HMS2:=hide ((unhide HMS1).later hb1)
 have HITO:Hid ((Lib.itoa ((M:Int)+1))=Lib.itoa ((M+1:Nat):Int)):=by show _=_;rw [show ((M+1:Nat):Int)=(M:Int)+1 by omega]
 have hsz1:=hb1.size
 clear hw1 hb1 HMS1 bc bf
 have hits:¬ 9223372036854775807<5+(⟨(Lib.itoa ((M:Int)+1)).toArray⟩:ByteArray).size:=by
  have:=Lib.itoa_length_le ((M:Int)+1) (by omega) (by omega)
  show ¬ 9223372036854775807<5+(Lib.itoa ((M:Int)+1)).toArray.size
  simp;omega
 have HMK:Hid ((⟨#[109,97,114,107,32]⟩:ByteArray)++⟨(Lib.itoa ((M:Int)+1)).toArray⟩=mkB (M+1)):=by
  show _=_
  unfold mkB
  rw [unhide HITO]
 generalize hIT:(⟨(Lib.itoa ((M:Int)+1)).toArray⟩:ByteArray)=it at *
 clear hIT HITO
 have hw1s:w.heap.size≤w1.heap.size:=(unhide HMS2).fr.size
 clear hsz1 HMS0 HTAB
 go_wp2_with fail
 generalize hmk:(⟨#[109,97,114,107,32]⟩:ByteArray)++it=mk at *
 clear hmk
 go_loopw [5] (fun x wr=> ∃(i:Nat) (ys:List Value),i≤n∧x= .int .i64 i∧Hid (MS w wr lb dk (M+1) to_ tn tc ix rx wt et wb eb C B0 base (.slice lo n lc) n ys)∧Hid (∀j,j<i→ys[j]? =some (.string mk))) (fun x _=>n - (intOf x).toNat)
 case atStart=>exact ⟨0,xs,Nat.zero_le _,rfl,HMS2,hide (fun j hj=>by omega)⟩
 case round=>
  obtain ⟨i,ys,hi,rfl,HMS,HY⟩:=hrel
  by_cases hin:i<n
  ·have hin':(i:Int)<(n:Int):=by omega
   obtain ⟨g,hlo,hg,hcell⟩:=owns1_at (unhide HMS).ls hin
   subst hlo
   have hyl:ys.length=n:=by have:=(unhide HMS).ls.1;omega
   have hcell':wr.cell? ⟨g,i,none⟩=some ys[i]:=hcell.trans (List.getElem?_eq_getElem (by omega))
   have hfz:wr.frozen? ⟨g,i,none⟩=false:=by
    obtain ⟨_,⟨hv,_⟩|⟨g',cap',cur,hv,_,hrow,_⟩⟩:=(unhide HMS).ls
    ·cases hv
    ·cases hv;exact frozen_of_blk hrow i
   have HMS':=hide ((unhide HMS).setL i (.string mk))
   generalize ys[i]=old at *
   clear hcell
   go_wp2_with fail
   go_roundw
   case rel=>
    refine ⟨i+1,ys.set i (.string mk),by omega,by go_num,HMS',hide (fun j hj=> ?_)⟩
    by_cases e:j=i
    ·subst e;rw [List.getElem?_set_self (by omega)]
    ·rw [List.getElem?_set_ne (by omega)];exact unhide HY j (by omega)
   case measure=>simp [intOf];omega
  ·have hin':¬ (i:Int)<(n:Int):=by omega
   have hyr:ys=List.replicate n (.string mk):=by
    have hyl:ys.length=n:=by have:=(unhide HMS).ls.1;omega
    apply List.ext_getElem?
    intro j
    rw [List.getElem?_replicate]
    split
    ·rename_i hj;exact unhide HY j (by omega)
    ·rename_i hj;exact List.getElem?_eq_none (by omega)
   subst hyr
   have HB3:=hide ((Below.refl wr.heap.size wr).alloc (Nat.le_refl _) (.cells #[.string mk,.slice lo n lc,.slice none 0 0,.slice none 0 0,.slice none 0 0] 118))
   have HMS3:=hide ((unhide HMS).later (unhide HB3))
   have HBK3:=hide (blk_alloc wr (.cells #[.string mk,.slice lo n lc,.slice none 0 0,.slice none 0 0,.slice none 0 0] 118))
   have hbt:(Value.slice to_ tn tc).ownBlock≠some wr.heap.size:=fun e=>by have:=(own_lt (unhide HMS).bk _ e).2;omega
   have hwb:w.heap.size≤wr.heap.size:=(unhide HMS).fr.size
   clear HY HMS2
   have HMA1:=hide ((unhide HMS3).later ((Below.refl _ _).alloc (Nat.le_refl _) (.cells #[.string mk] 9)))
   have HBA1:=hide ((Below.heap_alloc (wr.alloc (.cells #[.string mk,.slice lo n lc,.slice none 0 0,.slice none 0 0,.slice none 0 0] 118)) (.cells #[.string mk] 9) _ (lt_of_blk (unhide HBK3))).trans (unhide HBK3))
   go_wp2_with (at_builtin;go_must (refine wpList_append_mark _ rfl _ _ 25 rfl base 9 i0 (.string ⟨#[]⟩) 16 Tryz.underlying25 hi0 hz0 hz1 hz2 rfl (.slice lo n lc) n (.string mk) rfl ?c10 ⟨wr.heap.size+1,0,none⟩ 1 1 rfl ?c11 rfl (by decide) ?c13 ?c14 ?c15 ?_))
   case c10=>exact (unhide HMA1).ls
   try case c11=>
    intro j hj
    match j,hj with
    |0,hj=>exact cell_of_blk (blk_alloc' _ _ _ (by first|rfl|simp [World.setCell])) 0
    |j+1,hj=>omega
   case c13=>unfold maxLen;omega
   case c14=>omega
   case c15=>have:=(unhide HMA1).fr.size;omega
   intro g1 cap1 q1 hown1 hmk1 hat1
   have HMQ1:=hide ((unhide HMA1).mkd hmk1 (by omega))
   have HBQ1:=hide ((hmk1.block _ (lt_of_blk (unhide HBA1)) (fun e=>own_ty (unhide HMA1).ls e (unhide HBA1) (by decide))).trans (unhide HBA1))
   have HAF11:Hid (AFt q1 g1 (n+1) (.string mk) 9):=⟨AF.of_owns hown1,by
    obtain ⟨_,⟨hv,_⟩|⟨g',cap',cur,hv,_,hrow,_⟩⟩:=hown1
    ·cases hv
    ·cases hv;exact ⟨_,_,hrow⟩⟩
   have hbq1:=lt_of_blk (unhide HBQ1)
   have bc1:=fun o=>cell_of_blk (unhide HBQ1) o
   have bf1:=fun o=>frozen_of_blk (unhide HBQ1) o
   have HMX1:=hide ((unhide HMQ1).setB (unhide HBQ1) hwb (by decide) (by decide) hbt 2 (.slice (some ⟨g1,0,none⟩) (n+1) cap1))
   have HBX1:Hid (_=some (Obj.cells #[.string mk,.slice lo n lc,.slice (some ⟨g1,0,none⟩) (n+1) cap1,.slice none 0 0,.slice none 0 0] 118 (0,0))):=blk_set (unhide HBQ1) 2 (.slice (some ⟨g1,0,none⟩) (n+1) cap1)
   have HAX11:=hide ((unhide HAF11).set (o:=2) (u:=(.slice (some ⟨g1,0,none⟩) (n+1) cap1)) (unhide HBQ1) (by decide))
   have HMA2:=hide ((unhide HMX1).later ((Below.refl _ _).alloc (Nat.le_refl _) (.cells #[.string mk,.string mk] 9)))
   have HBA2:=hide ((Below.heap_alloc _ (.cells #[.string mk,.string mk] 9) _ (lt_of_blk (unhide HBX1))).trans (unhide HBX1))
   have HAA12:=hide ((unhide HAX11).later ((Below.refl _ _).alloc (Nat.le_refl _) (.cells #[.string mk,.string mk] 9)))
   have HNW1:Hid (NwB w (.slice lo n lc) (.slice (some ⟨g1,0,none⟩) (n+1) cap1)):=⟨g1,_,_,rfl,hat1.imp id (fun e=>by have:=hwb;omega)⟩
   clear hown1 hmk1 hat1
   go_wp2_with (at_builtin;go_must (refine wpList_append_mark _ rfl _ _ 25 rfl base 9 i0 (.string ⟨#[]⟩) 16 Tryz.underlying25 hi0 hz0 hz1 hz2 rfl (.slice lo n lc) n (.string mk) rfl ?c20 ⟨q1.heap.size,0,none⟩ 2 2 rfl ?c21 rfl (by decide) ?c23 ?c24 ?c25 ?_))
   case c20=>exact (unhide HMA2).ls
   try case c21=>
    intro j hj
    match j,hj with
    |0,hj=>exact cell_of_blk (blk_alloc' _ _ _ (by first|rfl|simp [World.setCell])) 0
    |1,hj=>exact cell_of_blk (blk_alloc' _ _ _ (by first|rfl|simp [World.setCell])) 1
    |j+2,hj=>omega
   case c23=>unfold maxLen;omega
   case c24=>omega
   case c25=>have:=(unhide HMA2).fr.size;omega
   intro g2 cap2 q2 hown2 hmk2 hat2
   have HMQ2:=hide ((unhide HMA2).mkd hmk2 (by omega))
   have HBQ2:=hide ((hmk2.block _ (lt_of_blk (unhide HBA2)) (fun e=>own_ty (unhide HMA2).ls e (unhide HBA2) (by decide))).trans (unhide HBA2))
   have HAF22:Hid (AFt q2 g2 (n+2) (.string mk) 9):=⟨AF.of_owns hown2,by
    obtain ⟨_,⟨hv,_⟩|⟨g',cap',cur,hv,_,hrow,_⟩⟩:=hown2
    ·cases hv
    ·cases hv;exact ⟨_,_,hrow⟩⟩
   have HAF12:=hide ((unhide HAA12).mk hmk2 (by omega))
   have hbq2:=lt_of_blk (unhide HBQ2)
   have bc2:=fun o=>cell_of_blk (unhide HBQ2) o
   have bf2:=fun o=>frozen_of_blk (unhide HBQ2) o
   have HMX2:=hide ((unhide HMQ2).setB (unhide HBQ2) hwb (by decide) (by decide) hbt 3 (.slice (some ⟨g2,0,none⟩) (n+2) cap2))
   have HBX2:Hid (_=some (Obj.cells #[.string mk,.slice lo n lc,.slice (some ⟨g1,0,none⟩) (n+1) cap1,.slice (some ⟨g2,0,none⟩) (n+2) cap2,.slice none 0 0] 118 (0,0))):=blk_set (unhide HBQ2) 3 (.slice (some ⟨g2,0,none⟩) (n+2) cap2)
   have HAX12:=hide ((unhide HAF12).set (o:=3) (u:=(.slice (some ⟨g2,0,none⟩) (n+2) cap2)) (unhide HBQ2) (by decide))
   have HAX22:=hide ((unhide HAF22).set (o:=3) (u:=(.slice (some ⟨g2,0,none⟩) (n+2) cap2)) (unhide HBQ2) (by decide))
   have HMA3:=hide ((unhide HMX2).later ((Below.refl _ _).alloc (Nat.le_refl _) (.cells #[.string mk,.string mk,.string mk] 9)))
   have HBA3:=hide ((Below.heap_alloc _ (.cells #[.string mk,.string mk,.string mk] 9) _ (lt_of_blk (unhide HBX2))).trans (unhide HBX2))
   have HAA13:=hide ((unhide HAX12).later ((Below.refl _ _).alloc (Nat.le_refl _) (.cells #[.string mk,.string mk,.string mk] 9)))
   have HAA23:=hide ((unhide HAX22).later ((Below.refl _ _).alloc (Nat.le_refl _) (.cells #[.string mk,.string mk,.string mk] 9)))
   have HNW2:Hid (NwB w (.slice lo n lc) (.slice (some ⟨g2,0,none⟩) (n+2) cap2)):=⟨g2,_,_,rfl,hat2.imp id (fun e=>by have:=(unhide HMQ1).fr.size;omega)⟩
   clear hown2 hmk2 hat2
   clear bc1 bf1
   go_wp2_with (at_builtin;go_must (refine wpList_append_mark _ rfl _ _ 25 rfl base 9 i0 (.string ⟨#[]⟩) 16 Tryz.underlying25 hi0 hz0 hz1 hz2 rfl (.slice lo n lc) n (.string mk) rfl ?c30 ⟨q2.heap.size,0,none⟩ 3 3 rfl ?c31 rfl (by decide) ?c33 ?c34 ?c35 ?_))
   case c30=>exact (unhide HMA3).ls
   try case c31=>
    intro j hj
    match j,hj with
    |0,hj=>exact cell_of_blk (blk_alloc' _ _ _ (by first|rfl|simp [World.setCell])) 0
    |1,hj=>exact cell_of_blk (blk_alloc' _ _ _ (by first|rfl|simp [World.setCell])) 1
    |2,hj=>exact cell_of_blk (blk_alloc' _ _ _ (by first|rfl|simp [World.setCell])) 2
    |j+3,hj=>omega
   case c33=>unfold maxLen;omega
   case c34=>omega
   case c35=>have:=(unhide HMA3).fr.size;omega
   intro g3 cap3 q3 hown3 hmk3 hat3
   have HMQ3:=hide ((unhide HMA3).mkd hmk3 (by omega))
   have HBQ3:=hide ((hmk3.block _ (lt_of_blk (unhide HBA3)) (fun e=>own_ty (unhide HMA3).ls e (unhide HBA3) (by decide))).trans (unhide HBA3))
   have HAF33:Hid (AFt q3 g3 (n+3) (.string mk) 9):=⟨AF.of_owns hown3,by
    obtain ⟨_,⟨hv,_⟩|⟨g',cap',cur,hv,_,hrow,_⟩⟩:=hown3
    ·cases hv
    ·cases hv;exact ⟨_,_,hrow⟩⟩
   have HAF13:=hide ((unhide HAA13).mk hmk3 (by omega))
   have HAF23:=hide ((unhide HAA23).mk hmk3 (by omega))
   have hbq3:=lt_of_blk (unhide HBQ3)
   have bc3:=fun o=>cell_of_blk (unhide HBQ3) o
   have bf3:=fun o=>frozen_of_blk (unhide HBQ3) o
   have HMX3:=hide ((unhide HMQ3).setB (unhide HBQ3) hwb (by decide) (by decide) hbt 4 (.slice (some ⟨g3,0,none⟩) (n+3) cap3))
   have HBX3:Hid (_=some (Obj.cells #[.string mk,.slice lo n lc,.slice (some ⟨g1,0,none⟩) (n+1) cap1,.slice (some ⟨g2,0,none⟩) (n+2) cap2,.slice (some ⟨g3,0,none⟩) (n+3) cap3] 118 (0,0))):=blk_set (unhide HBQ3) 4 (.slice (some ⟨g3,0,none⟩) (n+3) cap3)
   have HAX13:=hide ((unhide HAF13).set (o:=4) (u:=(.slice (some ⟨g3,0,none⟩) (n+3) cap3)) (unhide HBQ3) (by decide))
   have HAX23:=hide ((unhide HAF23).set (o:=4) (u:=(.slice (some ⟨g3,0,none⟩) (n+3) cap3)) (unhide HBQ3) (by decide))
   have HAX33:=hide ((unhide HAF33).set (o:=4) (u:=(.slice (some ⟨g3,0,none⟩) (n+3) cap3)) (unhide HBQ3) (by decide))
   have HNW3:Hid (NwB w (.slice lo n lc) (.slice (some ⟨g3,0,none⟩) (n+3) cap3)):=⟨g3,_,_,rfl,hat3.imp id (fun e=>by have:=(unhide HMQ2).fr.size;omega)⟩
   clear hown3 hmk3 hat3
   clear bc2 bf2
   go_wp2_with fail
   generalize (q3.setCell ⟨wr.heap.size,4,none⟩ (.slice (some ⟨g3,0,none⟩) (n+3) cap3))=W4 at *
   have HB4:Hid (W4.heap[wr.heap.size]? =some (.cells #[.string mk,.slice lo n lc,.slice (some ⟨g1,0,none⟩) (n+1) cap1,.slice (some ⟨g2,0,none⟩) (n+2) cap2,.slice (some ⟨g3,0,none⟩) (n+3) cap3] 118 (0,0))):=HBX3
   clear bc3 bf3 HMQ1 HMQ2 HMQ3 HBQ1 HBQ2 HBQ3 HAF11 HAF12 HAF22 HAF13 HAF23 HAF33 HAX11 HAX12 HAX22 HAA12 HAA13 HAA23 HMA1 HMA2 HMA3 HBA1 HBA2 HBA3 HMX1 HMX2 HBX1 HBX2 HBX3 HMS3 HBK3 HB3
   have hlb4:=lt_of_blk (unhide HMX3).lw
   have hbb4:=lt_of_blk (unhide HB4)
   have hw4:w.heap.size≤W4.heap.size:=(unhide HMX3).fr.size
   have hne:lb≠wr.heap.size:=fun e=>by
    have h1:=(unhide HMX3).lw
    have h2:=unhide HB4
    unfold LWd at h1
    rw [←e,h1] at h2
    cases h2
   have lc2:W4.cell? ⟨lb,2,none⟩=some (.slice to_ tn tc):=(cell_of_blk (unhide HMX3).lw 2).trans rfl
   have b0:W4.cell? ⟨wr.heap.size,0,none⟩=some (.string mk):=(cell_of_blk (unhide HB4) 0).trans rfl
   have b1:W4.cell? ⟨wr.heap.size,1,none⟩=some (.slice lo n lc):=(cell_of_blk (unhide HB4) 1).trans rfl
   have b2:W4.cell? ⟨wr.heap.size,2,none⟩=some (.slice (some ⟨g1,0,none⟩) (n+1) cap1):=(cell_of_blk (unhide HB4) 2).trans rfl
   have b3:W4.cell? ⟨wr.heap.size,3,none⟩=some (.slice (some ⟨g2,0,none⟩) (n+2) cap2):=(cell_of_blk (unhide HB4) 3).trans rfl
   have b4:W4.cell? ⟨wr.heap.size,4,none⟩=some (.slice (some ⟨g3,0,none⟩) (n+3) cap3):=(cell_of_blk (unhide HB4) 4).trans rfl
   generalize hBB:wr.heap.size=bb at *
   clear hBB
   refine wp_region_held_drew (S:=fun w'=>w'.cell? ⟨bb,0,none⟩=some (.string mk)∧w'.cell? ⟨bb,1,none⟩=some (.slice lo n lc)∧w'.cell? ⟨bb,2,none⟩=some (.slice (some ⟨g1,0,none⟩) (n+1) cap1)∧w'.cell? ⟨bb,3,none⟩=some (.slice (some ⟨g2,0,none⟩) (n+2) cap2)∧w'.cell? ⟨bb,4,none⟩=some (.slice (some ⟨g3,0,none⟩) (n+3) cap3)) (by kernel_rfl) ?_ (fun hHeld=> ?_)
   ·exact ⟨b0,b1,b2,b3,b4⟩
   refine wpAnyH_take (i:=0) (v:= .pointer (some ⟨lb,0,none⟩)) rfl (by kernel_rfl) (by kernel_rfl) (by kernel_rfl) (fun _ _ _ h=>h) (Or.inl ⟨by kernel_rfl,fun w hw=>by obtain ⟨s0,s1,s2,s3,s4⟩:=hw;go_simp⟩) hHeld ?_
   try simp only [Act.put,List.setIfInBounds_toArray,List.set_cons_zero,List.set_cons_succ,List.getElem_toArray,List.getElem_cons_succ,List.getElem_cons_zero]
   refine wpAnyH_take (i:=1) (v:= .pointer (some ⟨lb,0,none⟩)) rfl (by kernel_rfl) (by kernel_rfl) (by kernel_rfl) (fun _ _ _ h=>h) (Or.inl ⟨by kernel_rfl,fun w hw=>by obtain ⟨s0,s1,s2,s3,s4⟩:=hw;go_simp⟩) hHeld ?_
   try simp only [Act.put,List.setIfInBounds_toArray,List.set_cons_zero,List.set_cons_succ,List.getElem_toArray,List.getElem_cons_succ,List.getElem_cons_zero]
   refine wpAnyH_take (i:=2) (v:= .pointer (some ⟨lb,0,none⟩)) rfl (by kernel_rfl) (by kernel_rfl) (by kernel_rfl) (fun _ _ _ h=>h) (Or.inl ⟨by kernel_rfl,fun w hw=>by obtain ⟨s0,s1,s2,s3,s4⟩:=hw;go_simp⟩) hHeld ?_
   try simp only [Act.put,List.setIfInBounds_toArray,List.set_cons_zero,List.set_cons_succ,List.getElem_toArray,List.getElem_cons_succ,List.getElem_cons_zero]
   refine wpAnyH_take (i:=3) (v:= .pointer (some ⟨lb,2,none⟩)) rfl (by kernel_rfl) (by kernel_rfl) (by kernel_rfl) (fun _ _ _ h=>h) (Or.inl ⟨by kernel_rfl,fun w hw=>by obtain ⟨s0,s1,s2,s3,s4⟩:=hw;go_simp⟩) hHeld ?_
   try simp only [Act.put,List.setIfInBounds_toArray,List.set_cons_zero,List.set_cons_succ,List.getElem_toArray,List.getElem_cons_succ,List.getElem_cons_zero]
   refine wpAnyH_take (i:=5) (v:= .agg #[.string mk,.slice lo n lc,.slice (some ⟨g1,0,none⟩) (n+1) cap1,.slice (some ⟨g2,0,none⟩) (n+2) cap2,.slice (some ⟨g3,0,none⟩) (n+3) cap3]) rfl (by kernel_rfl) (by kernel_rfl) (by kernel_rfl) (fun _ _ _ h=>h) (Or.inl ⟨by kernel_rfl,fun w hw=>by obtain ⟨s0,s1,s2,s3,s4⟩:=hw;go_simp⟩) hHeld ?_
   try simp only [Act.put,List.setIfInBounds_toArray,List.set_cons_zero,List.set_cons_succ,List.getElem_toArray,List.getElem_cons_succ,List.getElem_cons_zero]
   refine wpAnyH_ready (rs:=[4,6]) (by kernel_rfl) (by simp) ?_
   refine AllReadyH.cons rfl (fun K hK=> ?_) (AllReadyH.cons rfl (fun K hK=> ?_) AllReadyH.nil)
   ·go_simp
    refine hK.out _ _ ⟨b0,b1,b2,b3,b4⟩ (fun hHeld=> ?_)
    clear hK K
    refine wpAnyH_ready (rs:=[6]) (by kernel_rfl) (by simp) ?_
    refine AllReadyH.cons rfl (fun K hK=> ?_) AllReadyH.nil
    go_simp
    refine hK.out _ _ ⟨(World.cell?_alloc_lt _ _ _ (by simpa using hbb4)).trans b0,(World.cell?_alloc_lt _ _ _ (by simpa using hbb4)).trans b1,(World.cell?_alloc_lt _ _ _ (by simpa using hbb4)).trans b2,(World.cell?_alloc_lt _ _ _ (by simpa using hbb4)).trans b3,(World.cell?_alloc_lt _ _ _ (by simpa using hbb4)).trans b4⟩ (fun hHeld=> ?_)
    clear hK K
    refine wpAnyH_ready (rs:=[7]) (by kernel_rfl) (by simp) ?_
    refine AllReadyH.cons rfl (fun K hK=> ?_) AllReadyH.nil
    refine step_append_lies _ (by rfl) _ _ 65 (by rfl) B0 118 j0 (.agg #[.string ⟨#[]⟩,.slice none 0 0,.slice none 0 0,.slice none 0 0,.slice none 0 0]) 5 112 Tryz.underlying65 hj0 hy0 hy1 hy2 rfl (by decide) (.slice to_ tn tc) tn C (by rfl) ?d0x ⟨W4.heap.size,0,none⟩ 1 1 [.string mk,.slice lo n lc,.slice (some ⟨g1,0,none⟩) (n+1) cap1,.slice (some ⟨g2,0,none⟩) (n+2) cap2,.slice (some ⟨g3,0,none⟩) (n+3) cap3] (by rfl) rfl ?d1x ?d2x (by decide) ?d3x ?d4x ?d5x (W4.heap.size+1) (by simp) ?_
    case d0x=>exact owns_later (unhide HMX3).bk (((Below.refl _ _).drew).alloc (Nat.le_refl _) _)
    case d1x=>
     intro j u hj
     match j,hj with
     |0,hj=>simp at hj;subst hj;exact cell_of_blk (blk_alloc' _ _ _ rfl) 0
     |1,hj=>simp at hj;subst hj;exact cell_of_blk (blk_alloc' _ _ _ rfl) 1
     |2,hj=>simp at hj;subst hj;exact cell_of_blk (blk_alloc' _ _ _ rfl) 2
     |3,hj=>simp at hj;subst hj;exact cell_of_blk (blk_alloc' _ _ _ rfl) 3
     |4,hj=>simp at hj;subst hj;exact cell_of_blk (blk_alloc' _ _ _ rfl) 4
     |j+5,hj=>simp at hj
    case d2x=>intro u hu;simp at hu;rcases hu with rfl|rfl|rfl|rfl|rfl<;>rfl
    case d3x=>unfold maxLen;omega
    case d4x=>exact htn
    case d5x=>simp;omega
    intro g8 cap8 q8 hown8 hgrow8 hat8 _
    have hwa:Below W4.heap.size W4 (W4.drew.alloc (.cells #[.string mk,.slice lo n lc,.slice (some ⟨g1,0,none⟩) (n+1) cap1,.slice (some ⟨g2,0,none⟩) (n+2) cap2,.slice (some ⟨g3,0,none⟩) (n+3) cap3] 118)):=((Below.refl _ _).drew).alloc (Nat.le_refl _) _
    have hbk8:=(hgrow8.block bb (Nat.lt_of_lt_of_le hbb4 hwa.size) (fun e=>hbt e.symm)).trans ((hwa.block bb hbb4).trans (unhide HB4))
    have hlw8:=(hgrow8.block lb (Nat.lt_of_lt_of_le hlb4 hwa.size) (fun e=>own_ty (unhide HMX3).bk e.symm (unhide HMX3).lw (by decide))).trans ((hwa.block lb hlb4).trans (unhide HMX3).lw)
    refine hK.out _ _ ⟨(cell_of_blk hbk8 0).trans rfl,(cell_of_blk hbk8 1).trans rfl,(cell_of_blk hbk8 2).trans rfl,(cell_of_blk hbk8 3).trans rfl,(cell_of_blk hbk8 4).trans rfl⟩ (fun hHeld=> ?_)
    clear hK K
    have HO8:=hide hown8
    have HG8:=hide hgrow8
    have HBK8:=hide hbk8
    have HLW8:=hide hlw8
    have HWA:=hide hwa
    have c8:=fun o=>cell_of_blk hlw8 o
    have f8:=fun o=>frozen_of_blk hlw8 o
    have hll8:=lt_of_blk hlw8
    have HAT8:=hide hat8
    clear hown8 hgrow8 hbk8 hlw8 hwa hat8
    refine wpAnyH_take (i:=8) (v:= .pointer (some ⟨lb,0,none⟩)) rfl (by kernel_rfl) (by kernel_rfl) (by kernel_rfl) (fun _ _ _ h=>h) (Or.inl ⟨by kernel_rfl,fun w hw=>by obtain ⟨s0,s1,s2,s3,s4⟩:=hw;go_simp⟩) hHeld ?_
    try simp only [Act.put,List.setIfInBounds_toArray,List.set_cons_zero,List.set_cons_succ,List.getElem_toArray,List.getElem_cons_succ,List.getElem_cons_zero]
    refine wpAnyH_take (i:=9) (v:= .pointer (some ⟨lb,2,none⟩)) rfl (by kernel_rfl) (by kernel_rfl) (by kernel_rfl) (fun _ _ _ h=>h) (Or.inl ⟨by kernel_rfl,fun w hw=>by obtain ⟨s0,s1,s2,s3,s4⟩:=hw;go_simp⟩) hHeld ?_
    try simp only [Act.put,List.setIfInBounds_toArray,List.set_cons_zero,List.set_cons_succ,List.getElem_toArray,List.getElem_cons_succ,List.getElem_cons_zero]
    refine wpAnyH_ready (rs:=[10]) (by kernel_rfl) (by simp) ?_
    refine AllReadyH.cons rfl (fun K hK=> ?_) AllReadyH.nil
    go_simp
    refine hK.out _ _ ⟨(cell_of_blk ((Below.heap_setCell _ _ _ _ (by show bb≠lb;exact fun e=>hne e.symm)).trans (unhide HBK8)) 0).trans rfl,(cell_of_blk ((Below.heap_setCell _ _ _ _ (by show bb≠lb;exact fun e=>hne e.symm)).trans (unhide HBK8)) 1).trans rfl,(cell_of_blk ((Below.heap_setCell _ _ _ _ (by show bb≠lb;exact fun e=>hne e.symm)).trans (unhide HBK8)) 2).trans rfl,(cell_of_blk ((Below.heap_setCell _ _ _ _ (by show bb≠lb;exact fun e=>hne e.symm)).trans (unhide HBK8)) 3).trans rfl,(cell_of_blk ((Below.heap_setCell _ _ _ _ (by show bb≠lb;exact fun e=>hne e.symm)).trans (unhide HBK8)) 4).trans rfl⟩ (fun hHeld=> ?_)
    clear hK K
    refine wpAnyH_done (by kernel_rfl) ?_ _
    clear hHeld
    exact mark_end (unhide HMX3) (unhide HWA) (unhide HO8) (unhide HG8) (unhide HLW8) (unhide HAX13) (unhide HAX23) (unhide HAX33) (unhide HMK) (by omega) (unhide HNW1) (unhide HNW2) (unhide HNW3) (unhide HAT8)
   ·go_simp
    refine hK.out _ _ ⟨(World.cell?_alloc_lt _ _ _ (by simpa using hbb4)).trans b0,(World.cell?_alloc_lt _ _ _ (by simpa using hbb4)).trans b1,(World.cell?_alloc_lt _ _ _ (by simpa using hbb4)).trans b2,(World.cell?_alloc_lt _ _ _ (by simpa using hbb4)).trans b3,(World.cell?_alloc_lt _ _ _ (by simpa using hbb4)).trans b4⟩ (fun hHeld=> ?_)
    clear hK K
    refine wpAnyH_ready (rs:=[4]) (by kernel_rfl) (by simp) ?_
    refine AllReadyH.cons rfl (fun K hK=> ?_) AllReadyH.nil
    go_simp
    refine hK.out _ _ ⟨(World.cell?_alloc_lt _ _ _ (by simpa using hbb4)).trans b0,(World.cell?_alloc_lt _ _ _ (by simpa using hbb4)).trans b1,(World.cell?_alloc_lt _ _ _ (by simpa using hbb4)).trans b2,(World.cell?_alloc_lt _ _ _ (by simpa using hbb4)).trans b3,(World.cell?_alloc_lt _ _ _ (by simpa using hbb4)).trans b4⟩ (fun hHeld=> ?_)
    clear hK K
    refine wpAnyH_ready (rs:=[7]) (by kernel_rfl) (by simp) ?_
    refine AllReadyH.cons rfl (fun K hK=> ?_) AllReadyH.nil
    refine step_append_lies _ (by rfl) _ _ 65 (by rfl) B0 118 j0 (.agg #[.string ⟨#[]⟩,.slice none 0 0,.slice none 0 0,.slice none 0 0,.slice none 0 0]) 5 112 Tryz.underlying65 hj0 hy0 hy1 hy2 rfl (by decide) (.slice to_ tn tc) tn C (by rfl) ?d0y ⟨W4.heap.size,0,none⟩ 1 1 [.string mk,.slice lo n lc,.slice (some ⟨g1,0,none⟩) (n+1) cap1,.slice (some ⟨g2,0,none⟩) (n+2) cap2,.slice (some ⟨g3,0,none⟩) (n+3) cap3] (by rfl) rfl ?d1y ?d2y (by decide) ?d3y ?d4y ?d5y (W4.heap.size+1) (by simp) ?_
    case d0y=>exact owns_later (unhide HMX3).bk (((Below.refl _ _).drew).alloc (Nat.le_refl _) _)
    case d1y=>
     intro j u hj
     match j,hj with
     |0,hj=>simp at hj;subst hj;exact cell_of_blk (blk_alloc' _ _ _ rfl) 0
     |1,hj=>simp at hj;subst hj;exact cell_of_blk (blk_alloc' _ _ _ rfl) 1
     |2,hj=>simp at hj;subst hj;exact cell_of_blk (blk_alloc' _ _ _ rfl) 2
     |3,hj=>simp at hj;subst hj;exact cell_of_blk (blk_alloc' _ _ _ rfl) 3
     |4,hj=>simp at hj;subst hj;exact cell_of_blk (blk_alloc' _ _ _ rfl) 4
     |j+5,hj=>simp at hj
    case d2y=>intro u hu;simp at hu;rcases hu with rfl|rfl|rfl|rfl|rfl<;>rfl
    case d3y=>unfold maxLen;omega
    case d4y=>exact htn
    case d5y=>simp;omega
    intro g8 cap8 q8 hown8 hgrow8 hat8 _
    have hwa:Below W4.heap.size W4 (W4.drew.alloc (.cells #[.string mk,.slice lo n lc,.slice (some ⟨g1,0,none⟩) (n+1) cap1,.slice (some ⟨g2,0,none⟩) (n+2) cap2,.slice (some ⟨g3,0,none⟩) (n+3) cap3] 118)):=((Below.refl _ _).drew).alloc (Nat.le_refl _) _
    have hbk8:=(hgrow8.block bb (Nat.lt_of_lt_of_le hbb4 hwa.size) (fun e=>hbt e.symm)).trans ((hwa.block bb hbb4).trans (unhide HB4))
    have hlw8:=(hgrow8.block lb (Nat.lt_of_lt_of_le hlb4 hwa.size) (fun e=>own_ty (unhide HMX3).bk e.symm (unhide HMX3).lw (by decide))).trans ((hwa.block lb hlb4).trans (unhide HMX3).lw)
    refine hK.out _ _ ⟨(cell_of_blk hbk8 0).trans rfl,(cell_of_blk hbk8 1).trans rfl,(cell_of_blk hbk8 2).trans rfl,(cell_of_blk hbk8 3).trans rfl,(cell_of_blk hbk8 4).trans rfl⟩ (fun hHeld=> ?_)
    clear hK K
    have HO8:=hide hown8
    have HG8:=hide hgrow8
    have HBK8:=hide hbk8
    have HLW8:=hide hlw8
    have HWA:=hide hwa
    have c8:=fun o=>cell_of_blk hlw8 o
    have f8:=fun o=>frozen_of_blk hlw8 o
    have hll8:=lt_of_blk hlw8
    have HAT8:=hide hat8
    clear hown8 hgrow8 hbk8 hlw8 hwa hat8
    refine wpAnyH_take (i:=8) (v:= .pointer (some ⟨lb,0,none⟩)) rfl (by kernel_rfl) (by kernel_rfl) (by kernel_rfl) (fun _ _ _ h=>h) (Or.inl ⟨by kernel_rfl,fun w hw=>by obtain ⟨s0,s1,s2,s3,s4⟩:=hw;go_simp⟩) hHeld ?_
    try simp only [Act.put,List.setIfInBounds_toArray,List.set_cons_zero,List.set_cons_succ,List.getElem_toArray,List.getElem_cons_succ,List.getElem_cons_zero]
    refine wpAnyH_take (i:=9) (v:= .pointer (some ⟨lb,2,none⟩)) rfl (by kernel_rfl) (by kernel_rfl) (by kernel_rfl) (fun _ _ _ h=>h) (Or.inl ⟨by kernel_rfl,fun w hw=>by obtain ⟨s0,s1,s2,s3,s4⟩:=hw;go_simp⟩) hHeld ?_
    try simp only [Act.put,List.setIfInBounds_toArray,List.set_cons_zero,List.set_cons_succ,List.getElem_toArray,List.getElem_cons_succ,List.getElem_cons_zero]
    refine wpAnyH_ready (rs:=[10]) (by kernel_rfl) (by simp) ?_
    refine AllReadyH.cons rfl (fun K hK=> ?_) AllReadyH.nil
    go_simp
    refine hK.out _ _ ⟨(cell_of_blk ((Below.heap_setCell _ _ _ _ (by show bb≠lb;exact fun e=>hne e.symm)).trans (unhide HBK8)) 0).trans rfl,(cell_of_blk ((Below.heap_setCell _ _ _ _ (by show bb≠lb;exact fun e=>hne e.symm)).trans (unhide HBK8)) 1).trans rfl,(cell_of_blk ((Below.heap_setCell _ _ _ _ (by show bb≠lb;exact fun e=>hne e.symm)).trans (unhide HBK8)) 2).trans rfl,(cell_of_blk ((Below.heap_setCell _ _ _ _ (by show bb≠lb;exact fun e=>hne e.symm)).trans (unhide HBK8)) 3).trans rfl,(cell_of_blk ((Below.heap_setCell _ _ _ _ (by show bb≠lb;exact fun e=>hne e.symm)).trans (unhide HBK8)) 4).trans rfl⟩ (fun hHeld=> ?_)
    clear hK K
    refine wpAnyH_done (by kernel_rfl) ?_ _
    clear hHeld
    exact mark_end (unhide HMX3) (unhide HWA) (unhide HO8) (unhide HG8) (unhide HLW8) (unhide HAX13) (unhide HAX23) (unhide HAX33) (unhide HMK) (by omega) (unhide HNW1) (unhide HNW2) (unhide HNW3) (unhide HAT8)
end Go.Proofs.YtidakhhekofkoaaGreatDoor
