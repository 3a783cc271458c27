import Derived.Test.YtidakhhekofkoaaGreatDoorT00
import Derived.Test.YtidakhhekofkoaaGreatDoorT01
import Derived.BigQuiet
set_option linter.all false
set_option maxHeartbeats 4000000
set_option maxRecDepth 100000
namespace Go.Proofs.YtidakhhekofkoaaGreatDoor
open Go.Proofs.Tryz
open Go.RowKit Go.Deep
open Value renaming slice -> xa, int -> xd, string -> xj, pointer -> xk, bool -> xn
open IntKind renaming i64 -> xh
open Obj renaming cells -> xi
open Ending renaming returned -> xm
open Calls renaming quiet_of_same -> Mr
open Nat renaming le_refl -> Ms
open List renaming length_cons -> Mt, length -> My, length_nil -> ME
open Go.RowKit.Below renaming heap_setCell -> Mu, refl -> Mw
open World renaming setCell -> Mx
open Lib renaming extract_data -> Mz
open Or renaming inl -> MC, inr -> MD
variable {zq:Prop}
variable {w w':World} {b pb cap i:Nat} {c:Array Value} {m:Nat × Nat} {o:Obj} {L r:List Tk} {bad:Bool} {t:Tk} {f:Fm} {v vf vg:Option Addr} {a:ByteArray}
theorem zm7(h:zq:=by
 go_wp2;go_ret;exact⟨rfl,(gz.trans ((LQ _).mono zp))⟩
 ):zq:=h
theorem zm18(h:zq:=by
 rw[hx];have HT:=fa ht;have HP:=fa h;have hlt:=h.lt;have hlen:=h.len;obtain⟨c0,c1,c2⟩:=h.cells;clear h ht hx;go_in
 go_wp2_with (refine(jD HP.out HT.out).mono ?_)
 rintro e w1 ⟨rfl,hb⟩;have HP1:=fa (HP.out.later hb);have HB:=fa hb;simp only[jY];clear hb c0 c1 c2;obtain⟨c0,c1,c2⟩:=HP1.out.cells;have hf:=fi HP1.out.blk 1;have hp1:=fh HP1.out.blk;simp only[hr];go_wp2;go_ret;exact⟨gI (gI ((gC HB.out _).trans (fK _ _ _ _)) _) _,_,rfl,⟨w1.heap.size+1,none,none,rfl,fk _ _ _ zp,rfl,rfl⟩,i+1,drop_tail HT.out,((HP1.out.setI HT.out).alloc _).alloc _⟩
 ):zq:=h
theorem zm22(h:zq:=by
 rw[hx];have HT:=fa ht;have HP:=fa h;obtain⟨c0,c1,c2⟩:=h.cells;clear h ht hx;go_in
 go_wp2_with (go_at_call 201;refine(jD HP.out HT.out).mono ?_)
 rintro e w1 ⟨rfl,hb⟩;have HP1:=fa (HP.out.later hb);have HB:=fa hb;simp only[jY];clear hb c0 c1 c2
 go_wp2_with (go_at_call 280;refine(pU (HP1.out.alloc _)).mono ?_)
 rintro e w2 ⟨rfl,hp2,hg2⟩;have HP2:=fa hp2;have HG2:=fa hg2;clear hp2 hg2;go_wp2;go_ret;refine⟨gI ((gI (gC HB.out _) _).trans HG2.out) _,_,rfl,i, ?_,HP2.out.alloc _⟩;rw[HT.out];rfl
 ):zq:=h
theorem zm26(h:zq:=by
 clear he
 go_wp2_with (refine(pU (HPS1.out.alloc _)).mono ?_)
 rintro e w2 ⟨rfl,hp2,hg2⟩;have hrb2:=
  (hg2.block _ zs zs).trans ((Below.heap_alloc _ _ _ hz).trans HRB.out)
 have hbx2:=
  (hg2.block _ zp zs).trans (ft _ _)
 have r0:=cell_of_blk hrb2 0;have r1:=cell_of_blk hrb2 1;have r2:=cell_of_blk hrb2 2;have f0:=fi hrb2 0;have f1:=fi hrb2 1;have f2:=fi hrb2 2;have b0:=cell_of_blk hbx2 0;have b1:=cell_of_blk hbx2 1;have b2:=cell_of_blk hbx2 2;have HP2:=fa hp2;have HG2:=fa ((gI HG.out _).trans hg2);simp at r0 r1 r2 b0 b1 b2;clear hp2 hg2 hrb2 hbx2 c0 c1 c2;go_wp2;have hgl:=HPS.out.gLt;refine bodyPost_ret (v:=jY t) ?_ rfl ⟨rfl, ?_, ?_⟩
 ·simp[results,results246,go_sem,jY,r0,r1,r2]
 ·exact((HP2.out.setOther _ _ _ zo zo).setOther _ _ _ zo zo).setOther _ _ _ zo zo
 exact gy (gy (gy HG2.out (Nat.le_refl _) _ _) (Nat.le_refl _) _ _) (Nat.le_refl _) _ _
 ):zq:=h
theorem zm46(h:zq:=by
 obtain⟨i3,hq3,hp3⟩:=hx3;have HP3:=fa hp3;have HQ3:=fa hq3;have HG3:=fa hg3;clear hp3 hq3 hg3 hpf3
 go_wp2_with (refine(BI).mono ?_)
 rintro e w4 ⟨v,rfl,hb4⟩;have HB4:=fa hb4;clear hb4;go_wp2;go_ret;rw[HX3.out];exact⟨((HG1.out.trans HG2.out).trans HG3.out).trans (gC HB4.out _),_,rfl,i3,HQ3.out,HP3.out.later HB4.out⟩
 ):zq:=h
theorem zm48(h:zq:=by
 have hj:j<L.length:=by
  rcases Nat.lt_or_ge j L.length with h|h
  ·omega
  rw[List.drop_eq_nil_of_le h] at ht;cases ht
 rw[<-h2,List.getElem?_take,List.getElem?_take,List.getElem?_take,if_pos zo,if_pos zo,if_pos zo] at h3;refine⟨?_, ?_, ?_⟩<;>rw[cell_of_blk h1,<-Array.getElem?_toList]
 ·simp_all
 ·simp_all
 simp_all
 ):zq:=h
theorem zm54(h:zq:=by
 have HP3:=fa hp3;clear hp3 hq3 hpf3
 go_wp2_with (refine(BI).mono ?_)
 rintro e w4 ⟨v,rfl,hb4⟩;have HB4:=fa hb4;clear hb4;go_wp2_with fail
 go_roundg m
 case measure=>omega
 exact⟨_,rfl,((HGJ.out.trans HG2.out).trans HG3.out).trans (gC HB4.out _),Or.inr ⟨i3,HP3.out.later HB4.out,HX3.out⟩⟩
 ):zq:=h
theorem zm58(h:zq:=by
 rw[e];refine⟨?_, ?_, ?_⟩
 ·rw[List.getElem?_append_right zs];simpa [Nat.add_mul] using this.1
 ·rw[List.getElem?_append_right zs];have e2:(i+1) * 3+1 - 3=i * 3+1:=zo;simp_all
 rw[List.getElem?_append_right zs];have e2:(i+1) * 3+2 - 3=i * 3+2:=zo;simp_all
 ):zq:=h
theorem zm62(h:zq:=by
 rintro e w4 ⟨v,rfl,hv,hb4⟩;have HB4:=fa hb4;have HV:=fa hv;clear hb4 hv;go_wp2_with fail
 go_roundg m
 case measure=>omega
 exact⟨_,rfl,((HGJ.out.trans HG2.out).trans HG3.out).trans (gC HB4.out _),Or.inl ⟨_,i3,zo,hl3,HV.out,HP3.out.later HB4.out,HX3.out⟩⟩
 ):zq:=h
theorem zm69(h:zq:=by
 rintro e w4 ⟨v,rfl,hv,hb4⟩;have HB4:=fa hb4;have HV:=fa hv;clear hb4 hv;go_wp2;go_ret;rw[HX3.out];exact⟨((HG1.out.trans HG2.out).trans HG3.out).trans (gC HB4.out _),_,rfl,HV.out,i3,HQ3.out,HP3.out.later HB4.out⟩
 ):zq:=h
theorem zm75(h:zq:=by
 go_wp2;go_ret;exact⟨pL (by rw[HE.out]),rfl⟩
 ):zq:=h
theorem zm90(h:zq:=by
 obtain⟨a,l1⟩:=x;have hlen:=ju _ _ _ _ _ _ hpf;rw[hpf] at hx;obtain⟨hf1,i1,hl1,hp1⟩:=hx;exact Or.inl ⟨a,i1,Nat.le_refl _,by rw[hl1];omega,hf1,hp1,by show _=_;rw[pf,hpf,hl1]⟩
 ):zq:=h
theorem zm92(h:zq:=by
 rintro e w2 ⟨rfl,hp2,hg2⟩;have HP2:=fa hp2;have HG2:=fa hg2;clear hp2 hg2;go_wp2;go_ret;rw[HX.out];exact⟨HG1.out.trans HG2.out,_,rfl,HF1.out.keepP HP1.out HG2.out,i1,rfl,HP2.out⟩
 ):zq:=h
theorem zm93(h:zq:=by
 show _=_;rw[hxj.out,pf];simp only[h16,if_true];rw[ht,ht2];rfl
 ):zq:=h
theorem zm94(h:zq:=by
 rintro e w2 ⟨rfl,hp2,hg2⟩;have HP2:=fa hp2;have HG2:=fa hg2;clear hp2 hg2;go_wp2;go_ret;rw[HX.out];exact⟨HGJ.out.trans HG2.out,_,rfl,HFA.out.keepP HPJ.out HG2.out,j,rfl,HP2.out⟩
 ):zq:=h
theorem zm95(h:zq:=by
 have bc:=cell_of_blk h;have hlt:=fh h;clear h;go_in;go_wp2;go_ret;exact⟨rfl,gz⟩
 ):zq:=h
theorem zm113(h:zq:=by
 rintro e w2 ⟨rfl,hp2,hg2⟩;have HP2:=fa hp2;have HG2:=fa hg2;clear hp2 hg2;go_wp2;go_ret;rw[HX.out];exact⟨HG1.out.trans HG2.out,_,rfl,i1,HQ.out,HP2.out⟩
 ):zq:=h
theorem zm119(h:zq:=by
 rintro e w2 ⟨rfl,hp2,hg2⟩;have HP2:=fa hp2;have HG2:=fa hg2;clear hp2 hg2;go_wp2;go_ret;rw[HXJ.out];exact⟨HGJ.out.trans HG2.out,_,rfl,j,rfl,HP2.out⟩
 ):zq:=h
theorem zm123(h:zq:=by
 rw[pf,hpf];simp only[h13,if_true];rw[ht,ht2];rfl
 ):zq:=h
theorem zm175(h:zq:=by
 rw[hpf] at hx;obtain⟨i1,hq1,hp1⟩:=hx;exact Or.inr ⟨i1,hp1,by show _=_;rw[pf,hpf,hq1]⟩
 ):zq:=h
structure PS (w:World) (pb g cap:Nat) (L:List Tk) (i:Nat) (bad:Bool):Prop where
 blk:w.heap[pb]? =some (xi #[xa (some ⟨g,0,none⟩) L.length cap,xd xh i,xn bad] 325 (0,0))
 row: ∃cur,w.heap[g]? =some (xi cur 232 (0,0))/\cur.toList.take (L.length * 3)=iK L
 le:L.length<=cap
 capLe:cap<=maxLen
 len:L.length<=401
 lt:i<L.length
 ends:Ends (L.drop i)
 ok: ∀t∈L,qI t
theorem cell_of_blk{ty:Nat}(h:w.heap[b]? =some (xi c ty m))(o:Nat):w.cell? ⟨b,o,none⟩=c[o]? :=by
 simp[World.cell?,h]
theorem fi{ty:Nat}(h:w.heap[b]? =some (xi c ty (0,0)))(o:Nat):w.frozen? ⟨b,o,none⟩=false:=by
 simp[World.frozen?,h]
theorem fh(h:w.heap[b]? =some o):b<w.heap.size:=by
 rcases Nat.lt_or_ge b w.heap.size with h'|h'
 ·omega
 simp_all
theorem ft(w:World)(o:Obj):(w.alloc o).heap[w.heap.size]? =some o:=by
 show(w.heap.push o)[w.heap.size]? =_;simp
theorem xE(L:List Tk)(i:Nat)(t:Tk)(r:List Tk)(h:L.drop i=t::r):
  (iK L)[i * 3]? =some (xd .u8 (gM t.k))/\(iK L)[i * 3+1]? =some (xj t.s)/\(iK L)[i * 3+2]? =some (xd xh t.p):=by
 induction L generalizing i with
 |nil=>simp at h
 |cons u L ih=>
  cases i with
  |zero=>simp at h;obtain⟨rfl,rfl⟩:=h;trivial
  |succ i=>
   have:=ih i zv;have e:iK (u::L)=[xd .u8 (gM u.k),xj u.s,xd xh u.p]++iK L:=zf;exact zm58
theorem PS.cells{g:Nat}(h:PS w pb g cap L i bad):
  w.cell? ⟨pb,0,none⟩=some (xa (some ⟨g,0,none⟩) L.length cap)/\w.cell? ⟨pb,1,none⟩=some (xd xh i)/\w.cell? ⟨pb,2,none⟩=some (xn bad):=by
 refine⟨?_, ?_, ?_⟩<;>rw[cell_of_blk h.blk]<;>rfl
theorem PS.tok{g:Nat}(h:PS w pb g cap L i bad)(j:Nat)(t:Tk)(r:List Tk)(ht:L.drop j=t::r):
  w.cell? ⟨g,j * 3,none⟩=some (xd .u8 (gM t.k))/\w.cell? ⟨g,j * 3+1,none⟩=some (xj t.s)/\w.cell? ⟨g,j * 3+2,none⟩=some (xd xh t.p):=by
 obtain⟨cur,h1,h2⟩:=h.row;have h3:=xE L j t r ht;exact zm48
theorem jD{g:Nat}(h:PS w pb g cap L i bad)(J:L.drop i=t::r):
  Calls prog 201 #[xk (some ⟨pb,0,none⟩)] w fun e w'=>e=xm (jY t)/\Below w.heap.size w w':=by
 obtain⟨c0,c1,c2⟩:=h.cells;obtain⟨t0,t1,t2⟩:=h.tok i t r J;have hlt:=h.lt;have hp:=fh h.blk;have hg:g<w.heap.size:=by obtain⟨cur,I,_⟩:=h.row;exact fh I
 go_in;go_wp2
 go_region
 go_wp2;exact bodyPost_ret (v:=jY t) (by simp[results,results201,go_sem,jY]) rfl ⟨rfl,gz.drew⟩
theorem pS(h:L.drop i=t::r):t∈L:=List.mem_of_mem_drop (i:=i) za
theorem KV{k:Nat}(h:k<=21):((gM k==111)||(gM k==119))=decide (4<=k):=by
 unfold gM;repeat' split
 all_goals simp_all
 all_goals omega
theorem PS.later{g:Nat}(h:PS w pb g cap L i bad)(I:Below w.heap.size w w'):PS w' pb g cap L i bad:=by
 obtain⟨cur,J,R⟩:=h.row;exact⟨by rw[I.block pb (fh h.blk)];exact h.blk,⟨cur,by rw[I.block g (fh J)];omega,R⟩,h.le,h.capLe,h.len,h.lt,h.ends,h.ok⟩
theorem PS.ne{g:Nat}(h:PS w pb g cap L i bad):g≠pb:=by
 rintro rfl;obtain⟨cur,h1,_⟩:=h.row;have h2:=h.blk;simp_all
theorem fj{ty:Nat}(h:w.heap[b]? =some (xi c ty m))(o:Nat)(v:Value):(w.setCell ⟨b,o,none⟩ v).heap[b]? =some (xi (c.setIfInBounds o v) ty m):=by
 simp[Mx,Array.getElem?_modify,h]
theorem fK(w:World)(b o:Nat)(v:Value):w.grownBy (w.setCell ⟨b,o,none⟩ v) (some b):=
 ⟨rfl,rfl,rfl,zp,fun k _ hk=>Mu _ _ _ _ za⟩
theorem gC(h:Below w.heap.size w w')(row:Option Nat):w.grownBy w' row:=⟨h.os,h.tape,h.output,h.size,fun k I _=>h.block k I⟩
theorem PS.setI{g:Nat}(h:PS w pb g cap L i bad){u:Tk}(J:L.drop i=t::u::r):
  PS (w.setCell ⟨pb,1,none⟩ (xd xh ((i:Int)+1))) pb g cap L (i+1) bad:=by
 obtain⟨cur,h1,R⟩:=h.row;have I:L.drop (i+1)=u::r:=by rw[<-List.drop_drop,J];rfl
 refine⟨?_,⟨cur,by rw[Mu _ _ _ _ h.ne];omega,R⟩,h.le,h.capLe,h.len, ?_, ?_,h.ok⟩
 ·rw[fj h.blk];simp
 ·have:=congrArg My I;simp at this;omega
 rw[I];have:=h.ends;rw[J] at this;exact this.2
theorem PS.setBad{g:Nat}(h:PS w pb g cap L i bad):PS (w.setCell ⟨pb,2,none⟩ (xn true)) pb g cap L i true:=by
 obtain⟨cur,h1,I⟩:=h.row;refine⟨?_,⟨cur,by rw[Mu _ _ _ _ h.ne];omega,I⟩,h.le,h.capLe,h.len,h.lt,h.ends,h.ok⟩;rw[fj h.blk];simp
theorem PS.setOther{g:Nat}(h:PS w pb g cap L i bad)(b o:Nat)(v:Value)(I:b≠pb)(J:b≠g):PS (w.setCell ⟨b,o,none⟩ v) pb g cap L i bad:=by
 obtain⟨cur,r1,R⟩:=h.row;exact⟨by rw[Mu _ _ _ _ (Ne.symm I)];exact h.blk,⟨cur,by rw[Mu _ _ _ _ (Ne.symm J)];omega,R⟩,h.le,h.capLe,h.len,h.lt,h.ends,h.ok⟩
theorem PS.alloc{g:Nat}(h:PS w pb g cap L i bad)(o:Obj):PS (w.alloc o) pb g cap L i bad:=h.later gz
theorem PS.gLt{g:Nat}(h:PS w pb g cap L i bad):g<w.heap.size:=by obtain⟨cur,I,_⟩:=h.row;exact fh I
theorem gy{row:Option Nat}(h:w.grownBy w' row)(hb:w.heap.size<=b)(o:Nat)(v:Value):w.grownBy (w'.setCell ⟨b,o,none⟩ v) row:=
 ⟨h.os,h.tape,h.output,by simpa [Mx] using h.size,fun k I hr=>(Mu _ _ _ _ (by show k≠b;omega)).trans (h.block k I hr)⟩
theorem gI{row:Option Nat}(h:w.grownBy w' row)(o:Obj):w.grownBy (w'.alloc o) row:=h.trans (World.grownBy_alloc _ _ _)
theorem pU{g:Nat}(h:PS w pb g cap L i bad):
  Calls prog 280 #[xk (some ⟨pb,0,none⟩)] w fun e w'=>e=xm (.tuple #[])/\PS w' pb g cap L i true/\w.grownBy w' (some pb):=by
 obtain⟨c0,c1,c2⟩:=h.cells;have hf:=fi h.blk 2;have I:=fa h.setBad;go_in;go_wp2;go_end0;exact⟨rfl,I,fK _ _ _ _⟩
theorem E5{s:ByteArray}(k:Nat){g:Nat}(h:PS w pb g cap L i bad)(ht:L.drop i=t::r)
  (hs:s.data.toList=lB k)(hk:4<=k)(ad:k<=21):
  Calls prog 281 #[xk (some ⟨pb,0,none⟩),xj s] w fun e w'=>e=xm (xn (!bad&&t.k==k))/\Below w.heap.size w w':=by
 have I:=h.ok t (pS ht);have J:(!bad&&(((gM t.k==111)||(gM t.k==119))&&(t.s.toList==s.toList)))=(!bad&&t.k==k):=by
  congr 1
  rw[KV I.1,ByteArray.toList_eq,ByteArray.toList_eq,hs];by_cases h4:4<=t.k
  ·rw[I.2.1 h4];simp only[h4,decide_true,Bool.true_and];rw[Bool.eq_iff_iff];simp only[beq_iff_eq];exact⟨fun e=>AO I.1 ad h4 hk e,fun e=>by rw[e]⟩
  simp only[h4,decide_false,Bool.false_and];symm;rw[beq_eq_false_iff_ne];omega
 have HR:=fa J;have R:=fa h;have HT:=fa ht;go_in
 go_wp2_with (refine(jD R HT).mono ?_)
 rintro e w1 ⟨rfl,hb⟩;simp only[jY];obtain⟨c0,c1,c2⟩:=(R.later hb).cells;have hp1:=fh (R.later hb).blk;have U:=fa hb;cases bad
 ·go_wp2
  all_goals
   go_ret;refine⟨jG ?_,U.alloc U.size _⟩;rw[<-HR.out];simp[*]
 go_wp2;go_ret;exact⟨rfl,U.alloc U.size _⟩
theorem ov(s:ByteArray)(k:Nat)(w:World)(pb g cap:Nat)(L:List Tk)(i:Nat)(t u:Tk)(r:List Tk)(h:PS w pb g cap L i false)(ht:L.drop i=t::u::r)
  (hs:s.data.toList=lB k)(hk:4<=k)(aa:k<=21)(e:t.k=k):
  Calls prog 247 #[xk (some ⟨pb,0,none⟩),xj s] w fun e w'=>e=xm (xn true)/\PS w' pb g cap L (i+1) false/\w.grownBy w' (some pb):=by
 have J:=fa h;have HT:=fa ht;have he:(t.k==k)=true:=by simp[e]
 have hlt:=h.lt;have hlen:=h.len;have R:=fa hs;go_in
 go_wp2_with (refine(E5 k J HT R hk aa).mono ?_)
 rintro e w1 ⟨rfl,U⟩;have I:=fa (J.later U);obtain⟨c0,c1,c2⟩:=I.cells;have hf:=fi I.blk 1;have HB:=fa U;simp only[he,Bool.not_false,Bool.true_and];go_wp2;go_ret;exact⟨rfl,I.setI HT,(gC HB _).trans (fK _ _ _ _)⟩
theorem l6(s:ByteArray)(k:Nat)(w:World)(pb g cap:Nat)(L:List Tk)(i:Nat)(bad:Bool)(t:Tk)(r:List Tk)(h:PS w pb g cap L i bad)(ht:L.drop i=t::r)
  (hs:s.data.toList=lB k)(hk:4<=k)(aa:k<=21)(e:bad=true\/t.k≠k):
  Calls prog 247 #[xk (some ⟨pb,0,none⟩),xj s] w fun e w'=>e=xm (xn false)/\PS w' pb g cap L i bad/\w.grownBy w' (some pb):=by
 have I:=fa h;have HT:=fa ht;have he:(!bad&&t.k==k)=false:=by rcases e with rfl|e<;>simp[*]
 have R:=fa hs;go_in
 go_wp2_with (refine(E5 k I HT R hk aa).mono ?_)
 rintro e w1 ⟨rfl,U⟩;have J:=fa (I.later U);have HB:=fa U;rw[he];go_wp2;go_ret;exact⟨rfl,J,gC HB _⟩
theorem vv(s:ByteArray)(k:Nat)(w:World)(pb g cap:Nat)(L:List Tk)(i:Nat)(t u:Tk)(r:List Tk)(h:PS w pb g cap L i false)(ht:L.drop i=t::u::r)
  (hs:s.data.toList=lB k)(hk:4<=k)(R:k<=21)(e:t.k=k):
  Calls prog 245 #[xk (some ⟨pb,0,none⟩),xj s] w fun e w'=>e=xm (.tuple #[])/\PS w' pb g cap L (i+1) false/\w.grownBy w' (some pb):=by
 have I:=fa h;have HT:=fa ht;have J:=fa hs;have HE:=fa e;go_in
 go_wp2_with (refine(ov _ k _ _ _ _ _ _ _ _ _ I HT J hk R HE).mono ?_)
 rintro e w1 ⟨rfl,U,hg⟩;have HP:=fa U;have HG:=fa hg;go_wp2;go_end0;trivial
theorem xU(s:ByteArray)(k:Nat)(w:World)(pb g cap:Nat)(L:List Tk)(i:Nat)(bad:Bool)(t:Tk)(r:List Tk)(h:PS w pb g cap L i bad)(ht:L.drop i=t::r)
  (hs:s.data.toList=lB k)(hk:4<=k)(ae:k<=21)(e:bad=true\/t.k≠k):
  Calls prog 245 #[xk (some ⟨pb,0,none⟩),xj s] w fun e w'=>e=xm (.tuple #[])/\PS w' pb g cap L i true/\w.grownBy w' (some pb):=by
 have aa:=fa h;have HT:=fa ht;have ad:=fa hs;have HE:=fa e;go_in
 go_wp2_with (refine(l6 _ k _ _ _ _ _ _ _ _ _ aa HT ad hk ae HE).mono ?_)
 rintro e w1 ⟨rfl,hp,hg⟩;have HP:=fa hp;have HG:=fa hg
 go_wp2_with (refine(pU HP).mono ?_)
 rintro e w2 ⟨rfl,J,I⟩;have U:=fa J;have R:=fa I;go_wp2;go_end0;exact⟨rfl,U,HG.trans R⟩
theorem oN(k:Nat):(gM k !=110)= !(k==2):=by
 exact zm139
theorem A7(w:World)(pb g cap:Nat)(L:List Tk)(i:Nat)(t u:Tk)(r:List Tk)(h:PS w pb g cap L i false)(ht:L.drop i=t::u::r)(e:t.k=2):
  Calls prog 246 #[xk (some ⟨pb,0,none⟩)] w fun e w'=>e=xm (jY t)/\PS w' pb g cap L (i+1) false/\w.grownBy w' (some pb):=by
 have J:=fa h;have U:=fa ht;have hp:=fh h.blk;have he:(gM t.k !=110)=false:=by rw[oN];simp[e]
 have hlt:=h.lt;have hlen:=h.len;clear h ht e;go_in
 go_wp2_with (refine(jD (J.later ?b) U).mono ?_)
 case b=>exact gz
 rintro e w1 ⟨rfl,R⟩;simp only[jY];have I:=fa ((J.later ((Mw _ _).alloc (Ms _) (xi #[xd .u8 0,xj ⟨#[]⟩,xd xh 0] 232))).later R);obtain⟨c0,c1,c2⟩:=I.cells;have hf:=fi I.blk 1;have hp1:=fh I.blk;have hz:w.heap.size<w1.heap.size:=by have:=R.size;simp at this;omega
 have hrb:=(R.block _ zp).trans (ft _ _);have r0:=cell_of_blk hrb 0;have r1:=cell_of_blk hrb 1;have r2:=cell_of_blk hrb 2;have f0:=fi hrb 0;have f1:=fi hrb 1;have f2:=fi hrb 2;have HG:=fa (gC (((Mw w.heap.size w).alloc (Ms _) _).trans (R.mono zp)) (some pb));simp at r0 r1 r2;clear R hrb;go_wp2;have hgl:=J.out.gLt;refine bodyPost_ret (v:=jY t) ?_ rfl ⟨rfl, ?_, ?_⟩
 ·simp[results,results246,go_sem,jY,hz,r0,r1,r2]
 ·exact((((I.out.setI U.out).setOther _ _ _ zo zo).setOther _ _ _ zo zo).setOther _ _ _ zo zo).alloc _
 exact gI (gy (gy (gy (HG.out.trans (fK _ _ _ _)) (Ms _) _ _) (Ms _) _ _) (Ms _) _ _) _
theorem JF(w:World)(pb g cap:Nat)(L:List Tk)(i:Nat)(bad:Bool)(t:Tk)(r:List Tk)(h:PS w pb g cap L i bad)(J:L.drop i=t::r)(e:bad=true\/t.k≠2):
  Calls prog 246 #[xk (some ⟨pb,0,none⟩)] w fun e w'=>e=xm (jY t)/\PS w' pb g cap L i true/\w.grownBy w' (some pb):=by
 have HPS:=fa h;have R:=fa J;have he:bad=false->(gM t.k !=110)=true:=by intro I;rcases e with e|e<;>simp_all [oN]
 clear h J e;go_in
 go_wp2_with (refine(jD (HPS.out.later ?b) R.out).mono ?_)
 case b=>exact gz
 rintro e U ⟨rfl,I⟩;simp only[jY];have HPS1:=fa ((HPS.out.later ((Mw _ _).alloc (Ms _) (xi #[xd .u8 0,xj ⟨#[]⟩,xd xh 0] 232))).later I);obtain⟨c0,c1,c2⟩:=HPS1.out.cells;have hp1:=fh HPS1.out.blk;have hz:w.heap.size<U.heap.size:=by have:=I.size;simp at this;omega
 have hrb:=(I.block _ zp).trans (ft _ _);have HG:=fa (gC (((Mw w.heap.size w).alloc (Ms _) _).trans (I.mono zp)) (some pb));have HRB:=fa hrb;have hpne:=fh HPS.out.blk;clear I hrb;cases bad
 ·have he':=he rfl;exact zm26
 exact zm26
def CE:Array Value:= #[xj ⟨#[]⟩,xj ⟨#[116,114,117,101]⟩,xj ⟨#[102,97,108,115,101]⟩,xj ⟨#[101,110,100]⟩,xj ⟨#[33]⟩,xj ⟨#[88]⟩,xj ⟨#[78]⟩,xj ⟨#[70]⟩,xj ⟨#[71]⟩,xj ⟨#[85]⟩,xj ⟨#[38]⟩,xj ⟨#[124]⟩,xj ⟨#[45,62]⟩]
def oY:Array Value:= #[xj ⟨#[97,99,116,115]⟩,xd xh 4,xj ⟨#[114,117,108,101]⟩,xd xh 5,xj ⟨#[116,114,117,101]⟩,xd xh 6,xj ⟨#[102,97,108,115,101]⟩,xd xh 7,xj ⟨#[101,110,100]⟩,xd xh 8]
def rC:Array Value:= #[xj ⟨#[88]⟩,xd xh 9,xj ⟨#[78]⟩,xd xh 10,xj ⟨#[70]⟩,xd xh 11,xj ⟨#[71]⟩,xd xh 12,xj ⟨#[85]⟩,xd xh 13,xj ⟨#[45,62]⟩,xd xh 14,xj ⟨#[124]⟩,xd xh 15,xj ⟨#[38]⟩,xd xh 16,xj ⟨#[33]⟩,xd xh 17,xj ⟨#[40]⟩,xd xh 18,xj ⟨#[41]⟩,xd xh 19,xj ⟨#[44]⟩,xd xh 20,xj ⟨#[59]⟩,xd xh 21]
structure GV (w:World):Prop where
 ws: ∃t m,w.heap[2]? =some (xi oY t m)
 rs: ∃t m,w.heap[1]? =some (xi rC t m)
theorem GV.later(h:GV w)(R:Below w.heap.size w w'):GV w':=by
 obtain⟨⟨t2,U,I⟩,⟨t3,m3,J⟩⟩:=h;exact⟨⟨t2,U,(R.block _ (fh I)).trans I⟩,⟨t3,m3,(R.block _ (fh J)).trans J⟩⟩
theorem GV.alloc(h:GV w)(o:Obj):GV (w.alloc o):=h.later gz
structure GVF (w:World):Prop where
 fs: ∃t m,w.heap[0]? =some (xi CE t m)
 ws: ∃t m,w.heap[2]? =some (xi oY t m)
 rs: ∃t m,w.heap[1]? =some (xi rC t m)
theorem GVF.later(h:GVF w)(I:Below w.heap.size w w'):GVF w':=by
 obtain⟨⟨t1,m1,J⟩,⟨t2,m2,R⟩,⟨t3,m3,U⟩⟩:=h;exact⟨⟨t1,m1,(I.block _ (fh J)).trans J⟩,⟨t2,m2,(I.block _ (fh R)).trans R⟩,⟨t3,m3,(I.block _ (fh U)).trans U⟩⟩
theorem GVF.alloc(h:GVF w)(o:Obj):GVF (w.alloc o):=h.later gz
theorem GVF.g(h:GVF w):GV w:=⟨h.ws,h.rs⟩
def jP(k:Nat):Int:=if k=0 then 97 else if k=1 then 116 else if k=2 then 102 else if k=3 then 101 else if k=4 then 33 else if k=5 then 88 else if k=6 then 78 else if k=7 then 70 else if k=8 then 71 else if k=9 then 85 else if k=10 then 38 else if k=11 then 124 else 62
def IsF(w:World):Fm->Option Addr->Prop
 | .nil,p=>p=none
 | .node _ _ a l r,p=> ∃b pl pr,p=some ⟨b,0,none⟩/\w.heap[b]? =some (xi #[xd .u8 (jP a.1),xj a.2.1,xd xh a.2.2,xk pl,xk pr] 292 (0,0))/\IsF w l pl/\IsF w r pr
theorem IsF.keep{row:Option Nat}(hg:w.grownBy w' row)(hr: ∀k c m,row=some k->w.heap[k]? ≠some (xi c 292 m)): ∀{f:Fm} {v:Option Addr},IsF w f v->IsF w' f v
 | .nil,_,h=>h
 | .node _ _ _ _ _,_,⟨b,vl,vr,hv,hb,hl,hr'⟩=>⟨b,vl,vr,hv,(hg.block b (fh hb) (fun e=>hr b _ _ e.symm hb)).trans hb,IsF.keep hg hr hl,IsF.keep hg hr hr'⟩
theorem IsF.keepP{g:Nat}(h:PS w pb g cap L i bad)(hg:w.grownBy w' (some pb))(hf:IsF w f v):IsF w' f v:=
 hf.keep hg (fun k c m e=>by cases e;rw[h.blk];simp)
theorem IsF.later(I:Below w.heap.size w w')(hf:IsF w f v):IsF w' f v:=
 hf.keep (gC I none) (fun k c m e=>by cases e)
theorem j8(k:Nat){c:Int}{g:Fm}(hf:IsF w f vf)(hg:IsF w g vg)(hc:c=jP k):
  Calls prog 252 #[xd .u8 c,xk vf,xk vg] w fun e w'=> ∃v,e=xm (xk v)/\IsF w' (two k f g) v/\Below w.heap.size w w':=by
 subst hc;have J:=fa hf;have R:=fa hg;go_in;go_wp2;go_ret;have I:=iz w (xi #[xd .u8 (jP k),xj ⟨#[]⟩,xd xh 0,xk vf,xk vg] 292);exact⟨_,rfl,⟨w.heap.size,vf,vg,rfl,ft _ _,J.later I,R.later I⟩,I⟩
def Left(L:List Tk)(pb g cap:Nat)(w w':World)(e:Ending)(x:Rd):Prop:=
 w.grownBy w' (some pb)/\ ∃p,e=xm (xk p)/\(match x with
  | .ok (f,l)=>IsF w' f p/\ ∃i,L.drop i=l/\PS w' pb g cap L i false
  | .error q=> ∃i,gQ (L.drop i)=q/\PS w' pb g cap L i true)
theorem jn(h:i<L.length): ∃t r,L.drop i=t::r:=by
 cases hd:L.drop i with
 |nil=>have:=congrArg My hd;simp at this;omega
 |cons t r=>simp
def jd(k:Nat)(inside more y u v u' x:Bool):Bool:=
 if k=0 then inside&&y else if k=1 then true else if k=2 then false else if k=3 then !inside else if k=4 then !u
 else if k=5 then more&&u' else if k=6 then !more||u' else if k=7 then inside&&(u||x) else if k=8 then !inside||(u&&x)
 else if k=9 then inside&&(v||(u&&x)) else if k=10 then u&&v else if k=11 then u||v else !u||v
theorem ss(s:ByteArray)(i:Nat)(hs:s.size<=maxLen)(hi:i<=s.size):Calls prog 151 #[xj s,xd xh i] w fun e w'=>e=xm (xd xh (gP gZ s i:Nat))/\w'=w:=by
 unfold maxLen at hs;go_in;go_wp2
 go_loop [1] (fun x=> ∃k:Nat,k<=s.size/\x=xd xh k/\Hid (gP gZ s i=gP gZ s k)) (fun x=>s.size - (intOf x).toNat)
 ·exact⟨i,hi,rfl,rfl⟩
 obtain⟨k,hk,rfl,H⟩:=hrel;by_cases hlt:k<s.size
 ·by_cases hb:gZ s[k]=true
  ·have I:=fa hb;go_wp2
   all_goals first
    |(go_round;(case rel=>exact⟨k+1,zo,zf,H.trans (ny gZ s k hlt I)⟩);simp[intOf];omega)
    |(exfalso;have J:(((s[k].toNat:Int)==32)=false/\((s[k].toNat:Int)==9)=false)/\((s[k].toNat:Int)==10)=false:=zo;have:=I.out;simp only[gZ,Bool.or_eq_true,beq_iff_eq,beq_eq_false_iff_ne] at this J;omega)
  have hb':gZ s[k]=false:=za;have h32:((s[k].toNat:Int)==32)=false:=by
   exact zm45
  have h9:((s[k].toNat:Int)==9)=false:=by
   exact zm45
  have h10:((s[k].toNat:Int)==10)=false:=by
   exact zm45
  have HE:=fa (H.trans (pN gZ s k hlt hb'));exact zm75
 have HE:=fa (H.trans (sn gZ s k zo));exact zm75
theorem qZ(s:ByteArray)(w:World)(hs:s.size<=maxLen):
  Calls prog 170 #[xj s] w fun e w'=>e=xm (xd xh (gP isLet s 0:Nat))/\w'=w:=by
 unfold maxLen at hs;go_in;go_wp2
 go_loop [3] (fun x=> ∃k:Nat,k<=s.size/\x=xd xh k/\Hid (gP isLet s 0=gP isLet s k)) (fun x=>s.size - (intOf x).toNat)
 ·exact zm77
 obtain⟨k,hk,rfl,H⟩:=hrel;by_cases hlt:k<s.size
 ·by_cases h1:(97:Int)<=(s[k].toNat:Int)
  ·by_cases h2:(s[k].toNat:Int)<=122
   ·go_wp2
    go_round
    ·exact⟨k+1,zo,zf,H.trans (ny isLet s k hlt (by simp[isLet];omega))⟩
    simp[intOf];omega
   have HE:=fa (H.trans (pN isLet s k hlt (by simp[isLet];omega)));exact zm75
  have HE:=fa (H.trans (pN isLet s k hlt (by simp[isLet];omega)));exact zm75
 have HE:=fa (H.trans (sn isLet s k zo));exact zm75
theorem ux(s p:ByteArray):
  Calls prog 224 #[xj s,xj p] w fun e w'=>e=xm (xn (s.toList.take p.size==p.toList))/\w'=w:=by
 by_cases h:p.size<=s.size
 ·have e:(s.extract 0 p.size).toList=s.toList.take p.size:=by
   rw[ByteArray.toList_eq,ByteArray.toList_eq,Mz];simp
  go_in;go_wp2;go_ret;exact⟨by simp[e],rfl⟩
 have e:¬ s.toList.take p.size=p.toList:=by
  intro e;have:=congrArg My e;rw[ByteArray.toList_eq,ByteArray.toList_eq] at this;simp[] at this;omega
 go_in;go_wp2;go_ret;exact⟨by simp[e],rfl⟩
theorem zD{s p:ByteArray}:
  Calls prog 190 #[xj s,xj p] w fun e w'=>e=xm (xn (s.toList.take p.size==p.toList))/\w'=w:=by
 go_in;go_wp2_with fail;refine(ux s p).mono ?_;rintro e w' ⟨rfl,rfl⟩;go_wp2;go_ret;simp
theorem I1(a b:Nat)(ha:a<4294967296)(hb:b<4294967296):bits .and .u32 (a:Int) (b:Int)=((a&&&b:Nat):Int):=by
 have hx:a&&&b<2^32:=Nat.and_lt_two_pow _ zo;have I:(BitVec.ofInt 32 (a:Int)).toNat=a:=by
  simp_all
 have J:(BitVec.ofInt 32 (b:Int)).toNat=b:=by
  simp_all
 show IntKind.u32.wrap ((BitVec.ofInt 32 (a:Int)&&&BitVec.ofInt 32 (b:Int)).toNat:Int)=_;rw[BitVec.toNat_and,I,J,IntKind.wrap_u32];omega
theorem L9(a b:Nat)(ha:a<4294967296)(hb:b<4294967296):bits .or .u32 (a:Int) (b:Int)=((a|||b:Nat):Int):=by
 have hx:a|||b<2^32:=Nat.or_lt_two_pow zo zo;have I:(BitVec.ofInt 32 (a:Int)).toNat=a:=by
  simp_all
 have J:(BitVec.ofInt 32 (b:Int)).toNat=b:=by
  simp_all
 show IntKind.u32.wrap ((BitVec.ofInt 32 (a:Int)|||BitVec.ofInt 32 (b:Int)).toNat:Int)=_;rw[BitVec.toNat_or,I,J,IntKind.wrap_u32];omega
theorem Lk(p i:Nat)(J:p<4294967296):(bits BinOp.and IntKind.u32 ((p:Int) / 2^i) 1==1)=p.testBit i:=by
 have e:(p:Int) / 2^i=((p / 2^i:Nat):Int):=zf;have I:p / 2^i<4294967296:=Nat.lt_of_le_of_lt (Nat.div_le_self _ _) J;rw[e];have h:=I1 (p / 2^i) 1 I zp;rw[show((1:Nat):Int)=1 from rfl] at h;rw[h,Nat.and_one_is_mod,Nat.testBit_eq_decide_div_mod_eq];by_cases hb:p / 2^i%2=1
 ·simp_all
 simp_all
theorem gX(p i:Nat)(J:p<4294967296)(hi:i<=31){b:Bool}(I:p.testBit i=b)(w:World):
  Calls prog 168 #[xd .u32 (p:Int),xd xh (i:Int)] w fun e w'=>e=xm (xn b)/\w'=w:=by
 go_in;go_wp2;go_ret;exact⟨jG ((Lk p i J).trans I),rfl⟩
theorem BI{c:Int}:
  Calls prog 252 #[xd .u8 c,xk vf,xk vg] w fun e w'=> ∃v,e=xm (xk v)/\Below w.heap.size w w':=by
 go_in;go_wp2;go_ret;exact⟨_,rfl,gz⟩
theorem km{l:List Tk}(h:Ends l){k:Nat}(hk:2<=k)(e:gu l=k): ∃t u r,l=t::u::r/\t.k=k:=by
 match l,h with
 |[t],h=>exact absurd (show t.k<=1 from h) (by have:t.k=k:=e;omega)
 |t::u::r,_=>exact⟨t,u,r,rfl,e⟩
theorem lD{l:List Tk}(h:Ends l){k:Nat}(e:gu l≠k): ∃t r,l=t::r/\t.k≠k:=by
 match l,h with
 |t::r,_=>exact⟨t,r,rfl,e⟩
def SU(n:Nat):Prop:= ∀(w:World) (pb g cap:Nat) (L:List Tk) (i:Nat),PS w pb g cap L i false->6 * (L.drop i).length+1<=n->
 Calls prog 297 #[xk (some ⟨pb,0,none⟩)] w fun e w'=>Left L pb g cap w w' e (pf n 4 .nil (L.drop i))
def ST(n:Nat):Prop:= ∀(w:World) (pb g cap:Nat) (L:List Tk) (i:Nat),PS w pb g cap L i false->6 * (L.drop i).length+2<=n->
 Calls prog 296 #[xk (some ⟨pb,0,none⟩)] w fun e w'=>Left L pb g cap w w' e (pf n 3 .nil (L.drop i))
def SA(n:Nat):Prop:= ∀(w:World) (pb g cap:Nat) (L:List Tk) (i:Nat),PS w pb g cap L i false->6 * (L.drop i).length+3<=n->
 Calls prog 291 #[xk (some ⟨pb,0,none⟩)] w fun e w'=>Left L pb g cap w w' e (pf n 2 .nil (L.drop i))
def SO(n:Nat):Prop:= ∀(w:World) (pb g cap:Nat) (L:List Tk) (i:Nat),PS w pb g cap L i false->6 * (L.drop i).length+4<=n->
 Calls prog 289 #[xk (some ⟨pb,0,none⟩)] w fun e w'=>Left L pb g cap w w' e (pf n 1 .nil (L.drop i))
def SF(n:Nat):Prop:= ∀(w:World) (pb g cap:Nat) (L:List Tk) (i:Nat),PS w pb g cap L i false->6 * (L.drop i).length+5<=n->
 Calls prog 282 #[xk (some ⟨pb,0,none⟩)] w fun e w'=>Left L pb g cap w w' e (pf n 0 .nil (L.drop i))
theorem drop_tail(h:L.drop i=t::r):L.drop (i+1)=r:=by rw[<-List.drop_drop,h];rfl
theorem Eb(n:Nat)(hU:SU n):ST (n+1):=by
 intro w pb g cap L i h hn;have HU:=fa hU;have HP:=fa h;go_in
 go_wp2_with (refine(HU _ _ _ _ _ _ HP zo).mono ?_)
 rintro e w1 ⟨R,p,rfl,hx⟩;have HG1:=fa R;cases hpf:pf n 4 .nil (L.drop i) with
 |error q=>
  have HX:Hid (pf (n+1) 3 .nil (L.drop i)= .error q):=by show _=_;rw[pf,hpf]
  rw[hpf] at hx;obtain⟨i1,aj,I⟩:=hx;obtain⟨t,r,ht⟩:=jn I.lt;have HP1:=fa I;have HQ:=fa aj;have HT:=fa ht
  go_wp2_with (refine(l6 _ 13 _ _ _ _ _ _ _ _ _ HP1 HT rfl zp zp (MC rfl)).mono ?_)
  exact zm113
 |ok x=>
  obtain⟨a,l1⟩:=x;have U:=ju _ _ _ _ _ _ hpf;rw[hpf] at hx;obtain⟨J,i1,ar,I⟩:=hx;subst ar;by_cases h13:gu (L.drop i1)=13
  ·obtain⟨t,u,r,ht,hk⟩:=km I.ends zp h13;have ht2:=drop_tail ht;have hX:pf (n+1) 3 .nil (L.drop i)=(match pf n 4 .nil (L.drop (i1+1)) with| .error q=> .error q| .ok (b,l2)=> .ok (two 9 a b,l2)):=by
    exact zm123
   have HX:=fa hX;have aa:6 * (L.drop (i1+1)).length+1<=n:=by rw[ht2];rw[ht] at U;simp only[Mt] at U|-;omega
   have HL:=fa aa;have HF1:=fa J;have HP1:=fa I;have HT:=fa ht;have HK:=fa hk
   go_wp2_with (refine(ov _ 13 _ _ _ _ _ _ _ _ _ HP1 HT rfl zp zp HK).mono ?_)
   rintro e w2 ⟨rfl,hp2,hg2⟩;have HP2:=fa hp2;have HG2:=fa hg2
   go_wp2_with (refine(HU _ _ _ _ _ _ HP2 HL).mono ?_)
   rintro e w3 ⟨hg3,p3,rfl,hx3⟩;have an:=fa ((HF1.keepP HP1 HG2).keepP HP2 hg3);cases hpf3:pf n 4 .nil (L.drop (i1+1)) with
   |error q=>
    rw[hpf3] at hx3;have HX3:Hid (pf (n+1) 3 .nil (L.drop i)= .error q):=by show _=_;rw[HX.out,hpf3]
    exact zm46
   |ok x=>
    obtain⟨b,l2⟩:=x;rw[hpf3] at hx3;have HX3:Hid (pf (n+1) 3 .nil (L.drop i)= .ok (two 9 a b,l2)):=by show _=_;rw[HX.out,hpf3]
    obtain⟨ae,i3,ai,hp3⟩:=hx3;have HP3:=fa hp3;have HQ3:=fa ai;have HG3:=fa hg3;have ao:=fa ae
    go_wp2_with (refine(j8 9 an ao rfl).mono ?_)
    exact zm69
  obtain⟨t,r,ht,hk⟩:=lD I.ends h13;have HX:Hid (pf (n+1) 3 .nil (L.drop i)= .ok (a,L.drop i1)):=by show _=_;rw[pf,hpf];simp_all
  have HF1:=fa J;have HP1:=fa I;have HT:=fa ht;have HK:=fa hk
  go_wp2_with (refine(l6 _ 13 _ _ _ _ _ _ _ _ _ HP1 HT rfl zp zp (MD HK)).mono ?_)
  exact zm92
theorem AH(n:Nat)(hO:SO n)(hF:SF n):SF (n+1):=by
 intro w pb g cap L i h hn;have HO:=fa hO;have aq:=fa hF;have HP:=fa h;go_in
 go_wp2_with (refine(HO _ _ _ _ _ _ HP zo).mono ?_)
 rintro e w1 ⟨R,p,rfl,hx⟩;have HG1:=fa R;cases hpf:pf n 1 .nil (L.drop i) with
 |error q=>
  have HX:Hid (pf (n+1) 0 .nil (L.drop i)= .error q):=by show _=_;rw[pf,hpf]
  rw[hpf] at hx;obtain⟨i1,aj,I⟩:=hx;obtain⟨t,r,ht⟩:=jn I.lt;have HP1:=fa I;have HQ:=fa aj;have HT:=fa ht
  go_wp2_with (refine(l6 _ 14 _ _ _ _ _ _ _ _ _ HP1 HT rfl zp zp (MC rfl)).mono ?_)
  exact zm113
 |ok x=>
  obtain⟨a,l1⟩:=x;have U:=ju _ _ _ _ _ _ hpf;rw[hpf] at hx;obtain⟨J,i1,au,I⟩:=hx;subst au;by_cases h13:gu (L.drop i1)=14
  ·obtain⟨t,u,r,ht,hk⟩:=km I.ends zp h13;have ht2:=drop_tail ht;have hX:pf (n+1) 0 .nil (L.drop i)=(match pf n 0 .nil (L.drop (i1+1)) with| .error q=> .error q| .ok (b,l2)=> .ok (two 12 a b,l2)):=by
    exact zm123
   have HX:=fa hX;have aa:6 * (L.drop (i1+1)).length+5<=n:=by rw[ht2];rw[ht] at U;simp only[Mt] at U|-;omega
   have HL:=fa aa;have HF1:=fa J;have HP1:=fa I;have HT:=fa ht;have HK:=fa hk
   go_wp2_with (refine(ov _ 14 _ _ _ _ _ _ _ _ _ HP1 HT rfl zp zp HK).mono ?_)
   rintro e w2 ⟨rfl,hp2,hg2⟩;have HP2:=fa hp2;have HG2:=fa hg2
   go_wp2_with (refine(aq _ _ _ _ _ _ HP2 HL).mono ?_)
   rintro e w3 ⟨hg3,p3,rfl,hx3⟩;have an:=fa ((HF1.keepP HP1 HG2).keepP HP2 hg3);cases hpf3:pf n 0 .nil (L.drop (i1+1)) with
   |error q=>
    rw[hpf3] at hx3;have HX3:Hid (pf (n+1) 0 .nil (L.drop i)= .error q):=by show _=_;rw[HX.out,hpf3]
    exact zm46
   |ok x=>
    obtain⟨b,l2⟩:=x;rw[hpf3] at hx3;have HX3:Hid (pf (n+1) 0 .nil (L.drop i)= .ok (two 12 a b,l2)):=by show _=_;rw[HX.out,hpf3]
    obtain⟨ae,i3,ai,hp3⟩:=hx3;have HP3:=fa hp3;have HQ3:=fa ai;have HG3:=fa hg3;have ao:=fa ae
    go_wp2_with (refine(j8 12 an ao rfl).mono ?_)
    exact zm69
  obtain⟨t,r,ht,hk⟩:=lD I.ends h13;have HX:Hid (pf (n+1) 0 .nil (L.drop i)= .ok (a,L.drop i1)):=by show _=_;rw[pf,hpf];simp_all
  have HF1:=fa J;have HP1:=fa I;have HT:=fa ht;have HK:=fa hk
  go_wp2_with (refine(l6 _ 14 _ _ _ _ _ _ _ _ _ HP1 HT rfl zp zp (MD HK)).mono ?_)
  exact zm92
theorem Gn(n:Nat)(hU: ∀m,m<=n->ST m):SA (n+1):=by
 intro w pb g cap L i h hn;have HU:=fa hU;have HP:=fa h;go_in
 go_wp2_with (refine(HU n (Ms _) _ _ _ _ _ _ HP zo).mono ?_)
 rintro e w1 ⟨aj,p,rfl,hx⟩;have I: ∃pa,(xk p=xk pa)/\w.grownBy w1 (some pb)/\
   ((∃acc j,n<=n/\6 * (L.drop j).length+1<=n/\IsF w1 acc pa/\PS w1 pb g cap L j false/\Hid (pf (n+1) 2 .nil (L.drop i)=pf n 6 acc (L.drop j)))\/(∃j,PS w1 pb g cap L j true/\Hid (pf (n+1) 2 .nil (L.drop i)= .error (gQ (L.drop j))))):=by
  refine⟨p,rfl,aj, ?_⟩;cases hpf:pf n 3 .nil (L.drop i) with
  |error q=>
   exact zm175
  |ok x=>
   exact zm90
 have HS:=fa I;go_wp2
 go_loopg [3] n (fun m v wr=> ∃pa,v=xk pa/\w.grownBy wr (some pb)/\
   ((∃acc j,m<=n/\6 * (L.drop j).length+1<=m/\IsF wr acc pa/\PS wr pb g cap L j false/\Hid (pf (n+1) 2 .nil (L.drop i)=pf m 6 acc (L.drop j)))\/(∃j,PS wr pb g cap L j true/\Hid (pf (n+1) 2 .nil (L.drop i)= .error (gQ (L.drop j))))))
 ·trivial
 obtain⟨pa,rfl,ak,U⟩:=hrel;have HGJ:=fa ak;rcases U with⟨acc,j,hm,hmj,hfa,hpj,hxj⟩|⟨j,hpj,hxj⟩
 ·obtain⟨m,rfl⟩: ∃m,gk=m+1:=⟨gk - 1,zo⟩;by_cases h16:gu (L.drop j)=16
  ·obtain⟨t,u,r,ht,hk⟩:=km hpj.ends zp h16;have ht2:=drop_tail ht;have HXJ:Hid (pf (n+1) 2 .nil (L.drop i)=(match pf m 3 .nil (L.drop (j+1)) with| .error q=> .error q| .ok (b,l2)=>pf m 6 (two 10 acc b) l2)):=by
    exact zm93
   have R:6 * (L.drop (j+1)).length+2<=m:=by rw[ht2];rw[ht] at hmj;simp only[Mt] at hmj|-;omega
   have HL:=fa R;have HFA:=fa hfa;have HPJ:=fa hpj;have HT:=fa ht;have HK:=fa hk
   go_wp2_with (refine(ov _ 16 _ _ _ _ _ _ _ _ _ HPJ HT rfl zp zp HK).mono ?_)
   rintro e w2 ⟨rfl,hp2,hg2⟩;have HP2:=fa hp2;have HG2:=fa hg2
   go_wp2_with (refine(HU m zo _ _ _ _ _ _ HP2 HL).mono ?_)
   rintro e w3 ⟨aa,p3,rfl,J⟩;have aq:=fa ((HFA.keepP HPJ HG2).keepP HP2 aa);have HG3:=fa aa;cases hpf3:pf m 3 .nil (L.drop (j+1)) with
   |error q=>
    rw[hpf3] at J;obtain⟨i3,hq3,hp3⟩:=J;have HX3:Hid (pf (n+1) 2 .nil (L.drop i)= .error (gQ (L.drop i3))):=by show _=_;rw[HXJ.out,hpf3,hq3]
    exact zm54
   |ok x=>
    obtain⟨b,l2⟩:=x;have ad:=ju _ _ _ _ _ _ hpf3;rw[hpf3] at J;obtain⟨ai,i3,hl3,hp3⟩:=J;subst hl3;have HX3:Hid (pf (n+1) 2 .nil (L.drop i)=pf m 6 (two 10 acc b) (L.drop i3)):=by show _=_;rw[HXJ.out,hpf3]
    have HP3:=fa hp3;have ar:=fa ai;have hl3:6 * (L.drop i3).length+1<=m:=by have:=HL.out;omega
    go_wp2_with (refine(j8 10 aq ar rfl).mono ?_)
    exact zm62
  obtain⟨t,r,ht,hk⟩:=lD hpj.ends h16;have HX:Hid (pf (n+1) 2 .nil (L.drop i)= .ok (acc,L.drop j)):=by show _=_;rw[hxj.out,pf];simp only[h16,if_false]
  have HFA:=fa hfa;have HPJ:=fa hpj;have HT:=fa ht;have HK:=fa hk
  go_wp2_with (refine(l6 _ 16 _ _ _ _ _ _ _ _ _ HPJ HT rfl zp zp (MD HK)).mono ?_)
  exact zm94
 obtain⟨t,r,ht⟩:=jn hpj.lt;have HPJ:=fa hpj;have HT:=fa ht;have HXJ:=fa hxj
 go_wp2_with (refine(l6 _ 16 _ _ _ _ _ _ _ _ _ HPJ HT rfl zp zp (MC rfl)).mono ?_)
 exact zm119
theorem JN(n:Nat)(hU: ∀m,m<=n->SA m):SO (n+1):=by
 intro w pb g cap L i h hn;have HU:=fa hU;have HP:=fa h;go_in
 go_wp2_with (refine(HU n (Ms _) _ _ _ _ _ _ HP zo).mono ?_)
 rintro e w1 ⟨aj,p,rfl,hx⟩;have I: ∃pa,(xk p=xk pa)/\w.grownBy w1 (some pb)/\
   ((∃acc j,n<=n/\6 * (L.drop j).length+1<=n/\IsF w1 acc pa/\PS w1 pb g cap L j false/\Hid (pf (n+1) 1 .nil (L.drop i)=pf n 5 acc (L.drop j)))\/(∃j,PS w1 pb g cap L j true/\Hid (pf (n+1) 1 .nil (L.drop i)= .error (gQ (L.drop j))))):=by
  refine⟨p,rfl,aj, ?_⟩;cases hpf:pf n 2 .nil (L.drop i) with
  |error q=>
   exact zm175
  |ok x=>
   exact zm90
 have HS:=fa I;go_wp2
 go_loopg [3] n (fun m v wr=> ∃pa,v=xk pa/\w.grownBy wr (some pb)/\
   ((∃acc j,m<=n/\6 * (L.drop j).length+1<=m/\IsF wr acc pa/\PS wr pb g cap L j false/\Hid (pf (n+1) 1 .nil (L.drop i)=pf m 5 acc (L.drop j)))\/(∃j,PS wr pb g cap L j true/\Hid (pf (n+1) 1 .nil (L.drop i)= .error (gQ (L.drop j))))))
 ·trivial
 obtain⟨pa,rfl,ak,U⟩:=hrel;have HGJ:=fa ak;rcases U with⟨acc,j,hm,hmj,hfa,hpj,hxj⟩|⟨j,hpj,hxj⟩
 ·obtain⟨m,rfl⟩: ∃m,gk=m+1:=⟨gk - 1,zo⟩;by_cases h16:gu (L.drop j)=15
  ·obtain⟨t,u,r,ht,hk⟩:=km hpj.ends zp h16;have ht2:=drop_tail ht;have HXJ:Hid (pf (n+1) 1 .nil (L.drop i)=(match pf m 2 .nil (L.drop (j+1)) with| .error q=> .error q| .ok (b,l2)=>pf m 5 (two 11 acc b) l2)):=by
    exact zm93
   have R:6 * (L.drop (j+1)).length+3<=m:=by rw[ht2];rw[ht] at hmj;simp only[Mt] at hmj|-;omega
   have HL:=fa R;have HFA:=fa hfa;have HPJ:=fa hpj;have HT:=fa ht;have HK:=fa hk
   go_wp2_with (refine(ov _ 15 _ _ _ _ _ _ _ _ _ HPJ HT rfl zp zp HK).mono ?_)
   rintro e w2 ⟨rfl,hp2,hg2⟩;have HP2:=fa hp2;have HG2:=fa hg2
   go_wp2_with (refine(HU m zo _ _ _ _ _ _ HP2 HL).mono ?_)
   rintro e w3 ⟨aa,p3,rfl,J⟩;have aq:=fa ((HFA.keepP HPJ HG2).keepP HP2 aa);have HG3:=fa aa;cases hpf3:pf m 2 .nil (L.drop (j+1)) with
   |error q=>
    rw[hpf3] at J;obtain⟨i3,hq3,hp3⟩:=J;have HX3:Hid (pf (n+1) 1 .nil (L.drop i)= .error (gQ (L.drop i3))):=by show _=_;rw[HXJ.out,hpf3,hq3]
    exact zm54
   |ok x=>
    obtain⟨b,l2⟩:=x;have ad:=ju _ _ _ _ _ _ hpf3;rw[hpf3] at J;obtain⟨ai,i3,hl3,hp3⟩:=J;subst hl3;have HX3:Hid (pf (n+1) 1 .nil (L.drop i)=pf m 5 (two 11 acc b) (L.drop i3)):=by show _=_;rw[HXJ.out,hpf3]
    have HP3:=fa hp3;have ar:=fa ai;have hl3:6 * (L.drop i3).length+1<=m:=by have:=HL.out;omega
    go_wp2_with (refine(j8 11 aq ar rfl).mono ?_)
    exact zm62
  obtain⟨t,r,ht,hk⟩:=lD hpj.ends h16;have HX:Hid (pf (n+1) 1 .nil (L.drop i)= .ok (acc,L.drop j)):=by show _=_;rw[hxj.out,pf];simp only[h16,if_false]
  have HFA:=fa hfa;have HPJ:=fa hpj;have HT:=fa ht;have HK:=fa hk
  go_wp2_with (refine(l6 _ 15 _ _ _ _ _ _ _ _ _ HPJ HT rfl zp zp (MD HK)).mono ?_)
  exact zm94
 obtain⟨t,r,ht⟩:=jn hpj.lt;have HPJ:=fa hpj;have HT:=fa ht;have HXJ:=fa hxj
 go_wp2_with (refine(l6 _ 15 _ _ _ _ _ _ _ _ _ HPJ HT rfl zp zp (MC rfl)).mono ?_)
 exact zm119
def Hr:ByteArray:=⟨#[33,88,78,70,71]⟩
theorem fk(w:World)(o:Obj)(n:Nat)(h:n=w.heap.size):(w.alloc o).heap[n]? =some o:=by rw[h];exact ft w o
theorem tY{s:ByteArray}{c:UInt8}(b:Bool)(hs:s.size<=maxLen)(h:lC s.data.toList c=b):
  Calls prog 279 #[xj s,xd .u8 (c.toNat:Int)] w fun e w'=>e=xm (xn b)/\w'=w:=by
 rw[<-h];exact xG s c w hs
theorem qN(n:Nat)(w:World)(pb g cap:Nat)(L:List Tk)(i k q:Nat)(s:ByteArray)(h:PS w pb g cap L i false)(ht:L.drop i=⟨k,s,q⟩::r)
  (h1:(gM k==111)=false)(h2:(gM k==110)=false)(h3:(gM k==119)=false)(hx:pf n 4 .nil (L.drop i)= .error q):
  Calls prog 297 #[xk (some ⟨pb,0,none⟩)] w fun e w'=>Left L pb g cap w w' e (pf n 4 .nil (L.drop i)):=by
 exact zm22
theorem l7(n:Nat)(w:World)(pb g cap:Nat)(L:List Tk)(i k q:Nat)(c:UInt8)(h:PS w pb g cap L i false)(ht:L.drop i=⟨k,⟨#[c]⟩,q⟩::r)
  (h1:(gM k==111)=true)(h2:(gM k==110)=false)(h3:(gM k==119)=false)(hc:lC Hr.data.toList c=false)(h40:([c]==[40])=false)(hx:pf n 4 .nil (L.drop i)= .error q):
  Calls prog 297 #[xk (some ⟨pb,0,none⟩)] w fun e w'=>Left L pb g cap w w' e (pf n 4 .nil (L.drop i)):=by
 rw[hx];have HT:=fa ht;have HP:=fa h;have HC:=fa hc;obtain⟨c0,c1,c2⟩:=h.cells;go_in
 go_wp2_with (go_at_call 201;refine(jD HP HT).mono ?_)
 rintro e w1 ⟨rfl,hb⟩;have U:=fa (HP.later hb);have HB:=fa hb;simp only[jY]
 go_wp2_with (first|(go_at_call 279;refine(tY false zd HC).mono ?_;rintro e w' ⟨rfl,rfl⟩)|(go_at_call 280;refine(pU (U.alloc _)).mono ?_))
 rintro e w2 ⟨rfl,J,I⟩;have aa:=fa J;have R:=fa I;go_wp2;go_ret;refine⟨gI ((gI (gC HB _) _).trans R) _,_,rfl,i, ?_,aa.alloc _⟩;rw[HT.out];rfl
theorem Cv(n:Nat)(w:World)(pb g cap:Nat)(L:List Tk)(i k q:Nat)(h:PS w pb g cap L i false)(ht:L.drop i=⟨k,⟨#[45,62]⟩,q⟩::r)
  (h1:(gM k==111)=true)(h2:(gM k==110)=false)(h3:(gM k==119)=false)(hx:pf n 4 .nil (L.drop i)= .error q):
  Calls prog 297 #[xk (some ⟨pb,0,none⟩)] w fun e w'=>Left L pb g cap w w' e (pf n 4 .nil (L.drop i)):=by
 exact zm22
theorem uV(n:Nat)(w:World)(pb g cap:Nat)(L:List Tk)(i k q:Nat){s:ByteArray}(h:PS w pb g cap L i false)(ht:L.drop i=⟨k,s,q⟩::r)
  (h1:(gM k==111)=false)(h2:(gM k==110)=false)(h3:(gM k==119)=true)(h6:(s.toList==[116,114,117,101])=false)(h7:(s.toList==[102,97,108,115,101])=false)(h8:(s.toList==[101,110,100])=false)(hx:pf n 4 .nil (L.drop i)= .error q):
  Calls prog 297 #[xk (some ⟨pb,0,none⟩)] w fun e w'=>Left L pb g cap w w' e (pf n 4 .nil (L.drop i)):=by
 exact zm22
theorem D9(n:Nat)(w:World)(pb g cap:Nat)(L:List Tk)(i k q:Nat)(s:ByteArray)(u:Tk)(r:List Tk)(h:PS w pb g cap L i false)(ht:L.drop i=⟨k,s,q⟩::u::r)
  (h1:(gM k==111)=false)(h2:(gM k==110)=true)(hx:pf n 4 .nil (L.drop i)= .ok (leaf 0 s q,u::r)):
  Calls prog 297 #[xk (some ⟨pb,0,none⟩)] w fun e w'=>Left L pb g cap w w' e (pf n 4 .nil (L.drop i)):=by
 rw[hx];have J:=fa ht;have U:=fa h;have hlt:=h.lt;have hlen:=h.len;obtain⟨c0,c1,c2⟩:=h.cells;go_in
 go_wp2_with (refine(jD U J).mono ?_)
 rintro e w1 ⟨rfl,R⟩;have I:=fa (U.later R);have HB:=fa R;simp only[jY];obtain⟨c0,c1,c2⟩:=I.cells;have hf:=fi I.blk 1;have hp1:=fh I.blk;go_wp2;go_ret;exact⟨gI (gI ((gC HB _).trans (fK _ _ _ _)) _) _,_,rfl,⟨w1.heap.size+1,none,none,rfl,fk _ _ _ zp,rfl,rfl⟩,i+1,drop_tail J,((I.setI J).alloc _).alloc _⟩
theorem IU(n:Nat)(w:World)(pb g cap:Nat)(L:List Tk)(i q:Nat)(u:Tk)(r:List Tk)(h:PS w pb g cap L i false)(ht:L.drop i=⟨6,⟨#[116,114,117,101]⟩,q⟩::u::r)
  (hx:pf n 4 .nil (L.drop i)= .ok (leaf 1 ByteArray.empty 0,u::r)):
  Calls prog 297 #[xk (some ⟨pb,0,none⟩)] w fun e w'=>Left L pb g cap w w' e (pf n 4 .nil (L.drop i)):=by
 have hr:gM 6=119:=rfl;exact zm18
theorem IV(n:Nat)(w:World)(pb g cap:Nat)(L:List Tk)(i q:Nat)(u:Tk)(r:List Tk)(h:PS w pb g cap L i false)(ht:L.drop i=⟨7,⟨#[102,97,108,115,101]⟩,q⟩::u::r)
  (hx:pf n 4 .nil (L.drop i)= .ok (leaf 2 ByteArray.empty 0,u::r)):
  Calls prog 297 #[xk (some ⟨pb,0,none⟩)] w fun e w'=>Left L pb g cap w w' e (pf n 4 .nil (L.drop i)):=by
 have hr:gM 7=119:=rfl;exact zm18
theorem IW(n:Nat)(w:World)(pb g cap:Nat)(L:List Tk)(i q:Nat)(u:Tk)(r:List Tk)(h:PS w pb g cap L i false)(ht:L.drop i=⟨8,⟨#[101,110,100]⟩,q⟩::u::r)
  (hx:pf n 4 .nil (L.drop i)= .ok (leaf 3 ByteArray.empty 0,u::r)):
  Calls prog 297 #[xk (some ⟨pb,0,none⟩)] w fun e w'=>Left L pb g cap w w' e (pf n 4 .nil (L.drop i)):=by
 have hr:gM 8=119:=rfl;exact zm18
theorem qs(n:Nat)(hU:SU n)(w:World)(pb g cap:Nat)(L:List Tk)(i k q:Nat)(c:UInt8)(u:Tk)(r:List Tk)(h:PS w pb g cap L i false)(ht:L.drop i=⟨k,⟨#[c]⟩,q⟩::u::r)
  (h1:(gM k==111)=true)(hc:lC Hr.data.toList c=true)(an:(c.toNat:Int)=jP (lj k))(hn:6 * (L.drop (i+1)).length+1<=n)
  (hx:pf (n+1) 4 .nil (L.drop i)=(match pf n 4 .nil (L.drop (i+1)) with| .error q=> .error q| .ok (a,l1)=> .ok (one (lj k) a,l1))):
  Calls prog 297 #[xk (some ⟨pb,0,none⟩)] w fun e w'=>Left L pb g cap w w' e (pf (n+1) 4 .nil (L.drop i)):=by
 have HU:=fa hU;have HN:=fa hn;have HC:=fa hc;have aq:=fa an;have HX:=fa hx;have HT:=fa ht;have HP:=fa h;have hlt:=h.lt;have hlen:=h.len;obtain⟨c0,c1,c2⟩:=h.cells;go_in
 go_wp2_with (refine(jD HP HT).mono ?_)
 rintro e w1 ⟨rfl,hb⟩;have R:=fa (HP.later hb);have HB:=fa hb;simp only[jY];obtain⟨c0,c1,c2⟩:=R.cells;have hf:=fi R.blk 1;have hp1:=fh R.blk
 go_wp2_with (first|(refine(tY true zd HC).mono ?_;rintro e w' ⟨rfl,rfl⟩)|(refine(HU _ _ _ _ _ _ ((R.setI HT).alloc _) HN).mono ?_))
 rintro e w2 ⟨ai,p2,rfl,U⟩;have aj:=fa ai;have aa:w2.heap[w1.heap.size]? =some (xi #[xd .u8 (gM k),xj ⟨#[c]⟩,xd xh q] 232 (0,0)):=
   (ai.block _ zp zs).trans (fk _ _ _ zp)
 have b1:=cell_of_blk aa 1;simp at b1;cases hpf:pf n 4 .nil (L.drop (i+1)) with
 |error q=>
  rw[hpf] at U;have ag:Hid (pf (n+1) 4 .nil (L.drop i)= .error q):=by show _=_;rw[HX.out,hpf]
  obtain⟨i3,J,I⟩:=U;have ad:=fa I;have ae:=fa J;go_wp2;go_ret;rw[ag.out];exact⟨gI ((gI ((gC HB _).trans (fK _ _ _ _)) _).trans aj) _,_,rfl,i3,ae,ad.alloc _⟩
 |ok x=>
  obtain⟨a,l1⟩:=x;rw[hpf] at U;have ag:Hid (pf (n+1) 4 .nil (L.drop i)= .ok (one (lj k) a,l1)):=by show _=_;rw[HX.out,hpf]
  obtain⟨ak,i3,J,I⟩:=U;have ad:=fa I;have ae:=fa J;have ao:=fa ak;go_wp2;go_ret;rw[ag.out];refine⟨gI ((gI ((gC HB _).trans (fK _ _ _ _)) _).trans aj) _,_,rfl,⟨w2.heap.size,p2,none,rfl, ?_,ao.later gz,rfl⟩,i3,ae,ad.alloc _⟩;rw[ft,<-aq.out];rfl
theorem zU(n:Nat)(hF:SF n)(w:World)(pb g cap:Nat)(L:List Tk)(i k q:Nat)(u:Tk)(r:List Tk)(h:PS w pb g cap L i false)(ht:L.drop i=⟨k,⟨#[40]⟩,q⟩::u::r)
  (h1:(gM k==111)=true)(hn:6 * (L.drop (i+1)).length+5<=n)
  (hx:pf (n+1) 4 .nil (L.drop i)=(match pf n 0 .nil (L.drop (i+1)) with| .error q=> .error q| .ok (a,l1)=>if gu l1=19 then .ok (a,l1.tail) else .error (gQ l1))):
  Calls prog 297 #[xk (some ⟨pb,0,none⟩)] w fun e w'=>Left L pb g cap w w' e (pf (n+1) 4 .nil (L.drop i)):=by
 have HU:=fa hF;have HN:=fa hn;have HC:Hid (lC Hr.data.toList 40=false):=by show _=_;rfl
 have HX:=fa hx;have HT:=fa ht;have HP:=fa h;have hlt:=h.lt;have hlen:=h.len;obtain⟨c0,c1,c2⟩:=h.cells;go_in
 go_wp2_with (refine(jD HP HT).mono ?_)
 rintro e w1 ⟨rfl,hb⟩;have ak:=fa (HP.later hb);have HB:=fa hb;simp only[jY];obtain⟨c0,c1,c2⟩:=ak.cells;have hf:=fi ak.blk 1;have hp1:=fh ak.blk
 go_wp2_with (first|(refine(tY false zd HC).mono ?_;rintro e w' ⟨rfl,rfl⟩)|(refine(HU _ _ _ _ _ _ ((ak.setI HT).alloc _) HN).mono ?_))
 rintro e w2 ⟨aw,p2,rfl,ao⟩;have aq:=fa aw;cases hpf:pf n 0 .nil (L.drop (i+1)) with
 |error q=>
  rw[hpf] at ao;have ai:Hid (pf (n+1) 4 .nil (L.drop i)= .error q):=by show _=_;rw[HX.out,hpf]
  obtain⟨i3,an,I⟩:=ao;obtain⟨t3,r3,U⟩:=jn I.lt;have ad:=fa I;have az:=fa an;have ag:=fa U
  go_wp2_with (refine(xU _ 19 _ _ _ _ _ _ _ _ _ ad ag rfl zp zp (MC rfl)).mono ?_)
  rintro e w4 ⟨rfl,R,J⟩;have ae:=fa R;have aa:=fa J;go_wp2;go_ret;rw[ai.out];exact⟨((gI ((gC HB _).trans (fK _ _ _ _)) _).trans aq).trans aa,_,rfl,i3,az,ae⟩
 |ok x=>
  obtain⟨a,l1⟩:=x;rw[hpf] at ao;obtain⟨au,i3,an,I⟩:=ao;subst an;by_cases h19:gu (L.drop i3)=19
  ·obtain⟨t3,u3,r3,U,aj⟩:=km I.ends zp h19;have ai:Hid (pf (n+1) 4 .nil (L.drop i)= .ok (a,L.drop (i3+1))):=by show _=_;rw[HX.out,hpf];simp only[h19,if_true];simp
   have ad:=fa I;have ay:=fa au;have ag:=fa U;have ar:=fa aj
   go_wp2_with (refine(vv _ 19 _ _ _ _ _ _ _ _ _ ad ag rfl zp zp ar).mono ?_)
   rintro e w4 ⟨rfl,R,J⟩;have ae:=fa R;have aa:=fa J;go_wp2;go_ret;rw[ai.out];exact⟨((gI ((gC HB _).trans (fK _ _ _ _)) _).trans aq).trans aa,_,rfl,ay.keepP ad aa,i3+1,rfl,ae⟩
  obtain⟨t3,r3,U,aj⟩:=lD I.ends h19;have ai:Hid (pf (n+1) 4 .nil (L.drop i)= .error (gQ (L.drop i3))):=by show _=_;rw[HX.out,hpf];simp_all
  have ad:=fa I;have ag:=fa U;have ar:=fa aj
  go_wp2_with (refine(xU _ 19 _ _ _ _ _ _ _ _ _ ad ag rfl zp zp (MD ar)).mono ?_)
  rintro e w4 ⟨rfl,R,J⟩;have ae:=fa R;have aa:=fa J;go_wp2;go_ret;rw[ai.out];exact⟨((gI ((gC HB _).trans (fK _ _ _ _)) _).trans aq).trans aa,_,rfl,i3,rfl,ae⟩
theorem jk{s:ByteArray}{l:List UInt8}(h:s.data.toList=l):s=⟨l.toArray⟩:=by
 obtain⟨⟨d⟩⟩:=s;simp_all
theorem Ends.more(h:Ends (t::r))(hk:2<=t.k): ∃u I,r=u::I:=by
 cases r with
 |nil=>exact absurd (show t.k<=1 from h) zo
 |cons u r=>simp
theorem Ea(n:Nat)(hU:SU n)(hF:SF n):SU (n+1):=by
 intro w pb g cap L i h hn;obtain⟨⟨k,s,q⟩,r,J⟩:=jn h.lt;have ai:=h.ok _ (pS J);obtain⟨ag,hs,_,_⟩:=ai;dsimp only at ag hs;have ae:=h.ends;rw[J] at ae;by_cases hk2:2<=k
 ·obtain⟨u,r',rfl⟩:=ae.more hk2;have U:=drop_tail J;have hn2:6 * (L.drop (i+1)).length+5<=n:=by rw[U];rw[J] at hn;simp only[Mt] at hn|-;omega
  have R:k=2\/k=3\/k=4\/k=5\/k=6\/k=7\/k=8\/k=9\/k=10\/k=11\/k=12\/k=13\/k=14\/k=15\/k=16\/k=17\/k=18\/k=19\/k=20\/k=21:=zo;rcases R with rfl|rfl|rfl|rfl|rfl|rfl|rfl|rfl|rfl|rfl|rfl|rfl|rfl|rfl|rfl|rfl|rfl|rfl|rfl|rfl
  ·exact D9 (n+1) w pb g cap L i 2 q s u r' h J zf zf (by rw[J,pf];rfl)
  ·exact qN (n+1) w pb g cap L i 3 q s h J zd zd zd (by rw[J,pf];simp[gu,lj,gQ])
  ·have I:=jk (hs zp);subst I;exact uV (n+1) w pb g cap L i 4 q h J zf zf zf (by rw[ByteArray.toList_eq];rfl) (by rw[ByteArray.toList_eq];rfl) (by rw[ByteArray.toList_eq];rfl) (by rw[J,pf];rfl)
  ·have I:=jk (hs zp);subst I;exact uV (n+1) w pb g cap L i 5 q h J zf zf zf (by rw[ByteArray.toList_eq];rfl) (by rw[ByteArray.toList_eq];rfl) (by rw[ByteArray.toList_eq];rfl) (by rw[J,pf];rfl)
  ·have I:=jk (hs zp);subst I;exact IU (n+1) w pb g cap L i q u r' h J (by rw[J,pf];rfl)
  ·have I:=jk (hs zp);subst I;exact IV (n+1) w pb g cap L i q u r' h J (by rw[J,pf];rfl)
  ·have I:=jk (hs zp);subst I;exact IW (n+1) w pb g cap L i q u r' h J (by rw[J,pf];rfl)
  ·have I:=jk (hs zp);subst I;exact qs n hU w pb g cap L i 9 q 88 u r' h J zf zf zf zo (by rw[U,J,pf];rfl)
  ·have I:=jk (hs zp);subst I;exact qs n hU w pb g cap L i 10 q 78 u r' h J zf zf zf zo (by rw[U,J,pf];rfl)
  ·have I:=jk (hs zp);subst I;exact qs n hU w pb g cap L i 11 q 70 u r' h J zf zf zf zo (by rw[U,J,pf];rfl)
  ·have I:=jk (hs zp);subst I;exact qs n hU w pb g cap L i 12 q 71 u r' h J zf zf zf zo (by rw[U,J,pf];rfl)
  ·have I:=jk (hs zp);subst I;exact l7 (n+1) w pb g cap L i 13 q 85 h J zd zd zd zd zd (by rw[J,pf];simp[gu,lj,gQ])
  ·have I:=jk (hs zp);subst I;exact Cv (n+1) w pb g cap L i 14 q h J zd zd zd (by rw[J,pf];simp[gu,lj,gQ])
  ·have I:=jk (hs zp);subst I;exact l7 (n+1) w pb g cap L i 15 q 124 h J zd zd zd zd zd (by rw[J,pf];simp[gu,lj,gQ])
  ·have I:=jk (hs zp);subst I;exact l7 (n+1) w pb g cap L i 16 q 38 h J zd zd zd zd zd (by rw[J,pf];simp[gu,lj,gQ])
  ·have I:=jk (hs zp);subst I;exact qs n hU w pb g cap L i 17 q 33 u r' h J zf zf zf zo (by rw[U,J,pf];rfl)
  ·have I:=jk (hs zp);subst I;exact zU n hF w pb g cap L i 18 q u r' h J zf zo (by rw[U,J,pf];rfl)
  ·have I:=jk (hs zp);subst I;exact l7 (n+1) w pb g cap L i 19 q 41 h J zd zd zd zd zd (by rw[J,pf];simp[gu,lj,gQ])
  ·have I:=jk (hs zp);subst I;exact l7 (n+1) w pb g cap L i 20 q 44 h J zd zd zd zd zd (by rw[J,pf];simp[gu,lj,gQ])
  have I:=jk (hs zp);subst I;exact l7 (n+1) w pb g cap L i 21 q 59 h J zd zd zd zd zd (by rw[J,pf];simp[gu,lj,gQ])
 have R:k=0\/k=1:=zo;rcases R with rfl|rfl
 ·exact qN (n+1) w pb g cap L i 0 q s h J zd zd zd (by rw[J,pf];simp[gu,lj,gQ])
 exact qN (n+1) w pb g cap L i 1 q s h J zd zd zd (by rw[J,pf];simp[gu,lj,gQ])
theorem tF: ∀n m,m<=n->SU m/\ST m/\SA m/\SO m/\SF m
 |0,m,hm=>by
  have:m=0:=zo;subst this;exact⟨fun _ _ _ _ _ _ _ h=>zo,fun _ _ _ _ _ _ _ h=>zo,fun _ _ _ _ _ _ _ h=>zo,fun _ _ _ _ _ _ _ h=>zo,fun _ _ _ _ _ _ _ h=>zo⟩
 |n+1,m,hm=>by
  by_cases hlt:m<=n
  ·exact tF n m hlt
  have:m=n+1:=zo;subst this;have I:=tF n;have hn:=I n (Ms _);exact⟨Ea n hn.1 hn.2.2.2.2,Eb n hn.1,Gn n (fun m hm=>(I m hm).2.1),JN n (fun m hm=>(I m hm).2.2.1),AH n hn.2.2.2.1 hn.2.2.2.2⟩
theorem uE(n:Nat):SF n:=(tF n n (Ms _)).2.2.2.2
def I':List (List UInt8 × Nat):=[([97,99,116,115],4),([114,117,108,101],5),([116,114,117,101],6),([102,97,108,115,101],7),([101,110,100],8)]
def lookW(l:List UInt8):List (List UInt8 × Nat)->Nat
 |[]=>2
 |x::r=>if l=x.1 then x.2 else lookW l r
theorem Ed(l:List UInt8):jx l=lookW l I':=rfl
theorem LW(w:World):(Instr.index 321 (.agg oY) (xd xh 0)).run prog w= .ok (.agg #[xj ⟨#[97,99,116,115]⟩,xd xh 4]) w:=zk
theorem LY(w:World):(Instr.index 321 (.agg oY) (xd xh 1)).run prog w= .ok (.agg #[xj ⟨#[114,117,108,101]⟩,xd xh 5]) w:=zk
theorem LZ(w:World):(Instr.index 321 (.agg oY) (xd xh 2)).run prog w= .ok (.agg #[xj ⟨#[116,114,117,101]⟩,xd xh 6]) w:=zk
theorem L3(w:World):(Instr.index 321 (.agg oY) (xd xh 3)).run prog w= .ok (.agg #[xj ⟨#[102,97,108,115,101]⟩,xd xh 7]) w:=zk
theorem L4(w:World):(Instr.index 321 (.agg oY) (xd xh 4)).run prog w= .ok (.agg #[xj ⟨#[101,110,100]⟩,xd xh 8]) w:=zk
theorem tZ(s:ByteArray)(w:World)(J:GV w):Calls prog 171 #[xj s] w fun e w'=>e=xm (xd xh (jx s.toList:Nat))/\Below w.heap.size w w':=by
 obtain⟨t,m,hg⟩:=J.ws;rw[Ed];go_in
 go_wp2_with (refine wpList_load_row rfl 321 _ rfl 2 rfl t _ m _ hg underlying321 rfl zk ?_)
 go_loopw [6] (fun i wr=> ∃z:Int,i=xd xh z/\0<=z/\z<=5/\Hid (lookW s.toList I'=lookW s.toList (I'.drop z.toNat))/\Below w.heap.size w wr) (fun i _=>(5 - intOf i).toNat)
 ·exact⟨0,rfl,zo,zo,rfl,Mw _ _⟩
 obtain⟨z,rfl,U,h5,H,R⟩:=hrel;have I:=fa R;have hz:z=0\/z=1\/z=2\/z=3\/z=4\/z=5:=zo;have i0:=LW;have i1:=LY;have i2:=LZ;have i3:=L3;have i4:=L4;rcases hz with rfl|rfl|rfl|rfl|rfl|rfl
 all_goals go_wp2
 all_goals first
  |(go_ret;refine⟨pL ?_,by first|exact I|exact I.alloc I.size _⟩;rw[H.out];first|rfl|(simp_all [lookW,I'];done))
  |(go_round;(case rel=>exact⟨_,rfl,zp,zp,H.trans (if_neg (by intro h;simp_all)),by first|exact I|exact I.alloc I.size _⟩);decide)
theorem yY(s:ByteArray)(j:Nat):(s.extract j s.size).data.toList=s.data.toList.drop j:=by
 rw[Mz,List.take_of_length_le zp]
theorem FF(s:ByteArray)(j:Nat):j+gP isLet (s.extract j s.size) 0=gP isLet s j:=by
 unfold gP;rw[yY,List.drop_zero];omega
theorem xM{l:List UInt8}(h:a.data.toList=l):a=⟨l.toArray⟩:=by
 cases a with
 |mk d=>simp at h;subst h;simp
theorem mw{b:ByteArray}(h:a.data.toList=b.data.toList):a=b:=(xM h).trans (xM rfl).symm
theorem Bi(s:ByteArray)(j n:Nat)(_:j+n<=s.size):(s.extract j s.size).extract 0 n=s.extract j (j+n):=by
 apply mw;simp_all
def oU:List (List UInt8 × Nat):=[([88],9),([78],10),([70],11),([71],12),([85],13),([45,62],14),([124],15),([38],16),([33],17),([40],18),([41],19),([44],20),([59],21)]
def nV(l:List UInt8):List (List UInt8 × Nat)->Option (List UInt8 × Nat)
 |[]=>none
 |x::r=>if l.take x.1.length=x.1 then some x else nV l r
def FK(s:ByteArray)(j:Nat):Option (List UInt8 × Nat)->Tk
 |none=>⟨1,s.extract j (j+1),j⟩
 |some x=>⟨x.2,⟨x.1.toArray⟩,j⟩
def wD(c:UInt8):Option (List UInt8 × Nat):=if c=88 then some ([88],9) else if c=78 then some ([78],10) else if c=70 then some ([70],11) else if c=71 then some ([71],12) else if c=85 then some ([85],13) else if c=124 then some ([124],15) else if c=38 then some ([38],16) else if c=33 then some ([33],17) else if c=40 then some ([40],18) else if c=41 then some ([41],19) else if c=44 then some ([44],20) else if c=59 then some ([59],21) else none
theorem He(c:UInt8):wD c=if jo c.toNat=1 then none else some ([c],jo c.toNat):=by
 have aux: ∀n:Nat,∀_:n<256,wD (UInt8.ofNat n)=if jo n=1 then none else some ([UInt8.ofNat n],jo n):=by
  intro n hn;exact(by decide+kernel: ∀m:Fin 256,wD (UInt8.ofNat m.val)=if jo m.val=1 then none else some ([UInt8.ofNat m.val],jo m.val)) ⟨n,hn⟩
 have:=aux c.toNat (UInt8.toNat_lt c);simp_all
theorem E'{c:UInt8}{r:List UInt8}(h:(c::r).take 2≠[45,62]):nV (c::r) oU=wD c:=by
 have I: ∀x:UInt8,((c::r).take 1=[x])=(c=x):=fun x=>zp
 simp only[nV,oU,wD,Mt,ME,Nat.zero_add,Nat.reduceAdd,I,h,if_false]
theorem Ca{c:UInt8}{r:List UInt8}(h:(c::r).take 2=[45,62]):nV (c::r) oU=some ([45,62],14):=by
 have hc:c=45:=za;subst hc;have I: ∀x:UInt8,((45::r).take 1=[x])=((45:UInt8)=x):=fun x=>zp
 simp only[nV,oU,Mt,ME,Nat.zero_add,Nat.reduceAdd,I,h];rfl
theorem E7(s:ByteArray)(j:Nat)(h:j<s.size)(hl:isLet s[j]=false)(U:¬ (48<=s[j].toNat/\s[j].toNat<=57)):
  gT s j=FK s j (nV (s.data.toList.drop j) oU):=by
 rw[drop_at s j h];by_cases ha:(s[j]::s.data.toList.drop (j+1)).take 2=[45,62]
 ·rw[Ca ha];have I:j+1<s.size:=by
   rcases Nat.lt_or_ge (j+1) s.size with I|I
   ·omega
   rw[List.drop_eq_nil_of_le zv] at ha;simp_all
  rw[drop_at s (j+1) I] at ha;simp at ha;exact yJ s j h za I za
 rw[E' ha,He,vu s j h hl U ?_]
 ·split
  ·rename_i J;rw[J];rfl
  show(⟨jo s[j].toNat,s.extract j (j+1),j⟩:Tk)=⟨jo s[j].toNat,⟨[s[j]].toArray⟩,j⟩;rw[xM (lY s j h)]
 rintro⟨J,I,R⟩;apply ha;rw[drop_at s (j+1) I];have e1:s[j]=45:=UInt8.toNat_inj.1 J;have e2:s[j+1]=62:=UInt8.toNat_inj.1 R;simp_all
def je(t:Tk):Value:= .agg #[xd xh t.k,xj t.s,xd xh t.p]
def sG(k:Nat):ByteArray:=⟨((oU.getD k ([],0)).1).toArray⟩
def I9(k:Nat):Nat:=(oU.getD k ([],0)).2
theorem Mb{k:Nat}(h:k<13):k=0\/k=1\/k=2\/k=3\/k=4\/k=5\/k=6\/k=7\/k=8\/k=9\/k=10\/k=11\/k=12:=zo
theorem Mn(k:Nat)(h:k<13)(w:World):(Instr.index 310 (.agg rC) (xd xh (k:Int))).run prog w= .ok (.agg #[xj (sG k),xd xh (I9 k:Nat)]) w:=by
 rcases Mb h with rfl|rfl|rfl|rfl|rfl|rfl|rfl|rfl|rfl|rfl|rfl|rfl|rfl<;>kernel_rfl
theorem Ig(k:Nat):(sG k).toList=(oU.getD k ([],0)).1:=by rw[ByteArray.toList_eq];rfl
theorem Ih(k:Nat):(sG k).size=(oU.getD k ([],0)).1.length:=zf
theorem Dz(l:List UInt8)(k:Nat)(h:k<13):nV l (oU.drop k)=if (l.take (sG k).size==(sG k).toList)=true then some ((sG k).toList,I9 k) else nV l (oU.drop (k+1)):=by
 have I:k<oU.length:=h;have e:oU.drop k=oU.getD k ([],0)::oU.drop (k+1):=by
  rw[List.drop_eq_getElem_cons I];simp[List.getD,List.getElem?_eq_getElem I]
 rw[e,nV,Ih,Ig];simp only[beq_iff_eq];rfl
theorem Ct(s:ByteArray)(j:Nat)(w:World)(hs:s.size<=maxLen)(hj:j<s.size)(hG:GV w):
  Calls prog 152 #[xj s,xd xh j] w fun e w'=>e=xm (je (gT s j))/\Below w.heap.size w w':=by
 unfold maxLen at hs;have ax:=FF s j;have aj:=yY s j;have aw:=Bi s j;have aF:(s.extract j s.size).size<=s.size - j/\s.size - j<=(s.extract j s.size).size:=zp;obtain⟨hrs1,hrs2⟩:=aF;have av: ∀h:0<(s.extract j s.size).size,(s.extract j s.size)[0]=s[j]:=by
  intro h;have h1:=drop_at (s.extract j s.size) 0 h;rw[List.drop_zero,aj,drop_at s j hj] at h1;simp_all
 have HG:=fa hG;have az:=fa aj;have aq:=fa aw;have ag:=fa ax;clear hG aj aw ax;go_in;go_wp2_with fail;generalize hR:s.extract j s.size=R at *;clear hR;refine(qZ R _ (by unfold maxLen;omega)).mono ?_;rintro e w' ⟨rfl,rfl⟩;have hup:=l8 isLet R 0 (Nat.zero_le _);generalize hn:gP isLet R 0=n at *;have HN:=fa hn;clear hn;by_cases hn0:0<n
 ·have I:Hid (gT s j=⟨jx (R.extract 0 n).data.toList,R.extract 0 n,j⟩):=by
   show _=_;rw[AV s j hj (BJ s j hj (by have:=ag.out;omega)),<-ag.out,aq.out n zo]
  go_wp2;refine wp_region_any zk ?_;change wpAny _ _ _ _ _ _ _ (World.drew _);apply zt0 0 (xj R);apply zt0 1 (xd xh (n:Int));apply zt0 2 (xj (R.extract 0 n));apply zt0 4 (xj R);apply zt0 5 (xd xh (n:Int));apply zt0 6 (xj (R.extract 0 n));apply zt0 7 (xd xh (j:Int));apply zr 3;intro K hK;go_simp
  go_wp2_with (refine(tZ _ _ (HG.later (gz.drew))).mono ?_;rintro e w1 ⟨rfl,hb⟩)
  have HB:=fa hb;have hrb:=(hb.block w.heap.size zp).trans (ft _ _);have rc:=cell_of_blk hrb;have rf:=fi hrb;apply zt0 8 (.agg #[xd xh (jx (R.extract 0 n).toList:Nat),xj (R.extract 0 n),xd xh (j:Int)]);apply zr 9;intro K hK;go_simp;refine hK _ _ ?_;refine wpAny_done zk ?_ _;go_wp2;have J:(((w1.setCell ⟨w.heap.size,0,none⟩ (xd xh (jx (R.extract 0 n).toList:Nat))).setCell ⟨w.heap.size,1,none⟩ (xj (R.extract 0 n))).setCell ⟨w.heap.size,2,none⟩ (xd xh (j:Int))).heap[w.heap.size]? =some (xi #[xd xh (jx (R.extract 0 n).toList:Nat),xj (R.extract 0 n),xd xh (j:Int)] 201 (0,0)):=fj (fj (fj hrb 0 _) 1 _) 2 _;have U:=cell_of_blk J;refine bodyPost_ret (v:= .agg #[xd xh (jx (R.extract 0 n).toList:Nat),xj (R.extract 0 n),xd xh (j:Int)]) (by simp[results,results152,go_sem,U]) rfl ⟨?_, ?_⟩
  ·rw[I.out,je,ByteArray.toList_eq]
  exact((((gz.drew).trans (HB.mono zp)).setCell (Ms _) _).setCell (Ms _) _).setCell (Ms _) _
 have aD:n=0:=zo;subst aD;have hl:=Gb s j hj (by have:=ag.out;omega);have HL:=fa hl;have aE:0<R.size:=zo;have hr00:=av aE;have an:=fa (aq 1 zo);have ad: ∀(W:World) (a:Int) (b:ByteArray),W.heap[w.heap.size]? =some (xi #[xd xh 0,xj ⟨#[]⟩,xd xh 0] 201 (0,0))->
   (((W.setCell ⟨w.heap.size,0,none⟩ (xd xh a)).setCell ⟨w.heap.size,1,none⟩ (xj b)).setCell ⟨w.heap.size,2,none⟩ (xd xh (j:Int))).heap[w.heap.size]? =some (xi #[xd xh a,xj b,xd xh (j:Int)] 201 (0,0)):=
  fun W a b h=>fj (fj (fj h 0 _) 1 _) 2 _
 have aa:=fa ad;by_cases hd:(48:Int)<=(s[j].toNat:Int)/\(s[j].toNat:Int)<=57
 ·obtain⟨ar,aB⟩:=hd;go_wp2;refine bodyPost_ret (v:= .agg #[xd xh 3,xj (R.extract 0 1),xd xh (j:Int)]) (by simp[results,results152,go_sem]) rfl ⟨?_,gz⟩;rw[yK s j hj zo zo,an.out];rfl
 have I:=fa (E7 s j hj HL zo);rw[<-az.out,<-ByteArray.toList_eq] at I;obtain⟨tt,mm,hg⟩:=HG.rs;have au:(w.alloc (xi #[xd xh 0,xj ⟨#[]⟩,xd xh 0] 201)).heap[1]? =some (xi rC tt mm):=(Below.heap_alloc _ _ _ (fh hg)).trans hg;have aC:((48:Int)<=(s[j].toNat:Int)/\¬ (s[j].toNat:Int)<=57)\/¬ (48:Int)<=(s[j].toNat:Int):=zo;rcases aC with⟨ar,aB⟩|ar
 all_goals
  go_wp2_with (refine wpList_load_row rfl 310 _ rfl 1 rfl tt _ mm _ au underlying310 rfl zk ?_)
  go_loopw [38] (fun i wr=> ∃k:Nat,i=xd xh (k:Int)/\k<=13/\Hid (nV R.toList oU=nV R.toList (oU.drop k))/\Below (w.heap.size+1) (w.alloc (xi #[xd xh 0,xj ⟨#[]⟩,xd xh 0] 201)) wr) (fun i _=>13 - (intOf i).toNat)
  case atStart=>exact⟨0,rfl,zo,rfl,Mw _ _⟩
  case round=>
   obtain⟨k,rfl,h5,H,hb⟩:=hrel;have HB:=fa hb;have hrb:=(hb.block w.heap.size zp).trans (ft _ _);have aG:=fh hrb;have rc:=cell_of_blk hrb;have rf:=fi hrb;have ao:=fa hrb;have HW:=fa (gz.trans (HB.mono zo));by_cases hk:k<13
   ·have ik:=Mn k hk;have HS:=fa (Dz R.toList k hk)
    go_wp2_with (refine(zD).mono ?_;rintro e w' ⟨rfl,rfl⟩)
    ·have hm:(R.toList.take (sG k).size==(sG k).toList)=true:=by assumption
     have J:=aa wr (I9 k:Nat) (sG k) ao;have U:=cell_of_blk J;refine bodyPost_ret (v:= .agg #[xd xh (I9 k:Nat),xj (sG k),xd xh (j:Int)]) (by simp[results,results152,go_sem,U,aG]) rfl ⟨?_, ?_⟩
     ·rw[I.out,H.out,HS.out,if_pos hm,FK,je,ByteArray.toList_eq]
     exact((((HW.setCell (Ms _) _).setCell (Ms _) _).setCell (Ms _) _).alloc (by simp[Mx];omega) _)
    have hm:(R.toList.take (sG k).size==(sG k).toList)=false:=by assumption
    go_round
    ·exact⟨k+1,zf,zo,H.trans (HS.trans (if_neg za)),HB.alloc zo _⟩
    simp[intOf];omega
   have ae:k=13:=zo;have HK:=fa ae;go_wp2;have J:=aa wr 1 (R.extract 0 1) ao;have U:=cell_of_blk J;refine bodyPost_ret (v:= .agg #[xd xh 1,xj (R.extract 0 1),xd xh (j:Int)]) (by simp[results,results152,go_sem,U]) rfl ⟨?_, ?_⟩
   ·rw[I.out,H.out,HK.out,an.out];rfl
   exact(((HW.setCell (Ms _) _).setCell (Ms _) _).setCell (Ms _) _)
def LkAt(w:World)(lb:Nat)(ins:Bool)(ev:ByteArray)(more:Bool)(nx hr:Nat):Prop:=w.heap[lb]? =some (xi #[xn ins,xj ev,xn more,xd .u32 (nx:Int),xd .u32 (hr:Int)] 277 (0,0))
theorem LQ: ∀n,Below w.heap.size w (w.drewN n):=fun _=>⟨rfl,rfl,rfl,Ms _,fun _ _=>rfl⟩
theorem KG(w:World)(lb:Nat)(ins:Bool)(ev:ByteArray)(more:Bool)(nx hr:Nat)(s:ByteArray)(i a b:Nat)(h:LkAt w lb ins ev more nx hr)(hnx:nx<4294967296)(hhr:hr<4294967296)(hi:i<=31)(ha:a<=31)(hb:b<=31):
  Calls prog 197 #[xk (some ⟨lb,0,none⟩),xd xh (i:Int),.agg #[xd xh 0,xj s,xd xh (a:Int),xd xh (b:Int)]] w fun e w'=>e=xm (xn (jd 0 ins more (ev.toList==s.toList) (hr.testBit a) (hr.testBit b) (nx.testBit a) (nx.testBit i)))/\Below w.heap.size w w':=by
 have bc:=cell_of_blk h;have hlt:=fh h;cases ins
 ·go_in;go_wp2;go_quiet (fail);exact zm7
 go_in;go_wp2;go_quiet (fail);exact zm7
theorem JA(w:World)(lb:Nat)(ins:Bool)(ev:ByteArray)(more:Bool)(nx hr:Nat)(s:ByteArray)(i a b:Nat)(h:LkAt w lb ins ev more nx hr)(hnx:nx<4294967296)(hhr:hr<4294967296)(hi:i<=31)(ha:a<=31)(hb:b<=31):
  Calls prog 197 #[xk (some ⟨lb,0,none⟩),xd xh (i:Int),.agg #[xd xh 1,xj s,xd xh (a:Int),xd xh (b:Int)]] w fun e w'=>e=xm (xn (jd 1 ins more (ev.toList==s.toList) (hr.testBit a) (hr.testBit b) (nx.testBit a) (nx.testBit i)))/\Below w.heap.size w w':=by
 exact zm95
theorem Hc(w:World)(lb:Nat)(ins:Bool)(ev:ByteArray)(more:Bool)(nx hr:Nat)(s:ByteArray)(i a b:Nat)(h:LkAt w lb ins ev more nx hr)(hnx:nx<4294967296)(hhr:hr<4294967296)(hi:i<=31)(ha:a<=31)(hb:b<=31):
  Calls prog 197 #[xk (some ⟨lb,0,none⟩),xd xh (i:Int),.agg #[xd xh 2,xj s,xd xh (a:Int),xd xh (b:Int)]] w fun e w'=>e=xm (xn (jd 2 ins more (ev.toList==s.toList) (hr.testBit a) (hr.testBit b) (nx.testBit a) (nx.testBit i)))/\Below w.heap.size w w':=by
 exact zm95
theorem KI(w:World)(lb:Nat)(ins:Bool)(ev:ByteArray)(more:Bool)(nx hr:Nat)(s:ByteArray)(i a b:Nat)(h:LkAt w lb ins ev more nx hr)(hnx:nx<4294967296)(hhr:hr<4294967296)(hi:i<=31)(ha:a<=31)(hb:b<=31):
  Calls prog 197 #[xk (some ⟨lb,0,none⟩),xd xh (i:Int),.agg #[xd xh 3,xj s,xd xh (a:Int),xd xh (b:Int)]] w fun e w'=>e=xm (xn (jd 3 ins more (ev.toList==s.toList) (hr.testBit a) (hr.testBit b) (nx.testBit a) (nx.testBit i)))/\Below w.heap.size w w':=by
 exact zm95
theorem KK(w:World)(lb:Nat)(ins:Bool)(ev:ByteArray)(more:Bool)(nx hr:Nat)(s:ByteArray)(i a b:Nat)(h:LkAt w lb ins ev more nx hr)(hnx:nx<4294967296)(I:hr<4294967296)(hi:i<=31)(J:a<=31)(hb:b<=31):
  Calls prog 197 #[xk (some ⟨lb,0,none⟩),xd xh (i:Int),.agg #[xd xh 4,xj s,xd xh (a:Int),xd xh (b:Int)]] w fun e w'=>e=xm (xn (jd 4 ins more (ev.toList==s.toList) (hr.testBit a) (hr.testBit b) (nx.testBit a) (nx.testBit i)))/\Below w.heap.size w w':=by
 have bc:=cell_of_blk h;have hlt:=fh h;cases h1:hr.testBit a
 ·go_in;go_wp2;go_quiet (first|(go_at_call_of 168 a;exact Mr (gX hr a I J h1 _)));exact zm7
 go_in;go_wp2;go_quiet (first|(go_at_call_of 168 a;exact Mr (gX hr a I J h1 _)));exact zm7
theorem KH(w:World)(lb:Nat)(ins:Bool)(ev:ByteArray)(more:Bool)(nx hr:Nat)(s:ByteArray)(i a b:Nat)(h:LkAt w lb ins ev more nx hr)(hnx:nx<4294967296)(I:hr<4294967296)(hi:i<=31)(J:a<=31)(R:b<=31):
  Calls prog 197 #[xk (some ⟨lb,0,none⟩),xd xh (i:Int),.agg #[xd xh 10,xj s,xd xh (a:Int),xd xh (b:Int)]] w fun e w'=>e=xm (xn (jd 10 ins more (ev.toList==s.toList) (hr.testBit a) (hr.testBit b) (nx.testBit a) (nx.testBit i)))/\Below w.heap.size w w':=by
 have bc:=cell_of_blk h;have hlt:=fh h;cases h1:hr.testBit a
 ·go_in;go_wp2;go_quiet (first|(go_at_call_of 168 a;exact Mr (gX hr a I J h1 _)));exact zm7
 cases h2:hr.testBit b
 ·go_in;go_wp2;go_quiet (first|(go_at_call_of 168 a;exact Mr (gX hr a I J h1 _))|(go_at_call_of 168 b;exact Mr (gX hr b I R h2 _)));exact zm7
 go_in;go_wp2;go_quiet (first|(go_at_call_of 168 a;exact Mr (gX hr a I J h1 _))|(go_at_call_of 168 b;exact Mr (gX hr b I R h2 _)));exact zm7
theorem Lp(w:World)(lb:Nat)(ins:Bool)(ev:ByteArray)(more:Bool)(nx hr:Nat)(s:ByteArray)(i a b:Nat)(h:LkAt w lb ins ev more nx hr)(hnx:nx<4294967296)(I:hr<4294967296)(hi:i<=31)(J:a<=31)(R:b<=31):
  Calls prog 197 #[xk (some ⟨lb,0,none⟩),xd xh (i:Int),.agg #[xd xh 11,xj s,xd xh (a:Int),xd xh (b:Int)]] w fun e w'=>e=xm (xn (jd 11 ins more (ev.toList==s.toList) (hr.testBit a) (hr.testBit b) (nx.testBit a) (nx.testBit i)))/\Below w.heap.size w w':=by
 have bc:=cell_of_blk h;have hlt:=fh h;cases h1:hr.testBit a
 ·cases h2:hr.testBit b
  ·go_in;go_wp2;go_quiet (first|(go_at_call_of 168 a;exact Mr (gX hr a I J h1 _))|(go_at_call_of 168 b;exact Mr (gX hr b I R h2 _)));exact zm7
  go_in;go_wp2;go_quiet (first|(go_at_call_of 168 a;exact Mr (gX hr a I J h1 _))|(go_at_call_of 168 b;exact Mr (gX hr b I R h2 _)));exact zm7
 go_in;go_wp2;go_quiet (first|(go_at_call_of 168 a;exact Mr (gX hr a I J h1 _)));exact zm7
theorem KJ(w:World)(lb:Nat)(ins:Bool)(ev:ByteArray)(more:Bool)(nx hr:Nat)(s:ByteArray)(i a b:Nat)(h:LkAt w lb ins ev more nx hr)(hnx:nx<4294967296)(I:hr<4294967296)(hi:i<=31)(J:a<=31)(R:b<=31):
  Calls prog 197 #[xk (some ⟨lb,0,none⟩),xd xh (i:Int),.agg #[xd xh 12,xj s,xd xh (a:Int),xd xh (b:Int)]] w fun e w'=>e=xm (xn (jd 12 ins more (ev.toList==s.toList) (hr.testBit a) (hr.testBit b) (nx.testBit a) (nx.testBit i)))/\Below w.heap.size w w':=by
 have bc:=cell_of_blk h;have hlt:=fh h;cases h1:hr.testBit a
 ·go_in;go_wp2;go_quiet (first|(go_at_call_of 168 a;exact Mr (gX hr a I J h1 _)));exact zm7
 cases h2:hr.testBit b
 ·go_in;go_wp2;go_quiet (first|(go_at_call_of 168 a;exact Mr (gX hr a I J h1 _))|(go_at_call_of 168 b;exact Mr (gX hr b I R h2 _)));exact zm7
 go_in;go_wp2;go_quiet (first|(go_at_call_of 168 a;exact Mr (gX hr a I J h1 _))|(go_at_call_of 168 b;exact Mr (gX hr b I R h2 _)));exact zm7
theorem JJ(w:World)(lb:Nat)(ins:Bool)(ev:ByteArray)(more:Bool)(nx hr:Nat)(s:ByteArray)(i a b:Nat)(h:LkAt w lb ins ev more nx hr)(I:nx<4294967296)(hhr:hr<4294967296)(hi:i<=31)(J:a<=31)(hb:b<=31):
  Calls prog 242 #[xk (some ⟨lb,0,none⟩),xd xh (i:Int),.agg #[xd xh 5,xj s,xd xh (a:Int),xd xh (b:Int)]] w fun e w'=>e=xm (xn (jd 5 ins more (ev.toList==s.toList) (hr.testBit a) (hr.testBit b) (nx.testBit a) (nx.testBit i)))/\Below w.heap.size w w':=by
 have bc:=cell_of_blk h;have hlt:=fh h;cases more
 ·go_in;go_wp2;go_quiet (fail);exact zm7
 cases h1:nx.testBit a
 ·go_in;go_wp2;go_quiet (first|(exact Mr (gX nx a I J h1 _)));exact zm7
 go_in;go_wp2;go_quiet (first|(exact Mr (gX nx a I J h1 _)));exact zm7
theorem JK(w:World)(lb:Nat)(ins:Bool)(ev:ByteArray)(more:Bool)(nx hr:Nat)(s:ByteArray)(i a b:Nat)(h:LkAt w lb ins ev more nx hr)(I:nx<4294967296)(hhr:hr<4294967296)(hi:i<=31)(J:a<=31)(hb:b<=31):
  Calls prog 242 #[xk (some ⟨lb,0,none⟩),xd xh (i:Int),.agg #[xd xh 6,xj s,xd xh (a:Int),xd xh (b:Int)]] w fun e w'=>e=xm (xn (jd 6 ins more (ev.toList==s.toList) (hr.testBit a) (hr.testBit b) (nx.testBit a) (nx.testBit i)))/\Below w.heap.size w w':=by
 have bc:=cell_of_blk h;have hlt:=fh h;cases more
 ·go_in;go_wp2;go_quiet (fail);exact zm7
 cases h1:nx.testBit a
 ·go_in;go_wp2;go_quiet (first|(exact Mr (gX nx a I J h1 _)));exact zm7
 go_in;go_wp2;go_quiet (first|(exact Mr (gX nx a I J h1 _)));exact zm7
theorem KR(w:World)(lb:Nat)(ins:Bool)(ev:ByteArray)(more:Bool)(nx hr:Nat)(s:ByteArray)(i a b:Nat)(h:LkAt w lb ins ev more nx hr)(J:nx<4294967296)(I:hr<4294967296)(hi:i<=31)(R:a<=31)(hb:b<=31):
  Calls prog 242 #[xk (some ⟨lb,0,none⟩),xd xh (i:Int),.agg #[xd xh 7,xj s,xd xh (a:Int),xd xh (b:Int)]] w fun e w'=>e=xm (xn (jd 7 ins more (ev.toList==s.toList) (hr.testBit a) (hr.testBit b) (nx.testBit a) (nx.testBit i)))/\Below w.heap.size w w':=by
 have bc:=cell_of_blk h;have hlt:=fh h;cases ins
 ·go_in;go_wp2;go_quiet (fail);exact zm7
 cases h1:hr.testBit a
 ·cases h2:nx.testBit i
  ·go_in;go_wp2;go_quiet (first|(go_at_call_of 168 a;exact Mr (gX hr a I R h1 _))|(go_at_call_of 168 i;exact Mr (gX nx i J hi h2 _)));exact zm7
  go_in;go_wp2;go_quiet (first|(go_at_call_of 168 a;exact Mr (gX hr a I R h1 _))|(go_at_call_of 168 i;exact Mr (gX nx i J hi h2 _)));exact zm7
 go_in;go_wp2;go_quiet (first|(go_at_call_of 168 a;exact Mr (gX hr a I R h1 _)));exact zm7
theorem JI(w:World)(lb:Nat)(ins:Bool)(ev:ByteArray)(more:Bool)(nx hr:Nat)(s:ByteArray)(i a b:Nat)(h:LkAt w lb ins ev more nx hr)(J:nx<4294967296)(I:hr<4294967296)(hi:i<=31)(R:a<=31)(hb:b<=31):
  Calls prog 242 #[xk (some ⟨lb,0,none⟩),xd xh (i:Int),.agg #[xd xh 8,xj s,xd xh (a:Int),xd xh (b:Int)]] w fun e w'=>e=xm (xn (jd 8 ins more (ev.toList==s.toList) (hr.testBit a) (hr.testBit b) (nx.testBit a) (nx.testBit i)))/\Below w.heap.size w w':=by
 have bc:=cell_of_blk h;have hlt:=fh h;cases ins
 ·go_in;go_wp2;go_quiet (fail);exact zm7
 cases h1:hr.testBit a
 ·go_in;go_wp2;go_quiet (first|(go_at_call_of 168 a;exact Mr (gX hr a I R h1 _)));exact zm7
 cases h2:nx.testBit i
 ·go_in;go_wp2;go_quiet (first|(go_at_call_of 168 a;exact Mr (gX hr a I R h1 _))|(go_at_call_of 168 i;exact Mr (gX nx i J hi h2 _)));exact zm7
 go_in;go_wp2;go_quiet (first|(go_at_call_of 168 a;exact Mr (gX hr a I R h1 _))|(go_at_call_of 168 i;exact Mr (gX nx i J hi h2 _)));exact zm7
theorem Hp(w:World)(lb:Nat)(ins:Bool)(ev:ByteArray)(more:Bool)(nx hr:Nat)(s:ByteArray)(i a b:Nat)(h:LkAt w lb ins ev more nx hr)(J:nx<4294967296)(I:hr<4294967296)(hi:i<=31)(U:a<=31)(R:b<=31):
  Calls prog 242 #[xk (some ⟨lb,0,none⟩),xd xh (i:Int),.agg #[xd xh 9,xj s,xd xh (a:Int),xd xh (b:Int)]] w fun e w'=>e=xm (xn (jd 9 ins more (ev.toList==s.toList) (hr.testBit a) (hr.testBit b) (nx.testBit a) (nx.testBit i)))/\Below w.heap.size w w':=by
 have bc:=cell_of_blk h;have hlt:=fh h;cases ins
 ·go_in;go_wp2;go_quiet (fail);exact zm7
 cases h1:hr.testBit b
 ·cases h2:hr.testBit a
  ·go_in;go_wp2;go_quiet (first|(go_at_call_of 168 b;exact Mr (gX hr b I R h1 _))|(go_at_call_of 168 a;exact Mr (gX hr a I U h2 _)));exact zm7
  cases h3:nx.testBit i
  ·go_in;go_wp2;go_quiet (first|(go_at_call_of 168 b;exact Mr (gX hr b I R h1 _))|(go_at_call_of 168 a;exact Mr (gX hr a I U h2 _))|(go_at_call_of 168 i;exact Mr (gX nx i J hi h3 _)));exact zm7
  go_in;go_wp2;go_quiet (first|(go_at_call_of 168 b;exact Mr (gX hr b I R h1 _))|(go_at_call_of 168 a;exact Mr (gX hr a I U h2 _))|(go_at_call_of 168 i;exact Mr (gX nx i J hi h3 _)));exact zm7
 go_in;go_wp2;go_quiet (first|(go_at_call_of 168 b;exact Mr (gX hr b I R h1 _)));exact zm7
end Go.Proofs.YtidakhhekofkoaaGreatDoor
