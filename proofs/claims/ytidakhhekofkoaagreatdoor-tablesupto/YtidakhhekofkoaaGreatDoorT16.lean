import Derived.Test.YtidakhhekofkoaaGreatDoorT15
set_option linter.all false
set_option maxHeartbeats 4000000
set_option maxRecDepth 100000
namespace Go.Proofs.YtidakhhekofkoaaGreatDoor
open Go.Proofs.Tryz
open Go.RowKit Go.Deep
open Value renaming slice -> xa, int -> xd, string -> xj, pointer -> xk, bool -> xn
open IntKind renaming i64 -> xh
open Obj renaming cells -> xi
open Ending renaming returned -> xm
open Nat renaming le_refl -> Mr, lt_of_lt_of_le -> MG, pow_le_pow_right -> MM, zero_add -> MO, mul_one -> MP, zero_le -> MU
open List renaming getElem?_eq_getElem -> Ms, take_of_length_le -> Mt, dropLast_concat_getLast -> Mu, getElem?_append_right -> Mw, getElem?_map -> Mx, mem_of_getElem? -> My, getElem?_append_left -> Mz, setIfInBounds_toArray -> MD, set_cons_zero -> ME, length_append -> MF, getElem_cons_succ -> MI, getElem_cons_zero -> MJ, length_map -> MK, getElem_toArray -> ML, set_cons_succ -> MN, replicate -> MQ, pairwise_append -> MR, length_take -> MV, length_cons -> MX
open Go.RowKit.Below renaming refl -> MC, heap_setCell -> MT
open World renaming ownsRow_nil -> MH, drew -> MZ
open Or renaming inr -> MY
variable {zq:Prop}
variable {w w' W W' w0:World} {rb x base n e b f g' na ac nf fc nn nc base' N bytes H tb:Nat} {L M r q:List Nat} {A F X v A' F' X' v':Value} {t:Tb} {rv xs xs' rv':List Value} {ao fo:Option Addr} {c:Array Value} {m:Nat × Nat} {ops:Array Oper} {o:Oper} {a:Act} {Q:Exit->Act->World->Prop} {K:Act->World->Prop} {E:Prop} {y:Bool} {p:Bool × List Bool}
theorem zm40(h:zq:=by
 apply zr 6;intro K hK;go_simp;refine(sC rb k HTE.out.rd zo).mono ?_;rintro e w7 ⟨rfl,hrow,hf7⟩;have HT7:=fa (HTE.out.read hf7);have HROW:=fa hrow;refine hK _ _ ?_;clear hK K hf7 hrow;apply zr 7;intro K hK;go_simp;refine hK _ _ ?_;clear hK K;exact hG w7 HT7 HROW
 ):zq:=h
theorem zm56(h:zq:=by
 apply zr 5;intro K hK;go_simp;refine(sa rb _ _ HT3.out.rd (r6 hfew) (Nat.le_of_lt (Nat.lt_of_lt_of_le (pI _) zp))).mono ?_;rintro e w4 ⟨rfl,hf4⟩;have HT4:=fa (HT3.out.read hf4);refine hK _ _ ?_;clear hK K hf4;apply zr 6;intro K hK;go_simp;refine hK _ _ ?_;clear hK K;exact hG w4 HT4
 ):zq:=h
theorem zm76(h:zq:=by
 have fcc:=cell_of_blk hfin;refine bodyPost_ret (v:= .tuple #[.agg #[xa none 0 0,xa none 0 0,xa none 0 0],xn false]) (by simp[results,results47,go_sem,fcc]) rfl ?_;exact⟨none,HD.out,hbf,rfl⟩
 ):zq:=h
theorem zm78(h:zq:=by
 have hx':t.acts[j]? =some x:=hx;have hj:=(List.getElem?_eq_some_iff.1 hx').1;obtain⟨g,h1,h2,h3⟩:=hD h.acts hj;exact⟨g,0,h1,h2,by rw[Nat.zero_add,h3];unfold jK;rw[List.getElem?_map,hx'];rfl⟩
 ):zq:=h
theorem zm84(h:zq:=by
 rw[e] at hx';have hf:=Option.some.inj hx';have hj:=(List.getElem?_eq_some_iff.1 e).1;obtain⟨g,h1,h2,h3⟩:=hD h.fl hj;exact⟨g,0,h1,h2,by rw[Nat.zero_add,h3,<-hf];unfold gU;simp_all⟩
 ):zq:=h
theorem zm97(h:zq:=by
 have e:jK (t.acts++[s])=jK t.acts++[xj s]:=by unfold jK;simp
 show w'.ownsRow base _ 1 A' (t.acts++[s]).length (jK (t.acts++[s]));rw[e,List.length_append];exact ho
 ):zq:=h
theorem zm101(h:zq:=by
 have e:gU (t.fl++[f])=gU t.fl++[xd xh (f:Int)]:=by rw[AM];rfl
 show w'.ownsRow base _ 1 F' (t.fl++[f]).length (gU (t.fl++[f]));rw[e,List.length_append];exact ho
 ):zq:=h
theorem zm121(h:zq:=by
 intro g cap w' h1 h2 h3 h4;exact h g cap w' h1 h2 (h3.imp id (fun e=>zo))
 ):zq:=h
theorem zm154(h:zq:=by
 cases hb;rw[hblk];refine⟨?_, ?_, ?_⟩<;>(intro e;injection e with e;injection e with _ e _;revert e;decide)
 ):zq:=h
theorem zm159(h:zq:=by
 have hr':=hr;obtain⟨q,hq,rfl⟩:=List.mem_map.1 hr';have:=hl.2.2.2 q hq;unfold zI;rw[List.length_map];omega
 ):zq:=h
def RdA(w:World)(rb:Nat)(l:List UInt8):Prop:= ∃s:ByteArray,s.data.toList=l/\w.heap[rb]? =some (xi #[xj s] 165 (0,0))
theorem RdA.lt{l:List UInt8}(h:RdA w rb l):rb<w.heap.size:=by obtain⟨_,_,h⟩:=h;exact fh h
theorem RdA.later{l:List UInt8}(h:RdA w rb l)(R:Below w.heap.size w w'):RdA w' rb l:=by
 obtain⟨s,J,I⟩:=h;exact⟨s,J,(R.block _ (fh I)).trans I⟩
theorem RdA.keep{l:List UInt8}{row:Option Nat}(h:RdA w rb l)(hg:w.grownBy w' row)(I:some rb≠row):RdA w' rb l:=by
 obtain⟨s,R,J⟩:=h;exact⟨s,R,(hg.block _ (fh J) I).trans J⟩
theorem sX(s:ByteArray)(n:Nat):(s.extract n s.size).data.toList=s.data.toList.drop n:=by
 rw[Lib.extract_data,Mt];simp
theorem Ay(s:ByteArray)(n:Nat):(s.extract 0 n).data.toList=s.data.toList.take n:=by
 simp
structure RdF (rb:Nat) (l:List UInt8) (w w':World):Prop where
 at':RdA w' rb l
 gr:w.grownBy w' (some rb)
theorem kL(w:World)(rb:Nat)(l:List UInt8)(h:RdA w rb l):
  Calls prog 135 #[xk (some ⟨rb,0,none⟩)] w fun e w'=>e=xm (xd xh ((ia l).1:Nat))/\RdF rb (ia l).2 w w':=by
 obtain⟨s,rfl,I⟩:=h;have hc:=cell_of_blk I 0;have hf:=fi I 0;have R:=fa I;clear I;cases hd:s.data.toList with
 |nil=>
  have hs:s=⟨#[]⟩:=ByteArray.ext za;subst hs;clear hd;go_in;go_wp2;go_ret;exact⟨rfl,⟨⟨#[]⟩,rfl,R⟩,⟨rfl,rfl,rfl,Mr _,fun _ _ _=>rfl⟩⟩
 |cons c r=>
  have J:0<s.size:=by rw[<-size_data,hd];simp
  have hne:s.toList.isEmpty=false:=by rw[ByteArray.toList_eq,hd];rfl
  have h0:s[0]=c:=by
   have:=drop_at s 0 J;simp_all
  have U:Hid ((s.extract 1 s.size).data.toList=r):=by show _=_;rw[sX,hd];rfl
  clear hd;have hc8:=c.toNat_lt;have hw64:wrap64 (c.toNat:Int)=(c.toNat:Int):=by unfold wrap64;omega
  go_in;go_wp2;go_ret;exact⟨rfl,⟨⟨_,U,fj R 0 _⟩,fK _ _ _ _⟩⟩
theorem DQ(s:ByteArray)(w:World)(I:s.size<=281474976710656):
  Calls prog 49 #[xj s] w fun e w'=>e=xm (xj s)/\Below w.heap.size w w':=by
 have R:=fa (Tryz.stringslite_Clone s w I);go_in;go_wp2_with fail;refine R.mono ?_;rintro e w1 ⟨rfl,J⟩;have HB:=fa J;clear J;go_wp2;go_ret;trivial
theorem sa(rb:Nat)(l:List UInt8)(n:Nat)(h:RdA w rb l)(hl:l.length<=1000)(hn:n<=1000):
  Calls prog 134 #[xk (some ⟨rb,0,none⟩),xd xh (n:Int)] w fun e w'=>e=xm (xj (lz n l).1)/\RdF rb (lz n l).2 w w':=by
 obtain⟨s,rfl,hb⟩:=h;have hc:=cell_of_blk hb 0;have HB:=fa hb;rw[size_data] at hl;have hmin:min (n:Int) (s.size:Int)=((min n s.size:Nat):Int):=zo;generalize hm:min n s.size=m at *;have hms:m<=s.size:=zo;have HT:Hid ((lz n s.data.toList).1=s.extract 0 m):=by
  show _=_;unfold lz;apply mw;simp_all
 have HD:Hid ((s.extract m s.size).data.toList=(lz n s.data.toList).2):=by
  show _=_;unfold lz;rw[sX,<-hm];simp
 have HC:=fa (DQ (s.extract 0 m) w (by
  rw[<-size_data,Ay,MV,size_data];omega))
 clear hb hm;go_in;go_wp2_with fail;refine HC.mono ?_;rintro e w1 ⟨rfl,J⟩;have I:=(J.block _ (fh HB)).trans HB;have hc1:=cell_of_blk I 0;have hf1:=fi I 0;have U:=fa I;have R:=fa J;clear I J hc;go_wp2;go_ret;exact⟨by rw[HT.out];rfl,⟨⟨_,HD,fj U 0 _⟩,(gC R _).trans (fK _ _ _ _)⟩⟩
def gU(l:List Nat):List Value:=l.map fun n:Nat=>xd xh (n:Int)
theorem vp(l:List Nat):(gU l).length=l.length:=by unfold gU;simp
theorem AM(l r:List Nat):gU (l++r)=gU l++gU r:=by unfold gU;simp
theorem wH: ∀(k:Nat) (l:List UInt8),iY (k+1) l=((iY k l).1++[(ia (iY k l).2).1],(ia (iY k l).2).2)
 |0,l=>rfl
 |k+1,l=>by
  rw[iY,wH k (ia l).2,iY];rfl
theorem nC: ∀(k:Nat) (l:List UInt8),(iY k l).1.length=k
 |0,_=>rfl
 |k+1,l=>by rw[iY,MX,nC]
theorem Tryz.infoI64:(prog.info? 3).map (fun i=>(i.zero,i.size,i.bytes))=some (some (xd xh 0),1,8):=zk
def jJ(L:List Nat)(c k:Nat):List Nat:=L.take k++MQ (c - k) 0
theorem qE{c k:Nat}(hL:k<=L.length)(hk:k<=c):(jJ L c k).length=c:=by unfold jJ;simp;omega
theorem wZ{c k:Nat}(hk:k<c)(I:L.length=k)(J:M=L++[x]):jJ M c (k+1)=(jJ L c k).set k x:=by
 subst J;unfold jJ;obtain⟨m,hm⟩: ∃m,c - k=m+1:=⟨c - k - 1,zo⟩;rw[hm,show c - (k+1)=m from zo,Mt (by simp[I]),Mt zo,List.set_append_right _ _ zo,I,Nat.sub_self,List.replicate_succ,ME];simp
def kR(l:List Nat):Array Value:=(gU l).toArray
theorem Bj(l:List Nat)(k x:Nat):(kR l).setIfInBounds k (xd xh (x:Int))=kR (l.set k x):=by
 unfold kR gU;simp
theorem rA{l:List Nat}{k:Nat}(h:l[k]? =some x):(kR l)[k]? =some (xd xh (x:Int)):=by
 unfold kR gU;simp_all
theorem y9(n:Nat):kR (MQ n 0)=Array.replicate n (xd xh 0):=by unfold kR gU;simp
theorem y8{g:Nat}{l:List Nat}(h:w.heap[g]? =some (xi (kR l) 3 (0,0)))(I:base<=g)(hn:l.length=n)(hm:n<=1000000):w.ownsRow base 3 1 (xa (some ⟨g,0,none⟩) n n) n (gU l):=by
 refine⟨by rw[vp,hn,MP],.inr ⟨g,n,_,rfl,I,h,Mr _,by unfold maxLen;omega, ?_, ?_⟩⟩
 ·unfold kR;rw[List.size_toArray,vp,hn,MP]
 unfold kR;rw[Mt (by simp[vp,hn])]
def Le(w:World)(rb:Nat)(l:List UInt8)(c:Nat)(w':World)(e:Ending):Prop:=
 e=xm (xa (some ⟨w.heap.size,0,none⟩) c c)/\w'.heap[w.heap.size]? =some (xi (kR (iY c l).1) 3 (0,0))/\RdF rb (iY c l).2 w w'
structure NR (w wr:World) (rb:Nat) (l:List UInt8) (c k:Nat):Prop where
 blk:wr.heap[w.heap.size]? =some (xi (kR (jJ (iY k l).1 c k)) 3 (0,0))
 rd:RdA wr rb (iY k l).2
 gr:w.grownBy wr (some rb)
theorem sC(rb:Nat){l:List UInt8}(c:Nat)(h:RdA w rb l)(hc:c<=1000):
  Calls prog 136 #[xk (some ⟨rb,0,none⟩),xd xh (c:Int)] w fun e w'=>Le w rb l c w' e:=by
 obtain⟨i0,ad,ai,aj,au⟩:=info_parts Tryz.infoI64;have hmk:=fun (w:World)=>p6 (P:=prog) w 33 3 i0 (xd xh 0) underlying33 ad ai aj rfl zo c zo
 clear ad ai aj au;have hlt:=h.lt;have ak:Hid (NR w (w.alloc (xi (Array.replicate c (xd xh 0)) 3)) rb l c 0):=by
  refine⟨?_,h.later gz,World.grownBy_alloc _ _ _⟩;rw[<-y9];have e:jJ (iY 0 l).1 c 0=MQ c 0:=zf;rw[e];exact ft _ _
 clear h;go_in;go_wp2_with fail;generalize w.alloc (xi (Array.replicate c (xd xh 0)) 3)=W0 at *
 go_loopw [11] (fun x wr=> ∃k:Nat,k<=c/\x=xd xh k/\Hid (NR w wr rb l c k)) (fun x _=>c - (intOf x).toNat)
 ·exact⟨0,MU _,rfl,ak⟩
 obtain⟨k,hk,rfl,U⟩:=hrel;rcases zc k c with⟨hlt2,hkn⟩|⟨hlt2,hkn⟩
 ·have HC:=fa (kL wr rb (iY k l).2 U.rd);have HS:=fa (wH k l);generalize hy:(ia (iY k l).2).1=y at *;generalize hq:(ia (iY k l).2).2=q at *;clear hy hq
  go_wp2_with (refine HC.mono ?_)
  rintro e w1 ⟨rfl,J⟩;have aa:some w.heap.size≠some rb:=fun e=>za
  have I:=(J.gr.block _ (fh U.blk) aa).trans U.blk;have gf:=fi I k;have ae:(jJ (iY k l).1 c k).length=c:=qE (by rw[nC];simp) hk;obtain⟨y0,ag⟩: ∃y0,(jJ (iY k l).1 c k)[k]? =some y0:=⟨_,Ms zo⟩;have gc:=(cell_of_blk I k).trans (rA ag);clear ag;have an:Hid (NR w (w1.setCell ⟨w.heap.size,k,none⟩ (xd xh (y:Int))) rb l c (k+1)):=by
   refine⟨?_, ?_, ?_⟩
   ·have:=fj I k (xd xh (y:Int));rw[Bj] at this;rw[wZ (L:=(iY k l).1) (x:=y) hlt2 (nC k l) (by rw[HS.out])];omega
   ·rw[HS.out];exact J.at'.keep (fK _ _ _ _) aa.symm
   exact gy (U.gr.trans J.gr) (Mr _) _ _
  clear I J ae aa;go_wp2
  go_roundw
  ·exact⟨k+1,zo,zf,an⟩
  simp[intOf];omega
 have ar:k=c:=zo;subst ar;have R:jJ (iY k l).1 k k=(iY k l).1:=by unfold jJ;rw[Mt (by rw[nC];simp)];simp
 have hb:=U.blk;rw[R] at hb;have HB:=fa hb;clear hb R;go_wp2;go_ret;exact⟨rfl,HB,U.rd,U.gr⟩
theorem vT: ∀(k:Nat) (l:List UInt8),iD (k+1) l=((iD k l).1++[(lz (ia (iD k l).2).1 (ia (iD k l).2).2).1],(lz (ia (iD k l).2).1 (ia (iD k l).2).2).2)
 |0,l=>rfl
 |k+1,l=>by
  rw[iD,vT k,iD];rfl
theorem qw: ∀(k:Nat) (l:List UInt8),(iD k l).1.length=k
 |0,_=>rfl
 |k+1,l=>by rw[iD,MX,qw]
theorem xq(c:Nat): ∀(k:Nat) (l:List UInt8),jw c (k+1) l=(((jw c k l).1.1++[(ia (jw c k l).2).1],(jw c k l).1.2++[(iY c (ia (jw c k l).2).2).1]),(iY c (ia (jw c k l).2).2).2)
 |0,l=>rfl
 |k+1,l=>by
  rw[jw,xq c k,jw];rfl
theorem tI(c:Nat): ∀(k:Nat) (l:List UInt8),(jw c k l).1.1.length=k/\(jw c k l).1.2.length=k
 |0,_=>⟨rfl,rfl⟩
 |k+1,l=>by
  rw[jw];have:=tI c k (iY c (ia l).2).2;simp_all
def jK(l:List ByteArray):List Value:=l.map xj
structure TbW (w:World) (base:Nat) (A F X:Value) (t:Tb) (rv:List Value):Prop where
 acts:w.ownsRow base 9 1 A t.acts.length (jK t.acts)
 fl:w.ownsRow base 3 1 F t.fl.length (gU t.fl)
 nx:w.ownsRow base 33 1 X t.nx.length rv
 rows: ∀(j:Nat) (r:List Nat),t.nx[j]? =some r-> ∃g c,rv[j]? =some (xa (some ⟨g,0,none⟩) r.length c)/\w.ownsRow base 3 1 (xa (some ⟨g,0,none⟩) r.length c) r.length (gU r)
 rf: ∀v∈rv,v.ownBlock≠F.ownBlock
 rr:rv.Pairwise fun u v=>u.ownBlock≠v.ownBlock
theorem TbW.rl(h:TbW w base A F X t rv):rv.length=t.nx.length:=by
 have:=h.nx.1;omega
theorem ja{size:Nat}(h:w.ownsRow base e size v n xs)(I:v.ownBlock=some b): ∃c,w.heap[b]? =some (xi c e (0,0)):=by
 obtain⟨_,⟨J,_⟩|⟨g,cap,cur,J,_,hg,_⟩⟩:=h
 ·rw[J] at I;cases I
 rw[J] at I;cases I;simp_all
theorem gE{size:Nat}{row:Option Nat}(h:w.ownsRow base e size v n xs)(hg:w.grownBy w' row)(I: ∀b,row=some b->v.ownBlock≠some b):w'.ownsRow base e size v n xs:=by
 refine gq h hg ?_;cases hv:v.ownBlock with
 |none=>simp
 |some k=>exact MY (fun e=>I k e.symm hv)
theorem TbW.other{row:Option Nat}(h:TbW w base A F X t rv)(hg:w.grownBy w' row)(hne: ∀b,row=some b-> ∀c m,w.heap[b]? ≠some (xi c 9 m)/\w.heap[b]? ≠some (xi c 3 m)/\w.heap[b]? ≠some (xi c 33 m)):TbW w' base A F X t rv:=by
 refine⟨gE h.acts hg fun b I e=> ?_,gE h.fl hg fun b I e=> ?_,gE h.nx hg fun b I e=> ?_,fun j r hr=> ?_,h.rf,h.rr⟩
 ·obtain⟨c,hc⟩:=ja h.acts e;simp_all
 ·obtain⟨c,hc⟩:=ja h.fl e;simp_all
 ·obtain⟨c,hc⟩:=ja h.nx e;simp_all
 obtain⟨g,c,R,J⟩:=h.rows j r hr;exact⟨g,c,R,gE J hg fun b I e=>by obtain⟨c',hc⟩:=ja J e;simp_all⟩
theorem TbW.later(h:TbW w base A F X t rv)(I:Below w.heap.size w w'):TbW w' base A F X t rv:=
 h.other (gC I none) (fun b e=>by cases e)
theorem TbW.act(h:TbW w base A F X t rv){s:ByteArray}(ho:w'.ownsRow base 9 1 A' (t.acts.length+1) (jK t.acts++[xj s]))(hg:w.grownBy w' A.ownBlock):TbW w' base A' F X ⟨t.acts++[s],t.fl,t.nx⟩ rv:=by
 have I: ∀{e n:Nat} {v:Value} {xs:List Value},w.ownsRow base e 1 v n xs->e≠9-> ∀b,A.ownBlock=some b->v.ownBlock≠some b:=fun {e n v xs} k hne b hb e1=>by
  obtain⟨c,hc⟩:=ja h.acts hb;exact gp k e1 hc (fun e=>hne e.symm)
 refine⟨?_,gE h.fl hg (I h.fl zp),gE h.nx hg (I h.nx zp),fun j r hr=> ?_,h.rf,h.rr⟩
 ·exact zm97
 obtain⟨g,c,R,J⟩:=h.rows j r hr;exact⟨g,c,R,gE J hg (I J zp)⟩
theorem TbW.flag(h:TbW w base A F X t rv)(ho:w'.ownsRow base 3 1 F' (t.fl.length+1) (gU t.fl++[xd xh (f:Int)]))(hg:w.grownBy w' F.ownBlock)(ae:F'.ownBlock=some g')(I:F.ownBlock=some g'\/w.heap.size<=g'):TbW w' base A F' X ⟨t.acts,t.fl++[f],t.nx⟩ rv:=by
 have U: ∀{e n:Nat} {v:Value} {xs:List Value},w.ownsRow base e 1 v n xs->e≠3-> ∀b,F.ownBlock=some b->v.ownBlock≠some b:=fun {e n v xs} k hne b hb e1=>by
  obtain⟨c,hc⟩:=ja h.fl hb;exact gp k e1 hc (fun e=>hne e.symm)
 have R: ∀v∈rv,∃g r c,v=xa (some ⟨g,0,none⟩) r c/\g<w.heap.size:=fun v hv=>by
  obtain⟨j,hj⟩:=List.mem_iff_getElem?.1 hv;have ai:j<t.nx.length:=by have:=(List.getElem?_eq_some_iff.1 hj).1;have:=h.rl;omega
  obtain⟨g,c,J,h2⟩:=h.rows j _ (Ms ai);rw[hj] at J;cases J;exact⟨g,_,c,rfl,(gG h2 g rfl).2⟩
 refine⟨gE h.acts hg (U h.acts zp), ?_,gE h.nx hg (U h.nx zp),fun j r hr=> ?_,fun v hv=> ?_,h.rr⟩
 ·exact zm101
 ·obtain⟨g,c,J,h2⟩:=h.rows j r hr;refine⟨g,c,J,gE h2 hg fun b hb e=> ?_⟩;exact h.rf _ (My J) (e.trans hb.symm)
 obtain⟨g,r,c,rfl,hlt⟩:=R v hv;rw[ae];intro e;have e':g=g':=Option.some.inj e;subst e';rcases I with I|I
 ·exact h.rf _ hv I.symm
 omega
theorem TbW.row(h:TbW w base A F X t rv){g c:Nat}(hr:w.ownsRow base 3 1 (xa (some ⟨g,0,none⟩) r.length c) r.length (gU r))(hF:F.ownBlock≠some g)(hv: ∀v∈rv,v.ownBlock≠some g)
  (ho:w'.ownsRow base 33 1 X' (t.nx.length+1) (rv++[xa (some ⟨g,0,none⟩) r.length c]))(hg:w.grownBy w' X.ownBlock):TbW w' base A F X' ⟨t.acts,t.fl,t.nx++[r]⟩ (rv++[xa (some ⟨g,0,none⟩) r.length c]):=by
 have I: ∀{e n:Nat} {v:Value} {xs:List Value},w.ownsRow base e 1 v n xs->e≠33-> ∀b,X.ownBlock=some b->v.ownBlock≠some b:=fun {e n v xs} k hne b U e1=>by
  obtain⟨c,hc⟩:=ja h.nx U;exact gp k e1 hc (fun e=>hne e.symm)
 have hl:=h.rl;refine⟨gE h.acts hg (I h.acts zp),gE h.fl hg (I h.fl zp), ?_,fun j q hq=> ?_,fun v ad=> ?_, ?_⟩
 ·show w'.ownsRow base _ 1 X' (t.nx++[r]).length _;rw[MF];exact ho
 ·rcases Nat.lt_or_ge j t.nx.length with hj|hj
  ·rw[Mz hj] at hq;obtain⟨g2,c2,R,h2⟩:=h.rows j q hq;exact⟨g2,c2,by rw[Mz zo];omega,gE h2 hg (I h2 zp)⟩
  rw[Mw hj] at hq;have J:j - t.nx.length=0:=by
   exact zm173
  rw[J] at hq;have aa:r=q:=za;subst aa;refine⟨g,c, ?_,gE hr hg (I hr zp)⟩;rw[Mw zo,hl,J];rfl
 ·rcases List.mem_append.1 ad with R|R
  ·exact h.rf v R
  rw[List.mem_singleton.1 R];exact fun e=>hF e.symm
 rw[MR];refine⟨h.rr,zp,fun a ha b U=> ?_⟩;rw[List.mem_singleton.1 U];exact hv a ha
theorem TbW.read{no:Option Addr}(h:TbW w base (xa ao na ac) (xa fo nf fc) (xa no nn nc) t rv)(hl:t.acts.length<=1000/\t.nx.length<=1000/\t.fl.length<=1000/\ ∀r∈t.nx,r.length<=1000):TbI w ao fo no ac t.z/\na=t.acts.length/\nf=t.fl.length/\nn=t.nx.length:=by
 have len: ∀{e n k c:Nat} {o:Option Addr} {xs:List Value},w.ownsRow base e 1 (xa o n c) k xs->n=k/\k<=c:=fun {e n k c o xs} ho=>by
  obtain⟨_,⟨hv,hn⟩|⟨g,cap,cur,hv,_,_,hle,_⟩⟩:=ho
  ·simp_all
  simp_all
 obtain⟨R,k1⟩:=len h.acts;obtain⟨I,_⟩:=len h.fl;obtain⟨U,_⟩:=len h.nx;subst R;subst I;subst U;refine⟨⟨fun j x hx=> ?_,fun j x hx=> ?_,fun j r hr=> ?_,k1, ?_, ?_, ?_,fun r hr=> ?_⟩,rfl,rfl,rfl⟩
 ·exact zm78
 ·have hx':(zI t.fl)[j]? =some x:=hx;unfold zI at hx';rw[Mx] at hx';cases e:t.fl[j]? with
  |none=>simp_all
  |some f=>
   exact zm84
 ·have hr':(t.nx.map zI)[j]? =some r:=hr;rw[Mx] at hr';cases e:t.nx[j]? with
  |none=>simp_all
  |some q=>
   rw[e] at hr';have hq:=Option.some.inj hr';subst hq;have hj:=(List.getElem?_eq_some_iff.1 e).1;obtain⟨g,h1,h2,h3⟩:=hD h.nx hj;obtain⟨g2,J,h4,h5⟩:=h.rows j q e;refine⟨g,0,some ⟨g2,0,none⟩,J,h1,h2,by rw[MO,h3,h4];unfold zI;simp,fun i x hx=> ?_⟩;unfold zI at hx;rw[Mx] at hx;cases I:q[i]? with
   |none=>simp_all
   |some y=>
    rw[I] at hx;have hy:=Option.some.inj hx;obtain⟨g3,k1,k2,k3⟩:=hD h5 (List.getElem?_eq_some_iff.1 I).1;cases k1;exact⟨g2,0,rfl,k2,by rw[MO,k3,<-hy];unfold gU;simp_all⟩
 ·show t.acts.length<=_;omega
 ·show(zI t.fl).length<=_;unfold zI;rw[MK];omega
 ·show(t.nx.map zI).length<=_;rw[MK];omega
 exact zm159
theorem ie{J z z' n':Nat}(h:w.ownsRow base e z v n xs)(U:w.ownsRow base' J z' v' n' xs')(I:e≠J): ∀b,v'.ownBlock=some b->v.ownBlock≠some b:=fun b hb R=>by
 obtain⟨c,hc⟩:=ja U hb;exact gp h R hc (fun e=>I e.symm)
theorem Fl{z cap g:Nat}(h:w.ownsRow base e z (xa (some ⟨g,0,none⟩) n cap) n xs)(i:Nat)(v:Value):(w.setCell ⟨g,i,none⟩ v).ownsRow base e z (xa (some ⟨g,0,none⟩) n cap) n (xs.set i v):=by
 exact zm64
theorem AK:(prog.info? 9).map (fun i=>(i.zero,i.size,i.bytes))=some (some (xj ⟨#[]⟩),1,16):=zk
theorem mX:(prog.info? 3).map (fun i=>(i.zero,i.size,i.bytes))=some (some (xd xh 0),1,8):=zk
theorem qX:(prog.info? 33).map (fun i=>(i.zero,i.size,i.bytes))=some (some (xa none 0 0),1,24):=zk
structure TbV (w:World) (base:Nat) (A F X:Value) (t:Tb) (rv:List Value):Prop where
 acts:w.ownsRow base 9 1 A t.acts.length (jK t.acts)
 fl:w.ownsRow base 3 1 F t.fl.length (gU t.fl)
 nx:w.ownsRow base 33 1 X t.nx.length rv
 rows: ∀(j:Nat) (r:List Nat),t.nx[j]? =some r-> ∃v,rv[j]? =some v/\w.ownsRow base 3 1 v r.length (gU r)
 rf: ∀v∈rv,∀b,v.ownBlock=some b->F.ownBlock≠some b
 rr:rv.Pairwise fun u v=> ∀b,u.ownBlock=some b->v.ownBlock≠some b
structure RwU (w:World) (base:Nat) (F:Value) (rv:List Value) (v:Value) (q:List Nat):Prop where
 own:w.ownsRow base 3 1 v q.length (gU q)
 nf: ∀b,v.ownBlock=some b->F.ownBlock≠some b
 nr: ∀b,v.ownBlock=some b-> ∀u∈rv,u.ownBlock≠some b
section
variable {w w' : World} {base : Nat} {A F X : Value} {t : Tb} {rv : List Value}
theorem TbV.rl(h:TbV w base A F X t rv):rv.length=t.nx.length:=by
 have:=h.nx.1;omega
theorem TbV.row_at(h:TbV w base A F X t rv)(hv:v∈rv): ∃r:List Nat,w.ownsRow base 3 1 v r.length (gU r):=by
 obtain⟨j,R⟩:=List.mem_iff_getElem?.1 hv;have I:j<t.nx.length:=by have:=(List.getElem?_eq_some_iff.1 R).1;have:=h.rl;omega
 obtain⟨u,J,U⟩:=h.rows j _ (Ms I);rw[R] at J;cases J;exact⟨_,U⟩
theorem TbV.grow{row:Option Nat}(h:TbV w base A F X t rv)(hg:w.grownBy w' row)(I: ∀b,row=some b->A.ownBlock≠some b/\F.ownBlock≠some b/\X.ownBlock≠some b/\ ∀v∈rv,v.ownBlock≠some b):TbV w' base A F X t rv:=
 ⟨gE h.acts hg fun b J=>(I b J).1,gE h.fl hg fun b J=>(I b J).2.1,gE h.nx hg fun b J=>(I b J).2.2.1,fun j r hr=>by
  obtain⟨v,R,U⟩:=h.rows j r hr;exact⟨v,R,gE U hg fun b J=>(I b J).2.2.2 v (My R)⟩,h.rf,h.rr⟩
theorem TbV.other{row:Option Nat}(h:TbV w base A F X t rv)(hg:w.grownBy w' row)(hne: ∀b,row=some b-> ∀c m,w.heap[b]? ≠some (xi c 9 m)/\w.heap[b]? ≠some (xi c 3 m)/\w.heap[b]? ≠some (xi c 33 m)):TbV w' base A F X t rv:=by
 refine h.grow hg fun b hb=>⟨fun e=> ?_,fun e=> ?_,fun e=> ?_,fun v I e=> ?_⟩
 ·obtain⟨c,hc⟩:=ja h.acts e;simp_all
 ·obtain⟨c,hc⟩:=ja h.fl e;simp_all
 ·obtain⟨c,hc⟩:=ja h.nx e;simp_all
 obtain⟨r,hr⟩:=h.row_at I;obtain⟨c,hc⟩:=ja hr e;simp_all
theorem TbV.later(h:TbV w base A F X t rv)(I:Below w.heap.size w w'):TbV w' base A F X t rv:=
 h.grow (gC I none) (fun b e=>by cases e)
theorem TbV.cellO(h:TbV w base A F X t rv){ty:Nat}(hb:w.heap[b]? =some (xi c ty m))(hne:ty≠9/\ty≠3/\ty≠33)(i:Nat)(x:Value):TbV (w.setCell ⟨b,i,none⟩ x) base A F X t rv:=by
 refine h.other (fK w b i x) fun k hk c' m'=> ?_
 simp_all
theorem TbV.act(h:TbV w base A F X t rv){s:ByteArray}(ho:w'.ownsRow base 9 1 A' (t.acts.length+1) (jK t.acts++[xj s]))(hg:w.grownBy w' A.ownBlock):TbV w' base A' F X ⟨t.acts++[s],t.fl,t.nx⟩ rv:=by
 refine⟨?_,gE h.fl hg (ie h.fl h.acts zp),gE h.nx hg (ie h.nx h.acts zp),fun j r hr=> ?_,h.rf,h.rr⟩
 ·exact zm97
 obtain⟨v,J,I⟩:=h.rows j r hr;exact⟨v,J,gE I hg (ie I h.acts zp)⟩
theorem TbV.flag(h:TbV w base A F X t rv)(ho:w'.ownsRow base 3 1 F' (t.fl.length+1) (gU t.fl++[xd xh (f:Int)]))(hg:w.grownBy w' F.ownBlock)(R:F'.ownBlock=some g')(I:F.ownBlock=some g'\/w.heap.size<=g'):TbV w' base A F' X ⟨t.acts,t.fl++[f],t.nx⟩ rv:=by
 refine⟨gE h.acts hg (ie h.acts h.fl zp), ?_,gE h.nx hg (ie h.nx h.fl zp),fun j r hr=> ?_,fun v hv b J=> ?_,h.rr⟩
 ·exact zm101
 ·obtain⟨v,U,h2⟩:=h.rows j r hr;exact⟨v,U,gE h2 hg fun b J e=>h.rf v (My U) b e J⟩
 rw[R];intro e;have e':=Option.some.inj e;subst e';rcases I with I|I
 ·exact h.rf v hv _ J I
 obtain⟨r,hr⟩:=h.row_at hv;have:=(gG hr _ J).2;omega
theorem RwU.start(w:World)(base:Nat)(F:Value)(rv:List Value):RwU w base F rv (xa none 0 0) []:=
 ⟨MH _ _ _ _,fun b I=>(by cases I),fun b I=>(by cases I)⟩
theorem RwU.grow{row:Option Nat}(h:RwU w base F rv v q)(hg:w.grownBy w' row)(I: ∀b,row=some b->v.ownBlock≠some b):RwU w' base F rv v q:=
 ⟨gE h.own hg I,h.nf,h.nr⟩
theorem RwU.later(h:RwU w base F rv v q)(I:Below w.heap.size w w'):RwU w' base F rv v q:=⟨fL h.own I,h.nf,h.nr⟩
theorem TbV.apart(h:TbV w base A F X t rv)(J:RwU w base F rv v q): ∀b,v.ownBlock=some b->A.ownBlock≠some b/\F.ownBlock≠some b/\X.ownBlock≠some b/\ ∀u∈rv,u.ownBlock≠some b:=fun b I=>
 ⟨ie h.acts J.own zp b I,J.nf b I,ie h.nx J.own zp b I,J.nr b I⟩
theorem TbV.num(h:TbV w base A F X t rv)(hu:RwU w base F rv v q)(ho:w'.ownsRow base 3 1 v' (q.length+1) (gU q++[xd xh (x:Int)]))(hg:w.grownBy w' v.ownBlock)(U:v'.ownBlock=some g')(I:v.ownBlock=some g'\/w.heap.size<=g'):
  TbV w' base A F X t rv/\RwU w' base F rv v' (q++[x]):=by
 refine⟨h.grow hg (h.apart hu), ?_,fun b J=> ?_,fun b J u R=> ?_⟩
 ·have e:gU (q++[x])=gU q++[xd xh (x:Int)]:=by rw[AM];rfl
  rw[e,MF];exact ho
 ·rw[U] at J;cases J;rcases I with I|I
  ·exact hu.nf _ I
  intro e;have:=(gG h.fl _ e).2;omega
 rw[U] at J;cases J;rcases I with I|I
 ·exact hu.nr _ I u R
 intro e;obtain⟨r,hr⟩:=h.row_at R;have:=(gG hr _ e).2;omega
theorem TbV.row(h:TbV w base A F X t rv)(hu:RwU w base F rv v r)(ho:w'.ownsRow base 33 1 X' (t.nx.length+1) (rv++[v]))(hg:w.grownBy w' X.ownBlock):TbV w' base A F X' ⟨t.acts,t.fl,t.nx++[r]⟩ (rv++[v]):=by
 have hl:=h.rl;refine⟨gE h.acts hg (ie h.acts h.nx zp),gE h.fl hg (ie h.fl h.nx zp), ?_,fun j q hq=> ?_,fun u ae b J=> ?_, ?_⟩
 ·show w'.ownsRow base _ 1 X' (t.nx++[r]).length _;rw[MF];exact ho
 ·rcases Nat.lt_or_ge j t.nx.length with hj|hj
  ·have I:t.nx[j]? =some q:=by rw[<-hq];exact(Mz hj).symm
   obtain⟨u,U,h2⟩:=h.rows j q I;exact⟨u,by rw[Mz zo];omega,gE h2 hg (ie h2 h.nx zp)⟩
  have I:[r][j - t.nx.length]? =some q:=by rw[<-hq];exact(Mw hj).symm
  have R:j - t.nx.length=0:=by
   have:=(List.getElem?_eq_some_iff.1 I).1;simp_all
  rw[R] at I;have ad:r=q:=za;subst ad;refine⟨v, ?_,gE hu.own hg (ie hu.own h.nx zp)⟩;rw[Mw zo,hl,R];rfl
 ·rcases List.mem_append.1 ae with U|U
  ·exact h.rf u U b J
  rw[List.mem_singleton.1 U] at J;exact hu.nf b J
 rw[MR];refine⟨h.rr,zp,fun a ha b J k hk e=> ?_⟩;rw[List.mem_singleton.1 J] at e;exact hu.nr k e a ha hk
theorem G6(l:List Nat)(i x:Nat):(gU l).set i (xd xh (x:Int))=gU (l.set i x):=by unfold gU;simp
theorem TbV.fset{fb c:Nat}(h:TbV w base A (xa (some ⟨fb,0,none⟩) N c) X t rv)(R:t.fl.length=N)(i x:Nat):TbV (w.setCell ⟨fb,i,none⟩ (xd xh (x:Int))) base A (xa (some ⟨fb,0,none⟩) N c) X ⟨t.acts,t.fl.set i x,t.nx⟩ rv:=by
 have hg:=fK w fb i (xd xh (x:Int));have I: ∀b,some fb=some b->(xa (some ⟨fb,0,none⟩) N c).ownBlock=some b:=fun b e=>e
 have hf:=h.fl;refine⟨gE h.acts hg fun b e=>ie h.acts hf zp b (I b e), ?_,gE h.nx hg fun b e=>ie h.nx hf zp b (I b e),fun j r hr=> ?_,h.rf,h.rr⟩
 ·rw[R] at hf;have:=Fl hf i (xd xh (x:Int));rw[G6] at this;show World.ownsRow _ _ _ _ _ (t.fl.set i x).length (gU (t.fl.set i x));rw[List.length_set,R];exact this
 obtain⟨v,J,h2⟩:=h.rows j r hr;exact⟨v,J,gE h2 hg fun b e U=>h.rf v (My J) b U (I b e)⟩
theorem RwU.fset{fb c:Nat}(h:RwU w base (xa (some ⟨fb,0,none⟩) N c) rv v q)(i:Nat)(x:Value):RwU (w.setCell ⟨fb,i,none⟩ x) base (xa (some ⟨fb,0,none⟩) N c) rv v q:=
 h.grow (fK w fb i x) fun b I e=>h.nf b e I
theorem TbV.rws{no:Option Addr}(h:TbV w base A F (xa no nn nc) t rv)(hn:t.nx.length=nn):RwS w no (t.nx.map zI):=fun j r hr=>by
 rw[Mx] at hr;cases e:t.nx[j]? with
 |none=>simp_all
 |some q=>
  rw[e] at hr;have hq:=Option.some.inj hr;subst hq;have hj:=(List.getElem?_eq_some_iff.1 e).1;have I:=h.nx;rw[hn] at I;obtain⟨g,h1,h2,h3⟩:=hD I (show j<nn from zo);obtain⟨v,h4,R⟩:=h.rows j q e;obtain⟨o,U,rfl⟩:=iw R;refine⟨g,0,o,U,h1,h2,by rw[MO,h3,h4];unfold zI;simp,fun i x J=> ?_⟩;unfold zI at J;rw[Mx] at J;cases e2:q[i]? with
  |none=>simp_all
  |some y=>
   rw[e2] at J;have hy:=Option.some.inj J;obtain⟨g3,k1,k2,k3⟩:=hD R (List.getElem?_eq_some_iff.1 e2).1;exact⟨g3,0,k1,k2,by rw[MO,k3,<-hy];unfold gU;simp_all⟩
theorem TbV.read{no:Option Addr}(h:TbV w base (xa ao na ac) (xa fo nf fc) (xa no nn nc) t rv)(hl:t.acts.length<=1000/\t.nx.length<=1000/\t.fl.length<=1000/\ ∀r∈t.nx,r.length<=1000):TbI w ao fo no ac t.z/\na=t.acts.length/\nf=t.fl.length/\nn=t.nx.length:=by
 have len: ∀{e n k c:Nat} {o:Option Addr} {xs:List Value},w.ownsRow base e 1 (xa o n c) k xs->n=k/\k<=c:=fun {e n k c o xs} ho=>by
  obtain⟨_,⟨hv,hn⟩|⟨g,cap,cur,hv,_,_,hle,_⟩⟩:=ho
  ·simp_all
  simp_all
 obtain⟨R,k1⟩:=len h.acts;obtain⟨U,_⟩:=len h.fl;obtain⟨J,_⟩:=len h.nx;have I:=h.rws J.symm;subst R;subst U;subst J;refine⟨⟨fun j x hx=> ?_,fun j x hx=> ?_,I,k1, ?_, ?_, ?_,fun r hr=> ?_⟩,rfl,rfl,rfl⟩
 ·exact zm78
 ·have hx':(zI t.fl)[j]? =some x:=hx;unfold zI at hx';rw[Mx] at hx';cases e:t.fl[j]? with
  |none=>simp_all
  |some f=>
   exact zm84
 ·show t.acts.length<=_;omega
 ·show(zI t.fl).length<=_;unfold zI;rw[MK];omega
 ·show(t.nx.map zI).length<=_;rw[MK];omega
 exact zm159
theorem TbV.toW(h:TbV w base A F X t rv)(U: ∀r∈t.nx,1<=r.length):TbW w base A F X t rv:=by
 have I: ∀v∈rv,∃g,v.ownBlock=some g:=fun v hv=>by
  obtain⟨j,hj⟩:=List.mem_iff_getElem?.1 hv;have R:j<t.nx.length:=by have:=(List.getElem?_eq_some_iff.1 hj).1;have:=h.rl;omega
  obtain⟨u,h1,J⟩:=h.rows j _ (Ms R);rw[hj] at h1;cases h1;obtain⟨o,c,rfl⟩:=iw J;obtain⟨g,rfl,_,_⟩:=hD J (U _ (List.getElem_mem R));exact⟨g,rfl⟩
 refine⟨h.acts,h.fl,h.nx,fun j r hr=> ?_,fun v hv e=> ?_,h.rr.imp_of_mem fun {a b} ha hb hab e=> ?_⟩
 ·obtain⟨v,h1,J⟩:=h.rows j r hr;obtain⟨o,c,rfl⟩:=iw J;obtain⟨g,rfl,_,_⟩:=hD J (U r (My hr));exact⟨g,c,h1,J⟩
 ·obtain⟨g,hg⟩:=I v hv;exact h.rf v hv g hg (e▸hg)
 obtain⟨g,hg⟩:=I a ha;exact hab g hg (e▸hg)
end
theorem rJ{rest:List Oper}(U:o.guard=none)(s x:Operand)(t:TypeId)(ho:o.op= .call {callee:= .builtin .append,args:= #[s,x],argTypes:= #[t,t]})(W:World)(base e:Nat){z:Value} 
  (hT:(prog.info? e).map (fun i=>(i.zero,i.size,i.bytes))=some (some z,1,bytes))(ai:z.cells.size=1)(ht:prog.underlying t=some (.slice e))(hs:a.eval s=v)(u:Value)(hx:a.eval x=xa (some ⟨H,0,none⟩) 1 1)(hu:u.oneCell'=true)(J:W.ownsRow base e 1 v n xs)(R:(n+1) * (bytes+1)<=140737488355328)(hbase:base<=W.heap.size)(hH:W.heap.size=H)
  (h: ∀g cap w',w'.ownsRow base e 1 (xa (some ⟨g,0,none⟩) (n+1) cap) (n+1) (xs++[u])->(W.alloc (xi #[u] e)).grownBy w' v.ownBlock->(v.ownBlock=some g\/H<g)->wpList prog ops Q rest (a.put o.dst (xa (some ⟨g,0,none⟩) (n+1) cap)) w'):wpList prog ops Q (o::rest) a (W.alloc (xi #[u] e)):=by
 obtain⟨i0,aa,ad,ae,ag⟩:=info_parts hT;rw[Nat.mul_add,MP] at R;subst hH;refine wpList_append_lies _ U s x t ho base e i0 z 1 bytes ht aa ad ae ag ai zp v n xs hs (J.alloc _) ⟨W.heap.size,0,none⟩ 1 1 [u] hx rfl ?_ ?_ zp ?_ ?_ ?_ (W.heap.size+1) zp ?_
 ·intro j y I
  match j,I with
  |0,I=>simp at I;subst I;exact cell_of_blk (fk _ _ _ zp) 0
  |j+1,I=>simp at I
 ·simp_all
 ·unfold maxLen;omega
 ·omega
 ·simp;omega
 exact zm121
theorem DY(U:o.guard=none)(s x:Operand)(t:TypeId)(ho:o.op= .call {callee:= .builtin .append,args:= #[s,x],argTypes:= #[t,t]})(base e:Nat){z:Value} 
  (hT:(prog.info? e).map (fun i=>(i.zero,i.size,i.bytes))=some (some z,1,bytes))(ai:z.cells.size=1)(ht:prog.underlying t=some (.slice e))(hs:a.eval s=v)(u:Value)(hx:a.eval x=xa (some ⟨H,0,none⟩) 1 1)(hu:u.oneCell'=true)(J:w.ownsRow base e 1 v n xs)(hb:w.heap[H]? =some (xi #[u] e (0,0)))(R:(n+1) * (bytes+1)<=140737488355328)(I:base<=w.heap.size)
  (h: ∀g cap w',w'.ownsRow base e 1 (xa (some ⟨g,0,none⟩) (n+1) cap) (n+1) (xs++[u])->w.grownBy w' v.ownBlock->(v.ownBlock=some g\/w.heap.size<=g)->K (a.put o.dst (xa (some ⟨g,0,none⟩) (n+1) cap)) w'):
  if Region.wanted o (yielded ops a.tmps)=true then Oper.wp prog o a w K Q else E:=by
 obtain⟨i0,aa,ad,ae,ag⟩:=info_parts hT;rw[Nat.mul_add,MP] at R;refine step_append_lies _ U s x t ho base e i0 z 1 bytes ht aa ad ae ag ai zp v n xs hs J ⟨H,0,none⟩ 1 1 [u] hx rfl (World.news_of_block hb) ?_ zp ?_ ?_ I w.heap.size rfl ?_
 ·simp_all
 ·unfold maxLen;omega
 ·omega
 exact zm121
structure TR (w W:World) (rb tb:Nat) (A F X:Value) (t:Tb) (rv:List Value) (l:List UInt8):Prop where
 res:W.heap[w.heap.size]? =some (xi #[xa none 0 0,xa none 0 0,xa none 0 0] 36 (0,0))
 blk:W.heap[tb]? =some (xi #[A,F,X] 36 (0,0))
 htb:w.heap.size<tb
 hrb:rb<w.heap.size
 rd:RdA W rb l
 gr:w.grownBy W (some rb)
 tab:TbW W w.heap.size A F X t rv
theorem RdF.tabs{l:List UInt8}(hf:RdF rb l w W)(h:TbW w base A F X t rv){l0:List UInt8}(I:RdA w rb l0):TbW W base A F X t rv:=
 h.other hf.gr fun b J c m=>by
  cases J;obtain⟨s,_,hs⟩:=I;simp_all
theorem TR.read{l I:List UInt8}(h:TR w W rb tb A F X t rv l)(hf:RdF rb I W W'):TR w W' rb tb A F X t rv I:=
 ⟨(hf.gr.block _ (fh h.res) (fun e=>by cases e;have:=h.hrb;omega)).trans h.res,(hf.gr.block _ (fh h.blk) (fun e=>by cases e;have:=h.hrb;have:=h.htb;omega)).trans h.blk,h.htb,h.hrb,hf.at',h.gr.trans hf.gr,hf.tabs h.tab h.rd⟩
theorem TR.later{l:List UInt8}(h:TR w W rb tb A F X t rv l)(I:Below W.heap.size W W'):TR w W' rb tb A F X t rv l:=
 ⟨(I.block _ (fh h.res)).trans h.res,(I.block _ (fh h.blk)).trans h.blk,h.htb,h.hrb,h.rd.later I,h.gr.trans (gC I _),h.tab.later I⟩
theorem TR.grow{V:Value}{t':Tb}{l:List UInt8}(h:TR w W rb tb A F X t rv l)(U:W.ownsRow w.heap.size e 1 V n xs)(hg:W.grownBy W' V.ownBlock)(he:e=9\/e=3\/e=33)
  (ht:TbW W' w.heap.size A' F' X' t' rv')(i:Nat)(v:Value)(hc:(#[A,F,X]:Array Value).setIfInBounds i v= #[A',F',X']):TR w (W'.setCell ⟨tb,i,none⟩ v) rb tb A' F' X' t' rv' l:=by
 have J: ∀{b ty:Nat} {c:Array Value},W.heap[b]? =some (xi c ty (0,0))->ty≠9/\ty≠3/\ty≠33->some b≠V.ownBlock:=fun {b ty c} hb I e1=>by
  rcases he with rfl|rfl|rfl
  ·exact gp U e1.symm hb I.1
  ·exact gp U e1.symm hb I.2.1
  exact gp U e1.symm hb I.2.2
 have R:=(hg.block _ (fh h.res) (J h.res zp)).trans h.res;have hblk:=(hg.block _ (fh h.blk) (J h.blk zp)).trans h.blk;have ae:RdA W' rb l:=by
  obtain⟨s,h1,h2⟩:=h.rd;exact⟨s,h1,(hg.block _ (fh h2) (J h2 zp)).trans h2⟩
 have I:w.heap.size≠tb:=by have:=h.htb;omega
 refine⟨(MT _ _ _ _ I).trans R, ?_,h.htb,h.hrb, ?_, ?_, ?_⟩
 ·have:=fj hblk i v;simp_all
 ·exact ae.keep (fK _ _ _ _) (fun e=>by cases e;have:=h.hrb;have:=h.htb;omega)
 ·refine⟨hg.os.trans h.gr.os,hg.tape.trans h.gr.tape,hg.output.trans h.gr.output, ?_,fun k hk ad=> ?_⟩
  ·have:=h.gr.size;have:=hg.size;simp[World.setCell];omega
  refine(MT _ _ _ _ (by show k≠tb;have:=h.htb;omega)).trans ((hg.block k (MG hk h.gr.size) (fun e=> ?_)).trans (h.gr.block k hk ad));have:=(gG U k e.symm).1;omega
 refine ht.other (fK _ _ _ _) (fun b hb c m=> ?_);exact zm154
theorem Tryz.infoStrT:(prog.info? 9).map (fun i=>(i.zero,i.size,i.bytes))=some (some (xj ⟨#[]⟩),1,16):=zk
theorem Tryz.infoRowT:(prog.info? 33).map (fun i=>(i.zero,i.size,i.bytes))=some (some (xa none 0 0),1,24):=zk
theorem TR.start{l:List UInt8}(I:W.heap[w.heap.size]? =some (xi #[xa none 0 0,xa none 0 0,xa none 0 0] 36 (0,0)))(J:W.heap[tb]? =some (xi #[xa none 0 0,xa none 0 0,xa none 0 0] 36 (0,0)))(R:w.heap.size<tb)(U:rb<w.heap.size)(h5:RdA W rb l)(h6:w.grownBy W (some rb)):
  TR w W rb tb (xa none 0 0) (xa none 0 0) (xa none 0 0) ⟨[],[],[]⟩ [] l:=
 ⟨I,J,R,U,h5,h6,⟨MH _ _ _ _,MH _ _ _ _,MH _ _ _ _,fun j r hr=>zv,fun v hv=>zv,List.Pairwise.nil⟩⟩
def Li(w:World)(rb:Nat)(t:Tb)(w':World)(e:Ending):Prop:= ∃A F X rv,e=xm (.agg #[A,F,X])/\TbW w' w.heap.size A F X t rv/\w.grownBy w' (some rb)
theorem r6{l:List UInt8}(h:l.length<=n):(ia l).2.length<=n:=Nat.le_trans (Hn l) h
theorem IN{l:List UInt8}{k:Nat}(h:l.length<=n):(lz k l).2.length<=n:=by unfold lz;simp;omega
theorem ym: ∀(k:Nat) {l:List UInt8},l.length<=n->(iD k l).2.length<=n
 |0,_,h=>h
 |k+1,_,h=>by rw[iD];exact ym k (IN (r6 h))
theorem Cl{l:List UInt8}(h:RdA w rb l)(hl:l.length<=1000):
  Calls prog 89 #[xk (some ⟨rb,0,none⟩)] w fun e w'=>Li w rb (om l) w' e:=by
 obtain⟨i0,br,bH,bI,bJ⟩:=info_parts Tryz.infoStrT;obtain⟨j0,bt,bE,bF,bG⟩:=info_parts Tryz.infoI64;obtain⟨k0,bw,bB,bC,bD⟩:=info_parts Tryz.infoRowT;have hrb:=h.lt;have HA:=fa h;have hB:=iz w (xi #[xa none 0 0,xa none 0 0,xa none 0 0] 36);have ba:=fa (h.later hB);have HB:=fa hB;have aG:=fa (ft w (xi #[xa none 0 0,xa none 0 0,xa none 0 0] 36));clear h hB;go_in
 go_wp2_with (refine(sa rb l 2 ba hl zp).mono ?_)
 rintro e w1 ⟨rfl,ay⟩;generalize hW0:w.alloc (xi #[xa none 0 0,xa none 0 0,xa none 0 0] 36)=W0 at *;have aW:=fh aG;have aI:=(ay.gr.block _ (fh aG) (fun e=>za)).trans aG;have aH:Hid (TR w (w1.alloc (xi #[xa none 0 0,xa none 0 0,xa none 0 0] 36)) rb w1.heap.size (xa none 0 0) (xa none 0 0) (xa none 0 0) ⟨[],[],[]⟩ [] (l.drop 2)):=by
  have hbb:=iz w1 (xi #[xa none 0 0,xa none 0 0,xa none 0 0] 36);refine TR.start ((hbb.block _ (fh aI)).trans aI) (ft _ _) (MG aW ay.gr.size) hrb (ay.at'.later hbb) ?_;exact((gC HB _).trans ay.gr).trans (gC hbb _)
 clear aI ay hW0
 go_wp2_with (refine(kL _ rb _ aH.rd).mono ?_)
 rintro e w2 ⟨rfl,aP⟩;have aM:=fa (aH.read aP);clear aP;generalize w1.heap.size=tb at *;generalize hn1:(ia (l.drop 2)).1=n1 at *;generalize hl1:(ia (l.drop 2)).2=l1 at *;have hn256:n1<256:=by rw[<-hn1];exact pI _
 have aR:l1.length<=1000:=by rw[<-hl1];exact r6 zs
 have aL:Hid (mD l=iD n1 l1):=by show _=_;unfold mD;simp_all
 clear hn1 hl1;go_wp2
 go_loopw [8] (fun x wr=> ∃(k:Nat) (ao:Option Addr) (ac:Nat),k<=n1/\x=xd xh k/\Hid (TR w wr rb tb (xa ao k ac) (xa none 0 0) (xa none 0 0) ⟨(iD k l1).1,[],[]⟩ [] (iD k l1).2)) (fun x _=>n1 - (intOf x).toNat)
 ·exact⟨0,none,0,MU _,rfl,aM⟩
 obtain⟨k,ao,ac,hk,rfl,HT⟩:=hrel;have hfew:=ym k aR;rcases zc k n1 with⟨hlt,hkn⟩|⟨hlt,hkn⟩
 ·go_wp2_with fail;refine wp_region_any zk ?_;change wpAny _ _ _ _ _ _ _ (MZ _);apply zt0 0 (xk (some ⟨tb,0,none⟩));apply zt0 2 (xk (some ⟨rb,0,none⟩));apply zt0 3 (xk (some ⟨rb,0,none⟩));have ag:=fa (HT.later (W':=wr.drew) ((MC _ _).drew));refine(fun hG=> ?main) (?suf: ∀w4:World,Hid (TR w w4 rb tb (xa ao k ac) (xa none 0 0) (xa none 0 0) ⟨(iD k l1).1,[],[]⟩ [] (lz (ia (iD k l1).2).1 (ia (iD k l1).2).2).2)->(?G:World->Prop) w4)
  case main=>
   refine zr2 1 4 (fun K hK=> ?_) fun K hK=> ?_
   ·have R:=cell_of_blk ag.blk 0;go_simp;refine hK _ _ ?_;clear hK K;clear R;apply zr 4;intro K hK;go_simp;refine(kL _ rb _ ag.rd).mono ?_;rintro e w3 ⟨rfl,ai⟩;have HT3:=fa (ag.read ai);refine hK _ _ ?_;clear hK K ai;exact zm56
   go_simp;refine(kL _ rb _ ag.rd).mono ?_;rintro e w3 ⟨rfl,ai⟩;have HT3:=fa (ag.read ai);refine hK _ _ ?_;clear hK K ai;refine zr2 1 5 (fun K hK=> ?_) fun K hK=> ?_
   ·have R:=cell_of_blk HT3.blk 0;go_simp;refine hK _ _ ?_;clear hK K;clear R;exact zm56
   go_simp;refine(sa rb _ _ HT3.rd (r6 hfew) (Nat.le_of_lt (MG (pI _) zp))).mono ?_;rintro e w4 ⟨rfl,hf4⟩;have HT4:=fa (HT3.read hf4);refine hK _ _ ?_;clear hK K hf4;refine zr2 1 6 (fun K hK=> ?_) fun K hK=> ?_
   ·have R:=cell_of_blk HT4.blk 0;go_simp;refine hK _ _ ?_;clear hK K;clear R;apply zr 6;intro K hK;go_simp;refine hK _ _ ?_;clear hK K;exact hG w4 HT4
   go_simp;refine hK _ _ ?_;clear hK K;apply zr 1;intro K hK;have R:=cell_of_blk (HT4.later ((MC _ _).alloc (Mr _) (xi #[xj (lz (ia (iD k l1).2).1 (ia (iD k l1).2).2).1] 9))).blk 0;go_simp;refine hK _ _ ?_;clear hK K;clear R;exact hG w4 HT4
  intro w4 HT4;have aA:=qw k l1;have HS:=fa (vT k l1);have bj:=fh HT4.res;apply zr 7;intro K hK;refine step_append_lies _ zf _ _ 25 zf w.heap.size 9 i0 (xj ⟨#[]⟩) 1 16 underlying25 br bH bI bJ rfl zp (xa ao k ac) k (jK (iD k l1).1) zf ?c0 ⟨w4.heap.size,0,none⟩ 1 1 [xj (lz (ia (iD k l1).2).1 (ia (iD k l1).2).2).1] zf rfl ?c1 ?c2 zp ?c3 ?c4 ?c5 (w4.heap.size+1) ?c6 ?_
  case c0=>have:=HT4.tab.acts;simp only[aA] at this;exact this.alloc _
  case c1=>
   intro j u hj
   match j,hj with
   |0,hj=>simp at hj;subst hj;simp[Addr.add]
   |j+1,hj=>simp at hj
  case c2=>intro u hu;simp at hu;subst hu;rfl
  case c3=>unfold maxLen;omega
  case c4=>omega
  case c5=>simp;omega
  case c6=>simp
  intro g5 U w5 ae J ar az;have aq:TbW (w4.alloc (xi #[xj (lz (ia (iD k l1).2).1 (ia (iD k l1).2).2).1] 9)) w.heap.size (xa ao k ac) (xa none 0 0) (xa none 0 0) ⟨(iD k l1).1,[],[]⟩ []:=HT4.tab.later gz;have I:=HT4.later ((MC _ _).alloc (Mr _) (xi #[xj (lz (ia (iD k l1).2).1 (ia (iD k l1).2).2).1] 9));have ad:=aq.act (A':= xa (some ⟨g5,0,none⟩) (k+1) U) (s:=(lz (ia (iD k l1).2).1 (ia (iD k l1).2).2).1) (by simp only[aA];exact ae) J;have aa:=(J.block tb (fh I.blk) (fun e=>gp aq.acts e.symm I.blk zp)).trans I.blk;have ak:Hid (TR w (w5.setCell ⟨tb,0,none⟩ (xa (some ⟨g5,0,none⟩) (k+1) U)) rb tb (xa (some ⟨g5,0,none⟩) (k+1) U) (xa none 0 0) (xa none 0 0) ⟨(iD (k+1) l1).1,[],[]⟩ [] (iD (k+1) l1).2):=by
   rw[HS.out];exact I.grow aq.acts J (Or.inl rfl) ad 0 _ rfl
  have aJ:=cell_of_blk aa 0;have au:=fi aa 0;refine hK _ _ ?_;clear hK K aq I ad aa ae J ar az
  try simp only[Act.put,MD,ME,MN,ML,MI,MJ]
  apply zt0 8 (xk (some ⟨tb,0,none⟩));apply zr 9;intro K hK;go_simp;refine hK _ _ ?_;clear hK K aJ au bj;refine wpAny_done zk ?_ _;go_wp2
  go_roundw
  ·exact⟨k+1,some ⟨g5,0,none⟩,U,zo,zf,ak⟩
  simp[intOf];omega
 have bx:k=n1:=zo;subst bx;have a8:=aL;have aA:=qw k l1;have a7:=fa aA;clear aA;have aK:=fa (kL wr rb _ HT.rd);go_wp2_with fail;refine aK.mono ?_;rintro e w5 ⟨rfl,au⟩;have ak:=fa (HT.read au);clear au;have a':Hid (om l=⟨(iD k l1).1,(jw k (ia (iD k l1).2).1 (ia (iD k l1).2).2).1.1,(jw k (ia (iD k l1).2).1 (ia (iD k l1).2).2).1.2⟩):=by
  show _=_;unfold om;rw[a8.out,a7.out]
 have hn2f:(ia (iD k l1).2).1<256:=pI _;generalize (ia (iD k l1).2).1=n2 at *;generalize (ia (iD k l1).2).2=l2 at *;generalize (iD k l1).1=acts at *;clear hfew aK;go_wp2_with fail;clear HT aL aH aM
 rename World=>wR
 go_loopw [22] (fun x wr=> ∃(q:Nat) (fo:Option Addr) (fc:Nat) (xo:Option Addr) (xc:Nat) (rv:List Value),q<=n2/\x=xd xh q/\Hid (TR w wr rb tb (xa ao k ac) (xa fo q fc) (xa xo q xc) ⟨acts,(jw k q l2).1.1,(jw k q l2).1.2⟩ rv (jw k q l2).2)) (fun x _=>n2 - (intOf x).toNat)
 ·exact⟨0,none,0,none,0,[],MU _,rfl,ak⟩
 obtain⟨q,fo,fc,xo,xc,rv,hq,rfl,HT⟩:=hrel;rcases zc q n2 with⟨hlt,hqn⟩|⟨hlt,hqn⟩
 ·have aS:=tI k q l2;have bc:=fa (xq k q l2);generalize hr0:(jw k q l2).2=r0 at *;generalize hf0:(jw k q l2).1.1=fl0 at *;generalize hx0':(jw k q l2).1.2=nx0 at *;clear hr0 hf0 hx0';obtain⟨aT,aU⟩:=aS;go_wp2_with fail;refine wp_region_any zk ?_;change wpAny _ _ _ _ _ _ _ (MZ _);apply zt0 0 (xk (some ⟨tb,1,none⟩));apply zt0 2 (xk (some ⟨rb,0,none⟩));have ag:=fa (HT.later (W':=wr.drew) ((MC _ _).drew));refine(fun hG=> ?main1) (?suf1: ∀w3:World,Hid (TR w w3 rb tb (xa ao k ac) (xa fo q fc) (xa xo q xc) ⟨acts,fl0,nx0⟩ rv (ia r0).2)->(?G1:World->Prop) w3)
  case main1=>
   refine zr2 1 3 (fun K hK=> ?_) fun K hK=> ?_
   ·have R:=cell_of_blk ag.blk 1;go_simp;refine hK _ _ ?_;clear hK K;clear R;apply zr 3;intro K hK;go_simp;refine(kL _ rb _ ag.rd).mono ?_;rintro e w3 ⟨rfl,ai⟩;have HT3:=fa (ag.read ai);refine hK _ _ ?_;clear hK K ai;apply zr 4;intro K hK;go_simp;refine hK _ _ ?_;clear hK K;exact hG w3 HT3
   go_simp;refine(kL _ rb _ ag.rd).mono ?_;rintro e w3 ⟨rfl,ai⟩;have HT3:=fa (ag.read ai);refine hK _ _ ?_;clear hK K ai;refine zr2 1 4 (fun K hK=> ?_) fun K hK=> ?_
   ·have R:=cell_of_blk HT3.blk 1;go_simp;refine hK _ _ ?_;clear hK K;clear R;apply zr 4;intro K hK;go_simp;refine hK _ _ ?_;clear hK K;exact hG w3 HT3
   go_simp;refine hK _ _ ?_;clear hK K;apply zr 1;intro K hK;have R:=cell_of_blk (HT3.later ((MC _ _).alloc (Mr _) (xi #[xd xh ((ia r0).1:Int)] 3))).blk 1;go_simp;refine hK _ _ ?_;clear hK K;clear R;exact hG w3 HT3
  intro w3 HT3;have bh:=fh HT3.res;apply zr 5;intro K hK;refine step_append_lies _ zf _ _ 33 zf w.heap.size 3 j0 (xd xh 0) 1 8 underlying33 bt bE bF bG rfl zp (xa fo q fc) q (gU fl0) zf ?d0 ⟨w3.heap.size,0,none⟩ 1 1 [xd xh ((ia r0).1:Int)] zf rfl ?d1 ?d2 zp ?d3 ?d4 ?d5 (w3.heap.size+1) ?d6 ?_
  case d0=>have:=HT3.tab.fl;simp only[aT] at this;exact this.alloc _
  case d1=>
   intro j u hj
   match j,hj with
   |0,hj=>simp at hj;subst hj;simp[Addr.add]
   |j+1,hj=>simp at hj
  case d2=>intro u hu;simp at hu;subst hu;rfl
  case d3=>unfold maxLen;omega
  case d4=>omega
  case d5=>simp;omega
  case d6=>simp
  intro g5 U w5 ae J ar az;have I:=HT3.later ((MC _ _).alloc (Mr _) (xi #[xd xh ((ia r0).1:Int)] 3));have ad:=I.tab.flag (F':= xa (some ⟨g5,0,none⟩) (q+1) U) (f:=(ia r0).1) (by simp only[aT];exact ae) J rfl (ar.imp id (fun h=>zs));have aa:=(J.block tb (fh I.blk) (fun e=>gp I.tab.fl e.symm I.blk zp)).trans I.blk;have ak:=fa (I.grow I.tab.fl J (MY (Or.inl rfl)) ad 1 (xa (some ⟨g5,0,none⟩) (q+1) U) rfl);have aJ:=cell_of_blk aa 1;have au:=fi aa 1;refine hK _ _ ?_;clear hK K I ad aa ae J ar az
  try simp only[Act.put,MD,ME,MN,ML,MI,MJ]
  apply zt0 6 (xk (some ⟨tb,1,none⟩));apply zr 7;intro K hK;go_simp;refine hK _ _ ?_;clear hK K aJ au bh;refine wpAny_done zk ?_ _;generalize w5.setCell ⟨tb,1,none⟩ (xa (some ⟨g5,0,none⟩) (q+1) U)=w6 at *;clear HT3;go_wp2_with fail;refine wp_region_any zk ?_;change wpAny _ _ _ _ _ _ _ (MZ _);apply zt0 0 (xk (some ⟨tb,2,none⟩));apply zt0 2 (xk (some ⟨rb,0,none⟩));apply zt0 3 (xk (some ⟨tb,0,none⟩));have HTE:=fa (ak.later (W':=w6.drew) ((MC _ _).drew));refine(fun hG=> ?main2) (?suf2: ∀w7:World,Hid (TR w w7 rb tb (xa ao k ac) (xa (some ⟨g5,0,none⟩) (q+1) U) (xa xo q xc) ⟨acts,fl0++[(ia r0).1],nx0⟩ rv (iY k (ia r0).2).2)->Hid (w7.heap[w6.heap.size]? =some (xi (kR (iY k (ia r0).2).1) 3 (0,0)))->(?G2:World->Prop) w7)
  case main2=>
   refine zr2 1 4 (fun K hK=> ?_) fun K hK=> ?_
   ·have R:=cell_of_blk HTE.blk 2;go_simp;refine hK _ _ ?_;clear hK K;clear R;apply zr 4;intro K hK;have R:=cell_of_blk HTE.blk 0;go_simp;refine hK _ _ ?_;clear hK K;clear R;apply zr 5;intro K hK;go_simp;refine hK _ _ ?_;clear hK K;exact zm40
   have R:=cell_of_blk HTE.blk 0;go_simp;refine hK _ _ ?_;clear hK K;clear R;refine zr2 1 5 (fun K hK=> ?_) fun K hK=> ?_
   ·have R:=cell_of_blk HTE.blk 2;go_simp;refine hK _ _ ?_;clear hK K;clear R;apply zr 5;intro K hK;go_simp;refine hK _ _ ?_;clear hK K;exact zm40
   go_simp;refine hK _ _ ?_;clear hK K;refine zr2 1 6 (fun K hK=> ?_) fun K hK=> ?_
   ·have R:=cell_of_blk HTE.blk 2;go_simp;refine hK _ _ ?_;clear hK K;clear R;exact zm40
   go_simp;refine(sC rb k HTE.rd zo).mono ?_;rintro e w7 ⟨rfl,hrow,hf7⟩;have HT7:=fa (HTE.read hf7);have HROW:=fa hrow;refine hK _ _ ?_;clear hK K hf7 hrow;refine zr2 1 7 (fun K hK=> ?_) fun K hK=> ?_
   ·have R:=cell_of_blk HT7.blk 2;go_simp;refine hK _ _ ?_;clear hK K;clear R;apply zr 7;intro K hK;go_simp;refine hK _ _ ?_;clear hK K;exact hG w7 HT7 HROW
   go_simp;refine hK _ _ ?_;clear hK K;apply zr 1;intro K hK;have R:=cell_of_blk (HT7.later ((MC _ _).alloc (Mr _) (xi #[xa (some ⟨w6.heap.size,0,none⟩) k k] 33))).blk 2;go_simp;refine hK _ _ ?_;clear hK K;clear R;exact hG w7 HT7 HROW
  intro w7 HT7 HROW;have bl:=fh HT7.res;apply zr 8;intro K hK;refine step_append_lies _ zf _ _ 34 zf w.heap.size 33 k0 (xa none 0 0) 1 24 underlying34 bw bB bC bD rfl zp (xa xo q xc) q rv zf ?e0 ⟨w7.heap.size,0,none⟩ 1 1 [xa (some ⟨w6.heap.size,0,none⟩) k k] zf rfl ?e1 ?e2 zp ?e3 ?e4 ?e5 (w7.heap.size+1) ?e6 ?_
  case e0=>have:=HT7.tab.nx;simp only[aU] at this;exact this.alloc _
  case e1=>
   intro j u hj
   match j,hj with
   |0,hj=>simp at hj;subst hj;simp[Addr.add]
   |j+1,hj=>simp at hj
  case e2=>intro u hu;simp at hu;subst hu;rfl
  case e3=>unfold maxLen;omega
  case e4=>omega
  case e5=>simp;omega
  case e6=>simp
  intro g8 aw w8 ae J ar az;have hbb:=iz w7 (xi #[xa (some ⟨w6.heap.size,0,none⟩) k k] 33);have I:=HT7.later hbb;have aC:=(hbb.block _ (fh HROW)).trans HROW;have aB:(iY k (ia r0).2).1.length=k:=nC _ _;have aX:=ak.gr.size;have aV:=y8 (base:=w.heap.size) aC aX aB zo;have aN:(xa (some ⟨g5,0,none⟩) (q+1) U).ownBlock≠some w6.heap.size:=fun e=>by
   have:=(gG ak.tab.fl _ e).2;omega
  have aO: ∀v∈rv,v.ownBlock≠some w6.heap.size:=fun v hv e=>by
   obtain⟨j,hj⟩:=List.mem_iff_getElem?.1 hv;have bu:j<nx0.length:=by have:=(List.getElem?_eq_some_iff.1 hj).1;have:=ak.tab.rl;simp_all
   obtain⟨g,c,h1,h2⟩:=ak.tab.rows j _ (Ms bu);rw[hj] at h1;cases h1;have:=(gG h2 _ e).2;omega
  have ad:=I.tab.row (X':= xa (some ⟨g8,0,none⟩) (q+1) aw) (g:=w6.heap.size) (c:=k) (r:=(iY k (ia r0).2).1) (by rw[aB];exact aV) aN aO (by simp only[aU,aB];exact ae) J;rw[aB] at ad;have aa:=(J.block tb (fh I.blk) (fun e=>gp I.tab.nx e.symm I.blk zp)).trans I.blk;have bd:=fa (I.grow I.tab.nx J (MY (MY rfl)) ad 2 (xa (some ⟨g8,0,none⟩) (q+1) aw) rfl);have bm:=cell_of_blk aa 2;have bn:=fi aa 2;refine hK _ _ ?_;clear hK K I ad aa ae J ar az hbb aC aV aN aO aB aX
  try simp only[Act.put,MD,ME,MN,ML,MI,MJ]
  apply zt0 9 (xk (some ⟨tb,2,none⟩));apply zr 10;intro K hK;go_simp;refine hK _ _ ?_;clear hK K bm bn bl;refine wpAny_done zk ?_ _;go_wp2
  go_roundw
  ·exact⟨q+1,some ⟨g5,0,none⟩,U,some ⟨g8,0,none⟩,aw,_,zo,zf,by rw[bc.out];exact bd⟩
  simp[intOf];omega
 have bz:q=n2:=zo;subst bz;have hc0:=cell_of_blk HT.blk 0;have hc1:=cell_of_blk HT.blk 1;have hc2:=cell_of_blk HT.blk 2;have rc:=cell_of_blk HT.res;have rf:=fi HT.res;go_wp2_with fail;have aQ:(((wr.setCell ⟨w.heap.size,0,none⟩ (xa ao k ac)).setCell ⟨w.heap.size,1,none⟩ (xa fo q fc)).setCell ⟨w.heap.size,2,none⟩ (xa xo q xc)).heap[w.heap.size]? =some (xi #[xa ao k ac,xa fo q fc,xa xo q xc] 36 (0,0)):=fj (fj (fj HT.res 0 _) 1 _) 2 _;have bo:wr.grownBy (((wr.setCell ⟨w.heap.size,0,none⟩ (xa ao k ac)).setCell ⟨w.heap.size,1,none⟩ (xa fo q fc)).setCell ⟨w.heap.size,2,none⟩ (xa xo q xc)) (some w.heap.size):=((fK _ _ _ _).trans (fK _ _ _ _)).trans (fK _ _ _ _);have bA:=HT.tab.other bo (fun b hb c m=>by
  cases hb;rw[HT.res];simp)
 have bq:w.grownBy (((wr.setCell ⟨w.heap.size,0,none⟩ (xa ao k ac)).setCell ⟨w.heap.size,1,none⟩ (xa fo q fc)).setCell ⟨w.heap.size,2,none⟩ (xa xo q xc)) (some rb):=gy (gy (gy HT.gr (Mr _) _ _) (Mr _) _ _) (Mr _) _ _;generalize (((wr.setCell ⟨w.heap.size,0,none⟩ (xa ao k ac)).setCell ⟨w.heap.size,1,none⟩ (xa fo q fc)).setCell ⟨w.heap.size,2,none⟩ (xa xo q xc))=wf at *;have bf:=cell_of_blk aQ;refine bodyPost_ret (v:= .agg #[xa ao k ac,xa fo q fc,xa xo q xc]) (by simp[results,results89,go_sem,bf]) rfl ?_;exact⟨_,_,_,rv,rfl,by rw[a'.out];exact bA,bq⟩
def oZ(ty:List Value->Value)(w:World)(o:Option Tb)(w':World)(e:Ending):Prop:=
 Below w.heap.size w w'/\match o with
 |none=>e=xm (.tuple #[.agg #[xa none 0 0,xa none 0 0,xa none 0 0],ty []])
 |some t=> ∃A F X rv,e=xm (.tuple #[.agg #[A,F,X],ty [xn true]])/\TbW w' w.heap.size A F X t rv
def okB:List Value->Value
 |[]=> xn false
 |_=> xn true
def KP:List Value->Value
 |[]=> xd xh 6
 |_=> xd xh 0
theorem DF{l:List UInt8}(hl:l.length<=1000):(om l).acts.length<=1000/\(om l).nx.length<=1000/\(om l).fl.length<=1000/\ ∀r∈(om l).nx,r.length<=1000:=by
 have I:(mD l).1.length<=1000:=by
  unfold mD;rw[qw];exact Nat.le_of_lt (MG (pI _) zp)
 have h2:=tI (mD l).1.length (ia (mD l).2).1 (ia (mD l).2).2;have h3:=pI (mD l).2;have J: ∀(c n:Nat) (m:List UInt8) (r:List Nat),r∈(jw c n m).1.2->r.length=c:=by
  intro c n
  induction n with
  |zero=>intro m r h;trivial
  |succ n ih=>
   intro m r h;rw[jw] at h;rcases List.mem_cons.1 h with rfl|h
   ·exact nC _ _
   exact ih _ r h
 refine⟨I, ?_, ?_,fun r hr=> ?_⟩
 ·show(jw _ _ _).1.2.length<=1000;omega
 ·show(jw _ _ _).1.1.length<=1000;omega
 rw[J _ _ _ r hr];omega
theorem GH{b:List UInt8}(h:1000<b.length):DecR b none:=fun t I e=>by
 have:=I.few;rw[e] at this;omega
theorem TbW.mono(h:TbW w base A F X t rv)(I:base'<=base):TbW w base' A F X t rv:=
 ⟨ig h.acts I,ig h.fl I,ig h.nx I,fun j r hr=>by obtain⟨g,c,J,R⟩:=h.rows j r hr;exact⟨g,c,J,ig R I⟩,h.rf,h.rr⟩
def iV(w:World)(b:Nat)(A F X:Value):World:=((w.setCell ⟨b,0,none⟩ A).setCell ⟨b,1,none⟩ F).setCell ⟨b,2,none⟩ X
theorem iZ{a f x:Value}(h:w.heap[b]? =some (xi #[a,f,x] 36 (0,0)))(A F X:Value):(iV w b A F X).heap[b]? =some (xi #[A,F,X] 36 (0,0)):=fj (fj (fj h 0 A) 1 F) 2 X
theorem mN(w:World)(b:Nat)(A F X:Value):w.grownBy (iV w b A F X) (some b):=((fK _ _ _ _).trans (fK _ _ _ _)).trans (fK _ _ _ _)
theorem iR(h:Below w0.heap.size w0 w)(hb:w0.heap.size<=b)(A F X:Value):Below w0.heap.size w0 (iV w b A F X):=h.grown (mN w b A F X) h.size (fun k hk=>za)
theorem nw(hc:w.heap[b]? =some (xi c 36 (0,0)))(h:TbW w base A F X t rv):TbW (iV w b A' F' X') base A F X t rv:=
 h.other (mN w b A' F' X') (fun k hk c' m=>by
  simp_all)
theorem sd(t:Tb):iS t.z↔RightT t:=⟨fun⟨u,e,h⟩=>by rw[Tb.z_inj e];exact h,fun h=>⟨t,rfl,h⟩⟩
theorem Ja(ao fo no:Option Addr)(ac fc nc:Nat)(t:Tb)(hI:TbI w ao fo no ac t.z)(hG:GV w)(I:na=t.acts.length)(J:nf=t.fl.length)(R:nn=t.nx.length):
  Calls prog 45 #[.agg #[xa ao na ac,xa fo nf fc,xa no nn nc]] w fun e w'=>TellsB (RightT t) e/\Below w.heap.size w w':=by
 have U:t.z.fl.length=nf:=by rw[J];exact lG _
 have e2:t.z.nx.length=nn:=by rw[R];unfold Tb.z;simp
 have e3:t.z.acts.length=na:=by rw[I];rfl
 have:=yi w ao fo no ac fc nc t.z hI hG;rw[U,e2,e3,sd] at this;exact this
theorem F4(s:ByteArray)(hG:GV w):
  Calls prog 47 #[xj s] w fun e w'=> ∃o,DecR s.data.toList o/\oZ okB w o w' e:=by
 have HG:=fa hG;have aM:=iz w (xi #[xa none 0 0,xa none 0 0,xa none 0 0] 36);have aI:=fa aM;have ay:=fa (ft w (xi #[xa none 0 0,xa none 0 0,xa none 0 0] 36));clear hG aM;by_cases hs:1000<s.size
 ·have HD:=fa (GH (by rw[size_data];exact hs));have aR:(1000:Int)<(s.size:Int):=zo;go_in;go_wp2_with fail;have rc:=cell_of_blk ay;refine bodyPost_ret (v:= .tuple #[.agg #[xa none 0 0,xa none 0 0,xa none 0 0],xn false]) (by simp[results,results47,go_sem,rc]) rfl ?_;exact⟨none,HD,aI,rfl⟩
 have aR:¬ (1000:Int)<(s.size:Int):=zo;have aL:RdA ((w.alloc (xi #[xa none 0 0,xa none 0 0,xa none 0 0] 36)).alloc (xi #[xj s] 165)) (w.heap.size+1) s.data.toList:=⟨s,rfl,fk _ _ _ zp⟩;have HT:=fa (Cl aL za);clear aL;go_in;go_wp2_with fail;refine HT.mono ?_;rintro e w3 ⟨A,F,X,rv,rfl,R,aG⟩;have ax:Below w.heap.size w ((w.alloc (xi #[xa none 0 0,xa none 0 0,xa none 0 0] 36)).alloc (xi #[xj s] 165)):=aI.alloc zp _;have aF:=ax.grown aG ax.size (fun b hb=>by cases hb;omega);have ad:=(aG.block _ zs (fun e=>za)).trans ((Below.heap_alloc _ _ _ zp).trans ay);obtain⟨ao,ac,rfl⟩:=iw R.acts;obtain⟨fo,fc,rfl⟩:=iw R.fl;obtain⟨no,nc,rfl⟩:=iw R.nx;have aN:=DF (l:=s.data.toList) za;obtain⟨aK,_,_,_⟩:=R.read aN;generalize hP:om s.data.toList=t at *;have HP:=fa hP;have av:=iz w3 (xi #[xa ao t.acts.length ac,xa fo t.fl.length fc,xa no t.nx.length nc] 36);have aA:=fa (aF.trans (av.mono aF.size));have aE:=fa (aK.later av);have aa:=fa ((av.block _ (fh ad)).trans ad);have az:=fa ((R.later av).mono (base':=w.heap.size) zs);have aC:=fa (ft w3 (xi #[xa ao t.acts.length ac,xa fo t.fl.length fc,xa no t.nx.length nc] 36));clear aF av aK aN R aG ad ax hP HT;have aq:=fa (Ja ao fo no ac fc nc t aE (HG.later aA) rfl rfl rfl);go_wp2_with fail;refine aq.mono ?_;generalize w3.alloc (xi #[xa ao t.acts.length ac,xa fo t.fl.length fc,xa no t.nx.length nc] 36)=w4 at *;rintro e w5 ⟨⟨b,rfl,hb⟩,ak⟩;have aw:=(ak.block _ (fh aC)).trans aC;have aj:=(ak.block _ (fh aa)).trans aa;have an:=fa (aA.trans (ak.mono aA.size));have aP:=fa (aE.later ak);have ar:=fa (az.later ak);have ae:=fa aw;have U:=fa aj;have bc:=cell_of_blk aw;have rc:=cell_of_blk aj;have rf:=fi aj;clear ak aw aj aq aC aa az aE;cases b with
 |false=>
  have HD:=fa (DecR.not fun h=>by rw[HP.out] at h;exact absurd (hb.2 h) zd);clear hb;go_wp2_with fail;change bodyPost _ _ _ _ _ (iV w5 w.heap.size (xa none 0 0) (xa none 0 0) (xa none 0 0));have hfin:=iZ U (xa none 0 0) (xa none 0 0) (xa none 0 0);have hbf:=iR an (Mr _) (xa none 0 0) (xa none 0 0) (xa none 0 0);generalize iV w5 w.heap.size (xa none 0 0) (xa none 0 0) (xa none 0 0)=wf at *;exact zm76
 |true=>
  have aq:=fa (hb.1 rfl);clear hb;have aD:=fa (yg w5 ao fo no ac fc nc t aP aq rfl rfl rfl);by_cases hE:iC t=s.data.toList
  ·have HD:Hid (DecR s.data.toList (some t)):=⟨aq,hE⟩;have aJ:(⟨(iC t).toArray⟩:ByteArray)=s:=mw zo;rw[aJ] at aD;clear hE aJ;go_wp2_with fail;refine aD.mono ?_;rintro e w6 ⟨rfl,J⟩;have ai:=(J.block _ (fh ae)).trans ae;have I:=(J.block _ (fh U)).trans U;have aB:=fa (an.trans (J.mono an.size));have au:=fa (ar.later J);have ag:=fa I;clear bc rc rf;have bc:=cell_of_blk ai;have rc:=cell_of_blk I;have rf:=fi I;clear J ai I;go_wp2_with fail;change bodyPost _ _ _ _ _ (iV w6 w.heap.size (xa ao t.acts.length ac) (xa fo t.fl.length fc) (xa no t.nx.length nc));have hfin:=iZ ag (xa ao t.acts.length ac) (xa fo t.fl.length fc) (xa no t.nx.length nc);have hbf:=iR aB (Mr _) (xa ao t.acts.length ac) (xa fo t.fl.length fc) (xa no t.nx.length nc);have aS:=nw ag au (A':= xa ao t.acts.length ac) (F':= xa fo t.fl.length fc) (X':= xa no t.nx.length nc);generalize iV w6 w.heap.size (xa ao t.acts.length ac) (xa fo t.fl.length fc) (xa no t.nx.length nc)=wf at *;have fcc:=cell_of_blk hfin;refine bodyPost_ret (v:= .tuple #[.agg #[xa ao t.acts.length ac,xa fo t.fl.length fc,xa no t.nx.length nc],xn true]) (by simp[results,results47,go_sem,fcc]) rfl ?_;exact⟨some t,HD,hbf,_,_,_,rv,rfl,aS⟩
  have HD:=fa (DecR.not fun h e=>by
   rw[HP.out] at e;exact hE e)
  have hne:((⟨(iC t).toArray⟩:ByteArray).toList==s.toList)=false:=beq_eq_false_iff_ne.2 fun e=>hE (by
   rw[ByteArray.toList_eq,ByteArray.toList_eq] at e;omega)
  generalize (⟨(iC t).toArray⟩:ByteArray)=E at *;clear hE;go_wp2_with fail;refine aD.mono ?_;rintro e w6 ⟨rfl,J⟩;have ai:=(J.block _ (fh ae)).trans ae;have I:=(J.block _ (fh U)).trans U;have aB:=fa (an.trans (J.mono an.size));have au:=fa (ar.later J);have ag:=fa I;clear bc rc rf;have rc:=cell_of_blk I;have rf:=fi I;clear J ai I;go_wp2_with fail;change bodyPost _ _ _ _ _ (iV w6 w.heap.size (xa none 0 0) (xa none 0 0) (xa none 0 0));have hfin:=iZ ag (xa none 0 0) (xa none 0 0) (xa none 0 0);have hbf:=iR aB (Mr _) (xa none 0 0) (xa none 0 0) (xa none 0 0);generalize iV w6 w.heap.size (xa none 0 0) (xa none 0 0) (xa none 0 0)=wf at *;exact zm76
def EncP(z:Tz)(e:Ending):Prop:=(∃t,z=t.z/\RightT t/\e=xm (.tuple #[xj ⟨(iC t).toArray⟩,xd xh 0]))\/(¬ iS z/\e=xm (.tuple #[xj ⟨#[]⟩,xd xh 6]))
theorem C'(w:World)(ao fo no:Option Addr)(ac fc nc:Nat)(z:Tz)(hI:TbI w ao fo no ac z)(hG:GV w):
  Calls prog 26 #[.agg #[xa ao z.acts.length ac,xa fo z.fl.length fc,xa no z.nx.length nc]] w fun e w'=>EncP z e/\Below w.heap.size w w':=by
 have hB:=iz w (xi #[xa ao z.acts.length ac,xa fo z.fl.length fc,xa no z.nx.length nc] 36);have R:=fa (ft w (xi #[xa ao z.acts.length ac,xa fo z.fl.length fc,xa no z.nx.length nc] 36));have HR:=fa (yi _ ao fo no ac fc nc z (hI.later hB) (hG.later hB));have HI:=fa hI;have HB:=fa hB;clear hI hB hG;go_in;go_wp2_with fail;refine HR.mono ?_;generalize w.alloc (xi #[xa ao z.acts.length ac,xa fo z.fl.length fc,xa no z.nx.length nc] 36)=W at *;rintro e w1 ⟨⟨b,rfl,hb⟩,J⟩;have aa:=(J.block _ (fh R)).trans R;have I:=fa (HB.trans (J.mono HB.size));have bc:=cell_of_blk aa;clear J aa;cases b with
 |false=>
  have HN:Hid (¬ iS z):=fun h=>absurd (hb.2 h) zp
  clear hb;go_wp2_with fail;refine bodyPost_ret (v:= .tuple #[xj ⟨#[]⟩,xd xh 6]) (by simp[results,results26,go_sem]) rfl ?_;exact⟨MY ⟨HN,rfl⟩,I⟩
 |true=>
  obtain⟨t,rfl,ht⟩:=hb.1 rfl;have HT:=fa ht;have e1:t.z.acts.length=t.acts.length:=rfl;have e2:t.z.fl.length=t.fl.length:=lG _;have e3:t.z.nx.length=t.nx.length:=by unfold Tb.z;simp
  have ag:=fa (yg w1 ao fo no ac fc nc t (HI.later I) HT e1 e2 e3);clear hb ht e1 e2 e3;go_wp2_with fail;refine ag.mono ?_;rintro e w2 ⟨rfl,U⟩;have ae:=fa (I.trans (U.mono I.size));clear U;go_wp2_with fail;refine bodyPost_ret (v:= .tuple #[xj ⟨(iC t).toArray⟩,xd xh 0]) (by simp[results,results26,go_sem]) rfl ?_;exact⟨Or.inl ⟨t,rfl,HT,rfl⟩,ae⟩
theorem C9(w:World)(s:ByteArray)(hG:GV w):
  Calls prog 27 #[xj s] w fun e w'=> ∃o,DecR s.data.toList o/\oZ KP w o w' e:=by
 have aq:=iz w (xi #[xa none 0 0,xa none 0 0,xa none 0 0] 36);have av:=fa (F4 s (hG.later aq));have aj:=fa aq;have ag:=fa (ft w (xi #[xa none 0 0,xa none 0 0,xa none 0 0] 36));clear hG aq;go_in;go_wp2_with fail;refine av.mono ?_;generalize hW:w.alloc (xi #[xa none 0 0,xa none 0 0,xa none 0 0] 36)=W at *;have ay:=aj.size;clear hW;rintro e w1 ⟨o,ho,ae,hm⟩;have HO:=fa ho;have J:=(ae.block _ (fh ag)).trans ag;have ad:=fa (aj.trans (ae.mono aj.size));cases o with
 |none=>
  have ax:e=xm (.tuple #[.agg #[xa none 0 0,xa none 0 0,xa none 0 0],xn false]):=hm;subst ax;have R:=iz w1 (xi #[xa none 0 0,xa none 0 0,xa none 0 0] 36);have I:=fa ((R.block _ (fh J)).trans J);have ai:=fa (ad.trans (R.mono ad.size));have rc:=cell_of_blk I;have rf:=fi I;have rl:=fh I;clear hm ho ae J R;go_wp2_with fail;change bodyPost _ _ _ _ _ (iV (w1.alloc (xi #[xa none 0 0,xa none 0 0,xa none 0 0] 36)) w.heap.size (xa none 0 0) (xa none 0 0) (xa none 0 0));have aa:=iZ I (xa none 0 0) (xa none 0 0) (xa none 0 0);have an:=iR ai (Mr _) (xa none 0 0) (xa none 0 0) (xa none 0 0);generalize iV (w1.alloc (xi #[xa none 0 0,xa none 0 0,xa none 0 0] 36)) w.heap.size (xa none 0 0) (xa none 0 0) (xa none 0 0)=wf at *;have ak:=cell_of_blk aa;refine bodyPost_ret (v:= .tuple #[.agg #[xa none 0 0,xa none 0 0,xa none 0 0],xd xh 6]) (by simp[results,results27,go_sem,ak]) rfl ?_;exact⟨none,HO,an,rfl⟩
 |some t=>
  obtain⟨A,F,X,rv,he,U⟩:=hm;obtain⟨ao,ac,rfl⟩:=iw U.acts;obtain⟨fo,fc,rfl⟩:=iw U.fl;obtain⟨no,nc,rfl⟩:=iw U.nx;have aw:e=xm (.tuple #[.agg #[xa ao t.acts.length ac,xa fo t.fl.length fc,xa no t.nx.length nc],xn true]):=he;subst aw;clear he;have R:=iz w1 (xi #[xa ao t.acts.length ac,xa fo t.fl.length fc,xa no t.nx.length nc] 36);have I:=fa ((R.block _ (fh J)).trans J);have ai:=fa (ad.trans (R.mono ad.size));have au:=fa ((U.later R).mono ay);have hbx:=ft w1 (xi #[xa ao t.acts.length ac,xa fo t.fl.length fc,xa no t.nx.length nc] 36);have rc:=cell_of_blk I;have rf:=fi I;have rl:=fh I;clear ho ae J R U;go_wp2_with fail;change bodyPost _ _ _ _ _ (iV (w1.alloc (xi #[xa ao t.acts.length ac,xa fo t.fl.length fc,xa no t.nx.length nc] 36)) w.heap.size (xa ao t.acts.length ac) (xa fo t.fl.length fc) (xa no t.nx.length nc));have aa:=iZ I (xa ao t.acts.length ac) (xa fo t.fl.length fc) (xa no t.nx.length nc);have an:=iR ai (Mr _) (xa ao t.acts.length ac) (xa fo t.fl.length fc) (xa no t.nx.length nc);have az:=nw I au (A':= xa ao t.acts.length ac) (F':= xa fo t.fl.length fc) (X':= xa no t.nx.length nc);generalize iV (w1.alloc (xi #[xa ao t.acts.length ac,xa fo t.fl.length fc,xa no t.nx.length nc] 36)) w.heap.size (xa ao t.acts.length ac) (xa fo t.fl.length fc) (xa no t.nx.length nc)=wf at *;have ak:=cell_of_blk aa;refine bodyPost_ret (v:= .tuple #[.agg #[xa ao t.acts.length ac,xa fo t.fl.length fc,xa no t.nx.length nc],xd xh 0]) (by simp[results,results27,go_sem,ak]) rfl ?_;exact⟨some t,HO,an,_,_,_,rv,rfl,az⟩
theorem Tz.ext'{z y:Tz}(h1:z.acts=y.acts)(h2:z.fl=y.fl)(h3:z.nx=y.nx):z=y:=by
 cases z;simp_all
def np(x:Bool):Nat:=if x=true then 1 else 0
def lK(l:List Bool):Nat:=l.foldl (fun n b=>2 * n+np b) 0
def iT(p:Bool × List Bool):Nat:=2 * lK p.2+np p.1
theorem o9(l:List Bool)(x:Bool):lK (l++[x])=2 * lK l+np x:=by unfold lK;simp
theorem oi(x:Bool):np x<=1:=by unfold np;split<;>omega
theorem Aj{x:Bool}(h:np x=np y):x=y:=by cases x<;>cases y<;>first|rfl|trivial
theorem vh: ∀(l:List Bool),lK l<2^l.length:=by
 refine oo zd fun l a ih=> ?_
 rw[o9,MF,List.length_singleton,Nat.pow_succ];have:=oi a;omega
theorem EE{l m:List Bool}(I:l.length=m.length)(hc:lK l=lK m):l=m:=by
 have: ∀(n:Nat) (l m:List Bool),l.length=n->m.length=n->lK l=lK m->l=m:=by
  intro n
  induction n with
  |zero=>simp
  |succ n ih=>
   intro l m h1 h2 h;have I:l≠[]:=fun e=>za
   have hm:m≠[]:=fun e=>za
   rw[<-Mu I,<-Mu hm,o9,o9] at h;have b1:=oi (l.getLast I);have b2:=oi (m.getLast hm);have J:=ih l.dropLast m.dropLast za za zo;have R:=Aj (show np (l.getLast I)=np (m.getLast hm) from zo);rw[<-Mu I,<-Mu hm,J,R]
 exact this _ _ _ I rfl hc
theorem yu{q:Bool × List Bool}(R:p.2.length=q.2.length)(h:iT p=iT q):p=q:=by
 unfold iT at h;have b1:=oi p.1;have b2:=oi q.1;have I:=EE R zo;have J:=Aj (show np p.1=np q.1 from zo);exact Prod.ext J I
theorem vi(p:Bool × List Bool)(h:p.2.length<=n):iT p<2^(n+1):=by
 unfold iT;have b1:=oi p.1;have h1:=vh p.2;have h2:2^p.2.length<=2^n:=MM zp h;omega
theorem Ap(w:World)(b:List Bool)(e:Bool)(hb:b.length<=30):
  Calls prog 208 #[.agg #[xj (gH b),xn e]] w fun en w'=>en=xm (xd xh (iT (e,b):Nat))/\Below w.heap.size w w':=by
 have hB:=iz w (xi #[xj (gH b),xn e] 302);have R:=fa (ft w (xi #[xj (gH b),xn e] 302));have hsz:=k9 b;have HB:=fa hB;clear hB;go_in;go_wp2_with fail;generalize w.alloc (xi #[xj (gH b),xn e] 302)=W at *;have c0:=cell_of_blk R 0;have c1:=cell_of_blk R 1
 go_loopw [3,4] (fun n x wr=> ∃k:Nat,k<=b.length/\n=xd xh ((lK (b.take k):Nat):Int)/\x=xd xh k/\Hid (W=wr)) (fun _ x _=>b.length - (intOf x).toNat)
 ·exact zm68
 obtain⟨k,hk,rfl,rfl,HW⟩:=hrel;have hw:=HW.out;subst hw;clear HW;by_cases hlt:k<b.length
 ·have ad:k<(gH b).size:=zo;have U:=nH ad (Ms hlt:b[k]? =some b[k]);have aa:Hid (lK (b.take (k+1))=2 * lK (b.take k)+np b[k]):=by
   show _=_;rw[List.take_add_one,Ms hlt];exact o9 (b.take k) b[k]
  have I:=vh (b.take k);have J:2^(b.take k).length<=2^30:=MM zp (by rw[MV];omega);have hbn:((np b[k]:Nat):Int)=((gH b)[k].toNat:Int):=by rw[U];unfold np;split<;>rfl
  have hble:=oi b[k];clear U;generalize hcn:lK (b.take k)=S at *;have hS:S<=1073741824:=zo;clear hcn I J;generalize b[k]=x at *;generalize hyy:(gH b)[k]=y at *;go_wp2
  go_roundw
  ·exact⟨k+1,zo,by rw[aa.out];go_num,zf,trivial⟩
  simp[intOf];omega
 rw[Mt zo];have I:=vh b;have J:2^b.length<=2^30:=MM zp hb;have HC:Hid (iT (e,b)=2 * lK b+np e):=rfl;generalize lK b=S at *;have hS:S<=1073741824:=zo;clear I J;cases e with
 |true=>
  go_wp2_with fail;refine bodyPost_ret (v:= xd xh ((2 * S+1:Nat):Int)) (by simp[results,results208,go_sem]) rfl ?_;exact⟨by rw[HC.out];rfl,HB⟩
 |false=>
  go_wp2_with fail;refine bodyPost_ret (v:= xd xh ((2 * S:Nat):Int)) (by simp[results,results208,go_sem]) rfl ?_;exact⟨by rw[HC.out];rfl,HB⟩
end Go.Proofs.YtidakhhekofkoaaGreatDoor
