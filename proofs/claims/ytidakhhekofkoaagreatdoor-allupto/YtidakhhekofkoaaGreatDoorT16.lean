import Derived.Test.YtidakhhekofkoaaGreatDoorT15
import Derived.Sort.OwnSorted
set_option linter.all false
set_option maxHeartbeats 4000000
set_option maxRecDepth 100000
namespace Go.Proofs.YtidakhhekofkoaaGreatDoor
attribute [local go_sem] TT TU TV XL
attribute [local simp] TT TU TV XL
open Go.Proofs.Tryz
open Go.RowKit Go.Deep Go.Maps Go.Sort
open Value renaming slice->xa,int->xd,string->xj,pointer->xk,bool->xn
open IntKind renaming i64->xh
open Obj renaming cells->xi
open Ending renaming returned->xm
open Or renaming inr->QX,inl->QZ
open List renaming perm_append_comm->RC,map_singleton->RG,nodup_cons->RP
open And renaming intro->Rz
variable{zq:Prop}
variable{cs:List Cs}{D:DataW Unit}{left:Lit->Bool}{ss:List (T9)}{y:DataW Unit × List MemPlace}{db A n ab a0 f0 nb n0 ac nc mb lc e m g8 c8:Nat}{t:Tb}{lo o q:TX}{rb ro rc:Nat->Nat}{b:Bk}{L tr:TZ}{v1 v2:Ud}{x1 x2 rv:TW}{xs:List Th}{fl:T8}
def zm54(h:zq:=by
 refine⟨h,λk hk=>?_,λw' hs hk=>?_⟩
 .rcases h with⟨_,hv,_⟩|⟨ad,g,_,hv,hl⟩
  .rw[hv] at hk;cases hk
  rw[hv] at hk;cases hk;exact hl.lt
 rcases h with h|⟨ad,g,h1,hv,hl⟩
 .exact Or.inl h
 obtain⟨cur,c1,c2⟩:=hl.blk;exact Or.inr ⟨ad,g,h1,hv,⟨cur,(hk g (by rw[hv];rfl)).trans c1,c2⟩⟩
 ):zq:=h
def zm71(h:zq:=by
 exact⟨rfl,R0.refl _ _,lo,lc,hD,λk hk=>Or.inl hk⟩
 ):zq:=h
def zm116(h:zq:=by
 injection hc with hc
 injection hc with _ hc _
 exact absurd hc zd
 ):zq:=h
def zm129(h:zq:=by
 rintro e w' ⟨g,rfl,hg,hL,hb⟩;exact⟨TT g,_,rfl,Or.inr ⟨ad,g,rfl,rfl,hL⟩,λk hk=>(by cases hk;omega),hb⟩
 ):zq:=h
def zm137(h:zq:=by
 exact⟨by have:=h.tb.la;omega,by have:=h.tb.lf;omega,by have:=h.tb.ln;omega,λi hi=>by have:=h.tb.lr i hi;omega⟩
 ):zq:=h
def zm146(h:zq:=by
 rintro e w' ⟨rfl,rfl⟩;exact⟨none,0,rfl,Or.inl ⟨rfl,rfl,rfl⟩,λk hk=>(by cases hk),XF⟩
 ):zq:=h
def zm161(h:zq:=by
 exact⟨far _ _ _ hn1 k1,far _ _ _ hn1 k3,far _ _ _ hn2 g1,far _ _ _ hn2 g2,far _ _ _ hn3 hfl⟩
 ):zq:=h
def kB(x:T9):Ub:=⟨x.toArray⟩
def zK(b:Ub):kB b.data.toList=b:=by unfold kB;rw[Array.toArray_toList]
def yU(ss:List (T9)):pF ((ss.mergeSort leB).map kB):=by
 refine List.pairwise_map.2 ?_;have h:(ss.mergeSort leB).Pairwise λa b=>leB a b=true:=List.pairwise_mergeSort (le:=leB) (λa b c I J=>IZ (x:=a) (y:=b) (z:=c) I J) (λa b=>by rcases Az a b with h|h<;>simp only[h,Bool.true_or,Bool.or_true]) ss
 refine h.imp λ{a b} h=>?_
 show leB (kB a).data.toList (kB b).data.toList=true;unfold kB;simpa using h
def G0(ss:List (T9)):gU ((ss.mergeSort leB).map kB)=(ss.mergeSort leB).map encStr:=by
 unfold gU;rw[Vp];rfl
def Ci(I:∀id,Maps.has D (lj id)=true↔ ∃c∈cs,c.id=id)(J:(cs.map (·.id)).Nodup)(hC:Collected D left ss)(hl:∀kl,left kl=false):((ss.mergeSort leB).map kB).Perm (cs.map (·.id)):=by
 have h1:ss.Perm (cs.map λc=>c.id.data.toList):=by
  refine(List.perm_ext_iff_of_nodup hC.1 ?_).2 λx=>?_
  .have e:(cs.map λc=>c.id.data.toList)=(cs.map (·.id)).map λb=>b.data.toList:=by rw[Vp];rfl
   rw[e];refine List.pairwise_map.2 (J.imp λ{a b} hne e=>hne (lQ e))
  rw[hC.2 x,List.mem_map];have U:=I (kB x);have ek:lj (kB x)=Lit.string x:=by unfold lj kB;simp
  rw[ek] at U;constructor
  .rintro⟨h,_⟩;obtain⟨c,hc,e⟩:=U.1 h;exact⟨c,hc,by rw[e];unfold kB;simp⟩
  rintro⟨c,hc,e⟩;exact⟨U.2 ⟨c,hc,by rw[<-e,zK]⟩,hl _⟩
 have h2:=((List.mergeSort_perm ss leB).trans h1).map kB;have e:(cs.map λc=>c.id.data.toList).map kB=cs.map (·.id):=by
  rw[Vp];exact Vd λc _=>zK c.id
 rw[e] at h2;exact h2
def Jm{v:Ud}(h:l9 v=some y):∃c:TX,v=xk c:=by
 unfold l9 at h
 split at h
 .exact⟨_,rfl⟩
 .exact⟨_,rfl⟩
 cases h
def Aa{w:Uc}{fb fc:Nat}(rb ro rc:Nat->Nat)(pb:Ub->Nat)(D:DataW Unit)(hD:Si w db t cs A n ab a0 fb f0 nb n0 ac fc nc rb ro rc mb pb D)(au:∀c∈cs,c.id.size<=140737488355328):
  Calls prog 109 #[xk (TT db)] w λe w'=>Tq cs w w' e:=by
 have c3:=EQ hD.blk 3;have l0:=dK hD.blk;have hsz:=hD.sz;have hfew:=hD.few;have bm:=hD.mlt;have bc:=fy au;clear au;go_in
 go_wp2_with (at_range;go_must (refine wpList_range_own _ rfl _ 93 rfl 9 97 uH underlying93 l9 mb cs.length D rfl hD.mp ?_))
 intro w0 aw aQ aq;have aJ:Hid (XL w w0):=(XF).grown aQ (XH) (λj hj=>by cases hj);clear aQ aq;go_wp2
 go_loopw [3] (λv wr=>∃(left:Lit->Bool) (ak:Nat) (ss:List (T9)),ss.length+ak<=cs.length/\Hid (wr.ranges prog 9 l9 mb w.heap.size cs.length D left ak)/\Hid (wr.ownsRow w.heap.size 9 1 v ss.length (ss.map encStr))/\Hid (Collected D left ss)/\Hid (XL w wr)) (λ_ wr=>wr.rangeLeft mb w.heap.size)
 .exact⟨_,_,[],zp,aw,XG,Collected.start D,aJ⟩
 clear aw aJ;obtain⟨left,ak,ss,bl,ax,aj,HC,HB⟩:=hrel
 go_wp2_with (at_next;go_must (refine wpList_next_ranges _ rfl _ rfl 9 uH l9 encStr xk (λkey kl hk=>by obtain⟨x,hx,_⟩:=Maps.keyOf_str underlying9 hk;exact⟨x,hx⟩) (λv y hv=>Jm hv) mb w.heap.size cs.length _ _ _ rfl ax.out ?_ ?_))
 .intro hc0 aR;have aL:=fy aR;clear aR;obtain⟨_,⟨hv,h0⟩|⟨g,cap,cur,hv,J,hb,h1,h2,h3,h4⟩⟩:=id aj.out
  .subst hv;have HS:=Tryz.slices_Sort_none none 0 wr;have aq:ss=[]:=VX h0;go_wp2_with fail;refine HS.mono ?_;rintro e w2 ⟨rfl,U⟩;have hw:=U.symm;clear U;subst hw;have HE:=fy aq;clear aq h0 HS;go_wp2;go_ret;have hp:=Ci hD.has hD.nd HC.out aL.out;rw[HE.out] at hp;exact⟨[],none,0,rfl,List.Pairwise.nil,by simpa using hp,XG,HB.out⟩
  subst hv;have HS:=Tryz.slices_Sort_string g 0 cap ss wr (holds_of_block hb (by simpa using h4)) (dK hb) zo;have bf:=fy (Rz J (Rz hb (Rz h1 (Rz h2 h3))));obtain⟨m,hm⟩:∃m,m=ss.length:=⟨_,rfl⟩;rw[<-hm] at HS|-;have HM:=fy hm;clear J hb h1 h2 h3 h4 hm bl;go_wp2_with fail;refine HS.mono ?_;rintro e w2 ⟨rfl,nn,os,U⟩;have bg:=fy U;clear U HS;go_wp2_with fail;refine py (v:=xa (TT g) m cap) (by simp[results,results109,go_sem]) rfl ?_;have U:=bg.out;have hm:=HM.out;obtain⟨J,hb,h1,h2,h3⟩:=bf.out;have aT:((ss.mergeSort leB).map kB).length=m:=by rw[UL,List.length_mergeSort,hm]
  refine⟨(ss.mergeSort leB).map kB,TT g,cap,by rw[aT],yU ss,Ci hD.has hD.nd HC.out aL.out,?_,?_⟩
  .rw[aT,G0,U,hm];exact ownsRow_sorted zp J hb h1 h2 h3
  rw[U];exact HB.out.grown (grownBy_sorted _) HB.out.size (λj hj=>by cases hj;exact J)
 intro x c kl yd yp w2 ae av aS hv az aW aU aA bn hen;obtain⟨x',ex,rfl,_⟩:=Maps.keyOf_str underlying9 av;obtain rfl:x=x':=encStr_inj ex;obtain⟨oo,cc,bo⟩:=ib aj.out;subst bo;have aD:=aj.out.kept aA (QX (row_ne_iter aj.out ax.out).symm);have bh:=HC.out.step aS az;have aX:(kB x).size<=281474976710656:=by
  have h1:Maps.has D (lj (kB x))=true:=by
   have:lj (kB x)=Lit.string x:=by unfold lj kB;simp
   rw[this];exact has_true_of_atKey az
  obtain⟨c',bj,e⟩:=(hD.has (kB x)).1 h1;have:=bc.out c' bj;rw[e] at this;omega
 have aK:=pt w2 aX;have aN:XL w w2:=HB.out.grown aA HB.out.size (λj hj=>by cases hj;exact XH);have bd:=fy aU;clear bn av aS hv az aA aX aU ex;go_wp2_with fail;refine aK.mono ?_;rintro e w3 ⟨rfl,an⟩;have aM:=aW.kept (gE an none) zp zp;have ad:=gq aD an;have ai:=aN.trans (an.mono aN.size);have bq:=ai.size;clear an aK
 go_wp2_with (at_builtin;go_must (refine qu rfl _ _ 25 rfl _ w.heap.size 9 sI rfl underlying25 (v:=xa oo ss.length cc) (n:=ss.length) (xs:=ss.map encStr) rfl (xj (kB x)) rfl rfl ad zo bq (by first|rfl|simp[World.setCell]) ?_))
 intro g cap w4 aV aB aO;have ao:=ir w3 (xi #[xj (kB x)] 9);have I:=gq ad ao;have aa:=aM.alloc (xi #[xj (kB x)] 9);have ar:=aa.kept aB (row_ne_low I bm) (row_ne_iter I aa);have a8:Hid (XL w w4):=(ai.trans (ao.mono ai.size)).grown aB (UP ai.size ao.size) (λj hj=>(gJ I j hj).1);have ay:Hid (w4.ownsRow w.heap.size 9 1 (xa (TT g) (ss.length+1) cap) (ss++[x]).length ((ss++[x]).map encStr)):=by
  show World.ownsRow _ _ _ _ _ _ _;rw[Ur,U1];exact aV
 have aP:ae<ak:=bd.out;clear aV aB aO ao I aa;go_wp2
 go_roundw
 .exact⟨_,ae,ss++[x],by rw[Ur];show ss.length+1+ae<=_;omega,ar,ay,bh,a8⟩
 rw[ar.left_eq,ax.out.left_eq];exact aP
def Fv(h:Fn t){s a:Nat}(I:a<t.acts.length):i' t s (rB t a)=if jS t (kW t s a)<2 then (0,9) else (kW t s a,0):=by
 have J:t.acts[a]?=some (rB t a):=by unfold rB;rw[Uq I];rfl
 unfold i';rw[O8 h.acts.nd J]
def BR{w:Uc}(base:Nat){rd:Nat}{fb fc:Nat}(rb ro rc:Nat->Nat)(hD:SD w base rd t cs A n ab a0 fb f0 nb n0 ac fc nc rb ro rc lo lc)(id:Ub):
  Calls prog 106 #[xk (TT rd),xj id] w λe w'=>SH t cs id w w' e:=by
 obtain⟨i0,hi0,hz0,hz1,hz2⟩:=Uk Tryz.infoStr;have ad:=pZ rb ro rc hD id;have hA6:=hD.tb.A6;have hfew:=hD.few;go_in;go_wp2_with fail;refine ad.mono ?_;clear ad;rintro e w' ⟨hf,aq⟩;have hw:=aq.symm;clear aq;subst hw;rcases hf with⟨hc,rfl⟩|⟨q,c,hq,hc,hcid,rfl⟩
 .have HC:=fy hc;clear hc;go_wp2_with fail;refine py (v:=.tuple #[TV,xd xh 8]) (by simp[results,results106,go_sem]) rfl ?_;exact⟨XF,QZ ⟨HC.out,rfl⟩⟩
 have HC:=fy hc;have HQ:=fy hq;have hql:q<cs.length:=(List.getElem?_eq_some_iff.1 hq).1;have U:=hD.st c (UA hq);have hq0:¬ (q:Int)<0:=zo;have hqi:(q:Int)<(cs.length:Int):=zo;clear hc hq hcid;go_wp2
 go_loopw [7,8] (λtv x wr=>∃(i:Nat)(o:TX)(k:Nat),i<=A/\x=xd xh i/\tv=xa o (kD t c.st i).length k/\Hid (XL w wr)/\Hid (wr.ownsRow w.heap.size 9 1 (xa o (kD t c.st i).length k) (kD t c.st i).length (gU (kD t c.st i)))) (λ_ x _=>A-(intOf x).toNat)
 .exact zm171
 obtain⟨i,o,k,hi,rfl,rfl,HBW,HOW⟩:=hrel;have I:=hD.later HBW.out;have c0:=EQ I.blk 0;have c1:=EQ I.blk 1;have c2:=EQ I.blk 2;have c3:=EQ I.blk 3;have l0:=dK I.blk;rcases zc i A with⟨hil,hin⟩|⟨hil,hin⟩
 .have ak:i<t.acts.length:=by rw[I.tb.hA];exact hil
  have hx:t.acts[i]?=some (rB t i):=by unfold rB;rw[Uq ak];rfl
  have aj:=I.tb.act i (rB t i) hx;have aa:=I.tb.la;obtain⟨g,rfl,ay,_,_,ax,_⟩:=oz I.ls HQ.out;have an:=I.tb.row c.st U;have aA:=I.tb.ln;have aB:=I.tb.lr c.st U;have aC:=I.tb.nxt c.st i U hil;have ar:=I.tb.lt U hil;have aw:=I.tb.fla _ ar;have az:=I.tb.lf;have aD:(c.st:Int)<(n:Int):=zo;have aE:(kW t c.st i:Int)<(n:Int):=zo;have hfle:=Ff t c.st i;have ao:=Fv I.tb.rt (s:=c.st) ak;have ae:=fy (@Fe t c.st i (rB t i) hx);have ag:=fy (@Db t c.st i (rB t i) hx);rw[ao] at ae ag;generalize hof:kD t c.st i=L at *;have HOF:=fy hof;clear hof ao hx I;generalize kW t c.st i=y at *;generalize jS t y=f at *;generalize rB t i=act at *;by_cases h2:2<=f
  .have av:decide ((2:Int)<=(f:Int))=true:=UH zo;have HNX:=fy (ae.out (by rw[T' zo]));go_wp2;go_quiet (fail);have J:=iK wr nq;have HB2:=HBW.out.trans (J.mono HBW.out.size);have HO2:=gq HOW.out J;have c0:=(Fd J _ _ l0).trans c0;have aj:=(Fd J _ _ aa).trans aj;have l0:=Uw l0 J.size;have aa:=Uw aa J.size;clear J c1 c2 c3 ax ay an aA aB aC aw az aE aD ar;generalize wr.drewN nq=w2 at *;exact zm17
  have av:decide ((2:Int)<=(f:Int))=false:=Uy zo;have HNX:=fy (ag.out (by rw[Uh zo];decide));go_wp2;go_quiet (fail);go_wp2
  go_roundw
  .exact⟨i+1,o,k,zo,by go_num,by rw[HNX.out],HBW.out.trans ((iK _ _).mono HBW.out.size),by rw[HNX.out];exact gq HOW.out (iK _ _)⟩
  simp[intOf];omega
 have hie:A=i:=zo;have HOE:=fy (@Da t c.st i (by rw[I.tb.hA];omega));clear I;go_wp2_with fail;refine py (v:=.tuple #[xa o (kD t c.st i).length k,xd xh 0]) (by simp[results,results106,go_sem]) rfl ?_;exact zm145
theorem Ia{w:Uc}(base:Nat){rd:Nat}{fb fc:Nat}(rb ro rc:Nat->Nat)(hD:SD w base rd t cs A n ab a0 fb f0 nb n0 ac fc nc rb ro rc lo lc)(id:Ub):
  Calls prog 108 #[xk (TT rd),xj id] w λe w'=>S5 t cs id e/\XL w w':=by
 have ag:=ir w (xi #[xd xh 0,xn false] 105);have ao:=pZ rb ro rc (hD.later ag) id;have HD:=hD.later ag;have ar:=gi w (xi #[xd xh 0,xn false] 105);have hfew:=hD.few;have aq:=fy (Rz (dK hD.blk) hD.tb.lf);have aE:=fy (λ(i:Nat)(c:Cs)(hc:cs[i]?=some c)=>oz hD.ls hc);clear hD;go_in;go_wp2_with fail;refine ao.mono ?_;clear ao;generalize hWe:w.alloc (xi #[xd xh 0,xn false] 105)=W at *;clear hWe;rintro e w' ⟨hf,ay⟩;have hw:=ay.symm;clear ay;subst hw;rcases hf with⟨hc,rfl⟩|⟨q,c,hq,hc,hcid,rfl⟩
 .have HC:=fy hc;have J:=ar;have r0:=gh J 0;have r1:=gh J 1;have r2:=EQ J 0;have r3:=EQ J 1;have rl:=dK J;have U:=gj (gj J 0 (xd xh 0)) 1 (xn false);have ad:Hid (XL w ((W.setCell (TU w.heap.size 0) (xd xh 0)).setCell (TU w.heap.size 1) (xn false))):=(ag.setCell (XH) _).setCell (XH) _;clear hc J;go_wp2_with fail;have ai:=EQ U;refine py (v:=.tuple #[.agg #[xd xh 0,xn false],xd xh 8]) (by simp[results,results108,go_sem,ai]) rfl ?_;exact⟨QZ ⟨HC.out,rfl⟩,ad.out⟩
 have HC:=fy hc;have hql:q<cs.length:=(List.getElem?_eq_some_iff.1 hq).1;have aG:=HD.st c (UA hq);have hq0:¬ (q:Int)<0:=zo;have hqi:(q:Int)<(cs.length:Int):=zo;obtain⟨g,rfl,hgl,_,aF,aw,ax⟩:=oz HD.ls hq;obtain⟨g',e',hgw,_⟩:=aE.out q c hq;cases e';have k1:=EQ HD.blk 1;have k3:=EQ HD.blk 3;have hfl:=HD.tb.fla c.st aG;have hlf:=HD.tb.lf;have lr:=dK HD.blk;have aa:=zi t c.st;have hsi:(c.st:Int)<(n:Int):=zo;have J:=ar;have rl:=dK J;have hw1:=aq.out.1;have hw2:=aq.out.2;generalize hN:cs.length=N at *;generalize hse:c.st=st at *;generalize hee:c.ev=ev at *;have au:=fy hse;have an:=fy hee;clear hN hse hee hc hq hcid aF;generalize hfe:jS t st=f at *;clear hfe;have g1:=aw;have g2:=ax;clear aw ax;obtain⟨R,ae⟩:∃R,w.heap.size=R:=⟨_,rfl⟩;rw[ae] at J rl|-;have hn1:R≠rd:=zo;have hn2:R≠g:=zo;have hn3:R≠fb:=zo;go_wp2_with fail;cases hacc:kM t st
 .rw[hacc] at aa;simp only[UC,Wh] at aa;refine R' (S:=(λw'=>w'.cell? (TU rd 1)=some (xa (some (TU fb f0)) n fc)/\w'.cell? (TU rd 3)=some (xa (TT g) N lc)/\w'.cell? (TU g (q*3+1))=some (xd xh (st:Int))/\w'.cell? (TU g (q*3+2))=some (xd xh (ev:Int))/\w'.cell? (TU fb (f0+st))=some (xd xh (f:Int)))) zk ?_ (λI=>?_)
  .exact⟨k1,k3,g1,g2,hfl⟩
  apply zt1 0 (xk (TT rd)) I;apply zt1 1 (xk (TT rd)) I;apply zt1 2 (xk (some (TU rd 3))) I;apply zt1 3 (xa (TT g) N lc) I;apply zt1 4 (xd xh (q:Int)) I;apply zt1 5 (xk (some (TU g (q*3)))) I;apply zt1 6 (xk (some (TU g (q*3+2)))) I;apply zt1 7 (xd xh (ev:Int)) I;apply zt1 8 (xk (TT rd)) I;apply zt1 9 (xk (TT rd)) I;apply zt1 10 (xk (TT rd)) I;apply zt1 11 (xk (some (TU rd 1))) I;apply zt1 12 (xa (some (TU fb f0)) n fc) I;apply zt1 13 (xk (TT rd)) I;apply zt1 14 (xk (TT rd)) I;apply zt1 15 (xk (some (TU rd 3))) I;apply zt1 16 (xa (TT g) N lc) I;apply zt1 17 (xd xh (q:Int)) I;apply zt1 18 (xk (some (TU g (q*3)))) I;apply zt1 19 (xk (some (TU g (q*3+1)))) I;apply zt1 20 (xd xh (st:Int)) I;apply zt1 21 (xk (some (TU fb (f0+st)))) I;apply zt1 22 (xd xh (f:Int)) I;apply zt1 23 (xd xh 0) I;apply zt1 24 (xn false) I;apply zt1 25 (.agg #[xd xh (ev:Int),xn false]) I;apply zrH 26;intro K hK;have r0:=gh J 0;have r1:=gh J 1;have r2:=EQ J 0;have r3:=EQ J 1;have U:=gj (gj J 0 (xd xh (ev:Int))) 1 (xn false);have ad:Hid (XL w ((W.drew.setCell (TU R 0) (xd xh (ev:Int))).setCell (TU R 1) (xn false))):=(ag.drew.setCell (Vx ae) _).setCell (Vx ae) _;go_simp;refine hK.out _ _ ?keep (λI=>?_)
  case keep=>
   have far:∀(b o:Nat)(x:Ud),R≠b->W.cell? (TU b o)=some x->((W.drew.setCell (TU R 0) (xd xh (ev:Int))).setCell (TU R 1) (xn false)).cell? (TU b o)=some x:=λb o x hne h=>by
    exact zm76
   exact zm161
  clear hK K r0 r1 r2 r3;have ai:=EQ U;apply zt1 27 (xd xh 0) I;refine Ut zk ?_ _;clear I;go_wp2_with fail;refine py (v:=.tuple #[.agg #[xd xh (ev:Int),xn false],xd xh 0]) (by simp[results,results108,go_sem,ai]) rfl ?_;exact⟨QX ⟨c,HC.out,by rw[au.out,an.out,hacc]⟩,ad.out⟩
 rw[hacc] at aa;simp only[VF] at aa;refine R' (S:=(λw'=>w'.cell? (TU rd 1)=some (xa (some (TU fb f0)) n fc)/\w'.cell? (TU rd 3)=some (xa (TT g) N lc)/\w'.cell? (TU g (q*3+1))=some (xd xh (st:Int))/\w'.cell? (TU g (q*3+2))=some (xd xh (ev:Int))/\w'.cell? (TU fb (f0+st))=some (xd xh (f:Int)))) zk ?_ (λI=>?_)
 .exact⟨k1,k3,g1,g2,hfl⟩
 apply zt1 0 (xk (TT rd)) I;apply zt1 1 (xk (TT rd)) I;apply zt1 2 (xk (some (TU rd 3))) I;apply zt1 3 (xa (TT g) N lc) I;apply zt1 4 (xd xh (q:Int)) I;apply zt1 5 (xk (some (TU g (q*3)))) I;apply zt1 6 (xk (some (TU g (q*3+2)))) I;apply zt1 7 (xd xh (ev:Int)) I;apply zt1 8 (xk (TT rd)) I;apply zt1 9 (xk (TT rd)) I;apply zt1 10 (xk (TT rd)) I;apply zt1 11 (xk (some (TU rd 1))) I;apply zt1 12 (xa (some (TU fb f0)) n fc) I;apply zt1 13 (xk (TT rd)) I;apply zt1 14 (xk (TT rd)) I;apply zt1 15 (xk (some (TU rd 3))) I;apply zt1 16 (xa (TT g) N lc) I;apply zt1 17 (xd xh (q:Int)) I;apply zt1 18 (xk (some (TU g (q*3)))) I;apply zt1 19 (xk (some (TU g (q*3+1)))) I;apply zt1 20 (xd xh (st:Int)) I;apply zt1 21 (xk (some (TU fb (f0+st)))) I;apply zt1 22 (xd xh (f:Int)) I;apply zt1 23 (xd xh 1) I;apply zt1 24 (xn true) I;apply zt1 25 (.agg #[xd xh (ev:Int),xn true]) I;apply zrH 26;intro K hK;have r0:=gh J 0;have r1:=gh J 1;have r2:=EQ J 0;have r3:=EQ J 1;have U:=gj (gj J 0 (xd xh (ev:Int))) 1 (xn true);have ad:Hid (XL w ((W.drew.setCell (TU R 0) (xd xh (ev:Int))).setCell (TU R 1) (xn true))):=(ag.drew.setCell (Vx ae) _).setCell (Vx ae) _;go_simp;refine hK.out _ _ ?keep (λI=>?_)
 case keep=>
  have far:∀(b o:Nat)(x:Ud),R≠b->W.cell? (TU b o)=some x->((W.drew.setCell (TU R 0) (xd xh (ev:Int))).setCell (TU R 1) (xn true)).cell? (TU b o)=some x:=λb o x hne h=>by
   exact zm76
  exact zm161
 clear hK K r0 r1 r2 r3;have ai:=EQ U;apply zt1 27 (xd xh 0) I;refine Ut zk ?_ _;clear I;go_wp2_with fail;refine py (v:=.tuple #[.agg #[xd xh (ev:Int),xn true],xd xh 0]) (by simp[results,results108,go_sem,ai]) rfl ?_;exact⟨QX ⟨c,HC.out,by rw[au.out,an.out,hacc]⟩,ad.out⟩
def Tryz.infoCase:(prog.info? 247).map (λi=>(i.zero,i.size,i.bytes))=some (some (.agg #[xj ⟨#[]⟩,xd xh 0,xd xh 0]),3,32):=zk
def Cj(cs:List Cs)(c:Cs):nA (cs++[c])=nA cs++[xj c.id,xd xh (c.st:Int),xd xh (c.ev:Int)]:=by
 unfold nA;simp
def ED(base rd:Nat)(t:Tb)(cs':List Cs)(A n ab a0 fb f0 nb n0 ac fc nc:Nat)(rb ro rc:Nat->Nat)(lo:TX)(w w':Uc):Prop:=
 R0 (nV rd lo) w w'/\∃lo' lc',SD w' base rd t cs' A n ab a0 fb f0 nb n0 ac fc nc rb ro rc lo' lc'/\∀k,nV rd lo' k->nV rd lo k\/w.heap.size<=k
def mM{w:Uc}{base k:Nat}{xs:TW}(h:w.ownsRow base e 3 (xa lo n lc) m xs)(I:(xa lo n lc).ownBlock=some k):lo=some ⟨k,0,none⟩/\base<=k/\∃c,w.heap[k]?=some (xi c e (0,0)):=by
 obtain⟨_,⟨J,_⟩|⟨g,cap,cur,J,hbg,hg,_⟩⟩:=h
 .rw[J] at I;cases I
 cases J;have:=Ue I;simp_all
def SD.more{w w8:Uc}{base rd:Nat}{fb fc:Nat}(h:SD w base rd t cs A n ab a0 fb f0 nb n0 ac fc nc rb ro rc lo lc){id:Ub}(hno:∀c∈cs,c.id≠id)(h8:¬ 8<=cs.length) 
  (ag:w8.ownsRow base 247 3 (xa (TT g8) (cs.length+1) c8) (cs.length+1) (nA cs++[xj id,xd xh 0,xd xh 0]))(J:(w.alloc (xi #[xj id,xd xh 0,xd xh 0] 247)).grownBy w8 (xa lo cs.length lc).ownBlock)(ae:(xa lo cs.length lc).ownBlock=some g8\/g8=w.heap.size+1):
  ED base rd t (cs++[⟨id,0,0⟩]) A n ab a0 fb f0 nb n0 ac fc nc rb ro rc lo w (w8.setCell (TU rd 3) (xa (TT g8) (cs.length+1) c8)):=by
 have ak:(xa lo cs.length lc).ownBlock≠some rd:=λe=>by
  obtain⟨_,_,c,hc⟩:=mM h.ls e;rw[h.blk] at hc;exact zm116
 have ad:∀k,k<w.heap.size->(w.alloc (xi #[xj id,xd xh 0,xd xh 0] 247)).heap[k]?=w.heap[k]? :=λk I=>XD I
 have hals:(w.alloc (xi #[xj id,xd xh 0,xd xh 0] 247)).heap.size=w.heap.size+1:=zp;have hf:R0 (nV rd lo) w (w8.setCell (TU rd 3) (xa (TT g8) (cs.length+1) c8)):=by
  refine⟨J.os,J.tape,J.output,?_,λk I hn=>?_⟩
  .have:=J.size;simp[World.setCell];omega
  rw[XE (λe=>hn (QZ e)),J.block k zo (λe=>hn (QX (mM h.ls e.symm).1)),ad k I]
 have aj:w8.heap[rd]?=some (xi #[xa (some (TU ab a0)) A ac,xa (some (TU fb f0)) n fc,xa (some (TU nb n0)) n nc,xa lo cs.length lc] 245 (0,0)):=by
  rw[J.block rd (by have:=dK h.blk;omega) (λe=>ak e.symm),ad rd (dK h.blk)];exact h.blk
 have hl:(cs++[(⟨id,0,0⟩:Cs)]).length=cs.length+1:=zp;have U:∀k,nV rd (TT g8) k->nV rd lo k\/w.heap.size<=k:=λk I=>by
  rcases I with rfl|I
  .exact QZ (QZ rfl)
  injection I with I
  injection I with I
  rcases ae with h1|h1
  .rw[<-I];exact QZ (QX (mM h.ls h1).1)
  omega
 have hs:=λ{b:Nat} (hb:∀k,nV rd lo k->k≠b)=>(λI=>hb b I rfl:¬ nV rd lo b)
 refine⟨hf,TT g8,c8,⟨?_,h.tb.frame hf (hs λk I=>(h.sep k I).1) (hs λk I=>(h.sep k I).2.1) (hs λk I=>(h.sep k I).2.2.1) (λi hi=>hs λk I=>(h.sep k I).2.2.2 i hi),?_,?_,λc hc=>?_,zo,λk I=>?_⟩,U⟩
 .rw[hl];exact gj aj 3 _
 .rw[hl,Cj];refine gG ag (gp w8 rd 3 _) (λb hb e=>?_);cases hb;obtain⟨_,_,c,hc⟩:=mM ag e;simp_all
 .rw[U1,WU];refine⟨h.nd,zp,λx hx y hy e=>?_⟩;obtain⟨c,hc,rfl⟩:=List.mem_map.1 hx;simp_all
 .rcases List.mem_append.1 hc with hc|hc
  .exact h.st c hc
  rw[List.mem_singleton.1 hc];have:=h.tb.n1;trivial
 rcases U k I with h1|h1
 .exact h.sep k h1
 exact zm137
def FQ{w:Uc}(base:Nat){rd:Nat}{fb fc:Nat}(rb ro rc:Nat->Nat)(hD:SD w base rd t cs A n ab a0 fb f0 nb n0 ac fc nc rb ro rc lo lc)(hbase:base<=w.heap.size)(id:Ub):
  Calls prog 103 #[xk (TT rd),xj id] w λe w'=>e=xm (xd xh ((jo cs id).2:Int))/\ED base rd t (jo cs id).1 A n ab a0 fb f0 nb n0 ac fc nc rb ro rc lo w w':=by
 obtain⟨i0,ao,aq,ar,au⟩:=Uk Tryz.infoCase;have ae:=pZ rb ro rc hD id;have hfew:=hD.few;have c3:=EQ hD.blk 3;have f3:=gh hD.blk 3;have l0:=dK hD.blk;go_in;go_wp2_with fail;refine ae.mono ?_;clear ae;rintro e w' ⟨hf,aj⟩;have hw:=aj.symm;clear aj;subst hw;rcases hf with⟨hc,rfl⟩|⟨q,c,hq,hc,hcid,rfl⟩
 .by_cases h8:8<=cs.length
  .have HE:Hid (jo cs id=(cs,11)):=by show _=_;unfold jo;rw[hc];simp only[Uh h8]
   have an:(8:Int)<=(cs.length:Int):=zo;clear hc;go_wp2_with fail;refine py (v:=xd xh 11) (by simp[results,results103,go_sem]) rfl ?_;rw[HE.out];exact zm71
  have HE:Hid (jo cs id=(cs++[⟨id,0,0⟩],0)):=by show _=_;unfold jo;rw[hc];simp only[T' h8]
  have an:¬ (8:Int)<=(cs.length:Int):=zo;have ak:=fy (uB hc);clear hc
  go_wp2_with (at_builtin;go_must (refine Uz _ rfl _ _ 243 rfl base 247 i0 (.agg #[xj ⟨#[]⟩,xd xh 0,xd xh 0]) 3 32 underlying243 ao aq ar au rfl zd _ cs.length (nA cs) rfl ?c0 _ 1 1 [xj id,xd xh 0,xd xh 0] rfl rfl ?c1 ?c2 zd ?c3 ?c4 ?c5 (w.heap.size+1) zp ?_))
  case c0=>exact hD.ls.alloc _
  case c1=>
   intro j u J
   match j,J with
   |0,J=>simp at J;subst J;exact EQ (gu zp) 0
   |1,J=>simp at J;subst J;exact EQ (gu zp) 1
   |2,J=>simp at J;subst J;exact EQ (gu zp) 2
   |j+3,J=>simp at J
  case c2=>intro u hu;simp at hu;rcases hu with rfl|rfl|rfl<;>rfl
  case c3=>unfold maxLen;omega
  case c4=>omega
  case c5=>simp;omega
  intro g8 c8 w8 ai aa U ag;have HQ:=hD.more ak.out h8 ai aa U;have I:w8.heap[rd]?=some (xi #[xa (some (TU ab a0)) A ac,xa (some (TU fb f0)) n fc,xa (some (TU nb n0)) n nc,xa lo cs.length lc] 245 (0,0)):=by
   refine(aa.block rd zs (λe=>?_)).trans ((XD l0).trans hD.blk);obtain⟨_,_,c,hc⟩:=mM hD.ls e.symm;rw[hD.blk] at hc;exact zm116
  have d3:=EQ I 3;have e3:=gh I 3;have m0:=dK I;clear ai aa U ag I c3 f3 l0;go_wp2_with fail;refine py (v:=xd xh 0) (by simp[results,results103,go_sem]) rfl ?_;rw[HE.out];exact⟨rfl,HQ⟩
 have HE:Hid (jo cs id=(cs,8)):=by show _=_;unfold jo;rw[hc]
 have hq0:(0:Int)<=(q:Int):=zo;clear hc hq hcid;go_wp2_with fail;refine py (v:=xd xh 8) (by simp[results,results103,go_sem]) rfl ?_;rw[HE.out];exact zm71
def AK{w:Uc}{base z cap g:Nat}{xs:TW}(h:w.ownsRow base e z (xa (TT g) n cap) n xs)(i:Nat)(v:Ud):(w.setCell (TU g i) v).ownsRow base e z (xa (TT g) n cap) n (xs.set i v):=by
 exact zm39
def ER:∀{cs:List Cs} {q:Nat} {c:Cs} (s e:Nat),(cs.map (·.id)).Nodup->cs[q]?=some c->((nA cs).set (q*3+1) (xd xh (s:Int))).set (q*3+2) (xd xh (e:Int))=nA (jI cs c.id s e)
 |[],q,c,s,e,_,h=>zf
 |x::cs,0,c,s,e,hd,h=>by
  have hx:x=c:=za;subst hx;rw[UZ,RP] at hd;have I:jI cs x.id s e=cs:=by
   unfold jI
   conv=>rhs;rw[<-VW cs]
   refine Vd λy hy=>?_
   simp_all
  have J:jI (x::cs) x.id s e=⟨x.id,s,e⟩::jI cs x.id s e:=by unfold jI;simp
  rw[J,I];rfl
 |x::cs,q+1,c,s,e,hd,h=>by
  have U:cs[q]?=some c:=zv;rw[UZ,RP] at hd;have hne:x.id≠c.id:=λe=>hd.1 (by rw[e];exact List.mem_map.2 ⟨c,UA U,rfl⟩)
  have J:jI (x::cs) c.id s e=x::jI cs c.id s e:=by unfold jI;simp_all
  have ih:=ER s e hd.2 U;rw[J];show(([xj x.id,xd xh (x.st:Int),xd xh (x.ev:Int)]++nA cs).set ((q+1)*3+1) _).set ((q+1)*3+2) _=[xj x.id,xd xh (x.st:Int),xd xh (x.ev:Int)]++nA (jI cs c.id s e);rw[<-ih,show(q+1)*3+1=q*3+1+3 from zo,show(q+1)*3+2=q*3+2+3 from zo];rfl
def SD.put{w:Uc}{base rd:Nat}{fb fc:Nat}{g:Nat}(h:SD w base rd t cs A n ab a0 fb f0 nb n0 ac fc nc rb ro rc (TT g) lc){q:Nat}{c:Cs}(hq:cs[q]?=some c)(s e:Nat)(hs:s<n):
  ED base rd t (jI cs c.id s e) A n ab a0 fb f0 nb n0 ac fc nc rb ro rc (TT g) w ((w.setCell (TU g (q*3+1)) (xd xh (s:Int))).setCell (TU g (q*3+2)) (xd xh (e:Int))):=by
 have hg:w.grownBy ((w.setCell (TU g (q*3+1)) (xd xh (s:Int))).setCell (TU g (q*3+2)) (xd xh (e:Int))) (some g):=(gp _ _ _ _).trans (gp _ _ _ _);have ad:nV rd (TT g) g:=QX rfl;have hf:=R0.grown hg ad;have aa:g≠rd:=λe=>by
  obtain⟨_,_,c,hc⟩:=mM h.ls (k:=g) rfl;rw[e,h.blk] at hc;exact zm116
 have J:=λ{b:Nat} (hb:∀k,nV rd (TT g) k->k≠b)=>(λI=>hb b I rfl:¬ nV rd (TT g) b)
 have U:=AK (AK h.ls (q*3+1) (xd xh (s:Int))) (q*3+2) (xd xh (e:Int));rw[ER s e h.nd hq] at U;refine⟨hf,TT g,lc,⟨?_,h.tb.frame hf (J λk I=>(h.sep k I).1) (J λk I=>(h.sep k I).2.1) (J λk I=>(h.sep k I).2.2.1) (λi hi=>J λk I=>(h.sep k I).2.2.2 i hi),?_,?_,λx hx=>?_,?_,h.sep⟩,λk I=>QZ I⟩
 .rw[oB];exact(hg.block rd (dK h.blk) (λe=>aa (Ue e).symm)).trans h.blk
 .rw[oB];exact U
 .rw[rO];exact h.nd
 .rcases pY hx with⟨_,hx'⟩|⟨rfl,_⟩
  .exact h.st x hx'
  omega
 rw[oB];exact h.few
def FG{w:Uc}(base:Nat){rd:Nat}{fb fc:Nat}(rb ro rc:Nat->Nat)(hD:SD w base rd t cs A n ab a0 fb f0 nb n0 ac fc nc rb ro rc lo lc)(id act:Ub)(aw:∀c∈cs,c.ev<=4611686018427387904):
  Calls prog 104 #[xk (TT rd),xj id,xj act] w λe w'=>e=xm (xd xh ((jn t cs id act).2:Int))/\ED base rd t (jn t cs id act).1 A n ab a0 fb f0 nb n0 ac fc nc rb ro rc lo w w':=by
 have an:=pZ rb ro rc hD id;have hA6:=hD.tb.A6;have hfew:=hD.few;go_in;go_wp2_with fail;refine an.mono ?_;clear an;rintro e w' ⟨hf,aC⟩;have hw:=aC.symm;clear aC;subst hw;rcases hf with⟨hc,rfl⟩|⟨q,c,hq,hc,hcid,rfl⟩
 .have HE:Hid (jn t cs id act=(cs,8)):=by show _=_;unfold jn;rw[hc]
  clear hc;go_wp2_with fail;refine py (v:=xd xh 8) (by simp[results,results104,go_sem]) rfl ?_;rw[HE.out];exact zm71
 have HE:Hid (jn t cs id act=if (i' t c.st act).2=0 then (jI cs id (i' t c.st act).1 (c.ev+1),0) else (cs,(i' t c.st act).2)):=by show _=_;unfold jn;rw[hc]
 have HQ:=fy hq;have aF:=fy hcid;have hql:q<cs.length:=(List.getElem?_eq_some_iff.1 hq).1;have ad:=hD.st c (UA hq);have hce:=aw c (UA hq);have hq0:¬ (q:Int)<0:=zo;have hqi:(q:Int)<(cs.length:Int):=zo;clear hc hq hcid aw;go_wp2
 go_loopw [8] (λx wr=>∃a:Nat,a<=A/\x=xd xh a/\Hid (w=wr)/\Hid (act∉t.acts.take a)) (λx _=>A-(intOf x).toNat)
 .exact⟨0,Ux,rfl,rfl,λh=>US h⟩
 obtain⟨a,ha,rfl,HW,ao⟩:=hrel;have hw:=HW.out;subst hw;clear HW;have c0:=EQ hD.blk 0;have c1:=EQ hD.blk 1;have c2:=EQ hD.blk 2;have c3:=EQ hD.blk 3;have l0:=dK hD.blk;rcases zc a A with⟨haA,han⟩|⟨haA,han⟩
 .have au:a<t.acts.length:=by rw[hD.tb.hA];exact haA
  have hx:t.acts[a]?=some (rB t a):=by unfold rB;rw[Uq au];rfl
  have av:=hD.tb.act a (rB t a) hx;have aL:=hD.tb.la;have HX:=fy hx;by_cases he:rB t a=act
  .have ai:=Fv hD.tb.rt (s:=c.st) au;rw[he] at ai av;have ar:=fy ai;obtain⟨g,rfl,aa,_,_,az,aA⟩:=oz hD.ls HQ.out;have aB:=hD.tb.row c.st ad;have aM:=hD.tb.ln;have aN:=hD.tb.lr c.st ad;have aO:=hD.tb.nxt c.st a ad haA;have aD:=hD.tb.lt ad haA;have ax:=hD.tb.fla _ aD;have ag:=hD.tb.lf;have hsi:(c.st:Int)<(n:Int):=zo;have hyi:(kW t c.st a:Int)<(n:Int):=zo;clear he hx ai;generalize kW t c.st a=y at *;generalize jS t y=f at *;have hev1:(c.ev:Int)+1<9223372036854775808:=zo;go_wp2;go_quiet (fail);have I:=iK w nq;have c0:=(Fd I _ _ l0).trans c0;have c1:=(Fd I _ _ l0).trans c1;have c2:=(Fd I _ _ l0).trans c2;have c3:=(Fd I _ _ l0).trans c3;have az:=(Fd I _ _ aa).trans az;have aA:=(Fd I _ _ aa).trans aA;have ax:=(Fd I _ _ ag).trans ax;have U:=hD.later I;have l0:=Uw l0 I.size;have aa:=Uw aa I.size;have ag:=Uw ag I.size;have ay:∀o,(w.drewN nq).frozen? (TU g o)=false:=λo=>by
    obtain⟨_,_,cc,J⟩:=mM U.ls (k:=g) rfl;exact gh J o
   have aJ:g≠rd:=λe=>by
    obtain⟨_,_,cc,J⟩:=mM U.ls (k:=g) rfl;rw[e,U.blk] at J;injection J with J
    injection J with _ J _
    exact absurd J zd
   have hrg:rd≠g:=λe=>aJ e.symm
   clear aO aB aM aN aL av;generalize w.drewN nq=w2 at *;by_cases h2:f<2
   .have aH:(f:Int)<2:=zo;go_wp2_with fail;refine py (v:=xd xh 9) (by simp[results,results104,go_sem]) rfl ?_;rw[HE.out,ar.out,Uh h2];exact⟨rfl,R0.below I,TT g,lc,U,λk hk=>QZ hk⟩
   have aH:¬ (f:Int)<2:=zo;have hz1:=ay (q*3+1);have hz2:=ay (q*3+2);go_wp2_with fail;refine py (v:=xd xh 0) (by simp[results,results104,go_sem]) rfl ?_;rw[HE.out,ar.out,T' h2];have ae:=U.put HQ.out y (c.ev+1) aD;rw[aF.out,show((c.ev+1:Nat):Int)=(c.ev:Int)+1 from zo] at ae;obtain⟨aI,lo',lc',hP,hk⟩:=ae;exact⟨rfl,(R0.below I).trans aI,lo',lc',hP,λk aK=>(hk k aK).imp_right λh=>UP I.size h⟩
  have hne:=qX he;have aq:Hid (act∉t.acts.take (a+1)):=by
   show ¬ _;rw[U5,HX.out,List.mem_append];rintro (h|h)
   .exact ao.out h
   exact he (by simpa using h:act=rB t a).symm
  clear he hx;generalize rB t a=sa at *;go_wp2
  go_roundw
  .exact⟨a+1,zo,by go_num,trivial,aq⟩
  simp[intOf];omega
 have aG:Hid (i' t c.st act=(0,3)):=by
  show _=_;have h1:=ao.out;rw[UF (by rw[hD.tb.hA];omega)] at h1;unfold i';cases hfn:iV act t.acts 0 with
  |none=>rfl
  |some j=>exact absurd (UA (mE hfn).2) h1
 go_wp2_with fail;refine py (v:=xd xh 3) (by simp[results,results104,go_sem]) rfl ?_;rw[HE.out,aG.out];exact zm71
def F7(cs:List Cs)(c:Cs)(id:Ub):je (cs++[c]) id=if c.id=id then je cs id else je cs id++[c]:=by
 unfold je;rw[List.filter_append];by_cases h:c.id=id
 .rw[Uh h,List.filter_cons_of_neg (by simp[h])];simp
 rw[T' h,List.filter_cons_of_pos (by simp[h])];simp
def Ck{id:Ub}:(je cs id).length<=cs.length:=List.length_filter_le _ _
def SD.less{w w2:Uc}{base rd:Nat}{fb fc:Nat}(h:SD w base rd t cs A n ab a0 fb f0 nb n0 ac fc nc rb ro rc lo lc)(U:base<=w.heap.size)(hb:XL w w2){id:Ub}{k:Nat}(hm:(je cs id).length=m)
  (ho:w2.ownsRow w.heap.size 247 3 (xa o m k) m (nA (je cs id))):
  ED base rd t (je cs id) A n ab a0 fb f0 nb n0 ac fc nc rb ro rc lo w (w2.setCell (TU rd 3) (xa o m k)):=by
 subst hm;have l0:=dK h.blk;have ag:=(hb.block rd l0).trans h.blk;have hf:R0 (nV rd lo) w (w2.setCell (TU rd 3) (xa o (je cs id).length k)):=(R0.below hb).trans (R0.grown (gp w2 rd 3 _) (QZ rfl));have J:∀j,nV rd o j->nV rd lo j\/w.heap.size<=j:=λj hj=>by
  rcases hj with rfl|hj
  .exact QZ (QZ rfl)
  exact QX (mM ho (k:=j) (by rw[hj];rfl)).2.1
 have hs:=λ{b:Nat} (hb:∀k,nV rd lo k->k≠b)=>(λI=>hb b I rfl:¬ nV rd lo b)
 refine⟨hf,o,k,⟨gj ag 3 _,h.tb.frame hf (hs λk I=>(h.sep k I).1) (hs λk I=>(h.sep k I).2.1) (hs λk I=>(h.sep k I).2.2.1) (λi hi=>hs λk I=>(h.sep k I).2.2.2 i hi),?_,wB h.nd,λc hc=>h.st c (kT.1 hc).1,UP (Ck) h.few,λj hj=>?_⟩,J⟩
 .refine gG (im ho U) (gp w2 rd 3 _) (λb hb e=>?_);cases hb;have:=(mM ho e).2.1;omega
 rcases J j hj with h1|h1
 .exact h.sep j h1
 exact zm137
theorem J8{w:Uc}(base:Nat){rd:Nat}{fb fc:Nat}(rb ro rc:Nat->Nat)(hD:SD w base rd t cs A n ab a0 fb f0 nb n0 ac fc nc rb ro rc lo lc)(an:base<=w.heap.size)(id:Ub):
  Calls prog 105 #[xk (TT rd),xj id] w λe w'=>e=xm (xd xh ((kv t cs id).2:Int))/\ED base rd t (kv t cs id).1 A n ab a0 fb f0 nb n0 ac fc nc rb ro rc lo w w':=by
 obtain⟨i0,aO,aS,aT,aU⟩:=Uk Tryz.infoCase;have ar:=pZ rb ro rc hD id;have hfew:=hD.few;go_in;go_wp2_with fail;refine ar.mono ?_;clear ar;rintro e w' ⟨hf,aC⟩;have hw:=aC.symm;clear aC;subst hw;rcases hf with⟨hc,rfl⟩|⟨q,c,hq,hc,hcid,rfl⟩
 .have HE:Hid (kv t cs id=(cs,8)):=by show _=_;unfold kv;rw[hc]
  clear hc;go_wp2_with fail;refine py (v:=xd xh 8) (by simp[results,results105,go_sem]) rfl ?_;rw[HE.out];exact zm71
 have HE:Hid (kv t cs id=if kM t c.st=true then (je cs id,0) else (cs,10)):=by show _=_;unfold kv;rw[hc]
 have HQ:=fy hq;have aq:=fy hcid;have hql:q<cs.length:=(List.getElem?_eq_some_iff.1 hq).1;have aR:=hD.st c (UA hq);have hq0:¬ (q:Int)<0:=zo;have hqi:(q:Int)<(cs.length:Int):=zo;have hsi:(c.st:Int)<(n:Int):=zo;obtain⟨g,rfl,aN,_,_,ax,_⟩:=oz hD.ls hq;have c1:=EQ hD.blk 1;have c3:=EQ hD.blk 3;have l0:=dK hD.blk;have aM:=hD.tb.fla c.st aR;have hlf:=hD.tb.lf;have ak:=zi t c.st;rw[Xi zo] at ak;have aj:=fy ak;clear ak;clear hc hq hcid;generalize jS t c.st=f at *;by_cases h2:(f:Int)%2=0
 .go_wp2;go_quiet (fail);go_wp2_with fail;refine py (v:=xd xh 10) (by simp[results,results105,go_sem]) rfl ?_;have aw:¬ kM t c.st=true:=λh=>by have h3:=aj.out;rw[h2,Uh h] at h3;omega
  rw[HE.out,T' aw];exact⟨rfl,R0.below (iK _ _),TT g,lc,hD.later (iK _ _),λk hk=>QZ hk⟩
 have ao:Hid (kM t c.st=true):=by
  show _=_;have h3:=aj.out;by_cases h:kM t c.st=true
  .exact h
  rw[T' h] at h3;exact absurd h3 h2
 go_wp2;go_quiet (fail);have aH:=iK w nq;clear c1 c3 ax aM;generalize w.drewN nq=w2 at *;go_wp2_with fail;generalize ((f:Int)%2==0)=bf;clear h2 aj
 go_loopw [6,7] (λtv x wr=>∃(i:Nat)(o:TX)(k:Nat),i<=cs.length/\x=xd xh i/\tv=xa o (je (cs.take i) id).length k/\Hid (XL w wr)/\Hid (wr.ownsRow w.heap.size 247 3 (xa o (je (cs.take i) id).length k) (je (cs.take i) id).length (nA (je (cs.take i) id)))) (λ_ x _=>cs.length-(intOf x).toNat)
 .exact⟨0,none,0,Ux,rfl,rfl,aH,⟨rfl,QZ ⟨rfl,rfl⟩⟩⟩
 obtain⟨i,o,k,hi,rfl,rfl,I,ad⟩:=hrel;have J:=hD.later I.out;have c3:=EQ J.blk 3;have f3:=gh J.blk 3;have l0:=dK J.blk;have hle:(je (cs.take i) id).length<=8:=UP (Ck) (UP (List.length_take_le _ _) zo);rcases zc i cs.length with⟨hil,hin⟩|⟨hil,hin⟩
 .have hx:cs[i]?=some cs[i]:=Uq hil;have HX:=fy hx;obtain⟨g',e',aN,_,hg0,ax,hg2⟩:=oz J.ls hx;cases e';have aK:=J.nd;have ae:=fy (F7 (cs.take i) cs[i] id);rw[show cs.take i++[cs[i]]=cs.take (i+1) by rw[U5,hx];rfl] at ae;generalize cs[i]=d at *;clear hx J;by_cases hiq:i=q
  .have aP:(i:Int)=(q:Int):=zo;have ai:d.id=id:=by
    have h1:=HX.out;rw[hiq,HQ.out] at h1;rw[<-Ue h1];exact aq.out
   have aa:=fy (ae.out.trans (Uh ai));clear ae ai hiq;go_wp2
   go_roundw
   .exact⟨i+1,o,k,zo,by go_num,by rw[aa.out],I,by rw[aa.out];exact ad⟩
   simp[intOf];omega
  have aP:¬ (i:Int)=(q:Int):=zo;have ai:¬ d.id=id:=λe=>hiq (by
   have h1:=HX.out;have h2:=HQ.out;have aA:(cs.map (·.id))[i]?=some id:=by rw[UG,h1];exact congrArg some e
   have aQ:(cs.map (·.id))[q]?=some id:=by rw[UG,h2];exact congrArg some aq.out
   exact(WW (List.getElem?_eq_some_iff.1 aA).1 aK).1 (aA.trans aQ.symm))
  have aa:=fy (ae.out.trans (T' ai));clear ae ai hiq;generalize hof:je (cs.take i) id=L at *;clear hof
  go_wp2_with (at_builtin;go_must (refine Uz _ rfl _ _ 243 rfl w.heap.size 247 i0 (.agg #[xj ⟨#[]⟩,xd xh 0,xd xh 0]) 3 32 underlying243 aO aS aT aU rfl zd _ L.length (nA L) rfl ?c0 _ 1 1 [xj d.id,xd xh (d.st:Int),xd xh (d.ev:Int)] rfl rfl ?c1 ?c2 zd ?c3 ?c4 ?c5 _ rfl ?_))
  case c0=>exact ad.out.alloc _
  case c1=>
   intro j u U
   match j,U with
   |0,U=>simp at U;subst U;exact EQ (gu zp) 0
   |1,U=>simp at U;subst U;exact EQ (gu zp) 1
   |2,U=>simp at U;subst U;exact EQ (gu zp) 2
   |j+3,U=>simp at U
  case c2=>intro u hu;simp at hu;rcases hu with rfl|rfl|rfl<;>rfl
  case c3=>unfold maxLen;omega
  case c4=>omega
  case c5=>have:=I.out.size;simp;omega
  intro g8 c8 w8 aB ay _ _;have ag:=ir wr (xi #[xj d.id,xd xh (d.st:Int),xd xh (d.ev:Int)] 247);have aI:=(I.out.trans (ag.mono I.out.size)).grown ay (UP I.out.size ag.size) (λb hb=>(mM ad.out hb).2.1);have aL:Hid (w8.ownsRow w.heap.size 247 3 (xa (TT g8) (je (cs.take (i+1)) id).length c8) (je (cs.take (i+1)) id).length (nA (je (cs.take (i+1)) id))):=by
   show World.ownsRow _ _ _ _ _ _ _;rw[aa.out,Ur,Cj];exact aB
  have aJ:Hid ((je (cs.take (i+1)) id).length=L.length+1):=by show _=_;rw[aa.out,Ur];rfl
  clear aB ay ag ad;go_wp2
  go_roundw
  .exact⟨i+1,TT g8,c8,zo,by go_num,by rw[aJ.out],aI,aL⟩
  simp[intOf];omega
 have az:cs.take i=cs:=UF zo;have au:=fy az;clear J az;go_wp2_with fail;refine py (v:=xd xh 0) (by simp[results,results105,go_sem]) rfl ?_;rw[HE.out,Uh ao.out];have ho:=ad.out;have hl:(je cs id).length=(je (cs.take i) id).length:=by rw[au.out]
 refine⟨rfl,hD.less an I.out hl ?_⟩;rw[au.out] at ho|-;exact ho
structure Pl where
 A:Nat
 n:Nat
 ab:Nat
 a0:Nat
 fb:Nat
 f0:Nat
 nb:Nat
 n0:Nat
 ac:Nat
 fc:Nat
 nc:Nat
 rb:Nat->Nat
 ro:Nat->Nat
 rc:Nat->Nat
variable{p:Pl}
def Pl.S(p:Pl)(k:Nat):Prop:=k=p.ab\/k=p.fb\/k=p.nb\/∃i,i<p.n/\k=p.rb i
def SQ.same{w w':Uc}(h:SQ w t p.A p.n p.ab p.a0 p.fb p.f0 p.nb p.n0 p.rb p.ro p.rc)(hs:w.heap.size<=w'.heap.size)(I:∀k,p.S k->w'.heap[k]?=w.heap[k]?):SQ w' t p.A p.n p.ab p.a0 p.fb p.f0 p.nb p.n0 p.rb p.ro p.rc:=
 ⟨h.hA,h.hn,h.A6,h.A1,h.n1,h.n100,h.rt,λi s hi=>(nz (I _ (QZ rfl))).trans (h.act i s hi),λi hi=>(nz (I _ (QX (QZ rfl)))).trans (h.fla i hi),λi hi=>(nz (I _ (QX (QX (QZ rfl))))).trans (h.row i hi),
  λi a hi J=>(nz (I _ (QX (QX (QX ⟨i,hi,rfl⟩))))).trans (h.nxt i a hi J),Uw h.la hs,Uw h.lf hs,Uw h.ln hs,λi hi=>Uw (h.lr i hi) hs⟩
def SQ.blocks{w:Uc}(h:SQ w t p.A p.n p.ab p.a0 p.fb p.f0 p.nb p.n0 p.rb p.ro p.rc){k:Nat}(I:p.S k):k<w.heap.size:=by
 rcases I with rfl|rfl|rfl|⟨i,hi,rfl⟩
 .exact h.la
 .exact h.lf
 .exact h.ln
 exact h.lr i hi
structure Dd where
 t:Tb
 cs:List Cs
 db:Nat
 p:Pl
 mb:Nat
 pb:Ub->Nat
 D:DataW Unit
 rd:Nat
 q:Pl
 lo:TX
 lc:Nat
variable{d':Dd}
def Dd.dS(d:Dd)(k:Nat):Prop:=k=d.db\/d.p.S k\/lU d.cs d.mb d.pb k
def Dd.rS(d:Dd)(k:Nat):Prop:=d.q.S k\/nV d.rd d.lo k
def Dd.dP(d:Dd)(w:Uc):Prop:=Si w d.db d.t d.cs d.p.A d.p.n d.p.ab d.p.a0 d.p.fb d.p.f0 d.p.nb d.p.n0 d.p.ac d.p.fc d.p.nc d.p.rb d.p.ro d.p.rc d.mb d.pb d.D
def Dd.rP(B:Nat)(d:Dd)(w:Uc):Prop:=SD w B d.rd d.t d.cs d.q.A d.q.n d.q.ab d.q.a0 d.q.fb d.q.f0 d.q.nb d.q.n0 d.q.ac d.q.fc d.q.nc d.q.rb d.q.ro d.q.rc d.lo d.lc
def Dd.dT(d:Dd):Th:=⟨d.dS,d.dP⟩
def Dd.rT(B:Nat)(d:Dd):Th:=⟨d.rS,d.rP B⟩
def Dd.ts(B:Nat)(d:Dd):List Th:=[d.dT,d.rT B]
def Dd.dOk{d:Dd}{w:Uc}(h:d.dP w):R1 w d.dT:=by
 refine⟨h,λk I=>?_,λw' hs I=>?_⟩
 .rcases I with rfl|I|I
  .exact dK h.blk
  .exact h.tb.blocks I
  exact Si.blocks h I
 obtain⟨es,U,hb,F,J,hD⟩:=h.mp;exact⟨(I _ (QZ rfl)).trans h.blk,h.tb.same hs (λk h1=>I k (QX (QZ h1))),⟨es,U,(I _ (QX (QX (QZ rfl)))).trans hb,F,J,hD⟩,h.sz,h.has,h.at_,λc hc=>(I _ (QX (QX (QX ⟨c,hc,rfl⟩)))).trans (h.cell c hc),h.nd,h.inj,h.st,h.few,h.sep⟩
def Dd.rOk{B:Nat}{d:Dd}{w:Uc}(h:d.rP B w):R1 w (d.rT B):=by
 have J:∀k,(xa d.lo d.cs.length d.lc).ownBlock=some k->nV d.rd d.lo k:=λk e=>QX (mM h.ls e).1
 refine⟨h,λk I=>?_,λw' hs I=>?_⟩
 .rcases I with I|rfl|I
  .exact h.tb.blocks I
  .exact dK h.blk
  exact(gJ h.ls k (by rw[I];rfl)).2
 exact⟨(I _ (QX (QZ rfl))).trans h.blk,h.tb.same hs (λk U=>I k (QZ U)),jZ h.ls (λk e=>I k (QX (J k e))),h.nd,h.st,h.few,h.sep⟩
def Q1.same{w w':Uc}{l v:Ud}(h:Q1 w l v e)(hk:∀k,l.ownBlock=some k->w'.heap[k]?=w.heap[k]?):Q1 w' l v e:=by
 obtain⟨o,n,c,I,h2,h3⟩:=h;refine⟨o,n,c,I,h2,λi hi=>?_⟩;obtain⟨b,J,h5,h6⟩:=h3 i hi;have e:=hk b (by rw[I,J];rfl);refine⟨b,J,?_,(nz e).trans h6⟩;obtain⟨U,m,hc⟩:=h5;exact⟨U,m,e.trans hc⟩
def kS(b:Bk):Th:=⟨λk=>b.l.ownBlock=some k\/b.g1.ownBlock=some k\/b.g2.ownBlock=some k\/b.g3.ownBlock=some k,λw=>S4 w b⟩
def PX{w:Uc}(h:S4 w b)(J:∀k,(kS b).S k->k<w.heap.size):R1 w (kS b):=
 ⟨h,J,λw' hs I=>⟨h.l.same (λk e=>I k (QZ e)),h.g1.same (λk e=>I k (QX (QZ e))),h.g2.same (λk e=>I k (QX (QX (QZ e)))),h.g3.same (λk e=>I k (QX (QX (QX e))))⟩⟩
structure Wt where
 L:TZ
 lo:TX
 lc:Nat
 ko:TX
 kc:Nat
def Wt.l(x:Wt):Ud:=xa x.lo x.L.length x.lc
def Wt.k(x:Wt):Ud:=xa x.ko x.L.length x.kc
structure Wt.P(B:Nat)(x:Wt)(w:Uc):Prop where
 l:w.ownsRow B 9 1 x.l x.L.length (gU x.L)
 k:w.ownsRow B 9 1 x.k x.L.length (gU x.L)
 few:x.L.length<=8
def qy(B:Nat)(x:Wt):Th:=⟨λk=>x.l.ownBlock=some k\/x.k.ownBlock=some k,x.P B⟩
def Qh{B:Nat}{w:Uc}{x:Wt}(h:x.P B w):R1 w (qy B x):=
 ⟨h,λk I=>I.elim (λe=>(gJ h.l k e).2) (λe=>(gJ h.k k e).2),λw' hs I=>⟨jZ h.l (λk e=>I k (QZ e)),jZ h.k (λk e=>I k (QX e)),h.few⟩⟩
theorem xT{w:Uc}{base:Nat}{c:Nat}(h:w.ownsRow base 9 1 (xa o L.length c) L.length (gU L)):So w o L:=by
 grind[gT,gU,So]
def qd(ds:List Dd):TW:=ds.flatMap λd=>[xk (TT d.db),xk (TT d.rd)]
theorem zM(ds:List Dd):(qd ds).length=ds.length*2:=by
 induction ds with
 |nil=>rfl
 |cons d r ih=>grind[qd]
theorem Ls(ds:List Dd)(d:Dd):qd (ds++[d])=qd ds++[xk (TT d.db),xk (TT d.rd)]:=by
 grind[qd]
theorem N1(l r:List Dd)(d:Dd)(h1:d'.db=d.db)(h2:d'.rd=d.rd):qd (l++d'::r)=qd (l++d::r):=by
 grind[qd]
theorem Pv(l r:List Dd)(d:Dd):(qd (l++d::r))[l.length*2]?=some (xk (TT d.db))/\(qd (l++d::r))[l.length*2+1]?=some (xk (TT d.rd)):=by
 have e:qd (l++d::r)=qd l++(xk (TT d.db):: xk (TT d.rd)::qd r):=by
  grind[qd]
 grind[zM]
def Sa(N:Nat)(cs:List Cs):Prop:=∀c∈cs,c.ev<=N/\c.id.size<=140737488355328
theorem Sa.up{N N':Nat}(h:Sa N cs)(hn:N<=N'):Sa N' cs:=by grind[Sa]
section
variable{B lb:Nat}{X:List Th}{w0 w w':Uc}{N:Nat}{ds:List Dd}{bs:List Bk}{ws:List Wt}
def lq(B:Nat)(v:Ud)(L:TZ):Th:=⟨λk=>v.ownBlock=some k,λw=>w.ownsRow B 9 1 v L.length (gU L)⟩
def GS{v:Ud}(h:w.ownsRow B 9 1 v L.length (gU L)):R1 w (lq B v L):=⟨h,λk I=>(gJ h k I).2,λw' hs I=>jZ h I⟩
end
section
variable{B lb:Nat}{X:List Th}{w0 w w1 w2 w':Uc}{N:Nat}{ds l r:List Dd}{d:Dd}{bs:List Bk}{ws:List Wt}{cs':List Cs}{pb':Ub->Nat}{D':DataW Unit}{lo':TX}{lc':Nat}
theorem vO{w:Uc}{b1 b2 J U z1 z2 n1 n2:Nat}(h1:w.ownsRow b1 J z1 v1 n1 x1)(h2:w.ownsRow b2 U z2 v2 n2 x2)(hne:J≠U){k:Nat}(k1:v1.ownBlock=some k):v2.ownBlock≠some k:=λk2=>by
 obtain⟨_,⟨I,_⟩|⟨g,cap,cur,I,hg,hrow,_⟩⟩:=h1
 .rw[I] at k1;cases k1
 rw[I] at k1;have e:g=k:=Ue k1
 grind[gz]
theorem B4{w:Uc}{g c:Nat}{v:Ud}(h:Q1 w (xa (TT g) (m+1) c) v e):Q2 w g e:=by
 obtain⟨o,n,c',I,_,J⟩:=h;cases I;obtain⟨b,U,ht,_⟩:=J 0 (Nat.succ_pos m);cases U;exact ht
end
structure Ik where
 m:Int
 l:Ud
 g1:Ud
 g2:Ud
 g3:Ud
structure Rk where
 m:Int
 mb:Nat
 l:Ud
 g1:Ud
 g2:Ud
 g3:Ud
def IQ(b:Ik):TW:=[xd xh b.m,b.l,b.g1,b.g2,b.g3]
def Ju(b:Rk):TW:=[xd xh b.m,b.l,b.g1,b.g2,b.g3]
def Td(w:Uc)(v:Ud)(e:Nat)(l g1 g2 g3:Ud):Prop:=Q1 w l v e/\Q1 w g1 v e/\Q1 w g2 v e/\Q1 w g3 v e
def Mt(l g1 g2 g3:Ud)(k:Nat):Prop:=l.ownBlock=some k\/g1.ownBlock=some k\/g2.ownBlock=some k\/g3.ownBlock=some k
def Td.same{w w':Uc}{v:Ud}{l g1 g2 g3:Ud}(h:Td w v e l g1 g2 g3)(I:∀k,Mt l g1 g2 g3 k->w'.heap[k]?=w.heap[k]?):Td w' v e l g1 g2 g3:=
 ⟨h.1.same (λk e=>I k (QZ e)),h.2.1.same (λk e=>I k (QX (QZ e))),h.2.2.1.same (λk e=>I k (QX (QX (QZ e)))),h.2.2.2.same (λk e=>I k (QX (QX (QX e))))⟩
def lZ(b:Ik):Th:=⟨Mt b.l b.g1 b.g2 b.g3,λw=>Td w (xd xh b.m) 3 b.l b.g1 b.g2 b.g3⟩
def nX(b:Rk):Th:=⟨λk=>k=b.mb\/Mt b.l b.g1 b.g2 b.g3 k,λw=>w.heap[b.mb]?=some (xi #[xd xh b.m] 3 (0,0))/\Td w (xa (TT b.mb) 1 1) 33 b.l b.g1 b.g2 b.g3⟩
def P3{w:Uc}{b:Ik}(h:Td w (xd xh b.m) 3 b.l b.g1 b.g2 b.g3)(J:∀k,(lZ b).S k->k<w.heap.size):R1 w (lZ b):=⟨h,J,λw' hs I=>h.same I⟩
def P'{w:Uc}{b:Rk}(h:(nX b).P w)(J:∀k,(nX b).S k->k<w.heap.size):R1 w (nX b):=⟨h,J,λw' hs I=>⟨(I _ (QZ rfl)).trans h.1,h.2.same (λk e=>I k (QX e))⟩⟩
def ug(v:Ud)(L:TW):Th:=⟨λk=>v.ownBlock=some k,λw=>w.ownsRow 0 3 1 v L.length L⟩
def wK(v:Ud)(L:TW):Th:=⟨λk=>v.ownBlock=some k,λw=>w.ownsRow 0 33 1 v L.length L⟩
structure Wb where
 t:Tb
 A:Ud
 F:Ud
 X:Ud
 rv:TW
variable{x:Wb}
def j7(x:Wb):Th:=⟨λk=>x.A.ownBlock=some k\/x.F.ownBlock=some k\/x.X.ownBlock=some k\/∃v∈x.rv,v.ownBlock=some k,λw=>RX w 0 x.A x.F x.X x.t x.rv⟩
theorem RX.low{w:Uc}{base:Nat}{A F X:Ud}(h:RX w base A F X t rv):RX w 0 A F X t rv:=
 ⟨im h.acts (Ux),im h.fl (Ux),im h.nx (Ux),λj r hr=>by obtain⟨g,c,h1,h2⟩:=h.rows j r hr;grind[im],h.rf,h.rr⟩
theorem RX.row_of{w:Uc}{base:Nat}{A F X:Ud}(h:RX w base A F X t rv){v:Ud}(U:v∈rv):∃r c,r∈t.nx/\(∃g,v=xa (TT g) r.length c)/\w.ownsRow base 3 1 v r.length (gX r):=by
 obtain⟨j,J⟩:=List.mem_iff_getElem?.1 U;have I:j<t.nx.length:=by have:=(List.getElem?_eq_some_iff.1 J).1;have:=h.rl;omega
 obtain⟨g,c,h1,h2⟩:=h.rows j _ (Uq I)
 grind
def MU{w:Uc}(h:RX w 0 x.A x.F x.X x.t x.rv):R1 w (j7 x):=by
 refine⟨h,λk I=>?_,λw' hs I=>⟨jZ h.acts (λk e=>I k (QZ e)),jZ h.fl (λk e=>I k (QX (QZ e))),jZ h.nx (λk e=>I k (QX (QX (QZ e)))),λj r hr=>?_,h.rf,h.rr⟩⟩
 .rcases I with e|e|e|⟨v,hv,e⟩
  .exact(gJ h.acts k e).2
  .exact(gJ h.fl k e).2
  .exact(gJ h.nx k e).2
  obtain⟨r,c,_,_,J⟩:=h.row_of hv;exact(gJ J k e).2
 obtain⟨g,c,U,J⟩:=h.rows j r hr;exact⟨g,c,U,jZ J (λk e=>I k (QX (QX (QX ⟨_,UA U,e⟩))))⟩
def JK{w:Uc}{base:Nat}(h:RX w base x.A x.F x.X x.t x.rv){k:Nat}(J:(j7 x).S k):base<=k:=by
 rcases J with e|e|e|⟨v,hv,e⟩
 .exact(gJ h.acts k e).1
 .exact(gJ h.fl k e).1
 .exact(gJ h.nx k e).1
 obtain⟨r,c,_,_,I⟩:=h.row_of hv;exact(gJ I k e).1
def yZ(l:List Wb):TW:=l.flatMap λx=>[x.A,x.F,x.X]
def SY(w:Uc)(o:TX)(n c:Nat)(tr:TZ):Prop:=(o=none/\n=0/\c=0/\tr=[])\/∃ad,o=some ad/\n=tr.length/\So w (some ad) tr/\tr.length<=1100000
def SY.later{w w':Uc}{c:Nat}(h:SY w o n c tr)(hb:XL w w'):SY w' o n c tr:=h.imp id (λ⟨I,J,U,h3,h4⟩=>⟨I,J,U,h3.later hb,h4⟩)
def TE(w:Uc)(o:TX)(v:Ud)(tr:TZ):Prop:=(o=none/\v=TV/\tr=[])\/∃ad g,o=some ad/\v=xa (TT g) tr.length (tr.length+8)/\Sg w g tr
def nW(o:TX)(v:Ud)(tr:TZ):Th:=⟨λk=>v.ownBlock=some k,λw=>TE w o v tr⟩
theorem CX{w:Uc}{v:Ud}(h:TE w o v tr):R1 w (nW o v tr):=by
 exact zm54
def uI{w:Uc}{c:Nat}(h:SY w o n c tr):
  Calls prog 94 #[xa o n c] w λe w'=>∃q m,e=xm (xa q n m)/\TE w' o (xa q n m) tr/\(∀k,(xa q n m).ownBlock=some k->w.heap.size<=k)/\XL w w':=by
 rcases h with⟨rfl,rfl,rfl,rfl⟩|⟨ad,rfl,rfl,hT,hl⟩
 .refine(Bq w).mono ?_;exact zm146
 refine(Bp w c hT zo).mono ?_;exact zm129
def LsI(w:Uc)(o:TX)(n c:Nat)(tr:T8):Prop:=(o=none/\n=0/\c=0/\tr=[])\/∃ad,o=some ad/\n=tr.length/\SV w (some ad) tr/\tr.length<=1100000
def LsI.later{w w':Uc}{c:Nat}{tr:T8}(h:LsI w o n c tr)(hb:XL w w'):LsI w' o n c tr:=h.imp id (λ⟨I,J,U,h3,h4⟩=>⟨I,J,U,h3.later hb,h4⟩)
def Ts(w:Uc)(o:TX)(v:Ud)(tr:T8):Prop:=(o=none/\v=TV/\tr=[])\/∃ad g,o=some ad/\v=xa (TT g) tr.length (tr.length+8)/\Sy w g tr
def mK(o:TX)(v:Ud)(tr:T8):Th:=⟨λk=>v.ownBlock=some k,λw=>Ts w o v tr⟩
theorem yy{w:Uc}{v:Ud}{tr:T8}(h:Ts w o v tr):R1 w (mK o v tr):=by
 exact zm54
def CN(w:Uc):Calls prog 183 #[TV] w λe w'=>e=xm TV/\w'=w:=by
 have he:=λW:Uc=>sG W
 go_in;go_wp2;go_ret;simp
def BE(w:Uc){lb:Nat}{o:Ud}:Calls prog 184 #[xk (TT lb),o,TV] w λe w'=>e=xm (xn true)/\w'=w:=by
 have he:=λW:Uc=>sG W
 go_in;go_wp2;go_ret;simp
def rW{w:Uc}{c:Nat}{tr:T8}(h:LsI w o n c tr):
  Calls prog 183 #[xa o n c] w λe w'=>∃q m,e=xm (xa q n m)/\Ts w' o (xa q n m) tr/\(∀k,(xa q n m).ownBlock=some k->w.heap.size<=k)/\XL w w':=by
 rcases h with⟨rfl,rfl,rfl,rfl⟩|⟨ad,rfl,rfl,hT,hl⟩
 .refine(CN w).mono ?_;exact zm146
 refine(CM w c hT zo).mono ?_;exact zm129
def LsR(w:Uc)(o:TX)(n c:Nat)(rs:List (T8)):Prop:=(o=none/\n=0/\c=0/\rs=[])\/∃b off sp,o=some ⟨b,off,sp⟩/\n=rs.length/\rs.length<=1100000/\∀j r,rs[j]?=some r->sp=none/\b<w.heap.size/\∃ro rn rc,w.cell? (TU b (off+j))=some (xa ro rn rc)/\LsI w ro rn rc r
def LsR.later{w w':Uc}{c:Nat}{rs:List (T8)}(h:LsR w o n c rs)(I:XL w w'):LsR w' o n c rs:=
 h.imp id (λ⟨b,off,sp,J,U,h3,h4⟩=>⟨b,off,sp,J,U,h3,λj r hr=>by
  obtain⟨k0,k1,ro,rn,rc,k2,k3⟩:=h4 j r hr;exact⟨k0,Uw k1 I.size,ro,rn,rc,(Fd I _ _ k1).trans k2,k3.later I⟩⟩)
def iF(b ty:Nat)(cs:T1):Th:=⟨λk=>k=b,λw=>w.heap[b]?=some (xi cs ty (0,0))⟩
theorem oV{w:Uc}{b ty:Nat}{cs:T1}(h:w.heap[b]?=some (xi cs ty (0,0))):R1 w (iF b ty cs):=⟨h,λk I=>(show k=b from I)▸dK h,λw' hs I=>(I b rfl).trans h⟩
structure Rq where
 o:TX
 v:Ud
 r:T8
def qj(x:Rq):Th:=mK x.o x.v x.r
def tV(b:Nat):Th:=iF b 3 #[xd xh 77]
structure wW(w:Uc)(nb noff nn:Nat)(rs:List (T8))(xs:List Rq)(cur:T1)(i:Nat):Prop where
 len:xs.length=i
 sz:cur.size=nn+8
 at_:∀j x,xs[j]?=some x->cur[j]?=some x.v/\rs[j]?=some x.r/\∃rn rc,w.cell? (TU nb (noff+j))=some (xa x.o rn rc)
structure BO(nn:Nat)(hs:T5)(cur:T1)(k:Nat):Prop where
 len:hs.length+nn=k
 at_:∀j b,hs[j]?=some b->cur[nn+j]?=some (xa (TT b) 1 1)
def TS(w:Uc)(ao fo no:TX)(na nf nn:Nat)(acts:TZ)(fl:T8)(rs:List (T8))(w':Uc)(e:Ending):Prop:=
 XL w w'/\∃qa ma qf mf,(no=none/\rs=[]/\e=xm (.agg #[xa qa na ma,xa qf nf mf,TV])/\RK w.heap.size w' [nW ao (xa qa na ma) acts,mK fo (xa qf nf mf) fl])\/
  ∃nb noff sp g xs hs cur,no=some ⟨nb,noff,sp⟩/\e=xm (.agg #[xa qa na ma,xa qf nf mf,xa (TT g) nn (nn+8)])/\wW w nb noff nn rs xs cur nn/\BO nn hs cur (nn+8)/\
   RK w.heap.size w' (iF g 33 cur::(nW ao (xa qa na ma) acts::mK fo (xa qf nf mf) fl::(xs.map qj++hs.map tV)))
def RK.far{B b:Nat}{w w':Uc}(h:RK B w xs)(hb:b<B)(hg:w.grownBy w' (some b)):RK B w' xs:=
 ⟨λx I=>(h.ok x I).same hg.size (λk J=>hg.block k ((h.ok x I).lt k J) (λe=>by have:=h.lo x I k J;have:=Ue e;omega)),h.ap,h.lo⟩
def RK.lower{B I:Nat}{w:Uc}(h:RK B w xs)(J:I<=B):RK I w xs:=⟨h.ok,h.ap,λx hx k U=>UP J (h.lo x hx k U)⟩
def RK.rest{B:Nat}{w:Uc}{x:Th}(h:RK B w (x::xs)):RK B w xs:=⟨λy I=>h.ok y (Ul I),(List.pairwise_cons.1 h.ap).2,λy I=>h.lo y (Ul I)⟩
def Iz(w:Uc)(I:Addr)(n c:Nat):(binOp .eql 34 (xa (some I) n c) TV).run prog w=.ok (xn false) w:=Wa w _ _ _ underlying34
def zB(w:Uc):(binOp .eql 34 TV TV).run prog w=.ok (xn true) w:=Wg w _ _ underlying34
theorem tX{w:Uc}(lb:Nat){ao fo no:TX}{J nf nn fc:Nat}{acts:TZ}{rs:List (T8)}(hA:SY w ao J ac acts)(hF:LsI w fo nf fc fl)(hR:LsR w no nn nc rs):
  Calls prog 143 #[xk (TT lb),.agg #[xa ao J ac,xa fo nf fc,xa no nn nc]] w λe w'=>TS w ao fo no J nf nn acts fl rs w' e:=by
 have aA:XL w ((w.alloc (xi #[xa ao J ac,xa fo nf fc,xa no nn nc] 36)).alloc (xi #[TV,TV,TV] 36)):=gC.alloc zp _;have aB:Hid (((w.alloc (xi #[xa ao J ac,xa fo nf fc,xa no nn nc] 36)).alloc (xi #[TV,TV,TV] 36)).heap[w.heap.size]?=some (xi #[xa ao J ac,xa fo nf fc,xa no nn nc] 36 (0,0))):=(XD zp).trans (gi _ _);have aH:Hid (((w.alloc (xi #[xa ao J ac,xa fo nf fc,xa no nn nc] 36)).alloc (xi #[TV,TV,TV] 36)).heap[w.heap.size+1]?=some (xi #[TV,TV,TV] 36 (0,0))):=gu zp;have HA:=hA.later aA;have HF:=hF.later aA;clear hA hF;go_in;go_wp2_with fail;generalize ((w.alloc (xi #[xa ao J ac,xa fo nf fc,xa no nn nc] 36)).alloc (xi #[TV,TV,TV] 36))=W at *;have x0:W.cell? (TU w.heap.size 0)=some (xa ao J ac):=(EQ aB.out 0).trans rfl;have x1:W.cell? (TU w.heap.size 1)=some (xa fo nf fc):=(EQ aB.out 1).trans rfl;have xl:=dK aB.out;have bJ:RK W.heap.size W []:=⟨λx U=>(US U).elim,List.Pairwise.nil,λx U=>(US U).elim⟩;refine R' (S:=λw'=>XL W w') zk ?_ (λI=>?_)
 .exact(XF).drew
 apply zt6 0 (xk (TT w.heap.size)) I;apply zt7 1 (xa ao J ac) I;apply zt6 3 (xk (some (TU w.heap.size 1))) I;apply zt8 4 (xa fo nf fc) I;refine zrH2 2 7 (λK hK=>?ra) λK hK=>?rb
 case' ra=>(go_simp;refine(uI (HA.later I)).mono ?_;rintro e wA ⟨qa,ma,rfl,hA,aO,aD⟩;have aP:=I.trans (aD.mono I.size);have aU:=RK.add (new:=[nW ao (xa qa J ma) acts]) (bJ.later I) aD (λx U=>by grind[CX]) (VK) (λx U k hk=>by rw[List.mem_singleton.1 U] at hk;exact aO k hk) I.size;clear hA aO aD;refine hK.out _ _ aP (λI=>?_);clear hK K aP;refine zrH2 5 7 (λK hK=>?rc) λK hK=>?rd)
 case' rc=>(go_simp;refine(rW (HF.later I)).mono ?_;rintro e wF ⟨qf,mf,rfl,hF,ay,aq⟩;have az:=I.trans (aq.mono I.size);have ag:=RK.add (new:=[mK fo (xa qf nf mf) fl]) aU aq (λx U=>by grind[yy]) (VK) (λx U k hk=>by rw[List.mem_singleton.1 U] at hk;exact ay k hk) I.size;clear hF ay aq;refine hK.out _ _ az (λI=>?_);clear hK K az;refine Uj (i:=6) (v:=.agg #[xa qa J ma,xa qf nf mf,TV]) rfl zk zk zk (λ_ _ _ h=>h) (QZ ⟨zk,λw hw=>by go_simp⟩) I ?_;try simp only[Act.put,UT,Ve,Vf,Va,U7,U6];apply zrH 7;intro K hK;go_simp;have aQ:=gi (wF) (xi #[TV,TV,TV] 36);have aE:Below (wF).heap.size (wF) ((wF).alloc (xi #[TV,TV,TV] 36)):=gC;have aw:=I.trans (aE.mono I.size);have aj:=RK.add (new:=[iF (wF).heap.size 36 #[TV,TV,TV]]) ag aE (λx U=>by grind[oV]) (VK) (λx U k hk=>by rw[List.mem_singleton.1 U] at hk;exact Vx hk.symm) I.size;obtain⟨p,hp⟩:∃p,p=(wF).heap.size:=⟨_,rfl⟩;rw[<-hp] at aj|-;generalize (wF).alloc (xi #[TV,TV,TV] 36)=wP at *;clear aQ aE hp;refine hK.out _ _ aw (λI=>?_);clear hK K aw;have hT:RK W.heap.size wP [nW ao (xa qa J ma) acts,mK fo (xa qf nf mf) fl,iF p 36 #[TV,TV,TV]]:=(by first|exact aj|exact aj.perm (List.Perm.swap _ _ _)|exact aj.perm (List.Perm.cons _ (List.Perm.swap _ _ _))|exact aj.perm ((List.Perm.swap _ _ _).trans (List.Perm.cons _ (List.Perm.swap _ _ _)))|exact aj.perm ((List.Perm.cons _ (List.Perm.swap _ _ _)).trans (List.Perm.swap _ _ _))|exact aj.perm (((List.Perm.swap _ _ _).trans (List.Perm.cons _ (List.Perm.swap _ _ _))).trans (List.Perm.swap _ _ _)));clear aj;generalize wP=wX at *)
 case' rd=>(go_simp;have aQ:=gi (wA) (xi #[TV,TV,TV] 36);have aE:Below (wA).heap.size (wA) ((wA).alloc (xi #[TV,TV,TV] 36)):=gC;have aw:=I.trans (aE.mono I.size);have aj:=RK.add (new:=[iF (wA).heap.size 36 #[TV,TV,TV]]) aU aE (λx U=>by grind[oV]) (VK) (λx U k hk=>by rw[List.mem_singleton.1 U] at hk;exact Vx hk.symm) I.size;obtain⟨p,hp⟩:∃p,p=(wA).heap.size:=⟨_,rfl⟩;rw[<-hp] at aj|-;generalize (wA).alloc (xi #[TV,TV,TV] 36)=wP at *;clear aQ aE hp;refine hK.out _ _ aw (λI=>?_);clear hK K aw;apply zrH 5;intro K hK;go_simp;refine(rW (HF.later I)).mono ?_;rintro e wF ⟨qf,mf,rfl,hF,ay,aq⟩;have az:=I.trans (aq.mono I.size);have ag:=RK.add (new:=[mK fo (xa qf nf mf) fl]) aj aq (λx U=>by grind[yy]) (VK) (λx U k hk=>by rw[List.mem_singleton.1 U] at hk;exact ay k hk) I.size;clear hF ay aq;refine hK.out _ _ az (λI=>?_);clear hK K az;refine Uj (i:=6) (v:=.agg #[xa qa J ma,xa qf nf mf,TV]) rfl zk zk zk (λ_ _ _ h=>h) (QZ ⟨zk,λw hw=>by go_simp⟩) I ?_;try simp only[Act.put,UT,Ve,Vf,Va,U7,U6];have hT:RK W.heap.size wF [nW ao (xa qa J ma) acts,mK fo (xa qf nf mf) fl,iF p 36 #[TV,TV,TV]]:=(by first|exact ag|exact ag.perm (List.Perm.swap _ _ _)|exact ag.perm (List.Perm.cons _ (List.Perm.swap _ _ _))|exact ag.perm ((List.Perm.swap _ _ _).trans (List.Perm.cons _ (List.Perm.swap _ _ _)))|exact ag.perm ((List.Perm.cons _ (List.Perm.swap _ _ _)).trans (List.Perm.swap _ _ _))|exact ag.perm (((List.Perm.swap _ _ _).trans (List.Perm.cons _ (List.Perm.swap _ _ _))).trans (List.Perm.swap _ _ _)));clear ag;generalize wF=wX at *)
 case' rb=>(go_simp;have aQ:((W.alloc (xi #[TV,TV,TV] 36)).drew).heap[W.heap.size]?=some (xi #[TV,TV,TV] 36 (0,0)):=gi W _;have aw:XL W ((W.alloc (xi #[TV,TV,TV] 36)).drew):=gC.drew;have aj:=RK.add (new:=[iF W.heap.size 36 #[TV,TV,TV]]) bJ aw (λx U=>by grind[oV]) (VK) (λx U k hk=>by rw[List.mem_singleton.1 U] at hk;exact Vx hk.symm) (XH);obtain⟨p,hp⟩:∃p,p=W.heap.size:=⟨_,rfl⟩;replace aj:RK W.heap.size ((W.alloc (xi #[TV,TV,TV] 36)).drew) ([iF p 36 #[TV,TV,TV]]++[]):=(by rw[hp];exact aj);rw[<-hp];generalize ((W.alloc (xi #[TV,TV,TV] 36)).drew)=wP at *;clear aQ hp;refine hK.out _ _ aw (λI=>?_);clear hK K aw;apply zrH 2;intro K hK;go_simp;refine(uI (HA.later I)).mono ?_;rintro e wA ⟨qa,ma,rfl,hA,aO,aD⟩;have aP:=I.trans (aD.mono I.size);have aU:=RK.add (new:=[nW ao (xa qa J ma) acts]) aj aD (λx U=>by grind[CX]) (VK) (λx U k hk=>by rw[List.mem_singleton.1 U] at hk;exact aO k hk) I.size;clear hA aO aD;refine hK.out _ _ aP (λI=>?_);clear hK K aP;apply zrH 5;intro K hK;go_simp;refine(rW (HF.later I)).mono ?_;rintro e wF ⟨qf,mf,rfl,hF,ay,aq⟩;have az:=I.trans (aq.mono I.size);have ag:=RK.add (new:=[mK fo (xa qf nf mf) fl]) aU aq (λx U=>by grind[yy]) (VK) (λx U k hk=>by rw[List.mem_singleton.1 U] at hk;exact ay k hk) I.size;clear hF ay aq;refine hK.out _ _ az (λI=>?_);clear hK K az;refine Uj (i:=6) (v:=.agg #[xa qa J ma,xa qf nf mf,TV]) rfl zk zk zk (λ_ _ _ h=>h) (QZ ⟨zk,λw hw=>by go_simp⟩) I ?_;try simp only[Act.put,UT,Ve,Vf,Va,U7,U6];have hT:RK W.heap.size wF [nW ao (xa qa J ma) acts,mK fo (xa qf nf mf) fl,iF p 36 #[TV,TV,TV]]:=(by first|exact ag|exact ag.perm (List.Perm.swap _ _ _)|exact ag.perm (List.Perm.cons _ (List.Perm.swap _ _ _))|exact ag.perm ((List.Perm.swap _ _ _).trans (List.Perm.cons _ (List.Perm.swap _ _ _)))|exact ag.perm ((List.Perm.cons _ (List.Perm.swap _ _ _)).trans (List.Perm.swap _ _ _))|exact ag.perm (((List.Perm.swap _ _ _).trans (List.Perm.cons _ (List.Perm.swap _ _ _))).trans (List.Perm.swap _ _ _)));clear ag;generalize wF=wX at *)
 all_goals (
  have a6:wX.heap[p]?=some (xi #[TV,TV,TV] 36 (0,0)):=(hT.ok (iF p 36 #[TV,TV,TV]) (Ul (Ul (Um ..)))).p;have pc:=EQ a6;have pf:=gh a6;apply zrH 8;intro K hK;go_simp;have ca:=hT.lo (iF p 36 #[TV,TV,TV]) (Ul (Ul (Um ..))) p rfl;have av:(((wX.setCell (TU p 0) (xa qa J ma)).setCell (TU p 1) (xa qf nf mf)).setCell (TU p 2) TV).heap[p]?=some (xi #[xa qa J ma,xa qf nf mf,TV] 36 (0,0)):=jf a6 (xa qa J ma) (xa qf nf mf) TV;have br:wX.grownBy (((wX.setCell (TU p 0) (xa qa J ma)).setCell (TU p 1) (xa qf nf mf)).setCell (TU p 2) TV) (some p):=nS wX p;have aC:=I.grown br I.size (λk hk=>za);have aW:=RK.turn1 (hT.perm ((List.Perm.cons _ (List.Perm.swap _ _ _)).trans (List.Perm.swap _ _ _))) (R0.grown br rfl) (oV av) (λk hk=>QZ hk) I.size;refine hK.out _ _ aC (λI=>?_);clear hK K I;refine Ut zk ?_ _;clear av br hT a6 pc pf;generalize (((wX.setCell (TU p 0) (xa qa J ma)).setCell (TU p 1) (xa qf nf mf)).setCell (TU p 2) TV)=wY at *;have q0:=(aC.block _ (dK aB.out)).trans aB.out;have y2:wY.cell? (TU w.heap.size 2)=some (xa no nn nc):=(EQ q0 2).trans rfl;have bg:=q0;have aT:=(aC.block _ (dK aH.out)).trans aH.out;clear q0 x0 x1 xl;have av:wY.heap[p]?=some (xi #[xa qa J ma,xa qf nf mf,TV] 36 (0,0)):=(aW.ok (iF p 36 #[xa qa J ma,xa qf nf mf,TV]) (Um ..)).p;have pc:=EQ av;have pl:=dK av;rcases hR with⟨rfl,rfl,rfl,rfl⟩|⟨nb,noff,sp,rfl,hnn,hn11,hrow⟩
  .have he:=λV:Uc=>zB V
   have r1:=EQ aT;have ck:=gh aT;have rl:=dK aT;go_wp2_with fail;have aR:=nS wY (w.heap.size+1) (A:=xa qa J ma) (F:=xa qf nf mf) (X:=TV);have bo:=jf aT (xa qa J ma) (xa qf nf mf) TV;change bodyPost _ _ _ _ _ (jb wY (w.heap.size+1) (xa qa J ma) (xa qf nf mf) TV);generalize jb wY (w.heap.size+1) (xa qa J ma) (xa qf nf mf) TV=wf at *;have bh:=EQ bo;refine py (v:=.agg #[xa qa J ma,xa qf nf mf,TV]) (by simp[results,results143,go_sem,bh]) rfl ?_;have aG:=aA.size;have bw:=dK aH.out;refine⟨(aA.trans (aC.mono aG)).grown aR (UP aG aC.size) (λk hk=>by cases hk;omega),qa,ma,qf,mf,QZ ⟨rfl,rfl,rfl,((aW.rest).far bw aR).lower aG⟩⟩
  .obtain⟨i0,b9,cd,cg,ch⟩:=Uk sH;have he:=λV:Uc=>Iz V ⟨nb,noff,sp⟩ nn nc
   have bF:=fy hrow;have bZ:=fy hnn;have hn12:nn<=1100000:=zo;have bS:=aC.size;clear hrow hnn hn11
   go_wp2_with (at_make;go_must (refine Wx _ rfl _ _ 34 rfl wY.heap.size 33 i0 TV 1 underlying34 b9 cd cg xh xh _ _ (nn+8) rfl rfl (by first|rfl|omega) (by first|rfl|omega) (by rw[ch];omega) (by unfold maxLen;omega) (XH) ?_))
   intro w1 hown1 ai;have bM:∃cur,w1.heap[wY.heap.size]?=some (xi cur 33 (0,0))/\cur.size=nn+8:=by
    exact zm99
   obtain⟨aN,b7,bd⟩:=bM;have aX:XL wY w1:=⟨ai.os,ai.tape,ai.output,ai.size,λb hb=>ai.block b hb (λe=>by cases e)⟩;have bH:Hid (RK W.heap.size w1 (iF wY.heap.size 33 aN::nW ao (xa qa J ma) acts::mK fo (xa qf nf mf) fl::iF p 36 #[xa qa J ma,xa qf nf mf,TV]::([]:List Rq).map qj)):=(RK.add (new:=[iF wY.heap.size 33 aN]) aW aX (λx U=>by grind[oV]) (VK) (λx U k hk=>by rw[List.mem_singleton.1 U] at hk;exact Vx hk.symm) bS).perm (List.Perm.cons _ ((List.Perm.swap _ _ _).trans (List.Perm.cons _ (List.Perm.swap _ _ _))));have HB1:=aC.trans (aX.mono bS);obtain⟨g,hg⟩:∃g,g=wY.heap.size:=⟨_,rfl⟩;rw[<-hg] at bH|-;have HQ01:=(aX.block _ (dK bg)).trans bg;have b3:Hid (wW w nb noff nn rs [] aN 0):=⟨rfl,bd,λj x U=>zv⟩;clear hown1 ai b7 bd aX av pc pl y2 hg bg aW;go_wp2
   go_loopw [8] (λx wr=>∃(i:Nat)(xs:List Rq)(cur:T1),i<=nn/\x=xd xh i/\Hid (RK W.heap.size wr (iF g 33 cur::nW ao (xa qa J ma) acts::mK fo (xa qf nf mf) fl::iF p 36 #[xa qa J ma,xa qf nf mf,TV]::xs.map qj))/\Hid (wW w nb noff nn rs xs cur i)/\Hid (XL W wr)) (λx _=>nn-(intOf x).toNat)
   case atStart=>grind[Hid]
   case round=>
    clear bH b3;obtain⟨i,xs,cur,hi,rfl,HT,ax,HB⟩:=hrel;have q0:=(HB.out.block _ (dK aB.out)).trans aB.out;have y2:wr.cell? (TU w.heap.size 2)=some (xa (some ⟨nb,noff,sp⟩) nn nc):=(EQ q0 2).trans rfl;clear q0;rcases zc i nn with⟨hlt,bt⟩|⟨hlt,bt⟩
    .have bO:i<rs.length:=by rw[<-bZ.out];omega
     obtain⟨cc,bR,ro,rn,rc,aF,bQ⟩:=bF.out i _ (Uq bO);subst cc;have bm:=aA.trans (HB.out.mono aA.size);have yc:=(Fd bm _ _ bR).trans aF;have bE:=rW (bQ.later bm);have HRS:=fy (Uq bO);generalize rs[i]=r at *;have HCL:=fy aF;clear aF bQ bm bR;go_wp2_with fail;refine bE.mono ?_;rintro e wI ⟨q,m,rfl,hL,bI,aY⟩;have aJ:=HB.out.size;have aV:=RK.add (new:=[qj ⟨ro,xa q rn m,r⟩]) HT.out aY (λx U=>by rw[List.mem_singleton.1 U];exact yy hL) (VK) (λx U k hk=>by rw[List.mem_singleton.1 U] at hk;exact bI k hk) aJ;have au:wI.heap[g]?=some (xi cur 33 (0,0)):=(aV.ok (iF g 33 cur) (Ul (Um ..))).p;have b8:=aV.lo (iF g 33 cur) (Ul (Um ..)) g rfl;have bq:=ax.out.sz;have gc:=(EQ au i).trans (U' zo);have gf:=gh au i;have bj:=HB.out.trans (aY.mono aJ);have HT2:Hid (RK W.heap.size (wI.setCell (TU g i) (xa q rn m)) (iF g 33 (cur.setIfInBounds i (xa q rn m))::nW ao (xa qa J ma) acts::mK fo (xa qf nf mf) fl::iF p 36 #[xa qa J ma,xa qf nf mf,TV]::(xs++[(⟨ro,xa q rn m,r⟩:Rq)]).map qj)):=by
      refine(RK.turn1 (aV.perm (List.Perm.swap _ _ _)) (R0.grown (gp wI g i (xa q rn m)) rfl) (oV (gj au i (xa q rn m))) (λk hk=>QZ hk) (UP aJ aY.size)).perm (List.Perm.cons _ ?_);rw[U1,RG,<-UE,<-UE,<-UE];exact RC (l₁:=[qj ⟨ro,xa q rn m,r⟩])
     have bG:Hid (wW w nb noff nn rs (xs++[(⟨ro,xa q rn m,r⟩:Rq)]) (cur.setIfInBounds i (xa q rn m)) (i+1)):=by
      have hq:=ax.out;refine⟨by rw[Ur,hq.len];rfl,za,λj x U=>?_⟩;rcases UU j i with hj|hj
      .rw[UJ (by rw[hq.len];omega)] at U;obtain⟨h1,h2⟩:=hq.at_ j x U
       grind
      have bu:=(List.getElem?_eq_some_iff.1 U).1;rw[Ur,hq.len,Wz] at bu;have b':j=i:=zo;subst b';rw[Uv (by rw[hq.len];simp),hq.len,Wn] at U
      grind[gQ]
     have bW:Hid (XL W (wI.setCell (TU g i) (xa q rn m))):=bj.grown (gp _ _ _ _) bj.size (λb hb=>za);generalize cur[i]=old at *;clear aV au hL bI aY bj y2 yc bE bq;go_wp2
     go_roundw
     .grind[Hid]
     simp[intOf];omega
    have bN:i=nn:=zo;have b4:=bN▸ax
    have b5:Hid (RK W.heap.size wr (iF g 33 cur::nW ao (xa qa J ma) acts::mK fo (xa qf nf mf) fl::iF p 36 #[xa qa J ma,xa qf nf mf,TV]::(xs.map qj++([]:T5).map tV))):=by grind
    have aM:Hid (BO nn [] cur nn):=⟨zp,λj b hb=>zv⟩;clear y2 hlt hi bN ax HT;go_wp2_with fail;generalize wr=wS at *
    go_loopw [9] (λx wr=>∃(k:Nat)(hs:T5)(cur:T1),nn<=k/\k<=nn+8/\x=xd xh k/\Hid (RK W.heap.size wr (iF g 33 cur::nW ao (xa qa J ma) acts::mK fo (xa qf nf mf) fl::iF p 36 #[xa qa J ma,xa qf nf mf,TV]::(xs.map qj++hs.map tV)))/\Hid (wW w nb noff nn rs xs cur nn)/\Hid (BO nn hs cur k)/\Hid (XL W wr)) (λx _=>nn+8-(intOf x).toNat)
    .grind[Hid]
    clear b5 b4 aM HB;obtain⟨k,hs,cur,hk0,hk1,rfl,HT,ax,aM,HB⟩:=hrel;have au:wr.heap[g]?=some (xi cur 33 (0,0)):=(HT.out.ok (iF g 33 cur) (Um ..)).p;have b8:=HT.out.lo (iF g 33 cur) (Um ..) g rfl;have gl:=dK au;by_cases hlt:k<nn+8
    .have bt:(k:Int)<(nn:Int)+8:=zo;have bq:=ax.out.sz;have gc:=(EQ au k).trans (U' zo);have gf:=gh au k;have bA:(wr.setCell (TU g k) (xa (TT wr.heap.size) 1 1)).heap.size=wr.heap.size:=zp;have aJ:=HB.out.size;have bK:=RK.turn1 HT.out (R0.grown (gp wr g k (xa (TT wr.heap.size) 1 1)) rfl) (oV (gj au k (xa (TT wr.heap.size) 1 1))) (λk hk=>QZ hk) aJ;have bn:Below (wr.setCell (TU g k) (xa (TT wr.heap.size) 1 1)).heap.size (wr.setCell (TU g k) (xa (TT wr.heap.size) 1 1)) ((wr.setCell (TU g k) (xa (TT wr.heap.size) 1 1)).alloc (xi #[xd xh 77] 3)):=gC;have HT3:Hid (RK W.heap.size ((wr.setCell (TU g k) (xa (TT wr.heap.size) 1 1)).alloc (xi #[xd xh 77] 3)) (iF g 33 (cur.setIfInBounds k (xa (TT wr.heap.size) 1 1))::nW ao (xa qa J ma) acts::mK fo (xa qf nf mf) fl::iF p 36 #[xa qa J ma,xa qf nf mf,TV]::(xs.map qj++(hs++[wr.heap.size]).map tV))):=by
      refine(RK.add (new:=[tV wr.heap.size]) bK bn (λx U=>by rw[List.mem_singleton.1 U];exact oV (gu bA.symm)) (VK) (λx U k hk=>by rw[List.mem_singleton.1 U] at hk;rw[bA];exact Vx hk.symm) zo).perm ?_;rw[U1,RG,<-UI,<-UE,<-UE,<-UE,<-UE];exact RC (l₁:=[tV wr.heap.size])
     have bG:Hid (wW w nb noff nn rs xs (cur.setIfInBounds k (xa (TT wr.heap.size) 1 1)) nn):=by
      have hq:=ax.out;refine⟨hq.len,za,λj x U=>?_⟩;obtain⟨h1,h2⟩:=hq.at_ j x U;have bu:=(List.getElem?_eq_some_iff.1 U).1;rw[hq.len] at bu
      grind
     have HHS2:Hid (BO nn (hs++[wr.heap.size]) (cur.setIfInBounds k (xa (TT wr.heap.size) 1 1)) (k+1)):=by
      have hq:=aM.out;have hln:=hq.len;refine⟨by grind,λj b hb=>?_⟩;rcases UU j hs.length with hj|hj
      .rw[UJ hj] at hb;rw[Xb zo];exact hq.at_ j b hb
      grind
     have bl:XL W (wr.setCell (TU g k) (xa (TT wr.heap.size) 1 1)):=HB.out.grown (gp _ _ _ _) aJ (λb hb=>za);have bW:=bl.trans (bn.mono bl.size);generalize cur[k]=old at *;clear bK bn bl bA au bq;go_wp2
     go_roundw
     .grind[Hid]
     simp[intOf];omega
    have bt:¬ (k:Int)<(nn:Int)+8:=zo;have bP:k=nn+8:=zo;have bY:=bP▸aM
    have av:wr.heap[p]?=some (xi #[xa qa J ma,xa qf nf mf,TV] 36 (0,0)):=(HT.out.ok (iF p 36 #[xa qa J ma,xa qf nf mf,TV]) (Ul (Ul (Ul (Um ..))))).p;have pc:=EQ av;have pf:=gh av;have q1:=(HB.out.block _ (dK aH.out)).trans aH.out;have r1:=EQ q1;have ck:=gh q1;have hpW:=ca;have hn8:(nn:Int)<=(nn:Int)+8:=zo;have cb:p≠w.heap.size+1:=by grind[gQ]
    have s0:∀o,(wr.setCell (TU p 2) (xa (TT g) nn (nn+8))).cell? (TU (w.heap.size+1) o)=wr.cell? (TU (w.heap.size+1) o):=λo=>XK cb
    have q2:=(Ug wr (TU p 2) (xa (TT g) nn (nn+8)) (w.heap.size+1) (by show w.heap.size+1≠p;omega)).trans q1;have b6:=(RK.turn1 (HT.out.perm (List.perm_middle (l₁:=[iF g 33 cur,nW ao (xa qa J ma) acts,mK fo (xa qf nf mf) fl]))) (R0.grown (gp wr p 2 (xa (TT g) nn (nn+8))) rfl) (oV (gj av 2 (xa (TT g) nn (nn+8)))) (λk hk=>QZ hk) HB.out.size).rest;have bD:Hid (XL W (wr.setCell (TU p 2) (xa (TT g) nn (nn+8)))):=HB.out.grown (gp _ _ _ _) HB.out.size (λb hb=>za);clear aM bP hlt;go_wp2_with fail;have aR:=nS (wr.setCell (TU p 2) (xa (TT g) nn (nn+8))) (w.heap.size+1) (A:=xa qa J ma) (F:=xa qf nf mf) (X:=xa (TT g) nn (nn+8));have bo:=jf q2 (xa qa J ma) (xa qf nf mf) (xa (TT g) nn (nn+8));change bodyPost _ _ _ _ _ (jb (wr.setCell (TU p 2) (xa (TT g) nn (nn+8))) (w.heap.size+1) (xa qa J ma) (xa qf nf mf) (xa (TT g) nn (nn+8)));generalize jb (wr.setCell (TU p 2) (xa (TT g) nn (nn+8))) (w.heap.size+1) (xa qa J ma) (xa qf nf mf) (xa (TT g) nn (nn+8))=wf at *;have bh:=EQ bo;refine py (v:=.agg #[xa qa J ma,xa qf nf mf,xa (TT g) nn (nn+8)]) (by simp[results,results143,go_sem,bh]) rfl ?_;have aG:=aA.size;have bw:=dK aH.out;exact⟨(aA.trans (bD.out.mono aG)).grown aR (UP aG bD.out.size) (λk hk=>by cases hk;omega),qa,ma,qf,mf,QX ⟨nb,noff,sp,g,xs,hs,cur,rfl,rfl,ax.out,bY.out,(b6.far bw aR).lower aG⟩⟩)
section
variable{lb:Nat}{X:List Th}{w0 w w':Uc}{N:Nat}{bs:List Bk}{js:List Ik}{rs:List Rk}{ws us:List Wb}
def zF(l:List Ik):(l.flatMap IQ).length=l.length*5:=by
 induction l with
 |nil=>rfl
 |cons d r ih=>rw[VB,Ur,ih];show 5+_=_;rw[UM];omega
def zR(l:List Rk):(l.flatMap Ju).length=l.length*5:=by
 induction l with
 |nil=>rfl
 |cons d r ih=>rw[VB,Ur,ih];show 5+_=_;rw[UM];omega
end
def OI(bs:List Bk)(q:TX)(n m:Nat):Prop:=(q=none/\n=0/\m=0)\/∃b g,b∈bs/\q=some ⟨g,0,none⟩/\m=n+8/\b.l=xa (TT g) (n+8) (n+8)/\n<=1100000
theorem Q1.ins{w:Uc}{g N c:Nat}{m:Int}(h:Q1 w (xa (TT g) N c) (xd xh m) 3)(hn:n<=N):SV w (TT g) (List.replicate n m):=by
 exact zm87
def Ty(bs:List Ik)(q:TX)(n m:Nat):Prop:=(q=none/\n=0/\m=0)\/∃b g,b∈bs/\q=some ⟨g,0,none⟩/\m=n+8/\b.l=xa (TT g) (n+8) (n+8)/\n<=1100000
theorem Ty.mono{bs I:List Ik}(h:Ty bs q n m)(hb:∀b∈bs,b∈I):Ty I q n m:=by grind[Ty]
end Go.Proofs.YtidakhhekofkoaaGreatDoor
