/- The row of All, lifted, and its card, in the second form: for every script (of bulk 1048576 at most) each answer of every call, in any order, is the one that the document asks, with all that was handed in or came out written into by its owner. -/
import Derived.Test.YtidakhhekofkoaaGreatDoorT17
import Derived.Lib.LazyBuf
set_option linter.all false
set_option maxRecDepth 100000
set_option maxHeartbeats 4000000
set_option maxHeartbeats 20000000
namespace Go.Proofs.YtidakhhekofkoaaGreatDoor
attribute [local go_sem] TT TU TV XL
attribute [local simp] TT TU TV XL
open Go.Proofs.Tryz
open Go.RowKit Go.Deep
open Value renaming slice->xa,int->xd,string->xj,pointer->xk,bool->xn
open IntKind renaming i64->xh
open Obj renaming cells->xi
open Ending renaming returned->xm
open List renaming length_zipWith->RH
open Or renaming inl->Rf,inr->Rm
open And renaming intro->Rj
open World renaming cells?_some->RI
variable{zq:Prop}
variable{X':List Th}{f:Int}{t:Tb}{rv cs:TW}{ops:Array Oper}{op:Oper}{Q:Exit->Act->Uc->Prop}{q:TX}{tr:TZ}{V W:Uc}{i b fuel:Nat}{bs:List Bk}{js:List Ik}{rs:List Rk}{a':La}{args:T1}{before:List MemPlace}{os:Os}
def zm8(h:zq:=by
 refine HC.out.mono ?_;clear HC;rintro e w6 ⟨rfl,a6,o6,c6,hp6,hA6⟩;have e5:(a6.f 5).n<=900000000:=by
  have k1:(a6.f 5).x.length=(a6.f 5).n*1:=(hA6.law.own 5).1;have k2:(a.f 5).x.length=(a.f 5).n:=by rw[hg.v5,UL];exact hl.1.symm
  rw[hp6.l,Ur,k2] at k1;simp at k1;omega
 have e6:(a6.f 6).n<=900000000:=by
  have k1:(a6.f 6).x.length=(a6.f 6).n*1:=(hA6.law.own 6).1;have k2:(a.f 6).x.length=(a.f 6).n:=by rw[hg.v6,UL];exact hl.2.1.symm
  rw[hp6.r,Ur,k2] at k1;simp at k1;omega
 have HC:=CJ (lo:=o2) (lc:=k2) hA6 HN.out (hA6.row HN.out pK) h8 e5 e6;clear hA6 e5 e6;go_wp2_with fail;refine HC.mono ?_;clear HC;rintro e w7 ⟨rfl,a7,o7,c7,hp7,hA7⟩;have HL:Hid (Q6 lb X w0 w7 (N+2)):=by
  have hn:=HN.out;have hA8:=hA7.prm (M:=lq 0 (xa o1 n k1) L::lq 0 (xa o6 n c6) L::lq 0 (xa o2 n k2) L::lq 0 (xa o7 n c7) L::a7.T lb::lq 0 (xa o3 n k3) L::B);have hP6:=hp6;clear HN hp6;subst hn;have hA9:=(LH.join (x:=⟨L,o1,k1,o6,c6⟩) hA8 h8).prm (M:=lq 0 (xa o2 L.length k2) L::lq 0 (xa o7 L.length c7) L::qy 0 ⟨L,o1,k1,o6,c6⟩::a7.T lb::lq 0 (xa o3 L.length k3) L::B);exact Q6.waits (x:=⟨L,o1,k1,o6,c6⟩) (y:=⟨L,o2,k2,o7,c7⟩) hg hP6 hp7 (((LH.join (x:=⟨L,o2,k2,o7,c7⟩) hA9 h8).prm (M:=a7.T lb::qy 0 ⟨L,o1,k1,o6,c6⟩::qy 0 ⟨L,o2,k2,o7,c7⟩::lq 0 (xa o3 L.length k3) L::B)).sub ((((HM.out.2.2.trans (Vc ..)).cons_cons _).cons_cons _).cons_cons _))
 clear hp7 hA7 hp6;go_wp2;go_ret;exact⟨rfl,HL.out⟩
 ):zq:=h
def zm18(h:zq:=by
 have bc:=EQ HBB;have hbl:=dK HBB;clear c2 c3 c4 b0 b1 b2 b3 b4;rintro e w5 ⟨rfl,hw5⟩;have h5:=hw5.symm;clear hw5;subst h5;go_wp2_with fail;refine(hb.a2 _ HBW.out).mono ?_;rintro e w5 ⟨rfl,hw5⟩;have h5:=hw5.symm;clear hw5;subst h5;go_wp2_with fail;refine(hb.a3 _ HBW.out).mono ?_;rintro e w5 ⟨rfl,hw5⟩;have h5:=hw5.symm;clear hw5;subst h5;go_wp2_with fail;refine(hb.a4 _ HBW.out).mono ?_;rintro e w5 ⟨rfl,hw5⟩;have h5:=hw5.symm;clear hw5;subst h5;go_wp2
 go_roundw
 .exact⟨i+1,zo,by go_num,MC HB.out HBW.out⟩
 simp[intOf];omega
 ):zq:=h
def zm49(h:zq:=by
 rintro e w1 ⟨rfl,hF⟩;have HF:=hF.drop.more (show _<=N+206+m2 from zo);clear hF;go_wp2;go_ret;exact⟨rfl,HF⟩
 ):zq:=h
def zm51(h:zq:=by
 clear hf hdr hs HT1
 go_wp2_with (go_at_call 93;refine(lC).mono ?_)
 rintro e w8 ⟨rfl,hw8⟩;have hw:=hw8.symm;clear hw8;subst hw;go_wp2;go_ret;simpa using HF.out
 ):zq:=h
def zm100(h:zq:=by
 subst hee;clear hq hb2
 go_wp2_with (go_at_call 93;refine(lC).mono ?_)
 rintro e w8 ⟨rfl,hw8⟩;have hw:=hw8.symm;clear hw8;subst hw;go_wp2;go_ret;exact⟨rfl,HLF.out⟩
 ):zq:=h
def zm140(h:zq:=by
 exact⟨_,gb,o1,n1,k1,o2,n2,k2,o3,n3,k3,o4,n4,k4,ho,h⟩
 ):zq:=h
def zm162(h:zq:=by
 clear hk;go_wp2
 go_roundw
 .exact⟨i+1,N,zo,zo,by go_num,HTA⟩
 simp[intOf];omega
 ):zq:=h
def zm167(h:zq:=by
 have E:=fy e;clear e;refine⟨j,hj,λW=>?_⟩;go_in;go_wp2;go_ret;exact⟨E.out,rfl⟩
 ):zq:=h
def zm175(h:zq:=by
 go_wp2
 go_roundw
 .exact⟨i+1,zo,zp,by go_num,HB1⟩
 simp[intOf];omega
 ):zq:=h
structure Ob where
 kd:Int
 oa:Int
 os:Ub
 ot:Ub
 l1:TX
 l2:Nat
 l3:Nat
 g1:TX
 g2:Nat
 g3:Nat
 m1:TX
 m2:Nat
 m3:Nat
def Ob.c(o:Ob):T1:=#[xd xh o.kd,xd xh o.oa,xj o.os,xj o.ot,xa o.l1 o.l2 o.l3,xa o.g1 o.g2 o.g3,xa o.m1 o.m2 o.m3]
def qR(lb:Nat)(X:List Th)(w0:Uc)(N:Nat)(w':Uc)(e:Ending):Prop:=e=xm (xn true)/\Q6 lb X w0 w' N
def Ob.rd(o:Ob)(lb:Nat)(X:List Th)(w0:Uc):Prop:=o.l2<=o.l3/\∃(z:Tz)(vs:Nat->Option Ud),Tn lb X w0 o.l1 o.g1 o.m1 o.l2 o.g2 o.m2 o.l3 o.g3 o.m3 z.acts z.fl z.nx vs
section
variable{lb N:Nat}{X:List Th}{w0 w:Uc}{o:Ob}
def Ob.rd.mono(h:o.rd lb X w0)(J:∀y∈X,y∈X':=by intro y I;simp[I]):o.rd lb X' w0:=let ⟨h1,z,vs,h2⟩:=h;⟨h1,z,vs,λw' U I=>h2 w' U (λy hm=>I y (J y hm))⟩
def QI{J U no:TX}{I nf nn ac fc nc:Nat}(hx:j7 ⟨t,xa J I ac,xa U nf fc,xa no nn nc,rv⟩∈X)(h:RX w 0 (xa J I ac) (xa U nf fc) (xa no nn nc) t rv)(h0:f=0->Fn t)(h1:f≠0->I=0/\nf=0/\nn=0)(h2:f≠0->J=none/\U=none/\no=none/\ac=0/\fc=0/\nc=0):∃acts fl rows vs,Tn lb X w0 J U no I nf nn ac fc nc acts fl rows vs/\I<=ac/\nn<=100:=by
 by_cases e:f=0
 .exact⟨_,_,_,_,N5 hx (h0 e) ⟨w,h⟩⟩
 obtain⟨rfl,rfl,rfl⟩:=h1 e;obtain⟨rfl,rfl,rfl,rfl,rfl,rfl⟩:=h2 e;exact⟨_,_,_,_,Fl,XH,Ux⟩
def QK(h:Q6 lb X w0 w N)(hE:EV w0)(hN:N<=700000000)(h4:4<=o.kd)(h7:o.kd<=7)(hot:o.ot.size<=70368744177664)(U:o.rd lb X w0):
  Calls prog 55 #[xk (TT lb),.agg o.c] w λe w'=>qR lb X w0 (N+206+o.m2) w' e:=by
 have J:=h.boxed 74 o.c;replace U:=U.mono (X':=iF w.heap.size 74 o.c::X);have hG:=(J.gv hE).g;have hk:o.kd=4\/o.kd=5\/o.kd=6\/o.kd=7:=zo;obtain⟨kd,oa,os,ot,l1,l2,l3,g1,g2,g3,m1,m2,m3⟩:=o;simp only[Ob.c] at *;clear h h4 h7;rcases hk with rfl|rfl|rfl|rfl
 .obtain⟨ag,z,vs,hr⟩:=U;have I:=PH J hE zo hr ag;clear J hr ag hG;go_in;go_wp2_with fail;refine I.mono ?_;exact zm49
 .have I:=fy (Ab os (w.alloc (xi #[xd xh 5,xd xh oa,xj os,xj ot,xa l1 l2 l3,xa g1 g2 g3,xa m1 m2 m3] 74)));clear U hG;go_in;go_wp2_with fail;refine I.out.mono ?_;clear I;generalize w.alloc (xi #[xd xh 5,xd xh oa,xj os,xj ot,xa l1 l2 l3,xa g1 g2 g3,xa m1 m2 m3] 74)=W at *;generalize w.heap.size=ob at *;intro e w2 hc;obtain⟨f,t,na,nf,nn,hn,ai,aj,ax,get⟩:=hc.get (CR.un os) (λt h=>h.right);obtain⟨ao,fo,no,ac,fc,nc,rv,rfl,hW,hb,ak⟩:=get _ _ _ hc;have ae:=(J.hold (y:=j7 ⟨t,xa ao na ac,xa fo nf fc,xa no nn nc,rv⟩) hb (MU hW.low) (λk hk=>JK hW hk)).boxed 36 #[xa ao na ac,xa fo nf fc,xa no nn nc];obtain⟨acts,fl,rows,vs,k1,k2,k3⟩:=QI (lb:=lb) (w0:=w0) (X:=iF w2.heap.size 36 #[xa ao na ac,xa fo nf fc,xa no nn nc]::j7 ⟨t,xa ao na ac,xa fo nf fc,xa no nn nc,rv⟩::iF ob 74 #[xd xh 5,xd xh oa,xj os,xj ot,xa l1 l2 l3,xa g1 g2 g3,xa m1 m2 m3]::X) kI hW.low ai aj ak;have I:=PH ae hE zo k1 k2;clear hc hW hb ae k1 k2 J get ai aj ak ax hn;go_wp2_with fail;refine I.mono ?_;clear I;rintro e w1 ⟨rfl,hF⟩;have HF:=hF.drop.drop.drop.more (show _<=N+206+m2 from zo);clear hF;go_wp2;go_ret;exact⟨rfl,HF⟩
 .have I:=MM J hE zo os;clear J U hG;go_in;go_wp2_with fail;refine I.mono ?_;exact zm49
 have I:=fy (wu os (w.alloc (xi #[xd xh 7,xd xh oa,xj os,xj ot,xa l1 l2 l3,xa g1 g2 g3,xa m1 m2 m3] 74)));clear U hG;go_in;go_wp2_with fail;refine I.out.mono ?_;generalize w.alloc (xi #[xd xh 7,xd xh oa,xj os,xj ot,xa l1 l2 l3,xa g1 g2 g3,xa m1 m2 m3] 74)=W at *;generalize w.heap.size=ob at *;rintro e w2 ⟨⟨b,rfl,hbz⟩,hb⟩;obtain⟨o3,ol⟩:=(J.later hb).bx (Um ..);clear I;have I:=MM (J.later hb) hE zo (b++ot);replace o3:=o3 3;clear hb J;go_wp2_with fail;refine I.mono ?_;clear I;exact zm49
def OQ{rest:List Oper}{a:Act}{n m:Nat}(U:op.guard=none){s x:Operand}(ho:op.op=.call {callee:=.builtin .append,args:=#[s,x],argTypes:=#[25,25]})(hs:a.eval s=TV)(hx:a.eval x=xa q n m)(hL:SY w q n m tr)
  (h:∀o5 k5 w5,So w5 o5 tr->XL w w5->wpList prog ops Q rest (a.put op.dst (xa o5 n k5)) w5):wpList prog ops Q (op::rest) a w:=by
 obtain⟨i0,aa,ak,an,ao⟩:=Uk infoStr;rcases hL with⟨rfl,rfl,rfl,rfl⟩|⟨ad,rfl,rfl,hT,hl⟩
 .exact wpList_append_own_none U _ _ 25 ho w.heap.size 9 i0 1 underlying25 aa TV 0 [] hs (XG) hx (h none 0 w (So.nil _) (XF))
 refine U0 _ U _ _ 25 ho w.heap.size 9 i0 (xj ⟨#[]⟩) 1 16 underlying25 aa ak an ao rfl zd TV 0 [] hs (XG) ad tr.length m (tr.map xj) hx zp (λj u hj=>?_) (λu hu=>?_) (by unfold maxLen;omega) zo (XH) (λv5 w5 I J _=>?_)
 .rw[UG] at hj;cases hx':tr[j]? with
  |none=>rw[hx'] at hj;cases hj
  |some y=>
   rw[hx'] at hj;cases hj;obtain⟨b',off',h1,_,h3⟩:=hT j y hx';cases h1;rw[Vm];exact h3
 .obtain⟨y,_,rfl⟩:=List.mem_map.1 hu;rfl
 obtain⟨o5,k5,rfl⟩:=ib I;rw[U2] at I|-;exact h o5 k5 w5 (xT I) ⟨J.os,J.tape,J.output,J.size,λx hx=>J.block x hx (by intro e;cases e)⟩
def O9(h:Q6 lb X w0 w N)(hE:EV w0)(hN:N<=900000000)(hk:o.kd=2)(hR:o.rd lb X w0):
  Calls prog 54 #[xk (TT lb),.agg o.c] w λe w'=>qR lb X w0 (N+1) w' e:=by
 obtain⟨a,g,hg,hT⟩:=h;obtain⟨_,z,vs,hr⟩:=hR;have aj:=hT.boxed 74 o.c;obtain⟨kd,oa,os,ot,l1,l2,l3,g1,g2,g3,m1,m2,m3⟩:=o;simp only[Ob.c] at *;subst hk;have ay:=(hr _ aj.bel (aj.all (λy hy=>by simp[hy]))).1;have ae:=ay.len;have hn11:l2<=1100000:=zo;have au:Hid (z.acts.length=l2/\z.acts.length<=1100000):=⟨ae.1.symm,ae.2.1⟩;have HR:Hid (∀w',Below lb w0 w'->(∀y∈X,y.P w')->SY w' l1 l2 l3 z.acts):=λw' h1 h2=>(hr w' h1 h2).1
 have J:=fy (uI ay);generalize z.acts=tr at *;clear hT hr ay ae;go_in;go_wp2_with fail;refine J.out.mono ?_;clear J;generalize w.alloc (xi #[xd xh 2,xd xh oa,xj os,xj ot,xa l1 l2 l3,xa g1 g2 g3,xa m1 m2 m3] 74)=W at *;generalize w.heap.size=ob at *;rintro e w1 ⟨q,m,rfl,aw,aq,I⟩;have ag:=aj.hold I (CX aw) aq;have J:=fy (EE os au.out.1 m (ag.gv hE) (TE.ls aw au.out.2).1.len.2.2 zo);obtain⟨p1,y1⟩:=ag.bx kI;clear aw aq I aj;go_wp2_with fail;refine J.out.mono ?_;clear J p1 y1;rintro e w2 ⟨rfl,I⟩;generalize hHM:jQ os tr=hm at *;have U:=fy hHM;clear hHM;obtain⟨ha,he⟩:=hm;have aa:=ag.later I;obtain⟨p1,y1⟩:=aa.bx kI;have J:=fy (xY os au.out.1 l3 (HR.out _ aa.bel (aa.all (λy hy=>by simp[hy]))).len.2.2 zo);clear I ag;go_wp2_with fail;refine J.out.mono ?_;clear J p1 y1;rintro e w3 ⟨rfl,I⟩;rw[U.out];have ad:=(aa.later I).prm (M:=a.T lb::nW l1 (xa q l2 m) tr::iF ob 74 #[xd xh 2,xd xh oa,xj os,xj ot,xa l1 l2 l3,xa g1 g2 g3,xa m1 m2 m3]::(X++g.T));obtain⟨p1,y1⟩:=ad.bx pK;have J:=fy (J4 ad hE (hg.sm zo) (HR.out _ ad.bel (ad.all (λy hy=>by simp[hy]))));clear I aa U ad;go_wp2_with fail;refine J.out.mono ?_;clear J p1 y1;rintro e w4 ⟨rfl,a',bs,hu,aA,aB,ax⟩;obtain⟨z4,aE⟩:=Fo (js:=[]) (rs:=[]) (qf:=none) (nf:=0) (mf:=0) (qn:=none) (nn:=0) (mn:=0) ax aB (Rf ⟨rfl,rfl,rfl⟩) (Rf ⟨rfl,rfl,rfl⟩);obtain⟨az,aC⟩:∃t,t=z4.acts:=⟨_,rfl⟩;have ar:Hid (SY w4 q l2 m az):=aC▸aE.a
 have ao:Hid (az.length=l2):=ar.out.len.1.symm;have HU:=fy (Rj hu aA);clear hu aA aB aE aC
 go_wp2_with (at_builtin;go_must (refine OQ rfl rfl rfl rfl ar.out ?_))
 intro o5 k5 w5 aG I;have ai:=ax.later I;obtain⟨p1,y1⟩:=ai.bx (b:=ob) (ty:=74) (c:=#[xd xh 2,xd xh oa,xj os,xj ot,xa l1 l2 l3,xa g1 g2 g3,xa m1 m2 m3]) zp;have J:=fy (EE os ao.out m (ai.gv hE) (ar.out.later I).len.2.2 zo);clear I ax;go_wp2_with fail;refine J.out.mono ?_;clear J p1 y1;rintro e w6 ⟨rfl,I⟩;generalize hHM:jQ os az=hm2 at *;have U:=fy hHM;clear hHM;obtain⟨ha2,he2⟩:=hm2;have av:=ai.later I;obtain⟨p1,y1⟩:=av.bx (b:=ob) (ty:=74) (c:=#[xd xh 2,xd xh oa,xj os,xj ot,xa l1 l2 l3,xa g1 g2 g3,xa m1 m2 m3]) zp;have J:=xY os ao.out k5 (aG.later I) zo;clear I ai;go_wp2_with fail;refine J.mono ?_;clear J p1 y1;rintro e w7 ⟨rfl,I⟩;rw[U.out];have HL:Hid (Q6 lb X w0 w7 (N+1)):=Q6.up (js:=[]) (rs:=[]) hg HU.out.1 ((av.later I).sub (((UD _).append (Vc ..)).cons_cons _)) (by have:=HU.out.2;simp;omega);clear I av U
 go_wp2_with (go_at_call 93;refine(lC).mono ?_)
 rintro e w8 ⟨rfl,hw8⟩;have hw:=hw8.symm;clear hw8;subst hw
 go_wp2_with (go_at_call 93;refine(lC).mono ?_)
 exact zm159
end
section
variable{lb N:Nat}{X:List Th}{w0 w:Uc}{o:Ob}
def QF(h:Q6 lb X w0 w N)(U:EV w0)(hN:N<=700000000)(h1:1<=o.kd)(h3:o.kd<=3)(hR:o.rd lb X w0):Calls prog 54 #[xk (TT lb),.agg o.c] w λe w'=>qR lb X w0 (N+206) w' e:=by
 have I:o.kd=1\/o.kd=2\/o.kd=3:=zo;rcases I with I|I|I
 .obtain⟨kd,oa,os,ot,l1,l2,l3,g1,g2,g3,m1,m2,m3⟩:=o;cases I;exact(C5 Lv w (h.gv U)).mono λe w' J=>⟨J.1,(h.later J.2).more zo⟩
 .exact(O9 h U zo I hR).mono λe w' J=>⟨J.1,J.2.more zo⟩
 obtain⟨kd,oa,os,ot,l1,l2,l3,g1,g2,g3,m1,m2,m3⟩:=o;cases I;exact PY h U zo
def Qc(h:Q6 lb X w0 w N)(U:EV w0)(hN:N<=700000000)(h1:1<=o.kd)(h7:o.kd<=7)(I:o.ot.size<=70368744177664)(J:o.rd lb X w0):Calls prog 36 #[xk (TT lb),.agg o.c] w λe w'=>qR lb X w0 (N+206+o.m2) w' e:=by
 have hL:=h.boxed 74 o.c;replace J:=J.mono (X':=iF w.heap.size 74 o.c::X);by_cases h3:o.kd<=3
 .have HC:=QF hL U hN h1 h3 J;obtain⟨kd,oa,os,ot,l1,l2,l3,g1,g2,g3,m1,m2,m3⟩:=o;simp only[Ob.c] at *;clear h hL U J I;go_in;go_wp2_with fail;refine HC.mono ?_;exact zm49
 have h4:4<=o.kd:=zo;have HC:=QK hL U hN h4 h7 I J;obtain⟨kd,oa,os,ot,l1,l2,l3,g1,g2,g3,m1,m2,m3⟩:=o;simp only[Ob.c] at *;clear h hL U J I;go_in;go_wp2_with fail;refine HC.mono ?_;rintro e w1 ⟨rfl,hF⟩;have HF:=hF.drop;clear hF;go_wp2;go_ret;exact⟨rfl,HF⟩
def Q6.desk{a:La}{g:Gs}{d:Dd}{s:Sl}(hg:SE N a g)(hs:s.x=(a.f 0).x++[xk (TT d.db),xk (TT d.rd)])(J:d.cs=[])(hT:LH lb w0 w ((a.up a.M 0 s).T lb::d.rT 0::d.dT::(X++g.T))):Q6 lb X w0 w (N+1):=by
 have e:=λi (h:i≠0)=>congrArg Sl.x (show(a.up a.M 0 s).f i=a.f i from T' h)
 have:=hg.nb;have:=hg.nd;refine⟨_,{g with ds:=g.ds++[d]},⟨by show s.x=_;rw[hs,hg.v0,Ls],(e 2 zd).trans hg.v2,(e 3 zd).trans hg.v3,(e 4 zd).trans hg.v4,(e 5 zd).trans hg.v5,(e 6 zd).trans hg.v6,(e 7 zd).trans hg.v7,(e 8 zd).trans hg.v8,hg.tt,hg.M,by show a.M+g.xs.length+103*g.ws.length<=_;omega,hg.rt,zs,λU I=>?_⟩,hT.prg⟩;rcases List.mem_append.1 I with I|I
 .exact(hg.ev U I).up (W8 _)
 rw[List.mem_singleton.1 I,J];exact λc hc=>(US hc).elim
def ML(h:Q6 lb X w0 w N)(hE:EV w0)(hN:N<=900000000)(b:Ub):
  Calls prog 56 #[xk (TT lb),xj b] w λe w'=>qR lb X w0 (N+1) w' e:=by
 obtain⟨a,g,hg,hT⟩:=h;obtain⟨i0,aW,aX,aY,a6⟩:=Uk Tryz.infoPair;obtain⟨po,pn,pc,aS⟩:∃o n c,(a.f 0).v=xa o n c/\(a.f 0).n=n:=⟨_,_,_,rfl,rfl⟩;have hpn:pn<=900000000:=by have:=hg.nd;have:=(hg.len hT.law).1.1;omega
 have HO:=J' w b (hT.gv hE).g;have ar:=fy aS;clear hE aS;go_in;go_wp2_with fail;refine HO.mono ?_;clear HO;rintro e w1 ⟨aD,hp⟩;have HR:=Hw w1 b;have aC:=hT.later aD;rcases hp with⟨hd,rfl⟩|⟨t,hd,h2,rfl⟩|⟨t,db,A,n,ab,a0,fb,f0,nb,n0,ac,fc,nc,rb,ro,rc,mb,pb,D,hd,h2,rfl,hD,hl1,hl2,hl3,hl4,hl5,hl6⟩
 .skip
  go_wp2_with fail;refine HR.mono ?_;clear HR;rintro e w2 ⟨hb2,hq⟩;have HLF:Hid (Q6 lb X w0 w2 (N+1)):=⟨a,g,hg.more (W8 _),aC.later hb2⟩;have hee:e=xm (.tuple #[xk none,xd xh 6]):=by
   rcases hq with⟨hd',rfl⟩|⟨t',hd',h2',rfl⟩|⟨t',rd,A',n',I,ad,J,ag,U,aj,ae,ai,ak,aa,ao,an,hd',h2',rfl,_⟩
   .rfl
   .cases hd.uniq hd'
   cases hd.uniq hd'
  exact zm100
 .skip
  have H2:=fy h2;clear h2;go_wp2_with fail;refine HR.mono ?_;clear HR;rintro e w2 ⟨hb2,hq⟩;have HLF:Hid (Q6 lb X w0 w2 (N+1)):=⟨a,g,hg.more (W8 _),aC.later hb2⟩;have hee:e=xm (.tuple #[xk none,xd xh 7]):=by
   rcases hq with⟨hd',rfl⟩|⟨t',hd',h2',rfl⟩|⟨t',rd,A',n',I,ad,J,ag,U,aj,ae,ai,ak,aa,ao,an,hd',h2',rfl,_⟩
   .cases hd.uniq hd'
   .rfl
   have e:=Ue (hd.uniq hd');subst e;exact absurd h2' H2.out
  exact zm100
 have aB:=hd;have H2:=fy h2;have aH:=(hT.hold (y:=Dd.dT ⟨t,[],db,⟨A,n,ab,a0,fb,f0,nb,n0,ac,fc,nc,rb,ro,rc⟩,mb,pb,D,0,⟨A,n,ab,a0,fb,f0,nb,n0,ac,fc,nc,rb,ro,rc⟩,none,0⟩) aD (Dd.dOk hD) (λk hk=>by
  rcases hk with rfl|(rfl|rfl|rfl|⟨i,hi,rfl⟩)|rfl|⟨c,hc,_⟩
  .exact hl1
  .exact hl3
  .exact hl4
  .exact hl5
  .exact hl6 i hi
  .exact hl2
  exact(US hc).elim))
 clear hd hD hl1 hl2 hl3 hl4 hl5 hl6 h2 aC aD;go_wp2_with fail;refine HR.mono ?_;clear HR;rintro e w2 ⟨hb2,hq⟩;have hee:∃rd A' n' I ad J ag U aj ae ai ak aa ao an,e=xm (.tuple #[xk (TT rd),xd xh 0])/\SD w2 w1.heap.size rd t [] A' n' I ad J ag U aj ae ai ak aa ao an none 0/\w1.heap.size<=rd/\w1.heap.size<=I/\w1.heap.size<=J/\w1.heap.size<=U/\∀i,i<n'->w1.heap.size<=aa i:=by
  rcases hq with⟨hd',rfl⟩|⟨t',hd',h2',rfl⟩|⟨t',rd,A',n',I,ad,J,ag,U,aj,ae,ai,ak,aa,ao,an,hd',h2',rfl,hrest⟩
  .cases aB.uniq hd'
  .have e:=Ue (aB.uniq hd');subst e;exact absurd H2.out h2'
  have e:=Ue (aB.uniq hd');subst e;exact⟨rd,A',n',I,ad,J,ag,U,aj,ae,ai,ak,aa,ao,an,rfl,hrest⟩
 obtain⟨rd,A',n',I,ad,J,ag,U,aj,ae,ai,ak,aa,ao,an,rfl,hR,aM,aN,aO,aP,aQ⟩:=hee;obtain⟨d,hd⟩:∃d:Dd,d=⟨t,[],db,⟨A,n,ab,a0,fb,f0,nb,n0,ac,fc,nc,rb,ro,rc⟩,mb,pb,D,rd,⟨A',n',I,ad,J,ag,U,aj,ae,ai,ak,aa,ao,an⟩,none,0⟩:=⟨_,rfl⟩;have aI:LH lb w0 w1 (d.dT::a.T lb::(X++g.T)):=by subst hd;exact aH
 have av:=(aI.hold hb2 (y:=d.rT 0) (by subst hd;exact Dd.rOk (SD.base hR (Ux))) (λk hk=>by
  subst hd;rcases hk with (rfl|rfl|rfl|⟨i,hi,rfl⟩)|rfl|hk
  .exact aN
  .exact aO
  .exact aP
  .exact aQ i hi
  .exact aM
  cases hk)).prm (M:=a.T lb::d.rT 0::d.dT::(X++g.T))
 have HD:Hid (d.cs=[]/\d.db=db/\d.rd=rd):=by subst hd;exact⟨rfl,rfl,rfl⟩
 have c0:w2.cell? (TU lb 0)=some (xa po pn pc):=(EQ av.law.lw 0).trans (congrArg some ar.out.1);have l0:=dK av.law.lw;have o0:w2.ownsRow 0 112 2 (xa po pn pc) pn (a.f 0).x:=by have h:w2.ownsRow 0 112 2 (a.f 0).v (a.f 0).n (a.f 0).x:=av.law.own 0;rw[ar.out.1,ar.out.2] at h;exact h
 clear aI hR aM aN aO aP aQ hb2 hq aH hd
 go_wp2_with (go_at_call 93;refine(lC).mono ?_)
 rintro e w8 ⟨rfl,hw8⟩;have hw:=hw8.symm;clear hw8;subst hw
 go_wp2_with (at_builtin;go_must (refine Uz _ rfl _ _ 64 rfl 0 112 i0 (.agg #[xk none,xk none]) 2 16 underlying64 aW aX aY a6 rfl zd _ pn (a.f 0).x rfl ?c0 _ 1 1 [xk (TT db),xk (TT rd)] rfl rfl ?c1 ?c2 zd ?c3 ?c4 (Ux) (w2.heap.size+1) zp ?_))
 case c0=>exact o0.alloc _
 case c1=>
  intro j u hj
  match j,hj with
  |0,hj=>simp at hj;subst hj;exact EQ (gu zp) 0
  |1,hj=>simp at hj;subst hj;exact EQ (gu zp) 1
  |j+2,hj=>simp at hj
 case c2=>intro u hu;simp at hu;rcases hu with rfl|rfl<;>rfl
 case c3=>unfold maxLen;omega
 case c4=>omega
 intro g8 c8 w8 aR aJ ay aL;obtain⟨h8,ax,_⟩:=av.put (W:=w2.alloc (xi #[xk (TT db),xk (TT rd)] 112)) 0 gC aR (by rw[ar.out.1];exact aJ) (by rw[ar.out.1];exact ay.imp id (λe=>by rw[e];simp));have aG:=Q6.desk hg (s:=⟨TT g8,pn+1,c8,_⟩) (by rw[HD.out.2.1,HD.out.2.2]) HD.out.1 h8;have d0:w8.cell? (TU lb 0)=some (xa po pn pc):=(EQ ax 0).trans (congrArg some ar.out.1);have e0:=gh ax 0;have m0:=dK ax;clear aR aJ ay aL h8 ax c0 l0 o0;go_wp2;go_ret;exact⟨rfl,aG⟩
end
section
variable{lb N:Nat}{X Y:List Th}{w0 w w':Uc}{o:Ob}{d:Dd}{cs':List Cs}{pb':Ub->Nat}{D':DataW Unit}{lo':TX}{lc':Nat}
def LH.go1(h:LH lb w0 w (d.dT::Y))(hf:R0 (lU d.cs d.mb d.pb) w w')(hn:({d with cs:=cs',pb:=pb',D:=D'}:Dd).dP w')(hs:∀k,lU cs' d.mb pb' k->lU d.cs d.mb d.pb k\/w.heap.size<=k):LH lb w0 w' (({d with cs:=cs',pb:=pb',D:=D'}:Dd).dT::Y):=
 h.turn1 (hf.mono (λk _ e=>Rm (Rm e))) (Dd.dOk hn) (λk I=>by
  rcases I with h1|h1|h1
  .exact Rf (Rf h1)
  .exact Rf (Rm (Rf h1))
  exact(hs k h1).imp (λe=>Rm (Rm e)) id)
def LH.go2(h:LH lb w0 w (d.rT 0::Y))(hf:R0 (nV d.rd d.lo) w w')(hn:({d with cs:=cs',lo:=lo',lc:=lc'}:Dd).rP 0 w')(hs:∀k,nV d.rd lo' k->nV d.rd d.lo k\/w.heap.size<=k):LH lb w0 w' (({d with cs:=cs',lo:=lo',lc:=lc'}:Dd).rT 0::Y):=
 h.turn1 (hf.mono (λk _ e=>Rm e)) (Dd.rOk hn) (λk I=>by
  rcases I with h1|h1
  .exact Rf (Rf h1)
  exact(hs k h1).imp (λe=>Rm e) id)
def Mu(lb:Nat)(w0:Uc)(N:Nat)(d:Dd)(Y:List Th)(w':Uc)(e:Ending):Prop:=e=xm (xn true)/\∃d':Dd,d'.db=d.db/\d'.rd=d.rd/\Sa (N+1) d'.cs/\LH lb w0 w' (d'.dT::d'.rT 0::Y)
def PZ(h:LH lb w0 w (d.dT::d.rT 0::Y))(an:Sa N d.cs)(hN:N<=900000000)(hk:o.kd=10\/o.kd=11\/o.kd=14)(ad:o.os.size<=140737488355328):
  Calls prog 59 #[.agg #[xk (TT d.db),xk (TT d.rd)],.agg o.c] w λe w'=>Mu lb w0 N d Y w' e:=by
 have ag:∀c∈d.cs,c.ev<=4611686018427387904:=λc hc=>UP (an c hc).1 zo
 have hT:=(h.boxed2 112 #[xk (TT d.db),xk (TT d.rd)] 74 o.c).prm (M:=d.dT::d.rT 0::iF (w.heap.size+1) 74 o.c::iF w.heap.size 112 #[xk (TT d.db),xk (TT d.rd)]::Y);obtain⟨kd,oa,os,ot,l1,l2,l3,g1,g2,g3,m1,m2,m3⟩:=o;simp only[Ob.c] at *;have aj:=fy an;have ae:=fy ag;have aa:d.dP _:=(hT.at (Um ..)).p;clear h an ag;rcases hk with rfl|rfl|rfl
 .have J:=fy (H9 d.p.rb d.p.ro d.p.rc d.pb d.D aa ad);clear aa;go_in;go_wp2_with fail;refine J.out.mono ?_;clear J;generalize ((w.alloc (xi #[xk (TT d.db),xk (TT d.rd)] 112)).alloc (xi #[xd xh 10,xd xh oa,xj os,xj ot,xa l1 l2 l3,xa g1 g2 g3,xa m1 m2 m3] 74))=W at *;generalize w.heap.size=wz at *;rintro e w1 ⟨rfl,hf,pb',D',U,hs⟩;have I:=hT.go1 (cs':=(jo d.cs os).1) hf U hs;obtain⟨oc,ol⟩:=I.bx pK;obtain⟨pc,pl⟩:=I.bx zJ;have J:=FQ 0 d.q.rb d.q.ro d.q.rc (I.at kI).p (Ux) os;have HT1:=fy I;clear I hT hf U hs;go_wp2_with fail;refine J.mono ?_;clear J oc ol pc pl;rintro e w2 ⟨rfl,hf,lo',lc',hdr,hs⟩;have HF:Hid (Mu lb w0 N d Y w2 (xm (xn true))):=⟨rfl,{d with cs:=(jo d.cs os).1,pb:=pb',D:=D',lo:=lo',lc:=lc'},rfl,rfl,KE aj.out ad,(show LH lb w0 w2 (Dd.dT {d with cs:=(jo d.cs os).1,pb:=pb',D:=D',lo:=lo',lc:=lc'}::Dd.rT 0 {d with cs:=(jo d.cs os).1,pb:=pb',D:=D',lo:=lo',lc:=lc'}::_::_::Y) from((HT1.out.perm (List.Perm.swap _ _ _)).go2 (cs':=(jo d.cs os).1) (lo':=lo') (lc':=lc') hf hdr hs).perm (List.Perm.swap _ _ _)).sub ((((Vc ..).trans (Vc ..)).cons_cons _).cons_cons _)⟩;exact zm51
 .have J:=fy (Hs d.p.rb d.p.ro d.p.rc d.pb d.D aa ot ad ae.out);clear aa;go_in;go_wp2_with fail;refine J.out.mono ?_;clear J;generalize ((w.alloc (xi #[xk (TT d.db),xk (TT d.rd)] 112)).alloc (xi #[xd xh 11,xd xh oa,xj os,xj ot,xa l1 l2 l3,xa g1 g2 g3,xa m1 m2 m3] 74))=W at *;generalize w.heap.size=wz at *;rintro e w1 ⟨rfl,hf,U⟩;have I:=hT.go1 (cs':=(jn d.t d.cs os ot).1) (pb':=d.pb) (D':=d.D) hf U (λk hk=>Rf (KF hk));obtain⟨oc,ol⟩:=I.bx pK;obtain⟨pc,pl⟩:=I.bx zJ;have J:=FG 0 d.q.rb d.q.ro d.q.rc (I.at kI).p os ot ae.out;have HT1:=fy I;clear I hT hf U;go_wp2_with fail;refine J.mono ?_;clear J oc ol pc pl;rintro e w2 ⟨rfl,hf,lo',lc',hdr,hs⟩;have HF:Hid (Mu lb w0 N d Y w2 (xm (xn true))):=⟨rfl,{d with cs:=(jn d.t d.cs os ot).1,pb:=d.pb,D:=d.D,lo:=lo',lc:=lc'},rfl,rfl,KD aj.out ad,(show LH lb w0 w2 (Dd.dT {d with cs:=(jn d.t d.cs os ot).1,pb:=d.pb,D:=d.D,lo:=lo',lc:=lc'}::Dd.rT 0 {d with cs:=(jn d.t d.cs os ot).1,pb:=d.pb,D:=d.D,lo:=lo',lc:=lc'}::_::_::Y) from((HT1.out.perm (List.Perm.swap _ _ _)).go2 (cs':=(jn d.t d.cs os ot).1) (lo':=lo') (lc':=lc') hf hdr hs).perm (List.Perm.swap _ _ _)).sub ((((Vc ..).trans (Vc ..)).cons_cons _).cons_cons _)⟩;exact zm51
 have J:=fy (MZ d.p.rb d.p.ro d.p.rc d.pb d.D aa ad);clear aa;go_in;go_wp2_with fail;refine J.out.mono ?_;clear J;generalize ((w.alloc (xi #[xk (TT d.db),xk (TT d.rd)] 112)).alloc (xi #[xd xh 14,xd xh oa,xj os,xj ot,xa l1 l2 l3,xa g1 g2 g3,xa m1 m2 m3] 74))=W at *;generalize w.heap.size=wz at *;rintro e w1 ⟨rfl,hf,pb',D',U,hs⟩;have I:=hT.go1 (cs':=(kv d.t d.cs os).1) hf U hs;obtain⟨oc,ol⟩:=I.bx pK;obtain⟨pc,pl⟩:=I.bx zJ;have J:=J8 0 d.q.rb d.q.ro d.q.rc (I.at kI).p (Ux) os;have HT1:=fy I;clear I hT hf U hs;go_wp2_with fail;refine J.mono ?_;clear J oc ol pc pl;rintro e w2 ⟨rfl,hf,lo',lc',hdr,hs⟩;have HF:Hid (Mu lb w0 N d Y w2 (xm (xn true))):=⟨rfl,{d with cs:=(kv d.t d.cs os).1,pb:=pb',D:=D',lo:=lo',lc:=lc'},rfl,rfl,O5 aj.out ad,(show LH lb w0 w2 (Dd.dT {d with cs:=(kv d.t d.cs os).1,pb:=pb',D:=D',lo:=lo',lc:=lc'}::Dd.rT 0 {d with cs:=(kv d.t d.cs os).1,pb:=pb',D:=D',lo:=lo',lc:=lc'}::_::_::Y) from((HT1.out.perm (List.Perm.swap _ _ _)).go2 (cs':=(kv d.t d.cs os).1) (lo':=lo') (lc':=lc') hf hdr hs).perm (List.Perm.swap _ _ _)).sub ((((Vc ..).trans (Vc ..)).cons_cons _).cons_cons _)⟩;exact zm51
end
section
variable{lb N n:Nat}{X Y B L':List Th}{w0 w w':Uc}{o:Ob}{d:Dd}{a:La}{g:Gs}{L:TZ}{v u:Ud}{x:Th}
def LH.inB(h:LH lb w0 w L')(I:x∈B)(hB:∀y∈B,y∈L':=by intro y J;simp[J]):x.P w:=(h.at (hB _ I)).p
def LH.holdT(h:LH lb w0 w Y)(I:XL w w')(hn:n=L.length)(hr:w'.ownsRow w.heap.size 9 1 v n (gU L)):LH lb w0 w' (lq 0 v L::Y):=by
 subst hn;exact h.hold I (GS (im hr (Ux))) (λk J=>(gJ hr k J).1)
def LH.row(h:LH lb w0 w Y)(hn:n=L.length)(I:lq 0 v L∈Y):w.ownsRow 0 9 1 v n (gU L):=by
 subst hn;exact(h.at I).p
def LH.join{x:Wt}(h:LH lb w0 w (lq 0 x.l x.L::lq 0 x.k x.L::Y))(U:x.L.length<=8):LH lb w0 w (qy 0 x::Y):=
 LH.turn (old:=[lq 0 x.l x.L,lq 0 x.k x.L]) (new:=[qy 0 x]) h (R0.refl _ _) (λy I=>by rw[List.mem_singleton.1 I];exact Qh ⟨(h.at (Um ..)).p,(h.at kI).p,U⟩) (VK)
  (λy I k J=>by
   rw[List.mem_singleton.1 I] at J;exact Rf (J.elim (λe=>⟨_,Um ..,e⟩) (λe=>⟨_,kI,e⟩)))
def Q6.waits{a1 a2:La}{x y:Wt}(hg:SE N a g)(I:Wp 5 6 [x.l] [x.k] a a1)(J:Wp 5 6 [y.l] [y.k] a1 a2)(hT:LH lb w0 w (a2.T lb::qy 0 x::qy 0 y::(X++g.T))):Q6 lb X w0 w (N+2):=by
 have e:=λi U h6=>congrArg Sl.x ((J.f i U h6).trans (I.f i U h6))
 have:=I.M;have:=J.M;have:=hg.nb;exact⟨a2,{g with xs:=g.xs++[x,y]},⟨(e 0 zd zd).trans hg.v0,(e 2 zd zd).trans hg.v2,(e 3 zd zd).trans hg.v3,(e 4 zd zd).trans hg.v4,by rw[J.l,I.l,hg.v5];simp,by rw[J.r,I.r,hg.v6];simp,(e 7 zd zd).trans hg.v7,(e 8 zd zd).trans hg.v8,hg.tt,by have:=hg.M;show a2.M=g.bs.length+g.js.length+g.rs.length;omega,by show _+(g.xs++[x,y]).length+103*g.ws.length<=_;simp;omega,hg.rt,UP hg.nd zo,λd hd=>(hg.ev d hd).up zo⟩,hT.prg⟩
def SH.get(t:Tb)(cs:List Cs)(id:Ub):∃(L:TZ)(f:Int)(n:Nat),n=L.length/\n<=t.acts.length/\(f=0\/f=8/\n=0)/\∀w w' e,SH t cs id w w' e->XL w w'/\∃o k,e=xm (.tuple #[xa o n k,xd xh f])/\w'.ownsRow w.heap.size 9 1 (xa o n k) n (gU L)/\(f=8->o=none/\k=0):=by
 cases hc:jP cs id with
 |none=>
  refine⟨[],8,0,rfl,Ux,Rm ⟨rfl,rfl⟩,λw w' e h=>?_⟩;obtain⟨I,he⟩:=h.nil hc;exact⟨I,none,0,he,XG,λ_=>⟨rfl,rfl⟩⟩
 |some c=>
  refine⟨pj t c.st,0,_,rfl,Lm,Rf rfl,λw w' e h=>?_⟩;obtain⟨I,o,k,he,ho⟩:=h.some hc rfl;exact⟨I,o,k,he,ho,λe=>by cases e⟩
def S5.get(t:Tb)(cs:List Cs)(id:Ub):∃(x:Int)(b:Bool)(f:Int),∀e,S5 t cs id e->e=xm (.tuple #[.agg #[xd xh x,xn b],xd xh f]):=by
 cases hc:jP cs id with
 |none=>
  refine⟨0,false,8,λe h=>?_⟩;rcases h with⟨_,h⟩|⟨c,h,_⟩
  .exact h
  rw[hc] at h;cases h
 |some c=>
  refine⟨(c.ev:Int),kM t c.st,0,λe h=>?_⟩;rcases h with⟨h,_⟩|⟨c',h,h'⟩
  .rw[hc] at h;cases h
  rw[hc] at h;cases h;exact h'
def Cm{ty ty':Nat}{c c':T1}(J:LH lb w0 w (a.T lb::(X++g.T)))(I:d∈g.ds):∃B,(iF (w.heap.size+1) ty' c'∈B/\iF w.heap.size ty c∈B)/\(d.dT∈B/\d.rT 0∈B)/\(X++g.T).Sublist B/\LH lb w0 ((w.alloc (xi c ty)).alloc (xi c' ty')) (a.T lb::B):=by
 have m1:d.dT∈g.T:=Wv (List.mem_flatMap.2 ⟨d,I,Um ..⟩);have m2:d.rT 0∈g.T:=Wv (List.mem_flatMap.2 ⟨d,I,kI⟩);exact⟨_::_::(X++g.T),⟨Um ..,kI⟩,⟨by simp[m1],by simp[m2]⟩,(Vc ..).trans (Vc ..),(J.boxed2 _ _ _ _).prm⟩
def Qg(hg:SE N a g)(hT:LH lb w0 w (a.T lb::(X++g.T)))(hd:d∈g.ds)(hN:N<=700000000)(hk:o.kd=13)(ao:o.os.size<=140737488355328):
  Calls prog 60 #[xk (TT lb),.agg #[xk (TT d.db),xk (TT d.rd)],.agg o.c] w λe w'=>qR lb X w0 (N+2) w' e:=by
 obtain⟨B,mb,md,ag,hA⟩:=Cm (ty:=112) (c:=#[xk (TT d.db),xk (TT d.rd)]) (ty':=74) (c':=o.c) hT hd;obtain⟨kd,oa,os,ot,l1,l2,l3,g1,g2,g3,m1,m2,m3⟩:=o;simp only[Ob.c] at *;subst hk;have hl:=(hg.len hT.law).2;have an:=hg.nb;have aq:(a.f 5).n<=800000000:=zo;have ar:(a.f 6).n<=800000000:=zo;have HM:=fy (Rj mb (Rj md ag));obtain⟨x,b,f,get⟩:=S5.get d.t d.cs os;have U:=fy get;have HC:=fy (Kb d.p.rb d.p.ro d.p.rc d.pb d.D (hA.inB md.1) ao);clear hT hd mb md ag get hl an aq ar;go_in;go_wp2_with fail;refine HC.out.mono ?_;clear HC;generalize ((w.alloc (xi #[xk (TT d.db),xk (TT d.rd)] 112)).alloc (xi #[xd xh 13,xd xh oa,xj os,xj ot,xa l1 l2 l3,xa g1 g2 g3,xa m1 m2 m3] 74))=W at *;generalize w.heap.size=wz at *;rintro e w1 ⟨hp,hb⟩;obtain rfl:=U.out _ hp;have I:=(hA.later hb).boxed 105 #[xd xh x,xn b];clear hp hb hA;obtain⟨oc,ol⟩:=I.bxB HM.out.1.1;obtain⟨pc,pl⟩:=I.bxB HM.out.1.2;have HC:=Ia 0 d.q.rb d.q.ro d.q.rc (I.inB HM.out.2.1.2) os;go_wp2_with fail;refine HC.mono ?_;clear HC oc ol pc pl;generalize w1.alloc (xi #[xd xh x,xn b] 105)=W1 at *;generalize w1.heap.size=b1 at *;rintro e w3 ⟨hp,hb⟩;obtain rfl:=U.out _ hp;have J:=I.later hb;obtain⟨sc,sl⟩:=J.bx (Um ..);have HL:Hid (Q6 lb X w0 (w3.alloc (xi #[xd xh x,xn b] 105)) (N+2)):=⟨a,g,hg.more zo,(J.later gC).tail.sub (HM.out.2.2.cons_cons _)⟩;clear hp hb I J
 go_wp2_with (go_at_call 93;refine(lC).mono ?_)
 rintro e w8 ⟨rfl,ai⟩;have hw:=ai.symm;clear ai;subst hw;go_wp2;go_ret;exact⟨ja zp,HL.out⟩
end
section
variable{lb N n:Nat}{X Y B L':List Th}{w0 w w':Uc}{o:Ob}{d:Dd}{a:La}{g:Gs}{L:TZ}{v u:Ud}{x:Th}
def Po{n k:Nat}:(binOp .neq 25 (xa none n k) TV).run prog V=.ok (xn false) V:=run_neq_slice_nil V 25 _ none n k underlying25
def Qf(hg:SE N a g)(hT:LH lb w0 w (a.T lb::(X++g.T)))(hd:d∈g.ds)(hN:N<=700000000)(hk:o.kd=12)(ao:o.os.size<=140737488355328):
  Calls prog 60 #[xk (TT lb),.agg #[xk (TT d.db),xk (TT d.rd)],.agg o.c] w λe w'=>qR lb X w0 (N+2) w' e:=by
 obtain⟨B,mb,md,aq,hA⟩:=Cm (ty:=112) (c:=#[xk (TT d.db),xk (TT d.rd)]) (ty':=74) (c':=o.c) hT hd;obtain⟨kd,oa,os,ot,l1,l2,l3,g1,g2,g3,m1,m2,m3⟩:=o;simp only[Ob.c] at *;subst hk;have hl:=(hg.len hT.law).2;have az:=hg.nb;have hw5:(a.f 5).n<=800000000:=zo;have hw6:(a.f 6).n<=800000000:=zo;have HM:=fy (Rj mb (Rj md aq));obtain⟨L,f,n,hn,ay,hf,get⟩:=SH.get d.t d.cs os;have ae:d.dP _:=hA.inB md.1;have h8:n<=8:=by have:=ae.tb.hA;have:=ae.tb.A6;omega
 have ai:=fy get;have HN:=fy hn;have HF:=fy hf;have HC:=fy (we d.p.rb d.p.ro d.p.rc d.pb d.D ae ao);clear hT hd mb md aq get az hn hf ay ae;go_in;go_wp2_with fail;refine HC.out.mono ?_;clear HC;generalize ((w.alloc (xi #[xk (TT d.db),xk (TT d.rd)] 112)).alloc (xi #[xd xh 12,xd xh oa,xj os,xj ot,xa l1 l2 l3,xa g1 g2 g3,xa m1 m2 m3] 74))=W at *;generalize w.heap.size=wz at *;rintro e w1 hp;obtain⟨I,o1,k1,rfl,hr,au⟩:=ai.out _ _ _ hp;have J:=hA.holdT I HN.out hr;have ak:=fy au;clear hp I hA hr au;obtain⟨oc,ol⟩:=J.bxB HM.out.1.1;obtain⟨pc,pl⟩:=J.bxB HM.out.1.2;have HC:=fy (we d.p.rb d.p.ro d.p.rc d.pb d.D (J.inB HM.out.2.1.1) ao);go_wp2_with fail;refine HC.out.mono ?_;clear HC oc ol pc pl;rintro e w2 hp;obtain⟨I,o2,k2,rfl,hr,av⟩:=ai.out _ _ _ hp;have U:=J.holdT I HN.out hr;have an:=fy av;clear hp I J hr av;obtain⟨oc,ol⟩:=U.bxB HM.out.1.1;obtain⟨pc,pl⟩:=U.bxB HM.out.1.2;have HC:=fy (BR 0 d.q.rb d.q.ro d.q.rc (U.inB HM.out.2.1.2) os);go_wp2_with fail;refine HC.out.mono ?_;clear HC oc ol pc pl;rintro e w3 hp;obtain⟨I,o3,k3,rfl,hr,aA⟩:=ai.out _ _ _ hp;have aa:=U.holdT I HN.out hr;clear hp I U hr aA;have HC:=fy (og HN.out (aa.row HN.out pK) (aa.row HN.out (Um ..)) h8);go_wp2_with fail;refine HC.out.mono ?_;clear HC;rintro e w4 ⟨rfl,I⟩;have ad:=aa.later I;clear I aa;have HC:=fy (og HN.out (ad.row HN.out kI) (ad.row HN.out (Um ..)) h8);go_wp2_with fail;refine HC.out.mono ?_;clear HC;rintro e w5 ⟨rfl,I⟩;have aj:=(ad.later I).prm (M:=a.T lb::lq 0 (xa o3 n k3) L::lq 0 (xa o2 n k2) L::lq 0 (xa o1 n k1) L::B);have HC:=fy (CJ (lo:=o1) (lc:=k1) aj HN.out (aj.row HN.out kI) h8 zo zo);clear I ad aj
 go_wp2_with (go_at_call 93;refine(lC).mono ?_)
 rintro e w8 ⟨rfl,ar⟩;have hw:=ar.symm;clear ar;subst hw;have HQ:Hid (f=8->(∀V:Uc,(binOp .neq 25 (xa o1 n k1) TV).run prog V=.ok (xn false) V)/\∀V:Uc,(binOp .neq 25 (xa o2 n k2) TV).run prog V=.ok (xn false) V):=λhf=>by
  rw[(ak.out hf).1,(an.out hf).1];exact⟨λV=>Po,λV=>Po⟩
 have hf:f=0\/f=8:=HF.out.imp id And.left;clear HF ak an;rcases hf with rfl|rfl
 rotate_left
 .obtain⟨e1,e2⟩:=HQ.out rfl;clear HQ;go_wp2_with fail;clear e1 e2;exact zm8
 .clear HQ;go_wp2_with fail;exact zm8
end
section
variable{lb N n:Nat}{X Y B L':List Th}{w0 w w':Uc}{o:Ob}{d:Dd}{a:La}{g:Gs}{L:TZ}{v u:Ud}{x:Th}
def Qe(hg:SE N a g)(hT:LH lb w0 w (a.T lb::(X++g.T)))(hd:d∈g.ds)(hN:N<=700000000)(hk:o.kd=15):
  Calls prog 60 #[xk (TT lb),.agg #[xk (TT d.db),xk (TT d.rd)],.agg o.c] w λe w'=>qR lb X w0 (N+2) w' e:=by
 obtain⟨B,mb,md,aq,hA⟩:=Cm (ty:=112) (c:=#[xk (TT d.db),xk (TT d.rd)]) (ty':=74) (c':=o.c) hT hd;obtain⟨kd,oa,os,ot,l1,l2,l3,g1,g2,g3,m1,m2,m3⟩:=o;simp only[Ob.c] at *;subst hk;have hl:=(hg.len hT.law).2;have av:=hg.nb;have hw5:(a.f 5).n<=800000000:=zo;have hw6:(a.f 6).n<=800000000:=zo;have HM:=fy (Rj mb (Rj md aq));obtain⟨L,ao,aj⟩:=LC (d.cs.map (·.id));obtain⟨n,hn⟩:∃n,n=L.length:=⟨_,rfl⟩;have ak:d.dP _:=hA.inB md.1;have h8:n<=8:=by have:=aj.length_eq;rw[UL] at this;have:=ak.few;omega
 have ag:Hid (∀w w' e,Tq d.cs w w' e->∃o k,e=xm (xa o n k)/\w'.ownsRow w.heap.size 9 1 (xa o n k) n (gU L)/\XL w w'):=λw w' e h=>h.one ao aj hn
 have HN:=fy hn;have an:Hid (∀c∈d.cs,c.id.size<=140737488355328):=λc hc=>(hg.ev d hd c hc).2
 have HC:=fy (Aa d.p.rb d.p.ro d.p.rc d.pb d.D ak an.out);clear hT hd mb md aq av hn ak ao aj;go_in;go_wp2_with fail;refine HC.out.mono ?_;clear HC;generalize ((w.alloc (xi #[xk (TT d.db),xk (TT d.rd)] 112)).alloc (xi #[xd xh 15,xd xh oa,xj os,xj ot,xa l1 l2 l3,xa g1 g2 g3,xa m1 m2 m3] 74))=W at *;generalize w.heap.size=wz at *;rintro e w1 hp;obtain⟨o1,k1,rfl,hr,I⟩:=ag.out _ _ _ hp;have J:=hA.holdT I HN.out hr;clear hp I hA hr;obtain⟨oc,ol⟩:=J.bxB HM.out.1.1;obtain⟨pc,pl⟩:=J.bxB HM.out.1.2;have HC:=fy (Aa d.p.rb d.p.ro d.p.rc d.pb d.D (J.inB HM.out.2.1.1) an.out);go_wp2_with fail;refine HC.out.mono ?_;clear HC oc ol pc pl;rintro e w2 hp;obtain⟨o2,k2,rfl,hr,I⟩:=ag.out _ _ _ hp;have U:=J.holdT I HN.out hr;clear hp I J hr;obtain⟨oc,ol⟩:=U.bxB HM.out.1.1;obtain⟨pc,pl⟩:=U.bxB HM.out.1.2;have HC:=fy (FD 0 d.q.rb d.q.ro d.q.rc (U.inB HM.out.2.1.2));go_wp2_with fail;refine HC.out.mono ?_;clear HC oc ol pc pl;rintro e w3 hp;obtain⟨o3,k3,rfl,hr,I⟩:=ag.out _ _ _ hp;have aa:=U.holdT I HN.out hr;clear hp I U hr;have HC:=fy (og HN.out (aa.row HN.out pK) (aa.row HN.out (Um ..)) h8);go_wp2_with fail;refine HC.out.mono ?_;clear HC;rintro e w4 ⟨rfl,I⟩;have ad:=aa.later I;clear I aa;have HC:=fy (og HN.out (ad.row HN.out kI) (ad.row HN.out (Um ..)) h8);go_wp2_with fail;refine HC.out.mono ?_;clear HC;rintro e w5 ⟨rfl,I⟩;have ai:=(ad.later I).prm (M:=a.T lb::lq 0 (xa o3 n k3) L::lq 0 (xa o2 n k2) L::lq 0 (xa o1 n k1) L::B);have HC:=fy (CJ (lo:=o1) (lc:=k1) ai HN.out (ai.row HN.out kI) h8 zo zo);clear I ad ai;go_wp2_with fail;exact zm8
end
def P8{c:Int}(n:Nat)(h0:-9223372036854775808<=c)(h1:c<=9223372036854775807)(hn:0<n)(hn2:n<=900000000):∃j,j<n/\∀W:Uc,Calls prog 58 #[xd xh c,xd xh (n:Int)] W λe w'=>e=xm (xd xh (j:Int))/\w'=W:=by
 have hni:¬ (n:Int)=0:=zo;by_cases hc:c<0
 .obtain⟨j,hj,e⟩:=Tf.of (n:=n) (x:=-(c+1)) zo hn;rw[Int.neg_tmod] at e;exact zm167
 obtain⟨j,hj,e⟩:=Tf.of (n:=n) (x:=c) zo hn;rw[Xi zo] at e;exact zm167
section
variable{lb N:Nat}{X:List Th}{w0 w:Uc}{o:Ob}{a:La}{g:Gs}{l r:List Dd}{d d':Dd}
def Q6.turn(hg:SE N a g)(hs:g.ds=l++d::r)(I:d'.db=d.db)(J:d'.rd=d.rd)(he:Sa (N+1) d'.cs)(U:LH lb w0 w (d'.dT::d'.rT 0::(a.T lb::(X++({g with ds:=l++r}:Gs).T)))):Q6 lb X w0 w (N+2):=by
 refine⟨a,{g with ds:=l++d'::r},⟨by rw[hg.v0,hs];exact(N1 l r d I J).symm,hg.v2,hg.v3,hg.v4,hg.v5,hg.v6,hg.v7,hg.v8,hg.tt,hg.M,UP hg.nb zo,hg.rt,?_,λe hm=>?_⟩,U.prg⟩
 .have:=hg.nd;rw[hs] at this;simp only[Ur,UM] at this|-;omega
 have up:∀e∈g.ds,Sa (N+2) e.cs:=λe hm=>(hg.ev e hm).up zo
 rw[hs] at up;rcases List.mem_append.1 hm with hm|hm
 .exact up e (Wv hm)
 rcases List.mem_cons.1 hm with rfl|hm
 .exact he.up zo
 exact up e (Wm (Ul hm))
def Qd(h:Q6 lb X w0 w N)(hE:EV w0)(hN:N<=700000000)(hk:o.kd=8\/o.kd=9):Calls prog 36 #[xk (TT lb),.agg o.c] w λe w'=>qR lb X w0 (N+1) w' e:=by
 have U:=h.boxed 74 o.c;obtain⟨kd,oa,os,ot,l1,l2,l3,g1,g2,g3,m1,m2,m3⟩:=o;simp only[Ob.c] at *;clear h;rcases hk with rfl|rfl
 .have I:=ML U hE zo os;go_in;go_wp2_with fail;refine I.mono ?_;rintro e w1 ⟨rfl,J⟩;have H1:=J.drop;clear J;go_wp2;go_ret;exact⟨rfl,H1⟩
 have I:=fy (wu os (w.alloc (xi #[xd xh 9,xd xh oa,xj os,xj ot,xa l1 l2 l3,xa g1 g2 g3,xa m1 m2 m3] 74)));go_in;go_wp2_with fail;refine I.out.mono ?_;rintro e w1 ⟨⟨b,rfl,_⟩,hb⟩;have I:=ML (U.later hb) hE zo b;clear hb;go_wp2_with fail;refine I.mono ?_;rintro e w2 ⟨rfl,J⟩;have H1:=J.drop;clear J;go_wp2;go_ret;exact⟨rfl,H1⟩
def Qb(h:Q6 lb X w0 w N)(hN:N<=700000000)(h10:10<=o.kd)(h15:o.kd<=15)(aR:-9223372036854775808<=o.oa)(aS:o.oa<=9223372036854775807)(az:o.os.size<=140737488355328):Calls prog 36 #[xk (TT lb),.agg o.c] w λe w'=>qR lb X w0 (N+2) w' e:=by
 obtain⟨a,g,hg,hT⟩:=h;have ae:=hT.boxed 74 o.c;obtain⟨kd,oa,os,ot,l1,l2,l3,g1,g2,g3,m1,m2,m3⟩:=o;simp only[Ob.c] at *;obtain⟨po,pn,pc,ag⟩:∃o n c,(a.f 0).v=xa o n c/\(a.f 0).n=n:=⟨_,_,_,rfl,rfl⟩;have aE:pn=g.ds.length:=by rw[<-ag.2];exact(hg.len hT.law).1.1
 have hd7:pn<=700000000:=by have:=hg.nd;omega
 have hL:(a.T lb).P _:=(ae.at kI).p;have c0:(w.alloc (xi #[xd xh kd,xd xh oa,xj os,xj ot,xa l1 l2 l3,xa g1 g2 g3,xa m1 m2 m3] 74)).cell? (TU lb 0)=some (xa po pn pc):=(EQ hL.lw 0).trans (congrArg some ag.1);have ax:=dK hL.lw;have o0:(w.alloc (xi #[xd xh kd,xd xh oa,xj os,xj ot,xa l1 l2 l3,xa g1 g2 g3,xa m1 m2 m3] 74)).ownsRow 0 112 2 (xa po pn pc) pn (qd g.ds):=by have h:(w.alloc (xi #[xd xh kd,xd xh oa,xj os,xj ot,xa l1 l2 l3,xa g1 g2 g3,xa m1 m2 m3] 74)).ownsRow 0 112 2 (a.f 0).v (a.f 0).n (a.f 0).x:=hL.own 0;rw[ag.1,ag.2,hg.v0] at h;exact h
 have k1:(1:Int)<=kd:=zo;have k2:¬ kd<=3:=zo;have k3:(4:Int)<=kd:=zo;have k4:¬ kd<=7:=zo;have k5:¬ kd=8:=zo;have k6:¬ kd=9:=zo;have HG:=fy hg;have ak:=fy aE;clear hT hg ag aE hL;by_cases hz:pn=0
 .have aT:(pn:Int)=0:=zo;have HF:Hid (Q6 lb X w0 (w.alloc (xi #[xd xh kd,xd xh oa,xj os,xj ot,xa l1 l2 l3,xa g1 g2 g3,xa m1 m2 m3] 74)) (N+2)):=⟨a,g,HG.out.more zo,ae.tail⟩;subst hz;go_in;go_wp2;go_ret;exact⟨rfl,HF.out⟩
 have aT:¬ (pn:Int)=0:=zo;obtain⟨j,hj,hJ⟩:=P8 pn aR aS zo zo;obtain⟨d,hd⟩:∃d,d=g.ds[j]'(by have:=ak.out;omega):=⟨_,rfl⟩;have ao:=Kw g.ds (j:=j) (by have:=ak.out;omega);rw[<-hd] at ao;have aD:(g.ds.take j).length=j:=by rw[Vi];have:=ak.out;omega
 obtain⟨pb,au,an,av,aw⟩:=N0 (l:=g.ds.take j) (d:=d) (r:=g.ds.drop (j+1)) (by rw[<-ao];exact o0);replace au:po=_:=au;subst au;rw[aD] at av aw;have aB:=fy ao;have HJ:=fy hJ;clear ao aD hd hJ o0 ak;have hji:(j:Int)<(pn:Int):=zo;go_in;go_wp2_with fail;obtain⟨ob,ol⟩:=ae.bx (Um ..);replace ob:=ob 1;generalize w.alloc (xi #[xd xh kd,xd xh oa,xj os,xj ot,xa l1 l2 l3,xa g1 g2 g3,xa m1 m2 m3] 74)=W at *;generalize w.heap.size=wz at *;have HS:∀w',XL W w'->w'.cell? (TU lb 0)=some (xa (TT pb) pn pc)/\w'.cell? (TU wz 1)=some (xd xh oa)/\lb<w'.heap.size/\wz<w'.heap.size/\w'.cell? (TU pb (j*2))=some (xk (TT d.db))/\w'.cell? (TU pb (j*2+1))=some (xk (TT d.rd))/\pb<w'.heap.size:=λw' h=>⟨(Fd h _ _ ax).trans c0,(Fd h _ _ ol).trans ob,Uw ax h.size,Uw ol h.size,(Fd h _ _ an).trans av,(Fd h _ _ an).trans aw,Uw an h.size⟩
 refine R' (S:=λw'=>XL W w') zk ?_ (λI=>?_)
 .exact(XF).drew
 apply zt9 0 (xk (TT lb)) I;apply zt9 1 (xk (TT lb)) I;apply zt9 2 (xk (TT lb)) I;apply zt9 3 (xa (TT pb) pn pc) I;apply zt9 4 (xk (some (TU wz 1))) I;apply zt9 5 (xd xh oa) I;apply zt9 6 (xk (TT lb)) I;apply zt9 7 (xk (TT lb)) I;apply zt9 8 (xk (TT lb)) I;apply zt9 9 (xa (TT pb) pn pc) I;apply zt9 10 (xd xh (pn:Int)) I;refine zrH2 11 14 (λK U=>?ra) λK U=>?rb
 case' ra=>(go_simp;refine(HJ.out _).mono ?_;rintro e w5 ⟨rfl,ai⟩;have h5:=ai.symm;clear ai;subst h5;refine U.out _ _ I (λI=>?_);clear U K;refine Uj (i:=12) (v:=xk (some (TU pb (j*2)))) rfl zk zk zk (λ_ _ _ h=>h) (Rf ⟨zk,λw hw=>by obtain⟨s0,s1,s2,s3,s4,s5,s6⟩:=HS w hw;go_simp⟩) I ?_;try simp only[Act.put,UT,Ve,Vf,Va,U7,U6];refine Uj (i:=13) (v:=.agg #[xk (TT d.db),xk (TT d.rd)]) rfl zk zk zk (λ_ _ _ h=>h) (Rf ⟨zk,λw hw=>by obtain⟨s0,s1,s2,s3,s4,s5,s6⟩:=HS w hw;go_simp⟩) I ?_;try simp only[Act.put,UT,Ve,Vf,Va,U7,U6];apply zrH 14;intro K U;go_simp;refine U.out _ _ (((XF).drew).alloc (XH) _) (λI=>?_);clear U K)
 case' rb=>(go_simp;refine U.out _ _ (((XF).drew).alloc (XH) _) (λI=>?_);clear U K;apply zrH 11;intro K U;go_simp;refine(HJ.out _).mono ?_;rintro e w5 ⟨rfl,ai⟩;have h5:=ai.symm;clear ai;subst h5;refine U.out _ _ I (λI=>?_);clear U K;refine Uj (i:=12) (v:=xk (some (TU pb (j*2)))) rfl zk zk zk (λ_ _ _ h=>h) (Rf ⟨zk,λw hw=>by obtain⟨s0,s1,s2,s3,s4,s5,s6⟩:=HS w hw;go_simp⟩) I ?_;try simp only[Act.put,UT,Ve,Vf,Va,U7,U6];refine Uj (i:=13) (v:=.agg #[xk (TT d.db),xk (TT d.rd)]) rfl zk zk zk (λ_ _ _ h=>h) (Rf ⟨zk,λw hw=>by obtain⟨s0,s1,s2,s3,s4,s5,s6⟩:=HS w hw;go_simp⟩) I ?_;try simp only[Act.put,UT,Ve,Vf,Va,U7,U6])
 all_goals (
  apply zrH 15;intro K U;go_simp;refine U.out _ _ (by first|exact gC.drew|exact((XF).drew).alloc (XH) _) (λI=>?_);clear U K;refine Ut zk ?_ _;clear I;have ad:=(ae.boxed 112 #[xk (TT d.db),xk (TT d.rd)]).later ((XF).drew);have aQ:kd=10\/kd=11\/kd=14\/kd=12\/kd=13\/kd=15:=zo;obtain⟨l,r,ay⟩:∃l r,g.ds=l++d::r:=⟨_,_,aB.out⟩;have J:d∈g.ds:=by rw[ay];simp
  have ar:=fy ay;generalize (W.alloc (xi #[xk (TT d.db),xk (TT d.rd)] 112)).drew=WZ at *;generalize W.heap.size=pz at *;obtain⟨pc',pl⟩:=ad.bx (Um ..);obtain⟨oc,ol'⟩:=ad.bx kI;clear ae c0 ax ob ol an av aw aB HS HJ k1 k2 k3 k4 k5 k6 ay;have aI:Hid (∀k:Int,kd=k->(k=10\/k=11\/k=14)->Calls prog 59 #[.agg #[xk (TT d.db),xk (TT d.rd)],.agg #[xd xh k,xd xh oa,xj os,xj ot,xa l1 l2 l3,xa g1 g2 g3,xa m1 m2 m3]] WZ λe w'=>qR lb X w0 (N+2) w' e):=λk hk h3=>by
   have aO:g.T=({g with ds:=l++d::r}:Gs).T:=by rw[<-ar.out]
   have hT:=ad;rw[aO] at hT;refine(PZ (o:=⟨k,oa,os,ot,l1,l2,l3,g1,g2,g3,m1,m2,m3⟩) (hT.prg (M:=d.dT::d.rT 0::(iF pz 112 #[xk (TT d.db),xk (TT d.rd)]::iF wz 74 #[xd xh kd,xd xh oa,xj os,xj ot,xa l1 l2 l3,xa g1 g2 g3,xa m1 m2 m3]::a.T lb::(X++({g with ds:=l++r}:Gs).T)))) (HG.out.ev d J) zo h3 az).mono ?_;rintro e w9 ⟨rfl,d',e1,e2,aP,h9⟩;exact⟨rfl,Q6.turn HG.out ar.out e1 e2 aP (h9.sub ((((Vc ..).trans (Vc ..)).cons_cons _).cons_cons _))⟩
  have aK:Hid (∀k:Int,kd=k->(k=12\/k=13\/k=15)->Calls prog 60 #[xk (TT lb),.agg #[xk (TT d.db),xk (TT d.rd)],.agg #[xd xh k,xd xh oa,xj os,xj ot,xa l1 l2 l3,xa g1 g2 g3,xa m1 m2 m3]] WZ λe w'=>qR lb X w0 (N+2) w' e):=λk hk h3=>by
   have hT:=ad.sub (((UD (a.T lb::(X++g.T))).cons _).cons _);rcases h3 with rfl|rfl|rfl
   .exact Qf (o:=⟨12,oa,os,ot,l1,l2,l3,g1,g2,g3,m1,m2,m3⟩) HG.out hT J hN rfl az
   .exact Qg (o:=⟨13,oa,os,ot,l1,l2,l3,g1,g2,g3,m1,m2,m3⟩) HG.out hT J hN rfl az
   exact Qe (o:=⟨15,oa,os,ot,l1,l2,l3,g1,g2,g3,m1,m2,m3⟩) HG.out hT J hN rfl
  clear ad HG ar J;rcases aQ with rfl|rfl|rfl|rfl|rfl|rfl
  iterate 3
   .go_wp2_with fail;refine(aI.out _ rfl zo).mono ?_;rintro e w9 ⟨rfl,h9⟩;go_wp2;go_ret;exact⟨rfl,h9⟩
  all_goals (
   go_wp2_with fail;refine(aK.out _ rfl zo).mono ?_;rintro e w9 ⟨rfl,h9⟩;go_wp2;go_ret;exact⟨rfl,h9⟩)
  )
end
structure Bo(w:Uc)(fn:Nat)(mv:Ud)(gb i:Nat)(o1:TX)(n1 k1:Nat)(o2:TX)(n2 k2:Nat)(o3:TX)(n3 k3:Nat)(o4:TX)(n4 k4:Nat):Prop where
 lt:gb<w.heap.size
 c0:w.cell? (TU gb (i*5))=some mv
 c1:w.cell? (TU gb (i*5+1))=some (xa o1 n1 k1)
 c2:w.cell? (TU gb (i*5+2))=some (xa o2 n2 k2)
 c3:w.cell? (TU gb (i*5+3))=some (xa o3 n3 k3)
 c4:w.cell? (TU gb (i*5+4))=some (xa o4 n4 k4)
 a1:∀W,XL w W->Calls prog fn #[xa o1 n1 k1,mv] W λe w'=>e=xm (xn true)/\w'=W
 a2:∀W,XL w W->Calls prog fn #[xa o2 n2 k2,mv] W λe w'=>e=xm (xn true)/\w'=W
 a3:∀W,XL w W->Calls prog fn #[xa o3 n3 k3,mv] W λe w'=>e=xm (xn true)/\w'=W
 a4:∀W,XL w W->Calls prog fn #[xa o4 n4 k4,mv] W λe w'=>e=xm (xn true)/\w'=W
section
variable{lb N:Nat}{X:List Th}{w0 w:Uc}{a:La}{g:Gs}
def F4{fn J e:Nat}{mv v l g1 g2 g3:Ud}(hg:J<w.heap.size)(hc:∀m,m<5->w.cell? (TU J (i*5+m))=[mv,l,g1,g2,g3][m]?)(h:Td w v e l g1 g2 g3)(I:∀W u,XL w W->Q1 W u v e->Calls prog fn #[u,mv] W λe w'=>e=xm (xn true)/\w'=W):
  ∃o1 n1 k1 o2 U k2 o3 n3 k3 o4 n4 k4,Bo w fn mv J i o1 n1 k1 o2 U k2 o3 n3 k3 o4 n4 k4:=by
 obtain⟨h1,h2,h3,h4⟩:=h;obtain⟨o1,n1,k1,e1⟩:=h1.sl;obtain⟨o2,U,k2,e2⟩:=h2.sl;obtain⟨o3,n3,k3,e3⟩:=h3.sl;obtain⟨o4,n4,k4,e4⟩:=h4.sl;subst e1 e2 e3 e4;exact⟨o1,n1,k1,o2,U,k2,o3,n3,k3,o4,n4,k4,hg,hc 0 zd,hc 1 zd,hc 2 zd,hc 3 zd,hc 4 zd,λW h=>I W _ h (h1.later h),λW h=>I W _ h (h2.later h),λW h=>I W _ h (h3.later h),λW h=>I W _ h (h4.later h)⟩
def Pj(hg:SE N a g)(hT:LH lb w0 w (a.T lb::(X++g.T)))(hN:N<=900000000):
  Calls prog 38 #[xk (some ⟨lb,0,none⟩)] w λe w'=>e=xm (xn true)/\XL w w':=by
 obtain⟨⟨_,e2,e3,e4⟩,_⟩:=hg.len hT.law;have ax:=hg.nb;have hM:=hg.M;obtain⟨p2,q2,r2,aa⟩:∃o n c,(a.f 2).v=xa o n c/\(a.f 2).n=n/\(a.f 2).o=o:=⟨_,_,_,rfl,rfl,rfl⟩;have n2:q2<=900000000:=by rw[<-aa.2.1];omega
 obtain⟨p3,q3,r3,ad⟩:∃o n c,(a.f 3).v=xa o n c/\(a.f 3).n=n/\(a.f 3).o=o:=⟨_,_,_,rfl,rfl,rfl⟩;have n3:q3<=900000000:=by rw[<-ad.2.1];omega
 obtain⟨p4,q4,r4,ae⟩:∃o n c,(a.f 4).v=xa o n c/\(a.f 4).n=n/\(a.f 4).o=o:=⟨_,_,_,rfl,rfl,rfl⟩;have n4:q4<=900000000:=by rw[<-ae.2.1];omega
 have H2:Hid (∀V,Below w.heap.size w V->∀i,i<q2->∃m gb o1 n1 k1 o2 n2 k2 o3 n3 k3 o4 n4 k4,p2=some ⟨gb,0,none⟩/\Bo V 66 (xj m) gb i o1 n1 k1 o2 n2 k2 o3 n3 k3 o4 n4 k4):=λV hV i hi=>by
  have I:=hT.later hV;obtain⟨b,J⟩:∃b,g.bs[i]?=some b:=⟨_,Uq (by rw[<-e2,aa.2.1];exact hi)⟩;obtain⟨gb,ho,U,hc⟩:=ve (C:=OY) (λx=>rfl) (show V.ownsRow 0 _ 5 (xa (a.f 2).o (a.f 2).n (a.f 2).c) (a.f 2).n (g.bs.flatMap OY) from hg.v2▸I.law.own 2) e2 J;have hb:=(I.at (x:=kS b) (Ul (Wm (Wm (Wv (List.mem_map.2 ⟨b,UA J,rfl⟩)))))).p;rw[aa.2.2] at ho;obtain⟨o1,n1,k1,o2,n2,k2,o3,n3,k3,o4,n4,k4,h⟩:=F4 (mv:=xj b.mr) U hc ⟨hb.l,hb.g1,hb.g2,hb.g3⟩ (λW u _ h=>BZ W u h);exact zm140
 have H4:Hid (∀V,Below w.heap.size w V->∀i,i<q4->∃m gb o1 n1 k1 o2 n2 k2 o3 n3 k3 o4 n4 k4,p4=some ⟨gb,0,none⟩/\Bo V 67 (xd xh m) gb i o1 n1 k1 o2 n2 k2 o3 n3 k3 o4 n4 k4):=λV hV i hi=>by
  have I:=hT.later hV;obtain⟨b,J⟩:∃b,g.rs[i]?=some b:=⟨_,Uq (by rw[<-e4,ae.2.1];exact hi)⟩;obtain⟨gb,ho,U,hc⟩:=ve (C:=Ju) (λx=>rfl) (show V.ownsRow 0 _ 5 (xa (a.f 4).o (a.f 4).n (a.f 4).c) (a.f 4).n (g.rs.flatMap Ju) from hg.v4▸I.law.own 4) e4 J;have hb:=(I.at (x:=nX b) (Ul (Wm (Wm (Wm (Wm (Wv (List.mem_map.2 ⟨b,UA J,rfl⟩)))))))).p;rw[ae.2.2] at ho;obtain⟨o1,n1,k1,o2,n2,k2,o3,n3,k3,o4,n4,k4,h⟩:=F4 (mv:=xd xh b.m) U hc hb.2 (λW u hW h=>DP W u h (Qm hW hb.1));exact zm140
 have H3:Hid (∀V,Below w.heap.size w V->∀i,i<q3->∃m gb o1 n1 k1 o2 n2 k2 o3 n3 k3 o4 n4 k4,p3=some ⟨gb,0,none⟩/\Bo V 68 (xd xh m) gb i o1 n1 k1 o2 n2 k2 o3 n3 k3 o4 n4 k4):=λV hV i hi=>by
  have I:=hT.later hV;obtain⟨b,J⟩:∃b,g.js[i]?=some b:=⟨_,Uq (by rw[<-e3,ad.2.1];exact hi)⟩;obtain⟨gb,ho,U,hc⟩:=ve (C:=IQ) (λx=>rfl) (show V.ownsRow 0 _ 5 (xa (a.f 3).o (a.f 3).n (a.f 3).c) (a.f 3).n (g.js.flatMap IQ) from hg.v3▸I.law.own 3) e3 J;have hb:=(I.at (x:=lZ b) (Ul (Wm (Wm (Wm (Wv (List.mem_map.2 ⟨b,UA J,rfl⟩))))))).p;rw[ad.2.2] at ho;obtain⟨o1,n1,k1,o2,n2,k2,o3,n3,k3,o4,n4,k4,h⟩:=F4 (mv:=xd xh b.m) U hc hb (λW u _ h=>DO W u h);exact zm140
 have HC:Hid (∀V,Below w.heap.size w V->(V.cell? ⟨lb,2,none⟩=some (xa p2 q2 r2)/\V.cell? ⟨lb,3,none⟩=some (xa p3 q3 r3)/\V.cell? ⟨lb,4,none⟩=some (xa p4 q4 r4))/\lb<V.heap.size):=λV hV=>by
  have hl:=(hT.later hV).law.lw;exact⟨⟨(EQ hl 2).trans (congrArg some aa.1),(EQ hl 3).trans (congrArg some ad.1),(EQ hl 4).trans (congrArg some ae.1)⟩,dK hl⟩
 clear hT hg e2 e3 e4 aa ad ae ax hM;go_in;go_wp2
 go_loopw [3] (λv wr=>∃i:Nat,i<=q2/\v=xd xh i/\Hid (Below w.heap.size w wr)) (λv _=>q2-(intOf v).toNat)
 .exact⟨0,Ux,rfl,XF⟩
 obtain⟨i,hi,rfl,HB⟩:=hrel;obtain⟨⟨c2,c3,c4⟩,ag⟩:=HC.out _ HB.out;rcases zc i q2 with⟨hlt,hin⟩|⟨hlt,hin⟩
 .obtain⟨m,gb,o1,n1,k1,o2,n2,k2,o3,n3,k3,o4,n4,k4,rfl,hb⟩:=H2.out _ HB.out i hlt;have b0:=hb.c0;have b1:=hb.c1;have b2:=hb.c2;have b3:=hb.c3;have b4:=hb.c4;have U:=hb.lt;have HBB:=gi wr (xi #[xj m,xa o1 n1 k1,xa o2 n2 k2,xa o3 n3 k3,xa o4 n4 k4] 118);have HBW:=fy (ir wr (xi #[xj m,xa o1 n1 k1,xa o2 n2 k2,xa o3 n3 k3,xa o4 n4 k4] 118));go_wp2_with fail;refine(hb.a1 _ HBW.out).mono ?_;generalize wr.alloc (xi #[xj m,xa o1 n1 k1,xa o2 n2 k2,xa o3 n3 k3,xa o4 n4 k4] 118)=W at *;exact zm18
 clear hlt hi;go_wp2_with fail;generalize wr=wS at *
 go_loopw [9] (λv wr=>∃i:Nat,i<=q4/\v=xd xh i/\Hid (Below w.heap.size w wr)) (λv _=>q4-(intOf v).toNat)
 .exact⟨0,Ux,rfl,HB⟩
 clear HB c2 c3 c4 ag;obtain⟨i,hi,rfl,HB⟩:=hrel;obtain⟨⟨c2,c3,c4⟩,ag⟩:=HC.out _ HB.out;rcases zc i q4 with⟨hlt,hin⟩|⟨hlt,hin⟩
 .obtain⟨m,gb,o1,n1,k1,o2,n2,k2,o3,n3,k3,o4,n4,k4,rfl,hb⟩:=H4.out _ HB.out i hlt;have b0:=hb.c0;have b1:=hb.c1;have b2:=hb.c2;have b3:=hb.c3;have b4:=hb.c4;have U:=hb.lt;have HBB:=gi wr (xi #[xd xh m,xa o1 n1 k1,xa o2 n2 k2,xa o3 n3 k3,xa o4 n4 k4] 120);have HBW:=fy (ir wr (xi #[xd xh m,xa o1 n1 k1,xa o2 n2 k2,xa o3 n3 k3,xa o4 n4 k4] 120));go_wp2_with fail;refine(hb.a1 _ HBW.out).mono ?_;generalize wr.alloc (xi #[xd xh m,xa o1 n1 k1,xa o2 n2 k2,xa o3 n3 k3,xa o4 n4 k4] 120)=W at *;exact zm18
 clear hlt hi;go_wp2_with fail;generalize wr=wS at *
 go_loopw [15] (λv wr=>∃i:Nat,i<=q3/\v=xd xh i/\Hid (Below w.heap.size w wr)) (λv _=>q3-(intOf v).toNat)
 .exact⟨0,Ux,rfl,HB⟩
 clear HB c2 c3 c4 ag;obtain⟨i,hi,rfl,HB⟩:=hrel;obtain⟨⟨c2,c3,c4⟩,ag⟩:=HC.out _ HB.out;rcases zc i q3 with⟨hlt,hin⟩|⟨hlt,hin⟩
 .obtain⟨m,gb,o1,n1,k1,o2,n2,k2,o3,n3,k3,o4,n4,k4,rfl,hb⟩:=H3.out _ HB.out i hlt;have b0:=hb.c0;have b1:=hb.c1;have b2:=hb.c2;have b3:=hb.c3;have b4:=hb.c4;have U:=hb.lt;have HBB:=gi wr (xi #[xd xh m,xa o1 n1 k1,xa o2 n2 k2,xa o3 n3 k3,xa o4 n4 k4] 123);have HBW:=fy (ir wr (xi #[xd xh m,xa o1 n1 k1,xa o2 n2 k2,xa o3 n3 k3,xa o4 n4 k4] 123));go_wp2_with fail;refine(hb.a1 _ HBW.out).mono ?_;generalize wr.alloc (xi #[xd xh m,xa o1 n1 k1,xa o2 n2 k2,xa o3 n3 k3,xa o4 n4 k4] 123)=W at *;exact zm18
 clear hlt hi;go_wp2;go_ret;exact⟨rfl,HB.out⟩
end
open Go.Sort
section
variable{lb N:Nat}{X Y:List Th}{w0 w:Uc}{a:La}{g:Gs}{x:Wb}
def LH.parted(h:LH lb w0 w (j7 x::Y)):LH lb w0 w (lq 0 x.A x.t.acts::ug x.F (gX x.t.fl)::(lV x.rv x.t.nx++(wK x.X x.rv::Y))):=by
 have ht:RX w 0 x.A x.F x.X x.t x.rv:=(h.at (Um ..)).p;have ak:x.rv.length=x.t.nx.length:=ht.rl;have hF:w.ownsRow 0 3 1 x.F (gX x.t.fl).length (gX x.t.fl):=by unfold gX;rw[UL];exact ht.fl
 have hX:w.ownsRow 0 33 1 x.X x.rv.length x.rv:=by rw[ak];exact ht.nx
 have row:∀{j v r},x.rv[j]?=some v->x.t.nx[j]?=some r->w.ownsRow 0 3 1 v (gX r).length (gX r):=λ{j v r} U h2=>by
  obtain⟨g,c,k1,k2⟩:=ht.rows j r h2;rw[U] at k1;cases k1;unfold gX at k2|-;rw[UL];exact k2
 have ok:∀{e:Nat} {v:Ud} {L:TW},w.ownsRow 0 e 1 v L.length L->R1 w ⟨λk=>v.ownBlock=some k,λw=>w.ownsRow 0 e 1 v L.length L⟩:=λhr=>⟨hr,λk J=>(gJ hr k J).2,λw' hs J=>jZ hr J⟩
 have hp:=h.th.part (new:=lq 0 x.A x.t.acts::ug x.F (gX x.t.fl)::(lV x.rv x.t.nx++[wK x.X x.rv])) (λy I=>?_) ?_ (λy I k J=>?_) h.hB
 .have e:lq 0 x.A x.t.acts::ug x.F (gX x.t.fl)::(lV x.rv x.t.nx++[wK x.X x.rv])++Y=lq 0 x.A x.t.acts::ug x.F (gX x.t.fl)::(lV x.rv x.t.nx++(wK x.X x.rv::Y)):=by simp only[UE,UI,Vy]
  exact⟨e▸hp,h.bel,h.lo⟩
 .rcases List.mem_cons.1 I with rfl|I
  .exact GS ht.acts
  rcases List.mem_cons.1 I with rfl|I
  .exact ok hF
  rcases List.mem_append.1 I with I|I
  .obtain⟨j,v,r,U,h2,rfl⟩:=qi I;exact ok (row U h2)
  rw[List.mem_singleton.1 I];exact ok hX
 .have ae:∀{e:Nat} {v:Ud} {n:Nat} {xs:TW},w.ownsRow 0 e 1 v n xs->e≠9->∀k,x.A.ownBlock=some k->¬ v.ownBlock=some k:=λhr aj k J hv=>vO ht.acts hr (λe=>aj e.symm) J hv
  refine List.pairwise_cons.2 ⟨λy I k J=>?_,List.pairwise_cons.2 ⟨λy I k J=>?_,List.pairwise_append.2 ⟨?_,VK,λy I z hz k J=>?_⟩⟩⟩
  .rcases List.mem_cons.1 I with rfl|I
   .exact ae ht.fl zd k J
   rcases List.mem_append.1 I with I|I
   .obtain⟨j,v,r,U,h2,rfl⟩:=qi I;exact ae (row U h2) zd k J
   rw[List.mem_singleton.1 I];exact ae ht.nx zd k J
  .rcases List.mem_append.1 I with I|I
   .obtain⟨j,v,r,U,h2,rfl⟩:=qi I;exact λhv=>ht.rf v (UA U) ((show v.ownBlock=some k from hv).trans (show x.F.ownBlock=some k from J).symm)
   rw[List.mem_singleton.1 I];exact λhv=>vO ht.fl ht.nx zd J hv
  .show(List.zipWith _ _ _).Pairwise _;rw[Xr];intro i j hi hj ai k U h2;rw[List.getElem_zipWith] at U h2;rw[RH] at hi hj;exact Xr.1 ht.rr i j zo zo ai ((show _=some k from U).trans (show _=some k from h2).symm)
  rw[List.mem_singleton.1 hz];obtain⟨j,v,r,U,h2,rfl⟩:=qi I;exact λhv=>vO (row U h2) ht.nx zd J hv
 rcases List.mem_cons.1 I with rfl|I
 .exact Rf J
 rcases List.mem_cons.1 I with rfl|I
 .exact Rm (Rf J)
 rcases List.mem_append.1 I with I|I
 .obtain⟨j,v,r,U,h2,rfl⟩:=qi I;exact Rm (Rm (Rm ⟨v,UA U,J⟩))
 rw[List.mem_singleton.1 I] at J;exact Rm (Rm (Rf J))
def QN(hg:SE N a g)(U:LH lb w0 w (a.T lb::(X++g.T)))(hi:i<(a.f 5).n):∃I J xo xc ko kc m,(a.f 5).o=some ⟨I,0,none⟩/\(a.f 6).o=some ⟨J,0,none⟩/\(I<w.heap.size/\J<w.heap.size)/\w.cell? (TU I i)=some (xa xo m xc)/\w.cell? (TU J i)=some (xa ko m kc)/\∀W,XL w W->Calls prog 61 #[xa xo m xc,xa ko m kc] W λe w'=>e=xm (xn true)/\XL W w':=by
 obtain⟨_,e5,e6,_⟩:=hg.len U.law;have hx:=Uq (l:=g.xs) (i:=i) zo;have o5:w.ownsRow 0 25 1 (xa (a.f 5).o (a.f 5).n (a.f 5).c) (a.f 5).n (a.f 5).x:=U.law.own 5;have o6:w.ownsRow 0 25 1 (xa (a.f 6).o (a.f 6).n (a.f 6).c) (a.f 6).n (a.f 6).x:=U.law.own 6;obtain⟨I,h1,h2,h3⟩:=gT o5 hi;obtain⟨J,k1,k2,k3⟩:=gT o6 (show i<(a.f 6).n from zo);rw[hg.v5,UG,hx] at h3;rw[hg.v6,UG,hx] at k3;have hp:Wt.P 0 (g.xs[i]'zo) w:=(U.at (x:=qy 0 (g.xs[i]'zo)) (Ul (Wm (Wm (Wm (Wm (Wm (Wv (List.mem_map.2 ⟨_,UY _,rfl⟩))))))))).p;exact⟨I,J,_,_,_,_,_,h1,k1,⟨h2,k2⟩,h3,k3,λW hW=>og rfl (gq hp.l hW) (gq hp.k hW) hp.few⟩
def QL(hg:SE N a g)(hT:LH lb w0 w (a.T lb::(X++g.T)))(hi:i<(a.f 7).n):∃J qb ao ac fo fc no nc bo bc go gd ho hd na nf nn,(a.f 7).o=some ⟨J,0,none⟩/\(a.f 8).o=some ⟨qb,0,none⟩/\(J<w.heap.size/\qb<w.heap.size)/\(w.cell? (TU J (i*3))=some (xa ao na ac)/\w.cell? (TU J (i*3+1))=some (xa fo nf fc)/\w.cell? (TU J (i*3+2))=some (xa no nn nc))/\(w.cell? (TU qb (i*3))=some (xa bo na bc)/\w.cell? (TU qb (i*3+1))=some (xa go nf gd)/\w.cell? (TU qb (i*3+2))=some (xa ho nn hd))/\∀W,XL w W->Calls prog 62 #[.agg #[xa ao na ac,xa fo nf fc,xa no nn nc],.agg #[xa bo na bc,xa go nf gd,xa ho nn hd]] W λe w'=>e=xm (xn true)/\XL W w':=by
 obtain⟨_,_,_,e7,e8⟩:=hg.len hT.law;have hl:g.ws.length=g.us.length*2:=by have:=congrArg List.length hg.tt;rw[UL,(DK).2] at this;exact this
 have hx:=Uq (l:=g.ws) (i:=i) zo;have hz:=Uq (l:=g.us) (i:=i / 2) zo;have aw:i%2<2:=Nat.mod_lt _ zd;have hd:i / 2*2+i%2=i:=Nat.div_add_mod' i 2;obtain⟨J,g1,g2,g3⟩:=ve (C:=λx:Wb=>[x.A,x.F,x.X]) (λx=>rfl) (show w.ownsRow 0 _ 3 (xa (a.f 7).o (a.f 7).n (a.f 7).c) (a.f 7).n (g.ws.flatMap λx=>[x.A,x.F,x.X]) from hg.v7▸hT.law.own 7) e7 hx;have he:w.ownsRow 0 36 3 (xa (a.f 8).o (a.f 8).n (a.f 8).c) (a.f 8).n (a.f 8).x:=hT.law.own 8;rw[hg.v8] at he;have ht:(g.ws[i]'zo).t=(g.us[i / 2]'zo).t:=by
  have e1:=yI (C:=λx:Wb=>[x.t,x.t]) (k:=2) (λx=>rfl) hz (i%2) aw;rw[hd,<-hg.tt,UG,hx] at e1;have:i%2=0\/i%2=1:=zo;rcases this with e|e<;>(rw[e] at e1;exact Ue e1)
 have mw:∀{y:Wb},y∈g.ws->j7 y∈g.T:=λhy=>Wm (Wm (Wm (Wm (Wm (Wv (List.mem_map.2 ⟨_,hy,rfl⟩))))))
 have mu:∀{y:Wb},y∈g.us->j7 y∈g.T:=λhy=>Wm (Wm (Wm (Wm (Wm (Wm (List.mem_map.2 ⟨_,hy,rfl⟩))))))
 have tx:RX w 0 (g.ws[i]'zo).A (g.ws[i]'zo).F (g.ws[i]'zo).X (g.ws[i]'zo).t (g.ws[i]'zo).rv:=(hT.at (Ul (Wm (mw (UY _))))).p;have tz:RX w 0 (g.us[i / 2]'zo).A (g.us[i / 2]'zo).F (g.us[i / 2]'zo).X (g.us[i / 2]'zo).t (g.us[i / 2]'zo).rv:=(hT.at (Ul (Wm (mu (UY _))))).p;have hR:=hg.rt (g.us[i / 2]'zo) (UY _);have hq:∃q,(a.f 8).o=some ⟨q,0,none⟩/\q<w.heap.size/\∀m,m<3->w.cell? (TU q (i*3+m))=[(g.us[i / 2]'zo).A,(g.us[i / 2]'zo).F,(g.us[i / 2]'zo).X][m]? :=by
  obtain⟨_,⟨k1,k2⟩|⟨q,cap,cur,hv,_,I,hle,_,hcs,U⟩⟩:=he
  .omega
  have ay:(a.f 8).o=some ⟨q,0,none⟩:=by injection hv
  refine⟨q,ay,dK I,λm hm=>?_⟩;have e1:=yI (C:=λx:Wb=>yZ [x,x]) (k:=6) (λx=>rfl) hz (i%2*3+m) zo;have e2:i / 2*6+(i%2*3+m)=i*3+m:=zo;rw[EQ I,<-UN];rw[e2,<-U,U8,Uh zo] at e1;rw[e1];have:i%2=0\/i%2=1:=zo;have ax:m=0\/m=1\/m=2:=zo;rcases this with e|e<;>rw[e]<;>rcases ax with rfl|rfl|rfl<;>rfl
 obtain⟨qb,q1,q2,q3⟩:=hq;generalize g.ws[i]'zo=x at *;generalize g.us[i / 2]'zo=z at *;obtain⟨ao,ac,fo,fc,no,nc,eA,eF,eX⟩:=zX tx;obtain⟨bo,bc,go,gd,ho,av,fA,fF,fX⟩:=zX tz;rw[ht] at eA eF eX tx;rw[eA,eF,eX] at g3 tx;rw[fA,fF,fX] at q3 tz;exact⟨J,qb,ao,ac,fo,fc,no,nc,bo,bc,go,gd,ho,av,_,_,_,g1,q1,⟨g2,q2⟩,⟨g3 0 zd,g3 1 zd,g3 2 zd⟩,⟨q3 0 zd,q3 1 zd,q3 2 zd⟩,λW hW=>yP (tx.later hW) (tz.later hW) hR.small⟩
def Q6.rest(hg:SE N a g)(hu:Up a a' bs js rs)(hn:bs.length+js.length+rs.length<=g.xs.length+103*g.ws.length)(hT:LH lb w0 w (a'.T lb::(bs.map kS++(js.map lZ++(rs.map nX++(X++({g with xs:=[],ws:=[],us:=[]}:Gs).T)))))):
  Q6 lb X w0 ((((w.setCell (TU lb 5) TV).setCell (TU lb 6) TV).setCell (TU lb 7) TV).setCell (TU lb 8) TV) N:=by
 have aa:w.grownBy ((((w.setCell (TU lb 5) TV).setCell (TU lb 6) TV).setCell (TU lb 7) TV).setCell (TU lb 8) TV) (some lb):=(((gp _ _ _ _).trans (gp _ _ _ _)).trans (gp _ _ _ _)).trans (gp _ _ _ _);have U:=hT.law;obtain⟨c,hc⟩:∃c:La,c=⟨a'.M,λi=>if i=5\/i=6\/i=7\/i=8 then ⟨none,0,0,[]⟩ else a'.f i⟩:=⟨_,rfl⟩;have f0:∀i,i=5\/i=6\/i=7\/i=8->c.f i=⟨none,0,0,[]⟩:=λi h=>by rw[hc];exact Uh h
 have f1:∀i,¬ (i=5\/i=6\/i=7\/i=8)->c.f i=a'.f i:=λi h=>by rw[hc];exact T' h
 have hS:∀i k,(c.f i).v.ownBlock=some k->c.f i=a'.f i:=λi k h=>by
  by_cases e:i=5\/i=6\/i=7\/i=8
  .rw[f0 i e] at h;cases h
  exact f1 i e
 have aj:c.P lb ((((w.setCell (TU lb 5) TV).setCell (TU lb 6) TV).setCell (TU lb 7) TV).setCell (TU lb 8) TV):=by
  refine⟨?_,λi=>?_,λi j k ak h1 J=>?_⟩
  .rw[hc];exact gj (gj (gj (gj U.lw 5 _) 6 _) 7 _) 8 _
  .by_cases e:i=5\/i=6\/i=7\/i=8
   .rw[f0 i e];exact XG
   rw[f1 i e];exact gy (U.own i) aa (Rm (λe=>gz (U.own i) e U.lw (BG)))
  have e1:=hS i k h1;have e2:=hS j k J;rw[e1] at h1;rw[e2] at J;exact U.ne i j k ak h1 J
 have J:=hT.turn1 (R0.grown aa (Rf rfl)) (La.ok aj) (λk hk=>Rf (hk.imp id (λ⟨i,e⟩=>⟨i,by have e1:=hS i k e;rw[e1] at e;exact e⟩)));have e:=λi (h:¬ (i=5\/i=6\/i=7\/i=8))=>congrArg Sl.x (f1 i h)
 have z:=λi (h:i=5\/i=6\/i=7\/i=8)=>congrArg Sl.x (f0 i h)
 have hM:c.M=a'.M:=by rw[hc]
 have:=hg.nb;have I:=hg.up (N':=N+bs.length+js.length+rs.length) hu (XH);have:=hu.M;exact⟨c,{g with bs:=g.bs++bs,js:=g.js++js,rs:=g.rs++rs,xs:=[],ws:=[],us:=[]},⟨(e 0 zd).trans I.v0,(e 2 zd).trans I.v2,(e 3 zd).trans I.v3,(e 4 zd).trans I.v4,z 5 zd,z 6 zd,z 7 zd,z 8 zd,rfl,hM.trans I.M,by show c.M+0+103*0<=N;omega,λx h=>(by cases h),hg.nd,hg.ev⟩,J.prg⟩
end
section
variable{lb N:Nat}{X:List Th}{w0 w:Uc}{a:La}{g:Gs}
def Oc(hg:SE N a g)(hT:LH lb w0 w (a.T lb::(X++g.T)))(hE:EV w0)(hN:N<=400000000):
  Calls prog 37 #[xk (some ⟨lb,0,none⟩)] w λe w'=>qR lb X w0 N w' e:=by
 obtain⟨_,e5,e6,e7,e8⟩:=hg.len hT.law;have cw:=hg.nb;obtain⟨p5,q5,r5,aA⟩:∃o n c,(a.f 5).v=xa o n c/\(a.f 5).n=n/\(a.f 5).o=o:=⟨_,_,_,rfl,rfl,rfl⟩;obtain⟨p6,q6,r6,aY⟩:∃o n c,(a.f 6).v=xa o n c/\(a.f 6).n=n/\(a.f 6).o=o:=⟨_,_,_,rfl,rfl,rfl⟩;obtain⟨p7,q7,r7,aB⟩:∃o n c,(a.f 7).v=xa o n c/\(a.f 7).n=n/\(a.f 7).o=o:=⟨_,_,_,rfl,rfl,rfl⟩;obtain⟨p8,q8,r8,a7⟩:∃o n c,(a.f 8).v=xa o n c/\(a.f 8).n=n/\(a.f 8).o=o:=⟨_,_,_,rfl,rfl,rfl⟩;have cp:q6=q5:=by rw[<-aY.2.1,<-aA.2.1];omega
 have cr:q8=q7:=by rw[<-a7.2.1,<-aB.2.1];omega
 subst cp;subst cr;have n6:q6=g.xs.length:=by rw[<-aA.2.1];omega
 have n8:q8=g.ws.length:=by rw[<-aB.2.1];omega
 have hq6:q6+103*q8<=400000000:=zo;have HC:Hid (∀(c:La) V,c.lw lb V->(∀i,i≠2->i≠3->i≠4->c.f i=a.f i)->(V.cell? ⟨lb,5,none⟩=some (xa p5 q6 r5)/\V.cell? ⟨lb,6,none⟩=some (xa p6 q6 r6)/\V.cell? ⟨lb,7,none⟩=some (xa p7 q8 r7)/\V.cell? ⟨lb,8,none⟩=some (xa p8 q8 r8))/\lb<V.heap.size):=λc V hl hf=>
  ⟨⟨(EQ hl 5).trans (congrArg some (by rw[hf 5 zd zd zd];exact aA.1)),(EQ hl 6).trans (congrArg some (by rw[hf 6 zd zd zd];exact aY.1)),(EQ hl 7).trans (congrArg some (by rw[hf 7 zd zd zd];exact aB.1)),(EQ hl 8).trans (congrArg some (by rw[hf 8 zd zd zd];exact a7.1))⟩,dK hl⟩
 have HX:Hid (∀V,Below w.heap.size w V->∀i,i<q6->∃gb qb xo xc ko kc m,p5=some ⟨gb,0,none⟩/\p6=some ⟨qb,0,none⟩/\(gb<V.heap.size/\qb<V.heap.size)/\V.cell? ⟨gb,i,none⟩=some (xa xo m xc)/\V.cell? ⟨qb,i,none⟩=some (xa ko m kc)/\∀W,Below V.heap.size V W->Calls prog 61 #[xa xo m xc,xa ko m kc] W λe w'=>e=xm (xn true)/\Below W.heap.size W w'):=λV hV i hi=>by
  have:=QN hg (hT.later hV) (i:=i) (by rw[aA.2.1];exact hi)
  rwa [aA.2.2,aY.2.2] at this
 have bE:Hid (∀V,Below w.heap.size w V->∀i,i<q8->∃gb qb ao ac fo fc no nc bo bc go gd ho hd na nf nn,p7=some ⟨gb,0,none⟩/\p8=some ⟨qb,0,none⟩/\(gb<V.heap.size/\qb<V.heap.size)/\(V.cell? ⟨gb,i*3,none⟩=some (xa ao na ac)/\V.cell? ⟨gb,i*3+1,none⟩=some (xa fo nf fc)/\V.cell? ⟨gb,i*3+2,none⟩=some (xa no nn nc))/\(V.cell? ⟨qb,i*3,none⟩=some (xa bo na bc)/\V.cell? ⟨qb,i*3+1,none⟩=some (xa go nf gd)/\V.cell? ⟨qb,i*3+2,none⟩=some (xa ho nn hd))/\∀W,Below V.heap.size V W->Calls prog 62 #[.agg #[xa ao na ac,xa fo nf fc,xa no nn nc],.agg #[xa bo na bc,xa go nf gd,xa ho nn hd]] W λe w'=>e=xm (xn true)/\Below W.heap.size W w'):=λV hV i hi=>by
  have:=QL hg (hT.later hV) (i:=i) (by rw[aB.2.1];exact hi)
  rwa [aB.2.2,a7.2.2] at this
 obtain⟨R,hR,aV⟩:∃R,(X++({g with xs:=[],ws:=[],us:=[]}:Gs).T).Sublist R/\LH lb w0 w (a.T lb::(g.xs.map (qy 0)++(g.ws.map j7++R))):=⟨g.us.map j7++(X++({g with xs:=[],ws:=[],us:=[]}:Gs).T),Xl ..,hT.prg⟩;have bO:∀x∈g.ws,Fn x.t:=λx hx=>by
  have hm:x.t∈g.us.flatMap λx=>[x.t,x.t]:=hg.tt▸List.mem_map.2 ⟨x,hx,rfl⟩
  obtain⟨u,hu,hm⟩:=List.mem_flatMap.1 hm;have:x.t=u.t:=by simpa using hm
  rw[this];exact hg.rt u hu
 have HG:=hg;have cc:=fy bO;have bj:=fy (Rj aA.2 hg.v5);have bm:=fy (Rj aB.2 hg.v7);have N6:=fy n6;have N8:=fy n8;clear hT hg bO aA aY aB a7 e5 e6 e7 e8 cw n6 n8;go_in;go_wp2
 go_loopw [3,4] (λo v wr=>∃i:Nat,i<=q6/\o=xn true/\v=xd xh i/\Hid (Below w.heap.size w wr)) (λ_ v _=>q6-(intOf v).toNat)
 .exact⟨0,Ux,rfl,rfl,XF⟩
 obtain⟨i,hi,rfl,rfl,HB⟩:=hrel;obtain⟨⟨c5,c6,c7,c8⟩,ai⟩:=HC.out a wr (aV.later HB.out).law.lw (λ_ _ _ _=>rfl);rcases zc i q6 with⟨hlt,hin⟩|⟨hlt,hin⟩
 .obtain⟨gb,qb,xo,xc,ko,kc,m,rfl,rfl,⟨az,bu⟩,g1,q1,aj⟩:=HX.out wr HB.out i hlt;have aH:=fy (λd os=>aj _ (U3 wr d os));have k5:=λd os=>UW c5 d os
  have k6:=λd os=>UW c6 d os
  have kg:=λd os=>UW g1 d os
  have kq:=λd os=>UW q1 d os
  have kl:∀d os,lb<(Go.Sort.grow (redrawn wr d) os).heap.size:=λd os=>Uw ai (U3 wr d os).size
  have gl:∀d os,gb<(Go.Sort.grow (redrawn wr d) os).heap.size:=λd os=>Uw az (U3 wr d os).size
  have ql:∀d os,qb<(Go.Sort.grow (redrawn wr d) os).heap.size:=λd os=>Uw bu (U3 wr d os).size
  clear aj;go_wp2_with fail;refine VY zk zk ?_
  repeat (quiet_step (first|(go_at_call 61;exact Xj (aH.out _ _))))
  refine Xo ?_;intro w1 bA;obtain⟨⟨dq,bC⟩,av⟩:=bA;have HB1:Hid (Below w.heap.size w w1):=MC HB.out (by rw[av];exact U3 wr dq bC);clear av k5 k6 kg kq kl gl ql aH;exact zm175
 clear hlt hi;go_wp2_with fail;generalize wr=wS at *
 go_loopw [3,6] (λo v wr=>∃i:Nat,i<=q8/\o=xn true/\v=xd xh i/\Hid (Below w.heap.size w wr)) (λ_ v _=>q8-(intOf v).toNat)
 .exact⟨0,Ux,rfl,rfl,HB⟩
 clear HB c5 c6 c7 c8 ai hin;obtain⟨i,hi,rfl,rfl,HB⟩:=hrel;obtain⟨⟨c5,c6,c7,c8⟩,ai⟩:=HC.out a wr (aV.later HB.out).law.lw (λ_ _ _ _=>rfl);rcases zc i q8 with⟨hlt,hin⟩|⟨hlt,hin⟩
 .obtain⟨gb,qb,ao,ac,fo,fc,no,nc,bo,bc,go,gd,ho,hd,na,nf,nn,rfl,rfl,⟨az,bu⟩,⟨g0,g1,g2⟩,⟨q0,q1,q2⟩,aj⟩:=bE.out wr HB.out i hlt;have aH:=fy (λd os=>aj _ (U3 wr d os));have k7:=λd os=>UW c7 d os
  have k8:=λd os=>UW c8 d os
  have y0:=λd os=>UW g0 d os
  have y1:=λd os=>UW g1 d os
  have y2:=λd os=>UW g2 d os
  have z0:=λd os=>UW q0 d os
  have z1:=λd os=>UW q1 d os
  have z2:=λd os=>UW q2 d os
  have kl:∀d os,lb<(Go.Sort.grow (redrawn wr d) os).heap.size:=λd os=>Uw ai (U3 wr d os).size
  have gl:∀d os,gb<(Go.Sort.grow (redrawn wr d) os).heap.size:=λd os=>Uw az (U3 wr d os).size
  have ql:∀d os,qb<(Go.Sort.grow (redrawn wr d) os).heap.size:=λd os=>Uw bu (U3 wr d os).size
  clear aj;go_wp2_with fail;refine VY zk zk ?_
  repeat (quiet_step (first|(go_at_call 62;exact Xj (aH.out _ _))))
  refine Xo ?_;intro w1 bA;obtain⟨⟨dq,bC⟩,av⟩:=bA;have HB1:Hid (Below w.heap.size w w1):=MC HB.out (by rw[av];exact U3 wr dq bC);clear av k7 k8 y0 y1 y2 z0 z1 z2 kl gl ql aH;exact zm175
 have bJ:=aV.later HB.out;clear hlt hi HB HX bE aV;go_wp2_with fail;generalize wr=wS at *
 go_loopw [8] (λv wr=>∃(i:Nat)(a':La)(bs:List Bk),i<=q6/\v=xd xh i/\Hid (Up a a' bs [] []/\bs.length=i/\LH lb w0 wr (a'.T lb::((g.xs.drop i).map (qy 0)++(g.ws.map j7++(bs.map kS++R)))))) (λv _=>q6-(intOf v).toNat)
 .exact⟨0,a,[],Ux,rfl,Up.refl a,rfl,bJ.prm⟩
 clear bJ c5 c6 c7 c8 ai hin;obtain⟨i,a1,I,hi,rfl,HI⟩:=hrel;obtain⟨⟨c5,c6,c7,c8⟩,ai⟩:=HC.out a1 wr HI.out.2.2.law.lw (λi h2 h3 h4=>HI.out.1.f i h2 h3 h4);rcases zc i q6 with⟨hlt,hin⟩|⟨hlt,hin⟩
 .have aD:i<g.xs.length:=by rw[<-N6.out];exact hlt
  have h5:=HI.out.2.2.law.own 5;rw[HI.out.1.f 5 zd zd zd,bj.out.2] at h5;replace h5:wr.ownsRow 0 25 1 (xa (a.f 5).o (a.f 5).n (a.f 5).c) (a.f 5).n (g.xs.map Wt.l):=h5;obtain⟨gb,aK,az,ag⟩:=gT h5 (show i<(a.f 5).n by rw[bj.out.1.1];exact hlt);rw[bj.out.1.2] at aK;subst aK;rw[UG,Uq aD] at ag;have hT:=HI.out.2.2;rw[UK aD,UZ] at hT;generalize g.xs[i]=x at *;obtain⟨L,xo,xc,ko,kc⟩:=x;have hx:Wt.P 0 ⟨L,xo,xc,ko,kc⟩ wr:=(hT.at (x:=qy 0 ⟨L,xo,xc,ko,kc⟩) zp).p;obtain⟨m,hm⟩:∃m,m=L.length:=⟨_,rfl⟩;replace ag:wr.cell? ⟨gb,i,none⟩=some (xa xo m xc):=by rw[hm];exact ag
  have J:=MJ (Y:=(g.xs.drop (i+1)).map (qy 0)++(g.ws.map j7++(I.map kS++R))) (lo:=xo) (n:=m) (lc:=xc) (xs:=gU L) (y:=qy 0 ⟨L,xo,xc,ko,kc⟩) hT.prm hE (HI.out.1.sm (HG.sm hN) (by have:=HI.out.2.1;simp;omega)) (by rw[hm];exact hx.l) (λk hk=>Rf (by rw[hm] at hk;exact hk)) (by have:=hx.few;rw[hm];exact UP this zd);have HU:=fy (Rj HI.out.1 HI.out.2.1);clear hT hx hm h5 HI;go_wp2_with fail;refine J.mono ?_;clear J c5 c6 c7 c8 ag az ai;rintro e w2 ⟨rfl,a2,b2,_,aM,ay⟩;have HN:Hid (Up a a2 (I++[b2]) [] []/\(I++[b2]).length=i+1/\LH lb w0 w2 (a2.T lb::((g.xs.drop (i+1)).map (qy 0)++(g.ws.map j7++((I++[b2]).map kS++R))))):=⟨HU.out.1.trans aM,by rw[Ur,HU.out.2];rfl,ay.prm⟩;clear aM ay HU;go_wp2
  go_roundw
  .exact⟨i+1,a2,I++[b2],zo,by go_num,HN⟩
  simp[intOf];omega
 have aP:Hid (Up a a1 I [] []/\I.length=q6/\LH lb w0 wr (a1.T lb::(g.ws.map j7++(I.map kS++R)))):=by
  obtain⟨h1,h2,h3⟩:=HI.out;rw[Wj (by have:=N6.out;omega)] at h3;exact⟨h1,zo,h3⟩
 clear hlt hi HI;go_wp2_with fail;generalize wr=wS at *
 go_loopw [9] (λv wr=>∃(i:Nat)(a':La)(bs:List Bk)(js:List Ik)(rs:List Rk),i<=q8/\v=xd xh i/\Hid (Up a a' bs js rs/\bs.length+js.length+rs.length<=q6+103*i/\LH lb w0 wr (a'.T lb::((g.ws.drop i).map j7++(bs.map kS++(js.map lZ++(rs.map nX++R))))))) (λv _=>q8-(intOf v).toNat)
 .exact⟨0,a1,I,[],[],Ux,rfl,aP.out.1,by have:=aP.out.2.1;simp;omega,aP.out.2.2.prm⟩
 clear aP c5 c6 c7 c8 ai hin;obtain⟨i,a1,I,ar,U,hi,rfl,HI⟩:=hrel;obtain⟨⟨c5,c6,c7,c8⟩,ai⟩:=HC.out a1 wr HI.out.2.2.law.lw (λi h2 h3 h4=>HI.out.1.f i h2 h3 h4);rcases zc i q8 with⟨hlt,hin⟩|⟨hlt,hin⟩
 .have aD:i<g.ws.length:=by rw[<-N8.out];exact hlt
  have h7:=HI.out.2.2.law.own 7;rw[HI.out.1.f 7 zd zd zd,bm.out.2] at h7;obtain⟨gb,aK,az,ag⟩:=ve (C:=λx:Wb=>[x.A,x.F,x.X]) (λx=>rfl) (show wr.ownsRow 0 36 3 (xa (a.f 7).o (a.f 7).n (a.f 7).c) (a.f 7).n (g.ws.flatMap λx=>[x.A,x.F,x.X]) from h7) (by rw[bm.out.1.1];exact N8.out) (Uq aD);rw[bm.out.1.2] at aK;subst aK;have hT:=HI.out.2.2;rw[UK aD,UZ] at hT;have ax:=cc.out _ (UY aD);generalize g.ws[i]=x at *;have tx:RX wr 0 x.A x.F x.X x.t x.rv:=(hT.at (x:=j7 x) zp).p;have bI:Hid (x.rv.length=x.t.nx.length/\∀(j:Nat)(r:T5),x.t.nx[j]?=some r->∃g c,x.rv[j]?=some (xa (some ⟨g,0,none⟩) r.length c)):=⟨tx.rl,λj r hr=>by obtain⟨g,c,k1,_⟩:=tx.rows j r hr;exact⟨g,c,k1⟩⟩;obtain⟨ao,ac,fo,fc,no,nc,eA,eF,eX⟩:=zX tx;obtain⟨na,ea⟩:∃n,n=x.t.acts.length:=⟨_,rfl⟩;obtain⟨nf,ef⟩:∃n,n=x.t.fl.length:=⟨_,rfl⟩;obtain⟨nn,en⟩:∃n,n=x.t.nx.length:=⟨_,rfl⟩;rw[<-ea] at eA;rw[<-ef] at eF;rw[<-en] at eX;rw[eA,eF,eX] at ag;have g0:wr.cell? ⟨gb,i*3,none⟩=some (xa ao na ac):=ag 0 zd;have g1:wr.cell? ⟨gb,i*3+1,none⟩=some (xa fo nf fc):=ag 1 zd;have g2:wr.cell? ⟨gb,i*3+2,none⟩=some (xa no nn nc):=ag 2 zd;have hP:=(hT.prm (M:=j7 x::(a1.T lb::((g.ws.drop (i+1)).map j7++(I.map kS++(ar.map lZ++(U.map nX++R))))))).parted;rw[eA,eF,eX] at hP;have hn100:nn<=100:=by rw[en];exact ax.n100
  have hna:na<=6:=by rw[ea];exact ax.acts.n6
  have hnf:nf<=100:=by rw[ef,ax.fl];exact ax.n100
  have cb:Hid (∀r∈x.t.nx,r.length<=6):=λr hr=>by rw[(ax.rs r hr).1];exact ax.acts.n6
  have br:=(hP.boxed 36 #[xa ao na ac,xa fo nf fc,xa no nn nc]).prm (M:=a1.T lb::lq 0 (xa ao na ac) x.t.acts::(ug (xa fo nf fc) (gX x.t.fl)::(lV x.rv x.t.nx++(wK (xa no nn nc) x.rv::iF wr.heap.size 36 #[xa ao na ac,xa fo nf fc,xa no nn nc]::((g.ws.drop (i+1)).map j7++(I.map kS++(ar.map lZ++(U.map nX++R))))))));have J:=fy (MJ br hE (HI.out.1.sm (HG.sm hN) (show 400000000+I.length+ar.length+U.length<=1000000000 by have:=HI.out.2.1;omega)) (br.row ea zp) (λk hk=>hk) zo);have HU:=fy (Rj HI.out.1 HI.out.2.1);have b':=fy ef;have bh:=fy en;clear hT ag tx ax eA eF eX hP br h7 ea ef en HI;go_wp2_with fail;refine J.out.mono ?_;clear J c5 c6 c7 c8 g0 g1 g2 ai az;generalize wr.alloc (xi #[xa ao na ac,xa fo nf fc,xa no nn nc] 36)=W at *;generalize wr.heap.size=bx at *;rintro e w2 ⟨rfl,a2,b2,_,aM,ay⟩;obtain⟨bc,bl⟩:=ay.bx (b:=bx) (ty:=36) (c:=#[xa ao na ac,xa fo nf fc,xa no nn nc]) zp;have hl1:=HU.out.2;have oF:w2.ownsRow 0 3 1 (xa fo nf fc) nf (gX x.t.fl):=by
   have h:w2.ownsRow 0 3 1 (xa fo nf fc) (gX x.t.fl).length (gX x.t.fl):=(ay.at (x:=ug (xa fo nf fc) (gX x.t.fl)) zp).p;have e:(gX x.t.fl).length=nf:=by unfold gX;rw[UL,b'.out]
   rw[e] at h;exact h
  have aW:=HU.out.1.trans aM;rw[Vo,Vo] at aW;have J:=fy (MH (Y:=lV x.rv x.t.nx++(wK (xa no nn nc) x.rv::iF bx 36 #[xa ao na ac,xa fo nf fc,xa no nn nc]::((g.ws.drop (i+1)).map j7++((I++[b2]).map kS++(ar.map lZ++(U.map nX++R)))))) (y:=ug (xa fo nf fc) (gX x.t.fl)) ay.prm (aW.sm (HG.sm hN) zs) oF (λk hk=>hk) zo);clear ay aM oF HU;go_wp2_with fail;refine J.out.mono ?_;clear J bc bl;rintro e w3 ⟨rfl,a3,b3,_,bN,bM⟩;have bG:Hid (Up a a3 (I++[b2]) (ar++[b3]) U/\LH lb w0 w3 (a3.T lb::((lV x.rv x.t.nx).drop 0++(wK (xa no nn nc) x.rv::iF bx 36 #[xa ao na ac,xa fo nf fc,xa no nn nc]::((g.ws.drop (i+1)).map j7++((I++[b2]).map kS++((ar++[b3]).map lZ++(U.map nX++R)))))))):=⟨by have:=aW.trans bN;rwa [Vo,Vo] at this,bM.prm⟩;clear bN bM aW;go_wp2_with fail
  rename Uc=>w3
  go_loopw [11] (λv wq=>∃(k:Nat)(a4:La)(ad:List Ik),k<=nn/\v=xd xh k/\Hid (ad.length=ar.length+1+k/\Up a a4 (I++[b2]) ad U/\LH lb w0 wq (a4.T lb::((lV x.rv x.t.nx).drop k++(wK (xa no nn nc) x.rv::iF bx 36 #[xa ao na ac,xa fo nf fc,xa no nn nc]::((g.ws.drop (i+1)).map j7++((I++[b2]).map kS++(ad.map lZ++(U.map nX++R))))))))) (λv _=>nn-(intOf v).toNat)
  .exact⟨0,a3,ar++[b3],Ux,rfl,zp,bG.out⟩
  clear bG;obtain⟨k,a4,ad,hk,rfl,HQ⟩:=hrel;obtain⟨aX,a8,ae⟩:=HQ.out;obtain⟨bc,bl⟩:=ae.bx (b:=bx) (ty:=36) (c:=#[xa ao na ac,xa fo nf fc,xa no nn nc]) zp;replace bc:wr.cell? ⟨bx,2,none⟩=some (xa no nn nc):=bc 2;have oX:wr.ownsRow 0 33 1 (xa no nn nc) nn x.rv:=by
   have h:wr.ownsRow 0 33 1 (xa no nn nc) x.rv.length x.rv:=(ae.at (x:=wK (xa no nn nc) x.rv) zp).p;have e:x.rv.length=nn:=bI.out.1.trans bh.out.symm;rw[e] at h;exact h
  have aj:=a8.sm (N':=1000000000) (HG.sm hN) (by rw[Ur,aX];simp;omega);have aI:=fy (Rj aX a8);rcases zc k nn with⟨hlk,hkn⟩|⟨hlk,hkn⟩
  .obtain⟨r,hr⟩:∃r,x.t.nx[k]?=some r:=⟨_,Uq (by rw[<-bh.out];exact hlk)⟩;obtain⟨rg,rc,bw⟩:=bI.out.2 k r hr;obtain⟨xg,cA,cy,bB⟩:=gT oX hlk;rw[bw] at bB;have cx:=cb.out r (UA hr);rw[LF bw hr,UE] at ae;obtain⟨rn,bq⟩:∃n,n=r.length:=⟨_,rfl⟩;rw[<-bq] at bB ae cx;have oR:wr.ownsRow 0 3 1 (xa (some ⟨rg,0,none⟩) rn rc) rn (gX r):=by
    have h:wr.ownsRow 0 3 1 (xa (some ⟨rg,0,none⟩) rn rc) (gX r).length (gX r):=(ae.at (x:=ug (xa (some ⟨rg,0,none⟩) rn rc) (gX r)) zp).p;have e:(gX r).length=rn:=by unfold gX;rw[UL,bq]
    rw[e] at h;exact h
   have J:=MH ae aj oR (λk hk=>hk) zo;subst cA;clear hr bw ae oR oX bq HQ aj a8 aX;go_wp2_with fail;refine J.mono ?_;clear J bc bl bB cy;rintro e w6 ⟨rfl,a6,b6,_,aN,aJ⟩;have HN:Hid ((ad++[b6]).length=ar.length+1+(k+1)/\Up a a6 (I++[b2]) (ad++[b6]) U/\LH lb w0 w6 (a6.T lb::((lV x.rv x.t.nx).drop (k+1)++(wK (xa (some ⟨xg,0,none⟩) nn nc) x.rv::iF bx 36 #[xa ao na ac,xa fo nf fc,xa (some ⟨xg,0,none⟩) nn nc]::((g.ws.drop (i+1)).map j7++((I++[b2]).map kS++((ad++[b6]).map lZ++(U.map nX++R)))))))):=⟨by rw[Ur,aI.out.1];rfl,by have:=aI.out.2.trans aN;rwa [Vo,Vo] at this,aJ.prm⟩;clear aN aJ aI;go_wp2
   go_roundw
   .exact⟨k+1,a6,ad++[b6],zo,by go_num,HN⟩
   simp[intOf];omega
  rw[Wj (by unfold lV;rw[RH];have:=bh.out;omega),Vy] at ae;have J:=MI ae aj oX (λk hk=>hk) zo;clear ae oX HQ aj a8;go_wp2_with fail;refine J.mono ?_;clear J bc bl;rintro e w6 ⟨rfl,a6,b6,_,aN,aJ⟩;have HN:Hid (Up a a6 (I++[b2]) ad (U++[b6])/\(I++[b2]).length+ad.length+(U++[b6]).length<=q6+103*(i+1)/\LH lb w0 w6 (a6.T lb::((g.ws.drop (i+1)).map j7++((I++[b2]).map kS++(ad.map lZ++((U++[b6]).map nX++R)))))):=⟨by have:=aI.out.2.trans aN;rwa [Vo,Vo] at this,by rw[Ur,Ur,aX];simp;omega,(aJ.prm (M:=iF bx 36 #[xa ao na ac,xa fo nf fc,xa no nn nc]::(a6.T lb::((g.ws.drop (i+1)).map j7++((I++[b2]).map kS++(ad.map lZ++((U++[b6]).map nX++R))))))).tail⟩;clear aN aJ aI;go_wp2
  go_roundw
  .exact⟨i+1,a6,_,_,_,zo,by go_num,HN⟩
  simp[intOf];omega
 obtain⟨hu,hl,hT⟩:=HI.out;rw[Wj (by have:=N8.out;omega)] at hT;have bf:=gh hT.law.lw;have HF:=Q6.rest HG hu (by have:=N6.out;have:=N8.out;omega) (hT.sub (((UD _).append ((UD _).append ((UD _).append hR))).cons_cons _));clear hu hl hT HI hlt hi;go_wp2;go_ret;exact⟨rfl,HF⟩
end
section
variable{lb N:Nat}{X:List Th}{w0 w:Uc}{o:Ob}
def MR(h:Q6 lb X w0 w N)(hE:EV w0)(U:N<=700000000)(h1:1<=o.kd)(J:o.kd<=15)(ho:-9223372036854775808<=o.oa/\o.oa<=9223372036854775807)(hs:o.os.size<=70368744177664/\o.ot.size<=70368744177664)(hR:o.rd lb X w0):Calls prog 36 #[xk (TT lb),.agg o.c] w λe w'=>qR lb X w0 (N+206+o.m2) w' e:=by
 by_cases h7:o.kd<=7
 .exact Qc h hE U h1 h7 hs.2 hR
 by_cases h9:o.kd<=9
 .exact(Qd h hE U zo).mono λe w' I=>⟨I.1,I.2.more zo⟩
 exact(Qb h U zo J ho.1 ho.2 zo).mono λe w' I=>⟨I.1,I.2.more zo⟩
end
def MO{lb N:Nat}{X:List Th}{w0 w:Uc}(h:Q6 lb X w0 w N)(I:EV w0)(J:N<=400000000):Calls prog 37 #[xk (TT lb)] w λe w'=>qR lb X w0 N w' e:=let ⟨_,_,hg,hT⟩:=h;Oc hg hT I J
def Gn{lb N:Nat}{X:List Th}{w0 w:Uc}(h:Q6 lb X w0 w N)(I:N<=900000000):Calls prog 38 #[xk (TT lb)] w λe w'=>e=xm (xn true)/\XL w w':=let ⟨_,_,hg,hT⟩:=h;Pj hg hT I
def OK(w:Uc)(o:TX)(n:Nat)(R:Nat->Nat):Prop:=∀i,i<n->∃b off,o=some ⟨b,off,none⟩/\b<w.heap.size/\∃x:Ob,((-9223372036854775808<=x.oa/\x.oa<=9223372036854775807)/\(x.os.size<=70368744177664/\x.ot.size<=70368744177664)/\(∃z,S7 w x.l1 x.g1 x.m1 x.l2 x.g2 x.m2 x.l3 x.g3 x.m3 z)/\R i+x.m2<=R (i+1))/\∀j,j<7->w.cell? (TU b (off+i*7+j))=x.c[j]?
def S7.rd{w:Uc}{x:Ob}{z:Tz}(h:S7 w x.l1 x.g1 x.m1 x.l2 x.g2 x.m2 x.l3 x.g3 x.m3 z)(X:List Th):x.rd w.heap.size X w:=by
 refine⟨h.c,z,λj=>match x.m1 with|some ad=>w.cell? (TU ad.block (ad.off+j))|none=>none,λw' I _=>⟨h.a.later I,h.f.later I,h.r.later I,λnb noff e j hj=>?_⟩⟩;have hl:=h.r.len.1;rcases h.r with⟨e',_⟩|⟨b,off,sp,e',_,_,h3⟩
 .rw[e'] at e;cases e
 rw[e'] at e|-;cases e;exact Fd I _ _ (h3 j _ (Uq zo)).2.1
def NX(p q:TX)(i:Nat)(h:i<18):∃x:Ob,(∀j,j<7->(Fc p q)[i*7+j]?=x.c[j]?)/\(1<=x.kd/\x.kd<=15)/\x.oa=0/\(x.os.size<=30/\x.ot.size<=30)/\(x.g1=none/\x.g2=0/\x.g3=0/\x.m1=none/\x.m2=0/\x.m3=0)/\((x.l1=none/\x.l2=0/\x.l3=0)\/(x.l1=p/\x.l2=2/\x.l3=2)\/(x.l1=q/\x.l2=1/\x.l3=1)):=by
 have:i=0\/i=1\/i=2\/i=3\/i=4\/i=5\/i=6\/i=7\/i=8\/i=9\/i=10\/i=11\/i=12\/i=13\/i=14\/i=15\/i=16\/i=17:=zo;have d:∀(P:Nat->Prop),P 0->P 1->P 2->P 3->P 4->P 5->P 6->∀j,j<7->P j:=λP p0 J U p3 p4 p5 p6 j I=>by
  match j,I with
  |0,_=>exact p0
  |1,_=>exact J
  |2,_=>exact U
  |3,_=>exact p3
  |4,_=>exact p4
  |5,_=>exact p5
  |6,_=>exact p6
 rcases this with rfl|rfl|rfl|rfl|rfl|rfl|rfl|rfl|rfl|rfl|rfl|rfl|rfl|rfl|rfl|rfl|rfl|rfl
 all_goals exact⟨⟨_,_,_,_,_,_,_,_,_,_,_,_,_⟩,d _ rfl rfl rfl rfl rfl rfl rfl,⟨Vl rfl,Vl rfl⟩,rfl,⟨Vl rfl,Vl rfl⟩,⟨rfl,rfl,rfl,rfl,rfl,rfl⟩,by first|exact Rf ⟨rfl,rfl,rfl⟩|exact Rm (Rf ⟨rfl,rfl,rfl⟩)|exact Rm (Rm ⟨rfl,rfl,rfl⟩)⟩
def Jc(z:Nat):List Th:=[iF (z+3) 74 (Fc (TT (z+1)) (TT (z+2))),iF (z+2) 9 #[xj ⟨#[99]⟩],iF (z+1) 9 #[xj ⟨#[97]⟩,xj ⟨#[98]⟩]]
def EO{w:Uc}{L:TZ}(h:w.heap[b]?=some (xi (L.map xj).toArray 9 (0,0)))(J:L.length<=1100000):SY w (TT b) L.length L.length L:=
 Rm ⟨_,rfl,rfl,λj x I=>⟨b,0,rfl,dK h,by rw[U2,EQ h j];simp[I]⟩,J⟩
def P7(w:Uc)(x:Ob)(hg:x.g1=none/\x.g2=0/\x.g3=0/\x.m1=none/\x.m2=0/\x.m3=0)(J:(x.l1=none/\x.l2=0/\x.l3=0)\/(x.l1=some ⟨w.heap.size+1,0,none⟩/\x.l2=2/\x.l3=2)\/(x.l1=some ⟨w.heap.size+2,0,none⟩/\x.l2=1/\x.l3=1)):x.rd w.heap.size (Jc w.heap.size) w:=by
 obtain⟨kd,oa,os,ot,l1,l2,l3,g1,g2,g3,m1,m2,m3⟩:=x;obtain⟨rfl,rfl,rfl,rfl,rfl,rfl⟩:=hg;refine⟨by rcases J with⟨_,rfl,rfl⟩|⟨_,rfl,rfl⟩|⟨_,rfl,rfl⟩<;>exact XH,?_⟩;rcases J with⟨rfl,rfl,rfl⟩|⟨rfl,rfl,rfl⟩|⟨rfl,rfl,rfl⟩
 .exact⟨⟨[],[],[]⟩,_,Fl⟩
 .exact⟨⟨[⟨#[97]⟩,⟨#[98]⟩],[],[]⟩,λ_=>none,λw' _ I=>⟨EO (L:=[⟨#[97]⟩,⟨#[98]⟩]) (I _ (Ul (Ul (Um ..)))) zd,Rf ⟨rfl,rfl,rfl,rfl⟩,Rf ⟨rfl,rfl,rfl,rfl⟩,λ_ _ h=>(by cases h)⟩⟩
 exact⟨⟨[⟨#[99]⟩],[],[]⟩,λ_=>none,λw' _ I=>⟨EO (L:=[⟨#[99]⟩]) (I _ (Ul (Um ..))) zd,Rf ⟨rfl,rfl,rfl,rfl⟩,Rf ⟨rfl,rfl,rfl,rfl⟩,λ_ _ h=>(by cases h)⟩⟩
def Ni(w:Uc):Q6 w.heap.size (Jc w.heap.size) w ((((w.alloc (xi #[TV,xd xh 0,TV,TV,TV,TV,TV,TV,TV] 71)).alloc (xi #[xj ⟨#[97]⟩,xj ⟨#[98]⟩] 9)).alloc (xi #[xj ⟨#[99]⟩] 9)).alloc (xi (Fc (TT (w.heap.size+1)) (TT (w.heap.size+2))) 74)) 0:=by
 have h0:La.P w.heap.size ⟨0,λ_=>⟨none,0,0,[]⟩⟩ (w.alloc (xi #[TV,xd xh 0,TV,TV,TV,TV,TV,TV,TV] 71)):=⟨gi _ _,λi=>XG,λi j k _ h=>by cases h⟩;have h1:LH w.heap.size w (w.alloc (xi #[TV,xd xh 0,TV,TV,TV,TV,TV,TV,TV] 71)) [La.T w.heap.size ⟨0,λ_=>⟨none,0,0,[]⟩⟩]:=
  ⟨⟨λx I=>by rw[List.mem_singleton.1 I];exact La.ok h0,VK,λx I k U=>by rw[List.mem_singleton.1 I] at U;exact U.elim (λe=>Vx e.symm) (λ⟨i,e⟩=>by cases e)⟩,gC,rfl⟩
 have J:=((h1.boxed 9 #[xj ⟨#[97]⟩,xj ⟨#[98]⟩]).boxed 9 #[xj ⟨#[99]⟩]).boxed 74 (Fc (TT (w.heap.size+1)) (TT (w.heap.size+2)));simp only[show ∀(w:Uc)(o:Obj),(w.alloc o).heap.size=w.heap.size+1 from λw o=>zp,Nat.add_assoc,Nat.reduceAdd] at J;exact⟨⟨0,λ_=>⟨none,0,0,[]⟩⟩,⟨[],[],[],[],[],[],[]⟩,⟨rfl,rfl,rfl,rfl,rfl,rfl,rfl,rfl,rfl,rfl,XH,λx h=>(by cases h),XH,λx h=>(by cases h)⟩,J.perm (Go.Proofs.YtidakhhekofkoaaGreatDoor.prm λf=>by simp[Jc,Gs.T];omega)⟩
def Ps(w:Uc)(o:TX)(n k:Nat)(R:Nat->Nat)(hS:OK w o n R)(ay:∀i,i<=n->R i<=2000000)(hE:EV w)(hn:n<=1048576):
  Calls prog 13 #[xa o n k,xd xh 1,xd xh 15] w λe w'=>e=xm (xn true)/\XL w w':=by
 have av:=fy ay;have HL:=fy (Ni w);clear ay;go_in
 go_wp2_with (go_at_call 35;refine(Eg).mono ?_;rintro e w1 ⟨rfl,rfl⟩)
 generalize ((((w.alloc (xi #[TV,xd xh 0,TV,TV,TV,TV,TV,TV,TV] 71)).alloc (xi #[xj ⟨#[97]⟩,xj ⟨#[98]⟩] 9)).alloc (xi #[xj ⟨#[99]⟩] 9)).alloc (xi (Fc (TT (w.heap.size+1)) (TT (w.heap.size+2))) 74))=W2 at *
 go_loopw [9] (λv wr=>∃i N:Nat,i<=18/\N<=206*i/\v=xd xh i/\Hid (Q6 w.heap.size (Jc w.heap.size) w wr N)) (λv _=>18-(intOf v).toNat)
 .exact⟨0,0,Ux,XH,rfl,HL⟩
 clear HL;obtain⟨i,N,hi,aG,rfl,HL⟩:=hrel;obtain⟨J,aM⟩:=HL.out.bx (Um ..);by_cases hlt:i<18
 .have hii:(i:Int)<18:=zo;obtain⟨x,hc,⟨ai,ad⟩,aj,⟨aK,aL⟩,an,aA⟩:=NX (TT (w.heap.size+1)) (TT (w.heap.size+2)) i hlt;have ag:=MR HL.out hE zo ai ad (by rw[aj];decide) ⟨zo,zo⟩ (P7 w x an aA);have ak:x.m2=0:=an.2.2.2.2.1;clear an aA aK aL aj;obtain⟨kd,oa,os,ot,l1,l2,l3,g1,g2,g3,m1,m2,m3⟩:=x;simp only[Ob.c] at ag ak ai ad;subst ak;have c0:=(J (i*7)).trans (hc 0 zd);have c1:=(J (i*7+1)).trans (hc 1 zd);have c2:=(J (i*7+2)).trans (hc 2 zd);have c3:=(J (i*7+3)).trans (hc 3 zd);have c4:=(J (i*7+4)).trans (hc 4 zd);have c5:=(J (i*7+5)).trans (hc 5 zd);have c6:=(J (i*7+6)).trans (hc 6 zd);replace c0:_=some (xd xh kd):=c0;replace c1:_=some (xd xh oa):=c1;replace c2:_=some (xj os):=c2;replace c3:_=some (xj ot):=c3;replace c4:_=some (xa l1 l2 l3):=c4;replace c5:_=some (xa g1 g2 g3):=c5;replace c6:_=some (xa m1 0 m3):=c6;clear J hc;go_wp2_with fail;refine ag.mono ?_;rintro e w3 ⟨rfl,h3⟩;clear ag HL;go_wp2
  go_roundw
  .exact⟨i+1,N+206,zo,zo,by go_num,h3⟩
  simp[intOf];omega
 have hie:¬ ((i:Int)<18):=zo;have ax:N<=3708:=zo;clear J hlt hi aM aG;go_wp2
 go_loopw [11] (λv wq=>∃i N:Nat,i<=n/\N<=3708+206*i+R i/\v=xd xh i/\Hid (Q6 w.heap.size (Jc w.heap.size) w wq N)) (λv _=>n-(intOf v).toNat)
 .exact⟨0,N,Ux,zo,rfl,HL⟩
 clear HL ax;obtain⟨i,N,hi,hti,rfl,HL⟩:=hrel;have I:=HL.out.bel;have him:(i:Int)<1152921504606846976:=zo;have aI:=av.out i hi;have hNs:N<=220000000:=zo;clear aI;by_cases hlt:i<n
 .obtain⟨b,off,aJ,aa,x,⟨aj,aB,⟨z,hz⟩,aH⟩,hc⟩:=hS i hlt;subst aJ;have ak:x.m2<=2000000:=by have:=av.out (i+1) hlt;omega
  have HTA:=HL.out.later (gC (o:=xi x.c 74));have HX:Hid (1<=x.kd->x.kd<=15->Calls prog 36 #[xk (TT w.heap.size),.agg x.c] _ _):=λh1 aF=>MR HTA hE zo h1 aF aj aB (hz.rd _)
  clear hz aj aB;obtain⟨kd,oa,os,ot,l1,l2,l3,g1,g2,g3,m1,m2,m3⟩:=x;simp only[Ob.c] at HX HTA ak aH;have c0:=(Fd I _ _ aa).trans (hc 0 zd);have c1:=(Fd I _ _ aa).trans (hc 1 zd);have c2:=(Fd I _ _ aa).trans (hc 2 zd);have c3:=(Fd I _ _ aa).trans (hc 3 zd);have c4:=(Fd I _ _ aa).trans (hc 4 zd);have c5:=(Fd I _ _ aa).trans (hc 5 zd);have c6:=(Fd I _ _ aa).trans (hc 6 zd);rw[Nat.add_zero] at c0;replace c0:_=some (xd xh kd):=c0;replace c1:_=some (xd xh oa):=c1;replace c2:_=some (xj os):=c2;replace c3:_=some (xj ot):=c3;replace c4:_=some (xa l1 l2 l3):=c4;replace c5:_=some (xa g1 g2 g3):=c5;replace c6:_=some (xa m1 m2 m3):=c6;have az:(i:Int)<(n:Int):=zo;have hbr:b<wr.heap.size:=Uw aa I.size;clear hc;by_cases hk:1<=kd/\kd<=15
  .obtain⟨ai,ad⟩:=hk;have hka:¬ kd<1:=zo;have hkb:¬ 15<kd:=zo;have ag:=HX.out ai ad;clear HX;go_wp2_with fail;refine ag.mono ?_;rintro e w3 ⟨rfl,h3⟩;have H3:=h3;clear h3 ag HTA HL c0 c1 c2 c3 c4 c5 c6;have h3:(i:Int).tmod 3=0\/(i:Int).tmod 3=1\/(i:Int).tmod 3=2:=by rw[Xi zo];omega
   rcases h3 with hm|hm|hm
   rotate_left 2
   .go_wp2_with fail;refine(MO H3 hE zo).mono ?_;rintro e w4 ⟨rfl,h4⟩;go_wp2_with fail;refine(Gn h4 zo).mono ?_;rintro e w5 ⟨rfl,U⟩;have H5:=h4.later U;clear U;go_wp2
    go_roundw
    .exact⟨i+1,N+206+m2,zo,zo,by go_num,H5⟩
    simp[intOf];omega
   all_goals (
    go_wp2_with fail;refine(Gn H3 zo).mono ?_;rintro e w5 ⟨rfl,U⟩;have H5:=H3.later U;clear U;go_wp2
    go_roundw
    case rel=>exact⟨i+1,N+206+m2,zo,zo,by go_num,H5⟩
    case measure=>simp[intOf];omega
    )
  clear HX;by_cases ai:kd<1
  .exact zm162
  have hk2:(15:Int)<kd:=zo;exact zm162
 have az:¬ ((i:Int)<(n:Int)):=zo;clear hlt;go_wp2_with fail;refine(MO HL.out hE zo).mono ?_;rintro e w4 ⟨rfl,h4⟩;go_wp2_with fail;refine(Gn h4 zo).mono ?_;rintro e w5 ⟨rfl,U⟩;have H5:=h4.later U;clear U;go_wp2;go_ret;exact⟨rfl,H5.bel⟩
def MY(w:Uc){o:TX}{n k:Nat}(R:Nat->Nat)(U:OK w o n R)(I:∀i,i<=n->R i<=2000000)(J:EV w)(hn:n<=1048576):
  Calls prog 12 #[xa o n k] w λe w'=>e=xm (xn true)/\XL w w':=by
 have HP:=Ps w o n k R U I J hn;clear U I J hn;go_in;go_wp2_with fail;refine HP.mono ?_;rintro e w1 ⟨rfl,hb⟩;go_wp2;go_ret;exact⟨rfl,hb⟩
open Go.ChangeShapes Go.WideShapes Go.ChangeAt
def OP(h:laidMetH prog Rows.allUptoRow.laid W):SS W:=
 P1 (laid:=Rows.allUptoRow.laid) h Rows.allUptoRow.laid[3] Rows.allUptoRow.laid[4] Rows.allUptoRow.laid[5] (UY _) (UY _) (UY _) zk zk zk rfl rfl rfl
def M3(h:laidMetH prog Rows.allUptoRow.laid W):Lib.TabIs prog W "internal/strconv.uint64pow10" .u64 Lib.pow10Tab:=
 PC (laid:=Rows.allUptoRow.laid) h Rows.allUptoRow.laid[2] (UY _) rfl rfl
section
variable{H:Type}{enc:TypeId × Ud->H}
theorem Lk{w:Uc}{x:DataW H × List MemPlace}(h:DataW.trod enc prog w 0 (λ_=>true) true fuel 74 cs=some x)(hw:Rows.uptoBulk x.1<=1048576):
  ∃y:Ob,((-9223372036854775808<=y.oa/\y.oa<=9223372036854775807)/\(y.os.size<=70368744177664/\y.ot.size<=70368744177664)/\(∃z,S7 w y.l1 y.g1 y.m1 y.l2 y.g2 y.m2 y.l3 y.g3 y.m3 z)/\y.m2<=Rows.uptoBulk x.1)/\cs=y.c.toList:=by
 obtain⟨xs,n,_,hx,hl,U,hf⟩:=DataW.trod_struct underlying74 h;rw[sD] at hl
 match cs,hl with
 |[c0,c1,c2,c3,c4,c5,c6],_=>
 have h7:=U
 match xs,h7 with
 |[y0,y1,y2,y3,y4,y5,y6],_=>
 have t0:=hf 0 _ rfl;have t1:=hf 1 _ rfl;have t2:=hf 2 _ rfl;have t3:=hf 3 _ rfl;have t4:=hf 4 _ rfl;have t5:=hf 5 _ rfl;have t6:=hf 6 _ rfl;simp[Ce,qY,Ir,Iq,Is] at t0 t1 t2 t3 t4 t5 t6;have I:∀y∈[y0.1,y1.1,y2.1,y3.1,y4.1,y5.1,y6.1],Rows.uptoBulk y<=Rows.uptoBulk x.1:=λy hy=>by
  have h1:=Kp hy
  grind[Rows.uptoBulk]
 obtain⟨kd,e0,_⟩:=VG underlying3 t0;obtain⟨oa,e1,_,J⟩:=VG underlying3 t1;obtain⟨os,e2,ad,_⟩:=Vr underlying9 t2;obtain⟨ot,e3,ae,_⟩:=Vr underlying9 t3;obtain⟨l1,l2,l3,tr,e4,hA,hc⟩:=Es t4 (UP (I y4.1 zp) hw);obtain⟨g1,g2,g3,il,e5,hI⟩:=yw t5 (UP (I y5.1 zp) hw);obtain⟨m1,m2,m3,rl,e6,hR,hm⟩:=GR t6 (UP (I y6.1 zp) hw);have aa:∀(s:Ub)(y:DataW H × List MemPlace),y.1∈[y0.1,y1.1,y2.1,y3.1,y4.1,y5.1,y6.1]->y.1=.lit (.string s.data.toList)->s.size<=70368744177664:=λs y hy e=>by
  have h1:=I y.1 hy;have h4:Rows.uptoBulk y.1=s.data.toList.length+1:=by grind[Rows.uptoBulk]
  have h3:s.data.toList.length=s.size:=by rw[Array.length_toList];rfl
  omega
 have hr:-9223372036854775808<=oa/\oa<=9223372036854775807:=by
  rw[Lit.wf_int_iff] at J;have h3:IntKind.i64.min= -9223372036854775808:=zd;have h4:IntKind.i64.max=9223372036854775807:=zd;rw[h3,h4] at J;exact J
 cases e0;cases e1;cases e2;cases e3;cases e4;cases e5;cases e6;exact⟨⟨kd,oa,os,ot,l1,l2,l3,g1,g2,g3,m1,m2,m3⟩,⟨hr,⟨aa _ y2 zp (by rw[ad]),aa _ y3 zp (by rw[ae])⟩,⟨⟨tr,il,rl⟩,hA,hI,hR,hc⟩,UP hm (I y6.1 zp)⟩,rfl⟩
theorem Du{w:Uc}{v:Ud}{x:DataW H × List MemPlace}(h:DataW.trod enc prog w 0 (λ_=>true) true fuel 22 [v]=some x)(ae:∀p∈x.2,p.block<w.heap.size)(hw:Rows.uptoBulk x.1<=1048576):
  ∃o n k R,v=xa o n k/\OK w o n R/\(∀i,i<=n->R i<=2000000)/\n<=1048576:=by
 rcases open_slice underlying22 h with⟨hc,hx⟩|⟨a,len,cap,m,n,D,Pl,hc,_,hl,hm,hmm,hx,hel⟩
 .cases hc;exact⟨none,0,0,λ_=>0,rfl,λi hi=>absurd hi (V2 i),λ_ _=>Ux,zo⟩
 cases hc;simp only[VF] at hmm;subst hmm;rw[hx] at hw;simp only[Rows.uptoBulk] at hw;refine⟨some a,len,m,λi=>Rows.uptoBulkAll ((List.range i).map D),rfl,λi hi=>?_,λi hi=>?_,?_⟩
 .obtain⟨cs',aa,ag⟩:=hel i zo;rw[sD] at aa;obtain⟨y,⟨hr,hs,hz,hm2⟩,rfl⟩:=Lk ag (by
   refine UP (Kp (List.mem_map.2 ⟨i,List.mem_range.2 hi,rfl⟩)) (?_:_<=1048576);omega)
  obtain⟨_,_,I⟩:=RI aa;obtain⟨b,off,spot⟩:=a;have U:spot=none:=by
   obtain⟨cs0,ad,ai⟩:=hel 0 zo;rw[sD] at ad;obtain⟨_,_,_,_,_,_,_,_,_,_,_,_,_,rfl⟩:=NY ai;obtain⟨_,_,J⟩:=RI ad;simpa [Addr.add] using World.cell?_spot (J 0 zo)
  subst U;simp only[add_plain] at I;have hb:b<w.heap.size:=by
   refine ae (.cell b off) ?_;rw[hx];refine Wv ?_;simp only[MemPlace.row,List.mem_map,List.mem_range];exact⟨0,by rw[sD];omega,rfl⟩
  refine⟨b,off,rfl,hb,y,⟨hr,hs,hz,?_⟩,λj hj=>(I j hj).trans UN⟩
  grind[O1]
 .have:=Qv D hi
  grind
 have h1:=O0 ((List.range len).map D)
 grind
end
def B1(H:Type)(enc:TypeId × Ud->H)(W:Uc){base:Nat}{ds gs:List (DataW H)} 
  (I:∀(j:Nat) t v,Tryz.f12.params[j]?=some t->args[j]?=some v->Value.okWide prog W .any base t v)
  (hW:DataW.Whole enc prog Tryz.f12.params.toList Rows.allSpec.vars false W args.toList ds gs before)(hL:laidMetH prog Rows.allUptoRow.laid W)(hk:Rows.uptoSmall H (ds++gs)=true):
  Calls prog 12 args W λe W'=>∃v,e=xm v/\Rows.allSpec.post enc prog Tryz.f12 false true false false W args v W':=by
 have J:=hW;obtain⟨p,q,U,hV,rfl,hfz,hnd⟩:=hW;have hA:=U;rw[Tryz.params12] at hA I;obtain⟨v0,d0,rfl,rfl,h0⟩:=trodAll_one hA;obtain⟨rfl,rfl⟩:=trodVars_none hV;have ad:=h0;obtain⟨fuel,hf⟩:=h0;clear U;simp only[Vo] at J;have aa:=λx hx=>by simpa using J.lt x hx
 obtain⟨a0,len,cap,rfl⟩:=okWide_slice underlying22 (I 0 22 v0 rfl rfl);have ae:=Vl hk;simp only[Vo,Rows.uptoBulkAll] at ae;have hw:Rows.uptoBulk d0<=1048576:=zo;obtain⟨o,n,k,R,hv,hS,hR,hn⟩:=Du (v:=xa a0 len cap) (x:=(d0,p)) hf aa hw;cases hv;refine(MY W R hS hR ⟨OP hL,M3 hL⟩ hn).mono λe W' ⟨he,hb⟩=>?_
 subst he;exact⟨_,rfl,⟨_,_,_,[],_,[],J,trodAll_mk1 (shut_bool underlying4 true),trodAll_mk1 (Below.trod KZ zk (Vl zk) ad hb aa),rfl,hb.frame _,λh=>by cases h⟩⟩
def DQ(os:Os):∃w0:Uc,w0.os=os/\(w0.forCall (λ_ _=>0) ⟨#[],#[TV],[]⟩).variablesB prog=true/\
  (((w0.forCall (λ_ _=>0) ⟨#[],#[TV],[]⟩).heap.toList.drop prog.globals.size).take ((begin prog (λ_ _=>0) default).world.heap.size-prog.globals.size)=(begin prog (λ_ _=>0) default).world.heap.toList.drop prog.globals.size)/\
  Input.okWideB prog (w0.forCall (λ_ _=>0) ⟨#[],#[TV],[]⟩) 12 ⟨#[],#[TV],[]⟩=true/\
  laidMet prog Rows.allUptoRow.laid (w0.forCall (λ_ _=>0) ⟨#[],#[TV],[]⟩).memory/\
  (∀(H:Type)(enc:TypeId × Ud->H),∃places,DataW.whole enc prog (w0.forCall (λ_ _=>0) ⟨#[],#[TV],[]⟩).memory Tryz.f12.params.toList Rows.allSpec.vars false #[TV].toList 8=some ([.nil],[],places))/\
  (∀(H:Type)(enc:TypeId × Ud->H),(Rows.OpenSpec.upto Rows.allSpec).bare.sizedB enc prog Tryz.f12 false (w0.forCall (λ_ _=>0) ⟨#[],#[TV],[]⟩).memory #[TV] 8=true):=
 ⟨{World.holding prog os ⟨#[],#[],[]⟩ with heap:=Rows.allUptoRow.laid.foldl (QE prog) (World.holding prog os ⟨#[],#[],[]⟩).heap},
  rfl,by as_aux_lemma=>kernel_rfl,by as_aux_lemma=>kernel_rfl,by as_aux_lemma=>kernel_rfl,D5 8 (by as_aux_lemma=>kernel_rfl) (by as_aux_lemma=>kernel_rfl),λH enc=>⟨[],by as_aux_lemma=>kernel_rfl⟩,λH enc=>by as_aux_lemma=>kernel_rfl⟩
def FY(started:os.Started)(H:Type)(enc:TypeId × Ud->H)(F:Stop.Interp):
  ReturnsInHanded {} Tryz.checked os 12 .any ((Rows.OpenSpec.upto Rows.allSpec).preRow enc prog Tryz.f12 Rows.allUptoRow.domain false Rows.allUptoRow.laid) (((Rows.OpenSpec.upto Rows.allSpec).at F).post enc prog Tryz.f12 false true false false):=by
 obtain⟨w0,ad,hv,hr,aa,J,hx,ae⟩:=DQ os;obtain⟨places,hx⟩:=hx H enc;refine returnsInHanded_of_row (C:=Tryz.checked) (s:=Rows.OpenSpec.upto Rows.allSpec) QH started zk func12
  (witness_row_at (enc:=enc) (C:=Tryz.checked) false w0 #[TV] ad hv hr aa
   (OpenSpec.preRow_of_cond 8 hx zk (λk hk=>by cases hk;kernel_rfl) (ae H enc) J)) ?_
 intro W base args ds gs before U hW _ I hZ hL _ _;exact B1 H enc W U hW hL (I _ rfl)
def FX:joinedFacts Tryz.pinned.checked.prog 12 Tryz.f12 (Rows.OpenSpec.upto Rows.allSpec).bare Rows.allUptoRow=true:=by
 unfold joinedFacts;simp only[Vu]
 repeat' (refine Rj ?_ ?_)
 all_goals (as_aux_lemma=>kernel_rfl)
def Kg:Rows.AllUptoSaid:=
 OpenClaim.holds_of_cond 12 Tryz.f12 rfl rfl rfl rfl rfl rfl rfl ⟨rfl,rfl,rfl,rfl,rfl⟩ rfl rfl rfl rfl rfl (by as_aux_lemma=>kernel_rfl) func12 FX
  (Vl (by as_aux_lemma=>kernel_rfl)) (by unfold Func.isWrapper;first|(kernel_rfl)|(rw[T' (by decide+kernel)];exact⟨rfl,rfl⟩))
  (λos started H enc _ F=>by rw[OpenClaim.pre_eq_preRow];exact FY started H enc F)
theorem Il(f:FuncId)(fn:Func)(hf:Tryz.pinned.checked.prog.funcNamed Rows.allUptoRow.func=some f)(I:Tryz.pinned.checked.prog.funcs[f]?=some fn):
  false=Tryz.pinned.checked.prog.looks []/\∀(j:Nat) t,fn.params[j]?=some t->Tryz.pinned.checked.prog.wantsStandIn t=false:=by
 obtain rfl:f=12:=Ue ((show prog.funcNamed Rows.allUptoRow.func=some 12 from zk).symm.trans hf)|>.symm;obtain rfl:fn=Tryz.f12:=(Ue (Tryz.func12.symm.trans I)).symm;refine⟨zk,λj t J=>?_⟩;rw[Tryz.params12] at J;obtain rfl:t=22:=by grind
 exact(show prog.wantsStandIn 22=false from zk)
theorem allUpto:Rows.AllUptoCardSaid:=
 Claim7.holds_tied_plain_at .later [] _ _ _ _ Kg (λ_ h=>by cases h) zk (λ_ h=>by cases h) allUpto_row_tie rfl ⟨rfl,rfl⟩ zk rfl Il zk
end Go.Proofs.YtidakhhekofkoaaGreatDoor
