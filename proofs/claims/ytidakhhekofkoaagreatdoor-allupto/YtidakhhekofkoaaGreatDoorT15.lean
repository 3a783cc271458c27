import Derived.Test.YtidakhhekofkoaaGreatDoorT14
set_option linter.all false
set_option maxRecDepth 100000
set_option maxHeartbeats 16000000
namespace Go.Proofs.YtidakhhekofkoaaGreatDoor
attribute [local go_sem] TT TU TV XL
attribute [local simp] TT TU TV XL
open Go.Proofs.Tryz
open Go.RowKit Go.Deep
open Value renaming slice->xa,int->xd,string->xj,pointer->xk,bool->xn
open IntKind renaming i64->xh
open Obj renaming cells->xi
open Ending renaming returned->xm
open List renaming range->Ri,filter_append->Ry,filter_cons->RA
open World renaming setCell->Ru
open Or renaming inr->Rh,inl->Ro
variable{zq:Prop}
variable{w w' W:Uc}{al:TY}{rs:T6}{o1 o2 ao bo fo lo to_ o:TX}{n1 k1 n2 k2 ac bc na nf nn A n ab a0 f0 nb n0 nc db mb lc fuel j lb M tn tc:Nat}{e:Ending}{t:Tb}{rb ro rc:Nat->Nat}{rv C:TW}{cs:List Cs}{x y:Ub}{p:List MemPlace}{laid:List (String × DataW Unit)}{tr:T8}{ad:Addr}{dk:Ud}{m:Int}{L:TZ}
def zm17(h:zq:=by
 go_wp2_with (at_builtin;go_must (refine Uz _ rfl _ _ 25 rfl w.heap.size 9 i0 (xj ⟨#[]⟩) 1 16 underlying25 hi0 hz0 hz1 hz2 rfl zd _ L.length (gU L) rfl ?c0 _ 1 1 [xj act] rfl rfl ?c1 ?c2 zd ?c3 ?c4 ?c5 _ rfl ?_))
 case c0=>exact HO2.alloc _
 case c1=>
  intro j u hj
  match j,hj with
  |0,hj=>simp at hj;subst hj;exact EQ (gu zp) 0
  |j+1,hj=>simp at hj
 case c2=>intro u hu;simp at hu;subst hu;rfl
 case c3=>unfold maxLen;omega
 case c4=>omega
 case c5=>have:=HB2.size;simp;omega
 intro g8 c8 w8 ho8 hg8 _ _;have hba8:=ir w2 (xi #[xj act] 9);have HB8:=(HB2.trans (hba8.mono HB2.size)).grown hg8 (UP HB2.size hba8.size) (λb hb=>pL HO2 hb);have HO8:Hid (w8.ownsRow w.heap.size 9 1 (xa (TT g8) (kD t c.st (i+1)).length c8) (kD t c.st (i+1)).length (gU (kD t c.st (i+1)))):=by
  show World.ownsRow _ _ _ _ _ _ _;rw[HNX.out,Ur];unfold gU;rw[U1];exact ho8
 have HLE:Hid ((kD t c.st (i+1)).length=L.length+1):=by show _=_;rw[HNX.out,Ur];rfl
 clear ho8 hg8 hba8 HO2 HB2;go_wp2
 go_roundw
 .exact⟨i+1,TT g8,c8,zo,by go_num,by rw[HLE.out],HB8,HO8⟩
 simp[intOf];omega
 ):zq:=h
def zm62(h:zq:=by
 subst hxy;have HK2:Hid (l.take (k+1)=m.take (k+1)):=by
  show _=_;rw[U5,U5,HX.out,HY.out,HK.out]
 go_wp2;go_quiet (fail);go_wp2
 go_roundw
 .exact⟨k+1,zo,zf,HB.out.trans (((iK _ _).mono HB.out.size)),HK2⟩
 simp[intOf];omega
 ):zq:=h
def zm76(h:zq:=by
 rw[XK (by exact hne),XK (by exact hne)];exact h
 ):zq:=h
def zm104(h:zq:=by
 have hi:¬ (l.length:Int)=(m.length:Int):=zo;have HNE:Hid (¬ l=m):=λe=>hlm (by rw[e])
 clear hlm;go_in;go_wp2;go_ret;exact⟨Lz.no HNE.out,XF⟩
 ):zq:=h
def zm134(h:zq:=by
 clear HY HKT;go_wp2;go_quiet (fail);go_wp2
 go_roundw
 .exact⟨j+1,zo,zf,fy (HY2.out nq)⟩
 simp[intOf];omega
 ):zq:=h
def zm145(h:zq:=by
 refine⟨HBW.out,Or.inr ⟨c,o,k,HC.out,by rw[HOE.out],?_⟩⟩;have:=HOW.out;rw[HOE.out] at this;exact this
 ):zq:=h
def zm149(h:zq:=by
 go_wp2;go_quiet (fail);go_wp2;go_ret;exact⟨Lz.no HNE.out,HB.out.trans (((iK _ _).mono HB.out.size))⟩
 ):zq:=h
def zm151(h:zq:=by
 exact⟨k+1,TT g9,cap9,L.take a++id::L.drop a,zo,rfl,by go_num,HOWN,HLEN,HRIS,HBEL⟩
 ):zq:=h
def zm165(h:zq:=by
 show _=_;rw[Ur,UM,Vi,List.length_drop,HL.out];omega
 ):zq:=h
def zm171(h:zq:=by
 exact⟨0,none,0,Ux,rfl,rfl,XF,⟨rfl,Or.inl ⟨rfl,rfl⟩⟩⟩
 ):zq:=h
def Hp(hM:Q5 al rs)(h6:al.length<=6)(ha:IR w o1 n1 k1 al)(hr:Sd w o2 n2 k2 rs):
  Calls prog 142 #[.agg #[xa o1 n1 k1,xa o2 n2 k2]] w λe w'=>∃o,rN al rs o/\oq TP w o w' e:=by
 have hB:XL w ((w.alloc (xi #[xa o1 n1 k1,xa o2 n2 k2] 228)).alloc (xi #[TV,TV,TV] 36)):=gC.alloc zp _;have dC:=vZ tS ((KT.below hB).acts ha) (hr.later hB) hM.alen hM.rlen hM.call hM.fg (by have:=hM.nodes;omega);have cM:Hid (((w.alloc (xi #[xa o1 n1 k1,xa o2 n2 k2] 228)).alloc (xi #[TV,TV,TV] 36)).heap[w.heap.size]?=some (xi #[xa o1 n1 k1,xa o2 n2 k2] 228 (0,0))):=(XD zp).trans (gi _ _);have cQ:Hid (((w.alloc (xi #[xa o1 n1 k1,xa o2 n2 k2] 228)).alloc (xi #[TV,TV,TV] 36)).heap[w.heap.size+1]?=some (xi #[TV,TV,TV] 36 (0,0))):=gu zp;have dp:=(KT.below hB).acts ha;have bR:=ha.len;have ew:1<=al.length:=by
  cases hc:al with
  |nil=>exact absurd hc hM.ne
  |cons _ _=>simp
 subst bR;clear ha hr;go_in;go_wp2_with fail;refine dC.mono ?_;generalize ((w.alloc (xi #[xa o1 al.length k1,xa o2 n2 k2] 228)).alloc (xi #[TV,TV,TV] 36))=W0 at *;rintro e w1 ⟨nb,B,rfl,bR,hn2,da,bM⟩;have eb:=ir w1 (xi #[TV,TV,TV] 36);have hmb:=(bM.block _ (dK cM.out)).trans cM.out;have ay:=hmb;have cH:=(KT.below bM).acts dp;have a7:=(bM.block _ (dK cQ.out)).trans cQ.out;have dq:=hB.trans (bM.mono hB.size);have cv:=fy (gi w1 (xi #[TV,TV,TV] 36));clear hmb bM dC cM dp cQ hB;go_wp2_with fail;generalize w1.alloc (xi #[TV,TV,TV] 36)=W1 at *
 go_loopw [6] (λx wr=>∃(k:Nat)(ao:TX)(ac:Nat),k<=al.length/\x=xd xh k/\Hid (wr.heap[w1.heap.size]?=some (xi #[xa ao k ac,TV,TV] 36 (0,0)))/\Hid (wr.ownsRow w1.heap.size 9 1 (xa ao k ac) k (gU ((al.map (·.s)).take k)))/\Hid (XL w1 wr)) (λx _=>al.length-(intOf x).toNat)
 .exact⟨0,none,0,Ux,rfl,cv,XG,eb⟩
 obtain⟨k,ao,ac,hk,rfl,aM,bE,J⟩:=hrel;have hmb:=(J.out.block _ (dK ay)).trans ay;have aP:=EQ hmb 0;have aw:=dK hmb;have bt:=EQ aM.out 0;have cl:=gh aM.out 0;have cm:=dK aM.out;clear hmb;rcases zc k al.length with⟨hlt,hkn⟩|⟨hlt,hkn⟩
 .obtain⟨ag,fR,dX,_,_,eI,_⟩:=((KT.below J.out).acts cH).tok (i:=k) (t:=al[k]) (r:=al.drop (k+1)) (UK hlt);subst fR;obtain⟨fA,eB,fG,_,_,eJ,_⟩:=cH.tok (i:=k) (t:=al[k]) (r:=al.drop (k+1)) (UK hlt);have dW:ag=fA:=za;subst dW;clear eB;have fP:=dK ay;have eu:=EQ ay 0;have bF:Hid ((al.map (·.s)).take (k+1)=(al.map (·.s)).take k++[al[k].s]):=by
   show _=_;rw[U5,UG,Uq hlt];rfl
  generalize al[k].s=s at *;go_wp2_with fail;have ar:XL wr (wr.alloc (xi #[xj s] 9)).drew:=gC.drew;have bY:=UP J.out.size ar.size;refine R' (S:=λw'=>w'.cell? (TU w.heap.size 0)=some (xa (TT ag) al.length k1)/\w'.cell? (TU ag (k*3+1))=some (xj s)) zk ?_ (λI=>?_)
  .trivial
  apply zt1 0 (xk (TT w1.heap.size)) I;apply zt1 2 (xk (TT w.heap.size)) I;apply zt1 3 (xa (TT ag) al.length k1) I;apply zt1 4 (xd xh (k:Int)) I;apply zt1 5 (xk (some (TU ag (k*3)))) I;apply zt1 6 (xk (some (TU ag (k*3+1)))) I;apply zt1 7 (xj s) I;refine zrH2 1 8 (λK hK=>?ra) λK hK=>?rb
  case' ra=>(go_simp;refine hK.out _ _ I (λI=>?_);clear hK K;apply zrH 8;intro K hK;go_simp;refine hK.out _ _ ⟨(XJ aw).trans aP,(XJ dX).trans eI⟩ (λI=>?_);clear hK K)
  case' rb=>(go_simp;refine hK.out _ _ ⟨(XJ aw).trans aP,(XJ dX).trans eI⟩ (λI=>?_);clear hK K;apply SR 1 I;intro I)
  all_goals (
   apply zrH 9;intro K hK;refine DB zf _ _ 25 zf w1.heap.size 9 sI rfl underlying25 (v:=xa ao k ac) (n:=k) (xs:=gU ((al.map (·.s)).take k)) zf (H:=wr.heap.size) (xj s) zf rfl (gq bE.out ar) (gi wr _) zo bY ?_;intro g4 aq w4 ax au bd;have U:=au;have dc:=gq bE.out ar;have ch:=(J.out.trans (ar.mono J.out.size)).grown U (UP J.out.size ar.size) (λb hb=>(gJ dc b hb).1);have aG:=(U.block _ (Uw cm ar.size) (λe=>gz dc e.symm ((ar.block _ cm).trans aM.out) zp)).trans ((ar.block _ cm).trans aM.out);have di:=EQ aG 0;have dj:=gh aG 0;have dm:=dK aG;have dH:Hid ((w4.setCell (TU w1.heap.size 0) (xa (TT g4) (k+1) aq)).heap[w1.heap.size]?=some (xi #[xa (TT g4) (k+1) aq,TV,TV] 36 (0,0))):=gj aG 0 _;have dE:Hid ((w4.setCell (TU w1.heap.size 0) (xa (TT g4) (k+1) aq)).ownsRow w1.heap.size 9 1 (xa (TT g4) (k+1) aq) (k+1) (gU ((al.map (·.s)).take (k+1)))):=by
    have e:gU ((al.map (·.s)).take (k+1))=gU ((al.map (·.s)).take k)++[xj s]:=by rw[bF.out];unfold gU;simp
    show World.ownsRow _ _ _ _ _ _ _;rw[e];exact gG ax (gp _ _ _ _) λb hb e=>by cases hb;exact gz ax e aG zp
   have dw:=ch.setCell (p:=⟨w1.heap.size,0,none⟩) (XH) (xa (TT g4) (k+1) aq);have et:=(Fd ch w.heap.size 0 fP).trans eu;have dV:=(Fd ch ag (k*3+1) fG).trans eJ;refine hK.out _ _ ⟨et,dV⟩ (λI=>?_);clear hK K;clear ax au bd U ch aG dc bt cl;apply zt1 10 (xk (TT w1.heap.size)) I;apply zrH 11;intro K hK;go_simp;refine hK.out _ _ ⟨(XK (by show w1.heap.size≠w.heap.size;omega)).trans I.1,(XK (by show w1.heap.size≠ag;omega)).trans I.2⟩ (λI=>?_);clear hK K;refine Ut zk ?_ _;clear I;clear di dj dm ar bY et dV;go_wp2
   go_roundw
   case rel=>exact⟨k+1,TT g4,aq,zo,zf,dH,dE,dw⟩
   case measure=>simp[intOf];omega
   )
 have bq:k=al.length:=zo;subst bq;have cx:(al.map (·.s)).take al.length=al.map (·.s):=by rw[UF zp]
 rw[cx] at bE;have ff:=uQ tS al rs ([],[]) hM.fg (λk d h=>by simp at h);have ft:Hid (∀t∈(iH al rs ([],[])).2,0<=t/\t<((iH al rs ([],[])).1.length:Int)):=fy (λt h=>⟨sw tS al rs ([],[]) hM.fg (λt h=>zv) t h,uR al rs ([],[]) (λt h=>zv) t h⟩);have fQ:(iH al rs ([],[])).1.length<=16:=by rw[(rC al rs ([],[])).1];have:=hM.nodes;simp_all
 have hTl:(iH al rs ([],[])).2.length<=10000:=by rw[(rC al rs ([],[])).2];have:=hM.rlen;simp;omega
 have dx:Hid (∀o,Sz (sS (iH al rs ([],[])).1) (oU (iH al rs ([],[])).1) (np (iH al rs ([],[])).2) (al.map (·.s)) o->rN al rs o):=λo h=>h
 have dF:=GG B (da.later J.out) ff fQ h6;generalize (iH al rs ([],[])).1=L at *;generalize (iH al rs ([],[])).2=T at *;clear cx bt cl;go_wp2_with fail;refine dF.mono ?_;rintro e w3 ⟨N,sb,rv0,l,tw,lo,lc,ho,hc,rfl,aC,bU,hlf⟩;have aF:=J.out.trans (bU.bel.mono J.out.size);have aE:=(bU.bel.block _ (dK aM.out)).trans aM.out;have ct:=gq bE.out bU.bel;have bD:=(aF.block _ (dK ay)).trans ay;have cu:=(aF.block _ (dK a7)).trans a7;have dD:=da.later aF;have bg:=dK bD;have cE:=dK aE;have hmtb:=dK ay;have hrtb:=dK a7;have a6:=dq.trans (aF.mono dq.size);have cG:=aC.len;have bG:=fy cG;have fu:=fy (Hf aC);have dA:=fy (qG aC);have hl1:1<=l.length:=by have:=(List.getElem?_eq_some_iff.1 aC.first).1;omega
 have fN:=λW:Uc=>qM W l.length zo
 clear dF J aM bE aP aw cm da ay a7 cH eb cv cG;generalize hKe:l.map (np T)=K0 at *;have b9:=fy hKe;have cX:K0.length=l.length:=by rw[<-hKe,UL]
 have HX0:Hid (BW w3 (w3.alloc (xi (Array.replicate l.length (xd .u8 0)) 5)) (iE K0 0)):=by
  show BW _ _ _;rw[od,cX];exact BW.start w3 l.length
 have aU:=fy cX;clear hKe cX;go_wp2_with fail;generalize w3.alloc (xi (Array.replicate l.length (xd .u8 0)) 5)=W3 at *;clear fN
 go_loopw [10] (λx wr=>∃k:Nat,k<=l.length/\x=xd xh k/\Hid (BW w3 wr (iE K0 k))) (λx _=>l.length-(intOf x).toNat)
 .exact zm122
 obtain⟨k,hk,rfl,HX⟩:=hrel;rcases zc k l.length with⟨hlt,hkn⟩|⟨hlt,hkn⟩
 .have fk:=fy (Uq hlt);have fh:Hid (K0[k]?=some (np T l[k])):=by show _=_;rw[<-b9.out,UG,Uq hlt];rfl
  have aW:=dA.out _ (UY hlt);obtain⟨⟨z0,vc⟩,vf,lv⟩:=HX.out.slot (k:=k) (by rw[nL (by rw[aU.out];omega),aU.out];omega);have fw:Hid (BW w3 (wr.setCell (TU w3.heap.size k) (xd .u8 1)) ((iE K0 k).set k (np (T.take 0) l[k]))):=HX.out.set k true rfl;clear HX;generalize l[k]=p at *;go_wp2_with fail;clear vc vf lv;generalize wr.setCell (TU w3.heap.size k) (xd .u8 1)=W4 at *
  rename Uc=>wR
  go_loopw [11] (λx wr=>∃j:Nat,j<=T.length/\x=xd xh j/\Hid (BW w3 wr ((iE K0 k).set k (np (T.take j) p)))) (λx _=>T.length-(intOf x).toNat)
  .exact⟨0,Ux,rfl,fw⟩
  obtain⟨j,hj,rfl,HY⟩:=hrel;obtain⟨p0,c0,p1,c1,p2,c2,p3,c3,p4,c4,ck,_,aY⟩:=(dD.later HY.out.bel).ex;have b4:=EQ ck 4;have l4:=dK ck;rcases zc j T.length with⟨hjl,hjn⟩|⟨hjl,hjn⟩
  .obtain⟨g4,rfl,hg4,fV⟩:=aY j T[j] (Uq hjl);obtain⟨pg,rfl,hpg,hp1,_⟩:=(bU.at_ aE (gE HY.out.bel _)).1 k p fk.out;obtain⟨fU,eN⟩:=ft.out _ (UY hjl);have HKT:=fy (Gh (p:=p) (Uq hjl));obtain⟨tt,eQ⟩:∃tt:Nat,T[j]=(tt:Int):=⟨T[j].toNat,zo⟩;rw[eQ] at fV eN HKT;have cF:tt<p.2.length:=zo;have eR:tt<(gK p.2).size:=by rw[lN];omega
   have httsi:(tt:Int)<((gK p.2).size:Int):=zo;have hx:=oL eR (Uq cF:p.2[tt]?=some p.2[tt]);rw[lF (Uq cF)] at HKT;obtain⟨⟨z0,vc⟩,vf,lv⟩:=HY.out.slot (k:=k) (by rw[Xd,nL (by rw[aU.out];omega),aU.out];omega);generalize p.2[tt]=x at *;clear aY ck eQ fU eN;cases x with
   |true=>
    have HY2:Hid (∀n,BW w3 (wr.drewN n) ((iE K0 k).set k (np (T.take (j+1)) p))):=λn=>by rw[HKT.out,XA];exact HY.out.later (iK wr n)
    simp only[VF] at hx;have fW:decide (((gK p.2)[tt].toNat:Int)=0)=false:=za;exact zm134
   |false=>
    have HY2:Hid (∀n,BW w3 ((wr.drewN n).setCell (TU w3.heap.size k) (xd .u8 0)) ((iE K0 k).set k (np (T.take (j+1)) p))):=λn=>by
     have h1:=(HY.out.later (iK wr n)).set k false (z:=0) rfl;rw[List.set_set] at h1;rw[HKT.out,Bool.and_false];exact h1
    have eY:=λn=>(Fd (iK wr n) w3.heap.size k lv).trans vc
    have e1:=λn=>(OX (iK wr n) w3.heap.size k lv).trans vf
    have fW:decide (((gK p.2)[tt].toNat:Int)=0)=true:=za;exact zm134
  have HY2:Hid (BW w3 wr (iE K0 (k+1))):=by
   show BW _ _ _;have h1:=HY.out;rw[UF zo] at h1;rw[mR fh.out];exact h1
  clear aY ck HY;go_wp2
  go_roundw
  .exact⟨k+1,zo,zf,HY2⟩
  simp[intOf];omega
 have bq:k=K0.length:=by rw[aU.out];omega
 rw[bq,nK] at HX;clear bq;have cj:=td HX.out.blk aU.out;have c7:XL w3 (wr.alloc (xi #[xj (gK K0)] 9)):=HX.out.bel.alloc HX.out.bel.size _;have du:Hid (Sj w3 (wr.alloc (xi #[xj (gK K0)] 9)) w1.heap.size (TT wr.heap.size) 1 [K0] (xa ao al.length ac) TV TV [] [] []):=
  ⟨(c7.block _ cE).trans aE,cE,⟨rfl,Rh ⟨wr.heap.size,1,_,rfl,HX.out.bel.size,gi _ _,XH,zd,rfl,rfl⟩⟩,⟨XG,XG,XG,λj r hr=>zv,λv hv=>zv,List.Pairwise.nil⟩,gE c7 _⟩
 clear c7 HX;go_wp2_with fail;generalize wr.alloc (xi #[xj (gK K0)] 9)=W5 at *;have hmkb:=λW:Uc=>qM W l.length zo
 generalize wr.heap.size=s0b at *;clear cj
 go_loopw [12,13] (λy x wr=>∃(k:Nat) (so:TX) (sc:Nat) (ms:List (T7)) (fo:TX) (fc:Nat) (xo:TX) (xc:Nat) (rows:T0) (rv:TW),y=xa so ms.length sc/\x=xd xh k/\Hid (Sj w3 wr w1.heap.size so sc ms (xa ao al.length ac) (xa fo k fc) (xa xo k xc) ((ms.take k).map kh) rows rv)/\Hid (R7 (setB tw) (Ri al.length) K0 k ms rows)/\ms.length<=100/\Hid (kE (setB tw) (Ri al.length) 100 102 0 [K0] []=kE (setB tw) (Ri al.length) 100 (102-k) k ms rows)) (λ_ x _=>101-(intOf x).toNat)
 .exact⟨0,TT s0b,1,[K0],none,0,none,0,[],[],rfl,rfl,du,R7.start _ _ _,zp,rfl⟩
 obtain⟨k,so,sc,ms,fo,fc,xo,xc,rows,rv,rfl,rfl,aA,aK,fO,HEQ⟩:=hrel;have hkm:=aK.out.le;have dG:=fy (aK.out.len);have aO:=aA.out.gr;have aP:=(ME aO 0 bg zo).trans (EQ bD 0);have aw:=Uw bg aO.size;clear aO;rcases zc k ms.length with⟨hlt,hkn⟩|⟨hlt,hkn⟩
 .have HX:=fy (Uq hlt);have cA:=Dx aK.out (by rw[aU.out,bG.out]) _ (UY hlt);have cp:=fy cA;have fv:=Sn.start wr w3.heap.size (xa fo k fc) rv;generalize ms[k]=bs at *;clear cA;go_wp2_with fail;clear aP aw
  rename Uc=>wR
  go_loopw [12,14,15] (λy v x wr=>∃(j:Nat) (so:TX) (sc:Nat) (M:List (T7)) (q:T5) (vo:TX) (vc:Nat),j<=al.length/\y=xa so M.length sc/\v=xa vo j vc/\x=xd xh j/\Hid (Sj w3 wr w1.heap.size so sc M (xa ao al.length ac) (xa fo k fc) (xa xo k xc) ((ms.take k).map kh) rows rv)/\Hid (Sn wr w3.heap.size (xa fo k fc) rv (xa vo j vc) q)/\Hid (jv (setB tw) bs (Ri j) ms=(M,q))) (λ_ _ x _=>al.length-(intOf x).toNat)
  .exact⟨0,so,sc,ms,[],none,0,Ux,rfl,rfl,rfl,aA,fv,rfl⟩
  obtain⟨j,eW,b3,M,q,vo,vc,hj,rfl,rfl,rfl,av,HU,HRN⟩:=hrel;have bX:=oI (setB tw) bs (Ri j) ms;rw[HRN.out] at bX;obtain⟨⟨xs,dQ,df⟩,fS,_,_⟩:=bX;have hMle:M.length<=ms.length+j:=by
   have:=vR (setB tw) bs (Ri j) ms;exact zm130
  have ca:Hid (q.length=j):=by show _=_;simp_all
  have cO:Hid (M=ms++xs):=dQ;have c':k<M.length:=by rw[cO.out,Ur];omega
  have cS:Hid (M[k]?=some bs):=by show _=_;rw[cO.out];exact uF HX.out
  have aO:=av.out.gr;have aP:=(ME aO 0 bg zo).trans (EQ bD 0);have aw:=Uw bg aO.size;have eK:=aO.size;clear dQ df fS aO;rcases zc j al.length with⟨hjl,hjn⟩|⟨hjl,hjn⟩
  .have bW:(setB tw bs j).length=l.length:=by unfold setB;rw[UL];trivial
   have fx:Hid (BW wr (wr.alloc (xi (Array.replicate l.length (xd .u8 0)) 5)) (iE (setB tw bs j) 0)):=by
    show BW _ _ _;rw[od,bW];exact BW.start wr l.length
   have ba:Hid (jv (setB tw) bs (Ri (j+1)) ms=((jx M (setB tw bs j)).1,q++[(jx M (setB tw bs j)).2])):=by
    exact zm115
   have fm:Hid (∀(i:Nat)(r:T5)(x:Nat)(y:Bool),tw[i]?=some r->r[j]?=some x->bs[x]?=some y->(setB tw bs j)[i]?=some y):=λi r x y h1 h2 h3=>by
    unfold setB;simp_all
   have a8:=fy bW;generalize setB tw bs j=s2 at *;clear bW;go_wp2_with fail;clear aP aw;generalize wr.alloc (xi (Array.replicate l.length (xd .u8 0)) 5)=W6 at *;generalize wr=wS at *
   go_loopw [17] (λx wr=>∃i:Nat,i<=l.length/\x=xd xh i/\Hid (BW wS wr (iE s2 i))) (λx _=>l.length-(intOf x).toNat)
   .exact⟨0,Ux,rfl,fx⟩
   obtain⟨i,hi,rfl,HY⟩:=hrel;rcases zc i l.length with⟨hil,hin⟩|⟨hil,hin⟩
   .have hit:i<tw.length:=by rw[bG.out];omega
    have hiti:(i:Int)<(tw.length:Int):=zo;have aB:=HY.out.bel;obtain⟨pb,br,aW,aQ⟩:=gT av.out.st c';have bh:wr.cell? (TU pb k)=some (xj (gK bs)):=(Fd aB _ _ aW).trans (aQ.trans (by unfold nG;rw[UG,cS.out];rfl));have hpl2:=Uw aW aB.size;obtain⟨rr,dd⟩:∃rr,tw[i]?=some rr:=⟨_,Uq hit⟩;obtain⟨bV,eH⟩:=fu.out rr (UA dd);obtain⟨tg,to_,ro,rc,fL,eO,bt,cC⟩:=(bU.at_ aE av.out.gr).2 i (zI rr) za;have eV:(zI rr).length=al.length:=by unfold zI;simp_all
    rw[eV] at bt;obtain⟨x,hx⟩:∃x,rr[j]?=some x:=⟨_,Uq zo⟩;have hxl:=eH x (UA hx);obtain⟨rg,r0,fT,eG,eF⟩:=cC j (x:Int) (by unfold zI;simp_all);have htc2:=(Fd aB _ _ eO).trans bt;have hrc2:=(Fd aB _ _ eG).trans eF;have htg2:=Uw eO aB.size;have hrg2:=Uw eG aB.size;have eS:x<bs.length:=by rw[cp.out];omega
    have df:x<(gK bs).size:=by rw[lN];omega
    have hxsi:(x:Int)<((gK bs).size:Int):=zo;have bl:=oL df (Uq eS:bs[x]?=some bs[x]);have cq:=fy (fm.out i rr x bs[x] dd hx (Uq eS));obtain⟨⟨z0,vc⟩,vf,lv⟩:=HY.out.slot (k:=i) (by rw[nL (by rw[a8.out];omega),a8.out];omega);have HY2:Hid (∀n,BW wS ((wr.drewN n).setCell (TU wS.heap.size i) (xd .u8 ((gK bs)[x].toNat:Int))) (iE s2 (i+1))):=λn=>by
     rw[mR cq.out];exact(HY.out.later (iK wr n)).set i bs[x] (by rw[bl,qU])
    have fz:Hid (∀W,XL wr W->BW wS (W.setCell (TU wS.heap.size i) (xd .u8 ((gK bs)[x].toNat:Int))) (iE s2 (i+1))):=λW hW=>by
     rw[mR cq.out];exact(HY.out.later hW).set i bs[x] (by rw[bl,qU])
    have ey:wS.heap.size≠pb:=zo;have ez:wS.heap.size≠tg:=zo;have eA:wS.heap.size≠rg:=zo;subst br fL fT;clear aQ bt eF cC dd hx aB bl HY2 eH bV eV;go_wp2_with fail;refine R' (S:=λw'=>w'.cell? (TU pb k)=some (xj (gK bs))/\w'.cell? (TU tg (to_+i))=some (xa (some (TU rg r0)) al.length rc)/\w'.cell? (TU rg (r0+j))=some (xd xh (x:Int))) zk ?_ (λI=>?_)
    .simp_all
    apply zt1 0 (xa (TT wS.heap.size) l.length l.length) I;apply zt1 1 (xd xh (i:Int)) I;apply zt1 2 (xa (TT pb) M.length b3) I;apply zt1 3 (xd xh (k:Int)) I;apply zt1 4 (xk (some (TU pb k))) I;apply zt1 5 (xj (gK bs)) I;apply zt1 6 (xa (some (TU tg to_)) tw.length hc) I;apply zt1 7 (xd xh (i:Int)) I;apply zt1 8 (xk (some (TU tg (to_+i)))) I;apply zt1 9 (xa (some (TU rg r0)) al.length rc) I;apply zt1 10 (xd xh (j:Int)) I;apply zt1 11 (xk (some (TU rg (r0+j)))) I;apply zt1 12 (xd xh (x:Int)) I;apply zt1 13 (xd .u8 ((gK bs)[x].toNat:Int)) I;apply zt1 14 (xk (some (TU wS.heap.size i))) I;apply zrH 15;intro K hK;have eY:=vc;have e1:=vf;go_simp;refine hK.out _ _ ⟨(XK ey).trans I.1,(XK ez).trans I.2.1,(XK eA).trans I.2.2⟩ (λI=>?_);clear hK K;refine Ut zk ?_ _;clear I eY e1;go_wp2
    go_roundw
    .exact⟨i+1,zo,zf,fy (fz.out wr.drew ((XF).drew))⟩
    simp[intOf];omega
   have eo:i=s2.length:=by rw[a8.out];omega
   rw[eo,nK] at HY;clear eo;have bB:=av.out.later HY.out.bel;have cc:=HU.out.later HY.out.bel;have dy:=fy (λW (hW:Below _ _ W)=>td (HY.out.later hW).blk a8.out);have hMc:M.length<=106:=zo;have e':=Uo wr.heap.size wr;clear HY av HU;go_wp2_with fail;generalize wr=w6 at *
   go_loopw [18,19] (λz x wr=>∃(m:Nat)(zz:Int),m<=M.length/\z=xd xh zz/\x=xd xh m/\Hid (XL w6 wr)/\Hid ((zz= -1/\iV s2 (M.take m) 0=none)\/∃a:Nat,zz=(a:Int)/\iV s2 M 0=some a)) (λ_ x _=>M.length-(intOf x).toNat)
   .exact⟨0,-1,Ux,rfl,rfl,e',fy (Ro ⟨rfl,rfl⟩)⟩
   obtain⟨m,zz,hmM,rfl,rfl,J,HF⟩:=hrel;have cj:=λn=>dy.out _ (J.out.trans ((iK wr n).mono J.out.size))
   have cB:=dy.out wr J.out;rcases HF.out with⟨rfl,hfn⟩|⟨a,rfl,hfa⟩
   .rcases zc m M.length with⟨aw,hmn⟩|⟨aw,hmn⟩
    .obtain⟨pb,br,aW,aQ⟩:=gT (bB.later J.out).st aw;have bh:wr.cell? (TU pb m)=some (xj (gK M[m])):=aQ.trans (by unfold nG;simp_all);have fE:=Uq aw;have bF:Hid (M.take (m+1)=M.take m++[M[m]]):=by show _=_;simp
     have cN:Hid (M=M.take m++(M[m]::M.drop (m+1))):=by show _=_;simp
     have b8:=fy hfn;subst br;clear aQ fE hfn HF;generalize M[m]=mm at *;by_cases he:mm=s2
     .have hbe:((gK mm).toList==(gK s2).toList)=true:=za;have cJ:Hid (iV s2 M 0=some m):=by
       show _=_;rw[cN.out,qC,b8.out,he];simp only[iV,VF,Xf,Vi];simp_all
      have fH:gK mm=gK s2:=by rw[he]
      clear he b8 bF cN;go_wp2;go_quiet (fail);go_wp2
      go_roundw
      .exact⟨m+1,(m:Int),zo,rfl,zf,fy (J.out.trans ((iK wr nq).mono J.out.size)),fy (Rh ⟨m,rfl,cJ.out⟩)⟩
      simp[intOf];omega
     have ew:=qX (λe=>he (Dw e));have cJ:Hid (iV s2 (M.take (m+1)) 0=none):=by
      show _=_;rw[bF.out,qC,b8.out];simp[iV,he]
     have fH:=λe=>he (Dw e)
     clear he b8 bF cN;go_wp2;go_quiet (fail);go_wp2
     go_roundw
     .exact⟨m+1,-1,zo,rfl,zf,fy (J.out.trans ((iK wr nq).mono J.out.size)),fy (Ro ⟨rfl,cJ.out⟩)⟩
     simp[intOf];omega
    have ee:iV s2 M 0=none:=by rw[UF zo] at hfn;omega
    rw[uT ee] at ba;have aD:=bB.later J.out;have bj:=cc.later J.out;have bZ:=aD.gr.size;clear ee hfn HF bB cc J cj
    go_wp2_with (at_builtin;go_must (refine qu rfl _ _ 25 rfl _ w3.heap.size 9 sI rfl underlying25 (v:=xa eW M.length b3) (n:=M.length) (xs:=nG M) rfl (xj (gK s2)) rfl rfl aD.st zo bZ (by first|rfl|simp[Ru]) ?_))
    intro g9 dN w9 eC en dZ;have an:=ir wr (xi #[xj (gK s2)] 9);obtain⟨cV,cY⟩:=(aD.later an).set (bj.later an) eC en;have eL:=cV.gr.size;clear eC en dZ an aD bj cB
    go_wp2_with (at_builtin;go_must (refine qu rfl _ _ 33 rfl _ w3.heap.size 3 oe rfl underlying33 (n:=j) (xs:=gX q) rfl (xd xh (M.length:Int)) rfl rfl ?b0 zo eL (by first|rfl|simp[Ru]) ?_))
    case b0=>have h1:=cY.own;rw[ca.out] at h1;exact h1
    intro gA bH wA bS bP aN;have an:=ir w9 (xi #[xd xh (M.length:Int)] 3);obtain⟨cW,cZ⟩:=(cV.later an).num (cY.later an) (x:=M.length) (by rw[ca.out];exact bS) bP rfl (aN.imp id (λh=>zs));have hlM:(M++[s2]).length=M.length+1:=zp;clear bS bP aN an cV cY;go_wp2
    go_roundw
    .exact⟨j+1,TT g9,dN,M++[s2],q++[M.length],TT gA,bH,zo,zp,rfl,zf,cW,cZ,ba⟩
    simp[intOf];omega
   rw[uU hfa] at ba;have aD:=bB.later J.out;have bj:=cc.later J.out;have bZ:=aD.gr.size;have haM:a<M.length:=by have:=(List.getElem?_eq_some_iff.1 (mE hfa).2).1;omega
   have ha0:¬ ((a:Int)<0):=zo;clear hfa HF bB cc J cj cB;by_cases aw:(m:Int)<(M.length:Int)
   all_goals (
    go_wp2_with (at_builtin;go_must (refine qu rfl _ _ 33 rfl _ w3.heap.size 3 oe rfl underlying33 (v:=xa vo j vc) (n:=j) (xs:=gX q) rfl (xd xh (a:Int)) rfl rfl (by have h1:=bj.own;rw[ca.out] at h1;exact h1) zo bZ (by first|rfl|simp[Ru]) ?_))
    intro gA bH wA bS bP aN;have an:=ir wr (xi #[xd xh (a:Int)] 3);obtain⟨cW,cZ⟩:=(aD.later an).num (bj.later an) (x:=a) (by rw[ca.out];exact bS) bP rfl (aN.imp id (λh=>zs));clear bS bP aN an aD bj;go_wp2
    go_roundw
    case rel=>exact⟨j+1,eW,b3,M,q++[a],TT gA,bH,zo,rfl,rfl,zf,cW,cZ,ba⟩
    case measure=>simp[intOf];omega)
  have fM:j=al.length:=zo;subst fM;obtain⟨n2,hn2⟩:∃n2,102-k=n2+1:=⟨101-k,zo⟩;rcases zc 100 M.length with⟨hbig,hbi⟩|⟨hbig,hbi⟩
  .have cP:Hid (kE (setB tw) (Ri al.length) 100 102 0 [K0] []=none):=by
    show _=_;rw[HEQ.out,hn2];exact B6 HX.out (by rw[HRN.out];omega)
   have aj:=(av.out.gr.block (w.heap.size+1) zo (λe=>za)).trans cu;have bC:=a6.grown av.out.gr a6.size (λb hb=>by cases hb;omega);have fX:=EQ aj;have fY:=gh aj;have fZ:=dK aj;clear hn2 av HU;go_wp2_with fail;change bodyPost _ _ _ _ _ (jb wr (w.heap.size+1) TV TV TV);have bO:=jf aj TV TV TV;have c6:=iY bC (show w.heap.size<=w.heap.size+1 from zo) TV TV TV;generalize jb wr (w.heap.size+1) TV TV TV=wf at *;have cU:=EQ bO;refine py (v:=.tuple #[.agg #[TV,TV,TV],xn false]) (by simp[results,results142,go_sem,cU]) rfl ?_;refine⟨none,dx.out _ ⟨l,tw,?_,?_⟩,c6,rfl⟩
   .rw[UL];exact aC
   rw[UL,b9.out,cP.out];rfl
  have dz:Hid (kE (setB tw) (Ri al.length) 100 102 0 [K0] []=kE (setB tw) (Ri al.length) 100 (102-(k+1)) (k+1) M (rows++[q])):=by
   exact zm152
  have dv:Hid (R7 (setB tw) (Ri al.length) K0 (k+1) M (rows++[q])):=by
   have:=aK.out.step HX.out;rw[HRN.out] at this;exact this
  have fi:Hid ((M.take (k+1)).map kh=(ms.take k).map kh++[kh bs]):=by
   show _=_;rw[cO.out,VV zo,U5,HX.out,U1];rfl
  have cy:1<=bs.length:=by rw[cp.out,bG.out];omega
  have fD:0<(gK bs).size:=by rw[lN];omega
  have h0si:(0:Int)<((gK bs).size:Int):=zo;have ed:((gK bs)[0].toNat:Int)=(kh bs:Int):=by
   rw[oL fD (Uq cy:bs[0]?=some bs[0])];unfold kh;rw[Uq cy];simp only[Wl]
   split<;>rfl
  have fa:=fy ed;have hbd0:(gK bs)[0].toNat<=255:=by have:=(gK bs)[0].toNat_lt;omega
  have hwr0:IntKind.i64.wrap ((gK bs)[0].toNat:Int)=((gK bs)[0].toNat:Int):=by rw[UR];omega
  have cn:=EQ av.out.blk 2;have gb:=dK av.out.blk;clear hn2 ed
  go_wp2_with (at_builtin;go_must (refine qu rfl _ _ 34 rfl _ w3.heap.size 33 sH rfl underlying34 (v:=xa xo k xc) (n:=k) (xs:=rv) rfl (xa vo al.length vc) rfl rfl (by have h1:wr.ownsRow w3.heap.size 33 1 (xa xo k xc) rows.length rv:=av.out.tab.nx;rw[dG.out] at h1;exact h1) zo eK (by first|rfl|simp[Ru]) ?_))
  intro gN bI wN eD c9 d';have an:=ir wr (xi #[xa vo al.length vc] 33);have cd:=av.out.later an;have aT:=cd.row (HU.out.later an) (X':=xa (TT gN) (k+1) bI) (by rw[dG.out];exact eD) c9;have aI:=(cd.own cd.tab.nx c9 zp).1;have f':=EQ aI 2;have ga:=gh aI 2;have gd:=dK aI;clear eD c9 d' an cd aI cn gb av HU aP aw;go_wp2_with fail;generalize wN.setCell (TU w1.heap.size 2) (xa (TT gN) (k+1) bI)=wQ at *;clear f' ga gd;have fj:Hid (wQ.ownsRow w3.heap.size 3 1 (xa fo k fc) k (gX ((ms.take k).map kh))):=by
   have h1:=aT.tab.fl;rw[UL,Vi,Wu zo] at h1;exact h1
  obtain⟨pb,br,aW,aQ⟩:=gT aT.st c';have hpb3:=(gJ aT.st pb (by rw[br];rfl)).1;have bh:wQ.cell? (TU pb k)=some (xj (gK bs)):=aQ.trans (by unfold nG;rw[UG,cS.out];rfl);have tc:=EQ aT.blk;have tl:=dK aT.blk;have eM:=aT.gr.size;subst br;clear aQ;have ar:XL wQ (wQ.alloc (xi #[xd xh ((gK bs)[0].toNat:Int)] 3)).drew:=gC.drew;have bY:=UP eM ar.size;refine R' (S:=λw'=>w'.cell? (TU pb k)=some (xj (gK bs))) zk ?_ (λI=>?_)
  .simp_all
  apply zt1 0 (xk (some (TU w1.heap.size 1))) I;apply zt1 2 (xa (TT pb) M.length b3) I;apply zt1 3 (xd xh (k:Int)) I;apply zt1 4 (xk (some (TU pb k))) I;apply zt1 5 (xj (gK bs)) I;apply zt1 6 (xd .u8 ((gK bs)[0].toNat:Int)) I;apply zt1 7 (xd xh ((gK bs)[0].toNat:Int)) I;refine zrH2 1 8 (λK hK=>?raq) λK hK=>?rbq
  case' raq=>(go_simp;refine hK.out _ _ I (λI=>?_);clear hK K;apply zrH 8;intro K hK;go_simp;refine hK.out _ _ ((XJ aW).trans bh) (λI=>?_);clear hK K)
  case' rbq=>(go_simp;refine hK.out _ _ ((XJ aW).trans bh) (λI=>?_);clear hK K;apply SR 1 I;intro I)
  all_goals (
   apply zrH 9;intro K hK;refine DB zf _ _ 33 zf w3.heap.size 3 oe rfl underlying33 (v:=xa fo k fc) (n:=k) (xs:=gX ((ms.take k).map kh)) zf (H:=wQ.heap.size) (xd xh ((gK bs)[0].toNat:Int)) zf rfl (gq fj.out ar) (gi wQ _) zo bY ?_;intro g4 aq w4 ax au bd;have U:=au;have aV:=aT.later ar;have aH:=(aV.own aV.tab.fl U zp).1;have di:=EQ aH 1;have dj:=gh aH 1;have dm:=dK aH;have cD:=gG aV.st U (iA aV.st aV.tab.fl zp);obtain⟨pb',eE,_,ec⟩:=gT cD c';cases eE;have dR:w4.cell? (TU pb k)=some (xj (gK bs)):=ec.trans (by unfold nG;rw[UG,cS.out];rfl);have dt:=fy (aV.flag (F':=xa (TT g4) (k+1) aq) (f:=kh bs) (by rw[<-fa.out,UL,Vi,Wu zo];exact ax) U rfl bd);rw[<-fi.out] at dt;refine hK.out _ _ dR (λI=>?_);clear hK K;clear ax au bd U aV aH cD ec dR tc tl;apply zt1 10 (xk (some (TU w1.heap.size 1))) I;apply zrH 11;intro K hK;go_simp;refine hK.out _ _ ((XK (by show w1.heap.size≠pb;omega)).trans I) (λI=>?_);clear hK K;refine Ut zk ?_ _;clear I;clear di dj dm ar bY;go_wp2
   go_roundw
   case rel=>exact⟨k+1,TT pb,b3,M,TT g4,aq,TT gN,bI,rows++[q],rv++[xa vo al.length vc],rfl,zf,dt,dv,zo,dz⟩
   case measure=>simp[intOf];omega
   )
 have cr:Hid (k=ms.length):=by show _=_;omega
 have eX:=EQ aA.out.blk 0;have dh:=EQ aA.out.blk 1;have cn:=EQ aA.out.blk 2;have tl:=dK aA.out.blk;go_wp2_with fail;clear eX dh cn tl hkn;have bq:=cr.out;clear cr;have cR:Hid (kE (setB tw) (Ri al.length) 100 102 0 [K0] []=some (ms,rows)):=by
  show _=_;obtain⟨n2,hn2⟩:∃n2,102-k=n2+1:=⟨101-k,zo⟩;rw[HEQ.out,hn2];exact EL zo
 have eP:ms.take k=ms:=UF zo;rw[eP] at aA;subst bq;have bR:1<=ms.length:=by have:=(List.getElem?_eq_some_iff.1 aK.out.first).1;omega
 have bV:=aK.out.len;have cb:=fy (Hf aK.out);have dI:=aA.out.full (base:=w1.heap.size) (names:=al.map (·.s)) aF.size (by rw[UL];exact ct) aE;have fp:Hid (Tr ⟨al.map (·.s),ms.map kh,rows⟩ al.length ms.length):=⟨zp,bV,zp,ew,h6,bR,fO,λr hr=>⟨(cb.out r hr).1,λx hx=>by rw[<-bV];exact(cb.out r hr).2 x hx⟩⟩;obtain⟨dU,-⟩:=dI.read ⟨zs,by show rows.length<=1000;omega,zs,λr hr=>by rw[(cb.out r hr).1];omega⟩;obtain⟨fb,f0,nb',n0,rb,ro,rc,ek,eU,hK⟩:=JL dU fp.out;have ej:wr.ownsRow w3.heap.size 3 1 (xa fo ms.length fc) ms.length (gX (ms.map kh)):=by
  have h1:=aA.out.tab.fl;rw[UL] at h1;exact h1
 obtain⟨fg,fK,-,-⟩:=gT ej bR;have b':Hid (∀(i:Nat)(b:T7),ms[i]?=some b->(LE ⟨al.map (·.s),ms.map kh,rows⟩ i↔true∈b)):=λi b hb=>
  AE (t:=⟨al.map (·.s),ms.map kh,rows⟩) aC (by rw[b9.out];exact aK.out) (λi b hb=>⟨kh b,za,Nj b⟩) hb
 have cL:=x9 ao al.length ac fc xc rb ro rc hK;rw[<-ek,<-eU] at cL;clear eP dU hK ej ek eU HEQ bV;subst fK;refine cL.mono ?_;rintro e w7 ⟨LL,rfl,fF,ep,er,ea⟩;have aD:Hid (Sj w3 w7 w1.heap.size so sc ms (xa ao al.length ac) (xa (TT fg) ms.length fc) (xa xo ms.length xc) (oY ms 0) rows rv):=by
  show Sj _ _ _ _ _ _ _ _ _ _ _ _;rw[KO];exact aA.out.later ea
 have cK:=fy ep;have dB:=fy er;clear ep er ea cL aA dI;go_wp2_with fail;generalize wr.heap.size+1=ab at *
 go_loopw [21] (λx wr=>∃i:Nat,i<=ms.length/\x=xd xh i/\Hid (Sj w3 wr w1.heap.size so sc ms (xa ao al.length ac) (xa (TT fg) ms.length fc) (xa xo ms.length xc) (oY ms i) rows rv)/\Hid (wr.heap[ab]?=some (xi (mA LL) 4 (0,0)))) (λx _=>ms.length-(intOf x).toNat)
 .exact⟨0,Ux,rfl,aD,fF⟩
 obtain⟨i,hi,rfl,ak,bA⟩:=hrel;have dh:=EQ ak.out.blk 1;have tl:=dK ak.out.blk;rcases zc i ms.length with⟨hil,hin⟩|⟨hil,hin⟩
 .have bn:=Uq hil;have cg:LL[i]?=some (LL[i]'(by rw[cK.out];omega)):=Uq _;have hac:=(EQ bA.out i).trans (qV cg);have dY:=dK bA.out;have bf:=(dB.out i).trans (b'.out i _ bn);have bQ:lv LL i=LL[i]'(by rw[cK.out];omega):=by unfold lv;rw[cg];rfl
  rw[bQ] at bf;have bT:(ms[i]).any id=true↔true∈ms[i]:=by
   simp
  have aJ:=KN bn;have aX:=λh=>KM bn h
  have bl:=O7 bn;have hle:=O6 ms[i];have dO:=Nk ms[i];generalize LL[i]'(by rw[cK.out];omega)=x at *;generalize ms[i]=bm at *;have aL:Hid (wr.ownsRow w3.heap.size 3 1 (xa (TT fg) ms.length fc) ms.length (gX (oY ms i))):=by
   have h1:=ak.out.tab.fl;rw[zD] at h1;exact h1
  obtain⟨fg',fI,hfl8,c8⟩:=gT aL.out hil;cases fI;have eg:wr.cell? (TU fg i)=some (xd xh (kh bm:Int)):=c8.trans (by unfold gX;simp_all);obtain⟨fcs,bN⟩:=jj aL.out (b:=fg) rfl;have fJ:=gh bN i;have hfg3:=(gJ aL.out fg rfl).1;have ef:fg≠ab:=λe=>by
   simp_all
  cases x with
  |true=>
   have bK:=bT.2 (bf.1 rfl);have bJ:jR bm=kh bm+2:=za;have cI:Hid (∀n,Sj w3 ((wr.drewN n).setCell (TU fg i) (xd xh ((kh bm:Int)+2))) w1.heap.size so sc ms (xa ao al.length ac) (xa (TT fg) ms.length fc) (xa xo ms.length xc) (oY ms (i+1)) rows rv):=λn=>by
    rw[aJ,bJ];exact(ak.out.later (iK wr n)).fset (zD ms i) i (kh bm+2)
   have dr:Hid (∀W,XL wr W->Sj w3 (W.setCell (TU fg i) (xd xh ((kh bm:Int)+2))) w1.heap.size so sc ms (xa ao al.length ac) (xa (TT fg) ms.length fc) (xa xo ms.length xc) (oY ms (i+1)) rows rv):=λW hW=>by
    rw[aJ,bJ];exact(ak.out.later hW).fset (zD ms i) i (kh bm+2)
   have e9:Hid (∀W,XL wr W->(W.setCell (TU fg i) (xd xh ((kh bm:Int)+2))).heap[ab]?=some (xi (mA LL) 4 (0,0))):=λW hW=>(XE (λe=>ef e.symm)).trans ((hW.block _ dY).trans bA.out)
   have hwr9:IntKind.i64.wrap ((kh bm:Int)+2)=(kh bm:Int)+2:=by rw[UR];omega
   clear cI dO bJ bK bT bf aJ aX bl bn cg bQ aL c8 bN ak bA;go_wp2_with fail;refine R' (S:=λw'=>w'.cell? (TU w1.heap.size 1)=some (xa (TT fg) ms.length fc)) zk ?_ (λI=>?_)
   .exact dh
   apply zt1 0 (xk (some (TU w1.heap.size 1))) I;apply zt1 1 (xa (TT fg) ms.length fc) I;apply zt1 2 (xd xh (i:Int)) I;apply zt1 3 (xk (some (TU w1.heap.size 1))) I;apply zt1 4 (xa (TT fg) ms.length fc) I;apply zt1 5 (xd xh (i:Int)) I;apply zt1 6 (xk (some (TU fg i))) I;apply zrH 7;intro K hK;have eh:=eg;have ei:=fJ;go_simp;refine hK.out _ _ I (λI=>?_);clear hK K;apply zt1 8 (xd xh ((kh bm:Int)+2)) I;apply zt1 9 (xk (some (TU fg i))) I;apply zrH 10;intro K hK;go_simp;refine hK.out _ _ ((XK (by show fg≠w1.heap.size;omega)).trans I) (λI=>?_);clear hK K;refine Ut zk ?_ _;clear I eh ei;go_wp2
   go_roundw
   .exact⟨i+1,zo,zf,fy (dr.out wr.drew ((XF).drew)),fy (e9.out wr.drew ((XF).drew))⟩
   simp[intOf];omega
  |false=>
   have bK:¬ bm.any id=true:=λh=>za
   have cI:Hid (Sj w3 wr w1.heap.size so sc ms (xa ao al.length ac) (xa (TT fg) ms.length fc) (xa xo ms.length xc) (oY ms (i+1)) rows rv):=by
    show Sj _ _ _ _ _ _ _ _ _ _ _ _;rw[aX za];exact ak.out
   clear dO bK bT bf aJ aX bl bn cg bQ aL c8 bN ak;go_wp2
   go_roundw
   .exact⟨i+1,zo,zf,cI,bA⟩
   simp[intOf];omega
 rw[No zo] at ak;have aj:=(ak.out.gr.block (w.heap.size+1) zo (λe=>za)).trans cu;have bC:=a6.grown ak.out.gr a6.size (λb hb=>by cases hb;omega);have dJ:=((ak.out.full (base:=w1.heap.size) (names:=al.map (·.s)) aF.size (by rw[UL];exact ct) aE).toW (λr hr=>by rw[(cb.out r hr).1];omega)).mono (base':=w.heap.size) zo;have fX:=EQ aj;have fY:=gh aj;have fZ:=dK aj;have eX:=EQ ak.out.blk 0;have cn:=EQ ak.out.blk 2;clear ak;go_wp2_with fail;change bodyPost _ _ _ _ _ (jb wr (w.heap.size+1) (xa ao al.length ac) (xa (TT fg) ms.length fc) (xa xo ms.length xc));have bO:=jf aj (xa ao al.length ac) (xa (TT fg) ms.length fc) (xa xo ms.length xc);have c6:=iY bC (show w.heap.size<=w.heap.size+1 from zo) (xa ao al.length ac) (xa (TT fg) ms.length fc) (xa xo ms.length xc);have cl:=ow aj dJ (A':=xa ao al.length ac) (F':=xa (TT fg) ms.length fc) (X':=xa xo ms.length xc);generalize jb wr (w.heap.size+1) (xa ao al.length ac) (xa (TT fg) ms.length fc) (xa xo ms.length xc)=wf at *;have cU:=EQ bO;refine py (v:=.tuple #[.agg #[xa ao al.length ac,xa (TT fg) ms.length fc,xa xo ms.length xc],xn true]) (by simp[results,results142,go_sem,cU]) rfl ?_;refine⟨some ⟨al.map (·.s),ms.map jR,rows⟩,dx.out _ ⟨l,tw,?_,?_⟩,c6,_,_,_,rv,rfl,cl⟩
 .rw[UL];exact aC
 rw[UL,b9.out,cR.out];rfl
def Sq(s:Ub)(w w':Uc)(e:Ending):Prop:=
 match iz s with
 |.error x=>XL w w'/\e=xm (.tuple #[.agg #[TV,TV,TV],xd xh x.2])
 |.ok (al,rs)=>∃o,rN al rs o/\oq C' w o w' e
def Sq.err{s:Ub}{x:T3}(h:iz s=.error x)(I:XL w w')(he:e=xm (.tuple #[.agg #[TV,TV,TV],xd xh x.2])):Sq s w w' e:=by
 unfold Sq;rw[h];exact⟨I,he⟩
def Sq.ok{s:Ub}(h:iz s=.ok (al,rs)){o:Option Tb}(ho:rN al rs o)(I:oq C' w o w' e):Sq s w w' e:=by
 unfold Sq;rw[h];exact⟨o,ho,I⟩
def uo(s:Ub)(w:Uc):Calls prog 97 #[xj s] w λe w'=>Sq s w w' e:=by
 have aB:=fy (ir w (xi #[TV,TV,TV] 36));have aH:=wV s (w.alloc (xi #[TV,TV,TV] 36));have ax:=gi w (xi #[TV,TV,TV] 36);go_in;go_wp2_with fail;refine aH.mono ?_;generalize w.alloc (xi #[TV,TV,TV] 36)=W at *;rintro e w1 ⟨av,hm⟩;have aa:=(av.block _ (dK ax)).trans ax;have ar:=aB.out.trans (av.mono aB.out.size);cases hr:iz s with
 |error x=>
  rw[hr] at hm;have az:=my hr;have HX:=fy hr;obtain⟨xp,xe⟩:=x;replace az:xe≠0:=az;have hne':¬ ((xe:Nat):Int)=0:=zo;subst hm;have U:=ir w1 (xi #[TV,TV] 228);have ai:=(U.block _ (dK aa)).trans aa;have aj:=ar.trans (U.mono ar.size);have rc:=EQ ai;have rf:=gh ai;clear hr av az U aa;go_wp2_with fail;change bodyPost _ _ _ _ _ (jb (w1.alloc (xi #[TV,TV] 228)) w.heap.size TV TV TV);have ae:=jf ai TV TV TV;have an:=iY aj (XH) TV TV TV;generalize jb (w1.alloc (xi #[TV,TV] 228)) w.heap.size TV TV TV=wf at *;have ak:=EQ ae;refine py (v:=.tuple #[.agg #[TV,TV,TV],xd xh xe]) (by simp[results,results97,go_sem,ak]) rfl ?_;exact Sq.err HX.out an rfl
 |ok m=>
  obtain⟨al,rs⟩:=m;rw[hr] at hm;obtain⟨o1,n1,k1,o2,n2,k2,rfl,aD,aE⟩:=hm;have hg:=lK hr;have h6:al.length<=6:=by have:=(vI hr).n6;simp_all
  have aq:=ir w1 (xi #[xa o1 n1 k1,xa o2 n2 k2] 228);have HT:=Hp hg h6 ((KT.below aq).acts aD) (aE.later aq);have aj:=ar.trans (aq.mono ar.size);have ai:=(aq.block _ (dK aa)).trans aa;have HX:=fy hr;clear hr aD aE hg aq av aa;go_wp2_with fail;refine HT.mono ?_;generalize w1.alloc (xi #[xa o1 n1 k1,xa o2 n2 k2] 228)=w2 at *;rintro e w3 ⟨o,ho,aw,hm⟩;have J:=(aw.block _ (dK ai)).trans ai;have au:=aj.trans (aw.mono aj.size);have aL:=aj.size;cases o with
  |none=>
   have aJ:e=xm (.tuple #[.agg #[TV,TV,TV],xn false]):=hm;subst aJ;have U:=ir w3 (xi #[TV,TV,TV] 36);have I:=(U.block _ (dK J)).trans J;have ay:=au.trans (U.mono au.size);have rc:=EQ I;have rf:=gh I;have rl:=dK I;clear hm aw J U;go_wp2_with fail;change bodyPost _ _ _ _ _ (jb (w3.alloc (xi #[TV,TV,TV] 36)) w.heap.size TV TV TV);have ae:=jf I TV TV TV;have an:=iY ay (XH) TV TV TV;generalize jb (w3.alloc (xi #[TV,TV,TV] 36)) w.heap.size TV TV TV=wf at *;have ak:=EQ ae;refine py (v:=.tuple #[.agg #[TV,TV,TV],xd xh 5]) (by simp[results,results97,go_sem,ak]) rfl ?_;exact Sq.ok HX.out ho ⟨an,rfl⟩
  |some t=>
   obtain⟨A,F,X,rv,he,ag⟩:=hm;obtain⟨ao,ac,rfl⟩:=ib ag.acts;obtain⟨fo,fc,rfl⟩:=ib ag.fl;obtain⟨no,nc,rfl⟩:=ib ag.nx;have aI:e=xm (.tuple #[.agg #[xa ao t.acts.length ac,xa fo t.fl.length fc,xa no t.nx.length nc],xn true]):=he;subst aI;clear he;have U:=ir w3 (xi #[xa ao t.acts.length ac,xa fo t.fl.length fc,xa no t.nx.length nc] 36);have I:=(U.block _ (dK J)).trans J;have ay:=au.trans (U.mono au.size);have aC:=(ag.later U).mono aL;have hbx:=gi w3 (xi #[xa ao t.acts.length ac,xa fo t.fl.length fc,xa no t.nx.length nc] 36);have rc:=EQ I;have rf:=gh I;have rl:=dK I;clear aw J U ag;go_wp2_with fail;change bodyPost _ _ _ _ _ (jb (w3.alloc (xi #[xa ao t.acts.length ac,xa fo t.fl.length fc,xa no t.nx.length nc] 36)) w.heap.size (xa ao t.acts.length ac) (xa fo t.fl.length fc) (xa no t.nx.length nc));have ae:=jf I (xa ao t.acts.length ac) (xa fo t.fl.length fc) (xa no t.nx.length nc);have an:=iY ay (XH) (xa ao t.acts.length ac) (xa fo t.fl.length fc) (xa no t.nx.length nc);have aK:=ow I aC (A':=xa ao t.acts.length ac) (F':=xa fo t.fl.length fc) (X':=xa no t.nx.length nc);generalize jb (w3.alloc (xi #[xa ao t.acts.length ac,xa fo t.fl.length fc,xa no t.nx.length nc] 36)) w.heap.size (xa ao t.acts.length ac) (xa fo t.fl.length fc) (xa no t.nx.length nc)=wf at *;have ak:=EQ ae;refine py (v:=.tuple #[.agg #[xa ao t.acts.length ac,xa fo t.fl.length fc,xa no t.nx.length nc],xd xh 0]) (by simp[results,results97,go_sem,ak]) rfl ?_;exact Sq.ok HX.out ho ⟨an,_,_,_,rv,rfl,aK⟩
def ui{l m:TZ}(U:So w ao l)(h2:So w bo m)(hl:l.length<=10000000000000)(hm:m.length<=10000000000000):
  Calls prog 61 #[xa ao l.length ac,xa bo m.length bc] w λe w'=>Lz (l=m) e/\XL w w':=by
 have H1:=U;clear U;by_cases hlm:l.length=m.length
 .generalize hn:m.length=n at *;have HN:=fy hn;have HL:=fy hlm;rw[hlm];clear hn hlm hl;go_in;go_wp2
  go_loopw [5] (λx wr=>∃k:Nat,k<=n/\x=xd xh k/\Hid (XL w wr)/\Hid (l.take k=m.take k)) (λx _=>n-(intOf x).toNat)
  .exact⟨0,Ux,rfl,XF,rfl⟩
  obtain⟨k,hk,rfl,HB,HK⟩:=hrel;rcases zc k n with⟨hlt,hkn⟩|⟨hlt,hkn⟩
  .have I:k<l.length:=by rw[HL.out];omega
   have J:k<m.length:=by rw[HN.out];omega
   obtain⟨b,off,rfl,hb,hc⟩:=H1.later HB.out k l[k] (Uq I);obtain⟨b2,off2,rfl,hb2,hc2⟩:=h2.later HB.out k m[k] (Uq J);have HX:=fy (Uq I);have HY:=fy (Uq J);generalize l[k]=x at *;generalize m[k]=y at *;by_cases hxy:x=y
   .exact zm62
   have HNE:Hid (¬ l=m):=λe=>by
    have U:=HX.out;rw[e,HY.out] at U;simp_all
   have hne:(x.toList==y.toList)=false:=V3.2 λe=>hxy (by
    apply lQ;rw[Ui,Ui] at e;omega)
   clear hxy;exact zm149
  have HE:Hid (l=m):=by
   have:=HK.out;rw[UF (by rw[HL.out];omega),UF (by rw[HN.out];omega)] at this;exact this
  go_wp2;go_ret;exact⟨Lz.yes HE.out,HB.out⟩
 exact zm104
theorem wv{s:Ub}(h:iz s=.ok (al,rs))(hc:rN al rs (some t)):Fn t:=by
 obtain⟨e,l,tw,m,I⟩:=Sz.some hc;exact I.right (by rw[e];exact vI h)
def Sq.two{s:Ub}(h:Sq s w w' e):(∃x:Nat,x≠0/\e=xm (.tuple #[.agg #[TV,TV,TV],xd xh x])/\XL w w')\/∃t,DecT t w w' e:=by
 unfold Sq at h;cases hr:iz s with
 |error x=>
  rw[hr] at h;exact Ro ⟨x.2,my hr,h.2,h.1⟩
 |ok m=>
  obtain⟨al,rs⟩:=m;rw[hr] at h;obtain⟨o,ho,I⟩:=h;cases o with
  |none=>exact Ro ⟨5,zp,I.2,I.1⟩
  |some t=>exact Rh ⟨t,DecT.of rfl (wv hr ho) I⟩
def Hr{no:TX}(fc nc:Nat)(t:Tb)(hI:SN w ao fo no ac t.z)(I:na=t.acts.length)(J:nf=t.fl.length)(U:nn=t.nx.length):
  Calls prog 102 #[.agg #[xa ao na ac,xa fo nf fc,xa no nn nc]] w λe w'=>(∃(b:Ub)(x:Int),e=xm (.tuple #[xj b,xd xh x])/\b.size<=1000)/\XL w w':=by
 have e1:t.z.fl.length=nf:=by rw[J];exact mh _
 have e2:t.z.nx.length=nn:=by rw[U];unfold Tb.z;simp
 have e3:t.z.acts.length=na:=by rw[I];rfl
 have:=sq fc nc hI;rw[e1,e2,e3] at this;refine this.mono ?_;rintro e w' ⟨⟨u,hu,hR,he⟩|⟨hn,he⟩,hb⟩
 .exact⟨⟨_,_,he,by show(iG u).toArray.size<=1000;rw[WN];exact hR.few⟩,hb⟩
 exact⟨⟨_,_,he,Ux⟩,hb⟩
def Qq(w w':Uc)(e:Ending):Prop:=(∃b:Ub,e=xm (xj b)/\b.size<=1000)/\XL w w'
def wu(s:Ub)(w:Uc):Calls prog 57 #[xj s] w λe w'=>Qq w w' e:=by
 have HC:=uo s w;go_in;go_wp2_with fail;refine HC.mono ?_;clear HC;rintro e w1 hc;rcases hc.two with⟨x,hx,rfl,hb⟩|⟨t,ao,fo,no,ac,fc,nc,rv,rfl,hT,hR,hb⟩
 .have hxi:¬ (x:Int)=0:=zo;have HB:=hb.trans (((Uo w1.heap.size w1).alloc (XH) (xi #[TV,TV,TV] 36)).mono hb.size);clear hb hc hx;go_wp2;go_ret;exact⟨⟨_,rfl,Ux⟩,HB⟩
 have I:=ir w1 (xi #[xa ao t.acts.length ac,xa fo t.fl.length fc,xa no t.nx.length nc] 36);have HB:=hb.trans (I.mono hb.size);have HE:=Hr fc nc t ((hT.later I).read hR.small).1 rfl rfl rfl;clear hb hc hT hR I;generalize t.acts.length=na at *;generalize t.fl.length=nf at *;generalize t.nx.length=nn at *;go_wp2_with fail;refine HE.mono ?_;rintro e w2 ⟨⟨b,x,rfl,U⟩,J⟩;have ae:=HB.trans (J.mono HB.size);have ag:=fy U;clear J HE U;go_wp2;go_ret;exact⟨⟨b,rfl,ag.out⟩,ae⟩
open Go.Maps
def Fy{base:Nat}{fb fc:Nat}(h:RX W base (xa (some (TU ab a0)) A ac) (xa (some (TU fb f0)) n fc) (xa (some (TU nb n0)) n nc) t rv)
  (U:SQ W t A n ab a0 fb f0 nb n0 rb ro rc):base<=ab/\base<=fb/\base<=nb/\∀i,i<n->base<=rb i:=by
 have hn:=U.hn;subst hn;refine⟨pL h.acts rfl,pL h.fl rfl,pL h.nx rfl,λi hi=>?_⟩;have J:i<t.nx.length:=hi;obtain⟨g,c,h1,h2⟩:=h.rows i t.nx[i] (Uq J);obtain⟨b,e1,_,e2⟩:=gT h.nx J;have I:=U.row i hi;cases e1;rw[U2,e2,h1] at I;injection I with I
 injection I with I
 injection I with I
 injection I with I
 rw[<-I];exact pL h2 rfl
def PN(b:T9)(w w':Uc)(e:Ending):Prop:=XL w w'/\
 ((RZ b none/\e=xm (.tuple #[xk none,xd xh 6]))\/
 (∃t,RZ b (some t)/\¬ 2<=jS t 0/\e=xm (.tuple #[xk none,xd xh 7]))\/
 ∃t db A n ab a0 fb f0 nb n0 ac fc nc rb ro rc mb pb D,RZ b (some t)/\2<=jS t 0/\e=xm (.tuple #[xk (TT db),xd xh 0])/\Si w' db t [] A n ab a0 fb f0 nb n0 ac fc nc rb ro rc mb pb D/\
  w.heap.size<=db/\w.heap.size<=mb/\w.heap.size<=ab/\w.heap.size<=fb/\w.heap.size<=nb/\∀i,i<n->w.heap.size<=rb i)
def J'(w:Uc)(b:Ub)(hG:GV w):Calls prog 29 #[xj b] w λe w'=>PN b.data.toList w w' e:=by
 have an:=xX b hG;have hmm:=@run_makeMap prog;clear hG;go_in;go_wp2_with fail;refine an.mono ?_;clear an;rintro e I ⟨o,hr,hd⟩;cases o with
 |none=>
  obtain⟨J,he⟩:=hd;have az:e=xm (.tuple #[.agg #[TV,TV,TV],xd xh 6]):=he;subst az;clear he;have ax:=J.trans (((XF).alloc (XH) (xi #[TV,TV,TV] 36)).mono J.size);clear J;go_wp2_with fail;refine py (v:=.tuple #[xk none,xd xh 6]) (by simp[results,results29,go_sem]) rfl ?_;exact⟨ax,Ro ⟨hr,rfl⟩⟩
 |some t=>
  obtain⟨ao,fo,no,ac,fc,nc,rv,rfl,hT,hR,J⟩:=DecT.of rfl hr.1 hd;obtain⟨ab,a0,fb,f0,nb,n0,rb,ro,rc,rfl,rfl,rfl,hL⟩:=JM (hT.read hR.small).1 hR;have aj:=Fy (by rw[<-hR.fl] at *;exact hT) hL;have aa:XL I (((I.alloc (xi #[xa (some (TU ab a0)) t.acts.length ac,xa (some (TU fb f0)) t.fl.length fc,xa (some (TU nb n0)) t.nx.length nc] 36)).alloc (.map #[] 0)).alloc (xi #[xa (some (TU ab a0)) t.acts.length ac,xa (some (TU fb f0)) t.fl.length fc,xa (some (TU nb n0)) t.nx.length nc,.map (some (I.heap.size+1))] 95)):=(gC.alloc zp _).alloc zs _;have au:(((I.alloc (xi #[xa (some (TU ab a0)) t.acts.length ac,xa (some (TU fb f0)) t.fl.length fc,xa (some (TU nb n0)) t.nx.length nc] 36)).alloc (.map #[] 0)).alloc (xi #[xa (some (TU ab a0)) t.acts.length ac,xa (some (TU fb f0)) t.fl.length fc,xa (some (TU nb n0)) t.nx.length nc,.map (some (I.heap.size+1))] 95)).ownsMap prog 9 l9 (I.heap.size+1) 0 (.map []):=by
   have:=World.ownsMap_made (I.alloc (xi #[xa (some (TU ab a0)) t.acts.length ac,xa (some (TU fb f0)) t.fl.length fc,xa (some (TU nb n0)) t.nx.length nc] 36)) prog 9 l9;have e:(I.alloc (xi #[xa (some (TU ab a0)) t.acts.length ac,xa (some (TU fb f0)) t.fl.length fc,xa (some (TU nb n0)) t.nx.length nc] 36)).heap.size=I.heap.size+1:=zp;rw[e] at this;exact this.alloc _
  have ai:(((I.alloc (xi #[xa (some (TU ab a0)) t.acts.length ac,xa (some (TU fb f0)) t.fl.length fc,xa (some (TU nb n0)) t.nx.length nc] 36)).alloc (.map #[] 0)).alloc (xi #[xa (some (TU ab a0)) t.acts.length ac,xa (some (TU fb f0)) t.fl.length fc,xa (some (TU nb n0)) t.nx.length nc,.map (some (I.heap.size+1))] 95)).heap[I.heap.size+2]?=some (xi #[xa (some (TU ab a0)) t.acts.length ac,xa (some (TU fb f0)) t.fl.length fc,xa (some (TU nb n0)) t.nx.length nc,.map (some (I.heap.size+1))] 95 (0,0)):=gu zp;rw[hR.fl] at aa au ai|-;have U:=fy aj;clear hd hT hR aj;generalize hAl:t.acts.length=A at *;generalize hnl:t.nx.length=n at *;have aA:=hL.n1;have HH:Hid (Calls prog 48 #[.agg #[xa (some (TU ab a0)) A ac,xa (some (TU fb f0)) n fc,xa (some (TU nb n0)) n nc],xd xh 0,xd xh 2] (((I.alloc (xi #[xa (some (TU ab a0)) A ac,xa (some (TU fb f0)) n fc,xa (some (TU nb n0)) n nc] 36)).alloc (.map #[] 0)).alloc (xi #[xa (some (TU ab a0)) A ac,xa (some (TU fb f0)) n fc,xa (some (TU nb n0)) n nc,.map (some (I.heap.size+1))] 95)) λe w'=>e=xm (xn (decide (2<=jS t 0)))/\Below (((I.alloc (xi #[xa (some (TU ab a0)) A ac,xa (some (TU fb f0)) n fc,xa (some (TU nb n0)) n nc] 36)).alloc (.map #[] 0)).alloc (xi #[xa (some (TU ab a0)) A ac,xa (some (TU fb f0)) n fc,xa (some (TU nb n0)) n nc,.map (some (I.heap.size+1))] 95)).heap.size (((I.alloc (xi #[xa (some (TU ab a0)) A ac,xa (some (TU fb f0)) n fc,xa (some (TU nb n0)) n nc] 36)).alloc (.map #[] 0)).alloc (xi #[xa (some (TU ab a0)) A ac,xa (some (TU fb f0)) n fc,xa (some (TU nb n0)) n nc,.map (some (I.heap.size+1))] 95)) w'):=
   Ay _ t A n ab a0 fb f0 nb n0 ac fc nc rb ro rc (hL.later aa) 0 aA
  clear hAl hnl;go_wp2_with fail;refine HH.out.mono ?_;clear HH;generalize ((I.alloc (xi #[xa (some (TU ab a0)) A ac,xa (some (TU fb f0)) n fc,xa (some (TU nb n0)) n nc] 36)).alloc (.map #[] 0)).alloc (xi #[xa (some (TU ab a0)) A ac,xa (some (TU fb f0)) n fc,xa (some (TU nb n0)) n nc,.map (some (I.heap.size+1))] 95)=W4 at *;rintro e w5 ⟨rfl,ae⟩;have ak:=J.trans ((aa.trans (ae.mono aa.size)).mono J.size);by_cases h2:2<=jS t 0
  .rw[UH h2];have av:=(show Si W4 (I.heap.size+2) t [] A n ab a0 fb f0 nb n0 ac fc nc rb ro rc (I.heap.size+1) (λ_=>0) (.map []) from
    ⟨ai,hL.later aa,au,rfl,λid=>⟨λh=>(by cases h),λ⟨c,hc,_⟩=>(US hc).elim⟩,λc hc=>(US hc).elim,λc hc=>(US hc).elim,List.nodup_nil,λc hc=>(US hc).elim,λc hc=>(US hc).elim,zp,λk hk=>by
     rcases hk with rfl|⟨c,hc,_⟩
     .exact⟨zo,by have:=hL.la;omega,by have:=hL.lf;omega,by have:=hL.ln;omega,λi hi=>by have:=hL.lr i hi;omega⟩
     exact(US hc).elim⟩)
   have aq:=av.later ae;clear ae;go_wp2_with fail;refine py (v:=.tuple #[xk (TT (I.heap.size+2)),xd xh 0]) (by simp[results,results29,go_sem]) rfl ?_;have hs:=J.size;exact⟨ak,Rh (Rh ⟨t,_,A,n,ab,a0,fb,f0,nb,n0,ac,fc,nc,rb,ro,rc,_,_,_,hr,h2,rfl,aq,zo,zo,U.out.1,U.out.2.1,U.out.2.2.1,U.out.2.2.2⟩)⟩
  rw[Uy h2];have H2:=fy h2;clear ae h2;go_wp2_with fail;refine py (v:=.tuple #[xk none,xd xh 7]) (by simp[results,results29,go_sem]) rfl ?_;exact⟨ak,Rh (Ro ⟨t,hr,H2.out,rfl⟩)⟩
def S5(t:Tb)(cs:List Cs)(id:Ub)(e:Ending):Prop:=
 (jP cs id=none/\e=xm (.tuple #[.agg #[xd xh 0,xn false],xd xh 8]))\/
 ∃c,jP cs id=some c/\e=xm (.tuple #[.agg #[xd xh (c.ev:Int),xn (kM t c.st)],xd xh 0])
def Kb{fb fc:Nat}(rb ro rc:Nat->Nat)(pb:Ub->Nat)(D:DataW Unit)(hD:Si w db t cs A n ab a0 fb f0 nb n0 ac fc nc rb ro rc mb pb D){id:Ub}(aC:id.size<=140737488355328):
  Calls prog 51 #[xk (TT db),xj id] w λe w'=>S5 t cs id e/\XL w w':=by
 have aj:=ir w (xi #[xd xh 0,xn false] 105);have HD:=hD.later aj;have ag:=gi w (xi #[xd xh 0,xn false] 105);have c3:=EQ hD.blk 3;have l0:=dK hD.blk;have hlw:w.heap.size<(w.alloc (xi #[xd xh 0,xn false] 105)).heap.size:=zp;clear hD;go_in;cases hc:jP cs id with
 |none=>
  have HT:=fy (HD.gone hc);have HC:=fy hc;clear hc
  go_wp2_with (at_lookup;go_must (refine oD rfl rfl D rfl HD.mp rfl aC HT.out ?_))
  go_wp2_with fail;have rc:=EQ ag;refine py (v:=.tuple #[.agg #[xd xh 0,xn false],xd xh 8]) (by simp[results,results51,go_sem,rc]) rfl ?_;exact⟨Ro ⟨HC.out,rfl⟩,aj⟩
 |some c=>
  have HT:=fy (HD.there hc);obtain⟨au,aq⟩:=oA hc;have HC:=fy hc;have aG:=HD.st c au;have J:=HD.cell c au;rw[aq] at J;clear hc au aq
  go_wp2_with (at_lookup;go_must (refine o9 rfl rfl D rfl HD.mp rfl aC HT.out.1 HT.out.2.1 ?_))
  clear HT c3 l0;generalize w.alloc (xi #[xd xh 0,xn false] 105)=W at *;have aF:=dK ag;have ar:w.heap.size≠db:=λe=>by have:=HD.blk;rw[<-e,ag] at this;cases this
  have az:w.heap.size≠pb id:=λe=>by have:=J;rw[<-e,ag] at this;injection this with h;injection h with _ h2 _;exact absurd h2 zd
  generalize hRe:w.heap.size=R at *;have s0:=EQ HD.blk 0;have s1:=EQ HD.blk 1;have s2:=EQ HD.blk 2;have s3:=EQ J 0;have s4:=EQ J 1;have ld:=dK HD.blk;have lp:=dK J;refine R' (S:=λw'=>w'.cell? (TU db 0)=some (xa (some (TU ab a0)) A ac)/\w'.cell? (TU db 1)=some (xa (some (TU fb f0)) n fc)/\w'.cell? (TU db 2)=some (xa (some (TU nb n0)) n nc)/\w'.cell? (TU (pb id) 0)=some (xd xh (c.st:Int))/\w'.cell? (TU (pb id) 1)=some (xd xh (c.ev:Int))) zk ?_ (λI=>?_)
  .exact⟨s0,s1,s2,s3,s4⟩
  clear s0 s1 s2 s3 s4;apply zt1 0 (xk (TT (pb id))) I;apply zt1 1 (xk (TT (pb id))) I;apply zt1 2 (xk (some (TU (pb id) 1))) I;apply zt1 3 (xd xh (c.ev:Int)) I;apply zt1 4 (xk (TT db)) I;apply zt1 5 (xk (TT db)) I;apply zt1 6 (xk (TT db)) I;apply zt1 7 (.agg #[xa (some (TU ab a0)) A ac,xa (some (TU fb f0)) n fc,xa (some (TU nb n0)) n nc]) I;apply zt1 8 (xk (TT (pb id))) I;apply zt1 9 (xk (TT (pb id))) I;apply zt1 10 (xk (TT (pb id))) I;apply zt1 11 (xd xh (c.st:Int)) I;apply zrH 12;intro K hK;go_simp;refine(EW W.drew t A n ab a0 fb f0 nb n0 ac fc nc rb ro rc (HD.tb.later ((XF).drew)) c.st aG).mono ?_;rintro e w5 ⟨rfl,aB⟩;have aa:XL W w5:=((XF).drew).trans aB;have aA:w5.cell? (TU db 0)=some (xa (some (TU ab a0)) A ac)/\w5.cell? (TU db 1)=some (xa (some (TU fb f0)) n fc)/\w5.cell? (TU db 2)=some (xa (some (TU nb n0)) n nc)/\w5.cell? (TU (pb id) 0)=some (xd xh (c.st:Int))/\w5.cell? (TU (pb id) 1)=some (xd xh (c.ev:Int)):=
   ⟨(Fd aa _ _ ld).trans I.1,(Fd aa _ _ ld).trans I.2.1,(Fd aa _ _ ld).trans I.2.2.1,(Fd aa _ _ lp).trans I.2.2.2.1,(Fd aa _ _ lp).trans I.2.2.2.2⟩
  have U:=(aa.block _ aF).trans ag;refine hK.out _ _ aA (λI=>?_);clear hK K aB aA;have r0:=gh U 0;have r1:=gh U 1;have r2:=EQ U 0;have r3:=EQ U 1;have rl:=dK U;have an:=gj (gj U 0 (xd xh (c.ev:Int))) 1 (xn (kM t c.st));have aw:Hid (XL w ((w5.setCell (TU R 0) (xd xh (c.ev:Int))).setCell (TU R 1) (xn (kM t c.st)))):=by
   subst hRe;exact((aj.trans (aa.mono aj.size)).setCell (XH) _).setCell (XH) _
  clear U;obtain⟨acc,ai⟩:∃acc,acc=kM t c.st:=⟨_,rfl⟩;rw[<-ai] at aw an|-;have av:=fy ai;clear ai;apply zt1 13 (.agg #[xd xh (c.ev:Int),xn acc]) I;apply zrH 14;intro K hK;go_simp;refine hK.out _ _ ?keep (λI=>?_)
  case keep=>
   have far:∀(b o:Nat)(x:Ud),R≠b->w5.cell? (TU b o)=some x->((w5.setCell (TU R 0) (xd xh (c.ev:Int))).setCell (TU R 1) (xn acc)).cell? (TU b o)=some x:=λb o x hne h=>by
    exact zm76
   exact⟨far _ _ _ ar I.1,far _ _ _ ar I.2.1,far _ _ _ ar I.2.2.1,far _ _ _ az I.2.2.2.1,far _ _ _ az I.2.2.2.2⟩
  clear hK K r0 r1 r2 r3 rl;have rc:=EQ an;apply zt1 15 (xd xh 0) I;refine Ut zk ?_ _;clear I;go_wp2_with fail;refine py (v:=.tuple #[.agg #[xd xh (c.ev:Int),xn acc],xd xh 0]) (by simp[results,results51,go_sem,rc]) rfl ?_;exact⟨Rh ⟨c,HC.out,by rw[av.out]⟩,aw.out⟩
def SH(t:Tb)(cs:List Cs)(id:Ub)(w w':Uc)(e:Ending):Prop:=XL w w'/\
 ((jP cs id=none/\e=xm (.tuple #[TV,xd xh 8]))\/
 ∃c o k,jP cs id=some c/\e=xm (.tuple #[xa o (pj t c.st).length k,xd xh 0])/\w'.ownsRow w.heap.size 9 1 (xa o (pj t c.st).length k) (pj t c.st).length (gU (pj t c.st)))
def kD(t:Tb)(s i:Nat):TZ:=(t.acts.take i).filter λx=>decide ((i' t s x).2=0)
def Da{t:Tb}{s i:Nat}(h:t.acts.length<=i):kD t s i=pj t s:=by unfold kD pj;rw[UF h]
def Fe{t:Tb}{s i:Nat}{x:Ub}(I:t.acts[i]?=some x)(h:(i' t s x).2=0):kD t s (i+1)=kD t s i++[x]:=by
 unfold kD;rw[U5,I,WM,Ry,RA,Uh (by simpa using h)];rfl
def Db{t:Tb}{s i:Nat}{x:Ub}(I:t.acts[i]?=some x)(h:¬ (i' t s x).2=0):kD t s (i+1)=kD t s i:=by
 unfold kD;rw[U5,I,WM,Ry,RA,T' (by simpa using h)];exact Vo _
def Ff(t:Tb)(s i:Nat):(kD t s i).length<=i:=by
 unfold kD;refine UP (List.length_filter_le _ _) ?_;rw[Vi];omega
def we{fb fc:Nat}(rb ro rc:Nat->Nat)(pb:Ub->Nat)(D:DataW Unit)(I:Si w db t cs A n ab a0 fb f0 nb n0 ac fc nc rb ro rc mb pb D){id:Ub}(aw:id.size<=140737488355328):
  Calls prog 31 #[xk (TT db),xj id] w λe w'=>SH t cs id w w' e:=by
 obtain⟨i0,hi0,hz0,hz1,hz2⟩:=Uk Tryz.infoStr;have c0:=EQ I.blk 0;have c3:=EQ I.blk 3;have l0:=dK I.blk;have hA6:=I.tb.A6;go_in;cases hc:jP cs id with
 |none=>
  have HT:=fy (I.gone hc);have HC:=fy hc;clear hc
  go_wp2_with (at_lookup;go_must (refine oD rfl rfl D rfl I.mp rfl aw HT.out ?_))
  go_wp2_with fail;refine py (v:=.tuple #[TV,xd xh 8]) (by simp[results,results31,go_sem]) rfl ?_;exact⟨XF,Ro ⟨HC.out,rfl⟩⟩
 |some c=>
  have HT:=fy (I.there hc);obtain⟨an,ae⟩:=oA hc;have HC:=fy hc;have aB:=I.st c an;have J:=I.cell c an;rw[ae] at J;clear hc an ae
  go_wp2_with (at_lookup;go_must (refine o9 rfl rfl D rfl I.mp rfl aw HT.out.1 HT.out.2.1 ?_))
  go_wp2_with fail;clear HT c3 c0 l0
  go_loopw [8,31] (λtv x wr=>∃(i:Nat)(o:TX)(k:Nat),i<=A/\x=xd xh i/\tv=xa o (kD t c.st i).length k/\Hid (XL w wr)/\Hid (wr.ownsRow w.heap.size 9 1 (xa o (kD t c.st i).length k) (kD t c.st i).length (gU (kD t c.st i)))) (λ_ x _=>A-(intOf x).toNat)
  .exact zm171
  obtain⟨i,o,k,hi,rfl,rfl,HBW,HOW⟩:=hrel;rcases zc i A with⟨hil,hin⟩|⟨hil,hin⟩
  .have aq:i<t.acts.length:=by rw[I.tb.hA];exact hil
   have aa:=I.later HBW.out;have az:=aa.tb.act i t.acts[i] (Uq aq);have aA:=aa.tb.la;have HX:=fy (Uq aq:t.acts[i]?=some t.acts[i]);have h8:t.acts[i].size<=8:=(I.tb.rt.acts.nm _ (UY aq)).n8;generalize t.acts[i]=act at *;have ak:=(HBW.out.block _ (dK J)).trans J;have p0:=EQ ak 0;have lp:=dK ak;have ar:=DA rb ro rc pb D aa aB act;have hfl:=Ff t c.st i;have ax:=fy (@Fe t c.st i act HX.out);have ay:=fy (@Db t c.st i act HX.out);clear ak aa;generalize i' t c.st act=ds at *;obtain⟨d1,d2⟩:=ds;generalize hof:kD t c.st i=L at *;have HOF:=fy hof;clear hof;go_wp2_with fail;refine ar.mono ?_;clear ar p0 lp az aA;rintro e w1 ⟨rfl,ai⟩;have U:=HBW.out.trans (ai.mono HBW.out.size);have ag:=gq HOW.out ai;clear ai;by_cases h0:d2=0
   .subst h0;have HNX:=fy (ax.out rfl);have au:=pt (s:=act) w1 zo;go_wp2_with fail;refine au.mono ?_;clear au;rintro e w2 ⟨rfl,aj⟩;have HB2:=U.trans (aj.mono U.size);have HO2:=gq ag aj;clear aj U ag;exact zm17
   have HNX:=fy (ay.out h0);have h0i:¬ ((d2:Nat):Int)=0:=zo;go_wp2
   go_roundw
   .exact⟨i+1,o,k,zo,by go_num,by rw[HNX.out],U,by rw[HNX.out];exact ag⟩
   simp[intOf];omega
  obtain rfl:i=A:=zo;have HOE:=fy (@Da t c.st i (by rw[I.tb.hA];exact XH));go_wp2_with fail;refine py (v:=.tuple #[xa o (kD t c.st i).length k,xd xh 0]) (by simp[results,results31,go_sem]) rfl ?_;exact zm145
def PO(b:T9)(w w':Uc)(e:Ending):Prop:=XL w w'/\
 ((RZ b none/\e=xm (.tuple #[xk none,xd xh 6]))\/
 (∃t,RZ b (some t)/\¬ 2<=jS t 0/\e=xm (.tuple #[xk none,xd xh 7]))\/
 ∃t rd A n ab a0 fb f0 nb n0 ac fc nc rb ro rc,RZ b (some t)/\2<=jS t 0/\e=xm (.tuple #[xk (TT rd),xd xh 0])/\SD w' w.heap.size rd t [] A n ab a0 fb f0 nb n0 ac fc nc rb ro rc none 0/\
  w.heap.size<=rd/\w.heap.size<=ab/\w.heap.size<=fb/\w.heap.size<=nb/\∀i,i<n->w.heap.size<=rb i)
def Hw(w:Uc)(b:Ub):Calls prog 101 #[xj b] w λe w'=>PO b.data.toList w w' e:=by
 have ak:=vY w b;go_in;go_wp2_with fail;refine ak.mono ?_;clear ak;rintro e w1 ⟨o,hr,hd⟩;cases o with
 |none=>
  obtain⟨I,he⟩:=hd;have ay:e=xm (.tuple #[.agg #[TV,TV,TV],xd xh 6]):=he;subst ay;clear he;have au:=I.trans (((XF).alloc (XH) (xi #[TV,TV,TV] 36)).mono I.size);clear I;go_wp2_with fail;refine py (v:=.tuple #[xk none,xd xh 6]) (by simp[results,results101,go_sem]) rfl ?_;exact⟨au,Ro ⟨hr,rfl⟩⟩
 |some t=>
  obtain⟨ao,fo,no,ac,fc,nc,rv,rfl,hT,hR,I⟩:=DecT.of rfl hr.1 hd;obtain⟨ab,a0,fb,f0,nb,n0,rb,ro,rc,rfl,rfl,rfl,hL⟩:=JM (hT.read hR.small).1 hR;have ag:=Fy (by rw[<-hR.fl] at *;exact hT) hL;have ai:XL w1 ((w1.alloc (xi #[xa (some (TU ab a0)) t.acts.length ac,xa (some (TU fb f0)) t.fl.length fc,xa (some (TU nb n0)) t.nx.length nc] 36)).alloc (xi #[xa (some (TU ab a0)) t.acts.length ac,xa (some (TU fb f0)) t.fl.length fc,xa (some (TU nb n0)) t.nx.length nc,TV] 245)):=gC.alloc zp _;have U:=ir w1 (xi #[xa (some (TU ab a0)) t.acts.length ac,xa (some (TU fb f0)) t.fl.length fc,xa (some (TU nb n0)) t.nx.length nc] 36);have ae:((w1.alloc (xi #[xa (some (TU ab a0)) t.acts.length ac,xa (some (TU fb f0)) t.fl.length fc,xa (some (TU nb n0)) t.nx.length nc] 36)).alloc (xi #[xa (some (TU ab a0)) t.acts.length ac,xa (some (TU fb f0)) t.fl.length fc,xa (some (TU nb n0)) t.nx.length nc,TV] 245)).heap[w1.heap.size+1]?=some (xi #[xa (some (TU ab a0)) t.acts.length ac,xa (some (TU fb f0)) t.fl.length fc,xa (some (TU nb n0)) t.nx.length nc,TV] 245 (0,0)):=gu zp;rw[hR.fl] at ai U ae|-;have J:=fy ag;clear hd hT hR ag;generalize hAl:t.acts.length=A at *;generalize hnl:t.nx.length=n at *;have aB:=hL.n1;have az:=(Fd U _ _ hL.lf).trans (hL.fla 0 aB);have hfl:=Uw hL.lf U.size;have ar:=I.trans (U.mono I.size);have hni:(0:Int)<(n:Int):=zo;rw[Nat.add_zero] at az;clear U hAl hnl;by_cases h2:2<=jS t 0
  .have av:¬ ((jS t 0:Nat):Int)<2:=zo;have H2:=fy h2;clear h2;go_wp2_with fail;have hs:=I.size;refine py (v:=.tuple #[xk (TT (w1.heap.size+1)),xd xh 0]) (by simp[results,results101,go_sem]) rfl ?_;refine⟨I.trans (ai.mono hs),Rh (Rh ⟨t,_,A,n,ab,a0,fb,f0,nb,n0,ac,fc,nc,rb,ro,rc,hr,H2.out,rfl,⟨ae,hL.later ai,XG,List.nodup_nil,λc hc=>(US hc).elim,zp,λk hk=>?_⟩,zo,J.out.1,J.out.2.1,J.out.2.2.1,J.out.2.2.2⟩)⟩;rcases hk with rfl|hk
   .exact⟨by have:=hL.la;omega,by have:=hL.lf;omega,by have:=hL.ln;omega,λi hi=>by have:=hL.lr i hi;omega⟩
   cases hk
  have av:((jS t 0:Nat):Int)<2:=zo;have H2:=fy h2;clear h2;go_wp2_with fail;refine py (v:=.tuple #[xk none,xd xh 7]) (by simp[results,results101,go_sem]) rfl ?_;exact⟨ar,Rh (Ro ⟨t,hr,H2.out,rfl⟩)⟩
def qW:∀(x y:T9),Op.bytesLess x y=decide (x<y)
 |_,[]=>by simp[Op.bytesLess]
 |[],b::y=>by simp[Op.bytesLess]
 |a::x,b::y=>by
  rw[Op.bytesLess,qW x y,Vz];simp[List.cons_lt_cons_iff]
def ND(h:Op.bytesLess x.toList y.toList=true):leB x.data.toList y.data.toList=true:=by
 rw[Ui,Ui,qW] at h;exact UH (List.le_of_lt (Vl h))
def Lf(h:Op.bytesLess x.toList y.toList=false):leB y.data.toList x.data.toList=true:=by
 rw[Ui,Ui,qW] at h;exact UH (List.not_lt.1 (of_decide_eq_false h))
def FD(base:Nat){rd:Nat}{fb fc:Nat}(rb ro rc:Nat->Nat)(hD:SD w base rd t cs A n ab a0 fb f0 nb n0 ac fc nc rb ro rc lo lc):
  Calls prog 110 #[xk (some ⟨rd,0,none⟩)] w λe w'=>Tq cs w w' e:=by
 have hfew:=hD.few;go_in;go_wp2
 go_loopw [3,4] (λy x wr=>∃(k:Nat)(o:TX)(c:Nat)(L:TZ),k<=cs.length/\y=xa o k c/\x=xd xh k/\Hid (wr.ownsRow w.heap.size 9 1 (xa o k c) k (gU L))/\Hid (L.length=k)/\Hid (pF L/\L.Perm ((cs.take k).map (·.id)))/\Hid (XL w wr)) (λ_ x _=>cs.length-(intOf x).toNat)
 .exact⟨0,none,0,[],Ux,rfl,rfl,XG,rfl,⟨List.Pairwise.nil,List.Perm.refl _⟩,XF⟩
 obtain⟨k,o,c,L,hk,rfl,rfl,HO,HL,HR,HB⟩:=hrel;have c3:=EQ (hD.later HB.out).blk 3;have l0:=dK (hD.later HB.out).blk;rcases zc k cs.length with⟨hlt,hkn⟩|⟨hlt,hkn⟩
 .have aK:Hid ((cs.take (k+1)).map (·.id)=(cs.take k).map (·.id)++[cs[k].id]):=by show _=_;rw[U5,Uq hlt,U1];rfl
  obtain⟨g,hg,ak,_,aF,_,_⟩:=oz hD.ls (Uq hlt);subst hg;have aE:=(Fd HB.out _ _ ak).trans aF;have aR:=Uw ak HB.out.size;have aL:=fy aF;have aJ:=fy (EQ hD.blk 3);have ai:=dK hD.blk;clear aF;generalize cs[k].id=id at *;have aT:=Uo wr.heap.size wr;go_wp2_with fail;generalize wr=wS at *
  go_loopw [5] (λx wr=>∃a:Nat,a<=k/\x=xd xh a/\Hid (XL wS wr)/\Hid (∀u∈L.drop a,leB id.data.toList u.data.toList=true)) (λx _=>(intOf x).toNat)
  .exact⟨k,XH,rfl,aT,λu hu=>by rw[Wj (by rw[HL.out];exact XH)] at hu;exact(US hu).elim⟩
  obtain⟨a,ha,rfl,U,HG⟩:=hrel;have aM:=(Fd U.out _ _ l0).trans c3;have l0':=Uw l0 U.out.size;have aA:=(Fd U.out _ _ aR).trans aE;have hgl':=Uw aR U.out.size;have aB:=gq HO.out U.out;have h4:(decide (0<a)=false/\Hid (a=0\/∃u,L[a-1]?=some u/\leB u.data.toList id.data.toList=true))\/∃(b:Nat)(u:Ub)(pb:Nat),o=some ⟨pb,0,none⟩/\pb<wr.heap.size/\wr.cell? ⟨pb,b,none⟩=some (xj u)/\(a:Int)-1=(b:Int)/\b+1=a/\decide (0<a)=true/\Hid (L[b]?=some u):=by
   by_cases hz:a=0
   .exact Ro ⟨Uy zo,Ro hz⟩
   have av:a-1<L.length:=by rw[HL.out];omega
   obtain⟨pb,h1,h2,h3⟩:=gT aB (show a-1<k from zo);exact Rh ⟨a-1,L[a-1],pb,h1,h2,h3.trans (by unfold gU;rw[UG,Uq av];rfl),zo,zo,UH zo,Uq av⟩
  have h5:(decide (0<a)=false/\Hid (a=0\/∃u,L[a-1]?=some u/\leB u.data.toList id.data.toList=true))\/(∃(b:Nat)(u:Ub)(pb:Nat),o=some ⟨pb,0,none⟩/\pb<wr.heap.size/\wr.cell? ⟨pb,b,none⟩=some (xj u)/\(a:Int)-1=(b:Int)/\b<k/\decide (0<a)=true/\Op.bytesLess u.toList id.toList=true/\Hid (a=0\/∃u,L[a-1]?=some u/\leB u.data.toList id.data.toList=true))\/(∃(b:Nat)(u:Ub)(pb:Nat),o=some ⟨pb,0,none⟩/\pb<wr.heap.size/\wr.cell? ⟨pb,b,none⟩=some (xj u)/\(a:Int)-1=(b:Int)/\b<k/\decide (0<a)=true/\Op.bytesLess u.toList id.toList=false/\(u.toList==id.toList)=true/\Hid (a=0\/∃u,L[a-1]?=some u/\leB u.data.toList id.data.toList=true))\/∃(b:Nat)(u:Ub)(pb:Nat),o=some ⟨pb,0,none⟩/\pb<wr.heap.size/\wr.cell? ⟨pb,b,none⟩=some (xj u)/\(a:Int)-1=(b:Int)/\b<k/\decide (0<a)=true/\Op.bytesLess u.toList id.toList=false/\(u.toList==id.toList)=false/\Hid (∀v∈L.drop b,leB id.data.toList v.data.toList=true):=by
   rcases h4 with h|⟨b,u,pb,h1,h2,h3,h4,h5,h6,h7⟩
   .exact Ro h
   have aP:a-1=b:=zo;cases e1:Op.bytesLess u.toList id.toList with
   |true=>exact Rh (Ro ⟨b,u,pb,h1,h2,h3,h4,zo,h6,e1,Rh ⟨u,by rw[aP];exact h7.out,ND e1⟩⟩)
   |false=>
    cases e2:(u.toList==id.toList) with
    |true=>exact Rh (Rh (Ro ⟨b,u,pb,h1,h2,h3,h4,zo,h6,e1,e2,Rh ⟨u,by rw[aP];exact h7.out,by
      have e3:=eq_of_beq e2;rw[Ui,Ui] at e3;rw[e3];exact K2⟩⟩))
    |false=>
     refine Rh (Rh (Rh ⟨b,u,pb,h1,h2,h3,h4,zo,h6,e1,e2,λv hv=>?_⟩));have av:=(List.getElem?_eq_some_iff.1 h7.out).1;rw[UK av] at hv;rcases List.mem_cons.1 hv with h|h
     .rw[h,(List.getElem?_eq_some_iff.1 h7.out).2];exact Lf e1
     rw[h5] at h;exact HG.out v h
  clear h4;rcases h5 with⟨hd,HST⟩|⟨b,u,pb,rfl,hpl,hpc,hsb,hbk,hd,h1,HST⟩|⟨b,u,pb,rfl,hpl,hpc,hsb,hbk,hd,h1,h2,HST⟩|⟨b,u,pb,rfl,hpl,hpc,hsb,hbk,hd,h1,h2,HG2⟩
  rotate_left 3
  .have aW:(0:Int)<(a:Int):=zo;have hbki:(b:Int)<(k:Int):=zo;have hwr:IntKind.i64.wrap ((a:Int)-1)=(b:Int):=by rw[hsb,UR];omega
   have hcs8:(k:Int)<(cs.length:Int):=zo;go_wp2;go_quiet (fail);go_wp2
   go_roundw
   .exact⟨b,zo,rfl,fy (U.out.trans ((iK wr nq).mono U.out.size)),HG2⟩
   simp[intOf];omega
  all_goals (
   go_wp2;go_quiet (fail)
   go_wp2_with (at_builtin;go_must (refine qu rfl _ _ 25 rfl _ w.heap.size 9 sI rfl underlying25 (v:=xa _ k c) (n:=k) (xs:=gU L) rfl (xj ⟨#[]⟩) rfl rfl (gq aB (iK wr nq)) zo (UP (UP HB.out.size U.out.size) (iK wr nq).size) (by first|rfl|simp[Ru]) ?_))
   intro g9 cap9 w9 ax aQ aO;have hk9:k+1<=cap9:=by
    obtain⟨_,⟨hv,_⟩|⟨g',cap',cur,hv,_,_,a7,_⟩⟩:=ax
    .cases hv
    cases hv;exact a7
   have aj:=gJ ax g9 rfl;have aw:Below (wr.drewN nq).heap.size (wr.drewN nq) ((wr.drewN nq).alloc (xi #[xj ⟨#[]⟩] 9)):=gC;have ay:XL w (wr.drewN nq):=(HB.out.trans (U.out.mono HB.out.size)).trans ((iK wr nq).mono (UP HB.out.size U.out.size));have ag:XL w w9:=(ay.trans (aw.mono ay.size)).grown aQ (UP ay.size aw.size) (λb hb=>pL (gq (gq aB (iK wr nq)) aw) hb);have hai:(a:Int)<=(k:Int):=zo;have hai1:(a:Int)<=(k:Int)+1:=zo;have aW:(0:Int)<=(a:Int)+1:=zo;have hca:¬ cap9=a:=zo;have hwr1:IntKind.i64.wrap ((a:Int)+1)=(a:Int)+1:=by rw[UR];omega
   have hc9s:=ag.size;clear aQ aO aw ay;by_cases hcc:cap9=a+1
   .obtain⟨w2,aq,aa,⟨z,hz⟩,aY,a6,ae⟩:=CD (gq ax ((XF).drew)) HL.out ha (cap9-(a+1)) (cap9-a) (0) (Rh ⟨zo,rfl⟩);have J:=(ag.trans (((XF).drew).mono ag.size)).grown aa ag.size (λb hb=>by cases hb;exact aj.1);have an:=fy ae;clear ae aa;go_wp2_with fail;refine R' (S:=λ_=>True) zk ?_ (λI=>?_)
    .exact trivial
    apply zt1 0 (xa (some ⟨g9,0,none⟩) (k+1) cap9) I;apply zt1 1 (xd xh (a:Int)) I;apply zt1 2 (xd xh ((a:Int)+1)) I;apply zt1 3 (xa (some ⟨g9,0,none⟩) (k-a) (cap9-(a+1))) I;apply zt1 4 (xa (some ⟨g9,0,none⟩) (k+1) cap9) I;apply zt1 5 (xd xh (a:Int)) I;apply zt1 6 (xa (some ⟨g9,a,none⟩) (k+1-a) (cap9-a)) I;clear hcc;apply SR 7 trivial;intro I;refine Ut zk ?_ _;clear I aq;have HOWN:=an.out id;have HBEL:Hid (XL w (w2.setCell ⟨g9,a,none⟩ (xj id))):=J.grown (gp _ _ _ _) J.size (λb hb=>by cases hb;exact aj.1);have HLEN:Hid ((L.take a++id::L.drop a).length=k+1):=by
     exact zm165
    have HRIS:Hid (pF (L.take a++id::L.drop a)/\(L.take a++id::L.drop a).Perm ((cs.take (k+1)).map (·.id))):=⟨Fq HR.out.1 HG.out HST.out,by rw[aK.out];exact(CE L id a).trans (HR.out.2.append_right [id])⟩;have x3:=(Fd J _ _ ai).trans aJ.out;have xl:=Uw ai J.size;have xc:=(Fd J _ _ ak).trans aL.out;have xg:=Uw ak J.size;have aX:(a:Int)<(k:Int)+1:=zo;clear c3 aM aE aA;go_wp2
    go_roundw
    .exact zm151
    simp[intOf];omega
   .obtain⟨w2,aq,aa,⟨z,hz⟩,aY,a6,ae⟩:=CD (gq ax ((XF).drew)) HL.out ha (cap9-(a+1)) (cap9-a) (a+1) (Ro rfl);have J:=(ag.trans (((XF).drew).mono ag.size)).grown aa ag.size (λb hb=>by cases hb;exact aj.1);have an:=fy ae;clear ae aa;go_wp2_with fail;refine R' (S:=λ_=>True) zk ?_ (λI=>?_)
    .exact trivial
    apply zt1 0 (xa (some ⟨g9,0,none⟩) (k+1) cap9) I;apply zt1 1 (xd xh (a:Int)) I;apply zt1 2 (xd xh ((a:Int)+1)) I;apply zt1 3 (xa (some ⟨g9,a+1,none⟩) (k-a) (cap9-(a+1))) I;apply zt1 4 (xa (some ⟨g9,0,none⟩) (k+1) cap9) I;apply zt1 5 (xd xh (a:Int)) I;apply zt1 6 (xa (some ⟨g9,a,none⟩) (k+1-a) (cap9-a)) I;apply SR 7 trivial;intro I;refine Ut zk ?_ _;clear I aq;have HOWN:=an.out id;have HBEL:Hid (XL w (w2.setCell ⟨g9,a,none⟩ (xj id))):=J.grown (gp _ _ _ _) J.size (λb hb=>by cases hb;exact aj.1);have HLEN:Hid ((L.take a++id::L.drop a).length=k+1):=by
     exact zm165
    have HRIS:Hid (pF (L.take a++id::L.drop a)/\(L.take a++id::L.drop a).Perm ((cs.take (k+1)).map (·.id))):=⟨Fq HR.out.1 HG.out HST.out,by rw[aK.out];exact(CE L id a).trans (HR.out.2.append_right [id])⟩;have x3:=(Fd J _ _ ai).trans aJ.out;have xl:=Uw ai J.size;have xc:=(Fd J _ _ ak).trans aL.out;have xg:=Uw ak J.size;have aX:(a:Int)<(k:Int)+1:=zo;clear c3 aM aE aA;go_wp2
    go_roundw
    .exact zm151
    simp[intOf];omega)
 have aS:(cs.take k).map (·.id)=cs.map (·.id):=by rw[UF zo]
 rw[aS] at HR;clear aS;go_wp2_with fail;refine py (v:=xa o k c) (by simp[results,results110,go_sem]) rfl ?_;have hl:=HL.out;subst hl;exact⟨L,o,c,rfl,HR.out.1,HR.out.2,HO.out,HB.out⟩
open Go.ChangeShapes Go.WideShapes Go.ChangeAt
def Gg{base:Nat}{sp:Nat->Bool}{held:Bool}{t:TypeId}{cs:TW}{l:T8} 
  (J:prog.underlying t=some (.array n 345))(hct:prog.cellsOf t=n)
  (h:DataW.trod (λ_=>()) prog w base sp held fuel t cs=some (.agg (l.map λx=>.lit (.int .u64 x)),p)):cs=l.flatMap λx=>[xd .u64 x]:=by
 obtain⟨h1,h2,I⟩:=ux J (show prog.cellsOf 345=1 from zk) zo h;refine SW (k:=1) _ (λ_=>rfl) l cs za (λi x U=>?_);obtain⟨f,q,hf⟩:=I i (.lit (.int .u64 x)) (by simp[U]);obtain⟨s,e1,e2,_⟩:=VG underlying345 hf;simp_all
def PC(h:laidMet prog laid W)(x:String × DataW Unit)(hx:x∈laid)(hn:x.1= "internal/strconv.uint64pow10")(U:x.2=.agg (Lib.pow10Tab.map λx=>.lit (.int .u64 x))):Lib.TabIs prog W "internal/strconv.uint64pow10" .u64 Lib.pow10Tab:=by
 obtain⟨ps,hl,_⟩:=h;obtain⟨g,t,cs,fuel,p,hg,ht,J,I⟩:=rj hl x hx;rw[hn] at hg J;obtain rfl:=Ue (xR.symm.trans hg);obtain rfl:=Ue ((show(prog.globals[4]?).map (·.type)=some 370 from zk).symm.trans ht);rw[U] at I;have e:=Gg underlying370 zk I;unfold Lib.TabIs;rw[J]
 congr 1
 rw[<-Wk,e];rfl
def Pb:(prog.info? 3).map (·.size)=some 1:=zk
structure Sy(w:Uc)(g:Nat)(tr:T8):Prop where
 blk:∃cur,w.heap[g]?=some (xi cur 3 (0,0))/\cur.size=tr.length+8/\(∀(j:Nat)(x:Int),tr[j]?=some x->cur[j]?=some (xd xh x))/\∀(j:Nat),tr.length<=j->j<tr.length+8->cur[j]?=some (xd xh 77)
def Sy.lt{g:Nat}(h:Sy w g tr):g<w.heap.size:=by
 obtain⟨cur,I,_⟩:=h.blk;exact dK I
theorem Sy.ins{g:Nat}(h:Sy w g tr):SV w (TT g) tr:=by
 intro j x hx;obtain⟨cur,h1,_,h3,_⟩:=h.blk
 grind[EQ]
def xA(tr:T8):TW:=tr.map λx=>xd xh x
theorem ri(tr:T8):(xA tr).length=tr.length:=by simp[xA]
theorem Ny{x:Int}(h:tr[j]?=some x):(xA tr)[j]?=some (xd xh x):=by grind[xA]
theorem KX{v:Ud}(h:(xA tr)[j]?=some v):∃x,tr[j]?=some x/\v=xd xh x:=by
 grind[xA]
def yo(w:Uc)(ad:Addr)(n c:Nat):(binOp .eql 33 (xa (some ad) n c) TV).run prog w=.ok (xn false) w:=Wa w _ _ _ underlying33
def sG(w:Uc):(binOp .eql 33 TV TV).run prog w=.ok (xn true) w:=Wg w _ _ underlying33
theorem CM(w:Uc)(c:Nat)(hT:SV w (some ad) tr)(hn:tr.length<=8796093021952):
  Calls prog 183 #[xa (some ad) tr.length c] w λe w'=>∃g,e=xm (xa (TT g) tr.length (tr.length+8))/\w.heap.size<=g/\Sy w' g tr/\XL w w':=by
 obtain⟨i0,ar,aw,ax,ay⟩:=Uk oe;have he:=λW:Uc=>yo W ad tr.length c
 go_in
 go_wp2_with (at_make;go_must (refine Wx _ rfl _ _ 33 rfl w.heap.size 3 i0 (xd xh 0) 1 underlying33 ar aw ax xh xh _ _ (tr.length+8) rfl rfl (by first|rfl|omega) (by first|rfl|omega) (by rw[ay];omega) (by unfold maxLen;omega) (XH) ?_))
 intro w1 hown1 I;have aj:∃cur,w1.heap[w.heap.size]?=some (xi cur 3 (0,0))/\cur.size=tr.length+8:=by
  exact zm99
 obtain⟨ai,aa,U⟩:=aj;have ag:Hid (XL w w1):=⟨I.os,I.tape,I.output,I.size,λb hb=>I.block b hb (λe=>by cases e)⟩;have J:=fy U;clear hown1 I U;have ae:∃w2,(Builtin.copy_ #[33,33] 3 #[xa (TT w.heap.size) (tr.length+8) (tr.length+8),xa (some ad) tr.length c]).run prog w1=.ok (xd xh (tr.length:Int)) w2/\XL w w2/\∃cur,w2.heap[w.heap.size]?=some (xi cur 3 (0,0))/\cur.size=tr.length+8/\∀(j:Nat)(x:Int),tr[j]?=some x->cur[j]?=some (xd xh x):=by
  have hsz:=J.out;have hr:=run_copy_row (P:=prog) w1 33 33 3 3 w.heap.size 0 (tr.length+8) (tr.length+8) ad tr.length c ai 3 (xA tr) underlying33 Pb aa (by rw[ri];simp)
   (λj v hv=>by
    obtain⟨x,hx,rfl⟩:=KX hv;obtain⟨b,off,h1,h2,h3⟩:=hT.later ag.out j x hx;cases h1;rw[Vm];omega) (by rw[ri];omega) (λv hv=>by
    obtain⟨x,_,rfl⟩:=List.mem_map.1 hv;rfl)
  refine⟨_,hr.trans (by rw[ri];rfl),below_setRow ag.out (XH) _,_,setRow_heap w1 w.heap.size _ _ _ _ aa,?_,λj x hx=>?_⟩
  .simp[ri];omega
  grind[ri,Ny]
 obtain⟨w2,hrun,hb2,cur2,hc2,hcs2,ak⟩:=ae;have HV2:=fy ak;clear aa J ak;go_wp2
 go_loopw [5] (λx wr=>∃(i:Nat)(cur:T1),tr.length<=i/\i<=tr.length+8/\x=xd xh i/\Hid (wr.heap[w.heap.size]?=some (xi cur 3 (0,0)))/\cur.size=tr.length+8/\Hid (∀(j:Nat)(x:Int),tr[j]?=some x->cur[j]?=some (xd xh x))/\Hid (∀(j:Nat),tr.length<=j->j<i->cur[j]?=some (xd xh 77))/\Hid (XL w wr)) (λx _=>tr.length+8-(intOf x).toNat)
 .exact zm157
 obtain⟨i,cur,hi1,hi2,rfl,HC,hcs,HV,HY,HB⟩:=hrel;by_cases hil:i<tr.length+8
 .have hin:(i:Int)<(tr.length:Int)+8:=zo;have cc:=(EQ HC.out i).trans (U' zo);have cf:=gh HC.out i;generalize cur[i]=old at *;go_wp2
  go_roundw
  .refine⟨i+1,cur.setIfInBounds i (xd xh 77),zo,zo,zf,gj HC.out i _,za,fy (λj x hx=>?_),fy (λj h1 h2=>?_),HB.out.grown (gp _ _ _ _) HB.out.size (λb hb=>za)⟩
   .grind[gQ]
   grind[gQ]
  simp[intOf];omega
 exact zm102
def Sy.owns{g:Nat}(h:Sy w g tr)(hn:tr.length+8<=maxLen):∃xs,w.ownsRow 0 3 1 (xa (TT g) (tr.length+8) (tr.length+8)) (tr.length+8) xs:=by
 exact zm103
def M1(w:Uc)(lb:Nat)(dk:Ud)(M:Nat)(to_:TX)(tn tc:Nat)(tx rx wt et wb eb:Ud)(C:TW)(B0:Nat)(l:Ud)(w':Uc)(e:Ending):Prop:=
 e=xm (xn true)/\vG w lb dk M to_ tn tc tx rx wt et wb eb C B0 l w' (xm (.tuple #[]))
def BD(w:Uc){tx rx wt et wb eb:Ud}(B0 g:Nat)(c:Nat)
  (hL:xZ w lb dk M tx (xa to_ tn tc) rx wt et wb eb)(hC:w.ownsRow B0 123 5 (xa to_ tn tc) tn C)(I:B0<=w.heap.size)(hl:Sy w g tr)(hT:SV w (some ad) tr)
  (hn:tr.length<=8796093021952)(J:(tn+1)*104<=140737488355328)(hM:M<=4611686018427387904):
  Calls prog 184 #[xk (TT lb),xa (TT g) tr.length (tr.length+8),xa (some ad) tr.length c] w λe w'=>M1 w lb dk M to_ tn tc tx rx wt et wb eb C B0 (xa (TT g) (tr.length+8) (tr.length+8)) w' e:=by
 obtain⟨xs,U⟩:=hl.owns (by unfold maxLen;omega);have HMK:=uN hL hC I U (Ux) zo J hM;have he:=λW:Uc=>yo W ad tr.length c
 clear hL hC U I J hM;go_in;go_wp2
 go_loopw [9,10] (λok x wr=>∃i:Nat,i<=tr.length+8/\ok=xn true/\x=xd xh i/\Hid (w=wr)) (λ_ x _=>tr.length+8-(intOf x).toNat)
 .exact zm56
 obtain⟨i,hi,rfl,rfl,HW⟩:=hrel;have hw:=HW.out;subst hw;clear HW;by_cases hil:i<tr.length+8
 .have hin:(i:Int)<(tr.length:Int)+8:=zo;obtain⟨cur,h1,h2,h3,h4⟩:=hl.blk;rcases zc i tr.length with⟨hit,hic⟩|⟨hit,hic⟩
  .obtain⟨b,off,ae,hb2,hb3⟩:=hT i tr[i] (Uq hit);have hc:=(EQ h1 i).trans (h3 i tr[i] (Uq hit));cases ae;generalize tr[i]=x at *;exact zm53
  have hc:=(EQ h1 i).trans (h4 i zo hil);exact zm53
 exact zm114
def DO(w:Uc)(l:Ud)(h:Q1 w l (xd xh m) 3):
  Calls prog 68 #[l,xd xh m] w λe w'=>e=xm (xn true)/\w'=w:=by
 obtain⟨o,n,c,rfl,hn,h⟩:=h;have H:=fy h;clear h;exact zm29
theorem Dt(w:Uc)(l m:T8)(h1:SV w ao l)(h2:SV w bo m)(hl:l.length<=10000000000000)(hm:m.length<=10000000000000):
  Calls prog 111 #[xa ao l.length ac,xa bo m.length bc] w λe w'=>Lz (l=m) e/\XL w w':=by
 by_cases hlm:l.length=m.length
 .generalize hn:m.length=n at *;have HN:=fy hn;have HL:=fy hlm;rw[hlm];clear hn hlm hl;go_in;go_wp2
  go_loopw [5] (λx wr=>∃k:Nat,k<=n/\x=xd xh k/\Hid (XL w wr)/\Hid (l.take k=m.take k)) (λx _=>n-(intOf x).toNat)
  .exact⟨0,Ux,rfl,XF,rfl⟩
  obtain⟨k,hk,rfl,HB,HK⟩:=hrel;rcases zc k n with⟨hlt,hkn⟩|⟨hlt,hkn⟩
  .have I:k<l.length:=by rw[HL.out];omega
   have J:k<m.length:=by rw[HN.out];omega
   obtain⟨b,off,rfl,hb,hc⟩:=h1.later HB.out k l[k] (Uq I);obtain⟨b2,off2,rfl,hb2,hc2⟩:=h2.later HB.out k m[k] (Uq J);have HX:=fy (Uq I);have HY:=fy (Uq J);generalize l[k]=x at *;generalize m[k]=y at *;by_cases hxy:x=y
   .exact zm62
   have HNE:Hid (¬ l=m):=λe=>by
    grind[gQ]
   exact zm149
  have U:Hid (l=m):=by
   grind[gQ]
  go_wp2;go_ret;exact⟨Lz.yes U.out,HB.out⟩
 exact zm104
open Go.Sort
def DP(w:Uc)(l:Ud)(h:Q1 w l (xa (TT mb) 1 1) 33)(hm:w.heap[mb]?=some (xi #[xd xh m] 3 (0,0))):
  Calls prog 67 #[l,xd xh m] w λe w'=>e=xm (xn true)/\w'=w:=by
 obtain⟨o,n,c,rfl,hn,h⟩:=h;have H:=fy h;have mc:=(EQ hm 0).trans rfl;clear h hm;exact zm29
def En(ac bc:Nat)(hn:n=L.length)(J:So w ao L)(U:So w bo L)(I:n<=10000000000000):
  Calls prog 61 #[xa ao n ac,xa bo n bc] w λe w'=>e=xm (xn true)/\XL w w':=by
 subst hn;refine(ui J U I I).mono ?_;rintro e w' ⟨⟨b,he,hb'⟩,hb⟩;simp_all
def yO(ac bc:Nat){L:T8}(hn:n=L.length)(J:SV w ao L)(U:SV w bo L)(I:n<=10000000000000):
  Calls prog 111 #[xa ao n ac,xa bo n bc] w λe w'=>e=xm (xn true)/\XL w w':=by
 subst hn;refine(Dt w L L J U I I).mono ?_;rintro e w' ⟨⟨b,he,hb'⟩,hb⟩;simp_all
structure TN(w:Uc)(ao fo no:TX)(z:Tz):Prop where
 acts:So w ao z.acts
 fl:SV w fo z.fl
 nx:S9 w no z.nx
def S9.lat{l:List (T8)}(h:S9 w o l)(I:XL w w'):S9 w' o l:=λj r hr=>by
 obtain⟨b,off,ro,rc,U,J,h3,h4⟩:=h j r hr;exact⟨b,off,ro,rc,U,Uw J I.size,(Fd I _ _ J).trans h3,h4.later I⟩
def TN.later{no:TX}{z:Tz}(h:TN w ao fo no z)(I:XL w w'):TN w' ao fo no z:=⟨h.acts.later I,h.fl.later I,h.nx.lat I⟩
def QV(z:Tz):Prop:=z.acts.length<=10000000000000/\z.fl.length<=10000000000000/\z.nx.length<=10000000000000/\∀r∈z.nx,r.length<=10000000000000
def BA(w:Uc){no go ho:TX}{fc gc hc:Nat}{z:Tz}(h1:TN w ao fo no z)(h2:TN w bo go ho z)(hz:QV z)(ea:na=z.acts.length)(ef:nf=z.fl.length)(en:nn=z.nx.length):
  Calls prog 62 #[.agg #[xa ao na ac,xa fo nf fc,xa no nn nc],.agg #[xa bo na bc,xa go nf gc,xa ho nn hc]] w λe w'=>e=xm (xn true)/\XL w w':=by
 have J:XL w ((w.alloc (xi #[xa ao na ac,xa fo nf fc,xa no nn nc] 36)).alloc (xi #[xa bo na bc,xa go nf gc,xa ho nn hc] 36)):=gC.alloc zp _;have HP:Hid (((w.alloc (xi #[xa ao na ac,xa fo nf fc,xa no nn nc] 36)).alloc (xi #[xa bo na bc,xa go nf gc,xa ho nn hc] 36)).heap[w.heap.size]?=some (xi #[xa ao na ac,xa fo nf fc,xa no nn nc] 36 (0,0))):=(XD zp).trans (gi _ _);have HO:Hid (((w.alloc (xi #[xa ao na ac,xa fo nf fc,xa no nn nc] 36)).alloc (xi #[xa bo na bc,xa go nf gc,xa ho nn hc] 36)).heap[w.heap.size+1]?=some (xi #[xa bo na bc,xa go nf gc,xa ho nn hc] 36 (0,0))):=gu zp;have aa:=fy (En ac bc ea (h1.acts.later J) (h2.acts.later J) (ea▸hz.1));have H1:=h1.later J;have H2:=h2.later J;have EF:=fy ef;have EN:=fy en;have hnn:=en▸hz.2.2.1
 clear h1 h2 ea ef en;go_in;go_wp2_with fail;refine aa.out.mono ?_;clear aa;generalize ((w.alloc (xi #[xa ao na ac,xa fo nf fc,xa no nn nc] 36)).alloc (xi #[xa bo na bc,xa go nf gc,xa ho nn hc] 36))=W at *;rintro e w1 ⟨rfl,I⟩;have ai:=(I.block _ (dK HP.out)).trans HP.out;have ag:=(I.block _ (dK HO.out)).trans HO.out;have p1:=EQ ai;have o1:=EQ ag;have aa:=yO fc gc EF.out (H1.fl.later I) (H2.fl.later I) (EF.out▸hz.2.1);go_wp2_with fail;refine aa.mono ?_;clear aa p1 o1;rintro e w2 ⟨rfl,aj⟩;have au:=(aj.block _ (dK ai)).trans ai;have ar:=(aj.block _ (dK ag)).trans ag;have aw:=I.trans (aj.mono I.size);have p2:=EQ au;have o2:=EQ ar;clear aj ai ag I;go_wp2
 go_loopw [7] (λx wr=>∃k:Nat,k<=nn/\x=xd xh k/\Hid (XL w2 wr)) (λx _=>nn-(intOf x).toNat)
 .exact⟨0,Ux,rfl,XF⟩
 clear p2 o2;obtain⟨k,hk,rfl,U⟩:=hrel;have ae:=aw.trans (U.out.mono aw.size);have an:=(U.out.block _ (dK au)).trans au;have ak:=(U.out.block _ (dK ar)).trans ar;have x2:=(EQ an 2).trans rfl;have y2:=(EQ ak 2).trans rfl;have xl:=dK an;have yl:=dK ak;rcases zc k nn with⟨hlt,hkn⟩|⟨hlt,hkn⟩
 .have av:k<(z.nx).length:=by rw[<-EN.out];omega
  obtain⟨b,off,ro,rc,rfl,hb,aA,ay⟩:=H1.nx.lat ae k _ (Uq av);obtain⟨d,of2,so,sc,rfl,hd,aB,az⟩:=H2.nx.lat ae k _ (Uq av);have aC:=hz.2.2.2 _ (UY av);generalize z.nx[k]=row at *;obtain⟨m,hm⟩:∃m,m=row.length:=⟨_,rfl⟩;rw[<-hm] at aA aB;have ax:=fy (λd os=>yO rc sc hm (ay.later (U3 wr d os)) (az.later (U3 wr d os)) (hm▸aC));have k5:=λd os=>UW x2 d os
  have k6:=λd os=>UW y2 d os
  have kg:=λd os=>UW aA d os
  have kq:=λd os=>UW aB d os
  clear hm ay az aC ae an ak;go_wp2_with fail;refine VY zk zk ?_
  repeat (quiet_step (first|(exact Xj (ax.out _ _))))
  refine Xo ?_;intro w5 aJ;obtain⟨⟨dq,aK⟩,aq⟩:=aJ;have aE:=U.out.trans ((by rw[aq];exact U3 wr dq aK:XL wr w5).mono U.out.size);clear aq k5 k6 kg kq ax;go_wp2
  go_roundw
  .exact⟨k+1,zo,zf,aE⟩
  simp[intOf];omega
 have HFIN:=J.trans (ae.mono J.size);clear ae an ak;go_wp2;go_ret;trivial
end Go.Proofs.YtidakhhekofkoaaGreatDoor
