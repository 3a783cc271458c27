import Derived.Test.YtidakhhekofkoaaGreatDoorT13
set_option linter.all false
set_option maxHeartbeats 16000000
set_option maxRecDepth 100000
namespace Go.Proofs.YtidakhhekofkoaaGreatDoor
attribute [local go_sem] TT TU TV XL
attribute [local simp] TT TU TV XL
open Go.Proofs.Tryz
open Go.RowKit Go.Deep
open Value renaming slice->xa,int->xd,string->xj,pointer->xk,bool->xn
open IntKind renaming i64->xh
open Obj renaming cells->xi
open Ending renaming returned->xm
open Nat renaming add_mul->Rv
open World renaming ownsRow->Rx
open Int renaming toNat->RE
variable{zq:Prop}
variable{e n i j x f na ab a0 f0 nb n0 nc lc g' N sb hc:Nat}{xs rv':TW}{y a:Ub}{ao fo o lo ho:TX}{r q fl':T5}{cs:List Cs}{rb ro rc:Nat->Nat}{ac:TZ}{A' F' X' v':Ud}{t':Tb}{b:T7}{nx':T0}{m:T3}{p:Bool × T7}
def zm11(h:zq:=by
 go_wp2_with fail;have hfin:=jf HRS TV TV TV;have hbf:=iY HB (XH) TV TV TV;change bodyPost _ _ _ _ _ (jb wr w.heap.size TV TV TV);generalize jb wr w.heap.size TV TV TV=wf at *;have fcc:=EQ hfin;refine py (v:=.tuple #[.agg #[TV,TV,TV],xd xh 6]) (by simp[results,results145,go_sem,fcc]) rfl ?_;exact⟨none,HFAIL.out,hbf,rfl⟩
 ):zq:=h
def zm20(h:zq:=by
 have fcc:=EQ hfin;refine py (v:=.tuple #[.agg #[TV,TV,TV],xd xh 6]) (by simp[results,results145,go_sem,fcc]) rfl ?_;exact⟨none,HFAIL.out,hbf,rfl⟩
 ):zq:=h
def zm37(h:zq:=by
 go_in;go_wp2_with fail;refine py (v:=xn false) (by simp[results,results146,go_sem]) rfl ?_;exact⟨Lz.no HN.out,H0.bel⟩
 ):zq:=h
def zm38(h:zq:=by
 go_wp2_with fail;refine py (v:=xn false) (by simp[results,results146,go_sem]) rfl ?_;exact⟨Lz.no HN.out,H1.out.bel⟩
 ):zq:=h
def zm47(h:zq:=by
 go_wp2;go_quiet (fail);go_wp2_with fail;refine py (v:=xn false) (by simp[results,results146,go_sem]) rfl ?_;exact⟨Lz.no HN.out,(H2.out.later (iK _ _)).bel⟩
 ):zq:=h
def zm57(h:zq:=by
 have HLK2:Hid (∀i,i<k2+1->(2<=jS t i↔LE t i)):=λi hi=>by
  by_cases e:i=k2
  .subst e;rw[HFE.out];simp_all
  exact HLK.out i zo
 clear hlv hiff;go_wp2;go_quiet (fail);go_wp2
 go_roundw
 .exact⟨k2+1,zo,zf,HB6.out.trans ((iK _ _).mono HB6.out.size),HLK2⟩
 simp[intOf];omega
 ):zq:=h
def zm83(h:zq:=by
 clear hlv hiff;go_wp2;go_quiet (fail);go_wp2_with fail;refine py (v:=xn false) (by simp[results,results146,go_sem]) rfl ?_;exact⟨Lz.no HN.out,(H6.later (iK _ _)).bel⟩
 ):zq:=h
def zm123(h:zq:=by
 go_wp2_with fail;refine py (v:=xn false) (by simp[results,results146,go_sem]) rfl ?_;exact⟨Lz.no HN.out,H3.bel⟩
 ):zq:=h
def rB(t:Tb)(a:Nat):Ub:=(t.acts[a]?).getD ⟨#[]⟩
def pL{w:Uc}{base:Nat}{v:Ud}(h:w.ownsRow base e 1 v n xs){b:Nat}(I:v.ownBlock=some b):base<=b:=by
 obtain⟨_,⟨U,_⟩|⟨g',cap,cur,hv,J,_⟩⟩:=h
 .rw[U] at I;cases I
 rw[hv] at I;cases I;exact J
structure TQ(w wr:Uc)(g:Nat)(T:T1)(F:T5):Prop where
 b0:wr.heap[w.heap.size]?=some (xi T 36 (0,0))
 fr:wr.heap[g]?=some (xi (gX F).toArray 3 (0,0))
 bel:XL w wr
 hg:w.heap.size<g
def TQ.put{w wr:Uc}{g:Nat}{T:T1}{F:T5}(h:TQ w wr g T F)(k x:Nat):TQ w (wr.setCell (TU g k) (xd xh (x:Int))) g T (F.set k x):=by
 have hg:=h.hg;refine⟨(XE (by show w.heap.size≠g;omega)).trans h.b0,?_,h.bel.setCell (by show w.heap.size<=g;omega) _,hg⟩;have:=gj h.fr k (xd xh (x:Int));rw[UT] at this;have e:(gX F).set k (xd xh (x:Int))=gX (F.set k x):=by unfold gX;simp
 simp_all
def qX{x:Ub}(h:x≠y):(x.toList==y.toList)=false:=V3.2 λe=>h (by
 apply lQ;rw[Ui,Ui] at e;omega)
def xD(z:Tz):Tb:=⟨z.acts,z.fl.map RE,z.nx.map λr=>r.map RE⟩
structure OL(z:Tz):Prop where
 fl:∀f∈z.fl,0<=f/\f<=3
 rs:∀r∈z.nx,r.length=z.acts.length/\∀x∈r,0<=x/\x<(z.nx.length:Int)
def Pn{z:Tz}(h:OL z):(xD z).z=z:=by
 refine Tz.ext' rfl (vV λx I=>(h.fl x I).1) ?_;show(z.nx.map λr=>r.map RE).map zI=z.nx;rw[Vp]
 conv=>rhs;rw[<-VW z.nx]
 exact Vd λr hr=>vV λx I=>((h.rs r hr).2 x I).1
def NP{z:Tz}(h:OL z)(I:1<=z.acts.length)(J:z.acts.length<=6)(U:1<=z.nx.length)(hn:z.nx.length<=100)(hf:z.fl.length=z.nx.length):Tr (xD z) z.acts.length z.nx.length:=by
 refine⟨rfl,by unfold xD;simp,by unfold xD;simp[hf],I,J,U,hn,λr hr=>?_⟩;have aa:=hr;obtain⟨q,hq,rfl⟩:=List.mem_map.1 aa;obtain⟨h1,h2⟩:=h.rs q hq;simp_all
def JL{W:Uc}{no:TX}{ac:Nat}{t:Tb}{A:Nat}(h:SN W ao fo no ac t.z)(hS:Tr t A n):
  ∃fb f0 nb n0 rb ro rc,fo=some ⟨fb,f0,none⟩/\no=some ⟨nb,n0,none⟩/\TM W t A n fb f0 nb n0 rb ro rc:=by
 have hA:=hS.A1;have hn:=hS.n1;have hnl:=hS.hn;have hfl:=hS.hf;have ai:∀i,i<n->t.z.fl[i]?=some (jS t i:Int):=λi hi=>by
  show(zI t.fl)[i]? =_;unfold zI jS;simp_all
 have aj:∀i,i<n->∃r,t.nx[i]?=some r/\r.length=A/\t.z.nx[i]?=some (zI r):=λi hi=>by
  have ae:i<t.nx.length:=zo;refine⟨t.nx[i],Uq ae,(hS.rs _ (UY ae)).1,?_⟩;show(t.nx.map zI)[i]? =_;simp_all
 obtain⟨fb,f0,rfl,ad,_⟩:=h.fl 0 _ (ai 0 zo);obtain⟨r0,_,_,aq⟩:=aj 0 zo;obtain⟨nb,n0,_,_,rfl,ag,_,_⟩:=h.nx 0 _ aq;have I:∀i,∃p:Nat × Nat × Nat,i<n->W.cell? (TU nb (n0+i))=some (xa (some (TU p.1 p.2.1)) A p.2.2)/\p.1<W.heap.size/\∀a,a<A->W.cell? (TU p.1 (p.2.1+a))=some (xd xh (kW t i a:Int)):=λi=>by
  by_cases hi:i<n
  .obtain⟨r,h1,h2,h3⟩:=aj i hi;obtain⟨b,off,ro,rc,e1,_,e3,e4⟩:=h.nx i _ h3;cases e1;have J:∀a,a<A->(zI r)[a]?=some (kW t i a:Int):=λa ha=>by
    unfold zI kW;simp_all
   obtain⟨qb,q0,rfl,an,_⟩:=e4 0 _ (J 0 zo);refine⟨(qb,q0,rc),λ_=>⟨?_,an,λa ha=>?_⟩⟩
   .rw[e3];have:(zI r).length=A:=by unfold zI;simp_all
    rw[this]
   obtain⟨b',off',e5,_,e6⟩:=e4 a _ (J a ha);simp_all
  exact⟨(0,0,0),λh=>absurd h hi⟩
 have U:=λi=>WA (I i)
 refine⟨fb,f0,nb,n0,λi=>(Classical.choose (I i)).1,λi=>(Classical.choose (I i)).2.1,λi=>(Classical.choose (I i)).2.2,rfl,rfl,⟨hS,λi hi=>?_,λi hi=>(U i hi).1,λi a hi ha=>(U i hi).2.2 a ha,ad,ag,λi hi=>(U i hi).2.1⟩⟩;obtain⟨b,off,e1,_,e3⟩:=h.fl i _ (ai i hi);simp_all
structure TO(l:TZ)(i:Nat):Prop where
 nm:∀a∈l.take i,pE a
 nd:(l.take i).Nodup
def TO.next{l:TZ}{s:Ub}(h:TO l i)(hs:l[i]?=some s)(hn:pE s)(hd:s∉l.take i):TO l (i+1):=by
 have e:l.take (i+1)=l.take i++[s]:=by rw[U5,hs];rfl
 refine⟨λa I=>?_,?_⟩
 .rw[e] at I;rcases List.mem_append.1 I with I|I
  .exact h.nm a I
  rw[List.mem_singleton.1 I];exact hn
 rw[e,WU];exact⟨h.nd,zp,λx hx y hy e=>by
  simp_all⟩
def yb{w:Uc}{no:TX}{ac:Nat}(fc nc:Nat){z:Tz}(hI:SN w ao fo no ac z):
  Calls prog 146 #[.agg #[xa ao z.acts.length ac,xa fo z.fl.length fc,xa no z.nx.length nc]] w λe w'=>Lz (iS z) e/\XL w w':=by
 have H0:=TD.start w #[xa ao z.acts.length ac,xa fo z.fl.length fc,xa no z.nx.length nc];have HZ:=fy (AT z);have bW:=hI.al;have bX:=hI.fll;have bY:=hI.nxl;have c0:=EQ H0.b0 0;have c1:=EQ H0.b0 1;have c2:=EQ H0.b0 2;have l0:=dK H0.b0;by_cases hA1:1<=z.acts.length
 case neg=>
  have HN:Hid (¬ iS z):=λh=>hA1 (HZ.out.1 h).1.n1
  have a7:(z.acts.length:Int)<1:=zo;exact zm37
 have a7:¬ (z.acts.length:Int)<1:=zo;by_cases hA6:z.acts.length<=6
 case neg=>
  have HN:Hid (¬ iS z):=λh=>hA6 (HZ.out.1 h).1.n6
  have a8:6<(z.acts.length:Int):=zo;exact zm37
 have a8:¬ 6<(z.acts.length:Int):=zo;by_cases hn1:1<=z.fl.length
 case neg=>
  have HN:Hid (¬ iS z):=λh=>hn1 (by have h2:=(HZ.out.1 h).2.1;rw[h2.fl];exact h2.n1)
  have ba:(z.fl.length:Int)<1:=zo;exact zm37
 have ba:¬ (z.fl.length:Int)<1:=zo;by_cases hn100:z.fl.length<=100
 case neg=>
  have HN:Hid (¬ iS z):=λh=>hn100 (by have h2:=(HZ.out.1 h).2.1;rw[h2.fl];exact h2.n100)
  have bc:100<(z.fl.length:Int):=zo;exact zm37
 have bc:¬ 100<(z.fl.length:Int):=zo;by_cases hfn:z.nx.length=z.fl.length
 case neg=>
  have HN:Hid (¬ iS z):=λh=>hfn ((HZ.out.1 h).2.1).fl.symm
  have hi5:¬ (z.nx.length:Int)=(z.fl.length:Int):=zo;exact zm37
 rw[hfn] at c2 H0|-;have U:=fy hfn;clear hfn bY;obtain⟨n,hn⟩:∃n,z.fl.length=n:=⟨_,rfl⟩;obtain⟨A,hA⟩:∃A,z.acts.length=A:=⟨_,rfl⟩;rw[hn,hA] at H0 c0 c1 c2|-;rw[hn] at hn1 hn100 bX ba bc U;rw[hA] at hA1 hA6 bW a7 a8;have ax:=fy hn;have aa:=fy hA;clear hn hA;go_in;go_wp2_with fail;clear c0 c1 c2 l0;generalize w.alloc (xi #[xa ao A ac,xa fo n fc,xa no n nc] 36)=W0 at *
 go_loopw [4] (λx wr=>∃i:Nat,i<=A/\x=xd xh i/\Hid (TD w wr #[xa ao A ac,xa fo n fc,xa no n nc])/\Hid (TO z.acts i)) (λx _=>A-(intOf x).toNat)
 .exact⟨0,Ux,rfl,H0,⟨λa ha=>by simp at ha,zp⟩⟩
 obtain⟨i,hi,rfl,H1,HM⟩:=hrel;have c0:=EQ H1.out.b0 0;have l0:=dK H1.out.b0;rcases zc i A with⟨aq,hin⟩|⟨aq,hin⟩
 .have bd:i<z.acts.length:=by rw[aa.out];omega
  obtain⟨b,off,rfl,aX,aW⟩:=(hI.later H1.out.bel).acts i z.acts[i] (Uq bd);have HX:=fy (Uq bd:z.acts[i]?=some z.acts[i]);generalize z.acts[i]=s at *;have I:Hid (iS z->pE s/\s∉z.acts.take i):=λh=>by
   have h1:=(HZ.out.1 h).1;refine⟨h1.nm s (UA HX.out),λhm=>?_⟩;obtain⟨j,hj⟩:=List.mem_iff_getElem?.1 hm;have bU:j<i:=by have:=(List.getElem?_eq_some_iff.1 hj).1;rw[Vi] at this;omega
   rw[Xm bU] at hj;have:=(WW (show j<z.acts.length from zo) h1.nd).1 (hj.trans HX.out.symm);omega
  have ag:=xU s wr;by_cases hs1:1<=s.size
  case neg=>
   have HN:Hid (¬ iS z):=λh=>hs1 ((I.out h).1).n1
   have bS:(s.size:Int)<1:=zo;go_wp2_with fail;refine ag.mono ?_;rintro e w' ⟨rfl,J⟩;subst J;exact zm38
  have bS:¬ (s.size:Int)<1:=zo;by_cases hs8:s.size<=8
  case neg=>
   have HN:Hid (¬ iS z):=λh=>hs8 ((I.out h).1).n8
   have bT:8<(s.size:Int):=zo;go_wp2_with fail;refine ag.mono ?_;rintro e w' ⟨rfl,J⟩;subst J;exact zm38
  have bT:¬ 8<(s.size:Int):=zo;cases hwd:Q7 s.data.toList with
  |true=>
   have HN:Hid (¬ iS z):=λh=>by have:=((I.out h).1).wd;simp_all
   rw[hwd] at ag;clear hwd;go_wp2_with fail;refine ag.mono ?_;rintro e w' ⟨rfl,J⟩;subst J;exact zm38
  |false=>
   rw[hwd] at ag;have bI:=fy hwd;clear hwd;go_wp2_with fail;refine ag.mono ?_;rintro e w' ⟨rfl,J⟩;subst J;clear ag;go_wp2_with fail
   rename Uc=>wR
   go_loopw [7] (λx wr=>∃k:Nat,k<=s.size/\x=xd xh k/\Hid (wr=wR)/\Hid (∀j (h:j<s.size),j<k->GE s[j]=true)) (λx _=>s.size-(intOf x).toNat)
   .exact⟨0,Ux,rfl,rfl,λj _ h=>absurd h (V2 j)⟩
   obtain⟨k,hk,rfl,ad,aO⟩:=hrel;have aw:=ad.out;subst aw;clear ad;rcases zc k s.size with⟨hks,hki⟩|⟨hks,hki⟩
   .have ak:=oZ (c:=s[k]) (w:=wr);cases hlt:GE s[k] with
    |true=>
     rw[hlt] at ak;have bu:Hid (∀j (h:j<s.size),j<k+1->GE s[j]=true):=λj h hj=>by
      by_cases e:j=k
      .simp_all
      exact aO.out j h zo
     clear hlt;go_wp2_with fail;refine ak.mono ?_;rintro e w' ⟨rfl,J⟩;subst J;clear ak;go_wp2
     go_roundw
     .exact⟨k+1,zo,zf,trivial,bu⟩
     simp[intOf];omega
    |false=>
     rw[hlt] at ak;have HN:Hid (¬ iS z):=λh=>by
      have h1:=((I.out h).1).lt s[k] (by
       show s.data[k]∈s.data.toList;simp)
      simp_all
     clear hlt;go_wp2_with fail;refine ak.mono ?_;rintro e w' ⟨rfl,J⟩;subst J;clear ak;exact zm38
   have bE:Hid (pE s):=⟨hs1,hs8,λc hc=>by
    obtain⟨j,hj,rfl⟩:=List.getElem_of_mem hc;have bR:j<s.size:=zv;have:=aO.out j bR zo;trivial,bI.out⟩
   go_wp2_with fail
   rename Uc=>wQ
   go_loopw [9] (λx wr=>∃k:Nat,k<=i/\x=xd xh k/\Hid (wr=wQ)/\Hid (s∉z.acts.take k)) (λx _=>i-(intOf x).toNat)
   .exact⟨0,Ux,rfl,rfl,λh=>US h⟩
   obtain⟨k,hk,rfl,ad,bD⟩:=hrel;have aw:=ad.out;subst aw;clear ad;rcases zc k i with⟨hks,hki⟩|⟨hks,hki⟩
   .have hkA:(k:Int)<(A:Int):=zo;have bh:k<z.acts.length:=zo;obtain⟨b2,bn,e2,aj,ai⟩:=(hI.later H1.out.bel).acts k z.acts[k] (Uq bh);cases e2;have aQ:=fy (Uq bh:z.acts[k]?=some z.acts[k]);generalize z.acts[k]=s2 at *;by_cases he:s2=s
    .have HN:Hid (¬ iS z):=λh=>(I.out h).2 (by
      refine UA (i:=k) ?_;rw[Xm hks,aQ.out,he])
     subst he;exact zm38
    have hne:=qX he;have aP:Hid (s∉z.acts.take (k+1)):=by
     show ¬ _;rw[U5,aQ.out,List.mem_append];rintro (h|h)
     .trivial
     simp_all
    clear he;go_wp2
    go_roundw
    .exact⟨k+1,zo,zf,trivial,aP⟩
    simp[intOf];omega
   have bV:i=k:=zo;subst bV;have bC:=HM.out.next HX.out bE.out bD.out;go_wp2
   go_roundw
   .exact⟨i+1,zo,zf,H1,bC⟩
   simp[intOf];omega
 have bq:Hid (n5 z.acts):=by
  have h1:=HM.out;have h2:z.acts.take i=z.acts:=UF (by rw[aa.out];omega);exact⟨by rw[aa.out];omega,by rw[aa.out];omega,λa ha=>h1.nm a za,by have:=h1.nd;simp_all⟩
 go_wp2_with fail;clear c0 l0 HM
 rename Uc=>wR
 go_loopw [10] (λx wr=>∃k:Nat,k<=n/\x=xd xh k/\Hid (TD w wr #[xa ao A ac,xa fo n fc,xa no n nc])/\Hid ((∀f∈z.fl.take k,0<=f/\f<=3)/\∀r∈z.nx.take k,r.length=z.acts.length/\∀x∈r,0<=x/\x<(z.nx.length:Int))) (λx _=>n-(intOf x).toNat)
 .exact⟨0,Ux,rfl,H1,⟨λf hf=>(US hf).elim,λr hr=>(US hr).elim⟩⟩
 obtain⟨k,hk,rfl,H2,HS⟩:=hrel;rcases zc k n with⟨hkn,hki⟩|⟨hkn,hki⟩
 .have bj:k<z.fl.length:=by rw[ax.out];omega
  have aL:k<z.nx.length:=by rw[U.out];omega
  have ae:=hI.later H2.out.bel;obtain⟨b,off,rfl,aX,aW⟩:=ae.fl k z.fl[k] (Uq bj);obtain⟨b2,bn,ro,rc,rfl,aj,ai,b4⟩:=ae.nx k z.nx[k] (Uq aL);have bZ:=ae.rl z.nx[k] (UY aL);have aR:=fy (Uq bj:z.fl[k]?=some z.fl[k]);have aS:=fy (Uq aL:z.nx[k]?=some z.nx[k]);generalize z.fl[k]=f at *;generalize z.nx[k]=r at *;have c0:=EQ H2.out.b0 0;have c1:=EQ H2.out.b0 1;have c2:=EQ H2.out.b0 2;have l0:=dK H2.out.b0;have I:Hid (iS z->(0<=f/\f<=3)/\r.length=A/\∀x∈r,0<=x/\x<(n:Int)):=λh=>by
   obtain⟨_,h2,h3⟩:=HZ.out.1 h;obtain⟨h4,h5,_⟩:=h3 k f aR.out;obtain⟨h6,h7⟩:=h2.rs r (UA aS.out);refine⟨⟨h4,h5⟩,by rw[h6];trivial,λx hx=>?_⟩;have:=tO.1 (List.all_eq_true.1 h7 x hx);rw[U.out] at this;omega
  clear ae;by_cases hf0:0<=f
  case neg=>
   have HN:Hid (¬ iS z):=λh=>hf0 (I.out h).1.1
   have hf0':f<0:=zo;exact zm47
  have hd0:decide (f<0)=false:=Uy zo;by_cases aK:f<=3
  case neg=>
   have HN:Hid (¬ iS z):=λh=>aK (I.out h).1.2
   have bQ:decide (3<f)=true:=UH zo;exact zm47
  have bQ:decide (3<f)=false:=Uy zo;by_cases hrA:r.length=A
  case neg=>
   have HN:Hid (¬ iS z):=λh=>hrA (I.out h).2.1
   have hdr:((r.length:Int) !=(A:Int))=true:=by rw[Xk];omega
   exact zm47
  rw[hrA] at ai bZ;have aD:=fy hrA;clear hrA;go_wp2;go_quiet (fail);have au:=iK wr nq;have H3:=H2.out.later au;have br:=fy ((Fd au _ _ aj).trans ai);have bF:=b4.later au;have hbl3:=Uw aj au.size;clear au aW aX ai aj c0 c1 c2 l0;generalize hwd:wr.drewN nq=wd at *;clear hwd;go_wp2
  go_loopw [11] (λx wr=>∃a:Nat,a<=A/\x=xd xh a/\Hid (wr=wd)/\Hid (∀y∈r.take a,0<=y/\y<(n:Int))) (λx _=>A-(intOf x).toNat)
  .exact⟨0,Ux,rfl,rfl,λy hy=>(US hy).elim⟩
  obtain⟨a,ha,rfl,ad,HY⟩:=hrel;have aw:=ad.out;clear ad;subst aw;have c0:=EQ H3.b0 0;have c2:=EQ H3.b0 2;have l0:=dK H3.b0;rcases zc a A with⟨haA,han⟩|⟨haA,han⟩
  .have aV:a<r.length:=by rw[aD.out];omega
   obtain⟨b3,off3,rfl,hbl4,hbc4⟩:=bF a r[a] (Uq aV);have aF:=fy (Uq aV:r[a]?=some r[a]);generalize r[a]=y at *;have hbc3:=br.out;by_cases hy0:0<=y
   case neg=>
    have HN:Hid (¬ iS z):=λh=>hy0 ((I.out h).2.2 y (UA aF.out)).1
    have bl:y<0:=zo;exact zm123
   have bl:¬ y<0:=zo;by_cases hyn:y<(n:Int)
   case neg=>
    have HN:Hid (¬ iS z):=λh=>hyn ((I.out h).2.2 y (UA aF.out)).2
    have bm:(n:Int)<=y:=zo;exact zm123
   have bm:¬ (n:Int)<=y:=zo;have bK:Hid (∀y∈r.take (a+1),0<=y/\y<(n:Int)):=λq hq=>by
    rw[U5,aF.out] at hq;rcases List.mem_append.1 hq with h|h
    .exact HY.out q h
    simp_all
   go_wp2
   go_roundw
   .exact⟨a+1,zo,zf,trivial,bK⟩
   simp[intOf];omega
  have bH:Hid ((∀f∈z.fl.take (k+1),0<=f/\f<=3)/\∀r∈z.nx.take (k+1),r.length=z.acts.length/\∀x∈r,0<=x/\x<(z.nx.length:Int)):=by
   refine⟨λq hq=>?_,λq hq=>?_⟩
   .rw[U5,aR.out] at hq;rcases List.mem_append.1 hq with h|h
    .exact HS.out.1 q h
    simp_all
   rw[U5,aS.out] at hq;rcases List.mem_append.1 hq with h|h
   .exact HS.out.2 q h
   have:q=r:=za;rw[this];refine⟨aD.out.trans aa.out.symm,λx hx=>?_⟩;have h1:=HY.out;rw[UF (by rw[aD.out];omega)] at h1;rw[U.out];simp_all
  go_wp2
  go_roundw
  .exact⟨k+1,zo,zf,H3,bH⟩
  simp[intOf];omega
 have aE:Hid (OL z):=by
  have h1:=HS.out;rw[UF (by rw[ax.out];omega),UF (by rw[U.out];omega)] at h1;exact⟨h1.1,h1.2⟩
 have aM:=Pn aE.out;have ay:=NP aE.out (by rw[aa.out];omega) (by rw[aa.out];omega) (by rw[U.out];omega) (by rw[U.out];omega) (by rw[ax.out,U.out]);rw[aa.out,U.out] at ay;have ae:=hI.later H2.out.bel;rw[<-aM] at ae;obtain⟨fb,f0,nb,n0,rb,ro,rc,rfl,rfl,hK⟩:=JL ae ay;have aH:=fy aM;have aK:Hid (∀i,i<n->jS (xD z) i<=3):=λi hi=>by
  have aq:i<z.fl.length:=by rw[ax.out];omega
  have h1:=aE.out.fl z.fl[i] (UY aq);unfold jS xD;simp_all
 clear aM ae;generalize xD z=t at *;have c0:=EQ H2.out.b0 0;have c1:=EQ H2.out.b0 1;have c2:=EQ H2.out.b0 2;have l0:=dK H2.out.b0;go_wp2_with fail;refine(x9 ao A ac fc nc rb ro rc hK).mono ?_;clear c0 c1 c2 l0;rintro e w5 ⟨L,rfl,aB,aT,aU,aJ⟩;have H5:=H2.out.later aJ;have bt:=hK.later aJ;have bA:=fy aU;have bw:=fy aT;clear aT aU aJ hK;generalize wr.heap.size=g at *;go_wp2
 go_loopw [13] (λx wq=>∃k:Nat,k<=n/\x=xd xh k/\Hid (XL w5 wq)/\Hid (∀i,i<k->(2<=jS t i↔LE t i))) (λx _=>n-(intOf x).toNat)
 .exact⟨0,Ux,rfl,XF,λi hi=>absurd hi (V2 i)⟩
 obtain⟨k2,hk2,rfl,HB6,HLK⟩:=hrel;have H6:=H5.later HB6.out;have aN:=bt.later HB6.out;have ar:=(HB6.out.block _ (dK aB)).trans aB;rcases zc k2 n with⟨hkl,hki2⟩|⟨hkl,hki2⟩
 .have c1:=EQ H6.b0 1;have l0:=dK H6.b0;have hfl:=aN.fla k2 hkl;have hlf:=aN.lf;have aY:wr.cell? (TU (g+1) k2)=some (xn (lv L k2)):=by
   rw[EQ ar];have bg:k2<L.length:=by rw[bw.out];omega
   unfold lv;rw[Uq bg];exact qV (Uq bg)
  have hlg:=dK ar;have hiff:=bA.out k2;have I:Hid (iS z->(2<=jS t k2↔LE t k2)):=λh=>by
   rw[<-aH.out,tJ] at h;have hk3:k2<t.fl.length:=by rw[ay.hf];omega
   exact h.alive k2 (jS t k2) (by unfold jS;simp_all)
  clear ar;generalize hfe:jS t k2=f at *;have HFE:=fy hfe;clear hfe;cases hlv:lv L k2 with
  |true=>
   rw[hlv] at aY;have av:=hiff.1 hlv;by_cases hf2:2<=f
   .have a6:2<=(f:Int):=zo;exact zm57
   have bP:decide ((2:Int)<=(f:Int))=false:=Uy zo;have HN:Hid (¬ iS z):=λh=>hf2 ((I.out h).2 av)
   exact zm83
  |false=>
   rw[hlv] at aY;have av:¬ LE t k2:=λh=>za
   by_cases hf2:2<=f
   .have a6:2<=(f:Int):=zo;have HN:Hid (¬ iS z):=λh=>av ((I.out h).1 hf2)
    exact zm83
   have bP:decide ((2:Int)<=(f:Int))=false:=Uy zo;exact zm57
 have HY:Hid (iS z):=by
  show iS z;rw[<-aH.out,tJ];have hs:=ay;have bO:t.acts=z.acts:=by have:=aH.out;exact congrArg Tz.acts this
  refine⟨by rw[bO];exact bq.out,by rw[hs.hn];omega,by rw[hs.hn];omega,by rw[hs.hf,hs.hn],λr hr=>?_,λf hf=>?_,λi f hi=>?_⟩
  .rw[hs.hA,hs.hn];exact hs.rs r hr
  .obtain⟨i,hi⟩:=List.mem_iff_getElem?.1 hf;have aq:i<n:=by have:=(List.getElem?_eq_some_iff.1 hi).1;rw[hs.hf] at this;omega
   have:=aK.out i aq;unfold jS at this;simp_all
  have aq:i<n:=by have:=(List.getElem?_eq_some_iff.1 hi).1;rw[hs.hf] at this;omega
  have:=HLK.out i zo;unfold jS at this;simp_all
 go_wp2_with fail;refine py (v:=xn true) (by simp[results,results146,go_sem]) rfl ?_;exact⟨Lz.yes HY.out,H6.bel⟩
def Io(a b:Ub):(a++b).data.toList=a.data.toList++b.data.toList:=zp
def nN(t:Tb)(k j:Nat)(a:Ub):T9:=jT t k++[u8 a.size]++a.data.toList.take j
def GI(t:Tb)(k:Nat)(a:Ub):nN t k 0 a=jT t k++[u8 a.size]:=by unfold nN;simp
def GH(t:Tb)(k:Nat)(h:j<a.size):nN t k (j+1) a=nN t k j a++[u8 a[j].toNat]:=by
 unfold nN;have hg:a.data.toList[j]?=some a[j]:=by rw[UN];exact U' h
 have e:u8 a[j].toNat=a[j]:=by unfold u8;simp
 rw[U5,hg,e,<-UI];rfl
def Ji{t:Tb}{k:Nat}(h:t.acts[k]?=some a)(hj:a.size<=j):nN t k j a=jT t (k+1):=by
 unfold nN;rw[AO h,UF zv]
def Lt{t:Tb}(h:Fn t)(k j:Nat)(ha:a.size<=8):(nN t k j a).length<=70:=by
 have:=vQ h k;have h2:a.data.toList.length=a.size:=zf;unfold nN;simp only[Ur,UM,Xa,Vi];omega
def nO(t:Tb)(k j f:Nat)(r:T5):T9:=jE t k++[u8 f]++(r.take j).map u8
def GK(t:Tb)(k f:Nat)(r:T5):nO t k 0 f r=jE t k++[u8 f]:=by unfold nO;simp
def GJ(t:Tb)(k f:Nat)(h:r[j]?=some x):nO t k (j+1) f r=nO t k j f r++[u8 x]:=by
 unfold nO;rw[U5,h];simp
def Jk{t:Tb}(J:t.fl.length=t.nx.length){k:Nat}(hf:t.fl[k]?=some f)(h:t.nx[k]?=some r)(I:r.length<=j):nO t k j f r=jE t (k+1):=by
 unfold nO;rw[uW J hf h,UF I]
def Lu{t:Tb}(h:Fn t)(k j f:Nat)(hr:r.length<=6):(nO t k j f r).length<=1000:=by
 have:=zO h k;unfold nO;simp only[Ur,UM,Xa,Vi,UL];omega
theorem tG(t:Tb):jE t 0=jT t t.acts.length++[u8 t.nx.length]:=by unfold jE;simp[iX]
def Kn(I:Uc)(t:Tb)(J:na=t.acts.length)(h6:na<=6):Bf I.heap.size I (I.alloc (xi #[xd .u8 83,xd .u8 1,xd .u8 (na:Int)] 5)) (xa (TT I.heap.size) 3 3) (jT t 0):=by
 have e:jT t 0=[83,1,u8 na]:=by unfold jT;rw[J];rfl
 rw[e];refine⟨⟨zf,.inr ⟨I.heap.size,3,_,(0,0),rfl,XH,gu zp,Ux,XH,zd,rfl,?_⟩⟩,?_,zp⟩
 .exact zm136
 exact gC
def Bb(w:Uc){no:TX}{ac:Nat}(fc nc na nf:Nat)(t:Tb)(hI:SN w ao fo no ac t.z)(hR:Fn t)(aP:na=t.acts.length)(az:nf=t.fl.length):
  Calls prog 102 #[.agg #[xa ao na ac,xa fo nf fc,xa no nf nc]] w λe w'=>e=xm (.tuple #[xj ⟨(iG t).toArray⟩,xd xh 0])/\XL w w':=by
 obtain⟨i0,ar,au,ak,an⟩:=Uk Tryz.infoU8;have aQ:=az.trans hR.fl;have hB:=ir w (xi #[xa ao na ac,xa fo nf fc,xa no nf nc] 36);have aj:=gi w (xi #[xa ao na ac,xa fo nf fc,xa no nf nc] 36);have e1:t.z.fl.length=nf:=by rw[az];exact mh _
 have e2:t.z.nx.length=nf:=by rw[aQ];unfold Tb.z;simp
 have e3:t.z.acts.length=na:=by rw[aP];rfl
 have aF:=yb fc nc (hI.later hB);rw[e1,e2,e3] at aF;have bf:na<=6:=by have:=hR.acts.n6;omega
 have hnf6:nf<=100:=by have:=hR.n100;omega
 have aD:=fy aP;have bw:=fy az;have aE:=fy aQ;clear aP az aQ e1 e2 e3;have c0:=EQ aj 0;have c1:=EQ aj 1;have c2:=EQ aj 2;go_in;go_wp2_with fail;refine aF.mono ?_;clear aF c0 c1 c2;rintro e w1 ⟨⟨b,rfl,aY⟩,ae⟩;have bK:=aY.2 ((tJ t).2 hR);subst bK;clear aY;generalize w.alloc (xi #[xa ao na ac,xa fo nf fc,xa no nf nc] 36)=W at *;have J:=(ae.block _ (dK aj)).trans aj;have aC:=hB.trans (ae.mono hB.size);have av:=hI.later aC;clear ae hB aj hI;have c0:=EQ J 0;have l0:=dK J;have aS:=Kn w1 t aD.out bf;go_wp2_with fail;clear c0 l0
 go_loopw [5,6] (λbv x wr=>∃k:Nat,k<=na/\x=xd xh k/\Hid (Bf w1.heap.size w1 wr bv (jT t k))) (λ_ x _=>na-(intOf x).toNat)
 .exact⟨0,Ux,rfl,aS⟩
 obtain⟨k,hk,rfl,U⟩:=hrel;have hbel:=U.out.2.1;have hpl:=vQ hR k;have I:=(hbel.block _ (dK J)).trans J;have c0:=EQ I 0;have c1:=EQ I 1;clear I;rcases zc k na with⟨hlt,hkn⟩|⟨hlt,hkn⟩
 .have ay:k<t.acts.length:=by have:=aD.out;omega
  obtain⟨b,off,rfl,hb,ax⟩:=(av.later hbel).acts k t.acts[k] (Uq ay);have HX:=fy (Uq ay:t.acts[k]?=some t.acts[k]);have bG:=(hR.acts.nm _ (UY ay)).n8;have a8:b<w1.heap.size:=by
   obtain⟨b',aB,e1,hb',_⟩:=av.acts k t.acts[k] (Uq ay);simp_all
  generalize t.acts[k]=a at *;have br:=fy ((Fd hbel _ _ a8).symm.trans ax);clear hbel
  go_wp2_with (at_builtin;go_must (refine V0 rfl _ _ 51 rfl w1.heap.size 5 i0 underlying51 ar au ak an _ (jT t k).length (jO (jT t k)) rfl w1 wr (a.size:Int) ?c0 rfl ?c1 ?_))
  case c0=>exact U.out
  case c1=>omega
  intro v1 w2 ae;have aq:=Bf.byte (n:=a.size) (r:=nN t k 0 a) zo ae zp (GI t k a);clear ae c0 c1 hb ax;go_wp2_with fail
  rename Uc=>wR
  go_loopw [5,7] (λbv x wr=>∃j:Nat,j<=a.size/\x=xd xh j/\Hid (Bf w1.heap.size w1 wr bv (nN t k j a))) (λ_ x _=>a.size-(intOf x).toNat)
  .exact⟨0,Ux,rfl,aq⟩
  obtain⟨j,hj,rfl,aa⟩:=hrel;have hbel:=aa.out.2.1;have I:=(hbel.block _ (dK J)).trans J;have c0:=EQ I 0;have ax:=(Fd hbel _ _ a8).trans br.out;clear I hbel;rcases zc j a.size with⟨hjl,hjn⟩|⟨hjl,hjn⟩
  .have bO:=Lt hR k j bG;have aH:=fy (GH t k hjl);have hc8:=a[j].toNat_lt;generalize hP:nN t k j a=P at *;clear hP
   go_wp2_with (at_builtin;go_must (refine V0 rfl _ _ 51 rfl w1.heap.size 5 i0 underlying51 ar au ak an _ (P).length (jO (P)) rfl w1 wr (a[j].toNat:Int) ?d0 rfl ?d1 ?_))
   case d0=>exact aa.out
   case d1=>omega
   intro v3 w3 ag;have HBF3:=Bf.byte (n:=a[j].toNat) (r:=nN t k (j+1) a) zo ag zp aH.out;clear ag;go_wp2
   go_roundw
   .exact⟨j+1,zo,zf,HBF3⟩
   simp[intOf];omega
  rw[Ji HX.out zo] at aa;go_wp2
  go_roundw
  .exact⟨k+1,zo,zf,aa⟩
  simp[intOf];omega
 have aN:k=t.acts.length:=by have:=aD.out;omega
 subst aN;clear hbel
 go_wp2_with (at_builtin;go_must (refine V0 rfl _ _ 51 rfl w1.heap.size 5 i0 underlying51 ar au ak an _ (jT t t.acts.length).length (jO (jT t t.acts.length)) rfl w1 wr (nf:Int) ?g0 rfl ?g1 ?_))
 case g0=>exact U.out
 case g1=>omega
 intro v1 w2 ae;have aq:=Bf.byte (n:=nf) (r:=jE t 0) zo ae zp (by rw[tG,aE.out]);clear ae c0 c1 U;go_wp2_with fail
 rename Uc=>wR
 go_loopw [5,8] (λbv x wr=>∃k:Nat,k<=nf/\x=xd xh k/\Hid (Bf w1.heap.size w1 wr bv (jE t k))) (λ_ x _=>nf-(intOf x).toNat)
 .exact⟨0,Ux,rfl,aq⟩
 obtain⟨k,hk2,rfl,U⟩:=hrel;have hbel:=U.out.2.1;have bg:=zO hR k;have I:=(hbel.block _ (dK J)).trans J;have c1:=EQ I 1;clear I;rcases zc k nf with⟨hlt,hkn2⟩|⟨hlt,hkn2⟩
 .have aO:k<t.fl.length:=by have:=bw.out;omega
  have bd:k<t.nx.length:=by have:=aE.out;omega
  have bl:t.z.fl[k]?=some (t.fl[k]:Int):=by
   show(zI t.fl)[k]? =_;exact BI (Uq aO)
  have bm:t.z.nx[k]?=some (zI t.nx[k]):=by
   show(t.nx.map zI)[k]? =_;simp_all
  obtain⟨b,off,rfl,bI,a6⟩:=av.fl k _ bl;obtain⟨b2,off2,ro,rc,rfl,bJ,aw,bP⟩:=av.nx k _ bm;have bD:=fy (Uq aO:t.fl[k]?=some t.fl[k]);have bE:=fy (Uq bd:t.nx[k]?=some t.nx[k]);have hf3:=hR.fs t.fl[k] (UY aO);have bh:=hR.rs t.nx[k] (UY bd);have bM:=(Fd hbel _ _ bI).trans a6;rw[mh] at aw;generalize t.fl[k]=f at *;generalize t.nx[k]=r at *;have aU:=fy aw;have bA:=fy bh;have aR:r.length=na:=zo;rw[aR] at aU;have aV:=fy aR;have bj:r.length<=6:=zo;clear hbel a6 aw bh aR bl bm
  go_wp2_with (at_builtin;go_must (refine V0 rfl _ _ 51 rfl w1.heap.size 5 i0 underlying51 ar au ak an _ (jE t k).length (jO (jE t k)) rfl w1 wr (f:Int) ?m0 rfl ?m1 ?_))
  case m0=>exact U.out
  case m1=>omega
  intro v2 w3 ag;have aa:=Bf.byte (n:=f) (r:=nO t k 0 f r) zo ag zp (GK t k f r);clear ag c1 bM U;go_wp2_with fail
  rename Uc=>wS
  go_loopw [5,9] (λbv x wr=>∃j:Nat,j<=na/\x=xd xh j/\Hid (Bf w1.heap.size w1 wr bv (nO t k j f r))) (λ_ x _=>na-(intOf x).toNat)
  .exact⟨0,Ux,rfl,aa⟩
  obtain⟨j,hj,rfl,HBF3⟩:=hrel;have hbel:=HBF3.out.2.1;have I:=(hbel.block _ (dK J)).trans J;have c0:=EQ I 0;have c2:=EQ I 2;have aw:=(Fd hbel _ _ bJ).trans aU.out;clear I;rcases zc j na with⟨hjl,hjn⟩|⟨hjl,hjn⟩
  .have aM:j<r.length:=by rw[aV.out];omega
   obtain⟨b3,off3,rfl,ag,a7⟩:=bP j (r[j]:Nat) (BI (Uq aM));have bQ:r[j]<256:=by have:=bA.out.2 r[j] (UY aM);have:=hR.n100;omega
   have ax:=(Fd hbel _ _ ag).trans a7;have aH:=fy (GJ t k f (Uq aM:r[j]?=some r[j]));have bO:=Lu hR k j f bj;generalize r[j]=y at *;clear hbel a7;generalize hP:nO t k j f r=P at *;clear hP
   go_wp2_with (at_builtin;go_must (refine V0 rfl _ _ 51 rfl w1.heap.size 5 i0 underlying51 ar au ak an _ (P).length (jO (P)) rfl w1 wr (y:Int) ?p0 rfl ?p1 ?_))
   case p0=>exact HBF3.out
   case p1=>omega
   intro v4 w4 aX;have aT:=Bf.byte (n:=y) (r:=nO t k (j+1) f r) bQ aX zp aH.out;clear aX;go_wp2
   go_roundw
   .exact⟨j+1,zo,zf,aT⟩
   simp[intOf];omega
  rw[Jk hR.fl bD.out bE.out (by rw[aV.out];omega)] at HBF3;exact zm174
 have aN:k=t.nx.length:=by have:=aE.out;omega
 subst aN;rw[Dh hR.fl] at U bg;have bu:Hid (iG t=iM t++nH (iM t)):=rfl;obtain⟨g,c,hv,aL,hg⟩:=Bf.slice U.out (by unfold iM;simp);subst hv;have ba:=Vh (P:=prog) wr 51 9 5 (TU g 0) c (iM t) underlying51 underlying5 underlying9 (λj hj=>by
  obtain⟨b',aB,e1,_,e3⟩:=aL j (iM t)[j] (Uq hj);cases e1;rw[Vm];omega)
 have aG:=Ka wr ⟨(iM t).toArray⟩ (by show(iM t).toArray.size<=_;rw[WN];omega);have bB:Hid ((⟨(iM t).toArray⟩:Ub).data.toList=iM t):=fy rfl;rw[show(⟨(iM t).toArray⟩:Ub).data.toList=iM t from rfl] at aG;have bC:Hid ((⟨(nH (iM t)).toArray⟩:Ub).data.toList=nH (iM t)):=fy rfl;have ak:(⟨(iM t).toArray⟩:Ub).size<=900:=zv;have an:(⟨(nH (iM t)).toArray⟩:Ub).size<=2:=by show(nH (iM t)).toArray.size<=_;rw[WN];exact To 2
 have aA:=λ(w5:Uc)(hb:XL wr w5)=>Vh (P:=prog) w5 51 9 5 (TU g 0) c (iM t) underlying51 underlying5 underlying9 (λj hj=>by
  obtain⟨b',aB,e1,h2,e3⟩:=aL j (iM t)[j] (Uq hj);cases e1;rw[Vm];exact(Fd hb _ _ h2).trans e3)
 have bt:=fy aA;clear aL aA;generalize (⟨(iM t).toArray⟩:Ub)=s1 at *;generalize (⟨(nH (iM t)).toArray⟩:Ub)=s2 at *;go_wp2_with fail;refine aG.mono ?_;clear aG ba c1;rintro e w5 ⟨rfl,aK⟩;have ba:=bt.out w5 aK;have bq:=aC.trans ((hbel.trans (aK.mono hbel.size)).mono aC.size);have hsz:s1.size+s2.size<=1000:=zo;clear aK hbel;go_wp2_with fail;refine py (v:=.tuple #[xj (s1++s2),xd xh 0]) (by simp[results,results102,go_sem]) rfl ?_;have bN:s1++s2=(⟨(iG t).toArray⟩:Ub):=by
  apply lQ;rw[Io,bB.out,bC.out,bu.out]
 exact⟨by rw[bN],bq⟩
def sq{w:Uc}{no:TX}{ac:Nat}(fc nc:Nat){z:Tz}(hI:SN w ao fo no ac z):
  Calls prog 102 #[.agg #[xa ao z.acts.length ac,xa fo z.fl.length fc,xa no z.nx.length nc]] w λe w'=>S3 z e/\XL w w':=by
 by_cases hz:iS z
 .obtain⟨t,rfl,hR⟩:=hz;have e1:t.z.fl.length=t.fl.length:=mh _;have e2:t.z.nx.length=t.fl.length:=by unfold Tb.z;simp[hR.fl]
  have e3:t.z.acts.length=t.acts.length:=rfl;have h:=Bb w fc nc t.acts.length t.fl.length t hI hR rfl rfl;rw[e1,e2,e3];exact h.mono λe w' ⟨he,hb⟩=>⟨Or.inl ⟨t,rfl,hR,he⟩,hb⟩
 have hB:=ir w (xi #[xa ao z.acts.length ac,xa fo z.fl.length fc,xa no z.nx.length nc] 36);have I:=gi w (xi #[xa ao z.acts.length ac,xa fo z.fl.length fc,xa no z.nx.length nc] 36);have J:=yb fc nc (hI.later hB);have HZ:=fy hz;clear hI hz;have c0:=EQ I 0;have c1:=EQ I 1;have c2:=EQ I 2;go_in;go_wp2_with fail;refine J.mono ?_;clear J c0 c1 c2;rintro e w1 ⟨⟨b,rfl,aa⟩,U⟩;have ai:b=false:=by
  cases b with
  |false=>rfl
  |true=>exact absurd (aa.1 rfl) HZ.out
 subst ai;have ad:=hB.trans (U.mono hB.size);clear aa U;go_wp2_with fail;refine py (v:=.tuple #[xj ⟨#[]⟩,xd xh 6]) (by simp[results,results102,go_sem]) rfl ?_;exact⟨Or.inr ⟨HZ.out,rfl⟩,ad⟩
def nA(cs:List Cs):TW:=cs.flatMap λc=>[xj c.id,xd xh (c.st:Int),xd xh (c.ev:Int)]
def Iv:∀{cs:List Cs} {i:Nat} {c:Cs},cs[i]?=some c->(nA cs)[i*3]?=some (xj c.id)/\(nA cs)[i*3+1]?=some (xd xh (c.st:Int))/\(nA cs)[i*3+2]?=some (xd xh (c.ev:Int))
 |[],i,c,h=>by simp at h
 |x::cs,0,c,h=>by
  have:x=c:=by simpa using h
  subst this;exact⟨rfl,rfl,rfl⟩
 |x::cs,i+1,c,h=>by
  have J:cs[i]?=some c:=by simpa using h
  have I:=Iv J;have e:nA (x::cs)=[xj x.id,xd xh (x.st:Int),xd xh (x.ev:Int)]++nA cs:=rfl;rw[e];refine⟨?_,?_,?_⟩
  .rw[Uv zs];simpa [Rv] using I.1
  .rw[Uv zs];have:(i+1)*3+1 - [xj x.id,xd xh (x.st:Int),xd xh (x.ev:Int)].length=i*3+1:=zs;rw[this];exact I.2.1
  rw[Uv zs];have:(i+1)*3+2 - [xj x.id,xd xh (x.st:Int),xd xh (x.ev:Int)].length=i*3+2:=zs;rw[this];exact I.2.2
def zA(cs:List Cs):(nA cs).length=cs.length*3:=by
 induction cs with
 |nil=>rfl
 |cons x cs ih=>show(_++nA cs).length=_;rw[Ur,ih,UM];simp;omega
def oz{w:Uc}{base k:Nat}(h:w.ownsRow base 247 3 (xa o n k) n (nA cs)){c:Cs}(hc:cs[i]?=some c):
  ∃g,o=some ⟨g,0,none⟩/\g<w.heap.size/\base<=g/\w.cell? (TU g (i*3))=some (xj c.id)/\w.cell? (TU g (i*3+1))=some (xd xh (c.st:Int))/\w.cell? (TU g (i*3+2))=some (xd xh (c.ev:Int)):=by
 have hi:=(List.getElem?_eq_some_iff.1 hc).1;obtain⟨hl,⟨h1,h2⟩|⟨g,cap,cur,hv,hb,J,hle,_,hcs,U⟩⟩:=h
 .rw[zA] at hl;omega
 cases hv;have hn:cs.length=n:=by rw[zA] at hl;omega
 have I:∀m v,(nA cs)[m]?=some v->w.cell? (TU g m)=some v:=λm v hm=>by
  have aa:m<n*3:=by have:=(List.getElem?_eq_some_iff.1 hm).1;rw[zA,hn] at this;exact this
  rw[EQ J,<-UN];rw[<-U,Xm aa] at hm;exact hm
 obtain⟨e1,e2,e3⟩:=Iv hc;exact⟨g,rfl,dK J,hb,I _ _ e1,I _ _ e2,I _ _ e3⟩
def nV(rd:Nat)(lo:TX)(k:Nat):Prop:=k=rd\/lo=some ⟨k,0,none⟩
structure SD(w:Uc)(base rd:Nat)(t:Tb)(cs:List Cs)(A n ab a0 fb f0 nb n0 ac fc nc:Nat)(rb ro rc:Nat->Nat)(lo:TX)(lc:Nat):Prop where
 blk:w.heap[rd]?=some (xi #[xa (some (TU ab a0)) A ac,xa (some (TU fb f0)) n fc,xa (some (TU nb n0)) n nc,xa lo cs.length lc] 245 (0,0))
 tb:SQ w t A n ab a0 fb f0 nb n0 rb ro rc
 ls:w.ownsRow base 247 3 (xa lo cs.length lc) cs.length (nA cs)
 nd:(cs.map (·.id)).Nodup
 st:∀c∈cs,c.st<n
 few:cs.length<=8
 sep:∀k,nV rd lo k->k≠ab/\k≠fb/\k≠nb/\∀i,i<n->k≠rb i
def SD.later{w w':Uc}{base rd:Nat}{t:Tb}{A fb ac fc:Nat}(h:SD w base rd t cs A n ab a0 fb f0 nb n0 ac fc nc rb ro rc lo lc)(I:XL w w'):SD w' base rd t cs A n ab a0 fb f0 nb n0 ac fc nc rb ro rc lo lc:=
 ⟨(I.block _ (dK h.blk)).trans h.blk,h.tb.later I,gq h.ls I,h.nd,h.st,h.few,h.sep⟩
def PK(cs:List Cs)(id:Ub)(e:Ending):Prop:=
 (jP cs id=none/\e=xm (xd xh (-1)))\/∃(i:Nat)(c:Cs),cs[i]?=some c/\jP cs id=some c/\c.id=id/\e=xm (xd xh (i:Int))
def pZ{w:Uc}{base rd:Nat}{t:Tb}{A fb ac fc:Nat}(rb ro rc:Nat->Nat)(I:SD w base rd t cs A n ab a0 fb f0 nb n0 ac fc nc rb ro rc lo lc)(id:Ub):
  Calls prog 148 #[xk (TT rd),xj id] w λe w'=>PK cs id e/\w'=w:=by
 have c3:=EQ I.blk 3;have l0:=dK I.blk;have hfew:=I.few;go_in;go_wp2
 go_loopw [5] (λx wr=>∃k:Nat,k<=cs.length/\x=xd xh k/\Hid (w=wr)/\Hid (∀c∈cs.take k,c.id≠id)) (λx _=>cs.length-(intOf x).toNat)
 .exact⟨0,Ux,rfl,rfl,λc hc=>(US hc).elim⟩
 obtain⟨k,hk,rfl,HW,HK⟩:=hrel;have hw:=HW.out;subst hw;clear HW;rcases zc k cs.length with⟨hlt,hkn⟩|⟨hlt,hkn⟩
 .obtain⟨g,rfl,hgl,_,U,_,_⟩:=oz I.ls (Uq hlt:cs[k]?=some cs[k]);have J:=fy (Uq hlt:cs[k]?=some cs[k]);generalize cs[k]=c at *;by_cases he:c.id=id
  .have HF:Hid (jP cs id=some c):=by
    have:=Ku I.nd (UA J.out);rw[he] at this;exact this
   have HE:=fy he;rw[he] at U;clear he;go_wp2_with fail;refine py (v:=xd xh (k:Int)) (by simp[results,results148,go_sem]) rfl ?_;exact⟨Or.inr ⟨k,c,J.out,HF.out,HE.out,rfl⟩,rfl⟩
  have hne:=qX he;have HK2:Hid (∀c∈cs.take (k+1),c.id≠id):=λq hq=>by
   rw[U5,J.out] at hq;rcases List.mem_append.1 hq with h|h
   .exact HK.out q h
   have:q=c:=by simpa using h
   rw[this];exact he
  clear he;exact zm176
 have HN:Hid (jP cs id=none):=by
  have h1:=HK.out;rw[UF zo] at h1;show _=_;unfold jP;rw[List.find?_eq_none];intro c hc;simpa using h1 c hc
 go_wp2_with fail;refine py (v:=xd xh (-1)) (by simp[results,results148,go_sem]) rfl ?_;exact⟨Or.inl ⟨HN.out,rfl⟩,rfl⟩
theorem Ic:∀(l m:TZ),jB (l++m)=jB l++jB m:=by intro I;induction I<;>grind[jB]
def AY:∀(fs I:T5)(l m:T0),fs.length=l.length->iX (fs++I) (l++m)=iX fs l++iX I m
 |[],I,[],m,_=>zf
 |[],_,_::_,_,h=>zv
 |_::_,_,[],_,h=>zv
 |f::fs,I,r::l,m,h=>by rw[UE,UE,iX,AY fs I l m za,iX];simp
def jM(l:TZ):Nat:=3+(jB l).length
theorem Kk(l:TZ)(a:Ub):jM (l++[a])=jM l+1+a.size:=by
 grind[yf,LT,jM]
theorem KA(t:Tb)(i:Nat):∃rest,iG t=(83::1::u8 t.acts.length::jB (t.acts.take i))++(jB (t.acts.drop i)++rest)/\rest=u8 t.nx.length::iX t.fl t.nx++nH (iM t):=by
 refine⟨_,?_,rfl⟩;have e:jB t.acts=jB (t.acts.take i)++jB (t.acts.drop i):=by rw[<-Ic,Vn]
 grind[iG,iM]
theorem NC(t:Tb)(i:Nat):(83::1::u8 t.acts.length::jB (t.acts.take i)).length=jM (t.acts.take i):=by
 grind[jM]
theorem KC{t:Tb}(h:t.acts[i]?=some a):
  (iG t)[jM (t.acts.take i)]?=some (u8 a.size)/\((iG t).drop (jM (t.acts.take i)+1)).take a.size=a.data.toList/\jM (t.acts.take i)+1+a.size<(iG t).length:=by
 obtain⟨rest,I,h2⟩:=KA t i;have hi:=(List.getElem?_eq_some_iff.1 h).1;have J:t.acts.drop i=a::t.acts.drop (i+1):=by
  rw[UK hi];simp_all
 rw[J,jB] at I;have U:=NC t i;have hr:1<=rest.length:=za;refine⟨?_,?_,?_⟩
 .grind
 .rw[I,<-U,List.drop_append,Wj zo,Vy];simp
 grind[LT]
theorem Di(t:Tb):(jE t 0).length=jM t.acts+1:=by
 rw[tG]
 grind[jT,jM]
def vn{A:Nat}:∀(fs:T5)(l:T0),fs.length=l.length->(∀r∈l,r.length=A)->(iX fs l).length=l.length*(1+A)
 |[],[],_,_=>by simp[iX]
 |[],_::_,h,_=>zv
 |_::_,[],h,_=>zv
 |f::fs,r::l,h,hr=>by
  rw[iX,UM,Ur,UL,vn fs l za (λq I=>hr q (Ul I)),hr r (Um ..),UM,Rv];omega
theorem Cn{t:Tb}(hf:t.fl.length=t.nx.length)(k:Nat):iG t=jE t k++(iX (t.fl.drop k) (t.nx.drop k)++nH (iM t)):=by
 have e:iX t.fl t.nx=iX (t.fl.take k) (t.nx.take k)++iX (t.fl.drop k) (t.nx.drop k):=by
  rw[<-AY _ _ _ _ (by simp[hf]),Vn,Vn]
 grind[iG,nH,iM,jE,jT]
def Iy{t:Tb}(hf:t.fl.length=t.nx.length){k:Nat}(h1:t.fl[k]?=some f)(h2:t.nx[k]?=some r):
  (iG t)[(jE t k).length]?=some (u8 f)/\∀j x,r[j]?=some x->(iG t)[(jE t k).length+1+j]?=some (u8 x):=by
 have I:=(List.getElem?_eq_some_iff.1 h1).1;have J:=(List.getElem?_eq_some_iff.1 h2).1;have e1:t.fl.drop k=f::t.fl.drop (k+1):=by
  rw[UK I];simp_all
 have e2:t.nx.drop k=r::t.nx.drop (k+1):=by
  rw[UK J];simp_all
 have e:=Cn hf k;rw[e1,e2,iX] at e;constructor
 .simp_all
 intro j x U;have hj:=(List.getElem?_eq_some_iff.1 U).1;rw[e,Uv zo,show(jE t k).length+1+j-(jE t k).length=j+1 from zo,UE,XB,UI,UJ za,UG,U];rfl
theorem Ix{t:Tb}(I:Fn t):(iG t)[jM t.acts]?=some (u8 t.nx.length)/\jM t.acts+1+t.nx.length*(1+t.acts.length)<(iG t).length:=by
 have e:=Cn I.fl 0;rw[Vt,Vt] at e;have J:=Di t;constructor
 .grind[tG]
 rw[e,Ur,Ur,J,vn _ _ I.fl (λr hr=>(I.rs r hr).1)]
 grind[nH]
def Nh(t:Tb):(iG t)[2]?=some (u8 t.acts.length):=rfl
def Jj{t:Tb}(J:Fn t){k:Nat}(U:t.fl[k]?=some f)(I:t.nx[k]?=some r):(jE t (k+1)).length=(jE t k).length+1+t.acts.length:=by
 rw[uW J.fl U I];simp only[Ur,UM,Xa,UL];rw[(J.rs r (UA I)).1]
def Qw(s:Ub)(i j:Nat):(s.extract i j).data.toList=(s.data.toList.drop i).take (j-i):=by
 simp
theorem zN{t:Tb}(I:Fn t):∀{k:Nat},k<=t.nx.length->(jE t k).length=jM t.acts+1+k*(1+t.acts.length)
 |0,_=>by rw[Di];simp
 |k+1,h=>by
  have J:k<t.fl.length:=by rw[I.fl];omega
  rw[Jj I (Uq J) (Uq h),zN I zo,Rv];omega
section
variable{s:Ub}
def Dn(s:Ub)(i:Nat)(ac:TZ):Prop:=∀t,Fn t->iG t=s.data.toList->ac=t.acts.take i
def Dn.start(s:Ub):Dn s 0 []:=λt _ _=>zf
def Na{c:Nat}(hc:∀h:2<s.size,s[2].toNat=c):∀t,Fn t->iG t=s.data.toList->t.acts.length=c:=λt J he=>by
 have I:=Nh t;have hl:=J.many;rw[he] at I hl;have U:2<s.size:=by rw[<-LT];omega
 have h3:s.data.toList[2]?=some s[2]:=by
  rw[Uq zo];rfl
 rw[h3] at I;have h4:=hc U;rw[Ue I,kK (by have:=J.acts.n6;omega)] at h4;omega
theorem GW{k:Nat}(h:k<s.size):s.data.toList[k]?=some s[k]:=by
 rw[Uq zv];rfl
theorem Dn.inside{c:Nat}(h:Dn s i ac)(hi:i<c){t:Tb}(ht:Fn t)(he:iG t=s.data.toList)(hl:t.acts.length=c):∃a,t.acts[i]?=some a/\ac=t.acts.take i/\(∃hk:jM ac<s.size,s[jM ac].toNat=a.size)/\jM ac+1+a.size<s.size/\(s.extract (jM ac+1) (jM ac+1+a.size))=a:=by
 have I:i<t.acts.length:=zo;have J:=h t ht he;obtain⟨h1,h2,U⟩:=KC (Uq I);rw[he,<-J] at h1 h2 U;rw[LT] at U;have hk:jM ac<s.size:=zo;rw[GW hk] at h1;have h8:=(ht.acts.nm _ (UY I)).n8;refine⟨_,Uq I,J,⟨hk,by grind[kK]⟩,U,?_⟩;apply lQ;simp_all
def Dn.next{c:Nat}(h:Dn s i ac)(hi:i<c)(hc:∀t,Fn t->iG t=s.data.toList->t.acts.length=c)(hk:jM ac<s.size)(hn:s[jM ac].toNat=n):Dn s (i+1) (ac++[s.extract (jM ac+1) (jM ac+1+n)]):=λt I he=>by
 obtain⟨a,J,U,⟨_,h3⟩,_,h5⟩:=h.inside hi I he (hc t I he);rw[h3] at hn;rw[<-hn,h5,U5,J,<-U];rfl
def Dn.fail{c:Nat}(h:Dn s i ac)(hi:i<c)(hc:∀t,Fn t->iG t=s.data.toList->t.acts.length=c)(I:∀J:jM ac<s.size,s.size<jM ac+1+s[jM ac].toNat):RZ s.data.toList none:=λt U he=>by
 obtain⟨a,h1,h2,⟨J,h3⟩,h4,h5⟩:=h.inside hi U he (hc t U he);have:=I J;omega
def Kj(h:jM ac+1+n<=s.size):jM (ac++[s.extract (jM ac+1) (jM ac+1+n)])=jM ac+1+n:=by
 rw[Kk,ByteArray.size_extract];omega
theorem Ao{c:Nat}(h:Dn s c ac)(hc:∀t,Fn t->iG t=s.data.toList->t.acts.length=c){t:Tb}(ht:Fn t)(he:iG t=s.data.toList):ac=t.acts/\(∃hk:jM ac<s.size,s[jM ac].toNat=t.nx.length)/\jM ac+1+t.nx.length*(1+ac.length)<s.size:=by
 have I:ac=t.acts:=by grind[Dn]
 obtain⟨J,U⟩:=Ix ht;rw[he,<-I] at J U;rw[LT] at U;have hk:jM ac<s.size:=zo;rw[GW hk] at J;exact⟨I,⟨hk,by rw[Ue J,kK (by have:=ht.n100;omega)]⟩,U⟩
theorem sF{c:Nat}(h:Dn s c ac)(hc:∀t,Fn t->iG t=s.data.toList->t.acts.length=c)(hbad:∀hk:jM ac<s.size,s.size<jM ac+1+s[jM ac].toNat*(1+ac.length)):RZ s.data.toList none:=λt ht he=>by
 grind[Ao]
def Ds(s:Ub)(ac:TZ)(n i:Nat)(fl:T5)(nx:T0):Prop:=∀t,Fn t->iG t=s.data.toList->ac=t.acts/\t.nx.length=n/\fl=t.fl.take i/\nx=t.nx.take i
theorem Ds.start{c:Nat}(h:Dn s c ac)(hc:∀t,Fn t->iG t=s.data.toList->t.acts.length=c)(hn:∀hk:jM ac<s.size,s[jM ac].toNat=n):Ds s ac n 0 [] []:=λt ht he=>by
 grind[Ao]
theorem Ds.at_{fl:T5}{nx:T0}(h:Ds s ac n i fl nx)(hi:i<n){t:Tb}(U:Fn t)(he:iG t=s.data.toList):∃f r,t.fl[i]?=some f/\t.nx[i]?=some r/\r.length=ac.length/\s.data.toList[jM ac+1+i*(1+ac.length)]?=some (u8 f)/\f<=3/\∀j x,r[j]?=some x->s.data.toList[jM ac+1+i*(1+ac.length)+1+j]?=some (u8 x)/\x<256:=by
 obtain⟨h1,h2,_,_⟩:=h t U he;have I:i<t.nx.length:=zo;have J:i<t.fl.length:=by rw[U.fl];omega
 obtain⟨k1,k2⟩:=Iy U.fl (Uq J) (Uq I);rw[he,zN U (Wq I),<-h1] at k1;have hr:=U.rs _ (UY I);refine⟨_,_,Uq J,Uq I,za,k1,U.fs _ (UY J),λj x hx=>⟨?_,?_⟩⟩
 .grind[zN]
 have:=hr.2 x (UA hx);have:=U.n100;omega
def Dr(s:Ub)(ac:TZ)(i a f:Nat)(q:T5):Prop:=∀t,Fn t->iG t=s.data.toList->t.fl[i]?=some f/\∃r,t.nx[i]?=some r/\q=r.take a
theorem Dr.start{fl:T5}{nx:T0}(h:Ds s ac n i fl nx)(hi:i<n){p:Nat}(I:p=jM ac+1+i*(1+ac.length))(hk:p<s.size):Dr s ac i 0 s[p].toNat []:=λt J he=>by
 subst I;obtain⟨f,r,h1,h2,_,h4,h5,_⟩:=h.at_ hi J he
 grind[GW,kK]
def Dr.next{a:Nat}{fl:T5}{nx:T0}(h:Ds s ac n i fl nx)(hi:i<n)(hd:Dr s ac i a f q)(ha:a<ac.length){p:Nat}(hp:p=jM ac+1+i*(1+ac.length)+1+a)(hk:p<s.size):Dr s ac i (a+1) f (q++[s[p].toNat]):=λt ht he=>by
 subst hp;obtain⟨f',r,h1,U,h3,_,_,h6⟩:=h.at_ hi ht he;obtain⟨k1,r',k2,k3⟩:=hd t ht he;rw[U] at k2;cases k2;have I:a<r.length:=zo;obtain⟨J,e2⟩:=h6 a r[a] (Uq I);rw[GW hk] at J;refine⟨k1,r,U,?_⟩;rw[U5,Uq I,k3,Ue J,kK e2];rfl
def Ds.next{fl:T5}{nx:T0}(h:Ds s ac n i fl nx)(hi:i<n)(hd:Dr s ac i ac.length f q):Ds s ac n (i+1) (fl++[f]) (nx++[q]):=λt I he=>by
 obtain⟨J,U,h3,h4⟩:=h t I he;obtain⟨k1,r,k2,k3⟩:=hd t I he;have hr:=(I.rs r (UA k2)).1;refine⟨J,U,by rw[U5,k1,h3];rfl,?_⟩;have e:r.take ac.length=r:=UF za;rw[U5,k2,h4,k3,e];rfl
def Ds.done{fl:T5}{nx:T0}(h:Ds s ac n n fl nx):∀t,Fn t->iG t=s.data.toList->t=⟨ac,fl,nx⟩:=λt I he=>by
 obtain⟨h1,J,U,h4⟩:=h t I he;rw[UF (by rw[I.fl,J];simp)] at U;rw[UF zo] at h4;simp_all
end
structure SJ(w W:Uc)(tb:Nat)(A F X:Ud)(t:Tb)(rv:TW):Prop where
 res:W.heap[w.heap.size]?=some (xi #[TV,TV,TV] 36 (0,0))
 blk:W.heap[tb]?=some (xi #[A,F,X] 36 (0,0))
 htb:w.heap.size<tb
 tab:R6 W w.heap.size A F X t rv
 bel:XL w W
section
variable{w W W':Uc}{tb:Nat}{A F X:Ud}{t:Tb}{rv:TW}
def SJ.later(h:SJ w W tb A F X t rv)(I:XL W W'):SJ w W' tb A F X t rv:=
 ⟨(I.block _ (dK h.res)).trans h.res,(I.block _ (dK h.blk)).trans h.blk,h.htb,h.tab.later I,h.bel.trans (I.mono h.bel.size)⟩
theorem SJ.own(h:SJ w W tb A F X t rv){z:Nat}{v:Ud}(hv:W.ownsRow w.heap.size e z v n xs)(hg:W.grownBy W' v.ownBlock)(he:e≠36)(ht:R6 W' w.heap.size A' F' X' t' rv')(i:Nat)(x:Ud)(hc:(#[A,F,X]:T1).setIfInBounds i x= #[A',F',X']):SJ w (W'.setCell (TU tb i) x) tb A' F' X' t' rv':=by
 have h1:=(hg.block _ (dK h.res) (λI=>gz hv I.symm h.res (λJ=>he J.symm))).trans h.res;have h2:=(hg.block _ (dK h.blk) (λI=>gz hv I.symm h.blk (λJ=>he J.symm))).trans h.blk;have U:=h.bel.grown hg h.bel.size (λb U=>(gJ hv b U).1);have htb:=h.htb;refine⟨(XE (by show w.heap.size≠tb;omega)).trans h1,?_,htb,ht.cellO h2 zp i x,U.setCell (p:=⟨tb,i,none⟩) (by show _<=tb;omega) _⟩
 grind[gj]
def SJ.act(h:SJ w W tb A F X t rv){s:Ub}(ho:W'.ownsRow w.heap.size 9 1 A' (t.acts.length+1) (gU t.acts++[xj s]))(hg:W.grownBy W' A.ownBlock):SJ w (W'.setCell (TU tb 0) A') tb A' F X ⟨t.acts++[s],t.fl,t.nx⟩ rv:=
 h.own h.tab.acts hg zp (h.tab.act ho hg) 0 A' rfl
def SJ.flag(h:SJ w W tb A F X t rv)(ho:W'.ownsRow w.heap.size 3 1 F' (t.fl.length+1) (gX t.fl++[xd xh (f:Int)]))(hg:W.grownBy W' F.ownBlock)(I:F'.ownBlock=some g')(J:F.ownBlock=some g'\/W.heap.size<=g'):SJ w (W'.setCell (TU tb 1) F') tb A F' X ⟨t.acts,t.fl++[f],t.nx⟩ rv:=
 h.own h.tab.fl hg zp (h.tab.flag ho hg I J) 1 F' rfl
def SJ.row(h:SJ w W tb A F X t rv){v:Ud}(I:Sn W w.heap.size F rv v q)(ho:W'.ownsRow w.heap.size 33 1 X' (t.nx.length+1) (rv++[v]))(hg:W.grownBy W' X.ownBlock):SJ w (W'.setCell (TU tb 2) X') tb A F X' ⟨t.acts,t.fl,t.nx++[q]⟩ (rv++[v]):=
 h.own h.tab.nx hg zp (h.tab.row I ho hg) 2 X' rfl
def SJ.num(h:SJ w W tb A F X t rv){v:Ud}(I:Sn W w.heap.size F rv v q)(ho:W'.ownsRow w.heap.size 3 1 v' (q.length+1) (gX q++[xd xh (x:Int)]))(hg:W.grownBy W' v.ownBlock)(aa:v'.ownBlock=some g')(U:v.ownBlock=some g'\/W.heap.size<=g'):
  SJ w W' tb A F X t rv/\Sn W' w.heap.size F rv v' (q++[x]):=by
 obtain⟨t1,u1⟩:=h.tab.num I ho hg aa U;exact⟨⟨(hg.block _ (dK h.res) (λJ=>gz I.own J.symm h.res zp)).trans h.res,(hg.block _ (dK h.blk) (λJ=>gz I.own J.symm h.blk zp)).trans h.blk,h.htb,t1,h.bel.grown hg h.bel.size (λb hb=>(gJ I.own b hb).1)⟩,u1⟩
end
def Hq{w:Uc}{no:TX}(na:Nat){ac:Nat}(nf fc nn nc:Nat){z:Tz}(hI:SN w ao fo no ac z)(I:z.acts.length=na)(J:z.fl.length=nf)(U:z.nx.length=nn):
  Calls prog 102 #[.agg #[xa ao na ac,xa fo nf fc,xa no nn nc]] w λe w'=>S3 z e/\XL w w':=by
 subst I J U;exact sq fc nc hI
theorem vY(w:Uc)(b:Ub):
  Calls prog 145 #[xj b] w λe w'=>∃o,RZ b.data.toList o/\oq Fb w o w' e:=by
 have an:=ir w (xi #[TV,TV,TV] 36);have bV:=an;have bt:=gi w (xi #[TV,TV,TV] 36);clear an;by_cases hbad:1000<b.size\/b.size<3
 .have HFAIL:Hid (RZ b.data.toList none):=λt ht he=>by
   have h1:=ht.few;have h2:=ht.many
   grind[LT]
  have a7:(1000<(b.size:Int))\/¬ (1000<(b.size:Int))/\(b.size:Int)<3:=zo;clear hbad;go_in;rcases a7 with hd|⟨hd,h3⟩
  all_goals (
   go_wp2_with fail;generalize w.alloc (xi #[TV,TV,TV] 36)=wr at *;have fcc:=EQ bt;refine py (v:=.tuple #[.agg #[TV,TV,TV],xd xh 6]) (by simp[results,results145,go_sem,fcc]) rfl ?_
   grind[gQ,oq,Fb])
 have h1000:¬ 1000<(b.size:Int):=zo;have h3:¬ (b.size:Int)<3:=zo;have h2s:2<b.size:=zo;have h2i:(2:Int)<(b.size:Int):=zo;have hbl:b.size<=1000:=zo;have bA:SJ w ((w.alloc (xi #[TV,TV,TV] 36)).alloc (xi #[TV,TV,TV] 36)) (w.heap.size+1) TV TV TV ⟨[],[],[]⟩ []:=
  ⟨(XD zp).trans (gi _ _),gu zp,zo,⟨XG,XG,XG,λj r hr=>zv,λv hv=>zv,List.Pairwise.nil⟩,gC.alloc zp _⟩
 have HC:=fy (Na (s:=b) (c:=b[2].toNat) (λ_=>rfl));have hcl:b[2].toNat<=255:=by have:=b[2].toNat_lt;omega
 clear hbad bV bt;go_in;go_wp2_with fail;generalize ((w.alloc (xi #[TV,TV,TV] 36)).alloc (xi #[TV,TV,TV] 36))=W0 at *
 go_loopw [5,6] (λy x wr=>∃(i p:Nat)(ao:TX)(ac:Nat)(l:TZ),y=xd xh p/\x=xd xh i/\i<=b[2].toNat/\p<=b.size/\Hid (SJ w wr (w.heap.size+1) (xa ao i ac) TV TV ⟨l,[],[]⟩ [])/\Hid (l.length=i)/\Hid (Dn b i l)/\Hid (p=jM l)) (λ_ x _=>b[2].toNat-(intOf x).toNat)
 .exact⟨0,3,none,0,[],rfl,rfl,Ux,zo,bA,rfl,Dn.start b,rfl⟩
 obtain⟨i,p,ao,ac,l,rfl,rfl,hic,hpb,HD,HL,aK,HP⟩:=hrel;have tc:=EQ HD.out.blk;have tl:=dK HD.out.blk;by_cases hlt:i<b[2].toNat
 .have ck:(i:Int)<(b[2].toNat:Int):=zo;by_cases hp:p<b.size
  .have ba:¬ (b.size:Int)<=(p:Int):=zo;have cn:(p:Int)<(b.size:Int):=zo;have bD:b[p].toNat<=255:=by have:=b[p].toNat_lt;omega
   by_cases hn:p+1+b[p].toNat<=b.size
   .have a8:¬ (b.size:Int)<(p:Int)+1+(b[p].toNat:Int):=zo;have b3:Hid (wr.ownsRow w.heap.size 9 1 (xa ao i ac) i (gU l)):=by
     have h1:=HD.out.tab.acts
     grind[gQ]
    have aO:Hid (Dn b (i+1) (l++[b.extract (p+1) (p+1+b[p].toNat)])):=by
     have aq:=HP.out;subst aq;exact aK.out.next hlt HC.out hp rfl
    have br:Hid (p+1+b[p].toNat=jM (l++[b.extract (p+1) (p+1+b[p].toNat)])):=by
     have aq:=HP.out;subst aq;exact(Kj hn).symm
    obtain⟨x,hx⟩:∃x,b.extract (p+1) (p+1+b[p].toNat)=x:=⟨_,rfl⟩;rw[hx] at aO br;have bI:IntKind.i64.wrap ((p:Int)+1)=(p:Int)+1:=by rw[UR];omega
    have hs0:(0:Int)<=(p:Int)+1+(b[p].toNat:Int):=zo;have hs1:(0:Int)<=(p:Int)+1:=zo;have hs2:(p:Int)+1<=(p:Int)+1+(b[p].toNat:Int):=zo;have hs3:((p:Int)+1+(b[p].toNat:Int)).toNat=p+1+b[p].toNat:=zo;have aU:IntKind.i64.wrap ((p:Int)+1+(b[p].toNat:Int))=(p:Int)+1+(b[p].toNat:Int):=by rw[UR];omega
    go_wp2_with fail;have au:XL wr (wr.alloc (xi #[xj x] 9)).drew:=gC.drew;have aI:=UP HD.out.bel.size au.size;refine R' (S:=λ_=>True) zk ?_ (λI=>?_)
    .simp
    apply zt1 0 (xk (TT (w.heap.size+1))) I;apply zt1 2 (xj b) I;apply zt1 3 (xd xh (p:Int)) I;apply zt5 4 (xd xh ((p:Int)+1)) I;apply zt1 5 (xd xh (p:Int)) I;apply zt5 6 (xd xh ((p:Int)+1)) I;apply zt1 7 (xd xh (b[p].toNat:Int)) I;apply zt5 8 (xd xh ((p:Int)+1+b[p].toNat)) I;apply zt5 9 (xj x) I;refine zrH2 1 10 (λK hK=>?ra) λK hK=>?rb
    case' ra=>(go_simp;refine hK.out _ _ I (λI=>?_);clear hK K;apply SR 10 trivial;intro I)
    case' rb=>(go_simp;refine hK.out _ _ trivial (λI=>?_);clear hK K;apply SR 1 I;intro I)
    all_goals (
     apply zrH 11;intro K hK;refine DB zf _ _ 25 zf w.heap.size 9 sI rfl underlying25 (v:=xa ao i ac) (n:=i) (xs:=gU l) zf (H:=wr.heap.size) (xj x) zf rfl (gq b3.out au) (gi wr _) zo aI ?_;intro g4 ad w4 aj ae az;have U:=ae;have J:=HD.out.later au;have aa:=(U.block _ (dK J.blk) (λe=>gz J.tab.acts e.symm J.blk zp)).trans J.blk;have bc:=EQ aa 0;have bd:=gh aa 0;have aW:=J.act (A':=xa (TT g4) (i+1) ad) (s:=x) (by show Rx _ _ _ _ _ (l.length+1) _;rw[HL.out];exact aj) U;refine hK.out _ _ trivial (λI=>?_);clear hK K;clear aj ae az U J aa tc tl;apply zt1 12 (xk (TT (w.heap.size+1))) I;apply SR 13 trivial;intro I;refine Ut zk ?_ _;clear I;clear bc bd au aI;go_wp2
     go_roundw
     case rel=>exact⟨i+1,p+1+b[p].toNat,TT g4,ad,l++[x],zf,zf,zo,hn,aW,by show _=_;grind[gQ],aO,br⟩
     case measure=>simp[intOf];omega
     )
   have a8:(b.size:Int)<(p:Int)+1+(b[p].toNat:Int):=zo;have HFAIL:Hid (RZ b.data.toList none):=by
    have aq:=HP.out;subst aq;exact aK.out.fail hlt HC.out (λ_=>zo)
   have HB:=HD.out.bel;have HRS:=HD.out.res;have rc:=EQ HRS;have rf:=gh HRS;exact zm11
  have ba:(b.size:Int)<=(p:Int):=zo;have HFAIL:Hid (RZ b.data.toList none):=by
   have aq:=HP.out;subst aq;exact aK.out.fail hlt HC.out (λh=>absurd h hp)
  have HB:=HD.out.bel;have HRS:=HD.out.res;have rc:=EQ HRS;have rf:=gh HRS;exact zm11
 have ck:¬ (i:Int)<(b[2].toNat:Int):=zo;have bF:i=b[2].toNat:=zo;have bW:Hid (∀t,Fn t->iG t=b.data.toList->t.acts.length=i):=by show ∀t,_;rw[bF];trivial
 have hi255:i<=255:=zo;clear bF HC;have HB:=fy HD.out.bel;have HRS:=fy HD.out.res;have rc:=EQ HRS.out;have rf:=gh HRS.out;by_cases hp:p<b.size
 .have ba:decide ((b.size:Int)<=(p:Int))=false:=Uy zo;have cn:(p:Int)<(b.size:Int):=zo;have bD:b[p].toNat<=255:=by have:=b[p].toNat_lt;omega
  have hmul:b[p].toNat*(1+i)<=255*256:=Nat.mul_le_mul bD zo;have cl:(b[p].toNat:Int)*(1+(i:Int))=((b[p].toNat*(1+i):Nat):Int):=zf;have HM:Hid (∀k,k<b[p].toNat->k*(1+i)+(1+i)<=b[p].toNat*(1+i)):=λk hk=>by
   have:=Nat.mul_le_mul_right (1+i) (show k+1<=b[p].toNat from hk)
   grind
  have bo:=fy (λh=>sF aK.out bW.out h);have bY:Hid (Ds b l b[p].toNat 0 [] []):=by
   grind[gQ,Ds.start]
  generalize hme:b[p].toNat*(1+i)=m at *;have hwr0:IntKind.i64.wrap (b[p].toNat:Int)=(b[p].toNat:Int):=by rw[UR];omega
  have cm:¬ b.size<=p:=zo;have bI:IntKind.i64.wrap ((p:Int)+1)=(p:Int)+1:=by rw[UR];omega
  have aU:IntKind.i64.wrap (1+(i:Int))=1+(i:Int):=by rw[UR];omega
  have bJ:IntKind.i64.wrap (m:Int)=(m:Int):=by rw[UR];omega
  have bK:IntKind.i64.wrap ((p:Int)+1+(m:Int))=(p:Int)+1+(m:Int):=by rw[UR];omega
  have HME:=fy hme;clear hme;by_cases hn:p+1+m<=b.size
  .have a8:decide ((b.size:Int)<(p:Int)+1+(m:Int))=false:=Uy zo;clear bo;go_wp2;go_quiet (fail);go_wp2_with fail;have bX:=HD.out.later (iK wr nq);generalize wr.drewN nq=wd at *;clear rc rf tc tl HB HRS HD aU bJ bK cl;have bZ:Hid (([]:T5).length=0/\([]:T0).length=0/\∀q∈([]:T0),q.length=i):=⟨rfl,rfl,λq hq=>(US hq).elim⟩
   rename Uc=>w0'
   go_loopw [5,9] (λy x wr=>∃(k r:Nat)(fo:TX)(fc:Nat)(xo:TX)(xc:Nat)(fl:T5)(nx:T0)(rv:TW),y=xd xh r/\x=xd xh k/\k<=b[p].toNat/\Hid (r=p+1+k*(1+i))/\Hid (SJ w wr (w.heap.size+1) (xa ao i ac) (xa fo k fc) (xa xo k xc) ⟨l,fl,nx⟩ rv)/\Hid (fl.length=k/\nx.length=k/\∀q∈nx,q.length=i)/\Hid (Ds b l b[p].toNat k fl nx)) (λ_ x _=>b[p].toNat-(intOf x).toNat)
   .exact⟨0,p+1,none,0,none,0,[],[],[],zf,rfl,Ux,by show _=_;omega,bX,bZ,bY⟩
   obtain⟨k,r,fo,fc,xo,xc,fl,nx,rv,rfl,rfl,hkn',HR,ai,ag,ax⟩:=hrel;by_cases hkl:k<b[p].toNat
   .have cj:(k:Int)<(b[p].toNat:Int):=zo;have hrb:r+1+i<=b.size:=by have h1:=HR.out;have h2:=HM.out k hkl;omega
    have cr:r<b.size:=zo;have hri:(r:Int)<(b.size:Int):=zo;have hbr:b[r].toNat<=255:=by have:=b[r].toNat_lt;omega
    have hwr5:IntKind.i64.wrap (b[r].toNat:Int)=(b[r].toNat:Int):=by rw[UR];omega
    have bl:Hid (Dr b l k 0 b[r].toNat []):=by
     refine Dr.start ax.out hkl ?_ cr;rw[HL.out,<-HP.out];trivial
    have b4:Hid (wr.ownsRow w.heap.size 3 1 (xa fo k fc) k (gX fl)):=by
     have h1:=ai.out.tab.fl;rw[ag.out.1] at h1;exact h1
    have tc:=EQ ai.out.blk;have tl:=dK ai.out.blk;go_wp2_with fail;have au:XL wr (wr.alloc (xi #[xd xh (b[r].toNat:Int)] 3)).drew:=gC.drew;have aI:=UP ai.out.bel.size au.size;refine R' (S:=λ_=>True) zk ?_ (λI=>?_)
    .simp
    apply zt1 0 (xk (some (TU (w.heap.size+1) 1))) I;apply zt1 2 (xj b) I;apply zt1 3 (xd xh (r:Int)) I;apply zt5 4 (xd .u8 (b[r].toNat:Int)) I;apply zt5 5 (xd xh (b[r].toNat:Int)) I;refine zrH2 1 6 (λK hK=>?rax) λK hK=>?rbx
    case' rax=>(go_simp;refine hK.out _ _ I (λI=>?_);clear hK K;apply SR 6 trivial;intro I)
    case' rbx=>(go_simp;refine hK.out _ _ trivial (λI=>?_);clear hK K;apply SR 1 I;intro I)
    all_goals (
     apply zrH 7;intro K hK;refine DB zf _ _ 33 zf w.heap.size 3 oe rfl underlying33 (v:=xa fo k fc) (n:=k) (xs:=gX fl) zf (H:=wr.heap.size) (xd xh (b[r].toNat:Int)) zf rfl (gq b4.out au) (gi wr _) zo aI ?_;intro g4 ad w4 aj ae az;have U:=ae;have J:=ai.out.later au;have aa:=(U.block _ (dK J.blk) (λe=>gz J.tab.fl e.symm J.blk zp)).trans J.blk;have bc:=EQ aa 1;have bd:=gh aa 1;have aW:=J.flag (F':=xa (TT g4) (k+1) ad) (f:=b[r].toNat) (by show Rx _ _ _ _ _ (fl.length+1) _;rw[ag.out.1];exact aj) U rfl az;refine hK.out _ _ trivial (λI=>?_);clear hK K;clear aj ae az U J aa tc tl;apply zt5 8 (xk (some (TU (w.heap.size+1) 1))) I;apply SR 9 trivial;intro I;refine Ut zk ?_ _;clear bc bd au aI I;go_wp2_with fail;generalize w4.setCell (TU (w.heap.size+1) 1) (xa (TT g4) (k+1) ad)=w5 at *;generalize b[r].toNat=f at *;have b':=Sn.start w5 w.heap.size (xa (TT g4) (k+1) ad) rv
     rename Uc=>w6'
     go_loopw [5,10,11] (λy v x wr=>∃(a:Nat)(vo:TX)(vc:Nat)(q:T5),y=xd xh ((r+1+a:Nat))/\v=xa vo a vc/\x=xd xh a/\a<=i/\Hid (SJ w wr (w.heap.size+1) (xa ao i ac) (xa (TT g4) (k+1) ad) (xa xo k xc) ⟨l,fl++[f],nx⟩ rv)/\Hid (Sn wr w.heap.size (xa (TT g4) (k+1) ad) rv (xa vo a vc) q)/\Hid (q.length=a)/\Hid (Dr b l k a f q)) (λ_ _ x _=>i-(intOf x).toNat)
     case atStart=>exact⟨0,none,0,[],zf,rfl,rfl,Ux,aW,b',rfl,bl⟩
     case round=>
      obtain⟨a,vo,vc,q,rfl,rfl,rfl,hai,ar,HU,HQ,bj⟩:=hrel;have bP:=EQ ar.out.blk 0;rcases zc a i with⟨hal,han⟩|⟨hal,han⟩
      .have cp:r+1+a<b.size:=zo;have hpli:((r+1+a:Nat):Int)<(b.size:Int):=zo;have hbp:b[r+1+a].toNat<=255:=by have:=b[r+1+a].toNat_lt;omega
       have bm:Hid (Dr b l k (a+1) f (q++[b[r+1+a].toNat])):=by
        refine Dr.next ax.out hkl bj.out (by rw[HL.out];omega) ?_ cp;rw[HL.out,<-HP.out,<-HR.out]
       have hwr6:IntKind.i64.wrap (b[r+1+a].toNat:Int)=(b[r+1+a].toNat:Int):=by rw[UR];omega
       generalize aq:r+1+a=pp at *;have hpb2:pp<=1000:=zo;have b6:=fy aq;clear aq
       go_wp2_with (at_builtin;go_must (refine qu rfl _ _ 33 rfl _ w.heap.size 3 oe rfl underlying33 (n:=a) (xs:=gX q) rfl (xd xh (b[pp].toNat:Int)) rfl rfl ?y0 zo ar.out.bel.size (by first|rfl|simp[World.setCell]) ?_))
       case y0=>have h1:=HU.out.own;rw[HQ.out] at h1;exact h1
       intro g9 ay w9 aH aD aA;have an:=ir wr (xi #[xd xh (b[pp].toNat:Int)] 3);obtain⟨bB,cb⟩:=(ar.out.later an).num (HU.out.later an) (x:=b[pp].toNat) (by rw[HQ.out];exact aH) aD rfl (aA.imp id (λh=>zs));have aX:=fy bB;clear aH aD aA an bB ar HU bP;go_wp2
       go_roundw
       .exact⟨a+1,TT g9,ay,q++[b[pp].toNat],by rw[show r+1+(a+1)=pp+1 from by have:=b6.out;omega];rfl,rfl,zf,zo,aX,cb,by show _=_;rw[Ur,HQ.out];rfl,bm⟩
       simp[intOf];omega
      .have cc:a=i:=zo;subst cc;have bn:=Ds.next ax.out hkl (by rw[HL.out];exact bj.out);have hnk:k<=255:=zo;have cu:=EQ ar.out.blk 2
       go_wp2_with (at_builtin;go_must (refine qu rfl _ _ 34 rfl _ w.heap.size 33 sH rfl underlying34 (n:=k) (xs:=rv) rfl (xa vo a vc) rfl rfl ?z0 zo ar.out.bel.size (by first|rfl|simp[World.setCell]) ?_))
       case z0=>have h1:=ar.out.tab.nx;rw[ag.out.2.1] at h1;exact h1
       intro g9 ay w9 aH aD aA;have an:=ir wr (xi #[xa vo a vc] 33);have J:=ar.out.later an;have aX:=fy (J.row (HU.out.later an) (X':=xa (TT g9) (k+1) ay) (by show Rx _ _ _ _ _ (nx.length+1) _;rw[ag.out.2.1];exact aH) aD);have aw:=(aD.block _ (dK J.blk) (λe=>gz J.tab.nx e.symm J.blk zp)).trans J.blk;have tc9:=EQ aw 2;have tf9:=gh aw 2;have bq:Hid ((fl++[f]).length=k+1/\(nx++[q]).length=k+1/\∀q'∈nx++[q],q'.length=a):=by
        refine⟨by rw[Ur,ag.out.1];rfl,by rw[Ur,ag.out.2.1];rfl,λq' cq=>?_⟩;rcases List.mem_append.1 cq with h|h
        .exact ag.out.2.2 q' h
        rw[List.mem_singleton.1 h];exact HQ.out
       have b8:Hid (r+1+a=p+1+(k+1)*(1+a)):=by show _=_;rw[Rv,Nat.one_mul];have:=HR.out;omega
       clear aH aD aA an J aw ar HU bP cu;go_wp2
       go_roundw
       .exact⟨k+1,r+1+a,TT g4,ad,TT g9,ay,fl++[f],nx++[q],rv++[xa vo a vc],rfl,zf,zo,b8,aX,bq,bn⟩
       case measure=>simp[intOf];omega
     )
   have cj:¬ (k:Int)<(b[p].toNat:Int):=zo;have aE:Hid (∀t,Fn t->iG t=b.data.toList->t=⟨l,fl,nx⟩):=by
    have ch:k=b[p].toNat:=zo;have h1:=ax.out;rw[<-ch] at h1;exact h1.done
   have aS:=fy (ai.out.tab.read ⟨by show l.length<=1000;rw[HL.out];omega,by show nx.length<=1000;rw[ag.out.2.1];omega,by show fl.length<=1000;rw[ag.out.1];omega,λq hq=>by rw[ag.out.2.2 q hq];omega⟩);have aQ:=Hq i k fc k xc aS.out.1 HL.out (by show(zI fl).length=k;unfold zI;rw[UL];exact ag.out.1) (by show(nx.map zI).length=k;rw[UL];exact ag.out.2.1);have bM:=EQ ai.out.blk 0;have bN:=EQ ai.out.blk 1;have bO:=EQ ai.out.blk 2;go_wp2_with fail;refine aQ.mono ?_;rintro e w7 ⟨bE,bC⟩;have aC:=ai.out.later bC;have HB:=aC.bel;have HRS:=aC.res;have rc:=EQ HRS;have rf:=gh HRS;clear aQ aS ai bM bN bO bC
   rename Uc=>wr
   rcases bE with⟨t,hz,hRt,rfl⟩|⟨hnr,rfl⟩
   .have bH:=(Tb.z_inj hz).symm;obtain⟨eb,a6⟩:∃eb:Ub,eb=⟨(iG t).toArray⟩:=⟨_,rfl⟩;have aT:eb.data.toList=iG t:=by rw[a6]
    rw[<-a6];have aY:=fy bH;have aP:=fy aT;clear bH aT a6 hz;by_cases heq:eb=b
    .have cd:(eb.toList==b.toList)=true:=za;have b5:Hid (RZ b.data.toList (some ⟨l,fl,nx⟩)):=by
      rw[<-aY.out];exact⟨hRt,by rw[<-aP.out,heq]⟩
     have cg:1<=i:=by
      have h1:=hRt.acts.n1;rw[aY.out] at h1;have h2:=h1;rw[HL.out] at h2;omega
     have b9:=aC.tab.toW (λq hq=>by rw[ag.out.2.2 q hq];omega);have bM:=EQ aC.blk 0;have bN:=EQ aC.blk 1;have bO:=EQ aC.blk 2;clear heq cg;go_wp2_with fail;have hfin:=jf HRS (xa ao i ac) (xa fo k fc) (xa xo k xc);have hbf:=iY HB (XH) (xa ao i ac) (xa fo k fc) (xa xo k xc);have ct:=ow HRS b9 (A':=xa ao i ac) (F':=xa fo k fc) (X':=xa xo k xc);change bodyPost _ _ _ _ _ (jb wr w.heap.size (xa ao i ac) (xa fo k fc) (xa xo k xc));generalize jb wr w.heap.size (xa ao i ac) (xa fo k fc) (xa xo k xc)=wf at *;have fcc:=EQ hfin;refine py (v:=.tuple #[.agg #[xa ao i ac,xa fo k fc,xa xo k xc],xd xh 0]) (by simp[results,results145,go_sem,fcc]) rfl ?_;exact⟨some ⟨l,fl,nx⟩,b5.out,hbf,_,_,_,rv,rfl,ct⟩
    have cd:=qX heq;have HFAIL:=fy (λt' aM aG=>by
     have h1:=aE.out t' aM aG;rw[<-aY.out] at h1;rw[h1,<-aP.out] at aG;exact heq (lQ aG))
    exact zm11
   have HFAIL:=fy (λt' aM aG=>by
    have h1:=aE.out t' aM aG;exact hnr ⟨t',by rw[h1],aM⟩)
   exact zm11
  have a8:decide ((b.size:Int)<(p:Int)+1+(m:Int))=true:=UH zo;have hn2:(b.size:Int)<(p:Int)+1+(m:Int):=zo;have HFAIL:Hid (RZ b.data.toList none):=by
   grind[gQ]
  clear bo;go_wp2;go_quiet (fail);go_wp2_with fail;have aF:=((iK wr nq).block _ (dK HRS.out)).trans HRS.out;have aV:=HB.out.trans ((iK wr nq).mono HB.out.size);generalize wr.drewN nq=wd at *;have hfin:=jf aF TV TV TV;have hbf:=iY aV (XH) TV TV TV;change bodyPost _ _ _ _ _ (jb wd w.heap.size TV TV TV);generalize jb wd w.heap.size TV TV TV=wf at *;exact zm20
 have ba:decide ((b.size:Int)<=(p:Int))=true:=UH zo;have cm:b.size<=p:=zo;have HFAIL:Hid (RZ b.data.toList none):=by
  grind[gQ,sF]
 go_wp2;go_quiet (fail);go_wp2_with fail;have aF:=((iK wr nq).block _ (dK HRS.out)).trans HRS.out;have aV:=HB.out.trans ((iK wr nq).mono HB.out.size);generalize wr.drewN nq=wd at *;have hfin:=jf aF TV TV TV;have hbf:=iY aV (XH) TV TV TV;change bodyPost _ _ _ _ _ (jb wd w.heap.size TV TV TV);generalize jb wd w.heap.size TV TV TV=wf at *;exact zm20
def kh(b:T7):Nat:=if (b[0]?).getD false=true then 1 else 0
def Nk(b:T7):jR b=kh b+if b.any id=true then 2 else 0:=rfl
def ME{V W:Uc}{tb:Nat}(hg:V.grownBy W (some tb)){b:Nat}(o:Nat)(J:b<V.heap.size)(I:b≠tb):W.cell? (TU b o)=V.cell? (TU b o):=by
 have e:=hg.block b J (λe=>I (Ue e));unfold World.cell?;simp_all
structure Sj(V W:Uc)(tb:Nat)(so:TX)(sc:Nat)(ms:List (T7))(A F X:Ud)(fl:T5)(nx:T0)(rv:TW):Prop where
 blk:W.heap[tb]?=some (xi #[A,F,X] 36 (0,0))
 htb:tb<V.heap.size
 st:W.ownsRow V.heap.size 9 1 (xa so ms.length sc) ms.length (nG ms)
 tab:R6 W V.heap.size TV F X ⟨[],fl,nx⟩ rv
 gr:V.grownBy W (some tb)
section
variable{V W W':Uc}{tb:Nat}{so:TX}{sc:Nat}{ms:List (T7)}{A F X:Ud}{fl:T5}{nx:T0}{rv:TW}
def Sj.later(h:Sj V W tb so sc ms A F X fl nx rv)(I:XL W W'):Sj V W' tb so sc ms A F X fl nx rv:=
 ⟨(I.block _ (dK h.blk)).trans h.blk,h.htb,gq h.st I,h.tab.later I,h.gr.trans (gE I _)⟩
def Sj.own(h:Sj V W tb so sc ms A F X fl nx rv){z:Nat}{v:Ud}(hv:W.ownsRow V.heap.size e z v n xs)(hg:W.grownBy W' v.ownBlock)(he:e≠36):W'.heap[tb]?=some (xi #[A,F,X] 36 (0,0))/\V.grownBy W' (some tb):=by
 have U:=λk I=>(gJ hv k I).1
 refine⟨(hg.block _ (dK h.blk) (λe=>?_)).trans h.blk,⟨hg.os.trans h.gr.os,hg.tape.trans h.gr.tape,hg.output.trans h.gr.output,UP h.gr.size hg.size,λk I J=>(hg.block k (Uw I h.gr.size) (λe=>?_)).trans (h.gr.block k I J)⟩⟩
 .have:=U _ e.symm;have:=h.htb;omega
 have:=U _ e.symm;omega
theorem Sj.set(h:Sj V W tb so sc ms A F X fl nx rv){v:Ud}(U:Sn W V.heap.size F rv v q){g cap:Nat}(ho:W'.ownsRow V.heap.size 9 1 (xa (TT g) (ms.length+1) cap) (ms.length+1) (nG ms++[xj (gK b)]))(hg:W.grownBy W' (xa so ms.length sc).ownBlock):
  Sj V W' tb (TT g) cap (ms++[b]) A F X fl nx rv/\Sn W' V.heap.size F rv v q:=by
 obtain⟨h1,h2⟩:=h.own h.st hg zp;refine⟨⟨h1,h.htb,?_,h.tab.grow hg λk I=>⟨λe=>(by cases e),iA h.tab.fl h.st zp k I,iA h.tab.nx h.st zp k I,λu J=>?_⟩,h2⟩,U.grow hg (iA U.own h.st zp)⟩
 .grind[nG]
 obtain⟨r,hr⟩:=h.tab.row_at J;exact iA hr h.st zp k I
def Sj.num(h:Sj V W tb so sc ms A F X fl nx rv){v:Ud}(J:Sn W V.heap.size F rv v q)(ho:W'.ownsRow V.heap.size 3 1 v' (q.length+1) (gX q++[xd xh (x:Int)]))(hg:W.grownBy W' v.ownBlock)(U:v'.ownBlock=some g')(I:v.ownBlock=some g'\/W.heap.size<=g'):
  Sj V W' tb so sc ms A F X fl nx rv/\Sn W' V.heap.size F rv v' (q++[x]):=by
 obtain⟨h1,h2⟩:=h.own J.own hg zp;obtain⟨t1,u1⟩:=h.tab.num J ho hg U I;exact⟨⟨h1,h.htb,gG h.st hg (iA h.st J.own zp),t1,h2⟩,u1⟩
theorem Sj.put{x:Ud}(U:W.heap[tb]?=some (xi #[A,F,X] 36 (0,0)))(htb:tb<V.heap.size)(J:W.ownsRow V.heap.size 9 1 (xa so ms.length sc) ms.length (nG ms))(ht:R6 W V.heap.size TV F' X' ⟨[],fl',nx'⟩ rv')(I:V.grownBy W (some tb))(hc:(#[A,F,X]:T1).setIfInBounds i x= #[A',F',X']):
  Sj V (W.setCell (TU tb i) x) tb so sc ms A' F' X' fl' nx' rv':=by
 refine⟨?_,htb,gG J (gp W tb i x) λb hb' e=>?_,ht.cellO U zp i x,I.trans (gp W tb i x)⟩
 .grind[gj]
 grind[gz]
def Sj.row(h:Sj V W tb so sc ms A F X fl nx rv){v:Ud}(U:Sn W V.heap.size F rv v q)(ho:W'.ownsRow V.heap.size 33 1 X' (nx.length+1) (rv++[v]))(hg:W.grownBy W' X.ownBlock):Sj V (W'.setCell (TU tb 2) X') tb so sc ms A F X' fl (nx++[q]) (rv++[v]):=by
 obtain⟨I,J⟩:=h.own h.tab.nx hg zp;exact Sj.put I h.htb (gG h.st hg (iA h.st h.tab.nx zp)) (h.tab.row U ho hg) J rfl
def Sj.flag(h:Sj V W tb so sc ms A F X fl nx rv)(ho:W'.ownsRow V.heap.size 3 1 F' (fl.length+1) (gX fl++[xd xh (f:Int)]))(hg:W.grownBy W' F.ownBlock)(I:F'.ownBlock=some g')(J:F.ownBlock=some g'\/W.heap.size<=g'):Sj V (W'.setCell (TU tb 1) F') tb so sc ms A F' X (fl++[f]) nx rv:=by
 obtain⟨U,h2⟩:=h.own h.tab.fl hg zp;exact Sj.put U h.htb (gG h.st hg (iA h.st h.tab.fl zp)) (h.tab.flag ho hg I J) h2 rfl
def Sj.fset{fb c:Nat}(h:Sj V W tb so sc ms A (xa (TT fb) N c) X fl nx rv)(U:fl.length=N)(i x:Nat):Sj V (W.setCell (TU fb i) (xd xh (x:Int))) tb so sc ms A (xa (TT fb) N c) X (fl.set i x) nx rv:=by
 have hg:=gp W fb i (xd xh (x:Int));obtain⟨I,J⟩:=h.own h.tab.fl hg zp;exact⟨I,h.htb,gG h.st hg λb hb=>iA h.st h.tab.fl zp b hb,h.tab.fset U i x,J⟩
end
def SG.at_{J V W:Uc}{l:List (Bool × T7)}{rv:TW}{tw:T0}(h:SG J V N sb lo lc l ho hc rv tw){tb:Nat}{c:T1}(U:V.heap[tb]?=some (xi c 36 m))(hg:V.grownBy W (some tb)):Qj W lo l/\S9 W ho (tw.map zI):=by
 refine⟨Jo (gG h.pl hg λb I e=>?_),(h.tab.other hg λb I c' m'=>?_).rws rfl⟩
 .cases I;exact gz h.pl e U zp
 simp_all
def Gh{T:T8}{t:Int}(h:T[j]?=some t):np (T.take (j+1)) p=(np (T.take j) p&&kF p.2 t):=by
 unfold np;rw[U5,h,WM,Ww];simp
structure BW(V W:Uc)(b:T7):Prop where
 blk:W.heap[V.heap.size]?=some (xi (qv b) 5 (0,0))
 bel:XL V W
theorem BW.set{V W:Uc}(h:BW V W b)(k:Nat)(x:Bool){z:Int}(I:((nw x).toNat:Int)=z):BW V (W.setCell (TU V.heap.size k) (xd .u8 z)) (b.set k x):=by
 subst I;refine⟨?_,h.bel.setCell (p:=⟨V.heap.size,k,none⟩) (XH) _⟩;have:=gj h.blk k (xd .u8 ((nw x).toNat:Int))
 grind[B9]
def BW.later{V W W':Uc}(h:BW V W b)(I:XL W W'):BW V W' b:=
 ⟨(I.block _ (dK h.blk)).trans h.blk,h.bel.trans (I.mono h.bel.size)⟩
theorem BW.start(V:Uc)(n:Nat):BW V (V.alloc (xi (Array.replicate n (xd .u8 0)) 5)) (List.replicate n false):=by
 refine⟨?_,gC⟩
 grind[uA,gi]
def BW.slot{V W:Uc}(h:BW V W b){k:Nat}(I:k<b.length):(∃z,W.cell? (TU V.heap.size k)=some z)/\W.frozen? (TU V.heap.size k)=false/\V.heap.size<W.heap.size:=
 ⟨⟨_,(EQ h.blk k).trans (pH (Uq I))⟩,gh h.blk k,dK h.blk⟩
theorem Sj.full{V W:Uc}{tb:Nat}{so:TX}{sc:Nat}{ms:List (T7)}{A F X:Ud}{fl:T5}{nx:T0}{rv:TW}(h:Sj V W tb so sc ms A F X fl nx rv){base:Nat}(I:base<=V.heap.size){names:TZ}(J:V.ownsRow base 9 1 A names.length (gU names)){c:T1}(ht:V.heap[tb]?=some (xi c 36 m)):R6 W base A F X ⟨names,fl,nx⟩ rv:=
 ⟨gG J h.gr λb hb' e=>by grind[gz],im h.tab.fl I,im h.tab.nx I,λj r hr=>by
  obtain⟨v,h1,h2⟩:=h.tab.rows j r hr
  grind[im],h.tab.rf,h.tab.rr⟩
def oY(ms:List (T7))(i:Nat):T5:=(ms.take i).map jR++(ms.drop i).map kh
def KO(ms:List (T7)):oY ms 0=ms.map kh:=zf
def No{ms:List (T7)}(h:ms.length<=i):oY ms i=ms.map jR:=by unfold oY;rw[UF h,Wj h];simp
def zD(ms:List (T7))(i:Nat):(oY ms i).length=ms.length:=by unfold oY;simp;omega
theorem rQ{ms:List (T7)}(h:ms[i]?=some b):oY ms i=(ms.take i).map jR++(kh b::(ms.drop (i+1)).map kh)/\oY ms (i+1)=(ms.take i).map jR++(jR b::(ms.drop (i+1)).map kh):=by
 have hi:=(List.getElem?_eq_some_iff.1 h).1;have e:ms.drop i=b::ms.drop (i+1):=by
  rw[UK hi];simp_all
 grind[oY]
theorem O7{ms:List (T7)}(h:ms[i]?=some b):(oY ms i)[i]?=some (kh b):=by
 grind[rQ]
def KN{ms:List (T7)}(h:ms[i]?=some b):oY ms (i+1)=(oY ms i).set i (jR b):=by
 have hi:=(List.getElem?_eq_some_iff.1 h).1;rw[(rQ h).1,(rQ h).2,Wy _ _ zs];simp[Wu (Wq hi)]
theorem KM{ms:List (T7)}(h:ms[i]?=some b)(he:jR b=kh b):oY ms (i+1)=oY ms i:=by
 grind[rQ]
theorem Nj(b:T7):kh b%2=1↔(b[0]?).getD false=true:=by
 grind[kh]
def O6(b:T7):kh b<=1:=by unfold kh;split<;>omega
end Go.Proofs.YtidakhhekofkoaaGreatDoor
