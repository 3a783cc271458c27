import Derived.Lib.BufSteps
import Derived.Test.YtidakhhekofkoaaGreatDoorT08
set_option linter.all false
set_option maxHeartbeats 8000000
set_option maxRecDepth 100000
namespace Go.Proofs
def V0:=@Go.Lib.wpList_append_byte
def Wa:=@Go.Lib.run_eql_slice_some_nil
def Wg:=@Go.Lib.run_eql_slice_nil_nil
end Go.Proofs
namespace Go.Proofs.YtidakhhekofkoaaGreatDoor
attribute [local go_sem] TT TU TV XL
attribute [local simp] TT TU TV XL
open Go.Proofs.Tryz
open Go.RowKit Go.Deep
open Value renaming slice->xa,int->xd,string->xj,pointer->xk,bool->xn
open IntKind renaming i64->xh
open Obj renaming cells->xi
open Ending renaming returned->xm
open World renaming block_lt_of_cell?->Q',alloc->Ry
open Lib renaming OwnBuf->Ru
open Or renaming inr->Ro
open Addr renaming add->RA
variable{zq:Prop}
variable{w W0 wr w' w1 w2 wr':Uc}{B e n ac nn nc size kb an mb a2 a3 n1 k1 n2 k2 m2 m3 q2 q3 j:Nat}{o bo ao p a1 o1 o2 m1 q1:TX}{r:T5}{xs:TW}{t:Tb}{a b b' wd x:Ub}{L al:TY}{f:Fm}{m:T3}{xx:Tk}{rs:T6}{tr:TZ}{ad:Addr}
def zm4(h:zq:=by
 refine hK.out _ _ hS7 (λhHeld=>?_);clear hK K hS7;have hrb7:=(hb7.block _ hrl6).trans hrb6;have rc7:=EQ hrb7;have rf7:=gh hrb7;have hrl7:=dK hrb7;have HO7:=gq HO6 hb7;have HB7:=HB6.trans (hb7.mono zo);clear hb7;apply zt1 18 (.agg #[xj r.word.s,xa o6 n6 k6,xk p7]) hHeld;apply zrH 19;intro K hK;go_simp;have hfar:∀(q o:Nat)(v0 v1 v2:Ud),q≠w.heap.size->(((w7.setCell (TU w.heap.size 0) v0).setCell (TU w.heap.size 1) v1).setCell (TU w.heap.size 2) v2).cell? (TU q o)=w7.cell? (TU q o):=λq o v0 v1 v2 hq=>by
  rw[XK (by show w.heap.size≠q;omega),XK (by show w.heap.size≠q;omega),XK (by show w.heap.size≠q;omega)]
 refine hK.out _ _ ⟨(hfar _ _ _ _ _ zo).trans hHeld.1,(hfar _ _ _ _ _ zo).trans hHeld.2.1,(hfar _ _ _ _ _ zo).trans hHeld.2.2.1,(hfar _ _ _ _ _ zo).trans hHeld.2.2.2.1,(hfar _ _ _ _ _ zo).trans hHeld.2.2.2.2⟩ (λhHeld=>?_);clear hK K hfar hHeld;refine Ut zk ?_ _;go_wp2_with fail;have hfin:(((w7.setCell (TU w.heap.size 0) (xj r.word.s)).setCell (TU w.heap.size 1) (xa o6 n6 k6)).setCell (TU w.heap.size 2) (xk p7)).heap[w.heap.size]?=some (xi #[xj r.word.s,xa o6 n6 k6,xk p7] 144 (0,0)):=gj (gj (gj hrb7 0 _) 1 _) 2 _;have rc8:=EQ hfin;clear rc7;refine py (v:=.agg #[xj r.word.s,xa o6 n6 k6,xk p7]) (by simp[results,results118,go_sem,rc8]) rfl ?_;have hnr:(xa o6 n6 k6).ownBlock≠some w.heap.size:=λe=>gz HO7 e hrb7 zp
 refine⟨((HB7.setCell (XH) _).setCell (XH) _).setCell (XH) _,o6,n6,k6,p7,rfl,gy (gy (gy HO7 (gp _ _ _ _) (Or.inr hnr)) (gp _ _ _ _) (Or.inr hnr)) (gp _ _ _ _) (Or.inr hnr),?_⟩;have hG8:=xL (o:=2) (v:=xk p7) (gj (gj hrb7 0 (xj r.word.s)) 1 (xa o6 n6 k6)) zp (xL (o:=1) (v:=xa o6 n6 k6) (gj hrb7 0 (xj r.word.s)) zp (xL (o:=0) (v:=xj r.word.s) hrb7 zp hG7));rw[HNOE.out];exact hG8
 ):zq:=h
def zm5(h:zq:=by
 apply zrH 6;intro K hK;refine UB _ zf _ _ 76 zf w.heap.size 144 m0 (.agg #[xj ⟨#[]⟩,TV,xk none]) 3 48 underlying76 hm0 hmz0 hmz1 hmz2 rfl zd (xa m1 m2 m3) k cs zf ?c0 (TU w3.heap.size 0) 1 1 [xj r.word.s,xa co cn cc,xk cp3] zf rfl ?c1 ?c2 zd ?c3 ?c4 ?c5 (w3.heap.size+1) zp ?_
 case c0=>have:=hbs3.ru.alloc (xi #[xj r.word.s,xa co cn cc,xk cp3] 144);rw[HTL.out] at this;exact this
 case c1=>
  intro j u hj
  match j,hj with
  |0,hj=>simp at hj;subst hj;simp[Addr.add]
  |1,hj=>simp at hj;subst hj;simp[Addr.add]
  |2,hj=>simp at hj;subst hj;simp[Addr.add]
  |j+3,hj=>simp at hj
 case c2=>intro u hu;simp at hu;rcases hu with rfl|rfl|rfl<;>rfl
 case c3=>unfold maxLen;omega
 case c4=>omega
 case c5=>simp;omega
 intro g4 cap4 w4 hown4 hgrow4 hat4 hlt4;have hS4:w4.cell? (TU wr.heap.size 5)=some (xk (TT kb)):=by
  rw[V5 (a:=⟨wr.heap.size,5,none⟩) (hgrow4.block wr.heap.size zs (λe=>by have:=gJ hbs.ru _ e.symm;omega))];omega
 refine hK.out _ _ hS4 (λhHeld=>?_);clear hK K hS4;have hbs4:=(hbs3.later gC).add hmb (HBR3.out.keep (KB.below gC)) hgrow4 (by rw[HTL.out];exact hown4);have hm4:=(hgrow4.block mb zs (λe=>gz hbs3.ru e.symm hbs3.mx zp)).trans ((XD hml3).trans hbs3.mx);have mc4:=EQ hm4;have mf4:=gh hm4;have hml4:=dK hm4;clear hown4 hgrow4 hm4 mc3;apply zt1 7 (xk (some (TU mb 1))) hHeld;apply zrH 8;intro K hK;go_simp;refine hK.out _ _ (by show(World.setCell _ _ _).cell? _=_;rw[XK (by show mb≠wr.heap.size;omega)];omega) (λhHeld=>?_);clear hK K hHeld mc4 mf4;refine Ut zk ?_ _;go_wp2
 go_roundw
 .exact⟨k+1,_,_,_,_,by go_num,zo,by rw[HTS.out];exact hbs4⟩
 simp[intOf];omega
 ):zq:=h
def zm21(h:zq:=by
 clear hb hb0 hg;go_in;go_wp2;go_quiet (first|(go_at_call_of 122 (xk pl);refine Wc (IHL.out _ _ ?_ hfl hzl ?_);exact Pi.drewN hl _;exact hG.later (iK _ _))|(go_at_call_of 122 (xk pr);refine Wc (IHR.out _ _ ?_ hfr hzr ?_);exact Pi.drewN hr _;exact hG.later (iK _ _)));go_wp2;go_ret;exact⟨rfl,nq,rfl⟩
 ):zq:=h
def zm28(h:zq:=by
 clear hb hb0 hg;go_in;go_wp2;go_quiet (first|(go_at_call_of 122 (xk pl);refine Wc (IHL.out _ _ ?_ hfl hzl ?_);exact Pi.drewN hl _;exact hG.later (iK _ _)));go_wp2;go_ret;exact⟨rfl,nq,rfl⟩
 ):zq:=h
def zm32(h:zq:=by
 skip
 obtain⟨c0,c1,c2⟩:=mZ (j:=0) hcr rfl;clear hcr;go_wp2_with fail;refine(oh).mono ?_;rintro e w3 ⟨v,rfl,hv,hb3⟩;have HV:=hv 0;have hrb3:=(hb3.block w.heap.size zs).trans ((XD hrl).trans hrb);have hab3:=(hb3.block (w.heap.size+1) zs).trans ((XD hal).trans hab);have HB3:=(hbel.alloc zo _).trans (hb3.mono zs);have hal3:=dK hab3;clear abc abf;have abc:=EQ hab3;have abf:=gh hab3;clear hv hb3 c0 c1 c2;go_wp2
 go_roundw
 .refine⟨1,v,p1,0,zf,rfl,HB3.setCell zp _,(XE zp).trans hrb3,gj hab3 0 _,Or.inr (Or.inl ⟨rfl,rfl,xL hab3 zp HV⟩)⟩
 simp[intOf]
 ):zq:=h
def zm34(h:zq:=by
 refine⟨?_,?_,?_,?_,?_⟩
 .show(World.alloc _ _).cell? _=_;rw[XJ hkl3];simp_all
 .show(World.alloc _ _).cell? _=_;rw[XJ hkl3];simp_all
 .simp
 .show(World.alloc _ _).cell? _=_;rw[XJ hal3];simp_all
 show(World.alloc _ _).cell? _=_;rw[XJ hal3];simp_all
 ):zq:=h
def zm55(h:zq:=by
 refine⟨0,none,none,0,rfl,rfl,gC.alloc zp _,(XD zp).trans (gi _ _),gu zp,Or.inl ⟨rfl,rfl⟩⟩
 ):zq:=h
def zm98(h:zq:=by
 obtain⟨cur,h1,h2⟩:=HCUR.out;exact⟨cur,(hbel.block _ (dK h1)).trans h1,h2⟩
 ):zq:=h
def zm99(h:zq:=by
 obtain⟨_,⟨h1,_⟩|⟨g',cap',cur',hv',_,hh',_,_,hcs,_⟩⟩:=hown1
 .omega
 simp_all
 ):zq:=h
def zm102(h:zq:=by
 have hin:¬ (i:Int)<(tr.length:Int)+8:=zo;go_wp2;go_ret;exact⟨w.heap.size,rfl,XH,⟨cur,HC.out,hcs,HV.out,λj h1 h2=>HY.out j h1 zo⟩,HB.out⟩
 ):zq:=h
def zm113(h:zq:=by
 rcases hcase with h|⟨h,_⟩
 .exact h
 exact absurd (by have:=HN.out;omega) h
 ):zq:=h
def zm136(h:zq:=by
 show [xd .u8 83,xd .u8 1,xd .u8 (na:Int)]=jO [83,1,u8 na];unfold jO;simp[kK (show na<256 from zo)]
 ):zq:=h
def zm144(h:zq:=by
 go_wp2
 go_roundw
 .exact⟨k+1,zo,by rw[HTK.out];unfold DD;go_num,zf,trivial⟩
 simp[intOf];omega
 ):zq:=h
def zm157(h:zq:=by
 exact⟨tr.length,cur2,XH,zo,rfl,hc2,hcs2,HV2,fy (λj h1 h2=>zo),hb2⟩
 ):zq:=h
def zm174(h:zq:=by
 clear hbel;go_wp2
 go_roundw
 .exact⟨k+1,zo,zf,HBF3⟩
 simp[intOf];omega
 ):zq:=h
def jO(l:T9):TW:=l.map λb=>xd .u8 (b.toNat:Int)
def xq(l r:T9):jO (l++r)=jO l++jO r:=by unfold jO;simp
def Ks(l:T9):(jO l).length=l.length:=by unfold jO;simp
def OB(w:Uc)(o:TX)(l:T9):Prop:=∀(j:Nat)(x:UInt8),l[j]?=some x->∃b off,o=some ⟨b,off,none⟩/\b<w.heap.size/\w.cell? (TU b (off+j))=some (xd .u8 (x.toNat:Int))
def OwnF.bys{c:Nat}{l:T9}(h:w.ownsRowF B e 1 (xa o n c) n (jO l)):OB w o l:=λj x hx=>by
 have hj:=(List.getElem?_eq_some_iff.1 hx).1;obtain⟨J,⟨_,hn⟩|⟨g,cap,cur,fz,U,_,hg,_,hle,_,hcs,I⟩⟩:=h
 .rw[Ks] at J;omega
 cases U;refine⟨g,0,rfl,dK hg,?_⟩;rw[U2,EQ hg,<-UN];have:(jO l)[j]?=some (xd .u8 (x.toNat:Int)):=by unfold jO;simp_all
 rw[<-I,U8] at this;simp_all
theorem yf(a:Ub):∀l:TZ,jB (l++[a])=jB l++([u8 a.size]++a.data.toList):=by intro I;induction I<;>grind[jB]
def yL{f:Nat}:∀(fs:T5)(l:T0),fs.length=l.length->iX (fs++[f]) (l++[r])=iX fs l++(u8 f::r.map u8)
 |[],[],_=>by simp[iX]
 |[],_::_,h=>zv
 |_::_,[],h=>zv
 |x::fs,y::l,h=>by rw[UE,UE,iX,yL fs l za,iX];simp
def Oj(n J:Nat)(l:T9)(h:OB w bo l)(hn:l.length=n)(hl:n<=10000000000000):
  Calls prog 88 #[xa bo n J] w λe w'=>e=xm (xd xh (lS 3 l:Nat))/\w'=w:=by
 subst hn;go_in;go_wp2
 go_loopw [3,8] (λs x wr=>∃k:Nat,k<=l.length/\s=xd xh (lS 3 (l.take k):Nat)/\x=xd xh k/\Hid (w=wr)) (λ_ x _=>l.length-(intOf x).toNat)
 .exact zm56
 obtain⟨k,hk,rfl,rfl,I⟩:=hrel;have hw:=I.out;subst hw;clear I;rcases zc k l.length with⟨hlt,hkn⟩|⟨hlt,hkn⟩
 .obtain⟨b,off,rfl,hb,hc⟩:=h k l[k] (Uq hlt);have HTK:Hid (lS 3 (l.take (k+1))=DD (lS 3 (l.take k)) l[k].toNat):=by
   show _=_;rw[U5,Uq hlt,wO];rfl
  have hs:=vU (n:=3) zp (l.take k);have hc8:=l[k].toNat_lt;generalize l[k].toNat=c at *;generalize lS 3 (l.take k)=S at *;exact zm144
 rw[UF zo];go_wp2;go_ret;simp
def Tryz.infoU8:(prog.info? 5).map (λi=>(i.zero,i.size,i.bytes))=some (some (xd .u8 0),1,1):=zk
def Bf(B:Nat)(W0 wr:Uc)(v:Ud)(l:T9):Prop:=Ru B 5 v l.length (jO l) W0 wr
def Bf.of{v:Ud}{l:T9}(h:Ru B 5 v n xs W0 wr)(hn:n=l.length)(I:xs=jO l):Bf B W0 wr v l:=by
 subst hn;subst I;exact h
def DC(s:Ub):Lib.strCells s=jO s.data.toList:=rfl
def jT(t:Tb)(k:Nat):T9:=[83,1,u8 t.acts.length]++jB (t.acts.take k)
def jE(t:Tb)(k:Nat):T9:=jT t t.acts.length++[u8 t.nx.length]++iX (t.fl.take k) (t.nx.take k)
def AO{k:Nat}(h:t.acts[k]?=some a):jT t (k+1)=jT t k++[u8 a.size]++a.data.toList:=by
 unfold jT;rw[U5,h];show _++jB (t.acts.take k++[a])=_;rw[yf];simp
def uW{k f:Nat}(I:t.fl.length=t.nx.length)(hf:t.fl[k]?=some f)(h:t.nx[k]?=some r):jE t (k+1)=jE t k++[u8 f]++r.map u8:=by
 unfold jE;rw[U5,U5,h,hf];show _++iX (t.fl.take k++[f]) (t.nx.take k++[r])=_;rw[yL _ _ (by simp[I])];simp
def Dh(I:t.fl.length=t.nx.length):jE t t.nx.length=iM t:=by
 unfold jE jT iM;rw[W9,W9,<-I,W9];simp
def vQ(h:Fn t)(k:Nat):(jT t k).length<=60:=by
 have I:=Ag (t.acts.take k) (λa J=>(h.acts.nm a (VS J)).n8);have h2:=h.acts.n6;unfold jT;rw[Ur];rw[Vi] at I;simp only[UM,Xa];omega
def zO(h:Fn t)(k:Nat):(jE t k).length<=900:=by
 have h1:=vQ h t.acts.length;have I:=vk 6 (t.fl.take k) (t.nx.take k) (λr hr=>by rw[(h.rs r (VS hr)).1];exact h.acts.n6);have h3:=h.n100;rw[Vi] at I;unfold jE;rw[Ur,Ur];simp only[UM,Xa];omega
def BI{l:T5}{k:Nat}{x:Nat}(h:l[k]?=some x):(zI l)[k]?=some (x:Int):=by unfold zI;simp_all
theorem mh(l:T5):(zI l).length=l.length:=by unfold zI;simp
def Kt(h:n<256):[xd .u8 (n:Int)]=jO [u8 n]:=by
 unfold jO;rw[UZ,Vv,kK h]
def Bf.byte{v:Ud}{l r:T9}{m:Nat}(hn:n<256)(h:Ru B 5 v m (jO l++[xd .u8 (n:Int)]) W0 wr)(hm:m=l.length+1)(hr:r=l++[u8 n]):Bf B W0 wr v r:=by
 subst hr;exact Bf.of h za (by rw[xq,Kt hn])
def Bf.text{v:Ud}{l r:T9}{s:Ub}{m:Nat}(h:Ru B 5 v m (jO l++Lib.strCells s) W0 wr)(hm:m=l.length+s.size)(hr:r=l++s.data.toList):Bf B W0 wr v r:=by
 subst hr;exact Bf.of h za (by rw[xq,DC])
def Bf.slice{v:Ud}{l:T9}(h:Bf B W0 wr v l)(hl:l≠[]):∃g c,v=xa (TT g) l.length c/\OB wr (TT g) l/\B<=g:=by
 have I:=h.1;obtain⟨_,⟨_,hn⟩|⟨g,cap,cur,fz,J,U,_⟩⟩:=id I
 .simp_all
 refine⟨g,cap,J,?_,U⟩;rw[J] at I;exact OwnF.bys I
def z8{fo no:TX}(fc nc:Nat){na nf:Nat}(hI:SN w ao fo no ac t.z)(hR:Fn t)(aK:na=t.acts.length)(aW:nf=t.fl.length)(aX:nn=t.nx.length):
  Calls prog 46 #[.agg #[xa ao na ac,xa fo nf fc,xa no nn nc]] w λe w'=>e=xm (xj ⟨(iG t).toArray⟩)/\XL w w':=by
 obtain⟨i0,ae,ai,aj,ak⟩:=Uk Tryz.infoU8;have hB:=ir w (xi #[xa ao na ac,xa fo nf fc,xa no nn nc] 36);have J:=gi w (xi #[xa ao na ac,xa fo nf fc,xa no nn nc] 36);have HI:=hI.later hB;have hna6:na<=6:=by have:=hR.acts.n6;omega
 have hnn6:nn<=100:=by have:=hR.n100;omega
 have hnf1:nf<=nn:=by have:=hR.fl;omega
 have hnf2:nn<=nf:=by have:=hR.fl;omega
 have aO:=fy aK;have bd:=fy aW;have aG:=fy aX;have aM:Hid (Bf (w.heap.size+1) (w.alloc (xi #[xa ao na ac,xa fo nf fc,xa no nn nc] 36)) ((w.alloc (xi #[xa ao na ac,xa fo nf fc,xa no nn nc] 36)).alloc (xi #[xd .u8 83,xd .u8 1,xd .u8 (na:Int)] 5)) (xa (TT (w.heap.size+1)) 3 3) (jT t 0)):=by
  have e:jT t 0=[83,1,u8 na]:=by unfold jT;rw[aK];rfl
  rw[e];refine⟨⟨zf,.inr ⟨w.heap.size+1,3,_,(0,0),rfl,XH,gu zp,Ux,XH,zd,rfl,?_⟩⟩,?_,zp⟩
  .exact zm136
  have:=(Uo (w.alloc (xi #[xa ao na ac,xa fo nf fc,xa no nn nc] 36)).heap.size (w.alloc (xi #[xa ao na ac,xa fo nf fc,xa no nn nc] 36))).alloc (XH) (xi #[xd .u8 83,xd .u8 1,xd .u8 (na:Int)] 5);simpa using this
 clear hI aK aW aX;go_in;go_wp2_with fail;generalize hW0:w.alloc (xi #[xa ao na ac,xa fo nf fc,xa no nn nc] 36)=W0 at *;have aE:W0.heap.size=w.heap.size+1:=by rw[<-hW0];simp
 have au:=fy aE;clear hW0 aE
 go_loopw [3,19] (λbv x wr=>∃k:Nat,k<=na/\x=xd xh k/\Hid (Bf (w.heap.size+1) W0 wr bv (jT t k))) (λ_ x _=>na-(intOf x).toNat)
 .exact⟨0,Ux,rfl,aM⟩
 obtain⟨k,hk,rfl,I⟩:=hrel;have hbel:Below W0.heap.size W0 wr:=by rw[au.out];exact I.out.2.1
 have hpl:=vQ hR k;rcases zc k na with⟨hlt,hkn⟩|⟨hlt,hkn⟩
 .have ag:k<t.acts.length:=by have:=aO.out;omega
  obtain⟨b,off,rfl,hb,aH⟩:=(HI.later hbel).acts k t.acts[k] (Uq ag);have HX:=fy (Uq ag);have ha8:=(hR.acts.nm _ (UY ag)).n8;clear hbel;generalize t.acts[k]=a at *
  go_wp2_with (at_builtin;go_must (refine V0 rfl _ _ 51 rfl (w.heap.size+1) 5 i0 underlying51 ae ai aj ak _ (jT t k).length (jO (jT t k)) rfl W0 wr (a.size:Int) ?c0 rfl zo ?_))
  case c0=>exact I.out
  intro v1 w1 av;have U:=Bf.byte (n:=a.size) zo av zp rfl;clear av
  go_wp2_with (at_builtin;go_must (refine Lib.wpList_append_text rfl _ _ 51 9 rfl (w.heap.size+1) 5 i0 underlying51 underlying9 ae ai aj ak v1 (jT t k++[u8 a.size]).length (jO (jT t k++[u8 a.size])) rfl W0 U a rfl ?c1 ?_))
  case c1=>simp;omega
  intro v2 w2 aw;have ar:=Bf.text aw zp (AO HX.out);clear aw;go_wp2
  go_roundw
  .exact⟨k+1,zo,zf,ar⟩
  simp[intOf];omega
 have aJ:k=t.acts.length:=by have:=aO.out;omega
 subst aJ;have aa:wr.cell? (TU w.heap.size 2)=some (xa no nn nc):=(Fd hbel _ _ (dK J)).trans (EQ J 2);clear hbel
 go_wp2_with (at_builtin;go_must (refine V0 rfl _ _ 51 rfl (w.heap.size+1) 5 i0 underlying51 ae ai aj ak _ (jT t t.acts.length).length (jO (jT t t.acts.length)) rfl W0 wr (nn:Int) ?d0 rfl ?d1 ?_))
 case d0=>exact I.out
 case d1=>omega
 intro v1 w1 av;have U:=Bf.byte (n:=nn) (r:=jE t 0) zo av zp (by unfold jE;rw[aG.out];simp[iX]);have ax:Below W0.heap.size W0 w1:=by rw[au.out];exact U.2.1
 clear av aa;have aa:w1.cell? (TU w.heap.size 2)=some (xa no nn nc):=(Fd ax _ _ (dK J)).trans (EQ J 2);clear ax;go_wp2_with fail;clear aa I
 rename Uc=>wR
 go_loopw [3,43] (λbv x wr=>∃k:Nat,k<=nn/\x=xd xh k/\Hid (Bf (w.heap.size+1) W0 wr bv (jE t k))) (λ_ x _=>nn-(intOf x).toNat)
 .exact⟨0,Ux,rfl,U⟩
 obtain⟨k,hk,rfl,I⟩:=hrel;have hbel:Below W0.heap.size W0 wr:=by rw[au.out];exact I.out.2.1
 have aU:wr.cell? (TU w.heap.size 1)=some (xa fo nf fc):=(Fd hbel _ _ (dK J)).trans (EQ J 1);have aa:wr.cell? (TU w.heap.size 2)=some (xa no nn nc):=(Fd hbel _ _ (dK J)).trans (EQ J 2);have aY:=zO hR k;rcases zc k nn with⟨hlt,hkn⟩|⟨hlt,hkn⟩
 .have hkf:(k:Int)<(nf:Int):=zo;have ag:k<t.nx.length:=by have:=aG.out;omega
  have az:k<t.fl.length:=by have:=bd.out;omega
  obtain⟨b,off,ro,rc,bu,aQ,aD,bA⟩:=HI.nx k (zI t.nx[k]) (by show(t.nx.map zI)[k]? =_;simp_all);have aH:=(Fd hbel _ _ aQ).trans aD;clear aD aQ;obtain⟨fb,foff,bt,bq,br⟩:=(HI.later hbel).fl k (t.fl[k]:Nat) (BI (Uq az));have HX:=fy (Uq ag);have HY:=fy (Uq az);have hf3:=hR.fs _ (UY az);have a6:=hR.rs _ (UY ag);rw[mh] at aH;have hr6a:t.nx[k].length<=6:=zo;have bg:Hid (∀x∈t.nx[k],x<256):=λx hx=>by have:=a6.2 x hx;have:=hR.n100;omega
  clear a6;subst bu;subst bt;generalize t.nx[k]=r at *;generalize t.fl[k]=f at *;clear hbel
  go_wp2_with (at_builtin;go_must (refine V0 rfl _ _ 51 rfl (w.heap.size+1) 5 i0 underlying51 ae ai aj ak _ (jE t k).length (jO (jE t k)) rfl W0 wr (f:Int) ?e0 rfl ?e1 ?_))
  case e0=>exact I.out
  case e1=>omega
  intro v2 w2 aw;have ar:=Bf.byte (n:=f) zo aw zp rfl;clear aw aU aa aH bq br;have bf:=fy (uW hR.fl HY.out HX.out);go_wp2_with fail
  rename Uc=>wS
  go_loopw [3,59] (λbv x wr=>∃j:Nat,j<=r.length/\x=xd xh j/\Hid (Bf (w.heap.size+1) W0 wr bv (jE t k++[u8 f]++(r.take j).map u8))) (λ_ x _=>r.length-(intOf x).toNat)
  .exact⟨0,Ux,rfl,by simpa [Hid] using ar⟩
  obtain⟨j,hj,rfl,HBF3⟩:=hrel;have hbel:Below W0.heap.size W0 wr:=by rw[au.out];exact HBF3.out.2.1
  rcases zc j r.length with⟨hjl,hjn⟩|⟨hjl,hjn⟩
  .obtain⟨qb,qoff,bw,hqb,hqc⟩:=bA.later hbel j (r[j]:Nat) (BI (Uq hjl));have bE:=bg.out r[j] (UY hjl);have hlen:(jE t k++[u8 f]++(r.take j).map u8).length<=1000:=by
    simp only[Ur,UL,Vi,UM,Xa];omega
   have bj:Hid (jE t k++[u8 f]++(r.take (j+1)).map u8=(jE t k++[u8 f]++(r.take j).map u8)++[u8 r[j]]):=by
    show _=_;rw[U5,Uq hjl];show jE t k++[u8 f]++(r.take j++[r[j]]).map u8=_;rw[U1,<-UI];rfl
   subst bw;clear hbel;generalize r[j]=x at *;generalize jE t k++[u8 f]++(r.take j).map u8=P at *
   go_wp2_with (at_builtin;go_must (refine V0 rfl _ _ 51 rfl (w.heap.size+1) 5 i0 underlying51 ae ai aj ak _ P.length (jO P) rfl W0 wr (x:Int) ?f0 rfl ?f1 ?_))
   case f0=>exact HBF3.out
   case f1=>omega
   intro v3 w3 aR;have aN:=Bf.byte (n:=x) bE aR zp bj.out;clear aR;go_wp2
   go_roundw
   .exact⟨j+1,zo,zf,aN⟩
   simp[intOf];omega
  rw[UF zo,<-bf.out] at HBF3;exact zm174
 have aJ:k=t.nx.length:=by have:=aG.out;omega
 subst aJ;rw[Dh hR.fl] at I aY;have hsum:=vU (n:=3) zp (iM t);have aF:Hid (iG t=iM t++[u8 (lS 3 (iM t) / 256),u8 (lS 3 (iM t)%256)]):=rfl;clear aU aa;obtain⟨g,c,hv,bn,hg⟩:=Bf.slice I.out (by unfold iM;simp);subst hv;generalize iM t=P at *;have bh:=Oj P.length c P bn rfl zo;generalize lS 3 P=S at *;go_wp2_with fail;refine bh.mono ?_;rintro e w5 ⟨rfl,a7⟩;have h5:=a7.symm;clear a7;subst h5
 go_wp2_with (at_builtin;go_must (refine wpList_append_ownF _ rfl _ _ 51 rfl (w.heap.size+1) 5 i0 (xd .u8 0) 1 1 underlying51 ae ai aj ak rfl zd _ P.length (jO P) rfl ?g0 (TU wr.heap.size 0) 2 2 (jO [u8 (S / 256),u8 (S%256)]) rfl rfl ?g1 ?g2 ?g3 ?g4 ?g5 ?_))
 case g0=>exact I.out.alloc _|>.1
 case g1=>
  intro j u hj;have bB:((u8 (S / 256)).toNat:Int)=(S:Int) / 256:=by rw[kK zo];omega
  have bC:((u8 (S%256)).toNat:Int)=(S:Int)%256:=by rw[kK zo];omega
  have aT:=gu (w:=wr) (o:=xi #[xd .u8 ((S:Int) / 256),xd .u8 ((S:Int)%256)] 5) (n:=wr.heap.size) rfl
  match j,hj with
  |0,hj=>simp[jO] at hj;subst hj;rw[bB];exact EQ aT 0
  |1,hj=>simp[jO] at hj;subst hj;rw[bC];exact EQ aT 1
  |j+2,hj=>trivial
 case g2=>intro u hu;simp[jO] at hu;rcases hu with rfl|rfl<;>rfl
 case g3=>unfold maxLen;omega
 case g4=>omega
 case g5=>simp;have:=I.out.2.2;omega
 intro v8 w8 aB aI _;rw[<-xq,<-aF.out] at aB;have aS:Below W0.heap.size W0 w8:=by
  have k0:=(I.out.alloc (xi #[xd .u8 ((S:Int) / 256),xd .u8 ((S:Int)%256)] 5)).2.1;rw[au.out];exact k0.grown aI (by have:=I.out.2.2;simp;omega) (λb hb=>by cases hb;omega)
 have ba:=hB.trans (aS.mono hB.size);clear hbel aS;have aV:P.length+2=(iG t).length:=by rw[aF.out];simp
 rw[aV] at aB;obtain⟨g9,c9,bD,aC,_⟩:=Bf.slice (B:=w.heap.size+1) (W0:=w8) (wr:=w8) (l:=iG t) ⟨aB,XF,by have:=aI.size;have:=I.out.2.2;simp at *;omega⟩ (by rw[aF.out];simp);subst bD;have hcv:=Vh (P:=prog) w8 51 9 5 (TU g9 0) c9 (iG t) underlying51 underlying5 underlying9 (λj hj=>by
  obtain⟨b',off',e1,_,e3⟩:=aC j (iG t)[j] (Uq hj);cases e1;rw[Vm];omega)
 clear aC aB aI aV;generalize hE:iG t=E at *;have HE:=fy hE;clear hE;go_wp2;go_ret;exact⟨by rw[HE.out];rfl,ba⟩
def zW(S:Nat):T9:=[u8 (S / 256),u8 (S%256)]
def PA(l:T9):nH l=zW (lS 3 l):=rfl
def JF(w:Uc){S:Nat}(hS:S<65521)(j:Nat)(hj:j<(zW S).length):(w.alloc (xi #[xd .u8 ((S:Int) / 256),xd .u8 ((S:Int)%256)] 5)).cell? (((TU w.heap.size 0):Addr).add j)=some (xd .u8 ((zW S)[j].toNat:Int)):=by
 have J:((u8 (S / 256)).toNat:Int)=(S:Int) / 256:=by rw[kK zo];omega
 have U:((u8 (S%256)).toNat:Int)=(S:Int)%256:=by rw[kK zo];omega
 have I:=gu (w:=w) (o:=xi #[xd .u8 ((S:Int) / 256),xd .u8 ((S:Int)%256)] 5) (n:=w.heap.size) rfl;rw[Vm,U2,EQ I]
 match j,hj with
 |0,_=>show some (xd .u8 ((S:Int) / 256))=some (xd .u8 ((u8 (S / 256)).toNat:Int));rw[J]
 |1,_=>show some (xd .u8 ((S:Int)%256))=some (xd .u8 ((u8 (S%256)).toNat:Int));rw[U]
 |j+2,hj=>trivial
def Ka(w:Uc)(s:Ub)(hs:s.size<=10000000000000):
  Calls prog 147 #[xj s] w λe w'=>e=xm (xj ⟨(nH s.data.toList).toArray⟩)/\XL w w':=by
 go_in;go_wp2
 go_loopw [3,4] (λn x wr=>∃k:Nat,k<=s.size/\n=xd xh ((lS 3 (s.data.toList.take k):Nat):Int)/\x=xd xh k/\Hid (w=wr)) (λ_ x _=>s.size-(intOf x).toNat)
 .exact zm56
 obtain⟨k,hk,rfl,rfl,HW⟩:=hrel;have hw:=HW.out;subst hw;clear HW;rcases zc k s.size with⟨hlt,hkn⟩|⟨hlt,hkn⟩
 .have I:s.data.toList[k]?=some s[k]:=by
   rw[UN];exact U' hlt
  have HTK:Hid (lS 3 (s.data.toList.take (k+1))=DD (lS 3 (s.data.toList.take k)) s[k].toNat):=by
   show _=_;rw[U5,I,wO];rfl
  have J:=vU (n:=3) zp (s.data.toList.take k);have hc8:=s[k].toNat_lt;clear I;generalize lS 3 (s.data.toList.take k)=S at *;exact zm144
 have U:s.data.toList.take k=s.data.toList:=UF (by rw[Array.length_toList];show s.size<=k;omega);rw[U];have J:=vU (n:=3) zp s.data.toList;have aa:=fy (PA s.data.toList);generalize lS 3 s.data.toList=S at *;have ae:=Vh (P:=prog) (w.alloc (xi #[xd .u8 ((S:Int) / 256),xd .u8 ((S:Int)%256)] 5)) 51 9 5 (TU w.heap.size 0) 2 (zW S) underlying51 underlying5 underlying9 (JF w J);rw[show(zW S).length=2 from rfl] at ae;generalize zW S=E at *;clear U;go_wp2_with fail;refine py (v:=xj ⟨E.toArray⟩) (by simp[results,results147,go_sem]) rfl ?_;exact⟨by rw[aa.out],gC⟩
def GX{s:Ub}(hs:s.size<=400):Calls prog 49 #[xj s] w λe w'=>e=xm (xj s)/\XL w w':=by
 go_in
 go_wp2_with (refine(Tryz.stringslite_Clone s _ zo).mono ?_;rintro e w1 ⟨rfl,hb1⟩)
 go_ret;trivial
theorem si{no:TX}(h:w.ownsRow 0 201 3 (xa no nn nc) L.length (gM L))(hl:L.length<=401)(hz:∀t∈L,t.s.size<=400):
  Calls prog 117 #[xa no nn nc] w λe w'=>∃v,e=xm v/\w'.ownsRow w.heap.size 9 1 v L.length (kp L)/\XL w w':=by
 obtain⟨i0,hi,aF,ax,aH⟩:=Uk Tryz.infoStr;obtain⟨aC,ae⟩:=oK h;have hnn1:nn<=L.length:=zo;have hnn2:L.length<=nn:=zo;have au:=fy ae;have HZ:=fy hz;clear h aC ae hz;go_in;go_wp2
 go_loopw [3,8] (λv i wr=>∃k:Nat,i=xd xh (k:Int)/\k<=L.length/\wr.ownsRow w.heap.size 9 1 v k (kp (L.take k))/\XL w wr) (λ_ i _=>L.length-(intOf i).toNat)
 .exact⟨0,rfl,Ux,XG,XF⟩
 obtain⟨k,rfl,hkk,J,I⟩:=hrel;by_cases hlt:k<L.length
 .obtain⟨t,rr,ht⟩:∃t rr,L.drop k=t::rr:=by
   cases hd:L.drop k with
   |nil=>have:=congrArg List.length hd;simp at this;omega
   |cons t rr=>simp
  obtain⟨g,aD,hle,aw,cur,aj,av⟩:=au.out (by intro e;simp_all);unfold maxLen at aw;have ag:∃cur,wr.heap[g]?=some (xi cur 201 (0,0))/\cur.toList.take (L.length*3)=gM L:=⟨cur,(I.block _ (dK aj)).trans aj,av⟩;obtain⟨c0,c1,c2⟩:=mZ ag ht;subst aD;have HTS:=fy (oO ht);have aE:=HZ.out t (Vk (i:=k) (ht▸Um ..));have aB:(k:Int)<(nn:Int):=zo;clear ht aj av ag cur;go_wp2_with fail;refine(GX aE).mono ?_;rintro e w1 ⟨rfl,ai⟩;have aA:=gq (J.alloc (xi #[xd xh t.k,xj t.s,xd xh t.p] 201)) ai;have az:=fy (gJ J);have ar:=(I.alloc I.size _).trans (ai.mono (by have:=I.size;simp;omega));clear J I ai;have aG:=ar.size
  go_wp2_with (at_builtin;go_must (refine U0 _ rfl _ _ 25 rfl w.heap.size 9 i0 (xj ⟨#[]⟩) 1 16 underlying25 hi aF ax aH rfl zd _ k (kp (L.take k)) rfl ?c0 (TU w1.heap.size 0) 1 1 [xj t.s] rfl rfl ?c1 ?c2 ?c3 ?c4 ?c5 ?_))
  case c0=>exact aA.alloc _
  case c1=>
   intro j u hj
   match j,hj with
   |0,hj=>simp at hj;subst hj;simp[RA]
   |j+1,hj=>simp at hj
  case c2=>intro u hu;simp at hu;subst hu;rfl
  case c3=>unfold maxLen;omega
  case c4=>omega
  case c5=>simp;omega
  intro v' w2 ak U _;have HB2:=(ar.alloc aG _).grown U zs (λk hk=>(az.out k hk).1);have HO2:Hid (w2.ownsRow w.heap.size 9 1 v' (k+1) (kp (L.take (k+1)))):=by
   grind[gQ,A7]
  clear ak U;exact zm45
 have aa:k=L.length:=zo;have aB:¬ (k:Int)<(nn:Int):=zo;have HO:Hid (wr.ownsRow w.heap.size 9 1 u3 L.length (kp L)):=by rw[<-aa];rw[aa,W9] at J;rw[aa];exact J
 clear J aa;go_wp2;go_ret;exact⟨_,rfl,HO.out,I⟩
def Pi.drewN(h:Pi w f p)(n:Nat):Pi (w.drewN n) f p:=h.later (iK _ _)
set_option maxRecDepth 1000000 in
def uS:∀(f:Fm)(w:Uc)(p:TX),Pi w f p->gI f<=100000->
  Calls prog 119 #[xk p] w λe w'=>e=xm (xd xh (gI f))/\∃n,w'=w.drewN n
 |.nil,w,p,h,_=>by
  cases (show p=none from h);go_in;go_wp2;go_ret;exact⟨rfl,0,rfl⟩
 |.node u v a l r,w,p,h,hs=>by
  obtain⟨b,pl,pr,rfl,hb,hl,hr⟩:=h;have I:=fy (uS l);have J:=fy (uS r);have U:gI l<=100000:=by simp only[gI] at hs;omega
  have aa:gI r<=100000:=by simp only[gI] at hs;omega
  have hss:=hs;have bc:=EQ hb;clear hb hs;go_in;go_wp2;go_quiet (first|(refine Wc (I.out _ _ ?_ U);exact Pi.drewN hl _)|(refine Wc (J.out _ _ ?_ aa);exact Pi.drewN hr _));go_wp2;go_ret;exact⟨oH zf,nq,rfl⟩
def xV(w w':Uc)(wd:Ub)(args:TY)(f:Fm)(e:Ending):Prop:=
 XL w w'/\∃ao an ac p,e=xm (.agg #[xj wd,xa ao an ac,xk p])/\w'.ownsRow w.heap.size 9 1 (xa ao an ac) args.length (kp args)/\Pi w' f p
def oJ{base:Nat}{v:Ud}(h:w.ownsRow base e size v n xs):∃ao an ac,v=xa ao an ac:=by
 obtain⟨_,h2|⟨g,cap,cur,hv,_⟩⟩:=h
 .simp_all
 simp_all
def tF{base:Nat}{v:Ud}(h:w.ownsRow base e size v n xs)(I:XL w w'):w'.ownsRow base e size v n xs:=gq h I
def xL{b ty o:Nat}{c:T1}{v:Ud}(hb:w.heap[b]?=some (xi c ty m))(hne:ty≠270)(hf:Pi w f p):Pi (w.setCell (TU b o) v) f p:=
 hf.keep (λq c' m' hq=>XE (by show q≠b;rintro rfl;simp_all))
def Cd{k:Nat}(h:k<=11)(a b c:Ud)(w:Uc):(callFunc (kP k) #[a,b,c]).run prog w=.ok (.enter (kP k) #[a,b,c]) w:=by
 rcases Ha (show k<12 from zo) with rfl|rfl|rfl|rfl|rfl|rfl|rfl|rfl|rfl|rfl|rfl|rfl<;>kernel_rfl
def Me{k:Nat}(h:k<=1)(I:Nat):jg k a b n=jg k a b' I:=by
 have:k=0\/k=1:=zo;rcases this with rfl|rfl<;>rfl
def Mf{k:Nat}(h:2<=k/\k<=3)(n:Nat):jg k a b n=jg k a b' n:=by
 have:k=2\/k=3:=zo;rcases this with rfl|rfl<;>rfl
def JS{k:Nat}(h:4<=k/\k<=11)(I:Nat):jg k a b n=jg k a b I:=by
 rcases Ha (show k<12 from zo) with rfl|rfl|rfl|rfl|rfl|rfl|rfl|rfl|rfl|rfl|rfl|rfl
 all_goals trivial
def DU(w:Uc)(r:Rl)(g:Nat)(x:Tk)(hk:w.heap[kb]?=some (ny r.word (some ⟨g,0,none⟩) 1 ac xx))(ho:w.ownsRow 0 201 3 (xa (some ⟨g,0,none⟩) 1 ac) 1 (gM [x]))(hx:x.k=2)(hn:gW r.word.s.toList<=1)(hz:∀t∈[x],t.s.size<=400):
  Calls prog 118 #[xk (some ⟨kb,0,none⟩)] w λe w'=>xV w w' r.word.s [x] (jg (gW r.word.s.toList) x.s ByteArray.empty 0) e:=by
 have aQ:=fy hz;clear hz;obtain⟨-,aw⟩:=oK (L:=[x]) ho;obtain⟨g',aR,aS,aE,aj⟩:=aw zp;cases aR;have HCUR:=fy aj;have aG:=dK hk;have hgl:g<w.heap.size:=by obtain⟨cur,h1,_⟩:=aj;exact dK h1
 unfold ny at hk;have kc:=EQ hk;have e3:((x.k:Int)==3)=false:=iL (c:=3) zo;have HN:=fy hn;clear hx hn;clear aw aj aS aE;go_in;go_wp2
 go_loopw [4,14] (λtm i wr=>∃(z:Int)(p0 p1:TX)(tv:Int),i=xd xh z/\tm=xd xh tv/\XL w wr/\wr.heap[w.heap.size]?=some (xi #[xj ⟨#[]⟩,xa none 0 0,xk none] 144 (0,0))/\wr.heap[w.heap.size+1]?=some (xi #[xk p0,xk p1] 257 (0,0))/\((z=0/\tv=0)\/(z=1/\tv=0/\Pi wr (ia x.s) p0))) (λ_ i _=>(1-intOf i).toNat)
 .exact zm55
 clear kc;obtain⟨z,p0,p1,tv,rfl,rfl,hbel,hrb,ag,aT⟩:=hrel;have aV:=hbel.size;have aK:=dK hrb;have aD:=dK ag;have az:=(hbel.block _ aG).trans hk;have aH:kb<wr.heap.size:=zo;have hgl2:g<wr.heap.size:=zo;unfold ny at az;have kc:=EQ az;have aq:=EQ ag;have ax:=gh ag;have ay:∃cur,wr.heap[g]?=some (xi cur 201 (0,0))/\cur.toList.take ([x].length*3)=gM [x]:=by
  exact zm98
 clear az;rcases aT with⟨rfl,rfl⟩|⟨rfl,rfl,hG0⟩
 .skip
  obtain⟨c0,c1,c2⟩:=mZ (j:=0) ay rfl;clear ay;go_wp2_with fail;refine(oh).mono ?_;rintro e w3 ⟨v,rfl,hv,ar⟩;have HV:=hv 0;have aJ:=(ar.block w.heap.size zs).trans ((XD aK).trans hrb);have I:=(ar.block (w.heap.size+1) zs).trans ((XD aD).trans ag);have aP:=(hbel.alloc zo _).trans (ar.mono zs);have hal3:=dK I;clear aq ax;have aq:=EQ I;have ax:=gh I;clear hv ar c0 c1 c2;go_wp2
  go_roundw
  .refine⟨1,v,p1,0,by first|rfl|go_num,rfl,aP.setCell (by show w.heap.size<=w.heap.size+1;omega) _,(XE (by show w.heap.size≠w.heap.size+1;omega)).trans aJ,gj I 0 _,Ro ⟨rfl,rfl,xL I zd HV⟩⟩
  simp[intOf]
 have ae:=fy hG0;clear hG0;clear aq ax ay;go_wp2_with fail;refine(tf).mono ?_;rintro e w2 ⟨aa,b,hbb,aM,hcase⟩;obtain⟨aI,rfl⟩:gW r.word.s.toList<=11/\e=_:=by
  exact zm113
 have ak:=(aa.block _ aH).trans ((hbel.block _ aG).trans hk);have av:=(aa.block _ aK).trans hrb;have au:=(aa.block _ aD).trans ag;have aB:=hbel.trans (aa.mono aV);have ae:=fy (ae.out.later aa);clear aa aM hcase kc;have hkl3:=dK ak;have aL:=dK av;have hal3:=dK au;unfold ny at ak;have kc:=EQ ak;have aq:=EQ au;generalize hNo:gW r.word.s.toList=no at *;have HNOE:=fy hNo;clear hNo;go_wp2_with fail;refine R' (S:=λw'=>w'.cell? ⟨kb,1,none⟩=some (xj r.word.s)/\w'.cell? ⟨kb,3,none⟩=some (xa (some ⟨g,0,none⟩) 1 ac)/\w'.cell? ⟨w2.heap.size,2,none⟩=some (.func (.func (kP no)) #[] #[])/\w'.cell? ⟨w.heap.size+1,0,none⟩=some (xk p0)/\w'.cell? ⟨w.heap.size+1,1,none⟩=some (xk p1)) zk ?_ (λhHeld=>?_)
 .exact zm34
 apply zt1 0 (xk (some ⟨kb,0,none⟩)) hHeld;apply zt1 1 (xk (some ⟨kb,0,none⟩)) hHeld;apply zt1 2 (xk (some ⟨kb,0,none⟩)) hHeld;apply zt1 3 (xk (some ⟨kb,1,none⟩)) hHeld;apply zt1 4 (xj r.word.s) hHeld;apply zt1 5 (xk (some ⟨kb,0,none⟩)) hHeld;apply zt1 6 (xk (some ⟨kb,0,none⟩)) hHeld;apply zt1 7 (xk (some ⟨kb,3,none⟩)) hHeld;apply zt1 8 (xa (some ⟨g,0,none⟩) 1 ac) hHeld;apply zt1 10 (xk (some ⟨w2.heap.size,2,none⟩)) hHeld;apply zt1 11 (.func (.func (kP no)) #[] #[]) hHeld;apply zt1 12 (xk (some ⟨w.heap.size+1,0,none⟩)) hHeld;apply zt1 13 (xk p0) hHeld;apply zt1 14 (xk (some ⟨w.heap.size+1,1,none⟩)) hHeld;apply zt1 15 (xk p1) hHeld;apply zt1 16 (xd xh (0:Int)) hHeld;apply zrH 9;intro K hK;go_simp;refine(si (gq (tF ho aB) (gC.drew)) zp aQ.out).mono ?_;rintro e w6 ⟨v6,rfl,U,J⟩;obtain⟨o6,n6,k6,aU⟩:=oJ U;subst aU;have aC:w6.cell? ⟨kb,1,none⟩=some (xj r.word.s)/\w6.cell? ⟨kb,3,none⟩=some (xa (some ⟨g,0,none⟩) 1 ac)/\w6.cell? ⟨w2.heap.size,2,none⟩=some (.func (.func (kP no)) #[] #[])/\w6.cell? ⟨w.heap.size+1,0,none⟩=some (xk p0)/\w6.cell? ⟨w.heap.size+1,1,none⟩=some (xk p1):=
  ⟨(Fd J _ _ zs).trans hHeld.1,(Fd J _ _ zs).trans hHeld.2.1,(Fd J _ _ zp).trans hHeld.2.2.1,(Fd J _ _ zs).trans hHeld.2.2.2.1,(Fd J _ _ zs).trans hHeld.2.2.2.2⟩
 refine hK.out _ _ aC (λhHeld=>?_);clear hK K aC;have ai:=((Uo w2.heap.size w2).alloc (XH) (xi #[xj (sZ no),xa (some ⟨mO b no,0,none⟩) (jY no) (jY no),.func (.func (kP no)) #[] #[]] 265)).drew.trans (J.mono zp);have ae:=ae.out.later ai;have hrb6:=(ai.block _ aL).trans av;have HB6:=aB.trans (ai.mono zo);have HO6:=im U (show w.heap.size<=_ from zs);have hrl6:=dK hrb6;have hz6:=ai.size;clear J U ai;have cf:=Cd aI;apply zrH 17;intro K hK;go_simp;refine(vA aI ByteArray.empty (n:=0) ae (λh=>absurd h (by have:=HN.out;omega)) zp).mono ?_;rintro e w7 ⟨p7,rfl,hG7,hb7⟩;have hS7:w7.cell? ⟨kb,1,none⟩=some (xj r.word.s)/\w7.cell? ⟨kb,3,none⟩=some (xa (some ⟨g,0,none⟩) 1 ac)/\w7.cell? ⟨w2.heap.size,2,none⟩=some (.func (.func (kP no)) #[] #[])/\w7.cell? ⟨w.heap.size+1,0,none⟩=some (xk p0)/\w7.cell? ⟨w.heap.size+1,1,none⟩=some (xk p1):=
  ⟨(Fd hb7 _ _ zo).trans hHeld.1,(Fd hb7 _ _ zo).trans hHeld.2.1,(Fd hb7 _ _ (Q' _ _ hHeld.2.2.1)).trans hHeld.2.2.1,(Fd hb7 _ _ zo).trans hHeld.2.2.2.1,(Fd hb7 _ _ zo).trans hHeld.2.2.2.2⟩
 exact zm4
def DV(w:Uc)(r:Rl)(g:Nat)(x y:Tk)(hk:w.heap[kb]?=some (ny r.word (some ⟨g,0,none⟩) 2 ac xx))(ho:w.ownsRow 0 201 3 (xa (some ⟨g,0,none⟩) 2 ac) 2 (gM [x,y]))(d:UInt8)(hx:x.k=2)(hy:y.k=3)(hd:y.s=⟨#[d]⟩)(ay:48<=d.toNat)(az:d.toNat<=57)(hn:2<=gW r.word.s.toList/\gW r.word.s.toList<=3)(hz:∀t∈[x,y],t.s.size<=400):
  Calls prog 118 #[xk (some ⟨kb,0,none⟩)] w λe w'=>xV w w' r.word.s [x,y] (jg (gW r.word.s.toList) x.s ByteArray.empty (d.toNat-48)) e:=by
 have aJ:=fy hz;clear hz;obtain⟨-,aq⟩:=oK (L:=[x,y]) ho;obtain⟨g',aL,aM,ax,ag⟩:=aq zp;cases aL;have HCUR:=fy ag;have aB:=dK hk;have hgl:g<w.heap.size:=by obtain⟨cur,h1,_⟩:=ag;exact dK h1
 unfold ny at hk;have kc:=EQ hk;have e3:((x.k:Int)==3)=false:=iL (c:=3) zo;have f3:((y.k:Int)==3)=true:=nv (c:=3) hy;have av:=fy (λw=>yC w hd ay az);have aK:d.toNat-48<=9:=zo;have HN:=fy hn;clear hx hn hy hd ay az;clear aq ag aM ax;go_in;go_wp2
 go_loopw [4,14] (λtm i wr=>∃(z:Int)(p0 p1:TX)(tv:Int),i=xd xh z/\tm=xd xh tv/\XL w wr/\wr.heap[w.heap.size]?=some (xi #[xj ⟨#[]⟩,xa none 0 0,xk none] 144 (0,0))/\wr.heap[w.heap.size+1]?=some (xi #[xk p0,xk p1] 257 (0,0))/\((z=0/\tv=0)\/(z=1/\tv=0/\Pi wr (ia x.s) p0)\/(z=2/\tv=((d.toNat-48:Nat):Int)/\Pi wr (ia x.s) p0))) (λ_ i _=>(2-intOf i).toNat)
 .exact zm55
 clear kc;obtain⟨z,p0,p1,tv,rfl,rfl,hbel,hrb,hab,aN⟩:=hrel;have aP:=hbel.size;have hrl:=dK hrb;have hal:=dK hab;have ar:=(hbel.block _ aB).trans hk;have aC:kb<wr.heap.size:=zo;have hgl2:g<wr.heap.size:=zo;unfold ny at ar;have kc:=EQ ar;have abc:=EQ hab;have abf:=gh hab;have hcr:∃cur,wr.heap[g]?=some (xi cur 201 (0,0))/\cur.toList.take ([x,y].length*3)=gM [x,y]:=by
  exact zm98
 clear ar;rcases aN with⟨rfl,rfl⟩|⟨rfl,rfl,hG0⟩|⟨rfl,rfl,hG0⟩
 .exact zm32
 .skip
  obtain⟨c0,c1,c2⟩:=mZ (j:=1) hcr rfl;clear hcr;go_wp2_with fail;refine(av.out _).mono ?_;rintro e w3 ⟨rfl,hb3⟩;have hrb3:=(hb3.block w.heap.size zs).trans ((XD hrl).trans hrb);have hab3:=(hb3.block (w.heap.size+1) zs).trans ((XD hal).trans hab);have HB3:=(hbel.alloc zo _).trans (hb3.mono zs);have aI:=hG0.later (gC.trans (hb3.mono zp));clear hb3 c0 c1 c2;go_wp2
  go_roundw
  .exact⟨2,p0,p1,_,by first|rfl|go_num,rfl,HB3,hrb3,hab3,Ro (Ro ⟨rfl,rfl,aI⟩)⟩
  simp[intOf]
 have aa:=fy hG0;clear hG0;clear abc abf hcr;go_wp2_with fail;refine(tf).mono ?_;rintro e w2 ⟨U,b,hbb,aF,hcase⟩;obtain⟨aD,rfl⟩:gW r.word.s.toList<=11/\e=_:=by
  exact zm113
 have ai:=(U.block _ aC).trans ((hbel.block _ aB).trans hk);have ak:=(U.block _ hrl).trans hrb;have aj:=(U.block _ hal).trans hab;have au:=hbel.trans (U.mono aP);have aa:=fy (aa.out.later U);clear U aF hcase kc;have hkl3:=dK ai;have aE:=dK ak;have hal3:=dK aj;unfold ny at ai;have kc:=EQ ai;have abc:=EQ aj;generalize hNo:gW r.word.s.toList=no at *;have HNOE:=fy hNo;clear hNo;go_wp2_with fail;refine R' (S:=λw'=>w'.cell? ⟨kb,1,none⟩=some (xj r.word.s)/\w'.cell? ⟨kb,3,none⟩=some (xa (some ⟨g,0,none⟩) 2 ac)/\w'.cell? ⟨w2.heap.size,2,none⟩=some (.func (.func (kP no)) #[] #[])/\w'.cell? ⟨w.heap.size+1,0,none⟩=some (xk p0)/\w'.cell? ⟨w.heap.size+1,1,none⟩=some (xk p1)) zk ?_ (λhHeld=>?_)
 .exact zm34
 apply zt1 0 (xk (some ⟨kb,0,none⟩)) hHeld;apply zt1 1 (xk (some ⟨kb,0,none⟩)) hHeld;apply zt1 2 (xk (some ⟨kb,0,none⟩)) hHeld;apply zt1 3 (xk (some ⟨kb,1,none⟩)) hHeld;apply zt1 4 (xj r.word.s) hHeld;apply zt1 5 (xk (some ⟨kb,0,none⟩)) hHeld;apply zt1 6 (xk (some ⟨kb,0,none⟩)) hHeld;apply zt1 7 (xk (some ⟨kb,3,none⟩)) hHeld;apply zt1 8 (xa (some ⟨g,0,none⟩) 2 ac) hHeld;apply zt1 10 (xk (some ⟨w2.heap.size,2,none⟩)) hHeld;apply zt1 11 (.func (.func (kP no)) #[] #[]) hHeld;apply zt1 12 (xk (some ⟨w.heap.size+1,0,none⟩)) hHeld;apply zt1 13 (xk p0) hHeld;apply zt1 14 (xk (some ⟨w.heap.size+1,1,none⟩)) hHeld;apply zt1 15 (xk p1) hHeld;apply zt1 16 (xd xh (((d.toNat-48:Nat):Int):Int)) hHeld;apply zrH 9;intro K hK;go_simp;refine(si (gq (tF ho au) (gC.drew)) zp aJ.out).mono ?_;rintro e w6 ⟨v6,rfl,J,I⟩;obtain⟨o6,n6,k6,aO⟩:=oJ J;subst aO;have aw:w6.cell? ⟨kb,1,none⟩=some (xj r.word.s)/\w6.cell? ⟨kb,3,none⟩=some (xa (some ⟨g,0,none⟩) 2 ac)/\w6.cell? ⟨w2.heap.size,2,none⟩=some (.func (.func (kP no)) #[] #[])/\w6.cell? ⟨w.heap.size+1,0,none⟩=some (xk p0)/\w6.cell? ⟨w.heap.size+1,1,none⟩=some (xk p1):=
  ⟨(Fd I _ _ zs).trans hHeld.1,(Fd I _ _ zs).trans hHeld.2.1,(Fd I _ _ zp).trans hHeld.2.2.1,(Fd I _ _ zs).trans hHeld.2.2.2.1,(Fd I _ _ zs).trans hHeld.2.2.2.2⟩
 refine hK.out _ _ aw (λhHeld=>?_);clear hK K aw;have ae:=((Uo w2.heap.size w2).alloc (XH) (xi #[xj (sZ no),xa (some ⟨mO b no,0,none⟩) (jY no) (jY no),.func (.func (kP no)) #[] #[]] 265)).drew.trans (I.mono zp);have aa:=aa.out.later ae;have hrb6:=(ae.block _ aE).trans ak;have HB6:=au.trans (ae.mono zo);have HO6:=im J (show w.heap.size<=_ from zs);have hrl6:=dK hrb6;have hz6:=ae.size;clear I J ae;have cf:=Cd aD;apply zrH 17;intro K hK;go_simp;refine(vA aD ByteArray.empty aa (λh=>absurd h (by have:=HN.out;omega)) aK).mono ?_;rintro e w7 ⟨p7,rfl,hG7,hb7⟩;have hS7:w7.cell? ⟨kb,1,none⟩=some (xj r.word.s)/\w7.cell? ⟨kb,3,none⟩=some (xa (some ⟨g,0,none⟩) 2 ac)/\w7.cell? ⟨w2.heap.size,2,none⟩=some (.func (.func (kP no)) #[] #[])/\w7.cell? ⟨w.heap.size+1,0,none⟩=some (xk p0)/\w7.cell? ⟨w.heap.size+1,1,none⟩=some (xk p1):=
  ⟨(Fd hb7 _ _ zo).trans hHeld.1,(Fd hb7 _ _ zo).trans hHeld.2.1,(Fd hb7 _ _ (Q' _ _ hHeld.2.2.1)).trans hHeld.2.2.1,(Fd hb7 _ _ zo).trans hHeld.2.2.2.1,(Fd hb7 _ _ zo).trans hHeld.2.2.2.2⟩
 exact zm4
def DW(w:Uc)(r:Rl)(g:Nat)(x y:Tk)(hk:w.heap[kb]?=some (ny r.word (some ⟨g,0,none⟩) 2 ac xx))(ho:w.ownsRow 0 201 3 (xa (some ⟨g,0,none⟩) 2 ac) 2 (gM [x,y]))(hx:x.k=2)(hy:y.k=2)(hn:4<=gW r.word.s.toList/\gW r.word.s.toList<=11)(hz:∀t∈[x,y],t.s.size<=400):
  Calls prog 118 #[xk (some ⟨kb,0,none⟩)] w λe w'=>xV w w' r.word.s [x,y] (jg (gW r.word.s.toList) x.s y.s 0) e:=by
 have aH:=fy hz;clear hz;obtain⟨-,ar⟩:=oK (L:=[x,y]) ho;obtain⟨g',aI,aJ,ax,ai⟩:=ar zp;cases aI;have HCUR:=fy ai;have az:=dK hk;have hgl:g<w.heap.size:=by obtain⟨cur,h1,_⟩:=ai;exact dK h1
 unfold ny at hk;have kc:=EQ hk;have e3:((x.k:Int)==3)=false:=iL (c:=3) zo;have f3:((y.k:Int)==3)=false:=iL (c:=3) zo;have HN:=fy hn;clear hx hn hy;clear ar ai aJ ax;go_in;go_wp2
 go_loopw [4,14] (λtm i wr=>∃(z:Int)(p0 p1:TX)(tv:Int),i=xd xh z/\tm=xd xh tv/\XL w wr/\wr.heap[w.heap.size]?=some (xi #[xj ⟨#[]⟩,xa none 0 0,xk none] 144 (0,0))/\wr.heap[w.heap.size+1]?=some (xi #[xk p0,xk p1] 257 (0,0))/\((z=0/\tv=0)\/(z=1/\tv=0/\Pi wr (ia x.s) p0)\/(z=2/\tv=0/\Pi wr (ia x.s) p0/\Pi wr (ia y.s) p1))) (λ_ i _=>(2-intOf i).toNat)
 .exact zm55
 clear kc;obtain⟨z,p0,p1,tv,rfl,rfl,hbel,hrb,hab,aK⟩:=hrel;have aM:=hbel.size;have hrl:=dK hrb;have hal:=dK hab;have au:=(hbel.block _ az).trans hk;have aA:kb<wr.heap.size:=zo;have hgl2:g<wr.heap.size:=zo;unfold ny at au;have kc:=EQ au;have abc:=EQ hab;have abf:=gh hab;have hcr:∃cur,wr.heap[g]?=some (xi cur 201 (0,0))/\cur.toList.take ([x,y].length*3)=gM [x,y]:=by
  exact zm98
 clear au;rcases aK with⟨rfl,rfl⟩|⟨rfl,rfl,hG0⟩|⟨rfl,rfl,hG0,hG1⟩
 .exact zm32
 .skip
  obtain⟨c0,c1,c2⟩:=mZ (j:=1) hcr rfl;clear hcr;go_wp2_with fail;refine(oh).mono ?_;rintro e w3 ⟨v,rfl,hv,hb3⟩;have HV:=hv 0;have hrb3:=(hb3.block w.heap.size zs).trans ((XD hrl).trans hrb);have hab3:=(hb3.block (w.heap.size+1) zs).trans ((XD hal).trans hab);have HB3:=(hbel.alloc zo _).trans (hb3.mono zs);have aG:=hG0.later (gC.trans (hb3.mono zp));have hal3:=dK hab3;clear abc abf;have abc:=EQ hab3;have abf:=gh hab3;clear hv hb3 c0 c1 c2;go_wp2
  go_roundw
  .exact⟨2,p0,v,0,by first|rfl|go_num,rfl,HB3.setCell (by show w.heap.size<=w.heap.size+1;omega) _,(XE (by show w.heap.size≠w.heap.size+1;omega)).trans hrb3,gj hab3 1 _,Ro (Ro ⟨rfl,rfl,xL hab3 zd aG,xL hab3 zd HV⟩)⟩
  simp[intOf]
 have ae:=fy hG0;have ag:=fy hG1;clear hG0 hG1;clear abc abf hcr;go_wp2_with fail;refine(tf).mono ?_;rintro e w2 ⟨I,b,hbb,aD,hcase⟩;obtain⟨aB,rfl⟩:gW r.word.s.toList<=11/\e=_:=by
  exact zm113
 have aj:=(I.block _ aA).trans ((hbel.block _ az).trans hk);have aq:=(I.block _ hrl).trans hrb;have ak:=(I.block _ hal).trans hab;have av:=hbel.trans (I.mono aM);have ae:=fy (ae.out.later I);have ag:=fy (ag.out.later I);clear I aD hcase kc;have hkl3:=dK aj;have aC:=dK aq;have hal3:=dK ak;unfold ny at aj;have kc:=EQ aj;have abc:=EQ ak;generalize hNo:gW r.word.s.toList=no at *;have HNOE:=fy hNo;clear hNo;go_wp2_with fail;refine R' (S:=λw'=>w'.cell? ⟨kb,1,none⟩=some (xj r.word.s)/\w'.cell? ⟨kb,3,none⟩=some (xa (some ⟨g,0,none⟩) 2 ac)/\w'.cell? ⟨w2.heap.size,2,none⟩=some (.func (.func (kP no)) #[] #[])/\w'.cell? ⟨w.heap.size+1,0,none⟩=some (xk p0)/\w'.cell? ⟨w.heap.size+1,1,none⟩=some (xk p1)) zk ?_ (λhHeld=>?_)
 .exact zm34
 apply zt1 0 (xk (some ⟨kb,0,none⟩)) hHeld;apply zt1 1 (xk (some ⟨kb,0,none⟩)) hHeld;apply zt1 2 (xk (some ⟨kb,0,none⟩)) hHeld;apply zt1 3 (xk (some ⟨kb,1,none⟩)) hHeld;apply zt1 4 (xj r.word.s) hHeld;apply zt1 5 (xk (some ⟨kb,0,none⟩)) hHeld;apply zt1 6 (xk (some ⟨kb,0,none⟩)) hHeld;apply zt1 7 (xk (some ⟨kb,3,none⟩)) hHeld;apply zt1 8 (xa (some ⟨g,0,none⟩) 2 ac) hHeld;apply zt1 10 (xk (some ⟨w2.heap.size,2,none⟩)) hHeld;apply zt1 11 (.func (.func (kP no)) #[] #[]) hHeld;apply zt1 12 (xk (some ⟨w.heap.size+1,0,none⟩)) hHeld;apply zt1 13 (xk p0) hHeld;apply zt1 14 (xk (some ⟨w.heap.size+1,1,none⟩)) hHeld;apply zt1 15 (xk p1) hHeld;apply zt1 16 (xd xh (0:Int)) hHeld;apply zrH 9;intro K hK;go_simp;refine(si (gq (tF ho av) (gC.drew)) zp aH.out).mono ?_;rintro e w6 ⟨v6,rfl,U,J⟩;obtain⟨o6,n6,k6,aL⟩:=oJ U;subst aL;have aw:w6.cell? ⟨kb,1,none⟩=some (xj r.word.s)/\w6.cell? ⟨kb,3,none⟩=some (xa (some ⟨g,0,none⟩) 2 ac)/\w6.cell? ⟨w2.heap.size,2,none⟩=some (.func (.func (kP no)) #[] #[])/\w6.cell? ⟨w.heap.size+1,0,none⟩=some (xk p0)/\w6.cell? ⟨w.heap.size+1,1,none⟩=some (xk p1):=
  ⟨(Fd J _ _ zs).trans hHeld.1,(Fd J _ _ zs).trans hHeld.2.1,(Fd J _ _ zp).trans hHeld.2.2.1,(Fd J _ _ zs).trans hHeld.2.2.2.1,(Fd J _ _ zs).trans hHeld.2.2.2.2⟩
 refine hK.out _ _ aw (λhHeld=>?_);clear hK K aw;have aa:=((Uo w2.heap.size w2).alloc (XH) (xi #[xj (sZ no),xa (some ⟨mO b no,0,none⟩) (jY no) (jY no),.func (.func (kP no)) #[] #[]] 265)).drew.trans (J.mono zp);have ae:=ae.out.later aa;have ag:=ag.out.later aa;have hrb6:=(aa.block _ aC).trans aq;have HB6:=av.trans (aa.mono zo);have HO6:=im U (show w.heap.size<=_ from zs);have hrl6:=dK hrb6;have hz6:=aa.size;clear J U aa;have cf:=Cd aB;apply zrH 17;intro K hK;go_simp;refine(vA aB y.s (n:=0) ae (λ_=>ag) zp).mono ?_;rintro e w7 ⟨p7,rfl,hG7,hb7⟩;have hS7:w7.cell? ⟨kb,1,none⟩=some (xj r.word.s)/\w7.cell? ⟨kb,3,none⟩=some (xa (some ⟨g,0,none⟩) 2 ac)/\w7.cell? ⟨w2.heap.size,2,none⟩=some (.func (.func (kP no)) #[] #[])/\w7.cell? ⟨w.heap.size+1,0,none⟩=some (xk p0)/\w7.cell? ⟨w.heap.size+1,1,none⟩=some (xk p1):=
  ⟨(Fd hb7 _ _ zo).trans hHeld.1,(Fd hb7 _ _ zo).trans hHeld.2.1,(Fd hb7 _ _ (Q' _ _ hHeld.2.2.1)).trans hHeld.2.2.1,(Fd hb7 _ _ zo).trans hHeld.2.2.2.1,(Fd hb7 _ _ zo).trans hHeld.2.2.2.2⟩
 exact zm4
def vF(r:Rl):Prop:=
 (gW r.word.s.toList<=1/\∃x,r.args=[x]/\x.k=2)\/
 ((2<=gW r.word.s.toList/\gW r.word.s.toList<=3)/\∃x y,r.args=[x,y]/\x.k=2/\y.k=3/\∃d:UInt8,y.s=⟨#[d]⟩/\48<=d.toNat/\d.toNat<=57)\/
 ((4<=gW r.word.s.toList/\gW r.word.s.toList<=11)/\∃x y,r.args=[x,y]/\x.k=2/\y.k=2)
def Bh(w:Uc)(r:Rl)(hk:w.heap[kb]?=some (ny r.word ao an ac xx))(ho:w.ownsRow 0 201 3 (xa ao an ac) r.args.length (gM r.args))(hc:r.call=true)(h:vF r)(hz:∀t∈r.args,t.s.size<=400):
  Calls prog 118 #[xk (TT kb)] w λe w'=>xV w w' r.word.s r.args (gO r) e:=by
 obtain⟨J,U⟩:=oK ho;unfold gO;rw[Uh hc];rcases h with⟨hn,x,ha,hx⟩|⟨hn,x,y,ha,hx,hy,d,hd,hd1,hd2⟩|⟨hn,x,y,ha,hx,hy⟩
 .obtain⟨g,hg,_⟩:=U za;subst hg;rw[ha] at ho J|-;have I:=J;subst I;rw[Me hn 0];exact DU w r g x hk ho hx hn (ha▸hz)
 .obtain⟨g,hg,_⟩:=U za;subst hg;rw[ha] at ho J|-;have I:=J;subst I;have aa:lW (lP [x,y] 1)=d.toNat-48:=by show lW y.s=_;rw[hd];rfl
  rw[aa,Mf hn];exact DV w r g x y hk ho d hx hy hd hd1 hd2 hn (ha▸hz)
 obtain⟨g,hg,_⟩:=U za;subst hg;rw[ha] at ho J|-;have I:=J;subst I;rw[JS hn 0];exact DW w r g x y hk ho hx hy hn (ha▸hz)
def KB(w w':Uc):Prop:=∀(b:Nat)(c:T1)(ty:Nat)(m:T3),w.heap[b]?=some (xi c ty m)->(ty=9\/ty=270)->w'.heap[b]?=some (xi c ty m)
theorem KB.trans(h:KB w w1)(h':KB w1 w2):KB w w2:=by grind[KB]
def KB.below(h:XL w w'):KB w w':=λb _ _ _ I _=>(h.block b (dK I)).trans I
theorem KB.grown{row:Ua}(h:w.grownBy w' row)(hr:∀k,row=some k->¬ Q2 w k 9/\¬ Q2 w k 270):KB w w':=λb c ty m I ht=>
 (h.block b (dK I) (by
  intro e;obtain⟨J,U⟩:=hr b e.symm;rcases ht with rfl|rfl
  .exact J ⟨c,m,I⟩
  exact U ⟨c,m,I⟩)).trans I
theorem KB.set{b ty:Nat}{c:T1}(hb:w.heap[b]?=some (xi c ty m))(h1:ty≠9)(h2:ty≠270)(o:Nat)(v:Ud):KB w (w.setCell (TU b o) v):=by grind[KB.grown,gp,sj]
def KB.row{base:Nat}{v:Ud}(ho:w.ownsRow base 144 3 v n xs)(hg:w.grownBy w' v.ownBlock):KB w w':=
 KB.grown hg (λk e=>by
  obtain⟨_,c,m,I⟩:=rE ho e;exact⟨sj I zp,sj I zp⟩)
def KB.owns(h:KB w w'){base:Nat}{v:Ud}(ho:w.ownsRow base 9 size v n xs):w'.ownsRow base 9 size v n xs:=by
 exact zm109
def KB.isG(h:KB w w'){v:TX}(hf:Pi w f v):Pi w' f v:=
 hf.keep (λb c m I=>(h b c _ m I (Ro rfl)).trans I.symm)
def Tm(w:Uc)(r:Rl)(wd:Ub)(ao:TX)(an ac:Nat)(p:TX):Prop:=
 Pi w (gO r) p/\(if r.call=true then wd=r.word.s/\w.ownsRow 0 9 1 (xa ao an ac) r.args.length (kp r.args) else wd=ByteArray.empty)
def Tm.keep(h:KB w w'){r:Rl}(hr:Tm w r wd ao an ac p):Tm w' r wd ao an ac p:=by
 obtain⟨J,I⟩:=hr;refine⟨h.isG J,?_⟩;by_cases hc:r.call=true
 .rw[Uh hc] at I|-;exact⟨I.1,h.owns I.2⟩
 rw[T' hc] at I|-;omega
def SI(w:Uc):T6->TW->Prop
 |[],cs=>cs=[]
 |r::rs,cs=>∃wd ao an ac p rest,cs=xj wd:: xa ao an ac:: xk p::rest/\Tm w r wd ao an ac p/\SI w rs rest
def SI.keep(h:KB w w'):∀{rs:T6} {cs:TW},SI w rs cs->SI w' rs cs
 |[],_,h1=>h1
 |_::_,_,⟨wd,ao,an,ac,p,rest,e,hr,hrs⟩=>⟨wd,ao,an,ac,p,rest,e,hr.keep h,SI.keep h hrs⟩
theorem SI.snoc:∀{rs:T6} {cs:TW} {r:Rl} {wd:Ub} {ao:TX} {an ac:Nat} {p:TX},SI w rs cs->Tm w r wd ao an ac p->SI w (rs++[r]) (cs++[xj wd,xa ao an ac,xk p]):=by intro I;induction I<;>grind[SI,Tm]
def SI.at:∀{rs:T6} {cs:TW} (k:Nat) {r:Rl} {rr:T6},SI w rs cs->rs.drop k=r::rr->∃wd ao an ac p,cs[k*3]?=some (xj wd)/\cs[k*3+1]?=some (xa ao an ac)/\cs[k*3+2]?=some (xk p)/\Tm w r wd ao an ac p
 |[],_,_,_,_,_,h=>by simp at h
 |_::_,_,0,_,_,⟨wd,ao,an,ac,p,rest,e,h1,_⟩,h=>by cases h;subst e;exact⟨wd,ao,an,ac,p,rfl,rfl,rfl,h1⟩
 |_::_,_,k+1,_,_,⟨_,_,_,_,_,rest,e,_,h2⟩,h=>by
  obtain⟨wd,ao,an,ac,p,g0,g1,g2,g3⟩:=SI.at k h2 (by simpa using h);subst e;have e0:(k+1)*3=k*3+3:=zo;refine⟨wd,ao,an,ac,p,?_,?_,?_,g3⟩
  .simp_all
  .simp_all
  simp_all
def Tryz.infoRu:(prog.info? 144).map (λi=>(i.zero,i.size,i.bytes))=some (some (.agg #[xj ⟨#[]⟩,TV,xk none]),3,48):=zk
def OA(w w':Uc)(al:TY)(rs:T6)(e:Ending):Prop:=
 XL w w'/\∃a1 a2 a3 m1 m2 m3 cells,e=xm (.agg #[xa a1 a2 a3,xa m1 m2 m3])/\w'.ownsRow 0 9 1 (xa a1 a2 a3) al.length (kp al)/\w'.ownsRow 0 144 3 (xa m1 m2 m3) rs.length cells/\SI w' rs cells
structure BS(w wr:Uc)(mb:Nat)(al:TY)(rs:T6)(a1:TX)(a2 a3:Nat)(o1:TX)(n1 k1:Nat)(o2:TX)(n2 k2:Nat)(m1:TX)(m2 m3:Nat)(cells:TW):Prop where
 low:XL w wr
 sx:wr.heap[w.heap.size]?=some (k9 o1 n1 k1 o2 n2 k2)
 rx:wr.heap[w.heap.size+1]?=some (xi #[TV,TV] 78 (0,0))
 mx:wr.heap[mb]?=some (xi #[xa a1 a2 a3,xa m1 m2 m3] 78 (0,0))
 ac:wr.ownsRow w.heap.size 9 1 (xa a1 a2 a3) al.length (kp al)
 ru:wr.ownsRow w.heap.size 144 3 (xa m1 m2 m3) rs.length cells
 bp:SI wr rs cells
def BS.later{cells:TW}(h:BS w wr mb al rs a1 a2 a3 o1 n1 k1 o2 n2 k2 m1 m2 m3 cells)(I:XL wr wr'):BS w wr' mb al rs a1 a2 a3 o1 n1 k1 o2 n2 k2 m1 m2 m3 cells:=
 ⟨h.low.trans (I.mono h.low.size),(I.block _ (dK h.sx)).trans h.sx,(I.block _ (dK h.rx)).trans h.rx,(I.block _ (dK h.mx)).trans h.mx,gq h.ac I,gq h.ru I,h.bp.keep (KB.below I)⟩
def BS.add{cells:TW}(h:BS w wr mb al rs a1 a2 a3 o1 n1 k1 o2 n2 k2 m1 m2 m3 cells)
  (hmb:w.heap.size+1<mb){r:Rl}(hr:Tm wr r wd ao an ac p)(hg:wr.grownBy w2 (xa m1 m2 m3).ownBlock)(ho:w2.ownsRow w.heap.size 144 3 (xa q1 q2 q3) (rs.length+1) (cells++[xj wd,xa ao an ac,xk p])):
  BS w (w2.setCell (TU mb 1) (xa q1 q2 q3)) mb al (rs++[r]) a1 a2 a3 o1 n1 k1 o2 n2 k2 q1 q2 q3 (cells++[xj wd,xa ao an ac,xk p]):=by
 have J:=(hg.block mb (dK h.mx) (λe=>gz h.ru e.symm h.mx zp)).trans h.mx;have I:KB wr (w2.setCell (TU mb 1) (xa q1 q2 q3)):=(KB.row h.ru hg).trans (KB.set J zp zp _ _);refine⟨(h.low.grown hg h.low.size (λk U=>(gJ h.ru k U).1)).setCell (by show w.heap.size<=mb;omega) _,?_,?_,gj J 1 _,I.owns h.ac,?_,SI.snoc (h.bp.keep I) (hr.keep I)⟩
 .exact(XE (by show w.heap.size≠mb;omega)).trans ((hg.block _ (dK h.sx) (λe=>gz h.ru e.symm h.sx zp)).trans h.sx)
 .exact(XE (by show w.heap.size+1≠mb;omega)).trans ((hg.block _ (dK h.rx) (λe=>gz h.ru e.symm h.rx zp)).trans h.rx)
 rw[Ur];exact gy ho (gp _ _ _ _) (Ro (λe=>gz ho e J zp))
def Im{cells:TW}(ha:w.ownsRow 0 201 3 (xa o1 n1 k1) al.length (gM al))(hr:w.ownsRow 0 205 6 (xa o2 n2 k2) rs.length cells)(hp:Q8 w rs cells)(hg:∀r∈rs,r.call=true->vF r)(a8:al.length<=401)(J:rs.length<=401)(aT:∀t∈al,t.s.size<=400)(aU:∀r∈rs,∀t∈r.args,t.s.size<=400):
  Calls prog 71 #[.agg #[xa o1 n1 k1,xa o2 n2 k2]] w λe w'=>OA w w' al rs e:=by
 obtain⟨m0,hm0,hmz0,hmz1,hmz2⟩:=Uk Tryz.infoRu;obtain⟨bd,av⟩:=Fs hr;have hn2a:n2<=rs.length:=zo;have hn2b:rs.length<=n2:=zo;have aY:=fy aT;have a6:=fy aU;clear aT aU;have aC:=fy av;have aW:=fy hg;clear hr hg bd av;go_in;go_wp2_with fail;refine(si (gq ha (gC.alloc zp _)) a8 aY.out).mono ?_;rintro e w1 ⟨v1,rfl,ag,az⟩;obtain⟨a1,a2,a3,bg⟩:=oJ ag;subst bg;have ax:w1.heap[w.heap.size]?=some (k9 o1 n1 k1 o2 n2 k2):=(az.block _ zs).trans ((XD zp).trans (gi _ _));have aw:w1.heap[w.heap.size+1]?=some (xi #[TV,TV] 78 (0,0)):=(az.block _ zp).trans (gu zp);have au:=(gC.alloc zp _).trans (az.mono zs);have hmb:=dK aw;have aH:Hid (BS w (w1.alloc (xi #[xa a1 a2 a3,TV] 78)) w1.heap.size al [] a1 a2 a3 o1 n1 k1 o2 n2 k2 none 0 0 []):=
  ⟨au.alloc zo _,(XD zo).trans ax,(XD hmb).trans aw,gi _ _,(im ag zs).alloc _,XG,rfl⟩
 have hsl1:w.heap.size<w1.heap.size:=zo;have sc:=λo=>EQ (show w1.heap[w.heap.size]?=some (xi #[xa o1 n1 k1,xa o2 n2 k2] 128 (0,0)) from ax) o
 clear ag az ax aw au;generalize hmbe:w1.heap.size=mb at *;go_wp2_with fail;clear sc;subst hmbe
 go_loopw [13] (λi wr=>∃(k:Nat)(m1:TX)(m2 m3:Nat)(cs:TW),i=xd xh (k:Int)/\k<=rs.length/\BS w wr w1.heap.size al (rs.take k) a1 a2 a3 o1 n1 k1 o2 n2 k2 m1 m2 m3 cs) (λi _=>rs.length-(intOf i).toNat)
 .exact⟨0,none,0,0,[],rfl,Ux,aH.out⟩
 clear aH;obtain⟨k,m1,m2,m3,cs,rfl,hkk,hbs⟩:=hrel;have aR:=hbs.low.size;have hml:=dK hbs.mx;have mc:=EQ hbs.mx;have mf:=gh hbs.mx;generalize w1.heap.size=mb at *;by_cases hlt:k<rs.length
 .obtain⟨r,rr,ht⟩:∃r rr,rs.drop k=r::rr:=by
   cases hd:rs.drop k with
   |nil=>have:=congrArg List.length hd;simp at this;omega
   |cons r rr=>simp
  obtain⟨g,bf,hle,aJ,cur,aD,aa⟩:=aC.out zo;unfold maxLen at aJ;have aM:=dK aD;obtain⟨kk,s,fp,no,nn,nc,cp,g0,g1,g2,g3,g4,g5,g6⟩:=vp k hp ht;have ae:=(hbs.low.block _ aM).trans aD;have d0:=(EQ ae (k*6)).trans (Q0 (k:=k*6) (o:=0) aa zo g0);have d1:=(EQ ae (k*6+1)).trans (Q0 aa zo g1);have d2:=(EQ ae (k*6+2)).trans (Q0 aa zo g2);have d3:=(EQ ae (k*6+3)).trans (Q0 aa zo g3);have d4:=(EQ ae (k*6+4)).trans (Q0 aa zo g4);have d5:=(EQ ae (k*6+5)).trans (Q0 aa zo g5);have hgl:g<wr.heap.size:=zo;subst bf;have ak:=hbs.low;have HTS:=fy (oO ht);have aQ:(rs.take k).length=k:=zs;have HTL:=fy aQ;have bc:(k:Int)<(n2:Int):=zo;have aX:=fy (aW.out r (Vk (by rw[ht];simp)));have a7:=fy (a6.out r (Vk (by rw[ht];simp)));clear ht aD aa ae cur g0 g1 g2 g3 g4 g5 aQ;by_cases hcall:r.call=true
  .have J:=g6;unfold R4 at J;rw[Uh hcall] at J;obtain⟨⟨kb,ao,an,ac,xx,aE,aF,bj,aI⟩,-⟩:=J;subst aE;have aG:=fy (λW (hW:XL w W)=>Bh W r ((hW.block _ (dK aF)).trans aF) (gq aI hW) hcall (aX.out hcall) a7.out);have aj:=fy hcall;clear aF bj aI hcall;go_wp2_with fail;refine R' (S:=λw'=>w'.cell? (TU wr.heap.size 5)=some (xk (TT kb))) zk ?_ (λhHeld=>?_)
   .simp
   apply zt1 0 (xk (some (TU mb 1))) hHeld;apply zt1 2 (xk (some (TU wr.heap.size 5))) hHeld;apply zt1 3 (xk (TT kb)) hHeld;refine zrH2 1 4 (λK hK=>?_) λK hK=>?_
   .go_simp;refine hK.out _ _ hHeld (λhHeld=>?_);clear hK K;apply zrH 4;intro K hK;go_simp;refine(aG.out _ ((ak.alloc aR _).drew)).mono ?_;rintro e w3 ⟨U,co,cn,cc,cp3,rfl,I,aq⟩;refine hK.out _ _ ((Fd U _ _ zp).trans hHeld) (λhHeld=>?_);clear hK K;have ar:=((Uo wr.heap.size wr).alloc (XH) (xi #[xd xh kk,xj s,xd xh r.pl,xk fp,xa no nn nc,xk (TT kb)] 205)).drew.trans (U.mono zp);have hbs3:=hbs.later ar;have mc3:=EQ hbs3.mx;have hml3:=dK hbs3.mx;have HBR3:Hid (Tm w3 r r.word.s co cn cc cp3):=⟨aq,by rw[Uh aj.out];exact⟨rfl,im I (Ux)⟩⟩;have aS:=hbs3.low.size;have ai:wr.heap.size<w3.heap.size:=Q' _ _ hHeld;clear U I aq ar mc mf;apply zrH 5;intro K hK;go_simp;refine hK.out _ _ (by show(Ry _ _).cell? _=_;rw[XJ ai];exact hHeld) (λhHeld=>?_);clear hK K;exact zm5
   go_simp;refine(aG.out _ ((ak.alloc aR _).drew)).mono ?_;rintro e w3 ⟨U,co,cn,cc,cp3,rfl,I,aq⟩;refine hK.out _ _ ((Fd U _ _ zp).trans hHeld) (λhHeld=>?_);clear hK K;have ar:=((Uo wr.heap.size wr).alloc (XH) (xi #[xd xh kk,xj s,xd xh r.pl,xk fp,xa no nn nc,xk (TT kb)] 205)).drew.trans (U.mono zp);have hbs3:=hbs.later ar;have mc3:=EQ hbs3.mx;have hml3:=dK hbs3.mx;have HBR3:Hid (Tm w3 r r.word.s co cn cc cp3):=⟨aq,by rw[Uh aj.out];exact⟨rfl,im I (Ux)⟩⟩;have aS:=hbs3.low.size;have ai:wr.heap.size<w3.heap.size:=Q' _ _ hHeld;clear U I aq ar mc mf;refine zrH2 1 5 (λK hK=>?_) λK hK=>?_
   .go_simp;refine hK.out _ _ hHeld (λhHeld=>?_);clear hK K;apply zrH 5;intro K hK;go_simp;refine hK.out _ _ (by show(Ry _ _).cell? _=_;rw[XJ ai];exact hHeld) (λhHeld=>?_);clear hK K;exact zm5
   go_simp;refine hK.out _ _ (by show(Ry _ _).cell? _=_;rw[XJ ai];exact hHeld) (λhHeld=>?_);clear hK K;apply SR 1 hHeld;intro hHeld;exact zm5
  have J:=g6;unfold R4 at J;rw[T' hcall] at J;obtain⟨aE,aK,-⟩:=J;subst aE;have HBR3:Hid (Tm wr r ⟨#[]⟩ none 0 0 fp):=⟨by unfold gO;rw[T' hcall];exact aK.later ak,by rw[T' hcall];rfl⟩;clear aK hcall
  go_wp2_with (at_builtin;go_must (refine U0 _ rfl _ _ 76 rfl w.heap.size 144 m0 (.agg #[xj ⟨#[]⟩,TV,xk none]) 3 48 underlying76 hm0 hmz0 hmz1 hmz2 rfl zd _ k cs rfl ?c0 (TU (wr.heap.size+1) 0) 1 1 [xj ⟨#[]⟩,TV,xk fp] rfl rfl ?c1 ?c2 ?c3 ?c4 ?c5 ?_))
  case c0=>have:=(hbs.ru.alloc (xi #[xd xh kk,xj s,xd xh r.pl,xk fp,xa no nn nc,xk none] 205)).alloc (xi #[xj ⟨#[]⟩,TV,xk fp] 144);rw[HTL.out] at this;exact this
  case c1=>
   intro j u hj
   match j,hj with
   |0,hj=>simp at hj;subst hj;simp[RA]
   |1,hj=>simp at hj;subst hj;simp[RA]
   |2,hj=>simp at hj;subst hj;simp[RA]
   |j+3,hj=>simp at hj
  case c2=>intro u hu;simp at hu;rcases hu with rfl|rfl|rfl<;>rfl
  case c3=>unfold maxLen;omega
  case c4=>omega
  case c5=>simp;omega
  intro v4 w4 hown4 hgrow4 _;obtain⟨q1,q2,q3,bh⟩:=oJ hown4;subst bh;have hbs3:=hbs.later (((XF).alloc (XH) (xi #[xd xh kk,xj s,xd xh r.pl,xk fp,xa no nn nc,xk none] 205)).alloc zp (xi #[xj ⟨#[]⟩,TV,xk fp] 144));have hbs4:=hbs3.add hmb (HBR3.out.keep (KB.below (gC.alloc zp _))) hgrow4 (by rw[HTL.out];exact hown4);have hm4:=(hgrow4.block mb zs (λe=>gz hbs3.ru e.symm hbs3.mx zp)).trans hbs3.mx;clear mc mf;have mc4:=EQ hm4;have mf4:=gh hm4;have hml4:=dK hm4;clear hbs3 hown4 hgrow4 hm4;go_wp2
  go_roundw
  .exact⟨k+1,_,_,_,_,by go_num,zo,by rw[HTS.out];exact hbs4⟩
  simp[intOf];omega
 have ba:rs.length<=k:=zo;have bc:¬ (k:Int)<(n2:Int):=zo;have aB:Hid (BS w wr mb al rs a1 a2 a3 o1 n1 k1 o2 n2 k2 m1 m2 m3 cs):=by have:=hbs;rw[UF ba] at this;exact this
 have rc:=EQ hbs.rx;have rf:=gh hbs.rx;have hrl:=dK hbs.rx;go_wp2_with fail;have hb:=aB.out;have aL:((wr.setCell (TU (w.heap.size+1) 0) (xa a1 a2 a3)).setCell (TU (w.heap.size+1) 1) (xa m1 m2 m3)).heap[w.heap.size+1]?=some (xi #[xa a1 a2 a3,xa m1 m2 m3] 78 (0,0)):=gj (gj hb.rx 0 _) 1 _;have bm:=EQ aL;clear rc;refine py (v:=.agg #[xa a1 a2 a3,xa m1 m2 m3]) (by simp[results,results71,go_sem,bm]) rfl ?_;have aN:=(KB.set hb.rx zp zp 0 (xa a1 a2 a3)).trans (KB.set (gj hb.rx 0 (xa a1 a2 a3)) zp zp 1 (xa m1 m2 m3));have aO:(xa m1 m2 m3).ownBlock≠some (w.heap.size+1):=λe=>gz hb.ru e hb.rx zp
 exact⟨(hb.low.setCell zp _).setCell zp _,a1,a2,a3,m1,m2,m3,cs,rfl,im (aN.owns hb.ac) (Ux),im (gy (gy hb.ru (gp _ _ _ _) (Ro aO)) (gp _ _ _ _) (Ro aO)) (Ux),hb.bp.keep aN⟩
set_option maxRecDepth 1000000 in
def xS(Q:Tk->Prop):∀(f:Fm)(w:Uc)(p:TX),Pi w f p->Fg Q f->(mg f).size<=1000000->SS w->
  Calls prog 122 #[xk p] w λe w'=>e=xm (xj (mg f))/\∃n,w'=w.drewN n
 |.nil,w,p,_,hf,_,_=>False.elim hf
 |.node u v a l r,w,p,h,hf,hz,hG=>by
  obtain⟨b,pl,pr,rfl,hb,hl,hr⟩:=h;have hzl:(mg l).size<=1000000/\(mg r).size<=1000000:=by
   exact zm42
  obtain⟨hzl,hzr⟩:=hzl;clear hz;have IHL:=fy (xS Q l);have IHR:=fy (xS Q r);obtain⟨gt,gm,hg⟩:=hG.fs;have hgl:=dK hg;have hbl:=dK hb;obtain⟨k,s,q⟩:=a;rcases hf with⟨hk,_,rfl,rfl⟩|⟨hk,rfl,rfl⟩|⟨hk,hfl,rfl⟩|⟨hk,hfl,hfr⟩
  .have I:k=0:=hk;subst I;have hb0:w.heap[b]?=some (xi #[xd xh 0,xj s,xk pl,xk pr] 270 (0,0)):=hb;have J:=EQ hb0;clear hb hb0 hg;exact zm79
  .have I:k=1\/k=2\/k=3:=by have:=hk;simp at this;omega
   rcases I with rfl|rfl|rfl
   .have hb0:w.heap[b]?=some (xi #[xd xh 1,xj s,xk pl,xk pr] 270 (0,0)):=hb;have J:=EQ hb0;have fc:w.cell? (TU 0 1)=some (xj ⟨#[116,114,117,101]⟩):=EQ hg 1;clear hb hb0 hg;exact zm79
   .have hb0:w.heap[b]?=some (xi #[xd xh 2,xj s,xk pl,xk pr] 270 (0,0)):=hb;have J:=EQ hb0;have fc:w.cell? (TU 0 2)=some (xj ⟨#[102,97,108,115,101]⟩):=EQ hg 2;clear hb hb0 hg;exact zm79
   have hb0:w.heap[b]?=some (xi #[xd xh 3,xj s,xk pl,xk pr] 270 (0,0)):=hb;have J:=EQ hb0;have fc:w.cell? (TU 0 3)=some (xj ⟨#[101,110,100]⟩):=EQ hg 3;clear hb hb0 hg;exact zm79
  .skip
   have I:k=4\/k=5\/k=6\/k=7\/k=8:=by have:=hk;simp at this;omega
   clear hk;rcases I with rfl|rfl|rfl|rfl|rfl
   .have hb0:w.heap[b]?=some (xi #[xd xh 4,xj s,xk pl,xk pr] 270 (0,0)):=hb;have J:=EQ hb0;have fc:w.cell? (TU 0 4)=some (xj ⟨#[33]⟩):=EQ hg 4;exact zm28
   .have hb0:w.heap[b]?=some (xi #[xd xh 5,xj s,xk pl,xk pr] 270 (0,0)):=hb;have J:=EQ hb0;have fc:w.cell? (TU 0 5)=some (xj ⟨#[88]⟩):=EQ hg 5;exact zm28
   .have hb0:w.heap[b]?=some (xi #[xd xh 6,xj s,xk pl,xk pr] 270 (0,0)):=hb;have J:=EQ hb0;have fc:w.cell? (TU 0 6)=some (xj ⟨#[78]⟩):=EQ hg 6;exact zm28
   .have hb0:w.heap[b]?=some (xi #[xd xh 7,xj s,xk pl,xk pr] 270 (0,0)):=hb;have J:=EQ hb0;have fc:w.cell? (TU 0 7)=some (xj ⟨#[70]⟩):=EQ hg 7;exact zm28
   have hb0:w.heap[b]?=some (xi #[xd xh 8,xj s,xk pl,xk pr] 270 (0,0)):=hb;have J:=EQ hb0;have fc:w.cell? (TU 0 8)=some (xj ⟨#[71]⟩):=EQ hg 8;exact zm28
  skip
  have I:k=9\/k=10\/k=11\/k=12:=by have:=hk;simp at this;omega
  clear hk;rcases I with rfl|rfl|rfl|rfl
  .have hb0:w.heap[b]?=some (xi #[xd xh 9,xj s,xk pl,xk pr] 270 (0,0)):=hb;have J:=EQ hb0;have fc:w.cell? (TU 0 9)=some (xj ⟨#[85]⟩):=EQ hg 9;exact zm21
  .have hb0:w.heap[b]?=some (xi #[xd xh 10,xj s,xk pl,xk pr] 270 (0,0)):=hb;have J:=EQ hb0;have fc:w.cell? (TU 0 10)=some (xj ⟨#[38]⟩):=EQ hg 10;exact zm21
  .have hb0:w.heap[b]?=some (xi #[xd xh 11,xj s,xk pl,xk pr] 270 (0,0)):=hb;have J:=EQ hb0;have fc:w.cell? (TU 0 11)=some (xj ⟨#[124]⟩):=EQ hg 11;exact zm21
  have hb0:w.heap[b]?=some (xi #[xd xh 12,xj s,xk pl,xk pr] 270 (0,0)):=hb;have J:=EQ hb0;have fc:w.cell? (TU 0 12)=some (xj ⟨#[45,62]⟩):=EQ hg 12;exact zm21
def infoStr:(prog.info? 9).map (λi=>(i.zero,i.size,i.bytes))=some (some (xj ⟨#[]⟩),1,16):=zk
def KV:(prog.info? 9).map (·.size)=some 1:=zk
def Tc:Ud:=xj ⟨#[98,101,121,111,110,100]⟩
structure Sg(w:Uc)(g:Nat)(tr:TZ):Prop where
 blk:∃cur,w.heap[g]?=some (xi cur 9 (0,0))/\cur.size=tr.length+8/\(∀(j:Nat)(x:Ub),tr[j]?=some x->cur[j]?=some (xj x))/\∀(j:Nat),tr.length<=j->j<tr.length+8->cur[j]?=some Tc
def Sg.later{g:Nat}(h:Sg w g tr)(U:XL w w'):Sg w' g tr:=by
 obtain⟨cur,I,J⟩:=h.blk;exact⟨⟨cur,(U.block _ (dK I)).trans I,J⟩⟩
def Sg.lt{g:Nat}(h:Sg w g tr):g<w.heap.size:=by
 obtain⟨cur,I,_⟩:=h.blk;exact dK I
theorem Sg.txs{g:Nat}(h:Sg w g tr):So w (TT g) tr:=by
 intro j x hx;obtain⟨cur,h1,_,h3,_⟩:=h.blk
 grind[EQ]
def xQ(tr:TZ):TW:=tr.map λx=>xj x
theorem rK(tr:TZ):(xQ tr).length=tr.length:=by simp[xQ]
theorem Oh(h:tr[j]?=some x):(xQ tr)[j]?=some (xj x):=by grind[xQ]
theorem L6{v:Ud}(h:(xQ tr)[j]?=some v):∃x,tr[j]?=some x/\v=xj x:=by
 grind[xQ]
def MD(w:Uc)(ad:Addr)(n c:Nat):(binOp .eql 25 (xa (some ad) n c) TV).run prog w=.ok (xn false) w:=Wa w _ _ _ underlying25
def Co(w:Uc):(binOp .eql 25 TV TV).run prog w=.ok (xn true) w:=Wg w _ _ underlying25
theorem Bp(w:Uc)(c:Nat)(hT:So w (some ad) tr)(hn:tr.length<=8796093021952):
  Calls prog 94 #[xa (some ad) tr.length c] w λe w'=>∃g,e=xm (xa (TT g) tr.length (tr.length+8))/\w.heap.size<=g/\Sg w' g tr/\XL w w':=by
 obtain⟨i0,aq,av,aw,ax⟩:=Uk infoStr;have he:=λW:Uc=>MD W ad tr.length c
 go_in
 go_wp2_with (at_make;go_must (refine Wx _ rfl _ _ 25 rfl w.heap.size 9 i0 (xj ⟨#[]⟩) 1 underlying25 aq av aw xh xh _ _ (tr.length+8) rfl rfl (by first|rfl|omega) (by first|rfl|omega) (by rw[ax];omega) (by unfold maxLen;omega) (XH) ?_))
 intro w1 hown1 I;have aj:∃cur,w1.heap[w.heap.size]?=some (xi cur 9 (0,0))/\cur.size=tr.length+8:=by
  exact zm99
 obtain⟨ai,aa,U⟩:=aj;have ag:Hid (XL w w1):=⟨I.os,I.tape,I.output,I.size,λb hb=>I.block b hb (λe=>by cases e)⟩;have J:=fy U;clear hown1 I U;have ae:∃w2,(Builtin.copy_ #[25,25] 3 #[xa (TT w.heap.size) (tr.length+8) (tr.length+8),xa (some ad) tr.length c]).run prog w1=.ok (xd xh (tr.length:Int)) w2/\XL w w2/\∃cur,w2.heap[w.heap.size]?=some (xi cur 9 (0,0))/\cur.size=tr.length+8/\∀(j:Nat)(x:Ub),tr[j]?=some x->cur[j]?=some (xj x):=by
  have hsz:=J.out;have hr:=run_copy_row (P:=prog) w1 25 25 3 9 w.heap.size 0 (tr.length+8) (tr.length+8) ad tr.length c ai 9 (xQ tr) underlying25 KV aa (by rw[rK];simp)
   (λj v hv=>by
    obtain⟨x,hx,rfl⟩:=L6 hv;obtain⟨b,off,h1,h2,h3⟩:=hT.later ag.out j x hx;cases h1;rw[Vm];omega) (by rw[rK];omega) (λv hv=>by
    obtain⟨x,_,rfl⟩:=List.mem_map.1 hv;rfl)
  refine⟨_,hr.trans (by rw[rK];rfl),below_setRow ag.out (XH) _,_,setRow_heap w1 w.heap.size _ _ _ _ aa,?_,λj x hx=>?_⟩
  .simp[rK];omega
  grind[rK,Oh]
 obtain⟨w2,hrun,hb2,cur2,hc2,hcs2,ak⟩:=ae;have HV2:=fy ak;clear aa J ak;go_wp2
 go_loopw [5] (λx wr=>∃(i:Nat)(cur:T1),tr.length<=i/\i<=tr.length+8/\x=xd xh i/\Hid (wr.heap[w.heap.size]?=some (xi cur 9 (0,0)))/\cur.size=tr.length+8/\Hid (∀(j:Nat)(x:Ub),tr[j]?=some x->cur[j]?=some (xj x))/\Hid (∀(j:Nat),tr.length<=j->j<i->cur[j]?=some Tc)/\Hid (XL w wr)) (λx _=>tr.length+8-(intOf x).toNat)
 .exact zm157
 obtain⟨i,cur,hi1,hi2,rfl,HC,hcs,HV,HY,HB⟩:=hrel;by_cases hil:i<tr.length+8
 .have hin:(i:Int)<(tr.length:Int)+8:=zo;have cc:=(EQ HC.out i).trans (U' zo);have cf:=gh HC.out i;generalize cur[i]=old at *;go_wp2
  go_roundw
  .refine⟨i+1,cur.setIfInBounds i Tc,zo,zo,zf,gj HC.out i _,za,fy (λj x hx=>?_),fy (λj h1 h2=>?_),HB.out.grown (gp _ _ _ _) HB.out.size (λb hb=>za)⟩
   .grind[gQ]
   grind[gQ]
  simp[intOf];omega
 exact zm102
end Go.Proofs.YtidakhhekofkoaaGreatDoor
