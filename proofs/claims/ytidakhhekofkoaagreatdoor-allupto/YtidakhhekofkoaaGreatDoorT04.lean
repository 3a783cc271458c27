import Derived.Test.YtidakhhekofkoaaGreatDoorT03
import Derived.Deep.DeepCutAuto
set_option linter.all false
set_option maxHeartbeats 8000000
set_option maxRecDepth 100000
namespace Go.Proofs
def Vh:=@Go.run_convert_bytes_back
end Go.Proofs
namespace Go.Proofs.YtidakhhekofkoaaGreatDoor
attribute [local go_sem] TT TU TV XL
attribute [local simp] TT TU TV XL
open Go.Proofs.Tryz
open Go.RowKit Go.Deep
open Value renaming slice->xa,int->xd,string->xj,pointer->xk,bool->xn
open IntKind renaming i64->xh
open Obj renaming cells->xi
open Ending renaming returned->xm
open Nat renaming testBit_lt_two_pow->Rs,add_comm->Rw,lt_trichotomy->Rx
open List renaming length->Rn,mem_singleton->Ru,all_eq_true->RA
open Or renaming inr->Rg,inl->Rh
open Addr renaming add->Rp
variable{zq:Prop}
variable{w wr w' W W' w2:Uc}{x y:T3}{o1 o2 o p l1 f1 m1 tt:TX}{n1 k1 n2 k2 n m m' i mb lb l2 l3 f2 f3 m2 m3 ng cg nb tc bg bn bcap ua uc um va vc vm B:Nat}{a b d oa t tr:Int}{args al l' r L:TY}{Q:Tk->Prop}{f:Fm}{rs:T6}{α:Type}{cc:T1}{xs:TW}{out os ot:Ub}{y':Bool}{j:Fin 5}{G H:List Fm}{z':Int->Nat->Bool}
def zm16(h:zq:=by
 go_in;go_wp2_with fail;refine(IHL.out _ _ hl hfl hzl).mono ?_;rintro e w1 ⟨rfl,hb1⟩;have HB1:=(hb1.block b (dK hb)).trans hb;have hz1:b<w1.heap.size:=dK HB1;clear bc;have bc:=EQ HB1;go_wp2_with fail;refine(IHR.out _ _ (hr.later ((hb1.alloc hb1.size _))) hfr hzr).mono ?_;rintro e w2 ⟨rfl,hb2⟩;have HB2:=(hb1.alloc hb1.size _).trans (hb2.mono (by have:=hb1.size;simp;omega));clear hb2;go_wp2;go_ret;exact⟨rfl,HB2⟩
 ):zq:=h
def zm22(h:zq:=by
 go_in;go_wp2_with fail;refine(IHL.out _ _ hl hfl hzl).mono ?_;rintro e w1 ⟨rfl,hb1⟩;have HB1:=(hb1.block b (dK hb)).trans hb;have hz1:b<w1.heap.size:=dK HB1;clear bc;have bc:=EQ HB1;go_wp2;go_ret;exact⟨rfl,hb1.alloc hb1.size _⟩
 ):zq:=h
def zm24(h:zq:=by
 go_wp2;go_quiet (fail);go_wp2_with fail;refine(kA t.p 4 (has4.later (iK _ _)).fbx).mono ?_;rintro e w6 ⟨rfl,hf6,hg6⟩;have H6:=(has4.later (iK _ _)).call hf6 hg6 hfl;clear hf6 hg6;go_wp2
 go_roundw
 .grind[gQ]
 simp[intOf];omega
 ):zq:=h
def zm33(h:zq:=by
 have hum:=hu.len;have hut:=hu.top;have HU:=fy hu.at_;have cu:=HU.out (j+1) zo zo;clear hu;have hvm:=hv.len;have hvt:=hv.top;have HV:=fy hv.at_;have cv:=HV.out (j+1) zo zo;clear hv;cases hb:u (j+1)<;>rw[hb] at cu
 .go_in;go_wp2;go_ret;refine⟨?_,0,rfl⟩;simp[jF,hb]
 go_in;go_wp2;go_ret;refine⟨?_,0,rfl⟩;simp[jF,hb]
 ):zq:=h
def zm42(h:zq:=by
 rw[mg] at hz;rcases hf with⟨hk,_,rfl,rfl⟩|⟨hk,rfl,rfl⟩|⟨hk,hfl,rfl⟩|⟨hk,hfl,hfr⟩
 .exact⟨Ux,Ux⟩
 .exact⟨Ux,Ux⟩
 .rw[T' zo,T' zo,T' zo,T' zo,Uh zo] at hz;simp only[Uu] at hz;exact⟨zo,Ux⟩
 rw[T' zo,T' zo,T' zo,T' zo,T' zo] at hz;simp only[Uu] at hz;omega
 ):zq:=h
def zm61(h:zq:=by
 go_wp2;go_ret;rw[HF.out];exact⟨rfl,rfl⟩
 ):zq:=h
def zm79(h:zq:=by
 go_in;go_wp2;go_ret;exact⟨rfl,0,rfl⟩
 ):zq:=h
def zm95(h:zq:=by
 go_wp2
 go_roundw
 .exact⟨k+1,by go_num,zo,zo,HF,trivial⟩
 simp[intOf];omega
 ):zq:=h
def zm108(h:zq:=by
 rintro e w' ⟨rfl,rfl⟩;go_wp2;go_ret;refine⟨ja ?_,0,rfl⟩;simp[jF]
 ):zq:=h
def zm131(h:zq:=by
 go_wp2;go_quiet (fail);go_wp2
 go_roundw
 .exact⟨i+1,_,zo,zf,has4.later (iK _ _),FOK.out HBA.out⟩
 simp[intOf];omega
 ):zq:=h
def zm169(h:zq:=by
 by_cases h:k<0
 .simp_all
 rw[T' h,T' h,UG];cases R[k.toNat]? <;>rfl
 ):zq:=h
def zm177(h:zq:=by
 have:=tp h3 zo (iC (iC (iC (iC hq))));simp_all
 ):zq:=h
structure AS(w wr:Uc)(fb:Nat)(x:T3)(o1:TX)(n1 k1:Nat)(o2:TX)(n2 k2:Nat)(a b:Int)(s:Ub)(c:Int)(o:TX)(n k:Nat)(d:Int)(p:TX):Prop where
 fbx:FB wr fb x
 mbx:wr.heap[w.heap.size]?=some (xi #[xa o1 n1 k1,xa o2 n2 k2] 228 (0,0))
 rbx:wr.heap[w.heap.size+1]?=some (xi #[xd xh a,xd .u8 b,xj s,xd xh c,xa o n k,xd xh d,xk p] 235 (0,0))
 kt:KT w wr
 gr:w.grownBy wr (some fb)
def AS.later{fb:Nat}{s:Ub}{c:Int}{k:Nat}(h:AS w wr fb x o1 n1 k1 o2 n2 k2 a b s c o n k d p)(I:XL wr w'):AS w w' fb x o1 n1 k1 o2 n2 k2 a b s c o n k d p:=
 ⟨h.fbx.later I,(I.block _ (dK h.mbx)).trans h.mbx,(I.block _ (dK h.rbx)).trans h.rbx,h.kt.trans (KT.below I),h.gr.trans (gE I _)⟩
def AS.call{fb:Nat}{s:Ub}{c:Int}{k:Nat}(h:AS w wr fb x o1 n1 k1 o2 n2 k2 a b s c o n k d p)(hf:FB w' fb y)(hg:wr.grownBy w' (some fb))(hfb:fb<w.heap.size):AS w w' fb y o1 n1 k1 o2 n2 k2 a b s c o n k d p:=
 ⟨hf,(hg.block _ (dK h.mbx) zs).trans h.mbx,(hg.block _ (dK h.rbx) zs).trans h.rbx,h.kt.trans (KT.fb h.fbx hg),h.gr.trans hg⟩
theorem iK(w:Uc):∀n,XL w (w.drewN n)
 |0=>XF
 |n+1=>(iK w n).drew
def L9{s:Ub}(K:Ub){ok:Bool}(J:K=⟨(iD (gW s.toList)).toArray⟩)(I:ok=decide (gW s.toList<=11)):
  Calls prog 203 #[xj s] w λe w'=>e=xm (.tuple #[xj K,xn ok])/\w'=w:=by
 subst J I;exact JJ s w
def F9(al:TY)(K:Ub)(i:Nat)(t:Tk)(r:TY)(h:args.drop i=t::r):Pa al (K.data.toList.drop i) (args.drop i)=q9 al (K.data.toList.drop i) t++Pa al (K.data.toList.drop (i+1)) (args.drop (i+1)):=by
 rw[h,Pa,WC,Hx h]
theorem Bg(aK:al.length<=401){fb:Nat}(r:Rl){s:Ub}{c:Int}{k:Nat} 
  (ha:IR w o1 n1 k1 al)(hf:FB w fb x)(h:Ss w r a b s c o n k d p)(hc:r.call=true)(hargs:r.args.length<=2)(a7:0<r.args.length)(ai:∀t∈r.args,(t.k=2\/t.k=3)/\t.s.size<=400/\(t.k=3->∃e:UInt8,t.s=⟨#[e]⟩))(hws:r.word.s.size<=400):
  Calls prog 176 #[.agg #[xa o1 n1 k1,xa o2 n2 k2],xk (TT fb),jV a b s c o n k d p] w λe w'=>e=xm (.tuple #[])/\FB w' fb (Fr x (nj al r))/\w.grownBy w' (some fb):=by
 obtain⟨-,h2⟩:=h;rw[Uh hc] at h2;obtain⟨-,hs,aY,ho,hd,hp⟩:=h2;subst hs aY hd hp;have aw:IR w o n k r.args:=ho;have hn:=aw.len;subst hn;obtain⟨t00,l00,aq⟩:=jc a7;obtain⟨g,az,-⟩:=aw.tok aq;subst az;clear aq;have aQ:=fy ai;have hfl:=dK hf;have h0:AS w ((w.alloc (xi #[xa o1 n1 k1,xa o2 n2 k2] 228)).alloc (xi #[xd xh a,xd .u8 b,xj r.word.s,xd xh r.word.p,xa (TT g) r.args.length k,xd xh r.fin,xk none] 235)) fb x o1 n1 k1 o2 n2 k2 a b r.word.s r.word.p (TT g) r.args.length k r.fin none:=
  ⟨(hf.later gC).later gC,(XD zp).trans (gi _ _),gu zp,(KT.alloc _ _).trans (KT.alloc _ _),gL (gL (U4 _ _))⟩
 clear ho hf ai hc;simp only[jV];obtain⟨f1,aG⟩:∃f,f=if 8<r.word.s.size then [(r.word.p,1)] else []:=⟨_,rfl⟩;obtain⟨f2,aH⟩:∃f,f=if gW r.word.s.toList<=11 then [] else [(r.word.p,3)]:=⟨_,rfl⟩;have aC:=fy aG;have HF2:=fy aH;clear aG aH;go_in
 go_upto_if 14 with fail
 go_cut [] (λwc=>AS w wc fb (Fr x f1) o1 n1 k1 o2 n2 k2 a b r.word.s r.word.p (TT g) r.args.length k r.fin none)
 case first=>
  rcases zc 8 r.word.s.size with⟨hl,hL⟩|⟨hl,hL⟩
  .have HL:=fy hl;clear hl
   go_wp2_with (refine(kA r.word.p 1 h0.fbx).mono ?_)
   rintro e w1 ⟨rfl,aa,ag⟩;have H1:=h0.call aa ag hfl;clear aa ag;go_wp2_with fail
   go_meet
   rw[aC.out,Uh HL.out];exact H1
  .have HL:=fy hl;clear hl;go_wp2_with fail
   go_meet
   rw[aC.out,T' HL.out];exact h0
 case rest=>
 clear h0;have rc:=EQ hcut.rbx;obtain⟨K,hK⟩:∃K:Ub,K=⟨(iD (gW r.word.s.toList)).toArray⟩:=⟨_,rfl⟩;obtain⟨ok,aL⟩:∃b,b=decide (gW r.word.s.toList<=11):=⟨_,rfl⟩;have aE:K.data.toList=iD (gW r.word.s.toList):=by rw[hK]
 have HKL:=fy aE;have HK:=fy hK;have aD:=fy aL;clear hK aE aL
 go_upto_if 28 with (refine(L9 K HK.out aD.out).mono ?_;rintro e w' ⟨rfl,rfl⟩)
 go_cut [7] (λ_ wc=>AS w wc fb (Fr x (f1++f2)) o1 n1 k1 o2 n2 k2 a b r.word.s r.word.p (TT g) r.args.length k r.fin none)
 case first=>
  cases ok with
  |true=>
   go_wp2_with fail
   go_meet
   grind[gQ]
  |false=>
   go_wp2_with (refine(kA r.word.p 3 hcut.fbx).mono ?_)
   rintro e w1 ⟨rfl,aa,ag⟩;have H2:=hcut.call aa ag hfl;clear aa ag;go_wp2_with fail
   go_meet
   grind[gQ,Fr]
 case rest=>
 clear rc HK aD ok;go_wp2
 go_loopw [8] (λv wr=>∃(i:Nat)(y:T3),i<=r.args.length/\v=xd xh i/\AS w wr fb y o1 n1 k1 o2 n2 k2 a b r.word.s r.word.p (TT g) r.args.length k r.fin none/\Hid (Fr (Fr x (f1++f2)) (Pa al K.data.toList r.args)=Fr y (Pa al (K.data.toList.drop i) (r.args.drop i)))) (λv _=>r.args.length-(intOf v).toNat)
 .exact⟨0,_,Ux,rfl,hcut,rfl⟩
 clear hcut;obtain⟨i,y,hi,rfl,has,HY⟩:=hrel;have rc:=EQ has.rbx;have mc:=EQ has.mbx;have hzr:=dK has.rbx;have hzr0:w.heap.size<wr.heap.size:=zo;by_cases hlt:i<r.args.length
 .obtain⟨t,l,ht⟩:=jc hlt;obtain⟨g',az,hg,_,t0,t1,t2⟩:=(has.kt.acts aw).tok ht;cases az;have ao:=pJ ht;have aj:=fy (aQ.out t ao);have aP:=fy (F9 al K i t l ht);clear ht ao;obtain⟨fN,aJ⟩:∃f,f=if t.k=2 then iW al t.s t.p else []:=⟨_,rfl⟩;have ar:=fy aJ;clear aJ
  go_upto_if 48 with fail
  go_cut [] (λwc=>AS w wc fb (Fr y fN) o1 n1 k1 o2 n2 k2 a b r.word.s r.word.p (TT g) r.args.length k r.fin none/\wc.heap[wr.heap.size]?=some (xi #[xd .u8 (gR t.k),xj t.s,xd xh t.p] 232 (0,0)))
  case first=>
   have H4:=has.later ((Uo wr.heap.size wr).alloc (XH) (xi #[xd .u8 (gR t.k),xj t.s,xd xh t.p] 232));rcases aj.out.1 with hk|hk
   .have e1:(gR t.k==110)=true:=by rw[hk];rfl
    have av:=fy hk;clear hk
    go_wp2_with (refine(AG (H4.kt.acts ha) aK H4.fbx aj.out.2.1).mono ?_)
    rintro e w5 ⟨rfl,aI,ay⟩;have H5:=H4.call aI ay hfl;have HB5:=(ay.block wr.heap.size zp (by have:=dK has.fbx;simp;omega)).trans (gi _ _);clear aI ay;go_wp2_with fail
    go_meet
    rw[ar.out,Uh av.out];trivial
   .have e1:(gR t.k==110)=false:=by rw[hk];rfl
    have av:=fy hk;clear hk;go_wp2_with fail
    go_meet
    rw[ar.out,T' (by rw[av.out];simp)];exact⟨H4,gi _ _⟩
  case rest=>
  obtain⟨has4,aF⟩:=hcut;have bc:=EQ aF;clear has t0 t1 t2 rc mc;have drop1:Fr y (Pa al (K.data.toList.drop i) (r.args.drop i))=Fr (Fr (Fr y fN) (if iN (K.data.toList.drop i) t=true then [(t.p,4)] else [])) (Pa al (K.data.toList.drop (i+1)) (r.args.drop (i+1))):=by
   rw[aP.out,q9,<-ar.out,jX,jX]
  have aB:=fy drop1;clear drop1;have ad:iN (K.data.toList.drop i) t=true->∀W,AS w W fb (Se (Fr y fN) t.p 4) o1 n1 k1 o2 n2 k2 a b r.word.s r.word.p (TT g) r.args.length k r.fin none->AS w W fb (Se (Fr y fN) t.p 4) o1 n1 k1 o2 n2 k2 a b r.word.s r.word.p (TT g) r.args.length k r.fin none/\Hid (Fr (Fr x (f1++f2)) (Pa al K.data.toList r.args)=Fr (Se (Fr y fN) t.p 4) (Pa al (K.data.toList.drop (i+1)) (r.args.drop (i+1)))):=by
   intro hb W hW;refine⟨hW,?_⟩;show _=_;rw[HY.out,aB.out,Uh hb];rfl
  have ae:iN (K.data.toList.drop i) t=false->Hid (Fr (Fr x (f1++f2)) (Pa al K.data.toList r.args)=Fr (Fr y fN) (Pa al (K.data.toList.drop (i+1)) (r.args.drop (i+1)))):=by
   intro hb;show _=_;rw[HY.out,aB.out,T' (by simp[hb])];rfl
  have FBD:=fy ad;have FOK:=fy ae;clear ad ae;by_cases hki:i<K.size
  .have hlt':(i:Int)<(K.size:Int):=zo;have hge':decide (K.size<=i)=false:=zs;have J:=Q4 K i hki;rcases aj.out.1 with hk|hk
   .have e1:(gR t.k==100)=false:=by rw[hk];rfl
    by_cases hc:K[i].toNat=110
    .have I:iN (K.data.toList.drop i) t=false:=by rw[J,iN,Uh hk];simp[hc]
     have HBA:=fy I;have e2:((K[i].toNat:Int) !=gR t.k)=false:=by rw[hk,hc];rfl
     clear I J hk hc;exact zm131
    have I:iN (K.data.toList.drop i) t=true:=by rw[J,iN,Uh hk];simp[hc]
    have HBA:=fy I;have e2:((K[i].toNat:Int) !=gR t.k)=true:=by rw[hk,Xk];show(K[i].toNat:Int)≠110;omega
    clear I J hk hc;exact zm24
   have e1:(gR t.k==100)=true:=by rw[hk];rfl
   by_cases hc:K[i].toNat=100
   .obtain⟨ch,U⟩:=aj.out.2.2 hk;have e2:((K[i].toNat:Int) !=gR t.k)=false:=za;have hsz:0<t.s.size:=by rw[U];exact Nat.zero_lt_one
    have ax:t.s[0].toNat=ch.toNat:=by simp only[U];rfl
    by_cases hl1:ch.toNat<49
    .have I:iN (K.data.toList.drop i) t=true:=by rw[J,iN,T' zo,Uh hc,U];simp;omega
     have HBA:=fy I;have d1:(t.s[0].toNat:Int)<49:=zo;clear I J hk hc U ax;exact zm24
    by_cases hl2:51<ch.toNat
    .have I:iN (K.data.toList.drop i) t=true:=by rw[J,iN,T' zo,Uh hc,U];simp;omega
     have HBA:=fy I;have d1:¬ (t.s[0].toNat:Int)<49:=zo;have d2:(51:Int)<(t.s[0].toNat:Int):=zo;clear I J hk hc U ax;exact zm24
    have I:iN (K.data.toList.drop i) t=false:=by rw[J,iN,T' zo,Uh hc,U];simp;omega
    have HBA:=fy I;have d1:¬ (t.s[0].toNat:Int)<49:=zo;have d2:¬ (51:Int)<(t.s[0].toNat:Int):=zo;clear I J hk hc U ax;exact zm131
   have I:iN (K.data.toList.drop i) t=true:=by rw[J,iN,T' zo,T' hc]
   have HBA:=fy I;have e2:((K[i].toNat:Int) !=gR t.k)=true:=by rw[hk,Xk];show(K[i].toNat:Int)≠100;omega
   clear I J hk hc;exact zm24
  have I:iN (K.data.toList.drop i) t=true:=by rw[UX za];rfl
  have HBA:=fy I;have hge:(K.size:Int)<=(i:Int):=zo;clear I hki;exact zm24
 have a6:i=r.args.length:=zo;subst a6;have a8:Fr (Fr x (f1++f2)) (Pa al K.data.toList r.args)=y:=by
  rw[HY.out,UX (XH)];rfl
 have an:Fr x (nj al r)=Fr y (if r.args.length<K.size then [(r.fin,4)] else []):=by
  grind[gQ,LT,jX,nj]
 have ak:=fy an;clear an a8 hlt hi;by_cases hfew:r.args.length<K.size
 .have au:=fy hfew;go_wp2_with fail;refine(kA r.fin 4 has.fbx).mono ?_;rintro e w6 ⟨rfl,hf6,hg6⟩;have H6:=has.call hf6 hg6 hfl;clear hf6 hg6;go_wp2;go_end0;refine⟨rfl,?_,H6.gr⟩;rw[ak.out,Uh au.out];exact H6.fbx
 have au:=fy hfew;go_wp2;go_end0;refine⟨rfl,?_,has.gr⟩;rw[ak.out,T' au.out];exact has.fbx
def Fg(Q:Tk->Prop):Fm->Prop
 |.nil=>False
 |.node _ _ a l r=>(a.1=0/\(∃t,Q t/\t.k=2/\t.s=a.2.1/\t.p=a.2.2)/\l=.nil/\r=.nil)\/
   ((1<=a.1/\a.1<=3)/\l=.nil/\r=.nil)\/((4<=a.1/\a.1<=8)/\Fg Q l/\r=.nil)\/((9<=a.1/\a.1<=12)/\Fg Q l/\Fg Q r)
theorem Fg.leaf{t:Tk}(h:Q t)(hk:t.k=2):Fg Q (leaf 0 t.s t.p):=by grind[Fg,leaf]
def Fg.word{k:Nat}{s:Ub}{p:Nat}(h:1<=k/\k<=3):Fg Q (Go.Proofs.YtidakhhekofkoaaGreatDoor.leaf k s p):=Rg (Rh ⟨h,rfl,rfl⟩)
theorem Fg.one{k:Nat}(h:4<=k/\k<=8)(hf:Fg Q f):Fg Q (one k f):=by grind[Fg,one]
theorem Fg.two{k:Nat}{g:Fm}(h:9<=k/\k<=12)(hf:Fg Q f)(hg:Fg Q g):Fg Q (two k f g):=by grind[Fg,two]
theorem qI(k:Nat)(s:Ub)(p:Nat):gI (leaf k s p)=1:=rfl
theorem vq(k:Nat)(f:Fm):gI (one k f)=1+gI f:=rfl
theorem oN(k:Nat)(f g:Fm):gI (two k f g)=1+gI f+gI g:=rfl
theorem Gy(k:Nat)(h:ph k≠0):4<=ph k/\ph k<=8:=by
 grind[ph]
def tj{l:TY}{k:Nat}(h:gF l=k)(I:k≠0):∃t r,l=t::r/\t.k=k:=by
 cases l with
 |nil=>exact absurd h.symm I
 |cons t r=>exact⟨t,r,rfl,h⟩
def nC{l:TY}(h:gF l≠0):l.tail.length+1=l.length:=by
 cases l with
 |nil=>trivial
 |cons t r=>simp
def iC{l:TY}(h:∀t∈l,Q t):∀t∈l.tail,Q t:=λt I=>h t (List.mem_of_mem_tail I)
theorem kj(Q:Tk->Prop):∀n U f l J l',pf n U f l=.ok (J,l')->U<=6->(5<=U->Fg Q f)->(∀t∈l,Q t)->
  Fg Q J/\(∀t∈l',Q t)/\gI J+l'.length<=(if 5<=U then gI f else 0)+l.length
 |0,_,_,_,_,_,h,_,_,_=>zv
 |n+1,0,f,l,J,l',h,_,_,hq=>by
  rw[pf] at h
  split at h
  .cases h
  rename_i a l1 e
  have I:=kj Q n 1 .nil l a l1 e zo zo hq
  split at h
  .rename_i hk
   split at h
   .cases h
   rename_i b l2 e2
   have h2:=kj Q n 0 .nil l1.tail b l2 e2 zo zo (iC I.2.1);have hl:=nC (l:=l1) zo
   grind[Fg.two,oN]
  simp_all
 |n+1,1,f,l,J,l',h,_,_,hq=>by
  rw[pf] at h
  split at h
  .cases h
  rename_i a l1 e
  have I:=kj Q n 2 .nil l a l1 e zo zo hq;have h2:=kj Q n 5 a l1 J l' h zo (λ_=>I.1) I.2.1
  grind
 |n+1,2,f,l,J,l',h,_,_,hq=>by
  rw[pf] at h
  split at h
  .cases h
  rename_i a l1 e
  have I:=kj Q n 3 .nil l a l1 e zo zo hq;have h2:=kj Q n 6 a l1 J l' h zo (λ_=>I.1) I.2.1
  grind
 |n+1,3,f,l,J,l',h,_,_,hq=>by
  rw[pf] at h
  split at h
  .cases h
  rename_i a l1 e
  have I:=kj Q n 4 .nil l a l1 e zo zo hq
  split at h
  .rename_i hk
   split at h
   .cases h
   rename_i b l2 e2
   have h2:=kj Q n 4 .nil l1.tail b l2 e2 zo zo (iC I.2.1);have hl:=nC (l:=l1) zo
   grind[Fg.two,oN]
  simp_all
 |n+1,4,f,l,J,l',h,_,_,hq=>by
  rw[pf] at h
  split at h
  .rename_i ho
   split at h
   .cases h
   rename_i a l1 e
   have I:=kj Q n 4 .nil l.tail a l1 e zo zo (iC hq);have hl:=nC (l:=l) (by intro e0;rw[e0] at ho;trivial)
   grind[Fg.one,Gy,vq]
  split at h
  .rename_i hk
   split at h
   .cases h
   rename_i a l1 e
   have I:=kj Q n 0 .nil l.tail a l1 e zo zo (iC hq);have s1:=I.2.2;simp at s1
   split at h
   .cases h;exact⟨I.1,iC I.2.1,zs⟩
   cases h
  split at h
  .rename_i hk
   cases h;have hl:=nC (l:=l) zo;refine⟨Fg.word zo,iC hq,?_⟩;rw[qI];simp;omega
  split at h
  .rename_i hk
   cases h;obtain⟨t,r,rfl,ht⟩:=tj hk zo;exact⟨Fg.leaf (hq t Um) ht,iC hq,by rw[qI];simp;omega⟩
  cases h
 |n+1,5,f,l,J,l',h,_,hf,hq=>by
  rw[pf] at h
  split at h
  .rename_i hk
   split at h
   .cases h
   rename_i b l1 e
   have I:=kj Q n 2 .nil l.tail b l1 e zo zo (iC hq);have h2:=kj Q n 5 _ l1 J l' h zo (λ_=>Fg.two zo (hf zo) I.1) I.2.1;have hl:=nC (l:=l) zo
   grind[oN]
  simp_all
 |n+1,6,f,l,J,l',h,_,hf,hq=>by
  rw[pf] at h
  split at h
  .rename_i hk
   split at h
   .cases h
   rename_i b l1 e
   have I:=kj Q n 3 .nil l.tail b l1 e zo zo (iC hq);have h2:=kj Q n 6 _ l1 J l' h zo (λ_=>Fg.two zo (hf zo) I.1) I.2.1;have hl:=nC (l:=l) zo
   grind[oN]
  simp_all
 |n+1,k+7,f,l,J,l',h,hk,_,_=>zo
def RlGood(Q:Tk->Prop)(m:Nat)(r:Rl):Prop:=
 (r.call=true/\Q r.word/\r.word.k=2/\r.f=.nil/\∃x,Q x/\x.k=2/\(r.args=[x]\/∃y,Q y/\(y.k=2\/y.k=3)/\r.args=[x,y]))\/
 (r.call=false/\Fg Q r.f/\gI r.f<=m/\r.args=[])
theorem tp{l:TY}{k:Nat}(h:gF l=k)(I:k≠0)(hq:∀t∈l,Q t):Q (lg l)/\(lg l).k=k:=by
 obtain⟨t,r,rfl,ht⟩:=tj h I
 grind[lg]
theorem By(Q:Tk->Prop){l:TY}(r:Rl)(h:gZ l=.ok (r,l'))(hq:∀t∈l,Q t):RlGood Q l.length r/\(∀t∈l',Q t):=by
 unfold gZ at h
 split at h
 .rename_i U
  have w0:=tp U.1 zo hq
  split at h
  .rename_i h1
   have I:=tp h1 zo (iC (iC hq))
   split at h
   .split at h
    .rename_i h3
     have J:Q (lg l.tail.tail.tail.tail)/\((lg l.tail.tail.tail.tail).k=2\/(lg l.tail.tail.tail.tail).k=3):=by
      rcases h3 with h3|h3
      .exact zm177
      exact zm177
     split at h
     .cases h;exact⟨Rh ⟨rfl,w0.1,w0.2,rfl,_,I.1,I.2,Rg ⟨_,J.1,J.2,rfl⟩⟩,iC (iC (iC (iC (iC (iC hq)))))⟩
     cases h
    cases h
   split at h
   .cases h;exact⟨Rh ⟨rfl,w0.1,w0.2,rfl,_,I.1,I.2,Rh rfl⟩,iC (iC (iC (iC hq)))⟩
   cases h
  cases h
 split at h
 .cases h
 rename_i f l1 e
 cases h;have:=kj Q _ 0 .nil l f l' e zo zo hq
 grind[RlGood]
def tT(Q:Tk->Prop):∀n l ts l',iZ n l=.ok (ts,l')->(∀t∈l,Q t)->(∀t∈ts,Q t/\t.k=2)/\ts≠[]/\ts.length<=n/\(∀t∈l',Q t)
 |0,l,ts,l',h,_=>zv
 |n+1,l,ts,l',h,hq=>by
  rw[iZ] at h
  split at h
  .rename_i J
   have w0:=tp J zo hq
   split at h
   .split at h
    .cases h
    rename_i I l1 e
    have:=tT Q n l.tail.tail I l1 e (iC (iC hq));cases h;simp_all
   cases h;exact⟨λt ht=>za,zp,zp,iC hq⟩
  cases h
theorem RlGood.mono{r:Rl}(h:RlGood Q m r)(hm:m<=m'):RlGood Q m' r:=by
 grind[RlGood]
theorem sW(Q:Tk->Prop)(m:Nat):∀n l rs,iR n l=.ok rs->l.length<=m->(∀t∈l,Q t)->(∀r∈rs,RlGood Q m r)/\rs.length<=n
 |0,l,rs,h,_,_=>zv
 |n+1,l,rs,h,hm,hq=>by
  rw[iR] at h
  split at h
  .simp_all
  split at h
  .split at h
   .cases h
   rename_i r l1 e
   have hr:=By Q r e (iC hq);have U:=rJ e
   split at h
   .split at h
    .cases h
    rename_i I J
    have h1:=sW Q m n l1.tail I J (by simp at U|-;omega) (iC hr.2)
    grind[RlGood]
   cases h
  cases h
theorem nM(Q:Tk->Prop){l:TY}(h:ie l=.ok (al,rs))(hq:∀t∈l,Q t):
  (∀t∈al,Q t/\t.k=2)/\al≠[]/\al.length<=l.length/\(∀r∈rs,RlGood Q l.length r)/\rs.length<=l.length:=by
 unfold ie at h
 split at h
 .split at h
  .cases h
  rename_i ts l1 e
  have J:=tT Q _ _ _ _ e (iC hq);have U:=BY _ _ _ _ e
  split at h
  .split at h
   .cases h
   rename_i rs1 I
   have hr:=sW Q l.length _ _ _ I (by simp at U|-;omega) (iC J.2.2.2)
   grind
  cases h
 cases h
theorem qD{s:Ub}:∀n i,i<=s.size->∀t∈jr s n i,t.s.size<=s.size/\t.p<=s.size
 |0,_,_,t,h=>zv
 |n+1,i,hi,t,h=>by
  have I:=nU iy s i hi;have h2:=zG I;have h3:=sL I;by_cases hk:(gY s (gV iy s i)).k<=1
  .grind[mq]
  rw[oC s n i hk] at h;have J:=sN hi hk;rcases List.mem_cons.1 h with rfl|h
  .omega
  exact qD n _ J.2 t h
def nB(pre:TY)(a:Tk):List (T3):=
 match pre with
 |[]=>[]
 |t::r=>(if t.s.toList=a.s.toList then [(a.p,3)] else [])++nB r a
def jw(a:Tk):List (T3):=if 8<a.s.size then [(a.p,1)] else []
def zC(pre:TY)(i:Nat)(a:Tk):List (T3):=jw a++(nB pre a++(if 6<=i then [(a.p,4)] else []))
def mC(al:TY):Nat->TY->List (T3)
 |_,[]=>[]
 |i,a::r=>zC (al.take i) i a++mC al (i+1) r
def qB(al:TY)(i:Nat)(r:Rl):List (T3):=(if 4<=i then [(r.pl,4)] else [])++(qx al r.f++(if r.call=true then nj al r else []))
def kV(al:TY):Nat->T6->List (T3)
 |_,[]=>[]
 |i,r::l=>qB al i r++kV al (i+1) l
def ke(al:TY)(rs:T6):List (T3):=mC al 0 al++kV al 0 rs
def iw:T6->Nat
 |[]=>0
 |r::l=>gI (gO r)+iw l
def uZ(n:Nat):Except Nat (TY × T6)->Except (T3) (TY × T6)
 |.error q=>.error (q,2)
 |.ok (al,rs)=>if (Fr (0,0) (ke al rs)).2≠0 then .error (Fr (0,0) (ke al rs)) else if 16<iw rs then .error (n,4) else .ok (al,rs)
def iz(s:Ub):Except (T3) (TY × T6):=if 400<s.size then .error (0,1) else uZ s.size (ie (jr s (s.size+1) 0))
theorem lG{l:List α}{k:Nat}{x:α}{r:List α}(h:l.drop k=x::r):l.drop (k+1)=r:=by
 have:=congrArg List.tail h;simpa using this
theorem oO{l:List α}{k:Nat}{x:α}{r:List α}(h:l.drop k=x::r):l.take (k+1)=l.take k++[x]:=by
 grind
def Ok(l:List (T3)):Prop:=∀f∈l,f.2≠0
theorem Ok.append{l m:List (T3)}(h:Ok l)(k:Ok m):Ok (l++m):=by grind[Ok]
theorem Ok.nil:Ok []:=by grind[Ok]
def Ok.ite{p:Prop}[Decidable p]{l m:List (T3)}(h:Ok l)(k:Ok m):Ok (if p then l else m):=by split<;>assumption
theorem Ok.one{a b:Nat}(h:b≠0):Ok [(a,b)]:=λf hf=>za
theorem E'(x:T3)(p e:Nat)(he:e≠0):(Se x p e).2≠0:=by
 grind[Se]
theorem K':∀(l:List (T3)) (x:T3),Ok l->x.2≠0->(Fr x l).2≠0:=by intro I;induction I<;>grind[E',Ok,Fr]
def tC{l:List (T3)}(he:Ok l)(h:(Fr (0,0) l).2=0):l=[]:=by
 cases l with
 |nil=>rfl
 |cons f l=>exact absurd h (K' l _ (λg hg=>he g (Ul hg)) (E' _ _ _ (he f Um)))
theorem yt(al:TY)(s:Ub)(p:Nat):Ok (iW al s p):=by grind[Ok.one,Ok.nil,Ok,iW]
theorem KK(al:TY):∀f,Ok (qx al f):=by intro I;induction I<;>grind[Ok.nil,yt,Ok,qx]
def yr(al:TY):∀(k:T9)(l:TY),Ok (Pa al k l)
 |_,[]=>by rw[Pa];exact Ok.nil
 |k,t::r=>by rw[Pa];exact((Ok.ite (yt al _ _) Ok.nil).append (Ok.ite (Ok.one zp) Ok.nil)).append (yr al _ r)
def Ga(r:Rl):Ok (nj al r):=(Ok.ite (Ok.one zp) Ok.nil).append ((Ok.ite Ok.nil (Ok.one zp)).append ((yr al _ _).append (Ok.ite (Ok.one zp) Ok.nil)))
theorem Iw(a:Tk):∀l,Ok (nB l a):=by intro I;induction I<;>grind[Ok.nil,Ok.one,Ok,nB]
def yq(al:TY):∀i l,Ok (mC al i l)
 |_,[]=>Ok.nil
 |i,a::r=>((Ok.ite (Ok.one zp) Ok.nil).append ((Iw a _).append (Ok.ite (Ok.one zp) Ok.nil))).append (yq al (i+1) r)
def wC:∀i l,Ok (kV al i l)
 |_,[]=>Ok.nil
 |i,r::l=>((Ok.ite (Ok.one zp) Ok.nil).append ((KK al _).append (Ok.ite (Ga r) Ok.nil))).append (wC (i+1) l)
def pT(al:TY)(rs:T6):Ok (ke al rs):=(yq al _ _).append (wC _ _)
def mD:∀{i:Nat} {rs:T6},kV al i rs=[]->∀r∈rs,qx al r.f=[]/\(r.call=true->nj al r=[])
 |_,[],_,r,hr=>(US hr).elim
 |i,x::l,h,r,hr=>by
  rw[kV,qB] at h;obtain⟨I,J⟩:=List.append_eq_nil_iff.1 h;obtain⟨h3,U⟩:=List.append_eq_nil_iff.1 I;obtain⟨h5,h6⟩:=List.append_eq_nil_iff.1 U;rcases List.mem_cons.1 hr with rfl|hr
  .simp_all
  exact mD J r hr
theorem yn{t:Tk}(h:sr t)(J:t.k=3):∃c:UInt8,t.s=⟨#[c]⟩/\48<=c.toNat/\c.toNat<=57:=by
 obtain⟨c,hc,I⟩:=h.2.2.1 J;refine⟨c,?_,I⟩;cases hs:t.s with
 |mk d=>
  rw[hs] at hc;have:d= #[c]:=by grind
  rw[this]
theorem vw(h:n<=11):(iD n=[110]/\n<=1)\/(iD n=[110,100]/\2<=n/\n<=3)\/(iD n=[110,110]/\4<=n):=by
 grind[iD]
theorem zx{r:Rl}(hQ:∀t,Q t->sr t)(hg:RlGood Q m r)(hc:r.call=true)(h:nj al r=[]):qQ r:=by
 rcases hg with⟨_,_,_,_,x,hx,hxk,hargs⟩|⟨h1,_⟩
 .unfold nj at h;obtain⟨_,I⟩:=List.append_eq_nil_iff.1 h;obtain⟨h3,J⟩:=List.append_eq_nil_iff.1 I;obtain⟨h5,h6⟩:=List.append_eq_nil_iff.1 J;have hn:gW r.word.s.toList<=11:=by
   simp_all
  have hlen:¬ r.args.length<(iD (gW r.word.s.toList)).length:=by
   simp_all
  have hbad:∀{ks:T9} {t:Tk} {l:TY},Pa al ks (t::l)=[]->iN ks t=false/\Pa al ks.tail l=[]:=by
   intro ks t l he;rw[Pa,q9] at he;simp_all
  grind[vw,yn,iN,qQ]
 rw[h1] at hc;cases hc
def wT(a:Ub):∀n,gI (me a n)<=2+4*n
 |0=>by show 1+(1+0+0)+0<=2;omega
 |1=>by show 1+(1+0+0)+0<=6;omega
 |n+2=>by
  have:=wT a (n+1);show 1+(1+(1+0+0)+(1+gI (me a (n+1))+0))+0<=_;omega
theorem JT(k:Nat)(a b:Ub)(n:Nat):gI (jg k a b n)<=12+4*n:=by
 have:=wT a n;unfold jg
 split
 .show 1+0+0<=_;omega
 split
 .show 1+(1+(1+0+0)+(1+(1+(1+0+0)+0)+0))+0<=_;omega
 grind[oN,vq,qI,ia]
theorem yN{r:Rl}(hg:RlGood Q m r)(I:r.call=true->qQ r):gI (gO r)<=48+m:=by
 unfold gO;rcases hg with⟨hc,_⟩|⟨J,_,h3,_⟩
 .rw[Uh hc];have J:=JT (gW r.word.s.toList) (lP r.args 0) (lP r.args 1) (lW (lP r.args 1));rcases I hc with⟨hk,x,ha⟩|⟨hk,hk2,x,y,ha,c,hc1,hc2,hc3⟩|⟨hk,hk2,x,y,ha⟩
  .have:lW (lP r.args 1)=0:=by rw[ha];rfl
   omega
  .grind[lW,lP]
  have h2:gI (jg (gW r.word.s.toList) (lP r.args 0) (lP r.args 1) (lW (lP r.args 1)))<=12:=by
   unfold jg;rw[T' zo,T' zo,T' zo,T' zo]
   grind[oN,vq,qI,ia]
  omega
 grind
def G9(k:Nat):Ub:=
 if k=4 then ⟨#[33]⟩ else if k=5 then ⟨#[88]⟩ else if k=6 then ⟨#[78]⟩ else if k=7 then ⟨#[70]⟩ else if k=8 then ⟨#[71]⟩ else if k=9 then ⟨#[85]⟩ else if k=10 then ⟨#[38]⟩ else if k=11 then ⟨#[124]⟩ else ⟨#[45,62]⟩
def mg:Fm->Ub
 |.nil=>⟨#[]⟩
 |.node _ _ a l r=>
  if a.1=0 then a.2.1 else if a.1=1 then ⟨#[116,114,117,101]⟩ else if a.1=2 then ⟨#[102,97,108,115,101]⟩ else if a.1=3 then ⟨#[101,110,100]⟩
  else if a.1<=8 then G9 a.1++⟨#[32]⟩++mg l
  else ⟨#[40]⟩++mg l++⟨#[32]⟩++G9 a.1++⟨#[32]⟩++mg r++⟨#[41]⟩
def lD:Ub->Nat->TY->Ub
 |out,_,[]=>out
 |out,i,t::r=>lD ((if 0<i then out++⟨#[44,32]⟩ else out)++t.s) (i+1) r
def oP(out : Ub)(r : Rl) : Ub :=
  if r.call = true then
    (if 1 < r.args.length then out ++ ⟨#[114,117,108,101,32]⟩ ++ r.word.s ++ ⟨#[40]⟩ ++ lP r.args 0 ++ ⟨#[44,32]⟩ ++ lP r.args 1
     else out ++ ⟨#[114,117,108,101,32]⟩ ++ r.word.s ++ ⟨#[40]⟩ ++ lP r.args 0) ++ ⟨#[41,59,10]⟩
  else out ++ ⟨#[114,117,108,101,32]⟩ ++ mg r.f ++ ⟨#[59,10]⟩
def mI:Ub->T6->Ub
 |out,[]=>out
 |out,r::l=>mI (oP out r) l
def qw(al:TY)(rs:T6):Ub:=mI (lD ⟨#[97,99,116,115,32]⟩ 0 al++⟨#[59,10]⟩) rs
def ly(s:Ub):Nat->Nat->TY
 |0,_=>[]
 |n+1,i=>let t:=gY s (gV iy s i);if t.k=0 then [t] else t::ly s n (t.p+t.s.size)
theorem rX(s:Ub)(n i:Nat)(h:(gY s (gV iy s i)).k=0):ly s (n+1) i=[gY s (gV iy s i)]:=by
 rw[ly];simp_all
theorem sM(s:Ub)(n i:Nat)(h:(gY s (gV iy s i)).k≠0):ly s (n+1) i=gY s (gV iy s i)::ly s n ((gY s (gV iy s i)).p+(gY s (gV iy s i)).s.size):=by
 rw[ly];simp_all
theorem tu{s:Ub}(h:i<=s.size)(hk:(gY s (gV iy s i)).k≠0):
  i+1<=(gY s (gV iy s i)).p+(gY s (gV iy s i)).s.size/\(gY s (gV iy s i)).p+(gY s (gV iy s i)).s.size<=s.size:=by
 exact zm150
def Te:TY->TY
 |[]=>[]
 |t::r=>if t.k<=1 then [t] else t::Te r
theorem Kv(s:Ub):∀n i,Te (ly s n i)=jr s n i:=by intro I;induction I<;>grind[mq,rX,sM,oC,gY,gV,iy,Te,ly,jr]
def FE:TY->Prop
 |[]=>False
 |[t]=>t.k=0
 |t::r=>t.k≠0/\FE r
def FE.ne{l:TY}(h:FE l):l≠[]:=by rintro rfl;exact h
theorem FE.tail{t:Tk}(h:FE (t::r))(hk:t.k≠0):FE r:=by
 grind[FE]
theorem E4(s:Ub):∀n i,i<=s.size->s.size<n+i->FE (ly s n i)
 |0,i,h,h'=>zo
 |n+1,i,h,h'=>by
  by_cases hk:(gY s (gV iy s i)).k=0
  .grind[FE,ly]
  rw[sM s n i hk];have I:=tu h hk;have:=E4 s n _ I.2 zo
  grind[FE]
theorem CU(s:Ub):∀n i,i<=s.size->(ly s n i).length+i<=s.size+1
 |0,i,h=>by simp[ly];omega
 |n+1,i,h=>by
  by_cases hk:(gY s (gV iy s i)).k=0
  .grind[rX]
  rw[sM s n i hk];have I:=tu h hk;have:=CU s n _ I.2;simp;omega
def Kc(m:Nat)(t:Tk):Prop:=sr t/\t.s.size<=m/\t.p<=m
theorem CO(s:Ub)(j:Nat)(h:j<=s.size):Kc s.size (gY s j):=
 ⟨CQ s j,by have:=zG h;omega,by rw[sL h];omega⟩
theorem E5(s:Ub):∀n i,i<=s.size->∀t∈ly s n i,Kc s.size t
 |0,_,_,t,h=>by simp[ly] at h
 |n+1,i,hi,t,h=>by
  by_cases hk:(gY s (gV iy s i)).k=0
  .grind[rX,CO,nU]
  rw[sM s n i hk] at h;rcases List.mem_cons.1 h with rfl|h
  .grind[CO,nU]
  exact E5 s n _ (tu hi hk).2 t h
theorem Cl:∀{l:TY},FE l->R8 (Te l)
 |[],h=>absurd h id
 |[t],h=>by grind[Te,FE,R8]
 |t::u::r,h=>by
  by_cases hk:t.k<=1
  .rw[Te,Uh hk];exact hk
  rw[Te,T' hk];have:=Cl (l:=u::r) h.2
  grind[R8]
def FE.drop:∀{l:TY} (i:Nat),FE l->i<l.length->FE (l.drop i)
 |[],_,h,_=>absurd h id
 |[t],0,h,_=>h
 |[t],i+1,h,hi=>by simp at hi
 |t::u::r,0,h,_=>h
 |t::u::r,i+1,h,hi=>by
  rw[List.drop_succ_cons];exact FE.drop (l:=u::r) i h.2 za
def PL(L:TY)(i:Nat):TY:=Te (L.drop i)
theorem vH{t:Tk}(h:PL L i=t::r):∃I,L.drop i=t::I:=by
 unfold PL at h;cases hd:L.drop i with
 |nil=>rw[hd] at h;cases h
 |cons u I=>
  grind[Te]
theorem iQ{t:Tk}(h:PL L i=t::r)(hk:2<=t.k):PL L (i+1)=r:=by
 unfold PL at h|-;cases hd:L.drop i with
 |nil=>rw[hd] at h;cases h
 |cons u r'=>
  rw[hd,Te] at h
  split at h
  .cases h;omega
  cases h;have:L.drop (i+1)=r':=by
   have:=congrArg List.tail hd;simpa using this
  rw[this]
def Mw{t:Tk}(h:PL L i=t::r):i<L.length:=by
 obtain⟨r',I⟩:=vH h;rcases UU i L.length with hi|hi
 .omega
 rw[UX hi] at I;cases I
def lA(h:FE L)(hi:i<L.length):R8 (PL L i):=Cl (h.drop i hi)
def lB(h:FE L)(hi:i<L.length):∃t r,PL L i=t::r:=by
 cases hp:PL L i with
 |nil=>have:=(lA h hi);rw[hp] at this;trivial
 |cons t r=>simp
def FE.nextLt{t:Tk}(h:FE L)(J:PL L i=t::r)(hk:t.k≠0):i+1<L.length:=by
 obtain⟨r',hr⟩:=vH J;have I:=h.drop i (Mw J);rw[hr] at I;have U:=(I.tail hk).ne;have h3:=congrArg Rn hr;have h4:=List.length_pos_iff.2 U;simp at h3;omega
theorem FE.last(h:FE L):∃e,L.drop (L.length-1)=[e]/\e.k=0:=by
 have h1:=List.length_pos_iff.2 h.ne;have I:=h.drop (L.length-1) zo;cases hd:L.drop (L.length-1) with
 |nil=>rw[hd] at I;trivial
 |cons e r=>
  have J:=congrArg Rn hd;simp at J;have:r=[]:=List.length_eq_zero_iff.1 zo
  grind[FE]
theorem nJ(h:FE L):∃e,PL L (L.length-1)=[e]/\e.k=0:=by
 obtain⟨e,h1,h2⟩:=h.last
 grind[PL,Te]
def gM(L:TY):TW:=L.flatMap λt=>[xd xh t.k,xj t.s,xd xh t.p]
theorem mP(L:TY)(t:Tk):gM (L++[t])=gM L++[xd xh t.k,xj t.s,xd xh t.p]:=by
 simp[gM]
def Tryz.infoTokP:(prog.info? 201).map (λi=>(i.zero,i.size,i.bytes))=some (some (.agg #[xd xh 0,xj ⟨#[]⟩,xd xh 0]),3,32):=zk
theorem LQ(n:Nat):ju n≠0:=by
 unfold ju
 repeat' split
 all_goals omega
theorem Ms(l:T9):jC l≠0:=by
 grind[jC]
theorem K3(s:Ub)(j:Nat)(h:j<s.size):(gY s j).k≠0:=by
 grind[Ms,LQ,gY]
theorem LJ(s:Ub)(w:Uc)(hs:s.size<=400)(hG:GV w):
  Calls prog 113 #[xj s] w λe w'=>∃v,e=xm v/\w'.ownsRow w.heap.size 201 3 v (ly s (s.size+1) 0).length (gM (ly s (s.size+1) 0))/\XL w w':=by
 have av:s.size<=maxLen:=by unfold maxLen;omega
 obtain⟨i0,hi,aE,aF,aG⟩:=Uk Tryz.infoTokP;have HG:=hG;clear hG;go_in;go_wp2_with fail;refine(tU 0 av (Ux)).mono ?_;rintro e w0 ⟨rfl,aC⟩;have aM:=aC.symm;clear aC;subst aM;go_wp2
 go_loopw [3,4] (λv x wr=>∃(i n:Nat)(acc:TY),i<=s.size/\s.size<n+i/\acc.length<=i/\x=xd xh (gV iy s i:Nat)/\Hid (ly s (s.size+1) 0=acc++ly s n i)/\
   wr.ownsRow w.heap.size 201 3 v acc.length (gM acc)/\XL w wr) (λ_ x _=>s.size-(intOf x).toNat)
 .exact zm147
 obtain⟨i,n,acc,ax,hn,hacc,rfl,H,aa,I⟩:=hrel;have az:=nU iy s i ax;have hge:=pR iy s i;have ai:=fy (tu ax);have ad:=fy (rX s (n-1) i);have ao:=fy (sM s (n-1) i);have aq:=fy (K3 s (gV iy s i));have aj:=fy (E8 s (gV iy s i));have HP:=fy (sL az);have ak:=fy (uJ s _ az);have aA:n-1+1=n:=zo;rw[aA] at ad ao;clear aA;have ar:=fy (λW h hG=>Eu s (gV iy s i) W av h hG);generalize gY s (gV iy s i)=t at *;generalize gV iy s i=a at *;by_cases ha:a<s.size
 .have au:=aq.out ha;have hadv:=ai.out au;have hp:=HP.out;have hpos:=ak.out au;have HR:Hid (ly s (s.size+1) 0=(acc++[t])++ly s (n-1) (t.p+t.s.size)):=by show _=_;rw[H.out,ao.out au];simp
  have HPP:=fy hp;have hpl:t.p<=a:=zo;have hpg:a<=t.p:=zo;clear ad ao aq aj ai HP H ak hp;go_wp2_with fail;refine(ar.out _ ha (HG.later I)).mono ?_;rintro e w1 ⟨rfl,an⟩;clear ar;simp only[jm]
  go_wp2_with (at_builtin;go_must (refine U0 _ rfl _ _ 125 rfl w.heap.size 201 i0 (.agg #[xd xh 0,xj ⟨#[]⟩,xd xh 0]) 3 32 underlying125 hi aE aF aG rfl zd _ acc.length (gM acc) rfl ?c0 (TU (w1.heap.size+1) 0) 1 1 [xd xh t.k,xj t.s,xd xh t.p] rfl rfl ?c1 ?c2 ?c3 ?c4 ?c5 ?_))
  case c0=>exact((gq aa an).alloc _).alloc _
  case c1=>
   intro j u U
   match j,U with
   |0,U=>simp at U;subst U;simp[Rp]
   |1,U=>simp at U;subst U;simp[Rp]
   |2,U=>simp at U;subst U;simp[Rp]
   |j+3,U=>simp at U
  case c2=>intro u hu;simp at hu;rcases hu with rfl|rfl|rfl<;>rfl
  case c3=>omega
  case c4=>omega
  case c5=>have:=I.size;have:=an.size;simp;omega
  intro v' w2 ae J _;have ag:=gJ aa;have aL:=an.size;have hc1:w2.cell? (TU w1.heap.size 1)=some (xj t.s):=(te J zs (λk hk=>by have:=ag k hk;omega) 1).trans zp;have HB2:=((((I.trans (an.mono I.size)).alloc (by have:=I.size;omega) _).alloc (by have:=I.size;simp;omega) _).grown J (by have:=I.size;simp;omega) (λk hk=>(ag k hk).1));have HO2:Hid (w2.ownsRow w.heap.size 201 3 v' (acc++[t]).length (gM (acc++[t]))):=by
   grind[mP]
  clear ae J aa ag an I aL;have htl:t.s.size<=s.size:=zo;have hts:(a:Int)+(t.s.size:Int)<=400:=zo;go_wp2_with fail;refine(tU (a+t.s.size) av zo).mono ?_;rintro e w3 ⟨rfl,aD⟩;have aN:=aD.symm;clear aD;subst aN;have aw:=pR iy s (a+t.s.size);have aI:=fy aw;clear aw;go_wp2
  go_roundw
  .grind[gQ]
  simp[intOf];have:=aI.out;omega
 have aK:a=s.size:=zo;have ht:=aj.out zo;subst ht;have HR:Hid (ly s (s.size+1) 0=acc++[⟨0,ByteArray.empty,s.size⟩]):=by show _=_;rw[H.out,ad.out rfl]
 clear ad ao aq aj ai HP H ar ak;have hsa:acc.length<=400:=zo;subst aK
 go_wp2_with (at_builtin;go_must (refine U0 _ rfl _ _ 125 rfl w.heap.size 201 i0 (.agg #[xd xh 0,xj ⟨#[]⟩,xd xh 0]) 3 32 underlying125 hi aE aF aG rfl zd _ acc.length (gM acc) rfl ?c0 (TU wr.heap.size 0) 1 1 [xd xh 0,xj ⟨#[]⟩,xd xh (s.size:Int)] rfl rfl ?c1 ?c2 ?c3 ?c4 ?c5 ?_))
 case c0=>exact aa.alloc _
 case c1=>
  intro j u U
  match j,U with
  |0,U=>simp at U;subst U;simp[Rp]
  |1,U=>simp at U;subst U;simp[Rp]
  |2,U=>simp at U;subst U;simp[Rp]
  |j+3,U=>simp at U
 case c2=>intro u hu;simp at hu;rcases hu with rfl|rfl|rfl<;>rfl
 case c3=>unfold maxLen;omega
 case c4=>omega
 case c5=>have:=I.size;simp;omega
 intro v' w2 ae J _;have ag:=gJ aa;have HB2:=(I.alloc I.size _).grown J (by have:=I.size;simp;omega) (λk hk=>(ag k hk).1);have HO2:Hid (w2.ownsRow w.heap.size 201 3 v' (acc++[(⟨0,ByteArray.empty,s.size⟩:Tk)]).length (gM (acc++[⟨0,ByteArray.empty,s.size⟩]))):=by
  rw[mP,Ur];exact ae
 clear ae J aa ag I;exact zm132
def OH(s:Ub)(w w':Uc)(e:Ending):Prop:=
 XL w w'/\(match iz s with
  |.error x=>e=xm (.tuple #[.agg #[TV,TV],xd xh x.1,xd xh x.2])
  |.ok (al,rs)=>∃o1 n1 k1 o2 n2 k2,e=xm (.tuple #[.agg #[xa o1 n1 k1,xa o2 n2 k2],xd xh 0,xd xh 0])/\IR w' o1 n1 k1 al/\Sd w' o2 n2 k2 rs)
structure RS(w W:Uc)(mb:Nat)(x:T3)(o1:TX)(n1 k1:Nat)(o2:TX)(n2 k2:Nat)(al:TY)(rs:T6):Prop where
 rbx:W.heap[w.heap.size]?=some (xi #[TV,TV] 228 (0,0))
 mbx:W.heap[mb]?=some (xi #[xa o1 n1 k1,xa o2 n2 k2] 228 (0,0))
 fbx:FB W (mb+1) x
 act:IR W o1 n1 k1 al
 rul:Sd W o2 n2 k2 rs
 bel:XL w W
 lt:w.heap.size<mb
def Sd.fb{fb:Nat}{k:Nat}(h:Sd w o n k rs)(hf:FB w fb x)(hg:w.grownBy w' (some fb)):Sd w' o n k rs:=by
 obtain⟨cells,I,J⟩:=h;refine⟨cells,gy I hg ?_,(KT.fb hf hg).rules J⟩;rcases hb:(xa o n k).ownBlock with _|b
 .simp
 refine Rg (λe=>?_);cases e;exact gz I hb hf zp
def Sd.keepTy{rb ty:Nat}{m:T3}{k:Nat}(h:Sd w o n k rs)(hk:KT w w')(hb:w.heap[rb]?=some (xi cc ty m))(I:ty≠235)(hg:w.grownBy w' (some rb)):Sd w' o n k rs:=by
 obtain⟨cells,J,U⟩:=h;refine⟨cells,gy J hg ?_,hk.rules U⟩;rcases hb':(xa o n k).ownBlock with _|b
 .simp
 refine Rg (λe=>?_);cases e;exact gz J hb' hb I
theorem ib{base e size:Nat}{v:Ud}(h:w.ownsRow base e size v n xs):∃o k,v=xa o n k:=by
 obtain⟨_,⟨h1,h2⟩|⟨g,cap,cur,hv,_⟩⟩:=h
 .simp_all
 simp_all
theorem gT{base e k:Nat}(h:w.ownsRow base e 1 (xa o n k) n xs)(hi:i<n):∃g,o=some ⟨g,0,none⟩/\g<w.heap.size/\w.cell? (TU g i)=xs[i]? :=by
 obtain⟨_,⟨h1,h2⟩|⟨g,cap,cur,U,_,I,hle,_,hcs,J⟩⟩:=h
 .omega
 cases U;refine⟨g,rfl,dK I,?_⟩;rw[EQ I,<-UN,<-J,U8,Uh zo]
def R5.at:∀{rs:T6} {ps:List (TX)} {j:Nat} {r:Rl} {l:T6},R5 w rs ps->rs.drop j=r::l->∃p,ps[j]?=some p/\Q9 w (gO r) p
 |[],_,j,r,l,_,h=>by simp at h
 |x::xs,ps,0,r,l,⟨p,ps',e,h1,_⟩,h=>by
  simp_all
 |x::xs,ps,j+1,r,l,⟨p,ps',e,_,h2⟩,h=>by
  obtain⟨q,hq,hf⟩:=h2.at (j:=j) (r:=r) (l:=l) zv;simp_all
theorem mL:∀a b:T6,iw (a++b)=iw a+iw b:=by intro I;induction I<;>grind[iw]
def rZ(m:Nat):∀l:T6,(∀r∈l,gI (gO r)<=m)->iw l<=l.length*m
 |[],_=>by simp[iw]
 |r::l,h=>by
  have h1:=h r Um;have h2:=rZ m l (λx I=>h x (Ul I));rw[iw,UM,WJ];omega
def RS.later(h:RS w W mb x o1 n1 k1 o2 n2 k2 al rs)(I:XL W W'):RS w W' mb x o1 n1 k1 o2 n2 k2 al rs:=
 ⟨(I.block _ (dK h.rbx)).trans h.rbx,(I.block _ (dK h.mbx)).trans h.mbx,h.fbx.later I,(KT.below I).acts h.act,h.rul.later I,h.bel.trans (I.mono h.bel.size),h.lt⟩
def RS.alloc(h:RS w W mb x o1 n1 k1 o2 n2 k2 al rs)(o:Obj):RS w (W.alloc o) mb x o1 n1 k1 o2 n2 k2 al rs:=h.later gC
def RS.call(h:RS w W mb x o1 n1 k1 o2 n2 k2 al rs)(hf:FB W' (mb+1) y)(hg:W.grownBy W' (some (mb+1))):RS w W' mb y o1 n1 k1 o2 n2 k2 al rs:=
 ⟨(hg.block _ (dK h.rbx) (by have:=h.lt;simp;omega)).trans h.rbx,(hg.block _ (dK h.mbx) zp).trans h.mbx,hf,(KT.fb h.fbx hg).acts h.act,h.rul.fb h.fbx hg,su h.bel hg (by have:=h.lt;omega),h.lt⟩
def KH{t:Tk}(h:al.drop i=t::r):mC al i (al.drop i)=zC (al.take i) i t++mC al (i+1) (al.drop (i+1)):=by
 rw[h,mC,lG h]
def IE{t:Rl}{r:T6}(h:rs.drop i=t::r):kV al i (rs.drop i)=qB al i t++kV al (i+1) (rs.drop (i+1)):=by
 rw[h,kV,lG h]
def Nc{l:TY}{a:Tk}{k:Nat}{t:Tk}(h:l.drop k=t::r):nB (l.drop k) a=(if t.s.toList=a.s.toList then [(a.p,3)] else [])++nB (l.drop (k+1)) a:=by
 rw[h,nB,lG h]
theorem Fg.leaf_size(hQ:∀t,Q t->t.s.size<=m):∀{f:Fm} {s:Ub} {p:Nat},Fg Q f->zh f s p->s.size<=m:=by intro I;induction I<;>grind[Fg,zh]
def qS(t:Tk):Prop:=sr t/\t.s.size<=400
theorem wV(s:Ub)(w:Uc):Calls prog 137 #[xj s] w λe w'=>OH s w w' e:=by
 by_cases hs:400<s.size
 .have HL:Hid (iz s=.error (0,1)):=by show _=_;unfold iz;simp_all
  have cq:(400:Int)<(s.size:Int):=zo;clear hs;go_in;go_wp2_with fail;have rc:=λo=>EQ (gi w (xi #[TV,TV] 228)) o
  exact py (v:=.tuple #[.agg #[TV,TV],xd xh 0,xd xh 1]) (by simp[results,results137,go_sem,rc]) rfl ⟨gC,by rw[HL.out];rfl⟩
 have cq:¬ (400:Int)<(s.size:Int):=zo;have HS:=fy (show s.size<=400 from zo);have aL:Hid (iz s=uZ s.size (ie (jr s (s.size+1) 0))):=by show _=_;unfold iz;rw[T' hs]
 have HP:=fy (λW=>Hz s W HS.out);have bI:(jr s (s.size+1) 0).length<=401:=by have:=rm s (s.size+1) 0 (Ux);omega
 have HQ:Hid (∀t∈jr s (s.size+1) 0,qS t):=λt ht=>⟨vN s _ _ t ht,by have:=qD _ 0 (Ux) t ht;omega⟩
 generalize jr s (s.size+1) 0=L at *;clear hs;go_in
 go_wp2_with (refine(HP.out _).mono ?_)
 rintro e w1 ⟨aN,o1,n1,k1,o2,n2,k2,hx⟩;have bK:w.heap.size<w1.heap.size:=by have:=aN.size;simp at this;omega
 have ay:=show w1.heap[w.heap.size]?=some (xi #[TV,TV] 228 (0,0)) from(aN.block _ zp).trans (gi _ _)
 have aH:=((Uo w.heap.size w).alloc (XH) (xi #[TV,TV] 228)).trans (aN.mono zp);clear aN;cases hm:ie L with
 |error q=>
  rw[hm] at hx;have aQ:=hx;clear hx;subst aQ;have HL:Hid (iz s=.error (q,2)):=by show _=_;rw[aL.out,hm];rfl
  clear hm aL;have rf:=gh ay;have rc:=EQ ay;go_wp2_with fail;refine py (v:=.tuple #[.agg #[TV,TV],xd xh q,xd xh 2]) ?_ rfl ?_
  .have U:(((w1.setCell (TU w.heap.size 0) TV).setCell (TU w.heap.size 1) TV).alloc (xi #[xa o1 n1 k1,xa o2 n2 k2] 228)).heap[w.heap.size]?=some (xi #[TV,TV] 228 (0,0)):=(XD zs).trans (gj (gj ay 0 _) 1 _);clear rc rf;have rc:=EQ U;simp[results,results137,go_sem,rc]
  refine⟨((aH.setCell (XH) _).setCell (XH) _).alloc zs _,?_⟩;rw[HL.out];rfl
 |ok m=>
  obtain⟨al,rs⟩:=m;rw[hm] at hx;obtain⟨rfl,ha,hr⟩:=hx;have HL:Hid (iz s=if (Fr (0,0) (ke al rs)).2≠0 then .error (Fr (0,0) (ke al rs)) else if 16<iw rs then .error (s.size,4) else .ok (al,rs)):=by show _=_;rw[aL.out,hm];rfl
  have ba:=nM qS hm HQ.out;have a6:al.length<=401:=zo;have cp:rs.length<=401:=zo;have HG:=fy (λr hr=>(ba.2.2.2.1 r hr).mono bI);have ck:=IR.len ha;have cl:=Sd.len hr;subst ck cl;have h0:RS w ((w1.alloc (xi #[xa o1 al.length k1,xa o2 rs.length k2] 228)).alloc (xi #[xd xh 0,xd xh 0] 284)) w1.heap.size (0,0) o1 al.length k1 o2 rs.length k2 al rs:=by
   have aO:=((Uo w1.heap.size w1).alloc (XH) (xi #[xa o1 al.length k1,xa o2 rs.length k2] 228)).alloc zp (xi #[xd xh 0,xd xh 0] 284);exact⟨(aO.block _ bK).trans ay,(XD zp).trans (gi _ _),gu zp,(KT.below aO).acts ha,(show Sd w1 _ _ _ _ from hr).later aO,aH.trans (aO.mono aH.size),bK⟩
  have b3:=fy ba.2.1;clear ha hr hm ba aL HP ay aH HQ bI;go_wp2_with fail;obtain⟨g,rfl⟩:∃g,o1=some ⟨g,0,none⟩:=by
   obtain⟨t,l,ht⟩:=jc (L:=al) (i:=0) (by have:=b3.out;exact List.length_pos_iff.2 this);obtain⟨g,ai,_⟩:=h0.act.tok ht;simp_all
  go_loopw [8] (λv wr=>∃(i:Nat)(y:T3),i<=al.length/\v=xd xh i/\RS w wr w1.heap.size y (TT g) al.length k1 o2 rs.length k2 al rs/\Hid (Fr (0,0) (ke al rs)=Fr y (mC al i (al.drop i)++kV al 0 rs))) (λv _=>al.length-(intOf v).toNat)
  .exact⟨0,_,Ux,rfl,h0,rfl⟩
  clear h0;obtain⟨i,y,hi,rfl,ak,HY⟩:=hrel;have mc:=EQ ak.mbx;have cv:=dK ak.fbx;by_cases hlt:i<al.length
  .obtain⟨t,l,ht⟩:=jc hlt;obtain⟨g',ai,hg,-,t0,t1,t2⟩:=ak.act.tok ht;cases ai;have HT:=fy ht;clear ht
   go_upto_if 46 with fail
   go_cut [] (λwc=>RS w wc w1.heap.size (Fr y (jw t)) (TT g) al.length k1 o2 rs.length k2 al rs/\wc.heap[wr.heap.size]?=some (xi #[xd .u8 (gR t.k),xj t.s,xd xh t.p] 232 (0,0)))
   case first=>
    have H2:=ak.alloc (xi #[xd .u8 (gR t.k),xj t.s,xd xh t.p] 232);rcases zc 8 t.s.size with⟨hl,hL⟩|⟨hl,hL⟩
    .have aj:=fy (show jw t=[(t.p,1)] from Uh hl);clear hl;go_wp2_with fail;refine(kA t.p 1 H2.fbx).mono ?_;rintro e w3 ⟨rfl,bB,aP⟩;have H3:=H2.call bB aP;have HB3:=(aP.block wr.heap.size zp zs).trans (gi _ _);clear bB aP;go_wp2_with fail
     go_meet
     rw[aj.out];trivial
    .have aj:=fy (show jw t=[] from T' hl);clear hl;go_wp2_with fail
     go_meet
     rw[aj.out];exact⟨H2,gi _ _⟩
   case rest=>
   obtain⟨aX,aV⟩:=hcut;clear ak t0 t1 t2 mc;generalize wr.heap.size=b0 at *;clear hg;go_wp2
   go_loopw [10] (λv wq=>∃(k:Nat)(z:T3),k<=i/\v=xd xh k/\RS w wq w1.heap.size z (TT g) al.length k1 o2 rs.length k2 al rs/\wq.heap[b0]?=some (xi #[xd .u8 (gR t.k),xj t.s,xd xh t.p] 232 (0,0))/\Hid (Fr (Fr y (jw t)) (nB (al.take i) t)=Fr z (nB ((al.take i).drop k) t))) (λv _=>i-(intOf v).toNat)
   .exact⟨0,_,Ux,rfl,aX,aV,rfl⟩
   clear aX aV;obtain⟨k,z,hk,rfl,I,ao,HZ⟩:=hrel;have mc:=EQ I.mbx;have bc:=EQ ao;have aR:=dK ao;by_cases hki:k<i
   .obtain⟨u,l2,hu⟩:=jc (L:=al) (i:=k) zo;obtain⟨g',ai,aP,-,u0,u1,u2⟩:=I.act.tok hu;cases ai;have bA:(al.take i).drop k=u::((al.take i).drop (k+1)):=by
     have h1:k<(al.take i).length:=zs;rw[UK h1]
     congr 1
     have h2:al[k]?=some u:=by have:=congrArg (λl=>l[0]?) hu;simpa using this
     have h3:k<al.length:=zo;simp_all
    have bj:=fy (Nc (a:=t) bA);clear hu bA;cases he:(u.s.toList==t.s.toList) with
    |true=>
     have HE:=fy (VE.1 he);go_wp2;go_quiet (fail);go_wp2_with fail;refine(kA t.p 3 (I.later (iK _ _)).fbx).mono ?_;rintro e w4 ⟨rfl,aA,au⟩;have H4:=(I.later (iK _ _)).call aA au;have bU:=(au.block b0 zv zs).trans (((iK wr nq).block b0 aR).trans ao);clear aA au;go_wp2
     go_roundw
     .exact⟨k+1,_,zo,zf,H4,bU,by show _=_;rw[HZ.out,bj.out,Uh HE.out];rfl⟩
     simp[intOf];omega
    |false=>
     have HE:=fy (V3.1 he);go_wp2;go_quiet (fail);go_wp2
     go_roundw
     .exact⟨k+1,_,zo,zf,I.later (iK _ _),((iK wr nq).block b0 aR).trans ao,by show _=_;rw[HZ.out,bj.out,T' HE.out];rfl⟩
     simp[intOf];omega
   have cj:k=i:=zo;subst cj;have hz:Fr (Fr y (jw t)) (nB (al.take k) t)=z:=by
    rw[HZ.out,UX zs];rfl
   have HN:Hid (Fr (0,0) (ke al rs)=Fr z ((if 6<=k then [(t.p,4)] else [])++(mC al (k+1) (al.drop (k+1))++kV al 0 rs))):=by
    show _=_;rw[HY.out,KH HT.out,zC,<-hz];simp only[jX]
   clear hz HZ HY;by_cases h6:6<=k
   .have b8:(6:Int)<=(k:Int):=zo;rw[Uh h6] at HN;go_wp2_with fail;refine(kA t.p 4 I.fbx).mono ?_;rintro e w4 ⟨rfl,aA,au⟩;have H4:=I.call aA au;clear aA au;go_wp2
    go_roundw
    .exact⟨k+1,_,zo,zf,H4,HN⟩
    simp[intOf];omega
   have b8:¬ (6:Int)<=(k:Int):=zo;rw[T' h6] at HN;go_wp2
   go_roundw
   .exact⟨k+1,_,zo,zf,I,HN⟩
   simp[intOf];omega
  have cd:i=al.length:=zo;subst cd;have br:Hid (Fr (0,0) (ke al rs)=Fr y (kV al 0 (rs.drop 0))):=by
   show _=_;rw[HY.out,UX (XH)];rfl
  clear HY hlt hi;go_wp2_with fail;clear mc cv
  go_loopw [11] (λv wq=>∃(j:Nat)(z:T3),j<=rs.length/\v=xd xh j/\RS w wq w1.heap.size z (TT g) al.length k1 o2 rs.length k2 al rs/\Hid (Fr (0,0) (ke al rs)=Fr z (kV al j (rs.drop j)))) (λv _=>rs.length-(intOf v).toNat)
  .exact⟨0,_,Ux,rfl,ak,br⟩
  clear ak br;obtain⟨j,z,hj,rfl,I,HZ⟩:=hrel;have mc:=EQ I.mbx;have aR:=dK I.fbx;by_cases hjl:j<rs.length
  .obtain⟨r,l,hr⟩:∃r l,rs.drop j=r::l:=by
    cases hd:rs.drop j with
    |nil=>have:=congrArg Rn hd;simp at this;omega
    |cons r l=>simp
   obtain⟨g2,ai,cb,-,a,b,s',c,o',n',k',d,p,bh,q0,q1,q2,q3,q4,q5,q6⟩:=I.rul.at hr;have ha:=bh.1;subst ai ha;have bY:=HG.out r (Vk (i:=j) za);have bl:=fy (IE (al:=al) hr);clear hr
   go_upto_if 88 with fail
   go_cut [] (λwc=>RS w wc w1.heap.size (Fr z (if 4<=j then [(r.pl,4)] else [])) (TT g) al.length k1 (TT g2) rs.length k2 al rs/\wc.heap[wr.heap.size]?=some (xi #[xd xh r.pl,xd .u8 b,xj s',xd xh c,xa o' n' k',xd xh d,xk p] 235 (0,0))/\Ss wc r r.pl b s' c o' n' k' d p)
   case first=>
    have H4:=I.alloc (xi #[xd xh r.pl,xd .u8 b,xj s',xd xh c,xa o' n' k',xd xh d,xk p] 235);have aT:=(KT.alloc wr (xi #[xd xh r.pl,xd .u8 b,xj s',xd xh c,xa o' n' k',xd xh d,xk p] 235)).rl bh;by_cases hl:4<=j
    .have hL:(4:Int)<=(j:Int):=zo;have aj:=fy hl;clear hl;go_wp2_with fail;refine(kA r.pl 4 H4.fbx).mono ?_;rintro e w5 ⟨rfl,bC,aC⟩;have H5:=H4.call bC aC;have bo:=(KT.fb H4.fbx aC).rl aT;have bV:=(aC.block wr.heap.size zp zs).trans (gi _ _);clear bC aC;go_wp2_with fail
     go_meet
     rw[Uh aj.out];exact⟨H5,bV,bo⟩
    .have hL:¬ (4:Int)<=(j:Int):=zo;have aj:=fy hl;clear hl;go_wp2_with fail
     go_meet
     rw[T' aj.out];exact⟨H4,gi _ _,aT⟩
   case rest=>
   obtain⟨J,aq,aE⟩:=hcut;have bM:=dK aq;have bc:=EQ aq;clear I bh mc q0 q1 q2 q3 q4 q5 q6 cb;have mc:=EQ J.mbx;rcases bY with⟨hcall,hwq,_,hfn,x,hxq,hxk,hargs⟩|⟨hcall,hfg,_,_⟩
   .have hp:=aE.2;rw[Uh hcall] at hp;obtain⟨-,cr,b',cm,ca,cn⟩:=hp;subst cr b' ca cn;clear cm;have aK:=fy hcall;have aJ:=fy hfn;have b5:=fy hwq.2;have bZ:Hid (∀t∈r.args,(t.k=2\/t.k=3)/\t.s.size<=400/\(t.k=3->∃e:UInt8,t.s=⟨#[e]⟩)):=by
     intro t ht;rcases hargs with ha|⟨y',hyq,hyk,ha⟩
     .rw[ha,Ru] at ht;subst ht;exact⟨Rh hxk,hxq.2,λh=>zo⟩
     rw[ha] at ht;rcases List.mem_cons.1 ht with rfl|ht
     .exact⟨Rh hxk,hxq.2,λh=>zo⟩
     rw[Ru] at ht;subst ht;exact⟨hyk,hyq.2,λh=>by obtain⟨e,he,_⟩:=yn hyq.1 h;simp_all⟩
    have aU:r.args.length<=2/\0<r.args.length:=by
     rcases hargs with ha|⟨y',hyq,hyk,ha⟩<;>rw[ha]<;>simp
    clear hcall hfn hwq hxq hxk hargs x;go_wp2_with fail;refine(rY a6 .nil _ _ _ _ _ _ _ (w1.heap.size+1) _ none J.act J.fbx rfl (λ_ _ h=>False.elim h)).mono ?_;rintro e w6 ⟨rfl,aB,ag⟩;have H6:=J.call aB ag;have aI:=(ag.block wr.heap.size bM zs).trans aq;have bq:=(KT.fb J.fbx ag).rl aE;have cu:=dK aI;clear aB ag mc bc;have mc:=EQ H6.mbx;have bc:=EQ aI;go_wp2_with fail;refine(Bg a6 r H6.act H6.fbx bq aK.out aU.1 aU.2 bZ.out b5.out).mono ?_;rintro e w7 ⟨rfl,bD,bF⟩;have H7:=H6.call bD bF;clear bD bF;go_wp2
    go_roundw
    .exact⟨j+1,_,zo,zf,H7,by show _=_;rw[HZ.out,bl.out,qB,aJ.out,Uh aK.out];simp only[jX];try rfl⟩
    simp[intOf];omega
   have hp:=aE.2;rw[T' za] at hp;obtain⟨bd,aF⟩:=hp;obtain⟨pp,rfl⟩:=Option.isSome_iff_exists.1 aF;have aK:=fy hcall;have az:Hid (∀s p,zh r.f s p->s.size<=400):=λs p hl=>hfg.leaf_size (λt ht=>ht.2) hl
   clear aF hcall hfg;go_wp2_with fail;refine(rY a6 r.f _ _ _ _ _ _ _ (w1.heap.size+1) _ _ J.act J.fbx bd az.out).mono ?_;rintro e w6 ⟨rfl,aB,ag⟩;have H6:=J.call aB ag;have aI:=(ag.block wr.heap.size bM zs).trans aq;clear aB ag mc bc;have bc:=EQ aI;go_wp2
   go_roundw
   .exact⟨j+1,_,zo,zf,H6,by show _=_;rw[HZ.out,bl.out,qB,T' (show ¬ r.call=true by simp[aK.out])];simp only[jX,Vo]⟩
   simp[intOf];omega
  have bf:j=rs.length:=zo;subst bf;have aY:Hid (Fr (0,0) (ke al rs)=z):=by
   show _=_;rw[HZ.out,UX (XH)];rfl
  have fc:=EQ I.fbx;have rc:=EQ I.rbx;have rf:=gh I.rbx;clear HZ hjl hj;rw[aY.out] at HL;by_cases hx:z.2=0
  .have aQ:((z.2:Nat):Int)=0:=zo;rw[T' zo] at HL;have aJ:=fy (tC (pT al rs) (by rw[aY.out];exact hx));have bm:=fy (λr hr hc=>zx (λt h=>h.1) (HG.out r hr) hc ((mD (List.append_eq_nil_iff.1 aJ.out).2 r hr).2 hc));have az:=fy (λr hr=>by have:=yN (HG.out r hr) (bm.out r hr);omega);clear aJ hx aY;go_wp2_with fail;refine(uq I.rul cp bm.out).mono ?_;rintro e w5 ⟨v5,ps,rfl,aD,bE,bw⟩;have H5:=I.later bw;obtain⟨o5,c5,rfl⟩:=ib aD;clear bw mc fc rc rf aR I aQ;go_wp2
   go_loopw [13,15] (λva vb wq=>∃(j:Nat),j<=rs.length/\va=xd xh (iw (rs.take j))/\vb=xd xh j/\XL w5 wq) (λ_ v _=>rs.length-(intOf v).toNat)
   .exact⟨0,Ux,rfl,rfl,XF⟩
   obtain⟨j,hj,rfl,rfl,aa⟩:=hrel;by_cases hjl:j<rs.length
   .obtain⟨r,l,hr⟩:∃r l,rs.drop j=r::l:=by
     cases hd:rs.drop j with
     |nil=>have:=congrArg Rn hd;simp at this;omega
     |cons r l=>simp
    obtain⟨g5,ai,aC,a7⟩:=gT (gq aD aa) hjl;obtain⟨p,hp,bd⟩:=(bE.later aa).at hr;subst ai;rw[UG,hp] at a7;have hcl':=a7;have hszr:=az.out r (Vk (i:=j) za);have bJ:iw (rs.take j)<=401*449:=by
     have h1:=rZ 449 (rs.take j) (λx hx=>az.out x (VS hx));have h2:(rs.take j).length<=401:=zs;omega
    have b4:Hid (iw (rs.take (j+1))=iw (rs.take j)+gI (gO r)):=by
     show _=_;rw[oO hr,mL];rfl
    clear hr hp a7;generalize iw (rs.take j)=N at *;go_wp2_with fail;refine(xN (gO r) _ _ bd zo).mono ?_;rintro e w6 ⟨rfl,n6,rfl⟩;generalize gI (gO r)=M at *;go_wp2
    go_roundw
    .exact⟨j+1,zo,by rw[b4.out];rfl,zf,aa.trans ((iK wr n6).mono aa.size)⟩
    simp[intOf];omega
   have bf:j=rs.length:=zo;subst bf;clear hjl hj;have bJ:iw rs<=401*449:=by
    have h1:=rZ 449 rs az.out;omega
   rw[W9];have H6:=H5.later aa;clear aa;have mc:=EQ H6.mbx;have rc:=EQ H6.rbx;have rf:=gh H6.rbx;have cu:=dK H6.fbx;by_cases h16:16<iw rs
   .rw[Uh h16] at HL;have bu:(16:Int)<(iw rs:Int):=zo;go_wp2_with fail;have U:((wr.setCell (TU w.heap.size 0) TV).setCell (TU w.heap.size 1) TV).heap[w.heap.size]?=some (xi #[TV,TV] 228 (0,0)):=gj (gj H6.rbx 0 _) 1 _;clear rc rf mc;have rc:=EQ U;refine py (v:=.tuple #[.agg #[TV,TV],xd xh s.size,xd xh 4]) (by simp[results,results137,go_sem,rc]) rfl ?_;refine⟨(H6.bel.setCell (XH) _).setCell (XH) _,?_⟩;rw[HL.out];rfl
   rw[T' h16] at HL;have bu:¬ (16:Int)<(iw rs:Int):=zo;go_wp2_with fail;have U:((wr.setCell (TU w.heap.size 0) (xa (TT g) al.length k1)).setCell (TU w.heap.size 1) (xa o2 rs.length k2)).heap[w.heap.size]?=some (xi #[xa (TT g) al.length k1,xa o2 rs.length k2] 228 (0,0)):=gj (gj H6.rbx 0 _) 1 _;clear rc rf mc;have rc:=EQ U;refine py (v:=.tuple #[.agg #[xa (TT g) al.length k1,xa o2 rs.length k2],xd xh 0,xd xh 0]) (by simp[results,results137,go_sem,rc]) rfl ?_;refine⟨(H6.bel.setCell (XH) _).setCell (XH) _,?_⟩;have bG:=(gp wr w.heap.size 0 (xa (TT g) al.length k1)).trans (gp _ w.heap.size 1 (xa o2 rs.length k2));have bH:=KT.grown bG ⟨_,_,H6.rbx⟩ zp zp;rw[HL.out];exact⟨_,_,_,_,_,_,rfl,bH.acts H6.act,H6.rul.keepTy bH H6.rbx zp bG⟩
  have aQ:¬ ((z.2:Nat):Int)=0:=zo;rw[Uh hx] at HL;go_wp2_with fail
  go_region
  go_wp2_with fail;have U:((wr.setCell (TU w.heap.size 0) TV).setCell (TU w.heap.size 1) TV).heap[w.heap.size]?=some (xi #[TV,TV] 228 (0,0)):=gj (gj I.rbx 0 _) 1 _;have a8:=U;clear rc rf mc fc;have rc:=EQ a8;refine py (v:=.tuple #[.agg #[TV,TV],xd xh z.1,xd xh z.2]) (by simp[results,results137,go_sem,rc]) rfl ?_;refine⟨((I.bel.setCell (XH) _).setCell (XH) _).drew,?_⟩;rw[HL.out]
def qA(w:Uc)(c:UInt8)(v:Int)(J:v=(c.toNat:Int)):(convert 51 9 (xa (TT w.heap.size) 1 1)).run prog (w.alloc (xi #[xd .u8 v] 5))=.ok (xj ⟨#[c]⟩) (w.alloc (xi #[xd .u8 v] 5)):=by
 subst J;refine Vh (P:=prog) _ _ _ 5 (TU w.heap.size 0) 1 [c] underlying51 underlying5 underlying9 (λj I=>?_)
 match j,I with
 |0,_=>exact(EQ (gi _ _) 0).trans rfl
 |j+1,I=>simp at I
def sB(Q:Tk->Prop):∀(f:Fm)(w:Uc)(p:TX),Q9 w f p->Fg Q f->(mg f).size<=1000000->
  Calls prog 138 #[xk p] w λe w'=>e=xm (xj (mg f))/\XL w w'
 |.nil,w,p,_,hf,_=>False.elim hf
 |.node u v a l r,w,p,h,hf,hz=>by
  obtain⟨b,pl,U,rfl,hb,hl,hr⟩:=h;have hzl:(mg l).size<=1000000/\(mg r).size<=1000000:=by
   exact zm42
  obtain⟨hzl,hzr⟩:=hzl;clear hz;have IHL:=fy (sB Q l);have IHR:=fy (sB Q r);have bc:=EQ hb;obtain⟨k,s,q⟩:=a;rcases hf with⟨hk,_,rfl,rfl⟩|⟨hk,rfl,rfl⟩|⟨hk,hfl,rfl⟩|⟨hk,hfl,hfr⟩
  .have I:k=0:=hk;subst I;go_in;go_wp2;go_ret;exact⟨rfl,XF⟩
  .have I:k=1\/k=2\/k=3:=by have:=hk;simp at this;omega
   rcases I with rfl|rfl|rfl
   all_goals
    go_in;go_wp2;go_ret;exact⟨rfl,XF⟩
  .skip
   have J:U=none:=hr;subst J;have I:k=4\/k=5\/k=6\/k=7\/k=8:=by have:=hk;simp at this;omega
   clear hk;rcases I with rfl|rfl|rfl|rfl|rfl
   .have kc:=λw=>qA w 33 (iI 4) rfl
    exact zm22
   .have kc:=λw=>qA w 88 (iI 5) rfl
    exact zm22
   .have kc:=λw=>qA w 78 (iI 6) rfl
    exact zm22
   .have kc:=λw=>qA w 70 (iI 7) rfl
    exact zm22
   have kc:=λw=>qA w 71 (iI 8) rfl
   exact zm22
  skip
  obtain⟨pp,rfl⟩:∃pp,U=some pp:=by
   cases r with
   |nil=>exact False.elim hfr
   |node _ _ _ _ _=>obtain⟨b',_,_,hp,_⟩:=hr;exact⟨_,hp⟩
  have I:k=9\/k=10\/k=11\/k=12:=by have:=hk;simp at this;omega
  clear hk;rcases I with rfl|rfl|rfl|rfl
  .have kc:=λw=>qA w 85 (iI 9) rfl
   exact zm16
  .have kc:=λw=>qA w 38 (iI 10) rfl
   exact zm16
  .have kc:=λw=>qA w 124 (iI 11) rfl
   exact zm16
  have kc:=λw=>qA w 62 (iI 12) rfl
  exact zm16
def l8(s:Ub):Ub × Nat × Nat:=
 match iz s with
 |.error x=>(⟨#[]⟩,x.1,x.2)
 |.ok (al,rs)=>(qw al rs,0,0)
theorem my{s:Ub}(h:iz s=.error x):x.2≠0:=by
 unfold iz at h
 split at h
 .cases h;simp
 cases hm:ie (jr s (s.size+1) 0) with
 |error q=>rw[hm] at h;cases h;simp
 |ok m=>
  obtain⟨al,rs⟩:=m;rw[hm,uZ] at h
  split at h
  .simp_all
  split at h
  .cases h;simp
  cases h
structure Q5(al:TY)(rs:T6):Prop where
 acts:∀t∈al,qS t/\t.k=2
 ne:al≠[]
 alen:al.length<=401
 rules:∀r∈rs,RlGood qS 401 r
 rlen:rs.length<=401
 nof:ke al rs=[]
 nodes:iw rs<=16
def lK{s:Ub}(h:iz s=.ok (al,rs)):Q5 al rs:=by
 unfold iz at h
 split at h
 .cases h
 rename_i hs
 cases hm:ie (jr s (s.size+1) 0) with
 |error q=>rw[hm] at h;cases h
 |ok m=>
  obtain⟨al',rs'⟩:=m;rw[hm,uZ] at h
  split at h
  .cases h
  rename_i h0
  split at h
  .cases h
  rename_i h16
  cases h;have I:(jr s (s.size+1) 0).length<=401:=by have:=rm s (s.size+1) 0 (Ux);omega
  have hg:=nM qS hm (λt J=>⟨vN s _ _ t J,by have:=qD _ 0 (Ux) t J;omega⟩);exact⟨hg.1,hg.2.1,zo,λr hr=>(hg.2.2.2.1 r hr).mono I,zo,tC (pT _ _) zo,zo⟩
def JG(k:Nat):(G9 k).size<=2:=by
 unfold G9;repeat' split
 all_goals decide
def qq(I:∀t,Q t->t.s.size<=m):∀{f:Fm},Fg Q f->(mg f).size<=(m+7)*gI f
 |.nil,h=>False.elim h
 |.node _ _ a l r,h=>by
  rw[mg];have hs:=JG a.1;rcases h with⟨hk,⟨t,ht,_,J,_⟩,rfl,rfl⟩|⟨hk,rfl,rfl⟩|⟨hk,hfl,rfl⟩|⟨hk,hfl,hfr⟩
  .rw[Uh hk,<-J];have:=I t ht;show t.s.size<=(m+7)*1;omega
  .rw[T' zo]
   repeat' split
   all_goals first|(show 4<=(m+7)*1;omega)|(show 5<=(m+7)*1;omega)|(show 3<=(m+7)*1;omega)|omega
  .rw[T' zo,T' zo,T' zo,T' zo,Uh zo];have:=qq I hfl;simp only[Uu];show _+1+_<=(m+7)*(1+gI l+0);have e:(m+7)*(1+gI l+0)=(m+7)+(m+7)*gI l:=by show(m+7)*(1+gI l)=_;rw[W7,Wo]
   rw[e];omega
  rw[T' zo,T' zo,T' zo,T' zo,T' zo];have J:=qq I hfl;have h2:=qq I hfr;simp only[Uu];show 1+_+1+_+1+_+1<=(m+7)*(1+gI l+gI r);rw[W7,W7,Wo];omega
def Hg{t:Tk}(h:al.drop i=t::r):lD out i (al.drop i)=lD ((if 0<i then out++⟨#[44,32]⟩ else out)++t.s) (i+1) (al.drop (i+1)):=by
 rw[h,lD,lG h]
def Ew{t:Rl}{r:T6}(h:rs.drop i=t::r):mI out (rs.drop i)=mI (oP out t) (rs.drop (i+1)):=by
 rw[h,mI,lG h]
def H8(s:Ub)(w:Uc):Calls prog 92 #[xj s] w λe w'=>e=xm (.tuple #[xj (l8 s).1,xd xh (l8 s).2.1,xd xh (l8 s).2.2])/\XL w w':=by
 have au:=fy (λW=>wV s W);have ak:Hid (l8 s=match iz s with| .error x=>(⟨#[]⟩,x.1,x.2)| .ok (al,rs)=>(qw al rs,0,0)):=rfl;go_in
 go_wp2_with (go_at_call 137;refine(au.out _).mono ?_)
 rintro e w1 ⟨ad,hx⟩;cases hm:iz s with
 |error x=>
  rw[hm] at hx;have a7:e=xm (.tuple #[.agg #[TV,TV],xd xh x.1,xd xh x.2]):=hx;subst a7;clear hx;have hp:l8 s=(⟨#[]⟩,x.1,x.2):=by rw[ak.out,hm]
  have HP:=fy hp;have aU:=my hm;have hne':¬ ((x.2:Nat):Int)=0:=zo;clear hp hm ak au aU;go_wp2_with fail;refine py (v:=.tuple #[xj ⟨#[]⟩,xd xh x.1,xd xh x.2]) (by simp[results,results92,go_sem]) rfl ?_;rw[HP.out];exact⟨rfl,ad.alloc ad.size _⟩
 |ok m=>
  obtain⟨al,rs⟩:=m;rw[hm] at hx;obtain⟨o1,n1,k1,o2,n2,k2,rfl,ha,hr⟩:=hx;have HP:Hid (l8 s=(qw al rs,0,0)):=by show _=_;rw[ak.out,hm]
  have hg:=lK hm;have hal:=hg.alen;have hrl:=hg.rlen;have aR:=ha.len;have aS:=hr.len;subst aR aS;have aw:=ir w1 (xi #[xa o1 al.length k1,xa o2 rs.length k2] 228);have hmb:(w1.alloc (xi #[xa o1 al.length k1,xa o2 rs.length k2] 228)).heap[w1.heap.size]?=some (xi #[xa o1 al.length k1,xa o2 rs.length k2] 228 (0,0)):=gi _ _;have ar:=hmb;have HA:=(KT.below aw).acts ha;have HR:=hr.later aw;have HB:=ad.alloc ad.size (xi #[xa o1 al.length k1,xa o2 rs.length k2] 228);clear ha hr hm ak au ad aw hmb;go_wp2_with fail;generalize w1.alloc (xi #[xa o1 al.length k1,xa o2 rs.length k2] 228)=W at *;have a8:w1.heap.size<W.heap.size:=dK ar;obtain⟨g,rfl⟩:∃g,o1=some ⟨g,0,none⟩:=by
   obtain⟨t,l,ht⟩:=jc (L:=al) (i:=0) (by have:=hg.ne;exact List.length_pos_iff.2 this);obtain⟨g,ae,_⟩:=HA.tok ht;exact⟨g,ae⟩
  have mc:=EQ ar
  go_loopw [8,9] (λvo vi wr=>∃(i:Nat)(out:Ub),i<=al.length/\vi=xd xh i/\vo=xj out/\W=wr/\out.size<=10+i*402/\Hid (lD ⟨#[97,99,116,115,32]⟩ 0 al=lD out i (al.drop i))) (λ_ v _=>al.length-(intOf v).toNat)
  .exact⟨0,_,Ux,rfl,rfl,rfl,zd,rfl⟩
  obtain⟨i,out,hi,rfl,rfl,rfl,a6,HO⟩:=hrel;by_cases hlt:i<al.length
  .obtain⟨t,l,ht⟩:=jc hlt;obtain⟨g',ae,hgW,-,t0,t1,t2⟩:=HA.tok ht;cases ae;have htz:t.s.size<=400:=(hg.acts t (pJ ht)).1.2;have aB:=fy (Hg (out:=out) ht);clear ht;rcases zc 0 i with⟨h0,h0'⟩|⟨h0,h0'⟩
   .go_wp2
    go_roundw
    .exact⟨i+1,_,zo,by go_num,rfl,by first|rfl|trivial,by simp only[Uu];show out.size+2+t.s.size<=_;omega,by show _=_;rw[HO.out,aB.out,Uh h0]⟩
    simp[intOf];omega
   go_wp2
   go_roundw
   .exact⟨i+1,_,zo,by go_num,rfl,by first|rfl|trivial,by simp only[Uu];omega,by show _=_;rw[HO.out,aB.out,T' h0]⟩
   simp[intOf];omega
  have aP:i=al.length:=zo;subst aP;have aA:Hid (qw al rs=mI (out++⟨#[59,10]⟩) (rs.drop 0)):=by
   show _=_;rw[qw,HO.out,UX (XH)];rfl
  have aW:(out++⟨#[59,10]⟩:Ub).size<=200000:=by simp only[Uu];show out.size+2<=_;omega
  have aX:out.size<=200000:=zo;clear HO a6;go_wp2_with fail;generalize (out++⟨#[59,10]⟩:Ub)=out2 at *;clear mc
  go_loopw [8,10] (λvo vi wr=>∃(j:Nat)(out:Ub),j<=rs.length/\vi=xd xh j/\vo=xj out/\XL W wr/\out.size<=200000+j*200000/\Hid (qw al rs=mI out (rs.drop j))) (λ_ v _=>rs.length-(intOf v).toNat)
  .exact⟨0,_,Ux,rfl,rfl,XF,zo,aA⟩
  clear aA aW aX hlt hi;obtain⟨j,J,hj,rfl,rfl,I,hsz3,HO⟩:=hrel;have hmb:=(I.block _ a8).trans ar;have mc:=EQ hmb;have hzr:w1.heap.size<wr.heap.size:=dK hmb;clear hmb;by_cases hjl:j<rs.length
  .obtain⟨r,l,hr⟩:∃r l,rs.drop j=r::l:=by
    cases hd:rs.drop j with
    |nil=>have:=congrArg Rn hd;simp at this;omega
    |cons r l=>exact⟨r,l,rfl⟩
   obtain⟨g2,ae,hg2,-,a,b,s',c,o',n',k',d,p,aG,q0,q1,q2,q3,q4,q5,q6⟩:=(HR.later I).at hr;subst ae;have an:r∈rs:=Vk (i:=j) (by rw[hr];exact Um);have av:=fy (Ew (out:=J) hr);have aK:=hg.rules r an;clear hr an;rcases aK with⟨hcall,hwq,_,hfn,x,hxq,hxk,hargs⟩|⟨hcall,hfg,hfz,_⟩
   .have hp:=aG.2;rw[Uh hcall] at hp;obtain⟨-,aY,hc5,ay,hd5,aV⟩:=hp;subst aY aV;have U:IR wr o' n' k' r.args:=ay;have aT:=U.len;subst aT;have hxs:=hxq.2;have hws:=hwq.2;have aa:Hid (oP J r=(if 1<r.args.length then J++⟨#[114,117,108,101,32]⟩++r.word.s++⟨#[40]⟩++lP r.args 0++⟨#[44,32]⟩++lP r.args 1 else J++⟨#[114,117,108,101,32]⟩++r.word.s++⟨#[40]⟩++lP r.args 0)++⟨#[41,59,10]⟩):=by show _=_;rw[oP,Uh hcall]
    rcases hargs with harg|⟨y,hyq,hyk,harg⟩
    .rw[harg] at U aa q4;obtain⟨ga,ax,aE,-,a0,a1,a2⟩:=U.tok (i:=0) (t:=x) (r:=[]) rfl;subst ax;have ag:r.args.length=1:=by rw[harg];rfl
     simp only[ag] at *;clear U ay hcall hfn harg hxq hxk hwq;have aN:wr.cell? (TU ga 1)=some (xj x.s):=a1;go_wp2;go_quiet (fail);go_wp2
     go_roundw
     .exact⟨j+1,_,zo,by go_num,rfl,(I.alloc I.size _).trans ((iK _ nq).mono (by have:=I.size;simp;omega)),by simp only[Uu];show J.size+5+r.word.s.size+1+x.s.size+3<=_;omega,by show _=_;rw[HO.out,av.out,aa.out];rfl⟩
     simp[intOf];omega
    rw[harg] at U aa q4;obtain⟨ga,ax,aE,-,a0,a1,a2⟩:=U.tok (i:=0) (t:=x) (r:=[y]) rfl;subst ax;obtain⟨ga',aD,-,-,b0,b1,b2⟩:=U.tok (i:=1) (t:=y) (r:=[]) rfl;cases aD;have ag:r.args.length=2:=by rw[harg];rfl
    simp only[ag] at *;have hys:=hyq.2;clear U ay hcall hfn harg hxq hxk hwq hyq hyk;have aN:wr.cell? (TU ga 1)=some (xj x.s):=a1;have b1':wr.cell? (TU ga 4)=some (xj y.s):=b1;go_wp2;go_quiet (fail);go_wp2
    go_roundw
    .exact⟨j+1,_,zo,by go_num,rfl,(I.alloc I.size _).trans ((iK _ nq).mono (by have:=I.size;simp;omega)),by simp only[Uu];show J.size+5+r.word.s.size+1+x.s.size+2+y.s.size+3<=_;omega,by show _=_;rw[HO.out,av.out,aa.out];rfl⟩
    simp[intOf];omega
   have hp:=aG.2;rw[T' (by simp[hcall])] at hp;obtain⟨aF,ai⟩:=hp;obtain⟨pp,rfl⟩:=Option.isSome_iff_exists.1 ai;have aa:Hid (oP J r=J++⟨#[114,117,108,101,32]⟩++mg r.f++⟨#[59,10]⟩):=by show _=_;rw[oP,T' (by simp[hcall])]
   have hfz2:(mg r.f).size<=170000:=by
    have h1:=qq (m:=400) (λt ht=>ht.2) hfg;have h2:=Nat.mul_le_mul_left 407 hfz;omega
   have aL:=aF.later ((XF).alloc (XH) (xi #[xd xh a,xd .u8 b,xj s',xd xh c,xa o' n' k',xd xh d,xk (some pp)] 235));clear aF ai hcall hfz;go_wp2_with fail;refine(sB qS r.f _ _ aL hfg zo).mono ?_;rintro e w5 ⟨rfl,aC⟩;have aJ:=(I.alloc I.size _).trans (aC.mono (by have:=I.size;simp;omega));clear aC;generalize mg r.f=tx at *;go_wp2
   go_roundw
   .exact⟨j+1,_,zo,by go_num,rfl,aJ,by simp only[Uu];show J.size+5+tx.size+2<=_;omega,by show _=_;rw[HO.out,av.out,aa.out]⟩
   simp[intOf];omega
  have aQ:j=rs.length:=zo;subst aQ;have HT:Hid (qw al rs=J):=by
   show _=_;rw[HO.out,UX (XH)];rfl
  go_wp2_with fail;refine py (v:=.tuple #[xj J,xd xh 0,xd xh 0]) (by simp[results,results92,go_sem]) rfl ?_;rw[HP.out];refine⟨?_,HB.trans (I.mono HB.size)⟩;show _=xm (.tuple #[xj (qw al rs),xd xh 0,xd xh 0]);rw[HT.out]
def EH:Prop:=∀(s:Ub)(w:Uc),SS w->Calls prog 15 #[xj s] w λe w'=>e=xm (.tuple #[xj (l8 s).1,xd xh (l8 s).2.1,xd xh (l8 s).2.2])/\XL w w'
def LW(w:Uc)(lb:Nat):Prop:=w.heap[lb]?=some (xi #[TV,xd xh 0,TV,TV,TV,TV,TV,TV,TV] 71 (0,0))
def LW.later(h:LW w lb)(I:XL w w'):LW w' lb:=(I.block lb (dK h)).trans h
def lC:Calls prog 93 #[xd xh a] w λe w'=>e=xm (xd xh a)/\w'=w:=by
 go_in;go_wp2;go_ret;simp
def C5(hP:EH)(w:Uc)(hG:SS w):
  Calls prog 54 #[xk (TT lb),(.agg #[xd xh 1,xd xh oa,xj os,xj ot,xa l1 l2 l3,xa f1 f2 f3,xa m1 m2 m3])] w λe w'=>e=xm (xn true)/\XL w w':=by
 go_in;go_wp2_with fail;refine(hP os _ (hG.alloc _)).mono ?_;rintro e w1 ⟨rfl,J⟩;have I:=(J.block w.heap.size zp).trans (gi w (xi #[xd xh 1,xd xh oa,xj os,xj ot,xa l1 l2 l3,xa f1 f2 f3,xa m1 m2 m3] 74));have hz1:w.heap.size<w1.heap.size:=dK I;have bc:=EQ I;clear I;have U:=fy (H8 os);generalize l8 os=pm at *;obtain⟨tx,pl,er⟩:=pm;go_wp2_with fail;refine(U.out _).mono ?_;rintro e w2 ⟨rfl,aa⟩
 go_wp2_with (go_at_call 93;refine(lC).mono ?_;rintro e w3 ⟨rfl,rfl⟩)
 go_ret;exact⟨rfl,(gC.trans (J.mono zp)).trans (aa.mono zo)⟩
def Fc(p q:TX):T1:=#[xd xh 1,xd xh 0,xj ⟨#[97,99,116,115,32,97,44,98,59,114,117,108,101,32,114,101,115,112,111,110,115,101,40,97,44,98,41,59]⟩,xj ⟨#[]⟩,TV,TV,TV,xd xh 1,xd xh 0,xj ⟨#[97,99,116,115,32,97]⟩,xj ⟨#[]⟩,TV,TV,TV,xd xh 2,xd xh 0,xj ⟨#[97,99,116,115,32,97,44,98,59,114,117,108,101,32,114,101,115,112,111,110,115,101,40,97,44,98,41,59]⟩,xj ⟨#[]⟩,xa p 2 2,TV,TV,xd xh 2,xd xh 0,xj ⟨#[97,99,116,115,32,97,44,98,59,114,117,108,101,32,114,101,115,112,111,110,115,101,40,97,44,98,41,59]⟩,xj ⟨#[]⟩,xa q 1 1,TV,TV,xd xh 3,xd xh 0,xj ⟨#[97,99,116,115,32,97,44,98,59,114,117,108,101,32,114,101,115,112,111,110,115,101,40,97,44,98,41,59]⟩,xj ⟨#[]⟩,TV,TV,TV,xd xh 3,xd xh 0,xj ⟨#[97,99,116,115]⟩,xj ⟨#[]⟩,TV,TV,TV,xd xh 4,xd xh 0,xj ⟨#[]⟩,xj ⟨#[]⟩,TV,TV,TV,xd xh 5,xd xh 0,xj ⟨#[97,99,116,115,32,97,44,98,59,114,117,108,101,32,114,101,115,112,111,110,115,101,40,97,44,98,41,59]⟩,xj ⟨#[]⟩,TV,TV,TV,xd xh 6,xd xh 0,xj ⟨#[83]⟩,xj ⟨#[]⟩,TV,TV,TV,xd xh 7,xd xh 0,xj ⟨#[97,99,116,115,32,97,44,98,59,114,117,108,101,32,114,101,115,112,111,110,115,101,40,97,44,98,41,59]⟩,xj ⟨#[]⟩,TV,TV,TV,xd xh 8,xd xh 0,xj ⟨#[]⟩,xj ⟨#[]⟩,TV,TV,TV,xd xh 9,xd xh 0,xj ⟨#[97,99,116,115,32,97,44,98,59,114,117,108,101,32,114,101,115,112,111,110,115,101,40,97,44,98,41,59]⟩,xj ⟨#[]⟩,TV,TV,TV,xd xh 10,xd xh 0,xj ⟨#[120]⟩,xj ⟨#[]⟩,TV,TV,TV,xd xh 11,xd xh 0,xj ⟨#[120]⟩,xj ⟨#[97]⟩,TV,TV,TV,xd xh 12,xd xh 0,xj ⟨#[120]⟩,xj ⟨#[]⟩,TV,TV,TV,xd xh 13,xd xh 0,xj ⟨#[120]⟩,xj ⟨#[]⟩,TV,TV,TV,xd xh 14,xd xh 0,xj ⟨#[120]⟩,xj ⟨#[]⟩,TV,TV,TV,xd xh 15,xd xh 0,xj ⟨#[]⟩,xj ⟨#[]⟩,TV,TV,TV]
def Eg:Calls prog 35 #[] w λe w'=>e=xm (xa (TT (w.heap.size+2)) 18 18)/\w'=((w.alloc (xi #[xj ⟨#[97]⟩,xj ⟨#[98]⟩] 9)).alloc (xi #[xj ⟨#[99]⟩] 9)).alloc (xi (Fc (TT w.heap.size) (TT (w.heap.size+1))) 74):=by
 go_in;go_wp2;go_ret;trivial
def Sc(w:Uc)(o:TX)(n:Nat):Prop:=∀i,i<n->∃b off,o=some ⟨b,off,none⟩/\b<w.heap.size/\∃(kd oa:Int)(os ot:Ub)(l1:TX)(l2 l3:Nat)(f1:TX)(f2 f3:Nat)(m1:TX)(m2 m3:Nat),
  w.cell? (TU b (off+i*7))=some (xd xh kd)/\w.cell? (TU b (off+i*7+1))=some (xd xh oa)/\w.cell? (TU b (off+i*7+2))=some (xj os)/\w.cell? (TU b (off+i*7+3))=some (xj ot)/\
  w.cell? (TU b (off+i*7+4))=some (xa l1 l2 l3)/\w.cell? (TU b (off+i*7+5))=some (xa f1 f2 f3)/\w.cell? (TU b (off+i*7+6))=some (xa m1 m2 m3)
def Sc.later(h:Sc w o n)(J:XL w w'):Sc w' o n:=by
 intro i hi;obtain⟨b,off,ho,I,kd,oa,os,ot,l1,l2,l3,f1,f2,f3,m1,m2,m3,U,h1,h2,h3,h4,h5,h6⟩:=h i hi;have e:=λa=>Fd J b a I
 exact⟨b,off,ho,Uw I J.size,kd,oa,os,ot,l1,l2,l3,f1,f2,f3,m1,m2,m3,(e _).trans U,(e _).trans h1,(e _).trans h2,(e _).trans h3,(e _).trans h4,(e _).trans h5,(e _).trans h6⟩
def j8(u v:Nat->Bool):Nat->Nat->Bool
 |0,_=>false
 |c+1,i=>v i||(u i&&j8 u v c (i+1))
def ni(u:Nat->Bool):Nat->Nat->Bool
 |0,_=>true
 |c+1,i=>u i&&ni u c (i+1)
def FZ(w:Uc)(u:Nat->Bool){g:Nat}(i n:Nat)(hu:∀k,i<=k->k<=n->w.cell? (TU g k)=some (xn (u k)))(hn:n<ng)(hc:ng<=100000000000000)(hi:i<=n+1):
  Calls prog 206 #[xa (TT g) ng cg,xd xh i,xd xh n] w λe w'=>e=xm (xn (ni u (n+1-i) i))/\w'=w:=by
 have HU:=fy hu;clear hu;go_in;go_wp2
 go_loopw [7] (λv wr=>∃k:Nat,v=xd xh (k:Int)/\i<=k/\k<=n+1/\Hid (ni u (n+1-i) i=ni u (n+1-k) k)/\Hid (w=wr)) (λv _=>n+1-(intOf v).toNat)
 .exact⟨i,rfl,XH,hi,rfl,rfl⟩
 obtain⟨k,rfl,U,hkn,I,HW⟩:=hrel;have hw:=HW.out;subst hw;clear HW;by_cases hlt:k<=n
 .have ck:=HU.out k U hlt;have aa:(k:Int)<=(n:Int):=zo;have J:Hid (ni u (n+1-k) k=(u k&&ni u (n+1-(k+1)) (k+1))):=by
   show _=_;rw[show n+1-k=(n+1-(k+1))+1 from zo,ni]
  cases hb:u k with
  |false=>
   rw[hb] at ck;have HF:Hid (ni u (n+1-i) i=false):=by show _=_;rw[I.out,J.out,hb];rfl
   clear I J hb;exact zm61
  |true=>
   rw[hb] at ck;have HF:Hid (ni u (n+1-i) i=ni u (n+1-(k+1)) (k+1)):=by show _=_;rw[I.out,J.out,hb];rfl
   clear I J hb;exact zm95
 have aa:¬ (k:Int)<=(n:Int):=zo;have HF:Hid (ni u (n+1-i) i=true):=by show _=_;rw[I.out,show n+1-k=0 from zo];rfl
 clear I;exact zm61
def S8(w:Uc)(v:Nat->Bool){g:Nat}(i n:Nat)(hv:∀k,i<=k->k<=n->w.cell? (TU g k)=some (xn (v k)))(hn:n<ng)(hc:ng<=100000000000000)(hi:i<=n+1):
  Calls prog 205 #[TV,xa (TT g) ng cg,xd xh i,xd xh n] w λe w'=>e=xm (xn (j8 (λ_=>true) v (n+1-i) i))/\w'=w:=by
 have HV:=fy hv;clear hv;go_in;go_wp2
 go_loopw [9] (λx wr=>∃k:Nat,x=xd xh (k:Int)/\i<=k/\k<=n+1/\Hid (j8 (λ_=>true) v (n+1-i) i=j8 (λ_=>true) v (n+1-k) k)/\Hid (w=wr)) (λv _=>n+1-(intOf v).toNat)
 .exact⟨i,rfl,XH,hi,rfl,rfl⟩
 obtain⟨k,rfl,U,hkn,I,HW⟩:=hrel;have hw:=HW.out;subst hw;clear HW;by_cases hlt:k<=n
 .have ck:=HV.out k U hlt;have aa:(k:Int)<=(n:Int):=zo;have J:Hid (j8 (λ_=>true) v (n+1-k) k=(v k||j8 (λ_=>true) v (n+1-(k+1)) (k+1))):=by
   show _=_;rw[show n+1-k=(n+1-(k+1))+1 from zo,j8,VL]
  cases hb:v k with
  |true=>
   rw[hb] at ck;have HF:Hid (j8 (λ_=>true) v (n+1-i) i=true):=by show _=_;rw[I.out,J.out,hb];rfl
   clear I J hb;exact zm61
  |false=>
   rw[hb] at ck;have HF:Hid (j8 (λ_=>true) v (n+1-i) i=j8 (λ_=>true) v (n+1-(k+1)) (k+1)):=by show _=_;rw[I.out,J.out,hb];rfl
   clear I J hb;exact zm95
 have aa:¬ (k:Int)<=(n:Int):=zo;have HF:Hid (j8 (λ_=>true) v (n+1-i) i=false):=by show _=_;rw[I.out,show n+1-k=0 from zo];rfl
 clear I;exact zm61
def F8(w:Uc)(u v:Nat->Bool){b cb g:Nat}(i n:Nat)(hu:∀k,i<=k->k<=n->w.cell? (TU b k)=some (xn (u k)))(hv:∀k,i<=k->k<=n->w.cell? (TU g k)=some (xn (v k)))(hnb:n<nb)(hn:n<ng)(hcb:nb<=100000000000000)(hi:i<=n+1):
  Calls prog 205 #[xa (TT b) nb cb,xa (TT g) ng cg,xd xh i,xd xh n] w λe w'=>e=xm (xn (j8 u v (n+1-i) i))/\w'=w:=by
 have HU:=fy hu;have HV:=fy hv;clear hv hu;go_in;go_wp2
 go_loopw [9] (λx wr=>∃k:Nat,x=xd xh (k:Int)/\i<=k/\k<=n+1/\Hid (j8 u v (n+1-i) i=j8 u v (n+1-k) k)/\Hid (w=wr)) (λv _=>n+1-(intOf v).toNat)
 .exact⟨i,rfl,XH,hi,rfl,rfl⟩
 obtain⟨k,rfl,U,hkn,I,HW⟩:=hrel;have hw:=HW.out;subst hw;clear HW;by_cases hlt:k<=n
 .have ck:=HV.out k U hlt;have cu:=HU.out k U hlt;have ad:(k:Int)<=(n:Int):=zo;have J:Hid (j8 u v (n+1-k) k=(v k||(u k&&j8 u v (n+1-(k+1)) (k+1)))):=by
   show _=_;rw[show n+1-k=(n+1-(k+1))+1 from zo,j8]
  cases hb:v k with
  |true=>
   rw[hb] at ck;have HF:Hid (j8 u v (n+1-i) i=true):=by show _=_;rw[I.out,J.out,hb];rfl
   clear I J hb cu;exact zm61
  |false=>
   rw[hb] at ck;cases hb2:u k with
   |false=>
    rw[hb2] at cu;have HF:Hid (j8 u v (n+1-i) i=false):=by show _=_;rw[I.out,J.out,hb,hb2];rfl
    clear I J hb hb2;exact zm61
   |true=>
    rw[hb2] at cu;have HF:Hid (j8 u v (n+1-i) i=j8 u v (n+1-(k+1)) (k+1)):=by show _=_;rw[I.out,J.out,hb,hb2];rfl
    clear I J hb hb2;exact zm95
 have ad:¬ (k:Int)<=(n:Int):=zo;have HF:Hid (j8 u v (n+1-i) i=false):=by show _=_;rw[I.out,show n+1-k=0 from zo];rfl
 clear I;exact zm61
def jF(k:Nat)(y:Bool)(u v:Nat->Bool)(i n:Nat):Bool:=
 if k=0 then y else if k=1 then true else if k=2 then false else if k=3 then decide (n<i) else if k=4 then !u i
 else if k=5 then decide (i+1<=n)&&u (i+1) else if k=6 then decide (n<i+1)||u (i+1)
 else if k=7 then j8 (λ_=>true) u (n+1-i) i else if k=8 then ni u (n+1-i) i else if k=9 then j8 u v (n+1-i) i
 else if k=10 then u i&&v i else if k=11 then u i||v i else !u i||v i
structure nt(w:Uc)(nb k:Nat)(op:Int)(a b t:Int):Prop where
 ex:∃g0 n0 c0 g1 n1 c1 g2 n2 c2 g3 n3 c3 x,w.heap[nb]?=some (xi #[xa (TT g0) n0 c0,xa (TT g1) n1 c1,xa (TT g2) n2 c2,xa (TT g3) n3 c3,x] 294 (0,0))/\
  k<n0/\k<n1/\k<n2/\k<n3/\w.cell? (TU g0 k)=some (xd .u8 op)/\w.cell? (TU g1 k)=some (xd xh a)/\w.cell? (TU g2 k)=some (xd xh b)/\w.cell? (TU g3 k)=some (xd xh t)
structure R9(w:Uc)(n:Nat)(u:Nat->Bool)(g m c:Nat):Prop where
 len:n+2<=m
 top:m<=100000000000000
 at_:∀i,1<=i->i<=n+1->w.cell? (TU g i)=some (xn (u i))
def M8(w:Uc)(k:Nat)(j:Nat){bel:Ud}(_hj:j<=n)(_hn:n<=10000000000000)
  (J:nt w nb k (iI 1) (-1) (-1) t):
  Calls prog 180 #[xk (TT nb),xd xh k,xd xh (j+1:Nat),(xa tt n tc),bel] w λe w'=>e=xm (xn (jF 1 false (λ_=>true) (λ_=>true) (j+1) n))/\∃d,w'=w.drewN d:=by
 obtain⟨g0,n0,c0,g1,n1,c1,g2,n2,c2,g3,n3,c3,x,U,k0,k1,k2,k3,I,e1,e2,e3⟩:=J.ex;have bc:=EQ U;clear U J;replace I:w.cell? (TU g0 k)=some (xd .u8 116):=I;exact zm79
def Kl(w:Uc)(k:Nat)(j:Nat){bel:Ud}(_hj:j<=n)(_hn:n<=10000000000000)
  (J:nt w nb k (iI 2) (-1) (-1) t):
  Calls prog 180 #[xk (TT nb),xd xh k,xd xh (j+1:Nat),(xa tt n tc),bel] w λe w'=>e=xm (xn (jF 2 false (λ_=>true) (λ_=>true) (j+1) n))/\∃d,w'=w.drewN d:=by
 obtain⟨g0,n0,c0,g1,n1,c1,g2,n2,c2,g3,n3,c3,x,U,k0,k1,k2,k3,I,e1,e2,e3⟩:=J.ex;have bc:=EQ U;clear U J;replace I:w.cell? (TU g0 k)=some (xd .u8 102):=I;exact zm79
def OT(w:Uc)(k:Nat)(j:Nat){bel:Ud}(_hj:j<=n)(_hn:n<=10000000000000)
  (J:nt w nb k (iI 3) (-1) (-1) t):
  Calls prog 180 #[xk (TT nb),xd xh k,xd xh (j+1:Nat),(xa tt n tc),bel] w λe w'=>e=xm (xn (jF 3 false (λ_=>true) (λ_=>true) (j+1) n))/\∃d,w'=w.drewN d:=by
 obtain⟨g0,n0,c0,g1,n1,c1,g2,n2,c2,g3,n3,c3,x,U,k0,k1,k2,k3,I,e1,e2,e3⟩:=J.ex;have bc:=EQ U;clear U J;replace I:w.cell? (TU g0 k)=some (xd .u8 101):=I;go_in;go_wp2;go_ret;refine⟨?_,0,rfl⟩;simp[jF];omega
def OW(w:Uc)(k:Nat)(j:Nat)(J:Nat)(u:Nat->Bool)(hka:w.cell? (TU bg J)=some (xa (TT ua) um uc))(hkl:J<bn)(I:R9 w n u ua um uc)(_hj:j<=n)(_hn:n<=10000000000000)
  (hN:nt w nb k (iI 4) (J:Nat) (-1) t):
  Calls prog 180 #[xk (TT nb),xd xh k,xd xh (j+1:Nat),(xa tt n tc),(xa (TT bg) bn bcap)] w λe w'=>e=xm (xn (jF 4 false u (λ_=>true) (j+1) n))/\∃d,w'=w.drewN d:=by
 obtain⟨g0,n0,c0,g1,n1,c1,g2,n2,c2,g3,n3,c3,x,hb,k0,k1,k2,k3,U,e1,e2,e3⟩:=hN.ex;have bc:=EQ hb;clear hb hN;replace U:w.cell? (TU g0 k)=some (xd .u8 33):=U;have hum:=I.len;have hut:=I.top;have HU:=fy I.at_;have cu:=HU.out (j+1) zo zo;clear I;go_in;go_wp2;go_ret;refine⟨?_,0,rfl⟩;simp[jF]
def dL(w:Uc)(k:Nat)(j:Nat)(J:Nat)(u:Nat->Bool)(hka:w.cell? (TU bg J)=some (xa (TT ua) um uc))(hkl:J<bn)(I:R9 w n u ua um uc)(_hj:j<=n)(_hn:n<=10000000000000)
  (hN:nt w nb k (iI 5) (J:Nat) (-1) t):
  Calls prog 180 #[xk (TT nb),xd xh k,xd xh (j+1:Nat),(xa tt n tc),(xa (TT bg) bn bcap)] w λe w'=>e=xm (xn (jF 5 false u (λ_=>true) (j+1) n))/\∃d,w'=w.drewN d:=by
 obtain⟨g0,n0,c0,g1,n1,c1,g2,n2,c2,g3,n3,c3,x,hb,k0,k1,k2,k3,U,e1,e2,e3⟩:=hN.ex;have bc:=EQ hb;clear hb hN;replace U:w.cell? (TU g0 k)=some (xd .u8 88):=U;have hum:=I.len;have hut:=I.top;have HU:=fy I.at_;clear I;by_cases hjn:j+1<n
 .have cu:=HU.out (j+1+1) zo zo;have hx:(j:Int)+1+1<=(n:Int):=zo;go_in;go_wp2;go_ret;refine⟨ja ?_,0,rfl⟩;rw[show jF 5 false u (λ_=>true) (j+1) n=(decide (j+1+1<=n)&&u (j+1+1)) from rfl,show decide (j+1+1<=n)=true from UH zo,VL]
 have hx:¬ (j:Int)+1+1<=(n:Int):=zo;go_in;go_wp2;go_ret;refine⟨ja ?_,0,rfl⟩;rw[show jF 5 false u (λ_=>true) (j+1) n=(decide (j+1+1<=n)&&u (j+1+1)) from rfl,show decide (j+1+1<=n)=false from Uy zo,Xp]
def M9(w:Uc)(k:Nat)(j:Nat)(J:Nat)(u:Nat->Bool)(hka:w.cell? (TU bg J)=some (xa (TT ua) um uc))(hkl:J<bn)(I:R9 w n u ua um uc)(_hj:j<=n)(_hn:n<=10000000000000)
  (hN:nt w nb k (iI 6) (J:Nat) (-1) t):
  Calls prog 180 #[xk (TT nb),xd xh k,xd xh (j+1:Nat),(xa tt n tc),(xa (TT bg) bn bcap)] w λe w'=>e=xm (xn (jF 6 false u (λ_=>true) (j+1) n))/\∃d,w'=w.drewN d:=by
 obtain⟨g0,n0,c0,g1,n1,c1,g2,n2,c2,g3,n3,c3,x,hb,k0,k1,k2,k3,U,e1,e2,e3⟩:=hN.ex;have bc:=EQ hb;clear hb hN;replace U:w.cell? (TU g0 k)=some (xd .u8 78):=U;have hum:=I.len;have hut:=I.top;have HU:=fy I.at_;clear I;by_cases hjn:j+1<n
 .have cu:=HU.out (j+1+1) zo zo;have hx:¬ (n:Int)<(j:Int)+1+1:=zo;go_in;go_wp2;go_ret;refine⟨ja ?_,0,rfl⟩;rw[show jF 6 false u (λ_=>true) (j+1) n=(decide (n<j+1+1)||u (j+1+1)) from rfl,show decide (n<j+1+1)=false from Uy zo,Bool.false_or]
 have hx:(n:Int)<(j:Int)+1+1:=zo;go_in;go_wp2;go_ret;refine⟨ja ?_,0,rfl⟩;rw[show jF 6 false u (λ_=>true) (j+1) n=(decide (n<j+1+1)||u (j+1+1)) from rfl,show decide (n<j+1+1)=true from UH zo,Bool.true_or]
def OU(w:Uc)(k:Nat)(j:Nat)(U:Nat)(u:Nat->Bool)(hka:w.cell? (TU bg U)=some (xa (TT ua) um uc))(hkl:U<bn)(I:R9 w n u ua um uc)(_hj:j<=n)(_hn:n<=10000000000000)
  (hN:nt w nb k (iI 7) (U:Nat) (-1) t):
  Calls prog 180 #[xk (TT nb),xd xh k,xd xh (j+1:Nat),(xa tt n tc),(xa (TT bg) bn bcap)] w λe w'=>e=xm (xn (jF 7 false u (λ_=>true) (j+1) n))/\∃d,w'=w.drewN d:=by
 obtain⟨g0,n0,c0,g1,n1,c1,g2,n2,c2,g3,n3,c3,x,hb,k0,k1,k2,k3,e0,e1,e2,e3⟩:=hN.ex;have bc:=EQ hb;clear hb hN;replace e0:w.cell? (TU g0 k)=some (xd .u8 70):=e0;have hum:=I.len;have J:=I.top;have HU:=fy I.at_;clear I;go_in;go_wp2_with fail;refine(S8 w u (j+1) n (λi h1 h2=>HU.out i zo zo) zo J zo).mono ?_;exact zm108
def M7(w:Uc)(k:Nat)(j:Nat)(U:Nat)(u:Nat->Bool)(hka:w.cell? (TU bg U)=some (xa (TT ua) um uc))(hkl:U<bn)(I:R9 w n u ua um uc)(_hj:j<=n)(_hn:n<=10000000000000)
  (hN:nt w nb k (iI 8) (U:Nat) (-1) t):
  Calls prog 180 #[xk (TT nb),xd xh k,xd xh (j+1:Nat),(xa tt n tc),(xa (TT bg) bn bcap)] w λe w'=>e=xm (xn (jF 8 false u (λ_=>true) (j+1) n))/\∃d,w'=w.drewN d:=by
 obtain⟨g0,n0,c0,g1,n1,c1,g2,n2,c2,g3,n3,c3,x,hb,k0,k1,k2,k3,e0,e1,e2,e3⟩:=hN.ex;have bc:=EQ hb;clear hb hN;replace e0:w.cell? (TU g0 k)=some (xd .u8 71):=e0;have hum:=I.len;have J:=I.top;have HU:=fy I.at_;clear I;go_in;go_wp2_with fail;refine(FZ w u (j+1) n (λi h1 h2=>HU.out i zo zo) zo J zo).mono ?_;exact zm108
def Km(w:Uc)(k:Nat)(j:Nat)(ka:Nat)(u:Nat->Bool)(hka:w.cell? (TU bg ka)=some (xa (TT ua) um uc))(hkl:ka<bn)(I:R9 w n u ua um uc)(kb:Nat)(v:Nat->Bool)(hkb:w.cell? (TU bg kb)=some (xa (TT va) vm vc))(hkm:kb<bn)(J:R9 w n v va vm vc)(_hj:j<=n)(_hn:n<=10000000000000)
  (hN:nt w nb k (iI 9) (ka:Nat) (kb:Nat) t):
  Calls prog 180 #[xk (TT nb),xd xh k,xd xh (j+1:Nat),(xa tt n tc),(xa (TT bg) bn bcap)] w λe w'=>e=xm (xn (jF 9 false u v (j+1) n))/\∃d,w'=w.drewN d:=by
 obtain⟨g0,n0,c0,g1,n1,c1,g2,n2,c2,g3,n3,c3,x,hb,k0,k1,k2,k3,e0,e1,e2,e3⟩:=hN.ex;have bc:=EQ hb;clear hb hN;replace e0:w.cell? (TU g0 k)=some (xd .u8 85):=e0;have hum:=I.len;have U:=I.top;have HU:=fy I.at_;clear I;have hvm:=J.len;have hvt:=J.top;have HV:=fy J.at_;clear J;go_in;go_wp2_with fail;refine(F8 w u v (j+1) n (λi h1 h2=>HU.out i zo zo) (λi h1 h2=>HV.out i zo zo) zo zo U zo).mono ?_;exact zm108
def OR(w:Uc)(k:Nat)(j:Nat)(I:Nat)(u:Nat->Bool)(hka:w.cell? (TU bg I)=some (xa (TT ua) um uc))(hkl:I<bn)(hu:R9 w n u ua um uc)(J:Nat)(v:Nat->Bool)(hkb:w.cell? (TU bg J)=some (xa (TT va) vm vc))(hkm:J<bn)(hv:R9 w n v va vm vc)(_hj:j<=n)(_hn:n<=10000000000000)
  (hN:nt w nb k (iI 10) (I:Nat) (J:Nat) t):
  Calls prog 180 #[xk (TT nb),xd xh k,xd xh (j+1:Nat),(xa tt n tc),(xa (TT bg) bn bcap)] w λe w'=>e=xm (xn (jF 10 false u v (j+1) n))/\∃d,w'=w.drewN d:=by
 obtain⟨g0,n0,c0,g1,n1,c1,g2,n2,c2,g3,n3,c3,x,hb,k0,k1,k2,k3,U,e1,e2,e3⟩:=hN.ex;have bc:=EQ hb;clear hb hN;replace U:w.cell? (TU g0 k)=some (xd .u8 38):=U;exact zm33
def PV(w:Uc)(k:Nat)(j:Nat)(I:Nat)(u:Nat->Bool)(hka:w.cell? (TU bg I)=some (xa (TT ua) um uc))(hkl:I<bn)(hu:R9 w n u ua um uc)(J:Nat)(v:Nat->Bool)(hkb:w.cell? (TU bg J)=some (xa (TT va) vm vc))(hkm:J<bn)(hv:R9 w n v va vm vc)(_hj:j<=n)(_hn:n<=10000000000000)
  (hN:nt w nb k (iI 11) (I:Nat) (J:Nat) t):
  Calls prog 180 #[xk (TT nb),xd xh k,xd xh (j+1:Nat),(xa tt n tc),(xa (TT bg) bn bcap)] w λe w'=>e=xm (xn (jF 11 false u v (j+1) n))/\∃d,w'=w.drewN d:=by
 obtain⟨g0,n0,c0,g1,n1,c1,g2,n2,c2,g3,n3,c3,x,hb,k0,k1,k2,k3,U,e1,e2,e3⟩:=hN.ex;have bc:=EQ hb;clear hb hN;replace U:w.cell? (TU g0 k)=some (xd .u8 124):=U;exact zm33
def OV(w:Uc)(k:Nat)(j:Nat)(I:Nat)(u:Nat->Bool)(hka:w.cell? (TU bg I)=some (xa (TT ua) um uc))(hkl:I<bn)(hu:R9 w n u ua um uc)(J:Nat)(v:Nat->Bool)(hkb:w.cell? (TU bg J)=some (xa (TT va) vm vc))(hkm:J<bn)(hv:R9 w n v va vm vc)(_hj:j<=n)(_hn:n<=10000000000000)
  (hN:nt w nb k (iI 12) (I:Nat) (J:Nat) t):
  Calls prog 180 #[xk (TT nb),xd xh k,xd xh (j+1:Nat),(xa tt n tc),(xa (TT bg) bn bcap)] w λe w'=>e=xm (xn (jF 12 false u v (j+1) n))/\∃d,w'=w.drewN d:=by
 obtain⟨g0,n0,c0,g1,n1,c1,g2,n2,c2,g3,n3,c3,x,hb,k0,k1,k2,k3,U,e1,e2,e3⟩:=hN.ex;have bc:=EQ hb;clear hb hN;replace U:w.cell? (TU g0 k)=some (xd .u8 62):=U;exact zm33
def jA(n:Nat)(y:Ub->Nat->Bool):Fm->Nat->Bool
 |.nil,_=>true
 |.node _ _ a l r,i=>jF a.1 (y a.2.1 i) (jA n y l) (jA n y r) i n
structure Nd where
 k:Nat
 a:Int
 b:Int
 t:Int
variable{M:List Nd}
def lI(s:Ub):Nat->TY->Int->Int
 |_,[],x=>x
 |i,t::r,x=>lI s (i+1) r (if t.s.toList=s.toList then (i:Int) else x)
def gP(al:TY):Fm->List Nd->List Nd × Int
 |.nil,L=>(L,-1)
 |.node _ _ a l r,L=>
  ((gP al r (gP al l L).1).1++[⟨a.1,(gP al l L).2,(gP al r (gP al l L).1).2,if a.1=0 then lI a.2.1 0 al (-1) else -1⟩],((gP al r (gP al l L).1).1.length:Int))
def NE(R:List (Nat->Bool))(k:Int):Nat->Bool:=if k<0 then λ_=>true else (R[k.toNat]?).getD (λ_=>true)
def kL(n:Nat)(z:Int->Nat->Bool)(R:List (Nat->Bool))(d:Nd):Nat->Bool:=λi=>jF d.k (z d.t i) (NE R d.a) (NE R d.b) i n
def iq(n:Nat)(z:Int->Nat->Bool)(L:List Nd):List (Nat->Bool):=L.foldl (λR d=>R++[kL n z R d]) []
theorem lM(n:Nat)(z:Int->Nat->Bool)(L:List Nd)(d:Nd):iq n z (L++[d])=iq n z L++[kL n z (iq n z L) d]:=by
 unfold iq;simp
def uE(n:Nat)(z:Int->Nat->Bool):∀(L:List Nd) (R:List (Nat->Bool)),∃S,L.foldl (λR d=>R++[kL n z R d]) R=R++S/\S.length=L.length
 |[],R=>⟨[],zp,rfl⟩
 |d::L,R=>by
  obtain⟨S,h1,h2⟩:=uE n z L (R++[kL n z R d]);simp_all
def lL(n:Nat)(z:Int->Nat->Bool)(L:List Nd):(iq n z L).length=L.length:=by
 obtain⟨S,h1,h2⟩:=uE n z L [];unfold iq;simp_all
def AZ(n:Nat)(z:Int->Nat->Bool)(L M:List Nd):∃S,iq n z (L++M)=iq n z L++S:=by
 unfold iq;rw[V'];obtain⟨S,h1,_⟩:=uE n z M (L.foldl (λR d=>R++[kL n z R d]) []);simp_all
def AV{R S:List (Nat->Bool)}{k:Int}(h:k<R.length):NE (R++S) k=NE R k:=by
 unfold NE
 split
 .rfl
 rw[UJ zo]
def pG(al:TY):∀(f:Fm)(L:List Nd),(∃M,(gP al f L).1=L++M)/\(gP al f L).2<((gP al f L).1.length:Int)
 |.nil,L=>⟨⟨[],by simp[gP]⟩,by show(-1:Int)<_;omega⟩
 |.node _ _ a l r,L=>by
  obtain⟨⟨I,h1⟩,_⟩:=pG al l L;obtain⟨⟨M2,h2⟩,_⟩:=pG al r (gP al l L).1;refine⟨⟨I++(M2++[⟨a.1,(gP al l L).2,(gP al r (gP al l L).1).2,if a.1=0 then lI a.2.1 0 al (-1) else -1⟩]),?_⟩,?_⟩
  .rw[gP];simp_all
  rw[gP];show((gP al r (gP al l L).1).1.length:Int)<_;simp;omega
def Nm(P:Ub->Prop):Fm->Prop
 |.nil=>True
 |.node _ _ a l r=>(a.1=0->P a.2.1)/\Nm P l/\Nm P r
def MK{k:Nat}(h:k≠0){y:Bool}{u v:Nat->Bool}:jF k y u v i n=jF k y' u v i n:=by
 unfold jF;rw[T' h,T' h]
def wZ(al:TY)(n:Nat)(y:Ub->Nat->Bool)(z:Int->Nat->Bool):∀(f:Fm)(L:List Nd),Nm (λs=>∀i,z (lI s 0 al (-1)) i=y s i) f->
  NE (iq n z (gP al f L).1) (gP al f L).2=jA n y f
 |.nil,L,_=>by
  rfl
 |.node _ _ a l r,L,⟨ha,hl,hr⟩=>by
  have h1:=wZ al n y z l L hl;have U:=wZ al n y z r (gP al l L).1 hr;obtain⟨_,g1⟩:=pG al l L;obtain⟨⟨M2,I⟩,g2⟩:=pG al r (gP al l L).1;obtain⟨S2,r2⟩:=AZ n z (gP al l L).1 M2;rw[gP];show NE (iq n z ((gP al r (gP al l L).1).1++[_])) ((gP al r (gP al l L).1).1.length:Int)=_;rw[lM];have J:NE (iq n z (gP al r (gP al l L).1).1) (gP al l L).2=jA n y l:=by
   rw[I,r2,AV (by rw[lL];omega)];omega
  unfold NE;rw[T' zo,show((gP al r (gP al l L).1).1.length:Int).toNat=(iq n z (gP al r (gP al l L).1).1).length by rw[lL];omega,Uv (XH),Wn];show kL n z _ _=_;funext i;unfold kL;rw[J,U];show jF a.1 _ _ _ i n=jF a.1 _ _ _ i n;by_cases hk:a.1=0
  .simp_all
  exact MK hk
def Cp(u v:Nat->Bool)(i n:Nat):j8 u v (n+1-i) i=(decide (i<=n)&&(v i||(u i&&j8 u v (n+1-(i+1)) (i+1)))):=by
 by_cases h:i<=n
 .rw[show n+1-i=(n+1-(i+1))+1 from zo,j8,UH h,VL]
 rw[show n+1-i=0 from zo,j8,Uy h,Xp]
def Kf(u:Nat->Bool)(i n:Nat):ni u (n+1-i) i=(!decide (i<=n)||(u i&&ni u (n+1-(i+1)) (i+1))):=by
 by_cases h:i<=n
 .rw[show n+1-i=(n+1-(i+1))+1 from zo,ni,UH h];rfl
 rw[show n+1-i=0 from zo,ni,Uy h];rfl
def xF{k:Nat}(y:Nat->Bool)(u v:Nat->Bool)(i n:Nat)(hk:k<=12):
  jF k (decide (i<=n)&&y i) u v i n=jl k (decide (i<=n)) (decide (i+1<=n)) (y i) (u i) (v i) (u (i+1)) (jF k (decide (i+1<=n)&&y (i+1)) u v (i+1) n):=by
 have h:k=0\/k=1\/k=2\/k=3\/k=4\/k=5\/k=6\/k=7\/k=8\/k=9\/k=10\/k=11\/k=12:=zo;rcases h with rfl|rfl|rfl|rfl|rfl|rfl|rfl|rfl|rfl|rfl|rfl|rfl|rfl
 .rfl
 .rfl
 .rfl
 .show decide (n<i)= !decide (i<=n);by_cases h:i<=n
  .simp_all
  simp_all
 .rfl
 .rfl
 .show(decide (n<i+1)||u (i+1))=(!decide (i+1<=n)||u (i+1));by_cases h:i+1<=n
  .rw[UH h,Uy (show ¬ n<i+1 from zo)];rfl
  simp_all
 .show j8 (λ_=>true) u (n+1-i) i=_;rw[Cp,VL];rfl
 .show ni u (n+1-i) i=_;rw[Kf];rfl
 .show j8 u v (n+1-i) i=_;rw[Cp];rfl
 .rfl
 .rfl
 rfl
def kC(s:Ub):Nat->TY->Int
 |_,[]=>-1
 |i,t::r=>if t.s.toList=s.toList then (i:Int) else kC s (i+1) r
theorem r9(s:Ub):∀(i:Nat)(l:TY),(iB l s=true/\∃(j:Nat)(t:Tk),l[j]?=some t/\t.s.toList=s.toList/\kC s i l=((i+j:Nat):Int))\/(iB l s=false/\kC s i l= -1)
 |i,[]=>Rg ⟨rfl,rfl⟩
 |i,t::r=>by
  by_cases h:t.s.toList=s.toList
  .refine Rh ⟨by rw[iB,Uh h],0,t,rfl,h,?_⟩;rw[kC,Uh h];rfl
  rw[iB,T' h,kC,T' h];rcases r9 s (i+1) r with⟨h1,j,u,h2,h3,h4⟩|h1
  .exact Rh ⟨h1,j+1,u,zv,h3,zo⟩
  simp_all
def tq(s:Ub):∀(i:Nat)(l:TY)(x:Int),(iB l s=true/\∃(j:Nat)(t:Tk),l[j]?=some t/\t.s.toList=s.toList/\lI s i l x=((i+j:Nat):Int))\/(iB l s=false/\lI s i l x=x)
 |i,[],x=>Rg ⟨rfl,rfl⟩
 |i,t::r,x=>by
  rw[lI];by_cases h:t.s.toList=s.toList
  .rw[Uh h,iB,Uh h];rcases tq s (i+1) r (i:Int) with⟨_,j,u,h2,h3,h4⟩|⟨_,h1⟩
   .exact Rh ⟨rfl,j+1,u,zv,h3,zo⟩
   exact Rh ⟨rfl,0,t,rfl,h,zo⟩
  rw[T' h,iB,T' h];rcases tq s (i+1) r x with⟨h1,j,u,h2,h3,h4⟩|h1
  .exact Rh ⟨h1,j+1,u,zv,h3,zo⟩
  simp_all
def ze(al:TY):Prop:=∀(i j:Nat)(t u:Tk),al[i]?=some t->al[j]?=some u->t.s.toList=u.s.toList->i=j
theorem Kz{a:Tk}:∀{l:TY},nB l a=[]->∀t∈l,t.s.toList≠a.s.toList:=by intro I;induction I<;>grind[nB]
def As:∀{i:Nat} {l:TY},mC al i l=[]->∀(j:Nat)(a:Tk),l[j]?=some a->nB (al.take (i+j)) a=[]/\a.s.size<=8/\i+j<6
 |i,[],_,j,a,h=>zv
 |i,x::r,h,j,a,hj=>by
  rw[mC,zC] at h;obtain⟨I,J⟩:=List.append_eq_nil_iff.1 h;obtain⟨U,h4⟩:=List.append_eq_nil_iff.1 I;obtain⟨h5,h6⟩:=List.append_eq_nil_iff.1 h4;cases j with
  |zero=>
   rw[List.getElem?_cons_zero] at hj;cases hj;refine⟨h5,?_,?_⟩
   .unfold jw at U;simp_all
   simp_all
  |succ j=>
   rw[XB] at hj;have:=As J j a hj;rw[show i+(j+1)=i+1+j from zo];omega
def Nb(h:mC al 0 al=[]):ze al:=by
 have key:∀(i j:Nat)(t u:Tk),i<j->al[i]?=some t->al[j]?=some u->t.s.toList≠u.s.toList:=by
  intro i j t u hij hi I;obtain⟨J,_⟩:=As h j u I;rw[U2] at J;refine Kz J t ?_;have:(al.take j)[i]?=some t:=za;exact UA this
 intro i j t u hi I he;rcases Rx i j with hlt|heq|hgt
 .exact absurd he (key i j t u hlt hi I)
 .omega
 exact absurd he.symm (key j i u t hgt I hi)
theorem Pp(I:ze al){x s:Ub}(hx:iB al x=true)(hs:iB al s=true):(kC x 0 al==lI s 0 al (-1))=(x.toList==s.toList):=by
 rcases r9 x 0 al with⟨_,i,t,h1,h2,h3⟩|⟨h,_⟩
 .rcases tq s 0 al (-1) with⟨_,j,u,g1,g2,g3⟩|⟨h,_⟩
  .rw[h3,g3,U2,U2];by_cases e:x.toList=s.toList
   .have:=I i j t u h1 g1 za;simp_all
   have:i≠j:=by
    intro hij;simp_all
   rw[V3.2 e];simp;omega
  simp_all
 simp_all
def F1(w:Uc)(k:Nat)(j:Nat){tg:Nat}{bel:Ud}(hj:j<n)(_hn:n<=10000000000000)(ht:w.cell? (TU tg j)=some (xd xh tr))(J:nt w nb k (iI 0) (-1) (-1) t):
  Calls prog 180 #[xk (TT nb),xd xh k,xd xh (j+1:Nat),xa (TT tg) n tc,bel] w λe w'=>e=xm (xn (tr==t))/\∃d,w'=w.drewN d:=by
 obtain⟨g0,n0,c0,g1,n1,c1,g2,n2,c2,g3,n3,c3,x,U,k0,k1,k2,k3,I,e1,e2,e3⟩:=J.ex;have bc:=EQ U;clear U J;replace I:w.cell? (TU g0 k)=some (xd .u8 97):=I;have hx:(j:Int)+1<=(n:Int):=zo;go_in;go_wp2;go_quiet (fail);go_wp2;go_ret;exact⟨rfl,nq,rfl⟩
def DS(w:Uc)(k:Nat)(j n:Nat){bel:Ud}(hj:n<=j)(_hn:j<=10000000000000)(J:nt w nb k (iI 0) (-1) (-1) t):
  Calls prog 180 #[xk (TT nb),xd xh k,xd xh (j+1:Nat),xa tt n tc,bel] w λe w'=>e=xm (xn false)/\∃d,w'=w.drewN d:=by
 obtain⟨g0,n0,c0,g1,n1,c1,g2,n2,c2,g3,n3,c3,x,U,k0,k1,k2,k3,I,e1,e2,e3⟩:=J.ex;have bc:=EQ U;clear U J;replace I:w.cell? (TU g0 k)=some (xd .u8 97):=I;have hx:decide ((j:Int)+1<=(n:Int))=false:=Uy zo;go_in;go_wp2;go_quiet (fail);go_wp2;go_ret;exact⟨rfl,nq,rfl⟩
def Ef(s:Ub)(h:IR w o1 n1 k1 al)(hlen:al.length<=401):
  Calls prog 139 #[xa o1 n1 k1,xj s] w λr w'=>r=xm (xd xh (kC s 0 al))/\w'=w:=by
 have hn:=h.len;subst hn;go_in;go_wp2
 go_loop [5] (λv=>∃k:Nat,k<=al.length/\v=xd xh k/\Hid (kC s 0 al=kC s k (al.drop k))) (λv=>al.length-(intOf v).toNat)
 .exact zm65
 obtain⟨k,hk,rfl,H⟩:=hrel;by_cases hlt:k<al.length
 .obtain⟨t,r,U⟩:=jc hlt;obtain⟨g,rfl,hg,_,t0,t1,t2⟩:=h.tok U;have J:=fy U;clear U;cases he:(t.s.toList==s.toList) with
  |true=>
   have I:=fy he;go_wp2;go_ret;exact⟨oH (by rw[H.out,J.out,kC,Uh (by simpa using I.out)]),rfl⟩
  |false=>
   have I:=fy he;go_wp2
   go_round
   .exact⟨k+1,zo,by go_num,H.out.trans (by rw[J.out,kC,T' (by simpa using I.out),lG J.out])⟩
   simp[intOf];omega
 go_wp2;go_ret;exact⟨oH (by rw[H.out,UX zo];rfl),rfl⟩
def Cu(i:Fin 5):Nat:=if i=0 then 5 else 3
structure NS(w:Uc)(nb B:Nat)(v:Fin 5->Ud)(x:Fin 5->TW):Prop where
 blk:w.heap[nb]?=some (xi #[v 0,v 1,v 2,v 3,v 4] 294 (0,0))
 own:∀i,w.ownsRow B (Cu i) 1 (v i) (x i).length (x i)
 dis:∀i j,i≠j->∀k,(v i).ownBlock=some k->(v j).ownBlock≠some k
 low:B<=w.heap.size
def qs{α:Type}(f:Fin 5->α)(i:Fin 5)(a:α):Fin 5->α:=λj=>if j=i then a else f j
theorem rM(f:Fin 5->α)(i:Fin 5)(a:α):qs f i a i=a:=Uh rfl
theorem mQ(f:Fin 5->α){i:Fin 5}(a:α)(h:j≠i):qs f i a j=f j:=T' h
def NS.later{v:Fin 5->Ud}{x:Fin 5->TW}(h:NS w nb B v x)(I:XL w w'):NS w' nb B v x:=
 ⟨(I.block _ (dK h.blk)).trans h.blk,λi=>gq (h.own i) I,h.dis,UP h.low I.size⟩
structure NF(nb B:Nat)(w w':Uc):Prop where
 kt:KT w w'
 os:w'.os=w.os
 tape:w'.tape=w.tape
 output:w'.output=w.output
 size:w.heap.size<=w'.heap.size
 low:∀b,b<B->b≠nb->w'.heap[b]?=w.heap[b]?
def NF.trans{a b c:Uc}(h:NF nb B a b)(k:NF nb B b c):NF nb B a c:=
 ⟨h.kt.trans k.kt,k.os.trans h.os,k.tape.trans h.tape,k.output.trans h.output,UP h.size k.size,λx I J=>(k.low x I J).trans (h.low x I J)⟩
def NF.refl(nb B:Nat)(w:Uc):NF nb B w w:=⟨KT.refl w,rfl,rfl,rfl,XH,λ_ _ _=>rfl⟩
def NF.below(h:XL w w')(hB:B<=w.heap.size):NF nb B w w':=
 ⟨KT.below h,h.os,h.tape,h.output,h.size,λb h1 _=>h.block b zo⟩
def NS.app{v:Fin 5->Ud}{x:Fin 5->TW}(h:NS w nb B v x)(i:Fin 5)(u:Ud){g cap:Nat}(ho:w2.ownsRow B (Cu i) 1 (xa (TT g) ((x i).length+1) cap) ((x i).length+1) (x i++[u]))(hg:w.grownBy w2 (v i).ownBlock)(ae:(v i).ownBlock=some g\/g=w.heap.size):
  NS (w2.setCell (TU nb i.val) (xa (TT g) ((x i).length+1) cap)) nb B (qs v i (xa (TT g) ((x i).length+1) cap)) (qs x i (x i++[u]))/\NF nb B w (w2.setCell (TU nb i.val) (xa (TT g) ((x i).length+1) cap)):=by
 have ad:∀i:Fin 5,294≠Cu i:=zd;have aa:=(hg.block nb (dK h.blk) (λe=>gz (h.own i) e.symm h.blk (ad i))).trans h.blk;have ag:(xa (TT g) ((x i).length+1) cap).ownBlock=some g:=rfl;refine⟨⟨?_,λj=>?_,λa b U k J I=>?_,?_⟩,?_⟩
 .have:=gj aa i.val (xa (TT g) ((x i).length+1) cap);rw[this]
  match i with
  |0=>rfl
  |1=>rfl
  |2=>rfl
  |3=>rfl
  |4=>rfl
 .by_cases hj:j=i
  .subst hj;rw[rM,rM,Ur];exact gy ho (gp _ _ _ _) (Rg (λe=>gz ho e aa (ad j)))
  rw[mQ _ _ hj,mQ _ _ hj];have J:(v j).ownBlock=none\/(v j).ownBlock≠(v i).ownBlock:=by
   cases hk:(v j).ownBlock with
   |none=>simp
   |some k=>exact Rg (λe=>h.dis j i hj k hk e.symm)
  have I:=gy (h.own j) hg J;exact gy I (gp _ _ _ _) (Rg (λe=>gz I e aa (ad j)))
 .by_cases ha:a=i
  .subst ha;rw[rM] at J;rw[mQ _ _ (λe=>U e.symm)] at I;rw[ag] at J;cases J;rcases ae with e|e
   .exact h.dis a b U g e I
   have:=(gJ (h.own b) _ I).2;omega
  rw[mQ _ _ ha] at J;by_cases hb:b=i
  .subst hb;rw[rM,ag] at I;cases I;rcases ae with e|e
   .exact h.dis a b U g J e
   have:=(gJ (h.own a) _ J).2;omega
  rw[mQ _ _ hb] at I;exact h.dis a b U k J I
 .have J:=h.low;have I:=hg.size;simp[World.setCell];omega
 have k1:KT w w2:=by
  cases hk:(v i).ownBlock with
  |none=>rw[hk] at hg;exact KT.grownNone hg
  |some k=>
   rw[hk] at hg;have aj:Q2 w k (Cu i):=by
    obtain⟨_,I|⟨g',cap',cur',ak,_,ai,_⟩⟩:=h.own i
    .rw[I.1] at hk;cases hk
    have e:some g'=some k:=by rw[ak] at hk;exact hk
    cases e;exact⟨_,_,ai⟩
   exact KT.grown hg aj (by unfold Cu;split<;>decide) (by unfold Cu;split<;>decide)
 refine⟨k1.trans (KT.set _ _ ⟨_,_,aa⟩ zp zp),hg.os,hg.tape,hg.output,by have:=hg.size;simp_all,λb J I=>?_⟩;refine(XE zo).trans (hg.block b (by have:=h.low;omega) (λe=>?_));have:=(gJ (h.own i) b e.symm).1;omega
theorem Ig(al:TY):∀(f:Fm)(L:List Nd),(gP al f L).1.length=L.length+gI f:=by intro I;induction I<;>grind[gP,gI]
def iH(al:TY):T6->List Nd × T8->List Nd × T8
 |[],p=>p
 |r::rs,p=>iH al rs ((gP al (gO r) p.1).1,p.2++[(gP al (gO r) p.1).2])
theorem I'(al:TY)(r:Rl):∀(rs:T6)(p:List Nd × T8),iH al (rs++[r]) p=((gP al (gO r) (iH al rs p).1).1,(iH al rs p).2++[(gP al (gO r) (iH al rs p).1).2]):=by intro I;induction I<;>grind[iH]
theorem rC(al:TY):∀(rs:T6)(p:List Nd × T8),(iH al rs p).1.length=p.1.length+iw rs/\(iH al rs p).2.length=p.2.length+rs.length:=by intro I;induction I<;>grind[Ig,gP,gO,iH,iw]
def uR(al:TY):∀(rs:T6)(p:List Nd × T8),(∀t∈p.2,t<(p.1.length:Int))->∀t∈(iH al rs p).2,t<((iH al rs p).1.length:Int)
 |[],p,h=>h
 |r::rs,p,h=>by
  rw[iH];refine uR al rs _ (λt I=>?_);obtain⟨⟨M,e⟩,g⟩:=pG al (gO r) p.1;rcases List.mem_append.1 I with I|I
  .have:=h t I;show t<((gP al (gO r) p.1).1.length:Int);rw[e,Ur];omega
  simp_all
def C8(y:Ub->Nat->Bool)(z:Int->Nat->Bool):∀(rs:T6)(p:List Nd × T8),(∀r∈rs,Nm (λs=>∀i,z (lI s 0 al (-1)) i=y s i) (gO r))->(∀t∈p.2,t<(p.1.length:Int))->
  (iH al rs p).2.all (λt=>NE (iq n z (iH al rs p).1) t 1)=(p.2.all (λt=>NE (iq n z p.1) t 1)&&rs.all (λr=>jA n y (gO r) 1))
 |[],p,_,_=>by simp[iH]
 |r::rs,p,hn,h=>by
  obtain⟨⟨M,e⟩,g⟩:=pG al (gO r) p.1;obtain⟨S,hS⟩:=AZ n z p.1 M;rw[iH,C8 y z rs _ (λr' J=>hn r' (Ul J)) ?_]
  .have U:=wZ al n y z (gO r) p.1 (hn r (Um ..));show((p.2++[(gP al (gO r) p.1).2]).all (λt=>NE (iq n z (gP al (gO r) p.1).1) t 1)&&rs.all _)=_;rw[Ww,Wd,List.all_nil,XA,U,Wd,<-Bool.and_assoc]
   congr 2
   rw[e,hS];rw[Vz,RA,RA];refine forall₂_congr (λt I=>?_);rw[AV (by rw[lL];simp_all)]
  intro t I;rcases List.mem_append.1 I with I|I
  .have:=h t I;show t<((gP al (gO r) p.1).1.length:Int);rw[e,Ur];omega
  simp_all
def kR:Fm->List Fm
 |.nil=>[]
 |.node u v a l r=>kR l++kR r++[.node u v a l r]
theorem ox:∀f:Fm,(kR f).length=gI f:=by intro I;induction I<;>grind[kR,gI]
structure Sp where
 k:Nat
 s:Ub
 a:Nat
 b:Nat
def yx:Fm->Bool
 |.nil=>true
 |.node _ _ _ _ _=>false
def IU(h:f≠ .nil):yx f=false:=by
 cases f with
 |nil=>trivial
 |node _ _ _ _ _=>rfl
def iu:Fm->List Sp->List Sp
 |.nil,S=>S
 |.node _ _ a l r,S=>iu r (iu l S)++[⟨a.1,a.2.1,if yx l then 0 else (iu l S).length-1,if yx r then 0 else (iu r (iu l S)).length-1⟩]
theorem jK:∀(f:Fm)(S:List Sp),(iu f S).length=S.length+gI f:=by intro I;induction I<;>grind[iu,gI]
def Tt(G:List Fm)(k:Nat)(d:Sp)(f:Fm):Prop:=match f with
 |.nil=>False
 |.node _ _ a l r=>d.k=a.1/\d.s=a.2.1/\(l=.nil\/(d.a<k/\G[d.a]?=some l))/\(r=.nil\/(d.b<k/\G[d.b]?=some r))
def Sk(S:List Sp)(G:List Fm):Prop:=S.length=G.length/\∀k d f,S[k]?=some d->G[k]?=some f->Tt G k d f
def Tt.more{k:Nat}{d:Sp}(hk:k<=G.length)(h:Tt G k d f):Tt (G++H) k d f:=by
 cases f with
 |nil=>exact h
 |node u v a l r=>
  obtain⟨I,J,U,h4⟩:=h;refine⟨I,J,?_,?_⟩
  .rcases U with h|⟨h,h'⟩
   .simp_all
   exact Rg ⟨h,by rw[UJ zo];omega⟩
  rcases h4 with h|⟨h,h'⟩
  .simp_all
  exact Rg ⟨h,by rw[UJ zo];omega⟩
theorem vv(h:f≠ .nil)(G:List Fm):(G++kR f)[G.length+gI f-1]?=some f:=by
 cases f with
 |nil=>trivial
 |node u v a l r=>
  rw[kR,<-UI];have:G.length+gI (.node u v a l r)-1=(G++(kR l++kR r)).length:=by
   rw[Ur,Ur,ox,ox];show G.length+(1+gI l+gI r)-1=_;omega
  simp_all
theorem lO(h:f≠ .nil):0<gI f:=by
 cases f with
 |nil=>trivial
 |node u v a l r=>show 0<1+gI l+gI r;omega
theorem vJ:∀(f:Fm)(S:List Sp)(G:List Fm),Sk S G->Sk (iu f S) (G++kR f)
 |.nil,S,G,h=>by rw[kR,Vo];exact h
 |.node u v a l r,S,G,h=>by
  have h1:=vJ l S G h;have U:=vJ r (iu l S) (G++kR l) h1;rw[iu,kR,<-UI,<-UI];refine⟨by rw[Ur,Ur,U.1];rfl,λk d f J hf=>?_⟩;have hl2:=U.1;have hg2:(G++kR l++kR r).length=G.length+gI l+gI r:=by rw[Ur,Ur,ox,ox]
  rcases Rx k (G++kR l++kR r).length with hk|hk|hk
  .rw[UJ zo] at J;rw[UJ hk] at hf;exact(U.2 k d f J hf).more zo
  .rw[Uv zo,show k-(iu r (iu l S)).length=0 from zo] at J;rw[Uv zo,show k-(G++kR l++kR r).length=0 from zo] at hf;cases J;cases hf;have ad:=h.1;refine⟨rfl,rfl,?_,?_⟩
   .by_cases e:l=.nil
    .simp_all
    have:=lO e;show l=.nil\/((if yx l then 0 else (iu l S).length-1)<k/\_[if yx l then 0 else (iu l S).length-1]?=some l);rw[T' (by rw[IU e];simp)];have I:=jK l S;refine Rg ⟨zo,?_⟩;have:=vv e G;rw[UI,UI,<-UI G,UJ (by rw[Ur,ox];omega)];simp_all
   by_cases e:r=.nil
   .simp_all
   have:=lO e;show r=.nil\/((if yx r then 0 else (iu r (iu l S)).length-1)<k/\_[if yx r then 0 else (iu r (iu l S)).length-1]?=some r);rw[T' (by rw[IU e];simp)];have I:=jK l S;have aa:=jK r (iu l S);refine Rg ⟨zo,?_⟩;have:=vv e (G++kR l);rw[UJ zo];rw[aa,I,ad];rw[Ur,ox] at this;omega
  rw[VA (by rw[Ur,Wz];omega)] at hf;cases hf
def gH:T6->List Sp->List Sp
 |[],S=>S
 |r::rs,S=>gH rs (iu (gO r) S)
def om(rs:T6):List Fm:=(rs.map (λr=>kR (gO r))).flatten
theorem yX(r:Rl)(rs:T6):om (r::rs)=kR (gO r)++om rs:=zf
theorem wM(r:Rl):∀(rs:T6)(S:List Sp),gH (rs++[r]) S=iu (gO r) (gH rs S):=by intro I;induction I<;>grind[gH]
theorem A5:∀(rs:T6)(S:List Sp)(G:List Fm),Sk S G->Sk (gH rs S) (G++om rs):=by intro I;induction I<;>grind[yX,vJ,om,gH]
theorem pA:∀(rs:T6)(S:List Sp),(gH rs S).length=S.length+iw rs:=by intro I;induction I<;>grind[jK,gH,iw]
theorem Sk.nil:Sk [] []:=by grind[Sk]
def pq(b:Nat->Bool):Nat->Nat
 |0=>0
 |k+1=>pq b k+(if b k then 2^k else 0)
theorem zP(b:Nat->Bool):∀k,pq b k<2^k:=by intro I;induction I<;>grind[pq]
theorem xI(b:Nat->Bool):∀(k j:Nat),j<k->(pq b k).testBit j=b j
 |0,j,h=>zo
 |k+1,j,h=>by
  have I:=zP b k;rw[pq];by_cases e:j=k
  .subst e;cases hb:b j with
   |false=>simp only[UC,Wh,Nat.add_zero];exact Rs I
   |true=>simp only[VF];rw[Rw,Nat.testBit_two_pow_add_eq,Rs I];rfl
  have J:j<k:=zo;have ih:=xI b k j J;cases hb:b k with
  |false=>trivial
  |true=>simp only[VF];rw[Rw,Nat.testBit_two_pow_add_gt J];omega
theorem N2(b:Nat->Bool)(k:Nat):pq b k|||2^k=pq b k+2^k:=by
 have I:=zP b k;have:=Nat.two_pow_add_eq_or_of_lt I 1;rw[Wo] at this;rw[Nat.or_comm,<-this,Rw]
theorem GL{b c:Nat->Bool}:∀{k:Nat},(∀j,j<k->b j=c j)->pq b k=pq c k:=by intro I;induction I<;>grind[pq]
theorem Ap(u v:Nat->Bool):∀(c i:Nat),j8 u v c (i+1)=j8 (λj=>u (j+1)) (λj=>v (j+1)) c i:=by intro I;induction I<;>grind[j8]
theorem Ii(u:Nat->Bool):∀(c i:Nat),ni u c (i+1)=ni (λj=>u (j+1)) c i:=by intro I;induction I<;>grind[ni]
def AJ(k:Nat)(y:Bool)(u v:Nat->Bool)(i n:Nat):jF k y u v (i+1) (n+1)=jF k y (λj=>u (j+1)) (λj=>v (j+1)) i n:=by
 unfold jF;rw[Ap,Ap,Ii,show n+1+1-(i+1)=n+1-i from zo];simp
def kF(V:T7)(k:Int):Bool:=if k<0 then true else (V[k.toNat]?).getD true
theorem mj(R:List (Nat->Bool))(k:Int)(i:Nat):kF (R.map λf=>f i) k=NE R k i:=by
 unfold kF NE;exact zm169
def uz{V S:T7}{k:Int}(h:k<V.length):kF (V++S) k=kF V k:=by
 unfold kF;by_cases h0:k<0
 .simp_all
 rw[T' h0,T' h0,UJ zo]
def rG(P:T7)(inside more:Bool)(act:Int)(V:T7)(d:Nd):T7:=
 V++[jl d.k inside more (decide (d.t=act)) (kF V d.a) (kF V d.b) (kF P d.a) (kF P V.length)]
def km(P:T7)(inside more:Bool)(act:Int)(L:List Nd):T7:=L.foldl (rG P inside more act) []
def qe(P:T7)(inside more:Bool)(act:Int)(L:List Nd)(d:Nd):km P inside more act (L++[d])=rG P inside more act (km P inside more act L) d:=by
 unfold km;simp
def qh(R:List (Nat->Bool))(k:Int):NE (R.map λf j=>f (j+1)) k=λj=>NE R k (j+1):=by
 unfold NE;exact zm169
def pO{M:List α->Prop}(zero:M [])(succ:∀l a,M l->M (l++[a]))(l:List α):M l:=by
 have:∀n (l:List α),l.length=n->M l:=by
  intro n
  induction n with
  |zero=>intro l J;rw[List.length_eq_zero_iff.1 J];exact zero
  |succ n ih=>
   intro l J;have I:l≠[]:=λe=>za
   rw[<-Xe I];exact succ _ _ (ih _ za)
 exact this _ l rfl
def yM{z:Int->Nat->Bool}(h:∀t j,z' t (j+1)=z t j)(L:List Nd):(iq (n+1) z' L).map (λf j=>f (j+1))=iq n z L:=by
 induction L using pO with
 |zero=>rfl
 |succ L d ih=>
  rw[lM,lM,U1,ih]
  congr 1
  rw[UZ,Vv]
  congr 1
  funext j;unfold kL;rw[AJ,h,<-ih,qh,qh]
def Sv(L:List Nd):Prop:=∀(i:Nat)(d:Nd),L[i]?=some d->d.k<=12/\d.a<i/\d.b<i
def Sv.pre{L:List Nd}(h:Sv (L++M)):Sv L:=λi d I=>h i d (by rw[UJ (List.getElem?_eq_some_iff.1 I).1];omega)
def GM{z:Int->Nat->Bool}{act:Int}(h:∀t j,z' t (j+1)=z t j)(h1:∀t,z' t 1=decide (t=act))(hz:∀t j,z' t j=true->j<=n+1)(P:T7)(L:List Nd):
  Sv L->(∃S,P=(iq n z L).map (λf=>f 1)++S)->km P true (decide (1<=n)) act L=(iq (n+1) z' L).map λf=>f 1:=by
 induction L using pO with
 |zero=>intro _ _;rfl
 |succ L d ih=>
  rintro hl ⟨S,J⟩;obtain⟨hk,ha,hb⟩:=hl L.length d zp;rw[lM,U1,UI] at J;have U:=ih hl.pre ⟨_,J⟩;rw[qe,U,lM,U1];unfold rG
  congr 1
  rw[UZ,Vv]
  congr 1
  rw[mj,mj];have I:∀j,(decide (j<=n+1)&&z' d.t j)=z' d.t j:=λj=>by
   cases e:z' d.t j with
   |false=>simp
   |true=>simp[hz _ _ e]
  have e:=xF (z' d.t) (NE (iq (n+1) z' L) d.a) (NE (iq (n+1) z' L) d.b) 1 (n+1) hk;have e4:jF d.k (z' d.t (1+1)) (NE (iq (n+1) z' L) d.a) (NE (iq (n+1) z' L) d.b) (1+1) (n+1)=jF d.k (z d.t 1) (NE (iq n z L) d.a) (NE (iq n z L) d.b) 1 n:=by
   rw[AJ,h,<-qh,<-qh,yM h]
  rw[I,I,e4,h1] at e;have d1:decide (1<=n+1)=true:=zp;have d2:decide (1+1<=n+1)=decide (1<=n):=zp;rw[d1,d2] at e;unfold kL;rw[h1,e];have e2:kF P d.a=NE (iq (n+1) z' L) d.a (1+1):=by
   rw[J,uz (by rw[UL,lL];omega),mj,<-yM h,qh]
  have e3:kF P ((iq (n+1) z' L).map λf=>f 1).length=jF d.k (z d.t 1) (NE (iq n z L) d.a) (NE (iq n z L) d.b) 1 n:=by
   rw[J,UL,lL];unfold kF;rw[T' zo,Uv (by rw[UL,lL];omega),UL,lL];simp[kL]
  simp_all
end Go.Proofs.YtidakhhekofkoaaGreatDoor
