import Derived.Test.YtidakhhekofkoaaGreatDoorT11
import Derived.Lib.QuietBelow
set_option linter.all false
set_option maxHeartbeats 4000000
set_option maxRecDepth 100000
namespace Go.Proofs
def UW:=@Go.cell_regrown
def U3:=@Go.below_regrown
def VY:=@Go.wp_region_quiet_below
def Xj:=@Go.Calls.regrown_of
def Xo:=@Go.wpQuiet_nil
end Go.Proofs
namespace Go.Proofs.YtidakhhekofkoaaGreatDoor
attribute [local go_sem] TT TU TV XL
attribute [local simp] TT TU TV XL
open Go.Proofs.Tryz
open Go.RowKit Go.Deep
open Value renaming slice->xa,int->xd,string->xj,pointer->xk,bool->xn
open IntKind renaming i64->xh
open Obj renaming cells->xi
open Ending renaming returned->xm
open List renaming replicate->QZ
open World renaming setCell->Ra
open Or renaming inl->Rb,inr->Rc
open Lib renaming itoa->Re
variable{zq:Prop}
variable{σ τ:Type}{p:Bool × T7}{L:List Nd}{X u mv dk ix rx wt et wb eb tx:Ud}{q:T5}{cap g' b db A ab a0 f0 nb n0 ac nc mb M tc:Nat}{x:Operand}{t:Tb}{rb ro rc:Nat->Nat}{pb:Ub->Nat}{D:DataW Unit}{m m':T3}{ks:T1}{bo:Obj}{wA:Uc}{to_:TX}{xs:TW}{tr:TZ}{ad:Addr}
def zm179(h:zq:=by
 go_loopw [5] (λx wr=>∃(i:Nat)(ys:TW),i<=n/\x=xd xh i/\Hid (MS wA wr lb cs (xa to_ tn tc) tn C B0 base tE tB (xa lo n lc) n ys)/\Hid (∀j,j<i->ys[j]?=some (mV mk))) (λx _=>n-(intOf x).toNat)
 .exact⟨0,xs,Ux,rfl,HMS2,fy (λj hj=>zo)⟩
 obtain⟨i,ys,hi,rfl,HMS,HY⟩:=hrel;rcases zc i n with⟨hin,hin'⟩|⟨hin,hin'⟩
 .obtain⟨g,hlo,hg,hcell⟩:=gT HMS.out.ls hin;subst hlo;have hyl:ys.length=n:=by have:=HMS.out.ls.1;omega
  have hcell':wr.cell? (TU g i)=some ys[i]:=hcell.trans (Uq zo);have hfz:wr.frozen? (TU g i)=false:=by
   obtain⟨_,⟨hv,_⟩|⟨g',cap',cur,hv,_,hrow,_⟩⟩:=HMS.out.ls
   .cases hv
   cases hv;exact gh hrow i
  have HMS':=HMS.out.setL i (mV mk);generalize ys[i]=old at *;clear hcell;go_wp2
  go_roundw
  .refine⟨i+1,ys.set i (mV mk),zo,by go_num,HMS',fy (λj hj=>?_)⟩;by_cases e:j=i
   .subst e;rw[List.getElem?_set_self zo]
   rw[List.getElem?_set_ne zo];exact HY.out j zo
  simp[intOf];omega
 have hyr:ys=List.replicate n (mV mk):=by
  have hyl:ys.length=n:=by have:=HMS.out.ls.1;omega
  apply List.ext_getElem?;intro j;rw[VM]
  split
  .rename_i hj;exact HY.out j zo
  rename_i hj;exact VA zo
 subst hyr;have bcr:=(EQ HMS.out.lw 1).trans hP1;have hlr:=dK HMS.out.lw;have HB3:=(Uo wr.heap.size wr).alloc (XH) (xi #[fc M mk,xa lo n lc,TV,TV,TV] tB);have HMS3:=HMS.out.later HB3;have HBK3:=gi wr (xi #[fc M mk,xa lo n lc,TV,TV,TV] tB);have hbt:(xa to_ tn tc).ownBlock≠some wr.heap.size:=λe=>by have:=(gJ HMS.out.bk _ e).2;omega
 have hwb:wA.heap.size<=wr.heap.size:=HMS.out.fr.size;clear HY HMS2;have HMA1:=HMS3.later ((XF).alloc (XH) (xi #[mV mk] tE));have HBA1:=(Uf (wr.alloc (xi #[fc M mk,xa lo n lc,TV,TV,TV] tB)) (xi #[mV mk] tE) _ (dK HBK3)).trans HBK3
 go_wp2_with (at_builtin;go_must (refine nI rfl rfl base uL hi0 hz0 hz1 hz2 rfl (xa lo n lc) n (mV mk) rfl ?c10 (TU (wr.heap.size+1) 0) 1 1 rfl ?c11 rfl zd ?c13 ?c14 ?c15 ?_))
 case c10=>exact HMA1.ls
 try case c11=>
  intro j hj
  match j,hj with
  |0,hj=>exact EQ (gu (by first|rfl|simp[World.setCell])) 0
  |j+1,hj=>omega
 case c13=>unfold maxLen;omega
 case c14=>omega
 case c15=>omega
 intro g1 cap1 q1 hown1 hmk1 hat1;have HMQ1:=HMA1.mkd hmk1 zo;have HBQ1:=(hmk1.block _ (dK HBA1) (λe=>gz HMA1.ls e HBA1 zd)).trans HBA1;have HAF11:Hid (SB q1 g1 (n+1) (mV mk) tE):=⟨AF.of_owns hown1,by
  obtain⟨_,⟨hv,_⟩|⟨g',cap',cur,hv,_,hrow,_⟩⟩:=hown1
  .cases hv
  cases hv;exact⟨_,_,hrow⟩⟩
 have hbq1:=dK HBQ1;have bc1:=EQ HBQ1;have bf1:=gh HBQ1;have HMX1:=HMQ1.setB HBQ1 hwb zd zd hbt 2 (xa (TT g1) (n+1) cap1);have HBX1:Hid (_=some (xi #[fc M mk,xa lo n lc,xa (TT g1) (n+1) cap1,TV,TV] tB (0,0))):=gj HBQ1 2 (xa (TT g1) (n+1) cap1);have HAX11:=HAF11.out.set (o:=2) (u:=(xa (TT g1) (n+1) cap1)) HBQ1 zd;have HMA2:=HMX1.later ((XF).alloc (XH) (xi #[mV mk,mV mk] tE));have HBA2:=(Uf _ (xi #[mV mk,mV mk] tE) _ (dK HBX1.out)).trans HBX1.out;have HAA12:=HAX11.later ((XF).alloc (XH) (xi #[mV mk,mV mk] tE));have HNW1:Hid (mi wA (xa lo n lc) (xa (TT g1) (n+1) cap1)):=⟨g1,_,_,rfl,hat1.imp id (λe=>by have:=hwb;omega)⟩;clear hown1 hmk1 hat1
 go_wp2_with (at_builtin;go_must (refine nI rfl rfl base uL hi0 hz0 hz1 hz2 rfl (xa lo n lc) n (mV mk) rfl ?c20 (TU q1.heap.size 0) 2 2 rfl ?c21 rfl zd ?c23 ?c24 ?c25 ?_))
 case c20=>exact HMA2.ls
 try case c21=>
  intro j hj
  match j,hj with
  |0,hj=>exact EQ (gu (by first|rfl|simp[World.setCell])) 0
  |1,hj=>exact EQ (gu (by first|rfl|simp[World.setCell])) 1
  |j+2,hj=>omega
 case c23=>unfold maxLen;omega
 case c24=>omega
 case c25=>exact UP hbA HMA2.fr.size
 intro g2 cap2 q2 hown2 hmk2 hat2;have HMQ2:=HMA2.mkd hmk2 zo;have HBQ2:=(hmk2.block _ (dK HBA2) (λe=>gz HMA2.ls e HBA2 zd)).trans HBA2;have HAF22:Hid (SB q2 g2 (n+2) (mV mk) tE):=⟨AF.of_owns hown2,by
  obtain⟨_,⟨hv,_⟩|⟨g',cap',cur,hv,_,hrow,_⟩⟩:=hown2
  .cases hv
  cases hv;exact⟨_,_,hrow⟩⟩
 have HAF12:=HAA12.mk hmk2 zo;have hbq2:=dK HBQ2;have bc2:=EQ HBQ2;have bf2:=gh HBQ2;have HMX2:=HMQ2.setB HBQ2 hwb zd zd hbt 3 (xa (TT g2) (n+2) cap2);have HBX2:Hid (_=some (xi #[fc M mk,xa lo n lc,xa (TT g1) (n+1) cap1,xa (TT g2) (n+2) cap2,TV] tB (0,0))):=gj HBQ2 3 (xa (TT g2) (n+2) cap2);have HAX12:=HAF12.set (o:=3) (u:=(xa (TT g2) (n+2) cap2)) HBQ2 zd;have HAX22:=HAF22.out.set (o:=3) (u:=(xa (TT g2) (n+2) cap2)) HBQ2 zd;have HMA3:=HMX2.later ((XF).alloc (XH) (xi #[mV mk,mV mk,mV mk] tE));have HBA3:=(Uf _ (xi #[mV mk,mV mk,mV mk] tE) _ (dK HBX2.out)).trans HBX2.out;have HAA13:=HAX12.later ((XF).alloc (XH) (xi #[mV mk,mV mk,mV mk] tE));have HAA23:=HAX22.later ((XF).alloc (XH) (xi #[mV mk,mV mk,mV mk] tE));have HNW2:Hid (mi wA (xa lo n lc) (xa (TT g2) (n+2) cap2)):=⟨g2,_,_,rfl,hat2.imp id (λe=>by have:=HMQ1.fr.size;omega)⟩;clear hown2 hmk2 hat2;clear bc1 bf1
 go_wp2_with (at_builtin;go_must (refine nI rfl rfl base uL hi0 hz0 hz1 hz2 rfl (xa lo n lc) n (mV mk) rfl ?c30 (TU q2.heap.size 0) 3 3 rfl ?c31 rfl zd ?c33 ?c34 ?c35 ?_))
 case c30=>exact HMA3.ls
 try case c31=>
  intro j hj
  match j,hj with
  |0,hj=>exact EQ (gu (by first|rfl|simp[World.setCell])) 0
  |1,hj=>exact EQ (gu (by first|rfl|simp[World.setCell])) 1
  |2,hj=>exact EQ (gu (by first|rfl|simp[World.setCell])) 2
  |j+3,hj=>omega
 case c33=>unfold maxLen;omega
 case c34=>omega
 case c35=>exact UP hbA HMA3.fr.size
 intro g3 cap3 q3 hown3 hmk3 hat3;have HMQ3:=HMA3.mkd hmk3 zo;have HBQ3:=(hmk3.block _ (dK HBA3) (λe=>gz HMA3.ls e HBA3 zd)).trans HBA3;have HAF33:Hid (SB q3 g3 (n+3) (mV mk) tE):=⟨AF.of_owns hown3,by
  obtain⟨_,⟨hv,_⟩|⟨g',cap',cur,hv,_,hrow,_⟩⟩:=hown3
  .cases hv
  cases hv;exact⟨_,_,hrow⟩⟩
 have HAF13:=HAA13.mk hmk3 zo;have HAF23:=HAA23.mk hmk3 zo;have hbq3:=dK HBQ3;have bc3:=EQ HBQ3;have bf3:=gh HBQ3;have HMX3:=HMQ3.setB HBQ3 hwb zd zd hbt 4 (xa (TT g3) (n+3) cap3);have HBX3:Hid (_=some (xi #[fc M mk,xa lo n lc,xa (TT g1) (n+1) cap1,xa (TT g2) (n+2) cap2,xa (TT g3) (n+3) cap3] tB (0,0))):=gj HBQ3 4 (xa (TT g3) (n+3) cap3);have HAX13:=HAF13.set (o:=4) (u:=(xa (TT g3) (n+3) cap3)) HBQ3 zd;have HAX23:=HAF23.set (o:=4) (u:=(xa (TT g3) (n+3) cap3)) HBQ3 zd;have HAX33:=HAF33.out.set (o:=4) (u:=(xa (TT g3) (n+3) cap3)) HBQ3 zd;have HNW3:Hid (mi wA (xa lo n lc) (xa (TT g3) (n+3) cap3)):=⟨g3,_,_,rfl,hat3.imp id (λe=>by have:=HMQ2.fr.size;omega)⟩;clear hown3 hmk3 hat3;clear bc2 bf2;go_wp2_with fail;generalize (q3.setCell (TU wr.heap.size 4) (xa (TT g3) (n+3) cap3))=W4 at *;have HB4:Hid (W4.heap[wr.heap.size]?=some (xi #[fc M mk,xa lo n lc,xa (TT g1) (n+1) cap1,xa (TT g2) (n+2) cap2,xa (TT g3) (n+3) cap3] tB (0,0))):=HBX3;clear bc3 bf3 HMQ1 HMQ2 HMQ3 HBQ1 HBQ2 HBQ3 HAF11 HAF12 HAF22 HAF13 HAF23 HAF33 HAX11 HAX12 HAX22 HAA12 HAA13 HAA23 HMA1 HMA2 HMA3 HBA1 HBA2 HBA3 HMX1 HMX2 HBX1 HBX2 HBX3 HMS3 HBK3 HB3;have hlb4:=dK HMX3.lw;have hbb4:=dK HB4.out;have hw4:wA.heap.size<=W4.heap.size:=HMX3.fr.size;have hne:lb≠wr.heap.size:=Cb HMX3.lw HB4.out zd;have lc2:=(EQ HMX3.lw pFd).trans hP;have b0:W4.cell? (TU wr.heap.size 0)=some (fc M mk):=(EQ HB4.out 0).trans rfl;have b1:W4.cell? (TU wr.heap.size 1)=some (xa lo n lc):=(EQ HB4.out 1).trans rfl;have b2:W4.cell? (TU wr.heap.size 2)=some (xa (TT g1) (n+1) cap1):=(EQ HB4.out 2).trans rfl;have b3:W4.cell? (TU wr.heap.size 3)=some (xa (TT g2) (n+2) cap2):=(EQ HB4.out 3).trans rfl;have b4:W4.cell? (TU wr.heap.size 4)=some (xa (TT g3) (n+3) cap3):=(EQ HB4.out 4).trans rfl;generalize hBB:wr.heap.size=bb at *;clear hBB;refine R' (S:=λw'=>w'.cell? (TU bb 0)=some (fc M mk)/\w'.cell? (TU bb 1)=some (xa lo n lc)/\w'.cell? (TU bb 2)=some (xa (TT g1) (n+1) cap1)/\w'.cell? (TU bb 3)=some (xa (TT g2) (n+2) cap2)/\w'.cell? (TU bb 4)=some (xa (TT g3) (n+3) cap3)) zk ?_ (λhHeld=>?_)
 .exact⟨b0,b1,b2,b3,b4⟩
 apply zt1 0 (xk (TT lb)) hHeld;apply zt1 1 (xk (TT lb)) hHeld;apply zt1 2 (xk (TT lb)) hHeld;apply zt1 3 (xk (some (TU lb pFd))) hHeld;apply zt1 5 (.agg #[fc M mk,xa lo n lc,xa (TT g1) (n+1) cap1,xa (TT g2) (n+2) cap2,xa (TT g3) (n+3) cap3]) hHeld;refine zrH2 4 6 (λK hK=>?_) λK hK=>?_
 .go_simp;refine hK.out _ _ ⟨b0,b1,b2,b3,b4⟩ (λhHeld=>?_);clear hK K;apply zrH 6;intro K hK;go_simp;refine hK.out _ _ ⟨(XJ (by simpa using hbb4)).trans b0,(XJ (by simpa using hbb4)).trans b1,(XJ (by simpa using hbb4)).trans b2,(XJ (by simpa using hbb4)).trans b3,(XJ (by simpa using hbb4)).trans b4⟩ (λhHeld=>?_);clear hK K;apply zrH 7;intro K hK;refine UB _ zf _ _ tM zf B0 tB j0 zb 5 cz uM hj0 hy0 hy1 hy2 rfl zd (xa to_ tn tc) tn C zf ?d0x (TU W4.heap.size 0) 1 1 [fc M mk,xa lo n lc,xa (TT g1) (n+1) cap1,xa (TT g2) (n+2) cap2,xa (TT g3) (n+3) cap3] zf rfl ?d1x ?d2x zd ?d3x ?d4x ?d5x (W4.heap.size+1) zp ?_
  case d0x=>exact gq HMX3.bk (((XF).drew).alloc (XH) _)
  case d1x=>
   intro j u hj
   match j,hj with
   |0,hj=>simp at hj;subst hj;exact EQ (gu rfl) 0
   |1,hj=>simp at hj;subst hj;exact EQ (gu rfl) 1
   |2,hj=>simp at hj;subst hj;exact EQ (gu rfl) 2
   |3,hj=>simp at hj;subst hj;exact EQ (gu rfl) 3
   |4,hj=>simp at hj;subst hj;exact EQ (gu rfl) 4
   |j+5,hj=>simp at hj
  case d2x=>intro u hu;simp at hu;rcases hu with rfl|rfl|rfl|rfl|rfl<;>rfl
  case d3x=>unfold maxLen;omega
  case d4x=>exact htn
  case d5x=>simp;omega
  intro g8 cap8 q8 hown8 hgrow8 hat8 _;have hwa:XL W4 (W4.drew.alloc (xi #[fc M mk,xa lo n lc,xa (TT g1) (n+1) cap1,xa (TT g2) (n+2) cap2,xa (TT g3) (n+3) cap3] tB)):=((XF).drew).alloc (XH) _;have hbk8:=(hgrow8.block bb (Uw hbb4 hwa.size) (λe=>hbt e.symm)).trans ((hwa.block bb hbb4).trans HB4.out);have hlw8:=(hgrow8.block lb (Uw hlb4 hwa.size) (λe=>gz HMX3.bk e.symm HMX3.lw zd)).trans ((hwa.block lb hlb4).trans HMX3.lw);refine hK.out _ _ ⟨(EQ hbk8 0).trans rfl,(EQ hbk8 1).trans rfl,(EQ hbk8 2).trans rfl,(EQ hbk8 3).trans rfl,(EQ hbk8 4).trans rfl⟩ (λhHeld=>?_);clear hK K;have c8:=EQ hlw8;have f8:=gh hlw8;have hll8:=dK hlw8;have HAT8:=fy hat8;clear hat8;apply zt1 8 (xk (TT lb)) hHeld;apply zt1 9 (xk (some (TU lb pFd))) hHeld;apply zrH 10;intro K hK;go_simp;refine hK.out _ _ ⟨(EQ ((XE (by show bb≠lb;exact λe=>hne e.symm)).trans hbk8) 0).trans rfl,(EQ ((XE (by show bb≠lb;exact λe=>hne e.symm)).trans hbk8) 1).trans rfl,(EQ ((XE (by show bb≠lb;exact λe=>hne e.symm)).trans hbk8) 2).trans rfl,(EQ ((XE (by show bb≠lb;exact λe=>hne e.symm)).trans hbk8) 3).trans rfl,(EQ ((XE (by show bb≠lb;exact λe=>hne e.symm)).trans hbk8) 4).trans rfl⟩ (λhHeld=>?_);clear hK K;refine Ut zk ?_ _;clear hHeld;have hq:=I4 pFd HMX3 hwa hown8 hgrow8 hlw8 HAX13 HAX23 HAX33 zo HNW1.out HNW2.out HNW3.out HAT8.out;go_end0;exact HFIN.out _ hq
 go_simp;refine hK.out _ _ ⟨(XJ (by simpa using hbb4)).trans b0,(XJ (by simpa using hbb4)).trans b1,(XJ (by simpa using hbb4)).trans b2,(XJ (by simpa using hbb4)).trans b3,(XJ (by simpa using hbb4)).trans b4⟩ (λhHeld=>?_);clear hK K;apply zrH 4;intro K hK;go_simp;refine hK.out _ _ ⟨(XJ (by simpa using hbb4)).trans b0,(XJ (by simpa using hbb4)).trans b1,(XJ (by simpa using hbb4)).trans b2,(XJ (by simpa using hbb4)).trans b3,(XJ (by simpa using hbb4)).trans b4⟩ (λhHeld=>?_);clear hK K;apply zrH 7;intro K hK;refine UB _ zf _ _ tM zf B0 tB j0 zb 5 cz uM hj0 hy0 hy1 hy2 rfl zd (xa to_ tn tc) tn C zf ?d0y (TU W4.heap.size 0) 1 1 [fc M mk,xa lo n lc,xa (TT g1) (n+1) cap1,xa (TT g2) (n+2) cap2,xa (TT g3) (n+3) cap3] zf rfl ?d1y ?d2y zd ?d3y ?d4y ?d5y (W4.heap.size+1) zp ?_
 case d0y=>exact gq HMX3.bk (((XF).drew).alloc (XH) _)
 case d1y=>
  intro j u hj
  match j,hj with
  |0,hj=>simp at hj;subst hj;exact EQ (gu rfl) 0
  |1,hj=>simp at hj;subst hj;exact EQ (gu rfl) 1
  |2,hj=>simp at hj;subst hj;exact EQ (gu rfl) 2
  |3,hj=>simp at hj;subst hj;exact EQ (gu rfl) 3
  |4,hj=>simp at hj;subst hj;exact EQ (gu rfl) 4
  |j+5,hj=>simp at hj
 case d2y=>intro u hu;simp at hu;rcases hu with rfl|rfl|rfl|rfl|rfl<;>rfl
 case d3y=>unfold maxLen;omega
 case d4y=>exact htn
 case d5y=>simp;omega
 intro g8 cap8 q8 hown8 hgrow8 hat8 _;have hwa:XL W4 (W4.drew.alloc (xi #[fc M mk,xa lo n lc,xa (TT g1) (n+1) cap1,xa (TT g2) (n+2) cap2,xa (TT g3) (n+3) cap3] tB)):=((XF).drew).alloc (XH) _;have hbk8:=(hgrow8.block bb (Uw hbb4 hwa.size) (λe=>hbt e.symm)).trans ((hwa.block bb hbb4).trans HB4.out);have hlw8:=(hgrow8.block lb (Uw hlb4 hwa.size) (λe=>gz HMX3.bk e.symm HMX3.lw zd)).trans ((hwa.block lb hlb4).trans HMX3.lw);refine hK.out _ _ ⟨(EQ hbk8 0).trans rfl,(EQ hbk8 1).trans rfl,(EQ hbk8 2).trans rfl,(EQ hbk8 3).trans rfl,(EQ hbk8 4).trans rfl⟩ (λhHeld=>?_);clear hK K;have c8:=EQ hlw8;have f8:=gh hlw8;have hll8:=dK hlw8;have HAT8:=fy hat8;clear hat8;apply zt1 8 (xk (TT lb)) hHeld;apply zt1 9 (xk (some (TU lb pFd))) hHeld;apply zrH 10;intro K hK;go_simp;refine hK.out _ _ ⟨(EQ ((XE (by show bb≠lb;exact λe=>hne e.symm)).trans hbk8) 0).trans rfl,(EQ ((XE (by show bb≠lb;exact λe=>hne e.symm)).trans hbk8) 1).trans rfl,(EQ ((XE (by show bb≠lb;exact λe=>hne e.symm)).trans hbk8) 2).trans rfl,(EQ ((XE (by show bb≠lb;exact λe=>hne e.symm)).trans hbk8) 3).trans rfl,(EQ ((XE (by show bb≠lb;exact λe=>hne e.symm)).trans hbk8) 4).trans rfl⟩ (λhHeld=>?_);clear hK K;refine Ut zk ?_ _;clear hHeld;have hq:=I4 pFd HMX3 hwa hown8 hgrow8 hlw8 HAX13 HAX23 HAX33 zo HNW1.out HNW2.out HNW3.out HAT8.out;go_end0;exact HFIN.out _ hq
 ):zq:=h
def zm50(h:zq:=by
 clear hb5;apply zrH 8;intro K hK;go_simp;have hq2:=hq;obtain⟨_,pb',D',hd',_⟩:=hq2;refine hK.out _ _ (EQ hd'.blk 3) (λhHeld=>?_);clear hK K hrun hd' hHeld;refine Ut zk ?_ _;go_wp2_with fail;refine py (v:=xd xh 0) (by simp[results,results30,go_sem]) rfl ?_;rw[HE.out];exact⟨rfl,hq⟩
 ):zq:=h
def zm53(h:zq:=by
 clear h1 h2 h3 h4;go_wp2
 go_roundw
 .exact⟨i+1,zo,zp,by go_num,trivial⟩
 simp[intOf];omega
 ):zq:=h
def zm68(h:zq:=by
 have h0:MS wA wA lb _ (xa to_ tn tc) tn C B0 base tE tB (xa lo n lc) n xs:=⟨hL,hC,hl,⟨rfl,rfl,rfl,XH,λk _ _ _ _=>rfl⟩,⟨zd,zd,zd⟩⟩;exact h0.setM (by rw[hcs,<-hM1];exact gj hL 1 _)
 ):zq:=h
def zm103(h:zq:=by
 obtain⟨cur,h1,h2,_⟩:=h.blk;exact⟨cur.toList,by simp[h2],Or.inr ⟨g,_,cur,rfl,Ux,h1,XH,hn,zo,UF (by simp[h2])⟩⟩
 ):zq:=h
def zm114(h:zq:=by
 have hin:¬ (i:Int)<(tr.length:Int)+8:=zo
 go_wp2_with (refine HMK.mono ?_)
 intro e w2 hp;have hpe:=hp.1;subst hpe;go_wp2;go_ret;exact⟨rfl,hp⟩
 ):zq:=h
def zm143(h:zq:=by
 exact⟨rfl,R0.refl _ _,pb,D,hD,λk hk=>Or.inl hk⟩
 ):zq:=h
def zm154(h:zq:=by
 rintro w' ⟨to',tc',G1,G2,G3,h1,h2⟩;exact⟨rfl,to',tc',G1,G2,G3,by rw[hcs] at h1;exact h1,h2⟩
 ):zq:=h
def rR[DecidableEq σ](s:σ):∀(l:List σ)(i:Nat),iV s l i=(iV s l 0).map (· +i)
 |[],_=>rfl
 |x::r,i=>by
  rw[iV,iV];by_cases e:x=s
  .simp_all
  rw[T' e,T' e,rR s r (i+1),rR s r (0+1)];cases iV s r 0 with
  |none=>rfl
  |some j=>simp;omega
theorem qC[DecidableEq σ](s:σ)(m:List σ):∀(l:List σ),iV s (l++m) 0=match iV s l 0 with|some i=>some i|none=>(iV s m 0).map (· +l.length)
 |[]=>by cases h:iV s m 0<;>simp[iV,h]
 |x::r=>by
  rw[UE,iV,iV];by_cases e:x=s
  .simp_all
  rw[T' e,T' e,rR s (r++m),rR s r,qC s m r];cases iV s r 0 with
  |some j=>rfl
  |none=>
   cases iV s m 0 with
   |none=>rfl
   |some j=>simp;omega
theorem Np[DecidableEq σ][DecidableEq τ](f:σ->τ)(s:σ):∀(l:List σ)(i:Nat),(∀x∈l,f x=f s->x=s)->iV (f s) (l.map f) i=iV s l i:=by intro I;induction I<;>grind[iV]
def yS(l:List (Bool × T7))(c:Nat):Nat:=match iV c (l.map jd) 0 with
 |some i=>i+1
 |none=>0
def qp(N:Nat)(l:List (Bool × T7)):T5:=(List.range N).map (yS l)
theorem sY(N:Nat)(l:List (Bool × T7)):(qp N l).length=N:=by unfold qp;simp
theorem Py{N c:Nat}(l:List (Bool × T7))(h:c<N):(qp N l)[c]?=some (yS l c):=by unfold qp;simp_all
def Od(N:Nat):qp N []=QZ N 0:=by
 unfold qp;refine WX zp λk h1 h2=>?_
 simp[yS,iV]
theorem LR{N:Nat}{l:List (Bool × T7)}(hf:iV (jd p) (l.map jd) 0=none):qp N (l++[p])=(qp N l).set (jd p) (l.length+1):=by
 refine WX (by grind[sY]) λc I h2=>?_
 rw[List.getElem_set];have hc:c<N:=by rw[sY] at I;omega
 have e1:(qp N (l++[p]))[c]=yS (l++[p]) c:=by
  grind[qp]
 grind[qC,qp,yS,iV]
def qG{acts:T5}{k:Nat}{l:List (Bool × T7)}{tw:T0}(h:R7 (oU L) acts (sS L) k l tw):∀p∈l,p.2.length=L.length:=λp J=>by
 obtain⟨j,I⟩:=List.mem_iff_getElem?.1 J;cases j with
 |zero=>
  rw[h.first] at I;cases I;exact mF ..
 |succ j=>
  obtain⟨_,_,_,_,_,a,_,e⟩:=h.met j p I;rw[e];exact mF ..
def yG(hL:L.length<=16){acts:T5}{k:Nat}{l:List (Bool × T7)}{tw:T0}(h:R7 (oU L) acts (sS L) k l tw):l.length<=131072:=by
 have I:=qG h;have J:(l.map jd).Nodup:=by
  rw[List.nodup_iff_pairwise_ne,List.pairwise_map];exact h.nodup.imp_of_mem λ{a b} ha hb hab e=>hab (Al ((I a ha).trans (I b hb).symm) e)
 have:=xE 131072 (l.map jd) J (λc hc=>by
  obtain⟨p,U,rfl⟩:=List.mem_map.1 hc;exact xt p (n:=16) (by rw[I p U];omega))
 simp_all
def Oe{l:List (Bool × T7)}(I:∀q∈l,q.2.length=p.2.length):(yS l (jd p)=0/\iV (jd p) (l.map jd) 0=none/\jx l p=(l++[p],l.length))\/∃i,i<l.length/\yS l (jd p)=i+1/\jx l p=(l,i):=by
 have e:=Np jd p l 0 (λq J hc=>Al (I q J) hc);unfold yS jx;rw[e];cases hf:iV p l 0 with
 |none=>simp
 |some i=>
  have:=(List.getElem?_eq_some_iff.1 (mE hf).2).1;simp_all
def pC(l:List (Bool × T7)):TW:=l.flatMap λp=>[xj (gK p.2),xn p.1]
def N3(l m:List (Bool × T7)):pC (l++m)=pC l++pC m:=by unfold pC;simp
theorem Fh(l:List (Bool × T7)):(pC l).length=l.length*2:=by
 induction l with
 |nil=>rfl
 |cons x l ih=>grind[pC]
theorem Jl:∀{l:List (Bool × T7)} {i:Nat} {p:Bool × T7},l[i]?=some p->(pC l)[i*2]?=some (xj (gK p.2))/\(pC l)[i*2+1]?=some (xn p.1)
 |[],i,c,h=>zv
 |x::l,0,p,h=>by
  grind[pC]
 |x::l,i+1,p,h=>by
  have I:l[i]?=some p:=zv;have ih:=Jl I
  grind[pC]
def Qj(w:Uc)(o:TX)(l:List (Bool × T7)):Prop:=∀(j:Nat)(p:Bool × T7),l[j]?=some p->∃g,o=some ⟨g,0,none⟩/\g<w.heap.size/\w.cell? (TU g (j*2))=some (xj (gK p.2))/\w.cell? (TU g (j*2+1))=some (xn p.1)
theorem Jo{w:Uc}{base n k:Nat}{o:TX}{l:List (Bool × T7)}(h:w.ownsRow base 302 2 (xa o n k) n (pC l)):Qj w o l:=λi p J=>by
 have hi:=(List.getElem?_eq_some_iff.1 J).1;obtain⟨I,⟨h1,h2⟩|⟨g,cap,cur,U,hb,hrow,hle,_,hcs,htake⟩⟩:=h
 .rw[Fh] at I;omega
 cases U;have hn:l.length=n:=by rw[Fh] at I;omega
 have hcell:∀m v,(pC l)[m]?=some v->w.cell? (TU g m)=some v:=λm v hm=>by
  grind[EQ]
 grind[Jl]
structure SG(V W:Uc)(N sb:Nat)(lo:TX)(lc:Nat)(l:List (Bool × T7))(ho:TX)(hc:Nat)(rv:TW)(tw:T0):Prop where
 pl:W.ownsRow V.heap.size 302 2 (xa lo l.length lc) l.length (pC l)
 tab:R6 W V.heap.size TV (xa (TT sb) N N) (xa ho tw.length hc) ⟨[],qp N l,tw⟩ rv
 bel:XL V W
section
variable{V W W':Uc}{N sb:Nat}{lo:TX}{lc:Nat}{l:List (Bool × T7)}{ho:TX}{hc:Nat}{rv:TW}{tw:T0}
def SG.later(h:SG V W N sb lo lc l ho hc rv tw)(I:XL W W'):SG V W' N sb lo lc l ho hc rv tw:=
 ⟨gq h.pl I,h.tab.later I,h.bel.trans (I.mono h.bel.size)⟩
theorem MN{A:Ud}(h:R6 W V.heap.size A (xa (TT sb) N N) X ⟨[],qp N l,tw⟩ rv){c:Nat}(J:c<N):W.cell? (TU sb c)=some (xd xh (yS l c:Nat))/\sb<W.heap.size/\W.frozen? (TU sb c)=false:=by
 have hlen:=sY N l;have I:W.ownsRow V.heap.size 3 1 (xa (TT sb) N N) N (gX (qp N l)):=by
  have:=h.fl
  grind
 obtain⟨g,U,h2,h3⟩:=gT I J;cases U;obtain⟨cs,hcs⟩:=jj I (b:=sb) rfl
 grind[Py,gh,gX]
def SG.tabL(h:SG V W N sb lo lc l ho hc rv tw)(J:W.grownBy W' (xa lo l.length lc).ownBlock):R6 W' V.heap.size TV (xa (TT sb) N N) (xa ho tw.length hc) ⟨[],qp N l,tw⟩ rv:=
 h.tab.grow J λb I=>⟨iA h.tab.acts h.pl zp b I,iA h.tab.fl h.pl zp b I,iA h.tab.nx h.pl zp b I,λu U=>by
  obtain⟨r,hr⟩:=h.tab.row_at U;exact iA hr h.pl zp b I⟩
def SG.more(h:SG V W N sb lo lc l ho hc rv tw){v:Ud}(hu:Sn W V.heap.size (xa (TT sb) N N) rv v q)(hf:iV (jd p) (l.map jd) 0=none){g:Nat}
  (U:W'.ownsRow V.heap.size 302 2 (xa (TT g) (l.length+1) cap) (l.length+1) (pC l++[xj (gK p.2),xn p.1]))(I:W.grownBy W' (xa lo l.length lc).ownBlock){z:Int}(hz:((l.length+1:Nat):Int)=z):
  SG V (W'.setCell (TU sb (jd p)) (xd xh z)) N sb (TT g) cap (l++[p]) ho hc rv tw/\Sn (W'.setCell (TU sb (jd p)) (xd xh z)) V.heap.size (xa (TT sb) N N) rv v q:=by
 have J:=sY N l;subst hz;have t1:=h.tabL I;have u1:=hu.grow I (iA hu.own h.pl zp);have t2:=t1.fset J (jd p) (l.length+1);have b1:=h.bel.grown I h.bel.size (λb hb=>(gJ h.pl b hb).1);have hsb:=(gJ t1.fl sb rfl).1;refine⟨⟨?_,?_,b1.setCell (p:=⟨sb,jd p,none⟩) hsb _⟩,u1.fset _ _⟩
 .have e:pC (l++[p])=pC l++[xj (gK p.2),xn p.1]:=by rw[N3];rfl
  rw[e,Ur];exact gG U (gp W' sb _ _) λb hb e=>iA U t1.fl zp b hb e
 rw[LR hf];exact t2
def SG.num(h:SG V W N sb lo lc l ho hc rv tw){v v':Ud}(U:Sn W V.heap.size (xa (TT sb) N N) rv v q){x:Nat}(J:W'.ownsRow V.heap.size 3 1 v' (q.length+1) (gX q++[xd xh (x:Int)]))(hg:W.grownBy W' v.ownBlock)(aa:v'.ownBlock=some g')(I:v.ownBlock=some g'\/W.heap.size<=g'):
  SG V W' N sb lo lc l ho hc rv tw/\Sn W' V.heap.size (xa (TT sb) N N) rv v' (q++[x]):=by
 obtain⟨t1,u1⟩:=h.tab.num U J hg aa I;exact⟨⟨gG h.pl hg (iA h.pl U.own zp),t1,h.bel.grown hg h.bel.size (λb hb=>(gJ U.own b hb).1)⟩,u1⟩
theorem SG.row(h:SG V W N sb lo lc l ho hc rv tw){v:Ud}(U:Sn W V.heap.size (xa (TT sb) N N) rv v q){g:Nat}(I:W'.ownsRow V.heap.size 33 1 (xa (TT g) (tw.length+1) cap) (tw.length+1) (rv++[v]))(hg:W.grownBy W' (xa ho tw.length hc).ownBlock):
  SG V W' N sb lo lc l (TT g) cap (rv++[v]) (tw++[q]):=by
 have t1:=h.tab.row U I hg;refine⟨gG h.pl hg (iA h.pl h.tab.nx zp),?_,h.bel.grown hg h.bel.size (λb J=>(gJ h.tab.nx b J).1)⟩
 grind
end
open Go.Maps
def MX{w:Uc}:(zeroValue 97).run prog w=.ok (xk none) w:=zk
section
variable{w:Uc}{ops:Array Oper}{rest:List Oper}{o:Oper}{a:Act}{Q:Exit->Act->Uc->Prop}
def o9(hg:o.guard=none){m:Operand}(aa:o.op=Op.lookup 93 m x true){k:Nat}(D:DataW Unit)(hm:a.eval m=.map (some b))(I:w.ownsMap prog 9 l9 b k D){id:Ub}(hx:a.eval x=xj id)(U:id.size<=140737488355328)
  {p:Nat}(hh:Maps.has D (lj id)=true)(J:∀zd,D.atKey (lj id) zd=.lit (.int xh (p:Int)))(hK:wpList prog ops Q rest (a.put o.dst (.tuple #[xk (TT p),xn true])) w):wpList prog ops Q (o::rest) a w:=
 wpList_lookup_own_ok w hg m x _ aa 9 97 uH underlying93 l9 (MX) .nil [] rfl b k D hm I _ _ hx (Gj U) (λv ps hv=>by
  rw[J] at hv;rw[Lx hv,hh];exact hK)
def oD(hg:o.guard=none){m:Operand}(U:o.op=Op.lookup 93 m x true){k:Nat}(D:DataW Unit)(hm:a.eval m=.map (some b))(I:w.ownsMap prog 9 l9 b k D){id:Ub}(hx:a.eval x=xj id)(J:id.size<=140737488355328)
  (hh:Maps.has D (lj id)=false)(hK:wpList prog ops Q rest (a.put o.dst (.tuple #[xk none,xn false])) w):wpList prog ops Q (o::rest) a w:=
 wpList_lookup_own_ok w hg m x _ U 9 97 uH underlying93 l9 (MX) .nil [] rfl b k D hm I _ _ hx (Gj J) (λv ps hv=>by
  rw[atKey_of_not_has hh] at hv;rw[Ly hv,hh];exact hK)
end
def Si.there{w:Uc}{cs:List Cs}{n fb fc:Nat}(h:Si w db t cs A n ab a0 fb f0 nb n0 ac fc nc rb ro rc mb pb D){id:Ub}{c:Cs}(hc:jP cs id=some c):
  Maps.has D (lj id)=true/\(∀zd,D.atKey (lj id) zd=.lit (.int xh (pb id:Int)))/\c∈cs/\c.id=id:=by
 obtain⟨I,J⟩:=oA hc;refine⟨(h.has id).2 ⟨c,I,J⟩,λzd=>?_,I,J⟩;have:=h.at_ c I zd;rw[J] at this;exact this
theorem Si.gone{w:Uc}{cs:List Cs}{n fb fc:Nat}(h:Si w db t cs A n ab a0 fb f0 nb n0 ac fc nc rb ro rc mb pb D){id:Ub}(hc:jP cs id=none):
  Maps.has D (lj id)=false:=by
 cases e:Maps.has D (lj id) with
 |false=>rfl
 |true=>obtain⟨c,h1,h2⟩:=(h.has id).1 e;grind[uB]
def DA{w:Uc}{cs:List Cs}{n fb fc:Nat}(rb ro rc:Nat->Nat)(pb:Ub->Nat)(D:DataW Unit)(hD:Si w db t cs A n ab a0 fb f0 nb n0 ac fc nc rb ro rc mb pb D){s:Nat}(hs:s<n)(act:Ub):
  Calls prog 50 #[xk (TT db),xd xh (s:Int),xj act] w λe w'=>e=xm (.tuple #[xd xh ((i' t s act).1:Int),xd xh ((i' t s act).2:Int)])/\XL w w':=by
 have c0:=EQ hD.blk 0;have c1:=EQ hD.blk 1;have c2:=EQ hD.blk 2;have l0:=dK hD.blk;have HN:=Le w t A n ab a0 fb f0 nb n0 ac fc nc rb ro rc hD.tb s hs act;go_in;go_wp2_with fail;refine HN.mono ?_;clear HN c0 c1 c2 l0;rintro e w1 ⟨hn,J⟩;have I:=hD.later J;clear hD;rcases hn with⟨hf,rfl⟩|⟨a,hf,rfl⟩
 .have e:i' t s act=(0,3):=by unfold i';rw[hf]
  have HE:=fy e;clear hf e;go_wp2_with fail;refine py (v:=.tuple #[xd xh 0,xd xh 3]) (by simp[results,results50,go_sem]) rfl ?_;exact⟨by rw[HE.out];rfl,J⟩
 have ak:a<A:=by
  have h1:=(List.getElem?_eq_some_iff.1 (mE hf).2).1;rw[WT,I.tb.hA] at h1;exact h1
 have hy:=I.tb.lt hs ak;have e:i' t s act=if jS t (kW t s a)<2 then (0,9) else (kW t s a,0):=by unfold i';rw[hf]
 have HE:=fy e;clear hf e;generalize kW t s a=y at *;have HH:=Ay w1 t A n ab a0 fb f0 nb n0 ac fc nc rb ro rc I.tb y hy;have c0:=EQ I.blk 0;have c1:=EQ I.blk 1;have c2:=EQ I.blk 2;have l0:=dK I.blk;by_cases h2:2<=jS t y
 .rw[UH h2] at HH;have U:Hid (i' t s act=(y,0)):=by show _=_;rw[HE.out,T' zo]
  clear h2;go_wp2_with fail;refine HH.mono ?_;clear HH c0 c1 c2 l0;rintro e w2 ⟨rfl,ae⟩;go_wp2_with fail;refine py (v:=.tuple #[xd xh (y:Int),xd xh 0]) (by simp[results,results50,go_sem]) rfl ?_;exact⟨by rw[U.out];rfl,J.trans (ae.mono J.size)⟩
 rw[Uy h2] at HH;have U:Hid (i' t s act=(0,9)):=by show _=_;rw[HE.out,Uh zo]
 clear h2;go_wp2_with fail;refine HH.mono ?_;clear HH c0 c1 c2 l0;rintro e w2 ⟨rfl,ae⟩;go_wp2_with fail;refine py (v:=.tuple #[xd xh 0,xd xh 9]) (by simp[results,results50,go_sem]) rfl ?_;exact⟨by rw[U.out];rfl,J.trans (ae.mono J.size)⟩
def OD(db:Nat)(t:Tb)(cs cs':List Cs)(A n ab a0 fb f0 nb n0 ac fc nc:Nat)(rb ro rc:Nat->Nat)(mb:Nat)(pb:Ub->Nat)(w w':Uc):Prop:=
 R0 (lU cs mb pb) w w'/\∃pb' D',Si w' db t cs' A n ab a0 fb f0 nb n0 ac fc nc rb ro rc mb pb' D'/\∀k,lU cs' mb pb' k->lU cs mb pb k\/w.heap.size<=k
theorem Si.begin{w:Uc}{cs:List Cs}{n fb fc:Nat}(h:Si w db t cs A n ab a0 fb f0 nb n0 ac fc nc rb ro rc mb pb D){id:Ub}(U:id.size<=140737488355328)(I:∀c∈cs,c.id≠id)(h8:¬ 8<=cs.length)
  {W:Uc}(hb:XL w W){p:Nat}(hp:W.heap[p]?=some (xi #[xd xh 0,xd xh 0] 100 (0,0)))(hpn:w.heap.size<=p):
  ∃w',(Instr.mapUpdate 93 (.map (some mb)) (xj id) (xk (TT p))).run prog W=.ok () w'/\OD db t cs (cs++[⟨id,0,0⟩]) A n ab a0 fb f0 nb n0 ac fc nc rb ro rc mb pb w w':=by
 have hW:=h.later hb;obtain⟨w',J,hm,ht⟩:=hW.mp.store uH underlying93 (by unfold maxLen;omega) (Gj U) (N4 p);obtain⟨h1,h2⟩:=hW.new (id:=id) I zo hp (λhs=>by have:=h.blocks hs;omega) ⟨by have:=dK h.blk;omega,by have:=h.tb.la;omega,by have:=h.tb.lf;omega,by have:=h.tb.ln;omega,λi hi=>by have:=h.tb.lr i hi;omega⟩ hm ht;refine⟨w',J,(R0.below hb).trans h2,_,_,h1,λk hk=>?_⟩;rcases hk with rfl|⟨c,hc,rfl⟩
 .exact Rb (Rb rfl)
 rcases List.mem_append.1 hc with hc|hc
 .rw[mU (I c hc)];exact Rb (Rc ⟨c,hc,rfl⟩)
 grind[qF]
def H9{w:Uc}{cs:List Cs}{n fb fc:Nat}(rb ro rc:Nat->Nat)(pb:Ub->Nat)(D:DataW Unit)(hD:Si w db t cs A n ab a0 fb f0 nb n0 ac fc nc rb ro rc mb pb D){id:Ub}(U:id.size<=140737488355328):
  Calls prog 30 #[xk (TT db),xj id] w λe w'=>e=xm (xd xh ((jo cs id).2:Int))/\OD db t cs (jo cs id).1 A n ab a0 fb f0 nb n0 ac fc nc rb ro rc mb pb w w':=by
 have c3:=EQ hD.blk 3;have l0:=dK hD.blk;go_in;cases hc:jP cs id with
 |some c=>
  have HT:=fy (hD.there hc);have e:jo cs id=(cs,8):=by unfold jo;rw[hc]
  rw[e];clear hc e
  go_wp2_with (at_lookup;go_must (refine o9 rfl rfl D rfl hD.mp rfl U HT.out.1 HT.out.2.1 ?_))
  clear HT;go_wp2_with fail;refine py (v:=xd xh 8) (by simp[results,results30,go_sem]) rfl ?_;exact zm143
 |none=>
  have HT:=fy (hD.gone hc);have aa:=hD.mp.len underlying93 3;rw[hD.sz] at aa;have ai:=fy (uB hc);by_cases h8:8<=cs.length
  .have e:jo cs id=(cs,11):=by unfold jo;rw[hc];simp only[Uh h8]
   rw[e];have an:(8:Int)<=(cs.length:Int):=zo;clear hc e
   go_wp2_with (at_lookup;go_must (refine oD rfl rfl D rfl hD.mp rfl U HT.out ?_))
   go_wp2_with fail;refine py (v:=xd xh 11) (by simp[results,results30,go_sem]) rfl ?_;exact zm143
  have e:jo cs id=(cs++[⟨id,0,0⟩],0):=by unfold jo;rw[hc];simp only[T' h8]
  have ak:=fy e;have an:¬ (8:Int)<=(cs.length:Int):=zo;clear hc e
  go_wp2_with (at_lookup;go_must (refine oD rfl rfl D rfl hD.mp rfl U HT.out ?_))
  clear HT aa;have HE:Hid (jo cs id=(cs++[⟨id,0,0⟩],0)):=ak.out;go_wp2_with fail;refine R' (S:=λw'=>w'.cell? (TU db 3)=some (.map (some mb))) zk ?_ (λhHeld=>?_)
  .exact c3
  apply zt1 0 (xk (TT db)) hHeld;apply zt1 1 (xk (TT db)) hHeld;apply zt1 2 (xk (some (TU db 3))) hHeld;apply zt1 3 (.map (some mb)) hHeld;apply zt1 4 (xj id) hHeld;apply zt1 6 (.agg #[xd xh 0,xd xh 0]) hHeld;refine zrH2 5 7 (λK hK=>?_) λK hK=>?_
  .go_simp;refine(pt _ zo).mono ?_;rintro e w5 ⟨rfl,hb5⟩;have I:XL w w5:=((XF).drew).trans hb5;have hl5:=Uw l0 I.size;refine hK.out _ _ ((Fd I _ _ l0).trans c3) (λhHeld=>?_);clear hK K;apply zrH 7;intro K hK;go_simp;have J:XL w (w5.alloc (xi #[xd xh 0,xd xh 0] 100)):=I.trans (gC.mono I.size);refine hK.out _ _ ((Fd J _ _ l0).trans c3) (λhHeld=>?_);clear hK K;obtain⟨w8,hrun,hq⟩:=hD.begin U ai.out h8 J (gi w5 _) I.size;have hb5':=hb5;exact zm50
  go_simp;have I:XL w (w.drew.alloc (xi #[xd xh 0,xd xh 0] 100)):=((XF).drew).alloc (XH) _;refine hK.out _ _ ((Fd I _ _ l0).trans c3) (λhHeld=>?_);clear hK K;apply zrH 5;intro K hK;go_simp;refine(pt _ zo).mono ?_;rintro e w5 ⟨rfl,hb5⟩;have J:XL w w5:=I.trans (hb5.mono I.size);refine hK.out _ _ ((Fd J _ _ l0).trans c3) (λhHeld=>?_);clear hK K;have ao:w5.heap[w.heap.size]?=some (xi #[xd xh 0,xd xh 0] 100 (0,0)):=(hb5.block _ zp).trans (gi w.drew _);obtain⟨w8,hrun,hq⟩:=hD.begin U ai.out h8 J ao (XH);exact zm50
def Hs{w:Uc}{cs:List Cs}{n fb fc:Nat}(rb ro rc:Nat->Nat)(pb:Ub->Nat)(D:DataW Unit)(U:Si w db t cs A n ab a0 fb f0 nb n0 ac fc nc rb ro rc mb pb D){id:Ub}(act:Ub)(au:id.size<=140737488355328)(an:∀c∈cs,c.ev<=4611686018427387904):
  Calls prog 32 #[xk (TT db),xj id,xj act] w λe w'=>e=xm (xd xh ((jn t cs id act).2:Int))/\R0 (lU cs mb pb) w w'/\Si w' db t (jn t cs id act).1 A n ab a0 fb f0 nb n0 ac fc nc rb ro rc mb pb D:=by
 have c3:=EQ U.blk 3;have l0:=dK U.blk;go_in;cases hc:jP cs id with
 |none=>
  have HT:=fy (U.gone hc);have e:jn t cs id act=(cs,8):=by unfold jn;rw[hc]
  rw[e];clear hc e an
  go_wp2_with (at_lookup;go_must (refine oD rfl rfl D rfl U.mp rfl au HT.out ?_))
  go_wp2_with fail;refine py (v:=xd xh 8) (by simp[results,results32,go_sem]) rfl ?_;exact⟨rfl,R0.refl _ _,U⟩
 |some c=>
  have HT:=fy (U.there hc);obtain⟨ag,ae⟩:=oA hc;have hce:=an c ag;have ay:=fy ag;have ax:=fy ae;have av:=U.st c ag;have J:=U.cell c ag;rw[ae] at J;have e:jn t cs id act=if (i' t c.st act).2=0 then (jI cs id (i' t c.st act).1 (c.ev+1),0) else (cs,(i' t c.st act).2):=by unfold jn;rw[hc]
  have HE:=fy e;have aq:=DA rb ro rc pb D U av act;have ao:(i' t c.st act).2=0->(i' t c.st act).1<n:=λh0=>by
   unfold i' at h0|-;cases hf:iV act t.acts 0 with
   |none=>rw[hf] at h0;cases h0
   |some a=>
    rw[hf] at h0;have aB:a<A:=by
     have h1:=(List.getElem?_eq_some_iff.1 (mE hf).2).1;rw[WT,U.tb.hA] at h1;exact h1
    have hy:=U.tb.lt av aB;simp only at h0|-
    split
    .show 0<n;have:=U.tb.n1;omega
    exact hy
  clear hc e an ag ae;generalize hds:i' t c.st act=ds at *;obtain⟨d1,d2⟩:=ds;simp only at ao|-;have p0:=EQ J 0;have p1:=EQ J 1;have lp:=dK J;clear hds
  go_wp2_with (at_lookup;go_must (refine o9 rfl rfl D rfl U.mp rfl au HT.out.1 HT.out.2.1 ?_))
  clear HT c3;go_wp2_with fail;refine aq.mono ?_;clear aq p0 p1 lp;rintro e w1 ⟨rfl,aa⟩;by_cases h0:d2=0
  .subst h0;have az:=U.later aa;have I:=(aa.block _ (dK J)).trans J;have p0:=EQ I 0;have p1:=EQ I 1;have q0:=gh I 0;have q1:=gh I 1;have lp:=dK I;have aC:=ao rfl;have ai:=az.put ay.out d1 (c.ev+1) aC;rw[ax.out] at ai;have aj:=fy ai;clear ai ao I;go_wp2_with fail;refine py (v:=xd xh 0) (by simp[results,results32,go_sem]) rfl ?_;have e2:jn t cs id act=(jI cs id d1 (c.ev+1),0):=by rw[HE.out];rfl
   rw[e2];exact⟨rfl,(R0.below aa).trans (aj.out.2),aj.out.1⟩
  have aA:Hid (jn t cs id act=(cs,d2)):=by show _=_;rw[HE.out];simp only[T' h0]
  have h0i:¬ ((d2:Nat):Int)=0:=zo;go_wp2_with fail;refine py (v:=xd xh (d2:Int)) (by simp[results,results32,go_sem]) rfl ?_;rw[aA.out];exact⟨rfl,R0.below aa,U.later aa⟩
def MZ{w:Uc}{cs:List Cs}{n fb fc:Nat}(rb ro rc:Nat->Nat)(pb:Ub->Nat)(D:DataW Unit)(hD:Si w db t cs A n ab a0 fb f0 nb n0 ac fc nc rb ro rc mb pb D){id:Ub}(ak:id.size<=140737488355328):
  Calls prog 53 #[xk (TT db),xj id] w λe w'=>e=xm (xd xh ((kv t cs id).2:Int))/\OD db t cs (kv t cs id).1 A n ab a0 fb f0 nb n0 ac fc nc rb ro rc mb pb w w':=by
 have c3:=EQ hD.blk 3;have l0:=dK hD.blk;go_in;cases hc:jP cs id with
 |none=>
  have HT:=fy (hD.gone hc);have e:kv t cs id=(cs,8):=by unfold kv;rw[hc]
  rw[e];clear hc e
  go_wp2_with (at_lookup;go_must (refine oD rfl rfl D rfl hD.mp rfl ak HT.out ?_))
  go_wp2_with fail;refine py (v:=xd xh 8) (by simp[results,results53,go_sem]) rfl ?_;exact zm143
 |some c=>
  have HT:=fy (hD.there hc);obtain⟨ag,J⟩:=oA hc;have av:=fy ag;have an:=fy J;have ax:=hD.st c ag;have I:=hD.cell c ag;rw[J] at I;have e:kv t cs id=if kM t c.st=true then (je cs id,0) else (cs,10):=by unfold kv;rw[hc]
  have HE:=fy e;clear hc e ag J
  go_wp2_with (at_lookup;go_must (refine o9 rfl rfl D rfl hD.mp rfl ak HT.out.1 HT.out.2.1 ?_))
  have ao:=fy (λd os=>EW (Go.Sort.grow (redrawn w d) os) t A n ab a0 fb f0 nb n0 ac fc nc rb ro rc (hD.tb.later (U3 w d os)) c.st ax);have k0:=λd os=>UW (EQ hD.blk 0) d os
  have k1:=λd os=>UW (EQ hD.blk 1) d os
  have k2:=λd os=>UW (EQ hD.blk 2) d os
  have kl:∀d os,db<(Go.Sort.grow (redrawn w d) os).heap.size:=λd os=>Uw (dK hD.blk) (U3 w d os).size
  have p0:=λd os=>UW (EQ I 0) d os
  have lp:∀d os,pb id<(Go.Sort.grow (redrawn w d) os).heap.size:=λd os=>Uw (dK I) (U3 w d os).size
  clear HT c3;generalize kM t c.st=acc at *;go_wp2_with fail;refine VY zk zk ?_
  repeat (quiet_step (first|(go_at_call 48;exact Xj (ao.out _ _))))
  refine Xo ?_;intro w1 ay;obtain⟨⟨dq,az⟩,aj⟩:=ay;have ae:XL w w1:=by rw[aj];exact U3 w dq az
  clear aj k0 k1 k2 kl p0 lp ao;have aa:=hD.later ae;have c3:=EQ aa.blk 3;have l1:=dK aa.blk;cases acc with
  |false=>
   go_wp2_with fail;refine py (v:=xd xh 10) (by simp[results,results53,go_sem]) rfl ?_;have e2:kv t cs id=(cs,10):=by rw[HE.out];rfl
   rw[e2];exact⟨rfl,R0.below ae,pb,D,hD.later ae,λk hk=>Rb hk⟩
  |true=>
   go_wp2_with (at_delete;go_must (refine wpList_delete_own _ rfl _ _ 93 9 rfl 97 uH underlying93 l9 mb cs.length D rfl aa.mp _ (lj id) rfl (Gj ak) ?_))
   intro w2 ar au;have U:=aa.del av.out (w':=w2) (by rw[an.out];exact ar) au;rw[an.out] at U;have ai:=fy U;clear U ar au;go_wp2_with fail;refine py (v:=xd xh 0) (by simp[results,results53,go_sem]) rfl ?_;have e2:kv t cs id=(je cs id,0):=by rw[HE.out];rfl
   rw[e2];exact⟨rfl,(R0.below ae).trans ai.out.2,pb,_,ai.out.1,λk hk=>Rb (by
    rcases hk with rfl|⟨x,hx,rfl⟩
    .exact Rb rfl
    exact Rc ⟨x,(kT.1 hx).1,rfl⟩)⟩
def Tryz.infoIB:(prog.info? 123).map (λi=>(i.zero,i.size,i.bytes))=some (some (.agg #[xd xh 0,TV,TV,TV,TV]),5,104):=zk
def vG(w:Uc)(lb:Nat)(dk:Ud)(M:Nat)(to_:TX)(tn tc:Nat)(tx rx wt et wb eb:Ud)(C:TW)(B0:Nat)(l:Ud)(w':Uc)(e:Ending):Prop:=
 e=xm (.tuple #[])/\∃to' tc' G1 G2 G3,xZ w' lb dk (M+1) tx (xa to' (tn+1) tc') rx wt et wb eb/\w'.ownsRow B0 123 5 (xa to' (tn+1) tc') (tn+1) (C++[xd xh (-((M:Int)+1)),l,G1,G2,G3])/\
  Q1 w' l (xd xh (-((M:Int)+1))) 3/\Q1 w' G1 (xd xh (-((M:Int)+1))) 3/\Q1 w' G2 (xd xh (-((M:Int)+1))) 3/\Q1 w' G3 (xd xh (-((M:Int)+1))) 3/\mi w l G1/\mi w l G2/\mi w l G3/\mi w (xa to_ tn tc) (xa to' (tn+1) tc')/\Ad lb l (xa to_ tn tc) w w'
def Tryz.infoRB:(prog.info? 120).map (λi=>(i.zero,i.size,i.bytes))=some (some (.agg #[xd xh 0,TV,TV,TV,TV]),5,104):=zk
def EG(w:Uc)(lb:Nat)(dk:Ud)(M:Nat)(to_:TX)(tn tc:Nat)(tx ix wt et wb eb:Ud)(C:TW)(B0:Nat)(l:Ud)(w':Uc)(e:Ending):Prop:=
 e=xm (.tuple #[])/\∃to' tc' G1 G2 G3 mb,mb=w.heap.size-1/\xZ w' lb dk (M+1) tx ix (xa to' (tn+1) tc') wt et wb eb/\w'.ownsRow B0 120 5 (xa to' (tn+1) tc') (tn+1) (C++[xd xh (-((M:Int)+1)),l,G1,G2,G3])/\
  Q1 w' l (xa (TT mb) 1 1) 33/\Q1 w' G1 (xa (TT mb) 1 1) 33/\Q1 w' G2 (xa (TT mb) 1 1) 33/\Q1 w' G3 (xa (TT mb) 1 1) 33/\mi w l G1/\mi w l G2/\mi w l G3/\mi w (xa to_ tn tc) (xa to' (tn+1) tc')/\Ad lb l (xa to_ tn tc) w w'
def Cb{W:Uc}{a t J:Nat}{c c':T1}(I:W.heap[a]?=some (xi c t m))(U:W.heap[b]?=some (xi c' J m'))(h:t≠J):a≠b:=λe=>by
 rw[e,U] at I;cases I;exact h rfl
structure MS(w W:Uc)(lb:Nat)(cs:T1)(v:Ud)(tn:Nat)(C:TW)(B0 base tE tB:Nat)(l:Ud)(n:Nat)(ys:TW):Prop where
 lw:W.heap[lb]?=some (xi cs 71 (0,0))
 bk:W.ownsRow B0 tB 5 v tn C
 ls:W.ownsRow base tE 1 l n ys
 fr:Ad lb l v w W
 ne:tE≠71/\tB≠71/\tB≠tE
section
variable{w W W':Uc}{lb:Nat}{cs:T1}{v:Ud}{tn:Nat}{C:TW}{B0 base tE tB:Nat}{l:Ud}{n:Nat}{ys:TW}
def MS.later(h:MS w W lb cs v tn C B0 base tE tB l n ys)(I:XL W W'):MS w W' lb cs v tn C B0 base tE tB l n ys:=
 ⟨(I.block _ (dK h.lw)).trans h.lw,gq h.bk I,gq h.ls I,⟨I.os.trans h.fr.os,I.tape.trans h.fr.tape,I.output.trans h.fr.output,UP h.fr.size I.size,λk J U h3 h4=>(I.block k (Uw J h.fr.size)).trans (h.fr.block k J U h3 h4)⟩,h.ne⟩
def MS.set{c o:Nat}(h:MS w W lb ks v tn C B0 base tE tB l n ys)(U:(W.setCell (TU c o) u).heap[lb]?=some (xi cs 71 (0,0)))(I:l.ownBlock≠some c)(J:v.ownBlock≠some c)(hf:c=lb\/w.heap.size<=c):MS w (W.setCell (TU c o) u) lb cs v tn C B0 base tE tB l n ys:=
 ⟨U,gy h.bk (gp _ _ _ _) (Rc J),gy h.ls (gp _ _ _ _) (Rc I),⟨h.fr.os,h.fr.tape,h.fr.output,by simpa [Ra] using h.fr.size,λk k1 k2 k3 k4=>(XE (by show k≠c;omega)).trans (h.fr.block k k1 k2 k3 k4)⟩,h.ne⟩
def MS.setB{c ty:Nat}(h:MS w W lb cs v tn C B0 base tE tB l n ys)(hc:W.heap[c]?=some (xi ks ty m))(hw:w.heap.size<=c)(I:ty≠71)(J:ty≠tE)(U:v.ownBlock≠some c)(o:Nat)(u:Ud):MS w (W.setCell (TU c o) u) lb cs v tn C B0 base tE tB l n ys:=
 h.set ((XE (by show lb≠c;exact λe=>Cb hc h.lw I e.symm)).trans h.lw) (λe=>gz h.ls e hc J) U (Rc hw)
def MS.setM(h:MS w W lb ks v tn C B0 base tE tB l n ys)(I:(W.setCell (TU lb 1) u).heap[lb]?=some (xi cs 71 (0,0))):MS w (W.setCell (TU lb 1) u) lb cs v tn C B0 base tE tB l n ys:=
 h.set I (λe=>gz h.ls e h.lw (λe=>h.ne.1 e.symm)) (λe=>gz h.bk e h.lw (λe=>h.ne.2.1 e.symm)) (Rb rfl)
def MS.setL{g:Nat}(h:MS w W lb cs v tn C B0 base tE tB (xa (TT g) n cap) n ys)(i:Nat)(u:Ud):MS w (W.setCell (TU g i) u) lb cs v tn C B0 base tE tB (xa (TT g) n cap) n (ys.set i u):=by
 have U:∃cur,W.heap[g]?=some (xi cur tE (0,0)):=by
  obtain⟨_,⟨hv,_⟩|⟨g',cap',cur,hv,hg,J,_⟩⟩:=h.ls
  .cases hv
  cases hv;exact⟨cur,J⟩
 obtain⟨cur,I⟩:=U;have aa:=Cb I h.lw h.ne.1;refine⟨(XE (by show lb≠g;exact λe=>aa e.symm)).trans h.lw,gy h.bk (gp _ _ _ _) (Rc (λe=>gz h.bk e I (λe=>h.ne.2.2 e.symm))),Ln h.ls i u,⟨h.fr.os,h.fr.tape,h.fr.output,by simpa [Ra] using h.fr.size,λk h1 h2 h3 h4=>(XE ?_).trans (h.fr.block k h1 h2 h3 h4)⟩,h.ne⟩;show k≠g;rintro rfl;exact h3 rfl
def MS.mkd{N:Nat}(h:MS w W lb cs v tn C B0 base tE tB l n (QZ n mv))(hm:TH l mv N tE W W')(hN:n<=N):MS w W' lb cs v tn C B0 base tE tB l n (QZ n mv):=by
 have aa:=hm.block lb (dK h.lw) (λe=>gz h.ls e h.lw (λe=>h.ne.1 e.symm));refine⟨aa.trans h.lw,?_,hm.keeps h.ls hN,⟨hm.os.trans h.fr.os,hm.tape.trans h.fr.tape,hm.output.trans h.fr.output,UP h.fr.size hm.size,λk h1 h2 h3 h4=>(hm.block k (Uw h1 h.fr.size) h3).trans (h.fr.block k h1 h2 h3 h4)⟩,h.ne⟩;obtain⟨J,⟨hv,ae⟩|⟨g,cap,cur,hv,hg,I,U⟩⟩:=h.bk
 .exact⟨J,Rb ⟨hv,ae⟩⟩
 refine⟨J,Rc ⟨g,cap,cur,hv,hg,?_,U⟩⟩;exact(hm.block g (dK I) (λe=>gz h.ls e I h.ne.2.2)).trans I
end
def MQ(w:Uc)(lb:Nat)(cs:T1)(p:Nat)(v:Ud)(tn:Nat)(C:TW)(B0 tE tB:Nat)(l mv fc:Ud)(w':Uc):Prop:=∃to' tc' G1 G2 G3,w'.heap[lb]?=some (xi (cs.setIfInBounds p (xa to' (tn+1) tc')) 71 (0,0))/\w'.ownsRow B0 tB 5 (xa to' (tn+1) tc') (tn+1) (C++[fc,l,G1,G2,G3])/\
  Q1 w' l mv tE/\Q1 w' G1 mv tE/\Q1 w' G2 mv tE/\Q1 w' G3 mv tE/\mi w l G1/\mi w l G2/\mi w l G3/\mi w v (xa to' (tn+1) tc')/\Ad lb l v w w'
def I4(p:Nat){w W4 q8:Uc}{lb:Nat}{cs:T1}{v fc:Ud}{tn:Nat}{C:TW}{B0 base tE tB:Nat}{lo:TX}{n lc g1 ag g2 ai g3 aj g8 I:Nat} 
  (J:MS w W4 lb cs v tn C B0 base tE tB (xa lo n lc) n (QZ n mv))(U:XL W4 (W4.drew.alloc bo))
  (ho:q8.ownsRow B0 tB 5 (xa (TT g8) (tn+1) I) (tn+1) (C++[fc,xa lo n lc,xa (TT g1) (n+1) ag,xa (TT g2) (n+2) ai,xa (TT g3) (n+3) aj]))(hg:(W4.drew.alloc bo).grownBy q8 v.ownBlock)(hl:q8.heap[lb]?=some (xi cs 71 (0,0)))
  (h1:SB W4 g1 (n+1) mv tE)(h2:SB W4 g2 (n+2) mv tE)(h3:SB W4 g3 (n+3) mv tE)(hn:n+3<=10000000000000)(k1:mi w (xa lo n lc) (xa (TT g1) (n+1) ag))(k2:mi w (xa lo n lc) (xa (TT g2) (n+2) ai))(k3:mi w (xa lo n lc) (xa (TT g3) (n+3) aj))(k8:v.ownBlock=some g8\/g8=W4.heap.size+1):
  MQ w lb cs p v tn C B0 tE tB (xa lo n lc) mv fc (q8.setCell (TU lb p) (xa (TT g8) (tn+1) I)):=by
 have ae:∀{b q:Nat},SB W4 b q mv tE->SB (q8.setCell (TU lb p) (xa (TT g8) (tn+1) I)) b q mv tE:=λh=>((h.later U).grown (gq J.bk U) hg (λe=>J.ne.2.2 e.symm)).set hl (λe=>J.ne.1 e.symm)
 have av:Q1 (q8.setCell (TU lb p) (xa (TT g8) (tn+1) I)) (xa lo n lc) mv tE:=by
  rcases WI n with h0|h0
  .subst h0;exact⟨_,_,_,rfl,zo,λi hi=>zo⟩
  obtain⟨g,cap,hv,_⟩:=yD J.ls h0;cases hv;refine(ae ⟨AF.of_owns J.ls,?_⟩).allM zo;obtain⟨_,⟨ao,_⟩|⟨g',cap',cur,ao,_,ar,_⟩⟩:=J.ls
  .cases ao
  cases ao;exact⟨_,_,ar⟩
 have aw:Ad lb (xa lo n lc) v w (q8.setCell (TU lb p) (xa (TT g8) (tn+1) I)):=by
  have f:=J.fr;refine⟨hg.os.trans (U.os.trans f.os),hg.tape.trans (U.tape.trans f.tape),hg.output.trans (U.output.trans f.output),?_,λk k1 k2 k3 k4=>?_⟩
  .have:=f.size;have:=U.size;have:=hg.size;simp[Ra] at *;omega
  refine(XE (by show k≠lb;exact k2)).trans ?_;have aq:k<W4.heap.size:=Uw k1 f.size;exact(hg.block k (Uw aq U.size) (λe=>k4 e.symm)).trans ((U.block k aq).trans (f.block k k1 k2 k3 k4))
 exact⟨_,_,_,_,_,gj hl p _,gy ho (gp q8 lb p (xa (TT g8) (tn+1) I)) (Rc (λe=>gz ho e hl (λe=>J.ne.2.1 e.symm))),av,(ae h1).allM zo,(ae h2).allM zo,(ae h3).allM zo,k1,k2,k3,⟨_,_,_,rfl,k8.imp id (λe=>by have:=J.fr.size;omega)⟩,aw⟩
abbrev XT.tE:Nat:=9
abbrev XT.tB:Nat:=118
abbrev XT.tL:Nat:=25
abbrev XT.tM:Nat:=65
abbrev XT.pFd:Nat:=2
abbrev XT.zv:Ud:=xj ⟨#[]⟩
abbrev XT.bz:Nat:=16
abbrev XT.zb:Ud:=.agg #[xj ⟨#[]⟩,TV,TV,TV,TV]
abbrev XT.cz:Nat:=112
abbrev XT.fc(M:Nat)(mk:Ub):Ud:=xj mk
abbrev XT.mV(mk:Ub):Ud:=xj mk
def XT.uL:prog.underlying XT.tL=some (.slice XT.tE):=underlying25
def XT.uM:prog.underlying XT.tM=some (.slice XT.tB):=underlying65
abbrev XI.tE:Nat:=3
abbrev XI.tB:Nat:=123
abbrev XI.tL:Nat:=33
abbrev XI.tM:Nat:=66
abbrev XI.pFd:Nat:=3
abbrev XI.zv:Ud:=xd xh 0
abbrev XI.bz:Nat:=8
abbrev XI.zb:Ud:=.agg #[xd xh 0,TV,TV,TV,TV]
abbrev XI.cz:Nat:=104
abbrev XI.fc(M:Nat)(mk:Int):Ud:=xd xh mk
abbrev XI.mV(mk:Int):Ud:=xd xh mk
def XI.uL:prog.underlying XI.tL=some (.slice XI.tE):=underlying33
def XI.uM:prog.underlying XI.tM=some (.slice XI.tB):=underlying66
abbrev XR.tE:Nat:=33
abbrev XR.tB:Nat:=120
abbrev XR.tL:Nat:=34
abbrev XR.tM:Nat:=67
abbrev XR.pFd:Nat:=4
abbrev XR.zv:Ud:=TV
abbrev XR.bz:Nat:=24
abbrev XR.zb:Ud:=.agg #[xd xh 0,TV,TV,TV,TV]
abbrev XR.cz:Nat:=104
abbrev XR.fc(M:Nat)(mk:Nat):Ud:=xd xh (-((M:Int)+1))
abbrev XR.mV(mk:Nat):Ud:=xa (TT mk) 1 1
def XR.uL:prog.underlying XR.tL=some (.slice XR.tE):=underlying34
def XR.uM:prog.underlying XR.tM=some (.slice XR.tB):=underlying67
open XT in
def tZ{lb:Nat}{tn:Nat}{C:TW}{B0 base:Nat}{lo:TX}{n lc:Nat} 
  (hL:xZ wA lb dk M (xa to_ tn tc) ix rx wt et wb eb)(hC:wA.ownsRow B0 118 5 (xa to_ tn tc) tn C)(hB0:B0<=wA.heap.size)(hl:wA.ownsRow base 9 1 (xa lo n lc) n xs)(ae:base<=wA.heap.size)
  (hn:n+3<=8796093022208)(htn:(tn+1)*112<=140737488355328)(hM:M<=4611686018427387904)(aa:Lib.TabIs prog wA "internal/strconv.uint64pow10" .u64 Lib.pow10Tab)(ak:lb≠4):
  Calls prog 63 #[xk (TT lb),xa lo n lc] wA λe w'=>ya wA lb dk M to_ tn tc ix rx wt et wb eb C B0 (xa lo n lc) w' e:=by
 obtain⟨i0,hi0,hz0,hz1,hz2⟩:=Uk infoStr;obtain⟨j0,hj0,hy0,hy1,hy2⟩:=Uk Tryz.infoTB;have bc:=EQ hL;have bf:=gh hL;have hlt:=dK hL;have hbA:=ae;obtain⟨cs,hcs⟩:∃cs:T1,cs= #[dk,xd xh ((M+1:Nat):Int),xa to_ tn tc,ix,rx,wt,et,wb,eb]:=⟨_,rfl⟩;have hM1:((M+1:Nat):Int)=(M:Int)+1:=zo;have J:Hid (MS wA (wA.setCell (TU lb 1) (xd xh ((M:Int)+1))) lb cs (xa to_ tn tc) tn C B0 base tE tB (xa lo n lc) n xs):=by
  exact zm68
 have U:=DF aa (Ug wA (TU lb 1) (xd xh ((M:Int)+1)) 4 (by show _≠lb;exact λe=>ak e.symm));have HFIN:Hid (∀w',MQ wA lb cs pFd (xa to_ tn tc) tn C B0 tE tB (xa lo n lc) (xj (uO (M+1))) (xj (uO (M+1))) w'->ya wA lb dk M to_ tn tc ix rx wt et wb eb C B0 (xa lo n lc) w' (xm (.tuple #[]))):=by
  exact zm154
 have hP:cs[2]?=some (xa to_ tn tc):=by rw[hcs];rfl
 have hP1:cs[1]?=some (xd xh ((M:Int)+1)):=by rw[hcs,<-hM1];rfl
 clear hcs hM1;clear hL hC hl aa;go_in;go_wp2_with fail;refine(Tryz.strconv_Itoa ((M:Int)+1) zo zo _ U).mono ?_;rintro e w1 ⟨rfl,k1,ao,an⟩;have ai:Below _ _ w1:=an▸Lib.below_grow _ _ (XH) k1 ao
 have HMS2:=J.out.later ai;have I:Hid ((Re ((M:Int)+1))=Re ((M+1:Nat):Int)):=by show _=_;rw[show((M+1:Nat):Int)=(M:Int)+1 from zo]
 clear an ai J bc bf;have aj:¬ 9223372036854775807<5+(⟨(Re ((M:Int)+1)).toArray⟩:Ub).size:=by
  have:=Lib.itoa_length_le ((M:Int)+1) zo zo;show ¬ 9223372036854775807<5+(Re ((M:Int)+1)).toArray.size;simp;omega
 have ag:Hid (uO (M+1)=(⟨#[109,97,114,107,32]⟩:Ub)++⟨(Re ((M:Int)+1)).toArray⟩):=by
  show _=_;unfold uO;rw[I.out]
 rw[ag.out] at HFIN;clear ag I U;generalize (⟨(Re ((M:Int)+1)).toArray⟩:Ub)=it at *;go_wp2_with fail;generalize (⟨#[109,97,114,107,32]⟩:Ub)++it=mk at *;clear aj;exact zm179
open XI in
def uN{lb:Nat}{tn:Nat}{C:TW}{B0 base:Nat}{lo:TX}{n lc:Nat} 
  (hL:xZ wA lb dk M tx (xa to_ tn tc) rx wt et wb eb)(hC:wA.ownsRow B0 123 5 (xa to_ tn tc) tn C)(hB0:B0<=wA.heap.size)(hl:wA.ownsRow base 3 1 (xa lo n lc) n xs)(I:base<=wA.heap.size)
  (hn:n+3<=8796093022208)(htn:(tn+1)*104<=140737488355328)(hM:M<=4611686018427387904):
  Calls prog 64 #[xk (TT lb),xa lo n lc] wA λe w'=>vG wA lb dk M to_ tn tc tx rx wt et wb eb C B0 (xa lo n lc) w' e:=by
 obtain⟨i0,hi0,hz0,hz1,hz2⟩:=Uk oe;obtain⟨j0,hj0,hy0,hy1,hy2⟩:=Uk Tryz.infoIB;have J:=EQ hL;have U:=gh hL;have hlt:=dK hL;have hbA:=I;obtain⟨cs,hcs⟩:∃cs:T1,cs= #[dk,xd xh ((M+1:Nat):Int),tx,xa to_ tn tc,rx,wt,et,wb,eb]:=⟨_,rfl⟩;have hM1:((M+1:Nat):Int)=(M:Int)+1:=zo;have HMS2:Hid (MS wA (wA.setCell (TU lb 1) (xd xh ((M:Int)+1))) lb cs (xa to_ tn tc) tn C B0 base tE tB (xa lo n lc) n xs):=by
  exact zm68
 have HFIN:Hid (∀w',MQ wA lb cs pFd (xa to_ tn tc) tn C B0 tE tB (xa lo n lc) (xd xh (-((M:Int)+1))) (xd xh (-((M:Int)+1))) w'->vG wA lb dk M to_ tn tc tx rx wt et wb eb C B0 (xa lo n lc) w' (xm (.tuple #[]))):=by
  exact zm154
 have hP:cs[3]?=some (xa to_ tn tc):=by rw[hcs];rfl
 have hP1:cs[1]?=some (xd xh ((M:Int)+1)):=by rw[hcs,<-hM1];rfl
 clear hcs hM1;clear hL hC hl;go_in;go_wp2_with fail;generalize wA.setCell (TU lb 1) (xd xh ((M:Int)+1))=w1 at *;generalize -((M:Int)+1)=mk at *;clear J U;exact zm179
open XR in
def C3(w:Uc){lb:Nat}{tn:Nat}{C:TW}(B0 base:Nat){lo:TX}(n:Nat){lc:Nat} 
  (hL:xZ w lb dk M tx ix (xa to_ tn tc) wt et wb eb)(hC:w.ownsRow B0 120 5 (xa to_ tn tc) tn C)(hB0:B0<=w.heap.size)(hl:w.ownsRow base 33 1 (xa lo n lc) n xs)(aa:base<=w.heap.size)
  (hn:n+3<=5000000000000)(htn:(tn+1)*104<=140737488355328)(hM:M<=4611686018427387904):
  Calls prog 65 #[xk (TT lb),xa lo n lc] w λe w'=>EG ((w.setCell (TU lb 1) (xd xh ((M:Int)+1))).alloc (xi #[xd xh (-((M:Int)+1))] 3)) lb dk M to_ tn tc tx ix wt et wb eb C B0 (xa lo n lc) w' e:=by
 obtain⟨i0,hi0,hz0,hz1,hz2⟩:=Uk sH;obtain⟨j0,hj0,hy0,hy1,hy2⟩:=Uk Tryz.infoRB;have bc:=EQ hL;have bf:=gh hL;have hlt:=dK hL;obtain⟨cs,I⟩:∃cs:T1,cs= #[dk,xd xh ((M+1:Nat):Int),tx,ix,xa to_ tn tc,wt,et,wb,eb]:=⟨_,rfl⟩;have J:((M+1:Nat):Int)=(M:Int)+1:=zo;have hx:MS w ((w.setCell (TU lb 1) (xd xh ((M:Int)+1))).alloc (xi #[xd xh (-((M:Int)+1))] 3)) lb cs (xa to_ tn tc) tn C B0 base tE tB (xa lo n lc) n xs:=by
  have h0:MS w w lb _ (xa to_ tn tc) tn C B0 base tE tB (xa lo n lc) n xs:=⟨hL,hC,hl,⟨rfl,rfl,rfl,XH,λk _ _ _ _=>rfl⟩,⟨zd,zd,zd⟩⟩;exact(h0.setM (by rw[I,<-J];exact gj hL 1 _)).later (gC (o:=xi #[xd xh (-((M:Int)+1))] 3))
 have ak:((w.setCell (TU lb 1) (xd xh ((M:Int)+1))).alloc (xi #[xd xh (-((M:Int)+1))] 3)).heap.size=w.heap.size+1:=by simp[Ra]
 obtain⟨wA,U⟩:∃wA,wA=(w.setCell (TU lb 1) (xd xh ((M:Int)+1))).alloc (xi #[xd xh (-((M:Int)+1))] 3):=⟨_,rfl⟩;rw[<-U] at hx ak|-;have HMS2:Hid (MS wA wA lb cs (xa to_ tn tc) tn C B0 base tE tB (xa lo n lc) n xs):=⟨hx.lw,hx.bk,hx.ls,⟨rfl,rfl,rfl,XH,λk _ _ _ _=>rfl⟩,hx.ne⟩;have an:w.heap.size<=wA.heap.size:=zo;have hbA:=UP aa an;obtain⟨mk,aj⟩:∃mk,mk=w.heap.size:=⟨_,rfl⟩;have HFIN:Hid (∀w',MQ wA lb cs pFd (xa to_ tn tc) tn C B0 tE tB (xa lo n lc) (xa (TT mk) 1 1) (xd xh (-((M:Int)+1))) w'->EG wA lb dk M to_ tn tc tx ix wt et wb eb C B0 (xa lo n lc) w' (xm (.tuple #[]))):=by
  rintro w' ⟨aq,ao,G1,G2,G3,h1,h2⟩;exact⟨rfl,aq,ao,G1,G2,G3,mk,zo,by rw[I] at h1;exact h1,h2⟩
 have ai:=fy U;have hP:cs[4]?=some (xa to_ tn tc):=by rw[I];rfl
 have hP1:cs[1]?=some (xd xh ((M:Int)+1)):=by rw[I,<-J];rfl
 clear I J;clear hL hC hl hx ak U;go_in;go_wp2_with fail;rw[<-ai.out,<-aj];clear aj bc bf ai;exact zm179
def Sg.owns{w:Uc}{g:Nat}(h:Sg w g tr)(hn:tr.length+8<=maxLen):∃xs,w.ownsRow 0 9 1 (xa (TT g) (tr.length+8) (tr.length+8)) (tr.length+8) xs:=by
 exact zm103
def OM(w:Uc)(lb:Nat)(dk:Ud)(M:Nat)(to_:TX)(tn tc:Nat)(ix rx wt et wb eb:Ud)(C:TW)(B0:Nat)(l:Ud)(w':Uc)(e:Ending):Prop:=
 e=xm (xn true)/\ya w lb dk M to_ tn tc ix rx wt et wb eb C B0 l w' (xm (.tuple #[]))
def zZ(w:Uc){lb:Nat}{tn:Nat}{C:TW}(B0 g:Nat)(c:Nat)
  (hL:xZ w lb dk M (xa to_ tn tc) ix rx wt et wb eb)(hC:w.ownsRow B0 118 5 (xa to_ tn tc) tn C)(U:B0<=w.heap.size)(hl:Sg w g tr)(hT:So w (some ad) tr)
  (hn:tr.length<=8796093021952)(aa:(tn+1)*112<=140737488355328)(hM:M<=4611686018427387904)(J:Lib.TabIs prog w "internal/strconv.uint64pow10" .u64 Lib.pow10Tab)(I:lb≠4):
  Calls prog 96 #[xk (TT lb),xa (TT g) tr.length (tr.length+8),xa (some ad) tr.length c] w λe w'=>OM w lb dk M to_ tn tc ix rx wt et wb eb C B0 (xa (TT g) (tr.length+8) (tr.length+8)) w' e:=by
 obtain⟨xs,ae⟩:=hl.owns (by unfold maxLen;omega);have HMK:=tZ hL hC U ae (Ux) zo aa hM J I;have he:=λW:Uc=>MD W ad tr.length c
 clear hL hC J ae U aa hM I;go_in;go_wp2
 go_loopw [9,10] (λok x wr=>∃i:Nat,i<=tr.length+8/\ok=xn true/\x=xd xh i/\Hid (w=wr)) (λ_ x _=>tr.length+8-(intOf x).toNat)
 .exact zm56
 obtain⟨i,hi,rfl,rfl,HW⟩:=hrel;have hw:=HW.out;subst hw;clear HW;by_cases hil:i<tr.length+8
 .have hin:(i:Int)<(tr.length:Int)+8:=zo;obtain⟨cur,h1,h2,h3,h4⟩:=hl.blk;rcases zc i tr.length with⟨hit,hic⟩|⟨hit,hic⟩
  .obtain⟨b,off,ai,hb2,hb3⟩:=hT i tr[i] (Uq hit);have hc:=(EQ h1 i).trans (h3 i tr[i] (Uq hit));cases ai;generalize tr[i]=x at *;exact zm53
  have hc:w.cell? (TU g i)=some (xj ⟨#[98,101,121,111,110,100]⟩):=(EQ h1 i).trans (h4 i zo hil);exact zm53
 exact zm114
end Go.Proofs.YtidakhhekofkoaaGreatDoor
