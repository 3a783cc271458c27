import Derived.Test.YtidakhhekofkoaaGreatDoorT10
import Derived.DataShut
import Derived.Sort.KeysCollected
import Derived.Laws.AppendOwnNone
set_option linter.all false
set_option maxHeartbeats 60000000
set_option maxRecDepth 100000
namespace Go.Proofs.YtidakhhekofkoaaGreatDoor
attribute [local go_sem] TT TU TV XL
attribute [local simp] TT TU TV XL
open Go.Proofs.Tryz
open Go.RowKit Go.Deep
open Value renaming slice->xa,int->xd,string->xj,pointer->xk,bool->xn
open IntKind renaming i64->xh
open Obj renaming cells->xi
open Ending renaming returned->xm
open List renaming range->Ru,singleton_append->RE,replicate->RF,pairwise_append->RH
open Or renaming inr->Rr,inl->RA
open World renaming cell?->RP,drew->RR
open Lib renaming TabIs->RN,pow10Tab->RO
variable{zq:Prop}
variable{W wr W' w':Uc}{F X o:Ud}{rv:TW}{b B a i e p f lb:Nat}{ao fo tt:TX}{y pe:Bool}{q:Bool × T7}{V L:T7}{m:T3}{x:Ub}{tr:TZ}{R:Ud->Option (DataW Unit × List MemPlace)}
def zm2(h:zq:=by
 as_aux_lemma=>((first|have HX2:=AX.bit1 HX HBK|have HX2:=AX.bit0 HX HBK);clear HBK HX;simp[iI] at e0;(try simp only[UC,reduceIte] at cu);(try simp only[UC,reduceIte] at cv);(try simp only[UC,reduceIte] at hua);(try simp only[UC,reduceIte] at hx);go_wp2;go_roundw;(case rel=>exact⟨k+1,zo,by go_num,HX2⟩);(case measure=>simp[intOf];omega))
 ):zq:=h
def zm3(h:zq:=by
 all_goals (as_aux_lemma=>((first|have HX2:=AX.bit1 HX HBK|have HX2:=AX.bit0 HX HBK);clear HBK HX;simp[iI] at e0;(try simp only[UC,reduceIte] at cu);(try simp only[UC,reduceIte] at cv);(try simp only[UC,reduceIte] at hua);(try simp only[UC,reduceIte] at hx);go_wp2;go_roundw;(case rel=>exact⟨k+1,zo,by go_num,HX2⟩);(case measure=>simp[intOf];omega)))
 ):zq:=h
def zm46(h:zq:=by
 apply zr 6;intro K hK;go_simp;refine(ue HTE.rd zo).mono ?_;rintro e w7 ⟨rfl,hrow,hf7⟩;have HT7:=HTE.read hf7;refine hK _ _ ?_;clear hK K hf7;apply zS 7;exact hG w7 HT7 hrow
 ):zq:=h
def zm58(h:zq:=by
 rw[od,mF];refine⟨?_,(XD zs).trans ((XD zp).trans (gi _ _)),(XD zp).trans (gu zp),(gC.alloc zp _).alloc zs _⟩;rw[uA];exact gu zp
 ):zq:=h
def zm64(h:zq:=by
 apply zr 5;intro K hK;go_simp;refine(tI _ HT3.rd (tD hfew) (Wq (Uw (qN) zp))).mono ?_;rintro e w4 ⟨rfl,hf4⟩;have HT4:=HT3.read hf4;refine hK _ _ ?_;clear hK K hf4;apply zS 6;exact hG w4 HT4
 ):zq:=h
def zm77(h:zq:=by
 have fcc:=EQ hfin;refine py (v:=.tuple #[.agg #[TV,TV,TV],xn false]) (by simp[results,results47,go_sem,fcc]) rfl ?_;exact⟨none,HD,hbf,rfl⟩
 ):zq:=h
def zm87(h:zq:=by
 intro j x hx;rw[VM] at hx
 split at hx
 .rename_i hj
  cases hx;obtain⟨o,n',c',h1,_,h3⟩:=h;cases h1;obtain⟨b,h4,⟨_,_,h5⟩,h6⟩:=h3 j zo
  grind
 trivial
 ):zq:=h
def zm170(h:zq:=by
 exact(hf.block _ (dK (h.cell x h1)) (λe=>h.mne h1 e.symm)).trans (h.cell x h1)
 ):zq:=h
def Tryz.infoStrT:(prog.info? 9).map (λi=>(i.zero,i.size,i.bytes))=some (some (xj ⟨#[]⟩),1,16):=zk
def Tryz.infoRowT:(prog.info? 33).map (λi=>(i.zero,i.size,i.bytes))=some (some TV,1,24):=zk
def TR.start{w:Uc}{rb tb:Nat}{l:T9}(I:W.heap[w.heap.size]?=some (xi #[TV,TV,TV] 36 (0,0)))(J:W.heap[tb]?=some (xi #[TV,TV,TV] 36 (0,0)))(U:w.heap.size<tb)(h4:rb<w.heap.size)(h5:SL W rb l)(h6:w.grownBy W (some rb)):
  TR w W rb tb TV TV TV ⟨[],[],[]⟩ [] l:=
 ⟨I,J,U,h4,h5,h6,⟨XG,XG,XG,λj r hr=>zv,λv hv=>zv,List.Pairwise.nil⟩⟩
def PT(w:Uc)(rb:Nat)(t:Tb)(w':Uc)(e:Ending):Prop:=∃A F X rv,e=xm (.agg #[A,F,X])/\RX w' w.heap.size A F X t rv/\w.grownBy w' (some rb)
theorem tD{l:T9}{n:Nat}(h:l.length<=n):(iv l).2.length<=n:=UP (Lg l) h
theorem Mh{l:T9}{n k:Nat}(h:l.length<=n):(lT k l).2.length<=n:=by unfold lT;simp;omega
theorem Ie{n:Nat}:∀(k:Nat) {l:T9},l.length<=n->(iJ k l).2.length<=n:=by intro I;induction I<;>grind[Mh,tD,iJ]
def Ek{w:Uc}{rb:Nat}{l:T9}(h:SL w rb l)(hl:l.length<=1000):
  Calls prog 89 #[xk (TT rb)] w λe w'=>PT w rb (pM l) w' e:=by
 obtain⟨i0,bw,bN,bO,bP⟩:=Uk Tryz.infoStrT;obtain⟨j0,bA,bJ,bK,bM⟩:=Uk Tryz.infoI64;obtain⟨k0,bC,bG,bH,bI⟩:=Uk Tryz.infoRowT;have hrb:=h.lt;have HA:=h;have hB:=ir w (xi #[TV,TV,TV] 36);have bf:=h.later hB;have aI:=gi w (xi #[TV,TV,TV] 36);clear h;go_in
 go_wp2_with (refine(tI 2 bf hl zp).mono ?_)
 rintro e w1 ⟨rfl,az⟩;generalize hW0:w.alloc (xi #[TV,TV,TV] 36)=W0 at *;have aY:=dK aI;have aK:=(az.gr.block _ (dK aI) (λe=>za)).trans aI;have aJ:Hid (TR w (w1.alloc (xi #[TV,TV,TV] 36)) rb w1.heap.size TV TV TV ⟨[],[],[]⟩ [] (l.drop 2)):=by
  have hbb:=ir w1 (xi #[TV,TV,TV] 36);refine TR.start ((hbb.block _ (dK aK)).trans aK) (gi _ _) (Uw aY az.gr.size) hrb (az.at'.later hbb) ?_;exact((gE hB _).trans az.gr).trans (gE hbb _)
 clear aK az hW0
 go_wp2_with (refine(kZ aJ.out.rd).mono ?_)
 rintro e w2 ⟨rfl,aR⟩;have aO:=aJ.out.read aR;clear aR;generalize w1.heap.size=tb at *;generalize hn1:(iv (l.drop 2)).1=n1 at *;generalize hl1:(iv (l.drop 2)).2=l1 at *;have hn256:n1<256:=by rw[<-hn1];exact qN
 have aT:l1.length<=1000:=by rw[<-hl1];exact tD zs
 have aN:Hid (nF l=iJ n1 l1):=by show _=_;unfold nF;simp_all
 clear hn1 hl1;go_wp2
 go_loopw [8] (λx wr=>∃(k:Nat)(ao:TX)(ac:Nat),k<=n1/\x=xd xh k/\Hid (TR w wr rb tb (xa ao k ac) TV TV ⟨(iJ k l1).1,[],[]⟩ [] (iJ k l1).2)) (λx _=>n1-(intOf x).toNat)
 .exact⟨0,none,0,Ux,rfl,aO⟩
 obtain⟨k,ao,ac,hk,rfl,HT⟩:=hrel;have hfew:=Ie k aT;rcases zc k n1 with⟨hlt,hkn⟩|⟨hlt,hkn⟩
 .go_wp2_with fail;refine U9 zk ?_;change wpAny _ _ _ _ _ _ _ (RR _);apply zt0 0 (xk (TT tb));apply zt0 2 (xk (TT rb));apply zt0 3 (xk (TT rb));have ai:=HT.out.later (W':=wr.drew) ((XF).drew);refine(λhG=>?main) (?suf:∀w4:Uc,Hid (TR w w4 rb tb (xa ao k ac) TV TV ⟨(iJ k l1).1,[],[]⟩ [] (lT (iv (iJ k l1).2).1 (iv (iJ k l1).2).2).2)->(?G:Uc->Prop) w4)
  case main=>
   refine zr2 1 4 (λK hK=>?_) λK hK=>?_
   .have U:=EQ ai.blk 0;go_simp;refine hK _ _ ?_;clear hK K;clear U;apply zr 4;intro K hK;go_simp;refine(kZ ai.rd).mono ?_;rintro e w3 ⟨rfl,aj⟩;have HT3:=ai.read aj;refine hK _ _ ?_;clear hK K aj;exact zm64
   go_simp;refine(kZ ai.rd).mono ?_;rintro e w3 ⟨rfl,aj⟩;have HT3:=ai.read aj;refine hK _ _ ?_;clear hK K aj;refine zr2 1 5 (λK hK=>?_) λK hK=>?_
   .have U:=EQ HT3.blk 0;go_simp;refine hK _ _ ?_;clear hK K;clear U;exact zm64
   go_simp;refine(tI _ HT3.rd (tD hfew) (Wq (Uw (qN) zp))).mono ?_;rintro e w4 ⟨rfl,hf4⟩;have HT4:=HT3.read hf4;refine hK _ _ ?_;clear hK K hf4;refine zr2 1 6 (λK hK=>?_) λK hK=>?_
   .have U:=EQ HT4.blk 0;go_simp;refine hK _ _ ?_;clear hK K;clear U;apply zS 6;exact hG w4 HT4
   go_simp;refine hK _ _ ?_;clear hK K;apply zr 1;intro K hK;have U:=EQ (HT4.later ((XF).alloc (XH) (xi #[xj (lT (iv (iJ k l1).2).1 (iv (iJ k l1).2).2).1] 9))).blk 0;go_simp;refine hK _ _ ?_;clear hK K;clear U;exact hG w4 HT4
  intro w4 HT4;have aB:=uu k l1;have HS:=fy (FU k l1);have bn:=dK HT4.out.res;apply zr 7;intro K hK;refine UB _ zf _ _ 25 zf w.heap.size 9 i0 (xj ⟨#[]⟩) 1 16 underlying25 bw bN bO bP rfl zp (xa ao k ac) k (gU (iJ k l1).1) zf ?c0 (TU w4.heap.size 0) 1 1 [xj (lT (iv (iJ k l1).2).1 (iv (iJ k l1).2).2).1] zf rfl ?c1 ?c2 zp ?c3 ?c4 ?c5 (w4.heap.size+1) ?c6 ?_
  case c0=>have:=HT4.out.tab.acts;simp only[aB] at this;exact this.alloc _
  case c1=>
   intro j u hj
   match j,hj with
   |0,hj=>simp at hj;subst hj;simp[Addr.add]
   |j+1,hj=>simp at hj
  case c2=>intro u hu;simp at hu;subst hu;rfl
  case c3=>unfold maxLen;omega
  case c4=>omega
  case c5=>simp;omega
  case c6=>simp
  intro g5 aa w5 ag J au aA;have ar:RX (w4.alloc (xi #[xj (lT (iv (iJ k l1).2).1 (iv (iJ k l1).2).2).1] 9)) w.heap.size (xa ao k ac) TV TV ⟨(iJ k l1).1,[],[]⟩ []:=HT4.out.tab.later gC;have I:=HT4.out.later ((XF).alloc (XH) (xi #[xj (lT (iv (iJ k l1).2).1 (iv (iJ k l1).2).2).1] 9));have ae:=ar.act (A':=xa (TT g5) (k+1) aa) (s:=(lT (iv (iJ k l1).2).1 (iv (iJ k l1).2).2).1) (by simp only[aB];exact ag) J;have ad:=(J.block tb (dK I.blk) (λe=>gz ar.acts e.symm I.blk zp)).trans I.blk;have an:Hid (TR w (w5.setCell (TU tb 0) (xa (TT g5) (k+1) aa)) rb tb (xa (TT g5) (k+1) aa) TV TV ⟨(iJ (k+1) l1).1,[],[]⟩ [] (iJ (k+1) l1).2):=by
   rw[HS.out];exact I.grow ar.acts J (RA rfl) ae 0 _ rfl
  have aL:=EQ ad 0;have av:=gh ad 0;refine hK _ _ ?_;clear hK K ar I ae ad ag J au aA
  try simp only[Act.put,UT,Ve,Vf,Va,U7,U6]
  apply zt0 8 (xk (TT tb));apply zS 9;clear aL av bn;refine Vg zk ?_ _;go_wp2
  go_roundw
  .exact⟨k+1,TT g5,aa,zo,zf,an⟩
  simp[intOf];omega
 have bD:k=n1:=zo;subst bD;have bc:=aN;have aB:=uu k l1;have ba:=fy aB;clear aB;have aM:=kZ HT.out.rd;go_wp2_with fail;refine aM.mono ?_;rintro e w5 ⟨rfl,av⟩;have an:=fy (HT.out.read av);clear av;have bd:Hid (pM l=⟨(iJ k l1).1,(jG k (iv (iJ k l1).2).1 (iv (iJ k l1).2).2).1.1,(jG k (iv (iJ k l1).2).1 (iv (iJ k l1).2).2).1.2⟩):=by
  show _=_;unfold pM;rw[bc.out,ba.out]
 have hn2f:(iv (iJ k l1).2).1<256:=qN;generalize (iv (iJ k l1).2).1=n2 at *;generalize (iv (iJ k l1).2).2=l2 at *;generalize (iJ k l1).1=acts at *;clear hfew aM;go_wp2_with fail;clear HT aN aJ aO
 rename Uc=>wR
 go_loopw [22] (λx wr=>∃(q:Nat)(fo:TX)(fc:Nat)(xo:TX)(xc:Nat)(rv:TW),q<=n2/\x=xd xh q/\Hid (TR w wr rb tb (xa ao k ac) (xa fo q fc) (xa xo q xc) ⟨acts,(jG k q l2).1.1,(jG k q l2).1.2⟩ rv (jG k q l2).2)) (λx _=>n2-(intOf x).toNat)
 .exact⟨0,none,0,none,0,[],Ux,rfl,an⟩
 obtain⟨q,fo,fc,xo,xc,rv,hq,rfl,HT⟩:=hrel;rcases zc q n2 with⟨hlt,hqn⟩|⟨hlt,hqn⟩
 .have aU:=A0 k q l2;have bg:=fy (GP k q l2);generalize hr0:(jG k q l2).2=r0 at *;generalize hf0:(jG k q l2).1.1=fl0 at *;generalize hx0':(jG k q l2).1.2=nx0 at *;clear hr0 hf0 hx0';obtain⟨aV,aW⟩:=aU;go_wp2_with fail;refine U9 zk ?_;change wpAny _ _ _ _ _ _ _ (RR _);apply zt0 0 (xk (some (TU tb 1)));apply zt0 2 (xk (TT rb));have ai:=HT.out.later (W':=wr.drew) ((XF).drew);refine(λhG=>?main1) (?suf1:∀w3:Uc,Hid (TR w w3 rb tb (xa ao k ac) (xa fo q fc) (xa xo q xc) ⟨acts,fl0,nx0⟩ rv (iv r0).2)->(?G1:Uc->Prop) w3)
  case main1=>
   refine zr2 1 3 (λK hK=>?_) λK hK=>?_
   .have U:=EQ ai.blk 1;go_simp;refine hK _ _ ?_;clear hK K;clear U;apply zr 3;intro K hK;go_simp;refine(kZ ai.rd).mono ?_;rintro e w3 ⟨rfl,aj⟩;have HT3:=ai.read aj;refine hK _ _ ?_;clear hK K aj;apply zS 4;exact hG w3 HT3
   go_simp;refine(kZ ai.rd).mono ?_;rintro e w3 ⟨rfl,aj⟩;have HT3:=ai.read aj;refine hK _ _ ?_;clear hK K aj;refine zr2 1 4 (λK hK=>?_) λK hK=>?_
   .have U:=EQ HT3.blk 1;go_simp;refine hK _ _ ?_;clear hK K;clear U;apply zS 4;exact hG w3 HT3
   go_simp;refine hK _ _ ?_;clear hK K;apply zr 1;intro K hK;have U:=EQ (HT3.later ((XF).alloc (XH) (xi #[xd xh ((iv r0).1:Int)] 3))).blk 1;go_simp;refine hK _ _ ?_;clear hK K;clear U;exact hG w3 HT3
  intro w3 HT3;have bm:=dK HT3.out.res;apply zr 5;intro K hK;refine UB _ zf _ _ 33 zf w.heap.size 3 j0 (xd xh 0) 1 8 underlying33 bA bJ bK bM rfl zp (xa fo q fc) q (gX fl0) zf ?d0 (TU w3.heap.size 0) 1 1 [xd xh ((iv r0).1:Int)] zf rfl ?d1 ?d2 zp ?d3 ?d4 ?d5 (w3.heap.size+1) ?d6 ?_
  case d0=>have:=HT3.out.tab.fl;simp only[aV] at this;exact this.alloc _
  case d1=>
   intro j u hj
   match j,hj with
   |0,hj=>simp at hj;subst hj;simp[Addr.add]
   |j+1,hj=>simp at hj
  case d2=>intro u hu;simp at hu;subst hu;rfl
  case d3=>unfold maxLen;omega
  case d4=>omega
  case d5=>simp;omega
  case d6=>simp
  intro g5 aa w5 ag J au aA;have I:=HT3.out.later ((XF).alloc (XH) (xi #[xd xh ((iv r0).1:Int)] 3));have ae:=I.tab.flag (F':=xa (TT g5) (q+1) aa) (f:=(iv r0).1) (by simp only[aV];exact ag) J rfl (au.imp id (λh=>zs));have ad:=(J.block tb (dK I.blk) (λe=>gz I.tab.fl e.symm I.blk zp)).trans I.blk;have an:=I.grow I.tab.fl J (Rr (RA rfl)) ae 1 (xa (TT g5) (q+1) aa) rfl;have aL:=EQ ad 1;have av:=gh ad 1;refine hK _ _ ?_;clear hK K I ae ad ag J au aA
  try simp only[Act.put,UT,Ve,Vf,Va,U7,U6]
  apply zt0 6 (xk (some (TU tb 1)));apply zS 7;clear aL av bm;refine Vg zk ?_ _;generalize w5.setCell (TU tb 1) (xa (TT g5) (q+1) aa)=w6 at *;clear HT3;go_wp2_with fail;refine U9 zk ?_;change wpAny _ _ _ _ _ _ _ (RR _);apply zt0 0 (xk (some (TU tb 2)));apply zt0 2 (xk (TT rb));apply zt0 3 (xk (TT tb));have HTE:=an.later (W':=w6.drew) ((XF).drew);refine(λhG=>?main2) (?suf2:∀w7:Uc,Hid (TR w w7 rb tb (xa ao k ac) (xa (TT g5) (q+1) aa) (xa xo q xc) ⟨acts,fl0++[(iv r0).1],nx0⟩ rv (jt k (iv r0).2).2)->Hid (w7.heap[w6.heap.size]?=some (xi (lz (jt k (iv r0).2).1) 3 (0,0)))->(?G2:Uc->Prop) w7)
  case main2=>
   refine zr2 1 4 (λK hK=>?_) λK hK=>?_
   .have U:=EQ HTE.blk 2;go_simp;refine hK _ _ ?_;clear hK K;clear U;apply zr 4;intro K hK;have U:=EQ HTE.blk 0;go_simp;refine hK _ _ ?_;clear hK K;clear U;apply zS 5;exact zm46
   have U:=EQ HTE.blk 0;go_simp;refine hK _ _ ?_;clear hK K;clear U;refine zr2 1 5 (λK hK=>?_) λK hK=>?_
   .have U:=EQ HTE.blk 2;go_simp;refine hK _ _ ?_;clear hK K;clear U;apply zS 5;exact zm46
   go_simp;refine hK _ _ ?_;clear hK K;refine zr2 1 6 (λK hK=>?_) λK hK=>?_
   .have U:=EQ HTE.blk 2;go_simp;refine hK _ _ ?_;clear hK K;clear U;exact zm46
   go_simp;refine(ue HTE.rd zo).mono ?_;rintro e w7 ⟨rfl,hrow,hf7⟩;have HT7:=HTE.read hf7;refine hK _ _ ?_;clear hK K hf7;refine zr2 1 7 (λK hK=>?_) λK hK=>?_
   .have U:=EQ HT7.blk 2;go_simp;refine hK _ _ ?_;clear hK K;clear U;apply zS 7;exact hG w7 HT7 hrow
   go_simp;refine hK _ _ ?_;clear hK K;apply zr 1;intro K hK;have U:=EQ (HT7.later ((XF).alloc (XH) (xi #[xa (TT w6.heap.size) k k] 33))).blk 2;go_simp;refine hK _ _ ?_;clear hK K;clear U;exact hG w7 HT7 hrow
  intro w7 HT7 aG;have bo:=dK HT7.out.res;apply zr 8;intro K hK;refine UB _ zf _ _ 34 zf w.heap.size 33 k0 TV 1 24 underlying34 bC bG bH bI rfl zp (xa xo q xc) q rv zf ?e0 (TU w7.heap.size 0) 1 1 [xa (TT w6.heap.size) k k] zf rfl ?e1 ?e2 zp ?e3 ?e4 ?e5 (w7.heap.size+1) ?e6 ?_
  case e0=>have:=HT7.out.tab.nx;simp only[aW] at this;exact this.alloc _
  case e1=>
   intro j u hj
   match j,hj with
   |0,hj=>simp at hj;subst hj;simp[Addr.add]
   |j+1,hj=>simp at hj
  case e2=>intro u hu;simp at hu;subst hu;rfl
  case e3=>unfold maxLen;omega
  case e4=>omega
  case e5=>simp;omega
  case e6=>simp
  intro g8 ax w8 ag J au aA;have hbb:=ir w7 (xi #[xa (TT w6.heap.size) k k] 33);have I:=HT7.out.later hbb;have aD:=(hbb.block _ (dK aG.out)).trans aG.out;have aC:(jt k (iv r0).2).1.length=k:=p9 _ _;have a6:=an.gr.size;have aX:=AW (base:=w.heap.size) aD a6 aC zo;have aP:(xa (TT g5) (q+1) aa).ownBlock≠some w6.heap.size:=λe=>by
   have:=(gJ an.tab.fl _ e).2;omega
  have aQ:∀v∈rv,v.ownBlock≠some w6.heap.size:=λv hv e=>by
   obtain⟨j,hj⟩:=List.mem_iff_getElem?.1 hv;have bB:j<nx0.length:=by have:=(List.getElem?_eq_some_iff.1 hj).1;have:=an.tab.rl;simp_all
   obtain⟨g,c,h1,h2⟩:=an.tab.rows j _ (Uq bB);rw[hj] at h1;cases h1;have:=(gJ h2 _ e).2;omega
  have ae:=I.tab.row (X':=xa (TT g8) (q+1) ax) (g:=w6.heap.size) (c:=k) (r:=(jt k (iv r0).2).1) (by rw[aC];exact aX) aP aQ (by simp only[aW,aC];exact ag) J;rw[aC] at ae;have ad:=(J.block tb (dK I.blk) (λe=>gz I.tab.nx e.symm I.blk zp)).trans I.blk;have bh:=I.grow I.tab.nx J (Rr (Rr rfl)) ae 2 (xa (TT g8) (q+1) ax) rfl;have bq:=EQ ad 2;have br:=gh ad 2;refine hK _ _ ?_;clear hK K I ae ad ag J au aA hbb aD aX aP aQ aC a6
  try simp only[Act.put,UT,Ve,Vf,Va,U7,U6]
  apply zt0 9 (xk (some (TU tb 2)));apply zS 10;clear bq br bo;refine Vg zk ?_ _;go_wp2
  go_roundw
  .exact⟨q+1,TT g5,aa,TT g8,ax,_,zo,zf,by rw[bg.out];exact bh⟩
  simp[intOf];omega
 have bE:q=n2:=zo;subst bE;have hc0:=EQ HT.out.blk 0;have hc1:=EQ HT.out.blk 1;have hc2:=EQ HT.out.blk 2;have rc:=EQ HT.out.res;have rf:=gh HT.out.res;go_wp2_with fail;have aS:(((wr.setCell (TU w.heap.size 0) (xa ao k ac)).setCell (TU w.heap.size 1) (xa fo q fc)).setCell (TU w.heap.size 2) (xa xo q xc)).heap[w.heap.size]?=some (xi #[xa ao k ac,xa fo q fc,xa xo q xc] 36 (0,0)):=gj (gj (gj HT.out.res 0 _) 1 _) 2 _;have bt:wr.grownBy (((wr.setCell (TU w.heap.size 0) (xa ao k ac)).setCell (TU w.heap.size 1) (xa fo q fc)).setCell (TU w.heap.size 2) (xa xo q xc)) (some w.heap.size):=((gp _ _ _ _).trans (gp _ _ _ _)).trans (gp _ _ _ _);have bF:=HT.out.tab.other bt (λb hb c m=>by
  cases hb;rw[HT.out.res];simp)
 have bu:w.grownBy (((wr.setCell (TU w.heap.size 0) (xa ao k ac)).setCell (TU w.heap.size 1) (xa fo q fc)).setCell (TU w.heap.size 2) (xa xo q xc)) (some rb):=gD (gD (gD HT.out.gr (XH) _ _) (XH) _ _) (XH) _ _;generalize (((wr.setCell (TU w.heap.size 0) (xa ao k ac)).setCell (TU w.heap.size 1) (xa fo q fc)).setCell (TU w.heap.size 2) (xa xo q xc))=wf at *;have bj:=EQ aS;refine py (v:=.agg #[xa ao k ac,xa fo q fc,xa xo q xc]) (by simp[results,results89,go_sem,bj]) rfl ?_;exact⟨_,_,_,rv,rfl,by rw[bd.out];exact bF,bu⟩
def oq(ty:TW->Ud)(w:Uc)(o:Option Tb)(w':Uc)(e:Ending):Prop:=
 XL w w'/\match o with
 |none=>e=xm (.tuple #[.agg #[TV,TV,TV],ty []])
 |some t=>∃A F X rv,e=xm (.tuple #[.agg #[A,F,X],ty [xn true]])/\RX w' w.heap.size A F X t rv
def TP:TW->Ud
 |[]=>xn false
 |_=>xn true
def Fb:TW->Ud
 |[]=>xd xh 6
 |_=>xd xh 0
def GB{l:T9}(hl:l.length<=1000):(pM l).acts.length<=1000/\(pM l).nx.length<=1000/\(pM l).fl.length<=1000/\∀r∈(pM l).nx,r.length<=1000:=by
 have I:(nF l).1.length<=1000:=by
  unfold nF;rw[uu];exact Wq (Uw (qN) zp)
 have h2:=A0 (nF l).1.length (iv (nF l).2).1 (iv (nF l).2).2;have h3:=qN (l:=(nF l).2);have J:∀(c n:Nat)(m:T9)(r:T5),r∈(jG c n m).1.2->r.length=c:=by
  intro c n
  induction n with
  |zero=>intro m r h;trivial
  |succ n ih=>
   intro m r h;rw[jG] at h;rcases List.mem_cons.1 h with rfl|h
   .exact p9 _ _
   exact ih _ r h
 refine⟨I,?_,?_,λr hr=>?_⟩
 .show(jG _ _ _).1.2.length<=1000;omega
 .show(jG _ _ _).1.1.length<=1000;omega
 rw[J _ _ _ r hr];omega
def Kx{b:T9}(h:1000<b.length):RZ b none:=λt I e=>by
 have:=I.few;rw[e] at this;omega
def RX.mono{w:Uc}{base base':Nat}{A:Ud}{t:Tb}(h:RX w base A F X t rv)(I:base'<=base):RX w base' A F X t rv:=
 ⟨im h.acts I,im h.fl I,im h.nx I,λj r hr=>by obtain⟨g,c,J,U⟩:=h.rows j r hr;exact⟨g,c,J,im U I⟩,h.rf,h.rr⟩
def jb(w:Uc)(b:Nat)(A F X:Ud):Uc:=((w.setCell (TU b 0) A).setCell (TU b 1) F).setCell (TU b 2) X
def jf{w:Uc}{a f x:Ud}(h:w.heap[b]?=some (xi #[a,f,x] 36 (0,0)))(A F X:Ud):(jb w b A F X).heap[b]?=some (xi #[A,F,X] 36 (0,0)):=gj (gj (gj h 0 A) 1 F) 2 X
def nS(w:Uc)(b:Nat){A:Ud}:w.grownBy (jb w b A F X) (some b):=((gp _ _ _ _).trans (gp _ _ _ _)).trans (gp _ _ _ _)
def iY{w0 w:Uc}(h:XL w0 w)(hb:w0.heap.size<=b)(A F X:Ud):XL w0 (jb w b A F X):=h.grown (nS w b) h.size (λk hk=>za)
def ow{w:Uc}{c:T1}(hc:w.heap[b]?=some (xi c 36 (0,0))){base:Nat}{A A' F' X':Ud}{t:Tb}(h:RX w base A F X t rv):RX (jb w b A' F' X') base A F X t rv:=
 h.other (nS w b) (λk hk c' m=>by
  simp_all)
theorem tJ(t:Tb):iS t.z↔Fn t:=by grind[Tb.z_inj,iS]
def M0{w:Uc}{no:TX}{ac:Nat}(fc nc:Nat){na nf nn:Nat}(t:Tb)(hI:SN w ao fo no ac t.z)(hG:GV w)(I:na=t.acts.length)(J:nf=t.fl.length)(U:nn=t.nx.length):
  Calls prog 45 #[.agg #[xa ao na ac,xa fo nf fc,xa no nn nc]] w λe w'=>Lz (Fn t) e/\XL w w':=by
 have e1:t.z.fl.length=nf:=by rw[J];exact mh _
 have e2:t.z.nx.length=nn:=by rw[U];unfold Tb.z;simp
 have e3:t.z.acts.length=na:=by rw[I];rfl
 have:=Af fc nc hI hG;rw[e1,e2,e3,tJ] at this;exact this
def JV{w:Uc}(s:Ub)(hG:GV w):
  Calls prog 47 #[xj s] w λe w'=>∃o,RZ s.data.toList o/\oq TP w o w' e:=by
 have aJ:=ir w (xi #[TV,TV,TV] 36);have aw:=gi w (xi #[TV,TV,TV] 36);by_cases hs:1000<s.size
 .have HD:=Kx (by rw[LT];exact hs);have aO:(1000:Int)<(s.size:Int):=zo;go_in;go_wp2_with fail;have rc:=EQ aw;refine py (v:=.tuple #[.agg #[TV,TV,TV],xn false]) (by simp[results,results47,go_sem,rc]) rfl ?_;exact⟨none,HD,aJ,rfl⟩
 have aO:¬ (1000:Int)<(s.size:Int):=zo;have aI:SL ((w.alloc (xi #[TV,TV,TV] 36)).alloc (xi #[xj s] 165)) (w.heap.size+1) s.data.toList:=⟨s,rfl,gu zp⟩;have HT:=Ek aI za;clear aI;go_in;go_wp2_with fail;refine HT.mono ?_;rintro e w3 ⟨A,F,X,rv,rfl,aa,aE⟩;have av:XL w ((w.alloc (xi #[TV,TV,TV] 36)).alloc (xi #[xj s] 165)):=aJ.alloc zp _;have aD:=av.grown aE av.size (λb hb=>by cases hb;omega);have ag:=(aE.block _ zs (λe=>za)).trans ((XD zp).trans aw);obtain⟨ao,ac,rfl⟩:=ib aa.acts;obtain⟨fo,fc,rfl⟩:=ib aa.fl;obtain⟨no,nc,rfl⟩:=ib aa.nx;have aK:=GB (l:=s.data.toList) za;obtain⟨aH,_,_,_⟩:=aa.read aK;generalize hP:pM s.data.toList=t at *;have HP:=fy hP;have au:=ir w3 (xi #[xa ao t.acts.length ac,xa fo t.fl.length fc,xa no t.nx.length nc] 36);have ay:=aD.trans (au.mono aD.size);have aC:=aH.later au;have ae:=(au.block _ (dK ag)).trans ag;have ax:=(aa.later au).mono (base':=w.heap.size) zs;have aA:=gi w3 (xi #[xa ao t.acts.length ac,xa fo t.fl.length fc,xa no t.nx.length nc] 36);clear aD au aH aK aa aE ag av hP HT;have an:=fy (M0 fc nc t aC (hG.later ay) rfl rfl rfl);go_wp2_with fail;refine an.out.mono ?_;generalize w3.alloc (xi #[xa ao t.acts.length ac,xa fo t.fl.length fc,xa no t.nx.length nc] 36)=w4 at *;rintro e w5 ⟨⟨b,rfl,hb⟩,aj⟩;have ad:=(aj.block _ (dK aA)).trans aA;have U:=(aj.block _ (dK ae)).trans ae;have ak:=ay.trans (aj.mono ay.size);have aM:=aC.later aj;have aq:=ax.later aj;have bc:=EQ ad;have rc:=EQ U;have rf:=gh U;clear aj an aA ae ax aC;cases b with
 |false=>
  have HD:=RZ.not λh=>by rw[HP.out] at h;exact absurd (hb.2 h) zd
  clear hb;go_wp2_with fail;change bodyPost _ _ _ _ _ (jb w5 w.heap.size TV TV TV);have hfin:=jf U TV TV TV;have hbf:=iY ak (XH) TV TV TV;generalize jb w5 w.heap.size TV TV TV=wf at *;exact zm77
 |true=>
  have an:=hb.1 rfl;clear hb;have aB:=z8 fc nc aM an rfl rfl rfl;by_cases hE:iG t=s.data.toList
  .have HD:Hid (RZ s.data.toList (some t)):=⟨an,hE⟩;have aG:(⟨(iG t).toArray⟩:Ub)=s:=lQ zo;rw[aG] at aB;clear hE aG;go_wp2_with fail;refine aB.mono ?_;rintro e w6 ⟨rfl,J⟩;have ai:=(J.block _ (dK ad)).trans ad;have I:=(J.block _ (dK U)).trans U;have az:=ak.trans (J.mono ak.size);have ar:=aq.later J;clear bc rc rf;have bc:=EQ ai;have rc:=EQ I;have rf:=gh I;clear J ai;go_wp2_with fail;change bodyPost _ _ _ _ _ (jb w6 w.heap.size (xa ao t.acts.length ac) (xa fo t.fl.length fc) (xa no t.nx.length nc));have hfin:=jf I (xa ao t.acts.length ac) (xa fo t.fl.length fc) (xa no t.nx.length nc);have hbf:=iY az (XH) (xa ao t.acts.length ac) (xa fo t.fl.length fc) (xa no t.nx.length nc);have aP:=ow I ar (A':=xa ao t.acts.length ac) (F':=xa fo t.fl.length fc) (X':=xa no t.nx.length nc);generalize jb w6 w.heap.size (xa ao t.acts.length ac) (xa fo t.fl.length fc) (xa no t.nx.length nc)=wf at *;have fcc:=EQ hfin;refine py (v:=.tuple #[.agg #[xa ao t.acts.length ac,xa fo t.fl.length fc,xa no t.nx.length nc],xn true]) (by simp[results,results47,go_sem,fcc]) rfl ?_;exact⟨some t,HD.out,hbf,_,_,_,rv,rfl,aP⟩
  have HD:=(RZ.not λh e=>by
   rw[HP.out] at e;exact hE e)
  have hne:((⟨(iG t).toArray⟩:Ub).toList==s.toList)=false:=V3.2 λe=>hE (by
   rw[Ui,Ui] at e;omega)
  generalize (⟨(iG t).toArray⟩:Ub)=E at *;clear hE;go_wp2_with fail;refine aB.mono ?_;rintro e w6 ⟨rfl,J⟩;have ai:=(J.block _ (dK ad)).trans ad;have I:=(J.block _ (dK U)).trans U;have az:=ak.trans (J.mono ak.size);have ar:=aq.later J;clear bc rc rf;have rc:=EQ I;have rf:=gh I;clear J ai;go_wp2_with fail;change bodyPost _ _ _ _ _ (jb w6 w.heap.size TV TV TV);have hfin:=jf I TV TV TV;have hbf:=iY az (XH) TV TV TV;generalize jb w6 w.heap.size TV TV TV=wf at *;exact zm77
def S3(z:Tz)(e:Ending):Prop:=(∃t,z=t.z/\Fn t/\e=xm (.tuple #[xj ⟨(iG t).toArray⟩,xd xh 0]))\/(¬ iS z/\e=xm (.tuple #[xj ⟨#[]⟩,xd xh 6]))
def FF(w:Uc){no:TX}{ac fc nc:Nat}(z:Tz)(hI:SN w ao fo no ac z)(hG:GV w):
  Calls prog 26 #[.agg #[xa ao z.acts.length ac,xa fo z.fl.length fc,xa no z.nx.length nc]] w λe w'=>S3 z e/\XL w w':=by
 have hB:=ir w (xi #[xa ao z.acts.length ac,xa fo z.fl.length fc,xa no z.nx.length nc] 36);have U:=gi w (xi #[xa ao z.acts.length ac,xa fo z.fl.length fc,xa no z.nx.length nc] 36);have HR:=Af fc nc (hI.later hB) (hG.later hB);clear hG;go_in;go_wp2_with fail;refine HR.mono ?_;generalize w.alloc (xi #[xa ao z.acts.length ac,xa fo z.fl.length fc,xa no z.nx.length nc] 36)=W at *;rintro e w1 ⟨⟨b,rfl,hb⟩,J⟩;have ad:=(J.block _ (dK U)).trans U;have I:=hB.trans (J.mono hB.size);have bc:=EQ ad;clear J ad;cases b with
 |false=>
  have HN:Hid (¬ iS z):=λh=>absurd (hb.2 h) zp
  clear hb;go_wp2_with fail;refine py (v:=.tuple #[xj ⟨#[]⟩,xd xh 6]) (by simp[results,results26,go_sem]) rfl ?_;exact⟨Rr ⟨HN.out,rfl⟩,I⟩
 |true=>
  obtain⟨t,rfl,ht⟩:=hb.1 rfl;have e1:t.z.acts.length=t.acts.length:=rfl;have e2:t.z.fl.length=t.fl.length:=mh _;have e3:t.z.nx.length=t.nx.length:=by unfold Tb.z;simp
  have ai:=z8 fc nc (hI.later I) ht e1 e2 e3;clear hb e1 e2 e3;go_wp2_with fail;refine ai.mono ?_;rintro e w2 ⟨rfl,aa⟩;have ag:=I.trans (aa.mono I.size);clear aa;go_wp2_with fail;refine py (v:=.tuple #[xj ⟨(iG t).toArray⟩,xd xh 0]) (by simp[results,results26,go_sem]) rfl ?_;exact⟨RA ⟨t,rfl,ht,rfl⟩,ag⟩
def xX{w:Uc}(s:Ub)(hG:GV w):
  Calls prog 27 #[xj s] w λe w'=>∃o,RZ s.data.toList o/\oq Fb w o w' e:=by
 have ai:=ir w (xi #[TV,TV,TV] 36);have av:=JV s (hG.later ai);have aj:=gi w (xi #[TV,TV,TV] 36);clear hG;go_in;go_wp2_with fail;refine av.mono ?_;generalize hW:w.alloc (xi #[TV,TV,TV] 36)=W at *;have ay:=ai.size;clear hW;rintro e w1 ⟨o,ho,ag,hm⟩;have J:=(ag.block _ (dK aj)).trans aj;have ae:=ai.trans (ag.mono ai.size);cases o with
 |none=>
  have ax:e=xm (.tuple #[.agg #[TV,TV,TV],xn false]):=hm;subst ax;have U:=ir w1 (xi #[TV,TV,TV] 36);have I:=(U.block _ (dK J)).trans J;have ak:=ae.trans (U.mono ae.size);have rc:=EQ I;have rf:=gh I;have rl:=dK I;clear hm ag J U;go_wp2_with fail;change bodyPost _ _ _ _ _ (jb (w1.alloc (xi #[TV,TV,TV] 36)) w.heap.size TV TV TV);have ad:=jf I TV TV TV;have aq:=iY ak (XH) TV TV TV;generalize jb (w1.alloc (xi #[TV,TV,TV] 36)) w.heap.size TV TV TV=wf at *;have an:=EQ ad;refine py (v:=.tuple #[.agg #[TV,TV,TV],xd xh 6]) (by simp[results,results27,go_sem,an]) rfl ?_;exact⟨none,ho,aq,rfl⟩
 |some t=>
  obtain⟨A,F,X,rv,he,aa⟩:=hm;obtain⟨ao,ac,rfl⟩:=ib aa.acts;obtain⟨fo,fc,rfl⟩:=ib aa.fl;obtain⟨no,nc,rfl⟩:=ib aa.nx;have aw:e=xm (.tuple #[.agg #[xa ao t.acts.length ac,xa fo t.fl.length fc,xa no t.nx.length nc],xn true]):=he;subst aw;clear he;have U:=ir w1 (xi #[xa ao t.acts.length ac,xa fo t.fl.length fc,xa no t.nx.length nc] 36);have I:=(U.block _ (dK J)).trans J;have ak:=ae.trans (U.mono ae.size);have au:=(aa.later U).mono ay;have hbx:=gi w1 (xi #[xa ao t.acts.length ac,xa fo t.fl.length fc,xa no t.nx.length nc] 36);have rc:=EQ I;have rf:=gh I;have rl:=dK I;clear ag J U aa;go_wp2_with fail;change bodyPost _ _ _ _ _ (jb (w1.alloc (xi #[xa ao t.acts.length ac,xa fo t.fl.length fc,xa no t.nx.length nc] 36)) w.heap.size (xa ao t.acts.length ac) (xa fo t.fl.length fc) (xa no t.nx.length nc));have ad:=jf I (xa ao t.acts.length ac) (xa fo t.fl.length fc) (xa no t.nx.length nc);have aq:=iY ak (XH) (xa ao t.acts.length ac) (xa fo t.fl.length fc) (xa no t.nx.length nc);have az:=ow I au (A':=xa ao t.acts.length ac) (F':=xa fo t.fl.length fc) (X':=xa no t.nx.length nc);generalize jb (w1.alloc (xi #[xa ao t.acts.length ac,xa fo t.fl.length fc,xa no t.nx.length nc] 36)) w.heap.size (xa ao t.acts.length ac) (xa fo t.fl.length fc) (xa no t.nx.length nc)=wf at *;have an:=EQ ad;refine py (v:=.tuple #[.agg #[xa ao t.acts.length ac,xa fo t.fl.length fc,xa no t.nx.length nc],xd xh 0]) (by simp[results,results27,go_sem,an]) rfl ?_;exact⟨some t,ho,aq,_,_,_,rv,rfl,az⟩
def Tf(n:Nat)(e:Ending):Prop:=∃k:Nat,k<n/\e=xm (xd xh (k:Int))
def Tf.of{n:Nat}{x:Int}(I:0<=x)(hn:0<n):Tf n (xm (xd xh (x.tmod (n:Int)))):=by
 have J:=Int.tmod_nonneg (n:Int) I;have h2:=Int.tmod_lt_of_pos x (show(0:Int)<(n:Int) from zo);refine⟨(x.tmod n).toNat,zo,?_⟩;rw[Int.toNat_of_nonneg J]
def Tz.ext'{z y:Tz}(h1:z.acts=y.acts)(h2:z.fl=y.fl)(h3:z.nx=y.nx):z=y:=by
 cases z;simp_all
def ou(x:Bool):Nat:=if x=true then 1 else 0
def mB(l:T7):Nat:=l.foldl (λn b=>2*n+ou b) 0
def jd(p:Bool × T7):Nat:=2*mB p.2+ou p.1
def qz(l:T7)(x:Bool):mB (l++[x])=2*mB l+ou x:=by unfold mB;simp
def pI(x:Bool):ou x<=1:=by unfold ou;split<;>omega
def B'{x:Bool}(h:ou x=ou y):x=y:=by cases x<;>cases y<;>first|rfl|trivial
def xr:∀(l:T7),mB l<2^l.length:=by
 refine pO zd λl a ih=>?_
 rw[qz,Ur,Wz,Nat.pow_succ];have:=pI a;omega
def Iu{l m:T7}(I:l.length=m.length)(hc:mB l=mB m):l=m:=by
 have:∀(n:Nat)(l m:T7),l.length=n->m.length=n->mB l=mB m->l=m:=by
  intro n
  induction n with
  |zero=>simp
  |succ n ih=>
   intro l m h1 h2 h;have I:l≠[]:=λe=>za
   have hm:m≠[]:=λe=>za
   rw[<-Xe I,<-Xe hm,qz,qz] at h;have b1:=pI (l.getLast I);have b2:=pI (m.getLast hm);have J:=ih l.dropLast m.dropLast za za zo;have U:=B' (show ou (l.getLast I)=ou (m.getLast hm) from zo);rw[<-Xe I,<-Xe hm,J,U]
 exact this _ _ _ I rfl hc
def Al{p:Bool × T7}(U:p.2.length=q.2.length)(h:jd p=jd q):p=q:=by
 unfold jd at h;have b1:=pI p.1;have b2:=pI q.1;have I:=Iu U zo;have J:=B' (show ou p.1=ou q.1 from zo);exact Prod.ext J I
def xt(p:Bool × T7){n:Nat}(h:p.2.length<=n):jd p<2^(n+1):=by
 unfold jd;have b1:=pI p.1;have h1:=xr p.2;have h2:2^p.2.length<=2^n:=VO zp h;omega
def Ch(w:Uc)(b:T7)(e:Bool)(hb:b.length<=30):
  Calls prog 208 #[.agg #[xj (gK b),xn e]] w λen w'=>en=xm (xd xh (jd (e,b):Nat))/\XL w w':=by
 have hB:=ir w (xi #[xj (gK b),xn e] 302);have U:=gi w (xi #[xj (gK b),xn e] 302);have hsz:=lN b;go_in;go_wp2_with fail;generalize w.alloc (xi #[xj (gK b),xn e] 302)=W at *;have c0:=EQ U 0;have c1:=EQ U 1
 go_loopw [3,4] (λn x wr=>∃k:Nat,k<=b.length/\n=xd xh ((mB (b.take k):Nat):Int)/\x=xd xh k/\Hid (W=wr)) (λ_ x _=>b.length-(intOf x).toNat)
 .exact zm56
 obtain⟨k,hk,rfl,rfl,HW⟩:=hrel;have hw:=HW.out;subst hw;clear HW;by_cases hlt:k<b.length
 .have ae:k<(gK b).size:=zo;have aa:=oL ae (Uq hlt:b[k]?=some b[k]);have ad:Hid (mB (b.take (k+1))=2*mB (b.take k)+ou b[k]):=by
   show _=_;rw[U5,Uq hlt];exact qz (b.take k) b[k]
  have I:=xr (b.take k);have J:2^(b.take k).length<=2^30:=VO zp (by rw[Vi];omega);have hbn:((ou b[k]:Nat):Int)=((gK b)[k].toNat:Int):=by rw[aa];unfold ou;split<;>rfl
  have hble:=pI b[k];clear aa;generalize hcn:mB (b.take k)=S at *;have hS:S<=1073741824:=zo;clear hcn I J;generalize b[k]=x at *;generalize hyy:(gK b)[k]=y at *;go_wp2
  go_roundw
  .exact⟨k+1,zo,by rw[ad.out];go_num,zf,trivial⟩
  simp[intOf];omega
 rw[UF zo];have I:=xr b;have J:2^b.length<=2^30:=VO zp hb;have HC:Hid (jd (e,b)=2*mB b+ou e):=rfl;generalize mB b=S at *;have hS:S<=1073741824:=zo;clear I J;cases e with
 |true=>
  go_wp2_with fail;refine py (v:=xd xh ((2*S+1:Nat):Int)) (by simp[results,results208,go_sem]) rfl ?_;exact⟨by rw[HC.out];rfl,hB⟩
 |false=>
  go_wp2_with fail;refine py (v:=xd xh ((2*S:Nat):Int)) (by simp[results,results208,go_sem]) rfl ?_;exact⟨by rw[HC.out];rfl,hB⟩
def mF(P:T7)(i m:Bool)(a:Int)(L:List Nd):(km P i m a L).length=L.length:=by
 induction L using pO with
 |zero=>rfl
 |succ L d ih=>rw[qe];unfold rG;rw[Ur,ih,Ur];rfl
def Lw(P:T7)(i m:Bool)(a:Int)(L M:List Nd):∃S,km P i m a (L++M)=km P i m a L++S:=by
 induction M using pO with
 |zero=>exact⟨[],by rw[Vo,Vo]⟩
 |succ M d ih=>
  obtain⟨S,I⟩:=ih;rw[<-UI,qe,I];unfold rG;exact⟨_,UI _ _ _⟩
def Fi{P:T7}{i m:Bool}{a:Int}{L:List Nd}{k:Nat}{d:Nd}(h:L[k]?=some d)(U:d.a<k)(hb:d.b<k):
  (km P i m a L)[k]?=some (jl d.k i m (decide (d.t=a)) (kF (km P i m a L) d.a) (kF (km P i m a L) d.b) (kF P d.a) (kF P k)):=by
 have hk:=(List.getElem?_eq_some_iff.1 h).1;have e:L=(L.take k++[d])++L.drop (k+1):=by
  rw[UI,RE]
  conv=>lhs;rw[<-Vn k L]
  rw[UK hk,(List.getElem?_eq_some_iff.1 h).2]
 obtain⟨S,I⟩:=Lw P i m a (L.take k++[d]) (L.drop (k+1));rw[<-e,qe] at I;have J:(km P i m a (L.take k)).length=k:=by rw[mF,Vi];omega
 unfold rG at I;rw[J] at I;rw[I,UI,uz (by rw[J];exact U),uz (by rw[J];exact hb),Uv zo,J,Wn];rfl
def lF{k:Nat}{x:Bool}(h:V[k]?=some x):kF V (k:Int)=x:=by
 unfold kF;rw[T' zo,Int.toNat_natCast,h];rfl
def S0.ex{w:Uc}{nb:Nat}{L:List Nd}{T:T8}(h:S0 w nb B L T):∃p0 c0 p1 c1 p2 c2 p3 c3 p4 c4,w.heap[nb]?=some (xi #[xa p0 L.length c0,xa p1 L.length c1,xa p2 L.length c2,xa p3 L.length c3,xa p4 T.length c4] 294 (0,0))/\
  (∀(k:Nat)(d:Nd),L[k]?=some d->∃U g1 g2 g3,p0=some ⟨U,0,none⟩/\p1=some ⟨g1,0,none⟩/\p2=some ⟨g2,0,none⟩/\p3=some ⟨g3,0,none⟩/\U<w.heap.size/\g1<w.heap.size/\g2<w.heap.size/\g3<w.heap.size/\
   w.cell? (TU U k)=some (xd .u8 (iI d.k))/\w.cell? (TU g1 k)=some (xd xh d.a)/\w.cell? (TU g2 k)=some (xd xh d.b)/\w.cell? (TU g3 k)=some (xd xh d.t))/\
  ∀(k:Nat)(t:Int),T[k]?=some t->∃g4,p4=some ⟨g4,0,none⟩/\g4<w.heap.size/\w.cell? (TU g4 k)=some (xd xh t):=by
 obtain⟨v,J⟩:=h;have o0:=J.own 0;have o1:=J.own 1;have o2:=J.own 2;have o3:=J.own 3;have o4:=J.own 4;have l0:(jh L T 0).length=L.length:=by simp[jh]
 have l1:(jh L T 1).length=L.length:=by simp[jh]
 have l2:(jh L T 2).length=L.length:=by simp[jh]
 have l3:(jh L T 3).length=L.length:=by simp[jh]
 have l4:(jh L T 4).length=T.length:=by simp[jh]
 rw[l0] at o0;rw[l1] at o1;rw[l2] at o2;rw[l3] at o3;rw[l4] at o4;obtain⟨p0,c0,e0⟩:=ib o0;obtain⟨p1,c1,e1⟩:=ib o1;obtain⟨p2,c2,e2⟩:=ib o2;obtain⟨p3,c3,e3⟩:=ib o3;obtain⟨p4,c4,e4⟩:=ib o4;rw[e0] at o0;rw[e1] at o1;rw[e2] at o2;rw[e3] at o3;rw[e4] at o4;refine⟨p0,c0,p1,c1,p2,c2,p3,c3,p4,c4,by rw[<-e0,<-e1,<-e2,<-e3,<-e4];exact J.blk,λk d hd=>?_,λk t ht=>?_⟩
 .have I:=(List.getElem?_eq_some_iff.1 hd).1;obtain⟨U,rfl,h0,x0⟩:=gT o0 I;obtain⟨g1,rfl,h1,x1⟩:=gT o1 I;obtain⟨g2,rfl,h2,x2⟩:=gT o2 I;obtain⟨g3,rfl,h3,x3⟩:=gT o3 I;exact⟨U,g1,g2,g3,rfl,rfl,rfl,rfl,h0,h1,h2,h3,by rw[x0];simp[jh,hd],by rw[x1];simp[jh,hd],by rw[x2];simp[jh,hd],by rw[x3];simp[jh,hd]⟩
 have I:=(List.getElem?_eq_some_iff.1 ht).1;obtain⟨g4,rfl,h4,x4⟩:=gT o4 I;exact⟨g4,rfl,h4,by rw[x4];simp[jh,ht]⟩
def td{w:Uc}{g:Nat}{n:Nat}{b:T7}{ty:Nat}(h:w.heap[g]?=some (xi (qv b) ty m))(hn:b.length=n):
  (convert 51 9 (xa (TT g) n n)).run prog w=.ok (xj (gK b)) w:=by
 have:=Vh (P:=prog) w 51 9 5 (TU g 0) n (b.map nw) underlying51 underlying5 underlying9 (λj J=>by
  have I:j<b.length:=by simpa using J
  rw[Vm,U2,EQ h,pH (Uq I)];simp)
 rw[UL,hn] at this;exact this
structure AX(w wr:Uc)(P:T7)(pe:Bool)(b:T7):Prop where
 blk:wr.heap[w.heap.size+2]?=some (xi (qv b) 5 (0,0))
 box:wr.heap[w.heap.size]?=some (xi #[xj (gK P),xn pe] 302 (0,0))
 res:wr.heap[w.heap.size+1]?=some (xi #[xj ⟨#[]⟩,xn false] 302 (0,0))
 bel:XL w wr
def AX.set{w:Uc}{P b:T7}(h:AX w wr P pe b)(k:Nat)(x:Bool):AX w (wr.setCell (TU (w.heap.size+2) k) (xd .u8 ((nw x).toNat:Int))) P pe (b.set k x):=by
 refine⟨?_,?_,?_,?_⟩
 .exact zm173
 .exact(XE (by show w.heap.size≠w.heap.size+2;omega)).trans h.box
 .exact(XE (by show w.heap.size+1≠w.heap.size+2;omega)).trans h.res
 exact h.bel.setCell (p:=⟨w.heap.size+2,k,none⟩) (by show _<=w.heap.size+2;omega) _
def AX.bits{w:Uc}{P:T7}{k n j:Nat}(h:AX w wr P pe (iE V k))(hV:V.length=n)(hk:k<=n)(J:j<k):∃y:Bool,V[j]?=some y/\wr.cell? (TU (w.heap.size+2) j)=some (xd .u8 (if y=true then 1 else 0)):=by
 have I:j<V.length:=zo;refine⟨V[j],Uq I,?_⟩;rw[EQ h.blk,pH (x:=V[j]) (by unfold iE;rw[UJ (by rw[Vi];omega),Xm J];exact Uq I),qU]
def AX.slot{w:Uc}{P:T7}{k n:Nat}(h:AX w wr P pe (iE V k))(hV:V.length=n)(hk:k<n):∃z,wr.cell? (TU (w.heap.size+2) k)=some z:=by
 have I:k<(iE V k).length:=by rw[nL zo];omega
 exact⟨_,(EQ h.blk k).trans (pH (Uq I))⟩
def AX.bit1{w:Uc}{P:T7}{k:Nat}(h:Hid (AX w wr P pe (iE V k)))(I:Hid (V[k]?=some true)):Hid (AX w (wr.setCell (TU (w.heap.size+2) k) (xd .u8 1)) P pe (iE V (k+1))):=by
 show AX _ _ _ _ _;rw[mR I.out];exact h.out.set k true
def AX.bit0{w:Uc}{P:T7}{k:Nat}(h:Hid (AX w wr P pe (iE V k)))(I:Hid (V[k]?=some false)):Hid (AX w wr P pe (iE V (k+1))):=by
 show AX _ _ _ _ _;rw[wm I.out];exact h.out
def kW(t:Tb)(i a:Nat):Nat:=((t.nx[i]?.getD [])[a]?).getD 0
def jS(t:Tb)(i:Nat):Nat:=t.fl[i]?.getD 0
structure SQ(W:Uc)(t:Tb)(A n ab a0 fb f0 nb n0:Nat)(rb ro rc:Nat->Nat):Prop where
 hA:t.acts.length=A
 hn:t.nx.length=n
 A6:A<=6
 A1:1<=A
 n1:1<=n
 n100:n<=100
 rt:Fn t
 act:∀i s,t.acts[i]?=some s->W.cell? (TU ab (a0+i))=some (xj s)
 fla:∀i,i<n->W.cell? (TU fb (f0+i))=some (xd xh (jS t i:Int))
 row:∀i,i<n->W.cell? (TU nb (n0+i))=some (xa (some (TU (rb i) (ro i))) A (rc i))
 nxt:∀i a,i<n->a<A->W.cell? (TU (rb i) (ro i+a))=some (xd xh (kW t i a:Int))
 la:ab<W.heap.size
 lf:fb<W.heap.size
 ln:nb<W.heap.size
 lr:∀i,i<n->rb i<W.heap.size
def SQ.later{t:Tb}{A n ab a0 fb f0 nb n0:Nat}{rb ro rc:Nat->Nat}(h:SQ W t A n ab a0 fb f0 nb n0 rb ro rc)(I:XL W W'):SQ W' t A n ab a0 fb f0 nb n0 rb ro rc:=
 ⟨h.hA,h.hn,h.A6,h.A1,h.n1,h.n100,h.rt,λi s hs=>(Fd I _ _ h.la).trans (h.act i s hs),λi hi=>(Fd I _ _ h.lf).trans (h.fla i hi),λi hi=>(Fd I _ _ h.ln).trans (h.row i hi),
  λi a hi J=>(Fd I _ _ (h.lr i hi)).trans (h.nxt i a hi J),Uw h.la I.size,Uw h.lf I.size,Uw h.ln I.size,λi hi=>Uw (h.lr i hi) I.size⟩
def Pq{t:Tb}(h:Fn t){x:Nat}(J:x<t.nx.length)(I:a<t.acts.length):kW t x a<t.nx.length:=h.go J I
def SQ.lt{t:Tb}{A n ab a0 fb f0 nb n0:Nat}{rb ro rc:Nat->Nat}(h:SQ W t A n ab a0 fb f0 nb n0 rb ro rc){x:Nat}(hx:x<n)(ha:a<A):kW t x a<n:=by
 have:=Pq h.rt (x:=x) (a:=a) (by have:=h.hn;omega) (by have:=h.hA;omega);have:=h.hn;omega
theorem JM{no:TX}{ac:Nat}{t:Tb}(h:SN W ao fo no ac t.z)(U:Fn t):
  ∃ab a0 fb f0 nb n0 rb ro rc,ao=some ⟨ab,a0,none⟩/\fo=some ⟨fb,f0,none⟩/\no=some ⟨nb,n0,none⟩/\SQ W t t.acts.length t.nx.length ab a0 fb f0 nb n0 rb ro rc:=by
 have hA:=U.acts.n1;have hn:=U.n1;have hfl:=U.fl;have ag:∀i,i<t.nx.length->t.z.fl[i]?=some (jS t i:Int):=λi hi=>by
  show(zI t.fl)[i]? =_
  grind[zI,jS]
 have ai:∀i,i<t.nx.length->∃r,t.nx[i]?=some r/\r.length=t.acts.length/\t.z.nx[i]?=some (zI r):=λi hi=>by
  refine⟨t.nx[i],Uq hi,(U.rs _ (UY hi)).1,?_⟩;show(t.nx.map zI)[i]? =_
  grind
 obtain⟨ab,a0,rfl,an,_⟩:=h.acts 0 t.acts[0] (show t.acts[0]? =_ from Uq zo);obtain⟨fb,f0,rfl,ae,_⟩:=h.fl 0 _ (ag 0 zo);obtain⟨r0,_,_,au⟩:=ai 0 zo;obtain⟨nb,n0,_,_,rfl,aq,_,_⟩:=h.nx 0 _ au;have I:∀i,∃p:Nat × Nat × Nat,i<t.nx.length->W.cell? (TU nb (n0+i))=some (xa (some (TU p.1 p.2.1)) t.acts.length p.2.2)/\p.1<W.heap.size/\∀a,a<t.acts.length->W.cell? (TU p.1 (p.2.1+a))=some (xd xh (kW t i a:Int)):=λi=>by
  by_cases hi:i<t.nx.length
  .obtain⟨r,h1,h2,h3⟩:=ai i hi;obtain⟨b,off,ro,rc,e1,_,e3,e4⟩:=h.nx i _ h3;cases e1;have J:∀a,a<t.acts.length->(zI r)[a]?=some (kW t i a:Int):=λa ha=>by
    grind[zI,kW]
   obtain⟨qb,q0,rfl,ar,_⟩:=e4 0 _ (J 0 zo);refine⟨(qb,q0,rc),λ_=>⟨?_,ar,λa ha=>?_⟩⟩
   .grind[zI]
   obtain⟨b',off',e5,_,e6⟩:=e4 a _ (J a ha);cases e5;exact e6
  exact⟨(0,0,0),λh=>absurd h hi⟩
 have aa:=λi=>WA (I i)
 refine⟨ab,a0,fb,f0,nb,n0,λi=>(Classical.choose (I i)).1,λi=>(Classical.choose (I i)).2.1,λi=>(Classical.choose (I i)).2.2,rfl,rfl,rfl,⟨rfl,rfl,U.acts.n6,hA,hn,U.n100,U,λi s hs=>?_,λi hi=>?_,λi hi=>(aa i hi).1,λi a hi ha=>(aa i hi).2.2 a ha,an,ae,aq,λi hi=>(aa i hi).2.1⟩⟩
 .obtain⟨b,off,e1,_,e3⟩:=h.acts i s hs;cases e1;exact e3
 obtain⟨b,off,e1,_,e3⟩:=h.fl i _ (ag i hi);cases e1;exact e3
structure TD(w W:Uc)(T:T1):Prop where
 b0:W.heap[w.heap.size]?=some (xi T 36 (0,0))
 bel:XL w W
def TD.later{w:Uc}{T:T1}(h:TD w W T)(I:XL W W'):TD w W' T:=
 ⟨(I.block _ (dK h.b0)).trans h.b0,h.bel.trans (I.mono h.bel.size)⟩
def TD.start(w:Uc)(T:T1):TD w (w.alloc (xi T 36)) T:=⟨gi _ _,gC⟩
theorem AL.put{w:Uc}{T:T1}(h:AL w wr (w.heap.size+1) T L)(k:Nat)(x:Bool):AL w (wr.setCell (TU (w.heap.size+1) k) (xn x)) (w.heap.size+1) T (L.set k x):=by
 refine⟨?_,?_,?_⟩
 .have:=gj h.blk k (xn x)
  grind[Ak]
 .exact zm142
 exact zm133
def AL.at{w:Uc}{g:Nat}{T:T1}(h:AL w wr g T L){k:Nat}(hk:k<L.length):wr.cell? (TU g k)=some (xn (lv L k)):=by
 have e:L[k]?=some (lv L k):=by unfold lv;simp_all
 rw[EQ h.blk,qV e]
theorem zi(t:Tb)(i:Nat):(jS t i:Int).tmod 2=if kM t i then 1 else 0:=by
 grind[kM,jS]
structure Tr(t:Tb)(A n:Nat):Prop where
 hA:t.acts.length=A
 hn:t.nx.length=n
 hf:t.fl.length=n
 A1:1<=A
 A6:A<=6
 n1:1<=n
 n100:n<=100
 rs:∀r∈t.nx,r.length=A/\∀x∈r,x<n
def Tr.step{t:Tb}{A n:Nat}(h:Tr t A n){x:Nat}(hx:x<n)(ha:a<A):∃r k,t.nx[x]?=some r/\r[a]?=some k/\k<n:=by
 have I:x<t.nx.length:=by rw[h.hn];omega
 obtain⟨h1,h2⟩:=h.rs t.nx[x] (UY I);simp_all
def Tr.lt{t:Tb}{A n:Nat}(h:Tr t A n){x:Nat}(J:x<n)(I:a<A):kW t x a<n:=by
 obtain⟨r,k,h1,h2,h3⟩:=h.step J I;unfold kW;simp_all
structure TM(W:Uc)(t:Tb)(A n fb f0 nb n0:Nat)(rb ro rc:Nat->Nat):Prop where
 sh:Tr t A n
 fla:∀i,i<n->W.cell? (TU fb (f0+i))=some (xd xh (jS t i:Int))
 row:∀i,i<n->W.cell? (TU nb (n0+i))=some (xa (some (TU (rb i) (ro i))) A (rc i))
 nxt:∀i a,i<n->a<A->W.cell? (TU (rb i) (ro i+a))=some (xd xh (kW t i a:Int))
 lf:fb<W.heap.size
 ln:nb<W.heap.size
 lr:∀i,i<n->rb i<W.heap.size
def TM.later{t:Tb}{A n fb f0 nb n0:Nat}{rb ro rc:Nat->Nat}(h:TM W t A n fb f0 nb n0 rb ro rc)(I:XL W W'):TM W' t A n fb f0 nb n0 rb ro rc:=
 ⟨h.sh,λi hi=>(Fd I _ _ h.lf).trans (h.fla i hi),λi hi=>(Fd I _ _ h.ln).trans (h.row i hi),
  λi a hi J=>(Fd I _ _ (h.lr i hi)).trans (h.nxt i a hi J),Uw h.lf I.size,Uw h.ln I.size,λi hi=>Uw (h.lr i hi) I.size⟩
def jq(t:Tb)(L:T7)(i a:Nat):Bool:=lv L i||(((t.nx[i]?.getD []).take a).any (lv L))
def Eb(t:Tb)(L:T7)(i:Nat):jq t L i 0=lv L i:=by unfold jq;simp
theorem Ea{t:Tb}{A n:Nat}(h:Tr t A n)(L:T7)(hi:i<n)(hl:i<L.length)(U:a<A):
  jq t L i (a+1)=(jq t L i a||lv (L.set i (jq t L i a)) (kW t i a)):=by
 obtain⟨r,k,I,J,h3⟩:=h.step hi U;have hx:kW t i a=k:=by unfold kW;simp_all
 have e1:jq t L i (a+1)=(jq t L i a||lv L k):=by
  unfold jq;rw[I];simp only[Wl];rw[U5,J,WM,List.any_append]
  grind
 grind[sP,jq]
theorem Gq{t:Tb}{A n:Nat}(h:Tr t A n)(L:T7)(hi:i<n):L.set i (jq t L i A)=ky t L i:=by
 unfold jq ky;have I:i<t.nx.length:=by rw[h.hn];omega
 have hr:=(h.rs t.nx[i] (UY I)).1
 grind
theorem Br(t:Tb):∀n (l:T7),jL t (n+1) l=l6 t (jL t n l):=by intro I;induction I<;>grind[jL,l6]
def D9(t:Tb)(L:T7)(i:Nat):(Ru (i+1)).foldl (ky t) L=ky t ((Ru i).foldl (ky t) L) i:=by
 rw[Xg,V'];rfl
def uK(t:Tb)(n i:Nat):T7:=(Ru n).map λj=>if j<i then kM t j else false
def NJ(t:Tb)(n i:Nat):(uK t n i).length=n:=by unfold uK;simp
def K9(t:Tb)(n:Nat):uK t n 0=RF n false:=by
 unfold uK;refine WX zp λk h1 h2=>?_
 simp
theorem NI{t:Tb}{n:Nat}(hf:t.fl.length=n):uK t n n=rq t:=by
 unfold uK rq;refine WX (by simp[hf]) λk h1 h2=>?_
 grind[kM]
theorem K8(t:Tb)(n i:Nat):(uK t n i).set i (kM t i)=uK t n (i+1):=by
 unfold uK;refine WX zp λk h1 h2=>?_
 grind
def Qr(t:Tb)(n:Nat)(w w':Uc)(e:Ending):Prop:=∃L:T7,e=xm (xa (TT (w.heap.size+1)) n n)/\w'.heap[w.heap.size+1]?=some (xi (mA L) 4 (0,0))/\L.length=n/\(∀i,lv L i=true↔LE t i)/\XL w w'
theorem x9{w:Uc}{t:Tb}{A n:Nat}(ao:TX)(na ac:Nat){fb f0 nb n0:Nat}(fc nc:Nat)(rb ro rc:Nat->Nat)(I:TM w t A n fb f0 nb n0 rb ro rc):
  Calls prog 182 #[.agg #[xa ao na ac,xa (some (TU fb f0)) n fc,xa (some (TU nb n0)) n nc]] w λe w'=>Qr t n w w' e:=by
 have hA1:=I.sh.A1;have hA6:=I.sh.A6;have hn1:=I.sh.n1;have hn100:=I.sh.n100;obtain⟨i0,ay,aA,aB,aL⟩:=Uk Tryz.infoBool;have aK:=λ(w:Uc)=>ry (P:=prog) w 87 4 i0 (xn false) underlying87 ay aA aB rfl zo n zo
 clear ay aA aB aL;have hB:=ir w (xi #[xa ao na ac,xa (some (TU fb f0)) n fc,xa (some (TU nb n0)) n nc] 36);have U:mA (RF n false)=Array.replicate n (xn false):=by
  unfold mA;simp
 have HA0:Hid (AL w ((w.alloc (xi #[xa ao na ac,xa (some (TU fb f0)) n fc,xa (some (TU nb n0)) n nc] 36)).alloc (xi (Array.replicate n (xn false)) 4)) (w.heap.size+1) #[xa ao na ac,xa (some (TU fb f0)) n fc,xa (some (TU nb n0)) n nc] (uK t n 0)):=by
  rw[K9,<-U];exact zm148
 have aw:=gi w (xi #[xa ao na ac,xa (some (TU fb f0)) n fc,xa (some (TU nb n0)) n nc] 36);have av:=EQ aw 1;clear hB U aw;go_in;go_wp2_with fail;clear av aK;generalize ((w.alloc (xi #[xa ao na ac,xa (some (TU fb f0)) n fc,xa (some (TU nb n0)) n nc] 36)).alloc (xi (Array.replicate n (xn false)) 4))=W0 at *
 go_loopw [4] (λx wr=>∃k:Nat,k<=n/\x=xd xh k/\Hid (AL w wr (w.heap.size+1) #[xa ao na ac,xa (some (TU fb f0)) n fc,xa (some (TU nb n0)) n nc] (uK t n k))) (λx _=>n-(intOf x).toNat)
 .grind
 obtain⟨k,hk,rfl,H1⟩:=hrel;rcases zc k n with⟨hlt,hkn⟩|⟨hlt,hkn⟩
 .have hcl:=H1.out.at (k:=k) (by rw[NJ];omega);have aI:=gh H1.out.blk k;have av:=EQ H1.out.box 1;have hfl:=(I.later H1.out.bel).fla k hlt;have J:=zi t k;have HP:=H1.out.put k (kM t k);rw[K8] at HP;cases hac:kM t k with
  |true=>
   rw[hac] at J HP;simp only[VF] at J;go_wp2
   go_roundw
   .exact⟨k+1,zo,zf,HP⟩
   simp[intOf];omega
  |false=>
   rw[hac] at J HP;simp only[UC,Wh] at J;go_wp2
   go_roundw
   .exact⟨k+1,zo,zf,HP⟩
   simp[intOf];omega
 have ak:n=k:=zo;subst ak;rw[NI I.sh.hf] at H1;go_wp2_with fail
 rename Uc=>wR0
 go_loopw [5] (λx wr=>∃k:Nat,k<=n/\x=xd xh k/\Hid (AL w wr (w.heap.size+1) #[xa ao na ac,xa (some (TU fb f0)) n fc,xa (some (TU nb n0)) n nc] (jL t k (rq t)))) (λx _=>n-(intOf x).toNat)
 .exact⟨0,Ux,rfl,H1⟩
 obtain⟨k,hk,rfl,H1⟩:=hrel;have an:(jL t k (rq t)).length=n:=(pU t _ _).1.symm.trans (by unfold rq;rw[UL];exact I.sh.hf);rcases zc k n with⟨hlt2,hkn2⟩|⟨hlt2,hkn2⟩
 .have aE:=fy (Br t k (rq t));generalize jL t k (rq t)=L0 at *;have au:=fy an;clear an;go_wp2_with fail
  rename Uc=>wR
  go_loopw [6] (λx wr=>∃i:Nat,i<=n/\x=xd xh i/\Hid (AL w wr (w.heap.size+1) #[xa ao na ac,xa (some (TU fb f0)) n fc,xa (some (TU nb n0)) n nc] ((Ru i).foldl (ky t) L0))) (λx _=>n-(intOf x).toNat)
  .exact⟨0,Ux,rfl,H1⟩
  obtain⟨i,hi,rfl,H2⟩:=hrel;rcases zc i n with⟨hil,hin⟩|⟨hil,hin⟩
  .have aF:=fy (D9 t L0 i);have ai:((Ru i).foldl (ky t) L0).length=n:=(xv t _ _).1.symm.trans au.out;generalize (Ru i).foldl (ky t) L0=L at *;have ae:=fy ai;have aC:Hid (AL w wr (w.heap.size+1) #[xa ao na ac,xa (some (TU fb f0)) n fc,xa (some (TU nb n0)) n nc] (L.set i (jq t L i 0))):=by
    show AL _ _ _ _ _;have e:L.set i (jq t L i 0)=L:=by
     rw[Eb];refine WX zp λk h1 h2=>?_
     rw[List.getElem_set];by_cases e:i=k
     .subst e;rw[Uh rfl];unfold lv;simp_all
     simp_all
    rw[e];exact H2.out
   clear ai;go_wp2_with fail
   rename Uc=>wS
   go_loopw [7] (λx wr=>∃a:Nat,a<=A/\x=xd xh a/\Hid (AL w wr (w.heap.size+1) #[xa ao na ac,xa (some (TU fb f0)) n fc,xa (some (TU nb n0)) n nc] (L.set i (jq t L i a)))) (λx _=>A-(intOf x).toNat)
   .exact⟨0,Ux,rfl,aC⟩
   obtain⟨a,ha,rfl,H3⟩:=hrel;have c02:=EQ H3.out.box 2;have hrow:=(I.later H3.out.bel).row i hil;by_cases hal:a<A
   .have han:(a:Int)<(A:Int):=zo;have hxn:=I.sh.lt hil hal;have aq:=fy (Ea I.sh L (i:=i) (a:=a) hil (by rw[ae.out];omega) hal);have ax:=H3.out.at (k:=i) (by rw[Xd,ae.out];omega);have aH:=H3.out.at (k:=kW t i a) (by rw[Xd,ae.out];omega);have aa:lv (L.set i (jq t L i a)) i=jq t L i a:=by rw[sP,Uh ⟨rfl,by rw[ae.out];omega⟩]
    rw[aa] at ax;have aj:=H3.out.put i (jq t L i (a+1));rw[List.set_set] at aj;have aI:=gh H3.out.blk i;have hnx:=(I.later H3.out.bel).nxt i a hil hal;have hxi:(kW t i a:Int)<(n:Int):=zo;generalize kW t i a=x at *;have az:jq t L i a=true/\jq t L i (a+1)=true\/jq t L i a=false/\lv (L.set i (jq t L i a)) x=true/\jq t L i (a+1)=true\/jq t L i a=false/\lv (L.set i (jq t L i a)) x=false/\jq t L i (a+1)=false:=by
     rw[aq.out];generalize lv (L.set i (jq t L i a)) x=y;cases jq t L i a<;>cases y<;>simp
    clear aa;rcases az with⟨k1,k2⟩|⟨k1,k3,k2⟩|⟨k1,k3,k2⟩
    all_goals (
     rw[k2] at aj;rw[k1] at ax
     try rw[k3] at aH
     go_wp2
     go_roundw
     case rel=>exact⟨a+1,zo,zf,by rw[k2];exact aj⟩
     case measure=>simp[intOf];omega)
   have aG:a=A:=zo;have aD:Hid (L.set i (jq t L i a)=ky t L i):=by
    show _=_;rw[aG];exact Gq I.sh L hil
   go_wp2
   go_roundw
   .exact⟨i+1,zo,zf,by rw[aF.out,<-aD.out];exact H3⟩
   simp[intOf];omega
  have aJ:i=n:=zo;subst aJ;go_wp2
  go_roundw
  .exact⟨k+1,zo,zf,by rw[aE.out];unfold l6;rw[au.out];exact H2⟩
  simp[intOf];omega
 have ak:n=k:=zo;subst ak;go_wp2;go_ret;refine⟨_,rfl,H1.out.blk,an,λi=>?_,H1.out.bel⟩;have:=Gm (t:=t) (by rw[I.sh.hf,I.sh.hn]) i;rw[I.sh.hf] at this;omega
structure Cs where
 id:Ub
 st:Nat
 ev:Nat
def jP(cs:List Cs)(id:Ub):Option Cs:=cs.find? λc=>decide (c.id=id)
theorem oA{cs:List Cs}{id:Ub}{c:Cs}(h:jP cs id=some c):c∈cs/\c.id=id:=by
 grind[jP]
theorem uB{cs:List Cs}{id:Ub}(h:jP cs id=none):∀c∈cs,c.id≠id:=by grind[jP]
theorem Ku:∀{cs:List Cs} {c:Cs},(cs.map (·.id)).Nodup->c∈cs->jP cs c.id=some c:=by intro I;induction I<;>grind[jP]
def i'(t:Tb)(s:Nat)(act:Ub):T3:=
 match iV act t.acts 0 with
 |none=>(0,3)
 |some a=>if jS t (kW t s a)<2 then (0,9) else (kW t s a,0)
def jI(cs:List Cs)(id:Ub)(s e:Nat):List Cs:=cs.map λc=>if c.id=id then ⟨c.id,s,e⟩ else c
def je(cs:List Cs)(id:Ub):List Cs:=cs.filter λc=>decide (c.id≠id)
theorem rO(cs:List Cs)(id:Ub)(s e:Nat):(jI cs id s e).map (·.id)=cs.map (·.id):=by
 unfold jI;rw[Vp];refine Vd λc _=>?_
 grind
def oB(cs:List Cs)(id:Ub)(s e:Nat):(jI cs id s e).length=cs.length:=by unfold jI;simp
theorem pY{cs:List Cs}{id:Ub}{s:Nat}{c:Cs}(h:c∈jI cs id s e):(c.id≠id/\c∈cs)\/(c=⟨id,s,e⟩/\∃x∈cs,x.id=id):=by
 grind[jI]
theorem kT{cs:List Cs}{id:Ub}{c:Cs}:c∈je cs id↔c∈cs/\c.id≠id:=by
 grind[je]
theorem wB{cs:List Cs}{id:Ub}(h:(cs.map (·.id)).Nodup):((je cs id).map (·.id)).Nodup:=by
 grind[je]
theorem An:∀{cs:List Cs} {id:Ub},(cs.map (·.id)).Nodup->(∃c∈cs,c.id=id)->(je cs id).length+1=cs.length
 |[],id,_,h=>by grind
 |x::cs,id,hd,h=>by
  rw[UZ,List.nodup_cons] at hd;unfold je;rw[List.filter_cons];by_cases e:x.id=id
  .rw[T' (by simp[e])];have:cs.filter (λc=>decide (c.id≠id))=cs:=by
    rw[List.filter_eq_self]
    grind
   rw[this,UM]
  rw[Uh (by simp[e]),UM,UM];obtain⟨c,hc,I⟩:=h;rcases List.mem_cons.1 hc with rfl|hc
  .exact(e I).elim
  have:=An hd.2 ⟨c,hc,I⟩
  grind[je]
def jo(cs:List Cs)(id:Ub):List Cs × Nat:=
 match jP cs id with
 |some _=>(cs,8)
 |none=>if 8<=cs.length then (cs,11) else (cs++[⟨id,0,0⟩],0)
def jn(t:Tb)(cs:List Cs)(id act:Ub):List Cs × Nat:=
 match jP cs id with
 |none=>(cs,8)
 |some c=>if (i' t c.st act).2=0 then (jI cs id (i' t c.st act).1 (c.ev+1),0) else (cs,(i' t c.st act).2)
def kv(t:Tb)(cs:List Cs)(id:Ub):List Cs × Nat:=
 match jP cs id with
 |none=>(cs,8)
 |some c=>if kM t c.st=true then (je cs id,0) else (cs,10)
def pj(t:Tb)(s:Nat):TZ:=t.acts.filter λx=>decide ((i' t s x).2=0)
def O8{l:TZ}(J:l.Nodup)(h:l[i]?=some x):iV x l 0=some i:=by
 cases e:iV x l 0 with
 |none=>exact absurd (UA h) (Cx e)
 |some j=>
  have I:=(mE e).2;rw[WT] at I;rw[(WW (List.getElem?_eq_some_iff.1 h).1 J).1 (h.trans I.symm)]
open Go.Maps
section
variable{σ : Type}[DecidableEq σ]
def Cy(s x:σ):∀(l:List σ)(i:Nat),iV x (l++[s]) i=match iV x l i with
  |some j=>some j
  |none=>if s=x then some (i+l.length) else none
 |[],i=>zf
 |y::l,i=>by
  rw[UE,iV,iV];by_cases h:y=x
  .simp_all
  rw[T' h,T' h,Cy s x l (i+1)];cases iV x l (i+1) with
  |some j=>rfl
  |none=>simp only[UM];rw[show i+1+l.length=i+(l.length+1) from zo]
def SM(kl:σ->Lit)(D:DataW Unit)(l:List σ):Prop:=
 IsMap D/\∀s,(∀i,iV s l 0=some i->Maps.has D (kl s)=true/\D.atKey (kl s) (.lit (.int xh 0))=.lit (.int xh i))/\(iV s l 0=none->Maps.has D (kl s)=false)
def SM.nil(I:σ->Lit):SM I (.map []) []:=⟨⟨[],rfl⟩,λs=>And.intro (λi h=>absurd h zv) (λ_=>rfl)⟩
theorem SM.put{I:σ->Lit}(U:∀s,WideAt.IsKeyLit (I s))(hi:∀s t,I s=I t->s=t){D:DataW Unit}{l:List σ}(h:SM I D l){s:σ}(hs:iV s l 0=none):SM I (D.put (I s) (.lit (.int xh (l.length:Nat)))) (l++[s]):=by
 refine⟨h.1.put _ _,λx=>?_⟩;rw[Cy];by_cases e:s=x
 .subst e;rw[hs];simp only[VF];refine⟨λi hi=>?_,λhn=>by cases hn⟩;have:=Ue hi;rw[has_put_same h.1 (U s),atKey_put_same h.1 (U s),<-this,U2];simp
 have J:=λe'=>e (hi x s e').symm
 rw[has_put_other J,atKey_put_other J]
 grind[SM]
def uU{l:List σ}{s:σ}(h:iV s l 0=some i):jx l s=(l,i):=by unfold jx;rw[h]
def uT{l:List σ}{s:σ}(h:iV s l 0=none):jx l s=(l++[s],l.length):=by unfold jx;rw[h]
theorem El(st:σ->Nat->σ)(s:σ)(a:Nat):∀(I:T5)(l:List σ),jv st s (I++[a]) l=((jx (jv st s I l).1 (st s a)).1,(jv st s I l).2++[(jx (jv st s I l).1 (st s a)).2]):=by intro J;induction J<;>grind[jv]
end
def tW(p:Nat):Lit:=.int .u32 (p:Int)
theorem EZ(s t:Nat)(h:tW s=tW t):s=t:=by grind[tW]
def wE(b:T7):Lit:=.string (gK b).data.toList
def NA(s t:T7)(h:wE s=wE t):s=t:=by
 unfold wE at h;injection h with h
 rw[oM,oM] at h;exact(V8 (λ_ _ e=>B8 e)).1 h
def Gl:Keyed prog 147:=int_keyed underlying147
def K1:Keyed prog 151:=string_keyed underlying151
def BJ{w:Uc}:(zeroValue 3).run prog w=.ok (xd xh 0) w:=zk
def Gk(h:p<4294967296):keyOf prog 147 (xd .u32 (p:Int))=some (tW p):=keyOf_int_mk underlying147 (by
 rw[Lit.wf_int_iff];have h1:IntKind.u32.min=0:=zf;have h2:IntKind.u32.max=4294967295:=zf;omega)
def QD{b:T7}(h:b.length<=1000000):keyOf prog 151 (xj (gK b))=some (wE b):=WideMaps.keyOf_string_mk underlying151 (by
 rw[lN];unfold maxLen;omega)
def pF(l:TZ):Prop:=l.Pairwise λu v=>leB u.data.toList v.data.toList=true
theorem IZ{x y z:T9}(h1:leB x y=true)(h2:leB y z=true):leB x z=true:=by
 grind
theorem Az(x y:T9):leB x y=true\/leB y x=true:=by
 grind
def K2{x:T9}:leB x x=true:=(Az x x).elim id id
theorem Fq{l:TZ}(hp:pF l)(h1:∀u∈l.drop a,leB x.data.toList u.data.toList=true)(h2:a=0\/∃u,l[a-1]?=some u/\leB u.data.toList x.data.toList=true):pF (l.take a++x::l.drop a):=by
 have I:=hp;unfold pF at I;rw[<-Vn a l,RH] at I;obtain⟨p1,p2,p3⟩:=I;have h3:∀u∈l.take a,leB u.data.toList x.data.toList=true:=λu hu=>by
  rcases h2 with rfl|⟨v,hv,hvx⟩
  .simp at hu
  obtain⟨j,hj⟩:=List.mem_iff_getElem?.1 hu;have J:j<a:=by grind
  rw[Xm J] at hj;rcases UU j (a-1) with hlt|hge
  .have U:=List.getElem?_eq_some_iff.1 hj;have ae:=List.getElem?_eq_some_iff.1 hv;have aa:=hp;have:=Xr.1 aa j (a-1) U.1 ae.1 hlt
   grind
  grind
 unfold pF;rw[RH];refine⟨p1,List.pairwise_cons.2 ⟨h1,p2⟩,λu hu v hv=>?_⟩
 grind
def CE(l:TZ)(x:Ub)(a:Nat):(l.take a++x::l.drop a).Perm (l++[x]):=by
 refine List.perm_middle.trans ?_;rw[Vn];exact(List.perm_append_comm (l₁:=[x]) (l₂:=l))
theorem N9{l m:TZ}(I:pF l)(hm:pF m)(J:l.Perm m):l=m:=by
 refine List.Perm.eq_of_pairwise (le:=λu v:Ub=>leB u.data.toList v.data.toList=true) (λa b _ _ h1 h2=>?_) I hm J
 grind[lQ]
def Nx:(prog.info? 9).map (·.size)=some 1:=zk
def CB{w:Uc}{g:Nat}{c:T1}:w.grownBy (w.setRow g c) (some g):=by
 refine⟨rfl,rfl,rfl,by simp[World.setRow],λk hk J=>?_⟩;have I:g≠k:=λe=>J (by rw[e])
 simp[World.setRow,WB,I]
theorem yW(L:TZ)(a:Nat):gU (L.drop a)=(gU L).drop a:=by unfold gU;rw[List.map_drop]
theorem CD{w:Uc}{base g cap k:Nat}{L:TZ}(h:w.ownsRow base 9 1 (xa (TT g) (k+1) cap) (k+1) (gU L++[xj ⟨#[]⟩]))(hL:L.length=k)(ha:a<=k)(aa ad q:Nat)(hq:q=a+1\/(a=k/\q=0)):
  ∃w2,(Builtin.copy_ #[25,25] 3 #[xa (some (TU g q)) (k-a) aa,xa (some (TU g a)) (k+1-a) ad]).run prog w=.ok (xd xh ((k-a:Nat):Int)) w2/\w.grownBy w2 (some g)/\(∃z,w2.cell? (TU g a)=some z)/\w2.frozen? (TU g a)=false/\g<w2.heap.size/\
   ∀x:Ub,(w2.setCell (TU g a) (xj x)).ownsRow base 9 1 (xa (TT g) (k+1) cap) (k+1) (gU (L.take a++x::L.drop a)):=by
 obtain⟨hl,⟨hv,_⟩|⟨g',cap',cur,hv,hg,U,aw,aj,au,ae⟩⟩:=h
 .cases hv
 cases hv;rw[Wo] at au ae;have hsl:(gU L).length=k:=by grind
 have J:(gU (L.drop a)).length=k-a:=by grind[yW]
 have ar:∀j,j<k->cur.toList[j]?=(gU L)[j]? :=λj hj=>by
  have e:(cur.toList.take (k+1))[j]?=(gU L)[j]? :=by grind
  grind
 have hr:=run_copy_row (P:=prog) w 25 25 3 9 g q (k-a) aa (TU g a) (k+1-a) ad cur 9 (gU (L.drop a)) underlying25 Nx U (by grind)
  (λj v hj=>by
   have av:=(List.getElem?_eq_some_iff.1 hj).1;rw[J] at av;rw[yW,List.getElem?_drop] at hj;rw[Vm,EQ U,<-UN,ar (a+j) zo];exact hj) (by rw[J];omega) (λv hv=>by
   unfold gU at hv;obtain⟨x,_,rfl⟩:=List.mem_map.1 hv;rfl)
 rw[J] at hr;have hR:cur.toList.take q++gU (L.drop a)++cur.toList.drop (q+(k-a))=cur.toList.take (a+1)++gU (L.drop a)++cur.toList.drop (a+1+(k-a)):=by
  rcases hq with rfl|⟨hak,rfl⟩
  .rfl
  have e:=VX (by rw[J];omega);rw[e,show k-a=0 from zo];simp
 rw[hR] at hr;have I:=setRow_heap w g cur (cur.toList.take (a+1)++gU (L.drop a)++cur.toList.drop (a+1+(k-a))).toArray 9 _ U;have an:(cur.toList.take (a+1)++gU (L.drop a)++cur.toList.drop (a+1+(k-a))).length=cap:=by
  grind
 refine⟨_,hr,CB,⟨_,(EQ I a).trans (by rw[List.getElem?_toArray];exact Uq (by rw[an];omega))⟩,gh I a,dK I,λx=>?_⟩;have ak:=gj I a (xj x);refine⟨?_,Rr ⟨g,cap,_,rfl,hg,ak,aw,aj,?_,?_⟩⟩
 .unfold gU;simp;omega
 .grind
 rw[Wo,Xq];have ax:cur.toList.take (a+1)=(gU L).take a++[cur.toList[a]'(by grind)]:=by
  have e:cur.toList.take a=(gU L).take a:=by
   have e1:cur.toList.take a=(cur.toList.take (k+1)).take a:=by grind
   grind
  rw[U5,Uq (by grind),e];rfl
 rw[ax,UI,UI,Wy _ _ (by rw[Vi];omega)];have h0:a-((gU L).take a).length=0:=by rw[Vi];omega
 rw[h0,RE,Ve];have e2:gU (L.take a++x::L.drop a)=(gU L).take a++xj x::gU (L.drop a):=by unfold gU;rw[U1,List.map_take];rfl
 rw[e2,<-UE,<-UI,VV (by simp[J];omega),UF (by simp[J];omega)]
def Tq(cs:List Cs)(w w':Uc)(e:Ending):Prop:=
 ∃l o k,e=xm (xa o l.length k)/\pF l/\l.Perm (cs.map (·.id))/\w'.ownsRow w.heap.size 9 1 (xa o l.length k) l.length (gU l)/\XL w w'
structure Bk where
 mr:Ub
 l:Ud
 g1:Ud
 g2:Ud
 g3:Ud
def OY(b:Bk):TW:=[xj b.mr,b.l,b.g1,b.g2,b.g3]
def sv(bs:List Bk):TW:=bs.flatMap OY
structure S4(w:Uc)(b:Bk):Prop where
 l:Q1 w b.l (xj b.mr) 9
 g1:Q1 w b.g1 (xj b.mr) 9
 g2:Q1 w b.g2 (xj b.mr) 9
 g3:Q1 w b.g3 (xj b.mr) 9
theorem Q1.keep{w:Uc}{l v:Ud}(h:Q1 w l v e)(hk:∀b,Q2 w b e->w'.heap[b]?=w.heap[b]?):Q1 w' l v e:=by
 obtain⟨o,n,c,I,J,U⟩:=h;refine⟨o,n,c,I,J,λi hi=>?_⟩;obtain⟨b,h4,h5,h6⟩:=U i hi;have e:=hk b h5;refine⟨b,h4,?_,?_⟩
 .grind[Q2]
 unfold RP at h6|-;simp_all
def S4.keep{w:Uc}{b:Bk}(h:S4 w b)(I:∀b,Q2 w b 9->w'.heap[b]?=w.heap[b]?):S4 w' b:=⟨h.l.keep I,h.g1.keep I,h.g2.keep I,h.g3.keep I⟩
def S4.later{w:Uc}{b:Bk}(h:S4 w b)(I:XL w w'):S4 w' b:=h.keep (λb ⟨_,_,hc⟩=>I.block b (dK hc))
theorem JI{w:Uc}(h:RN prog w "internal/strconv.uint64pow10" .u64 RO):4<w.heap.size:=by
 unfold RN World.var? at h
 grind[xR]
def JH{w:Uc}(h:RN prog w "internal/strconv.uint64pow10" .u64 RO)(I:XL w w'):RN prog w' "internal/strconv.uint64pow10" .u64 RO:=DF h (I.block _ (JI h))
def EE(s:Ub){n:Nat}(U:tr.length=n){w:Uc}(tc:Nat)(I:SS w)(J:So w tt tr)(hn:n<=10000000000000):
  Calls prog 16 #[xj s,xa tt n tc] w λe w'=>e=xm (.tuple #[xn (jQ s tr).1,xd xh (jQ s tr).2])/\XL w w':=by
 subst U;exact Ht s w I.g J hn
def xY(s:Ub){n:Nat}(J:tr.length=n){w:Uc}(U:Nat)(I:So w tt tr)(hn:n<=10000000000000):
  Calls prog 95 #[xj s,xa tt n U] w λe w'=>e=xm (.tuple #[xn (jQ s tr).1,xd xh (jQ s tr).2])/\XL w w':=by
 subst J;exact BN s w I hn
theorem Q1.txs{w:Uc}{g N c n:Nat}{mk:Ub}(h:Q1 w (xa (TT g) N c) (xj mk) 9)(hn:n<=N):So w (TT g) (RF n mk):=by
 exact zm87
def l9(v:Ud):Option (DataW Unit × List MemPlace):=
 match v with
 |xk (some ⟨b,0,none⟩)=>some (.lit (.int xh (b:Int)),[])
 |xk none=>some (.nil,[])
 |_=>none
def N4(b:Nat):l9 (xk (TT b))=some (.lit (.int xh (b:Int)),[]):=rfl
theorem Lx{v:Ud}{ps:List MemPlace}(h:l9 v=some (.lit (.int xh (b:Int)),ps)):v=xk (TT b):=by
 unfold l9 at h
 grind
theorem Ly{v:Ud}{ps:List MemPlace}(h:l9 v=some (.nil,ps)):v=xk none:=by
 unfold l9 at h
 grind
def lj(id:Ub):Lit:=.string id.data.toList
def vM{a b:Ub}(h:lj a=lj b):a=b:=by
 unfold lj at h;injection h with h
 cases a with|mk a=>simp_all
def uH:Keyed prog 9:=string_keyed underlying9
def Gj{id:Ub}(h:id.size<=140737488355328):keyOf prog 9 (xj id)=some (lj id):=WideMaps.keyOf_string_mk underlying9 (by
 unfold maxLen;omega)
def EY{id:Ub}:WideAt.IsKeyLit (lj id):=trivial
structure R0(S:Nat->Prop)(w w':Uc):Prop where
 os:w'.os=w.os
 tape:w'.tape=w.tape
 output:w'.output=w.output
 size:w.heap.size<=w'.heap.size
 block:∀k,k<w.heap.size->¬ S k->w'.heap[k]?=w.heap[k]?
def R0.refl(S:Nat->Prop)(w:Uc):R0 S w w:=⟨rfl,rfl,rfl,XH,λ_ _ _=>rfl⟩
def R0.below{S:Nat->Prop}{w:Uc}(h:XL w w'):R0 S w w':=⟨h.os,h.tape,h.output,h.size,λk I _=>h.block k I⟩
def R0.trans{S:Nat->Prop}{a b c:Uc}(h:R0 S a b)(I:R0 S b c):R0 S a c:=
 ⟨I.os.trans h.os,I.tape.trans h.tape,I.output.trans h.output,UP h.size I.size,λk J hs=>(I.block k (Uw J h.size) hs).trans (h.block k J hs)⟩
def R0.mono{S I:Nat->Prop}{w:Uc}(h:R0 S w w')(hs:∀k,k<w.heap.size->S k->I k):R0 I w w':=⟨h.os,h.tape,h.output,h.size,λk J hn=>h.block k J (λe=>hn (hs k J e))⟩
def R0.grown{S:Nat->Prop}{w:Uc}(h:w.grownBy w' (some b))(hb:S b):R0 S w w':=⟨h.os,h.tape,h.output,h.size,λk I hn=>h.block k I (λe=>za)⟩
def yj{S:Nat->Prop}{w:Uc}(h:R0 S w w')(I:b<w.heap.size)(hn:¬ S b):w'.cell? (TU b i)=w.cell? (TU b i):=by
 unfold RP;rw[h.block b I hn]
def SQ.frame{S:Nat->Prop}{t:Tb}{A n ab a0 fb f0 nb n0:Nat}{rb ro rc:Nat->Nat}(h:SQ W t A n ab a0 fb f0 nb n0 rb ro rc)(hf:R0 S W W')(I:¬ S ab)(J:¬ S fb)(U:¬ S nb)(hr:∀i,i<n->¬ S (rb i)):SQ W' t A n ab a0 fb f0 nb n0 rb ro rc:=
 ⟨h.hA,h.hn,h.A6,h.A1,h.n1,h.n100,h.rt,λi s hs=>(yj hf h.la I).trans (h.act i s hs),λi hi=>(yj hf h.lf J).trans (h.fla i hi),λi hi=>(yj hf h.ln U).trans (h.row i hi),
  λi a hi I=>(yj hf (h.lr i hi) (hr i hi)).trans (h.nxt i a hi I),Uw h.la hf.size,Uw h.lf hf.size,Uw h.ln hf.size,λi hi=>Uw (h.lr i hi) hf.size⟩
def lU(cs:List Cs)(mb:Nat)(pb:Ub->Nat)(k:Nat):Prop:=k=mb\/∃c∈cs,k=pb c.id
structure Si(w:Uc)(db:Nat)(t:Tb)(cs:List Cs)(A n ab a0 fb f0 nb n0 ac fc nc:Nat)(rb ro rc:Nat->Nat)(mb:Nat)(pb:Ub->Nat)(D:DataW Unit):Prop where
 blk:w.heap[db]?=some (xi #[xa (some (TU ab a0)) A ac,xa (some (TU fb f0)) n fc,xa (some (TU nb n0)) n nc,.map (some mb)] 95 (0,0))
 tb:SQ w t A n ab a0 fb f0 nb n0 rb ro rc
 mp:w.ownsMap prog 9 l9 mb cs.length D
 sz:Maps.size D=cs.length
 has:∀id,Maps.has D (lj id)=true↔ ∃c∈cs,c.id=id
 at_:∀c∈cs,∀zd,D.atKey (lj c.id) zd=.lit (.int xh (pb c.id:Int))
 cell:∀c∈cs,w.heap[pb c.id]?=some (xi #[xd xh (c.st:Int),xd xh (c.ev:Int)] 100 (0,0))
 nd:(cs.map (·.id)).Nodup
 inj:∀c∈cs,∀c'∈cs,pb c.id=pb c'.id->c.id=c'.id
 st:∀c∈cs,c.st<n
 few:cs.length<=8
 sep:∀k,lU cs mb pb k->k≠db/\k≠ab/\k≠fb/\k≠nb/\∀i,i<n->k≠rb i
theorem Gz{P:Program}{k:TypeId}{w:Uc}{n:Nat}{D:DataW Unit}(h:w.ownsMap P k R b n D):w.ownsMap P k R b (Maps.size D) D:=by
 obtain⟨I,clock,J,F,hs,rfl⟩:=h;exact⟨I,clock,J,F,by simp[Maps.size,length_sorted],rfl⟩
def yE(pb:Ub->Nat)(id:Ub)(p:Nat)(x:Ub):Nat:=if x=id then p else pb x
theorem qF(pb:Ub->Nat)(id:Ub)(p:Nat):yE pb id p id=p:=Uh rfl
def mU{pb:Ub->Nat}{id:Ub}(h:x≠id):yE pb id p x=pb x:=T' h
section
variable{w:Uc}{db:Nat}{t:Tb}{cs:List Cs}{A n ab a0 fb f0 nb n0 ac fc nc:Nat}{rb ro rc:Nat->Nat}{mb:Nat}{pb:Ub->Nat}{D:DataW Unit}
def Si.mlt(h:Si w db t cs A n ab a0 fb f0 nb n0 ac fc nc rb ro rc mb pb D):mb<w.heap.size:=h.mp.lt
def Si.blocks(h:Si w db t cs A n ab a0 fb f0 nb n0 ac fc nc rb ro rc mb pb D){k:Nat}(hs:lU cs mb pb k):k<w.heap.size:=by
 rcases hs with rfl|⟨c,hc,rfl⟩
 .exact h.mlt
 exact dK (h.cell c hc)
def Si.later(h:Si w db t cs A n ab a0 fb f0 nb n0 ac fc nc rb ro rc mb pb D)(I:XL w w'):Si w' db t cs A n ab a0 fb f0 nb n0 ac fc nc rb ro rc mb pb D:=
 ⟨(I.block _ (dK h.blk)).trans h.blk,h.tb.later I,h.mp.kept (gE I none) (λe=>by cases e),h.sz,h.has,h.at_,λc hc=>(I.block _ (dK (h.cell c hc))).trans (h.cell c hc),h.nd,h.inj,h.st,h.few,h.sep⟩
def Si.mne(h:Si w db t cs A n ab a0 fb f0 nb n0 ac fc nc rb ro rc mb pb D){c:Cs}(hc:c∈cs):mb≠pb c.id:=λe=>by
 obtain⟨es,cl,h1,_⟩:=h.mp;have h2:=h.cell c hc;simp_all
theorem Si.put(h:Si w db t cs A n ab a0 fb f0 nb n0 ac fc nc rb ro rc mb pb D){c:Cs}(hc:c∈cs)(s e:Nat)(hs:s<n):
  Si ((w.setCell (TU (pb c.id) 0) (xd xh (s:Int))).setCell (TU (pb c.id) 1) (xd xh (e:Int))) db t (jI cs c.id s e) A n ab a0 fb f0 nb n0 ac fc nc rb ro rc mb pb D/\
   R0 (lU cs mb pb) w ((w.setCell (TU (pb c.id) 0) (xd xh (s:Int))).setCell (TU (pb c.id) 1) (xd xh (e:Int))):=by
 have hg:w.grownBy ((w.setCell (TU (pb c.id) 0) (xd xh (s:Int))).setCell (TU (pb c.id) 1) (xd xh (e:Int))) (some (pb c.id)):=(gp _ _ _ _).trans (gp _ _ _ _);have hb2:((w.setCell (TU (pb c.id) 0) (xd xh (s:Int))).setCell (TU (pb c.id) 1) (xd xh (e:Int))).heap[pb c.id]?=some (xi #[xd xh (s:Int),xd xh (e:Int)] 100 (0,0)):=gj (gj (h.cell c hc) 0 _) 1 _;generalize (w.setCell (TU (pb c.id) 0) (xd xh (s:Int))).setCell (TU (pb c.id) 1) (xd xh (e:Int))=w' at *;have U:lU cs mb pb (pb c.id):=Rr ⟨c,hc,rfl⟩;obtain⟨p1,p2,p3,p4,p5⟩:=h.sep _ U;have hf:R0 (λk=>k=pb c.id) w w':=R0.grown hg rfl;have hS:∀k,lU (jI cs c.id s e) mb pb k->lU cs mb pb k:=λk hk=>by
  grind[jI,lU]
 refine⟨⟨(hf.block db (dK h.blk) (λe=>p1 e.symm)).trans h.blk,h.tb.frame hf (λe=>p2 e.symm) (λe=>p3 e.symm) (λe=>p4 e.symm) (λi hi e=>p5 i hi e.symm),?_,?_,λid=>?_,λx J zd=>?_,λx J=>?_,?_,λx J y hy e=>?_,λx J=>?_,?_,λk hk=>h.sep k (hS k hk)⟩,?_⟩
 .rw[oB];exact h.mp.kept hg (λe=>h.mne hc (Ue e))
 .rw[oB];exact h.sz
 .rw[h.has];constructor
  .rintro⟨x,J,rfl⟩;have:x.id∈(jI cs c.id s e).map (·.id):=by grind[rO]
   simp_all
  grind[jI]
 .rcases pY J with⟨_,I⟩|⟨rfl,_⟩
  .exact h.at_ x I zd
  exact h.at_ c hc zd
 .rcases pY J with⟨hne,I⟩|⟨rfl,_⟩
  .exact(hf.block _ (dK (h.cell x I)) (λe=>hne (h.inj x I c hc e))).trans (h.cell x I)
  omega
 .rw[rO];exact h.nd
 .have I:∃x'∈cs,x'.id=x.id:=by
   grind[jI]
  have aa:∃y'∈cs,y'.id=y.id:=by
   grind[jI]
  obtain⟨x',h1,h2⟩:=I;obtain⟨y',h3,h4⟩:=aa;rw[<-h2,<-h4] at e|-;exact h.inj x' h1 y' h3 e
 .rcases pY J with⟨_,I⟩|⟨rfl,_⟩
  .exact h.st x I
  omega
 .rw[oB];exact h.few
 exact hf.mono (λk _ e=>by rw[e];exact U)
theorem Si.del(h:Si w db t cs A n ab a0 fb f0 nb n0 ac fc nc rb ro rc mb pb D){c:Cs}(hc:c∈cs)(hm:w'.ownsMap prog 9 l9 mb cs.length (D.del (lj c.id)))(ht:w.mapTurned w' mb):
  Si w' db t (je cs c.id) A n ab a0 fb f0 nb n0 ac fc nc rb ro rc mb pb (D.del (lj c.id))/\R0 (lU cs mb pb) w w':=by
 have hg:=ht.grown;have J:lU cs mb pb mb:=RA rfl;obtain⟨p1,p2,p3,p4,p5⟩:=h.sep _ J;have hf:R0 (λk=>k=mb) w w':=R0.grown hg rfl;have hS:∀k,lU (je cs c.id) mb pb k->lU cs mb pb k:=λk hk=>by
  grind[je,lU]
 have hlen:=An h.nd ⟨c,hc,rfl⟩;have aa:Maps.size (D.del (lj c.id))=(je cs c.id).length:=by
  have h1:=size_del (k:=lj c.id) (h.mp.tidy uH);rw[(h.has c.id).2 ⟨c,hc,rfl⟩,Uh rfl,h.sz] at h1;omega
 refine⟨⟨(hf.block db (dK h.blk) (λe=>p1 e.symm)).trans h.blk,h.tb.frame hf (λe=>p2 e.symm) (λe=>p3 e.symm) (λe=>p4 e.symm) (λi hi e=>p5 i hi e.symm),?_,aa,λid=>?_,λx I zd=>?_,λx I=>?_,wB h.nd,λx I y hy e=>h.inj x (kT.1 I).1 y (kT.1 hy).1 e,λx I=>h.st x (kT.1 I).1,?_,λk hk=>h.sep k (hS k hk)⟩,hf.mono (λk _ e=>by rw[e];exact J)⟩
 .grind[Gz]
 .by_cases e:id=c.id
  .subst e;rw[has_del_same]
   grind[kT]
  rw[has_del_other (λU=>e (vM U)),h.has]
  grind[kT]
 .obtain⟨h1,h2⟩:=kT.1 I;rw[atKey_del_other (λU=>h2 (vM U))];exact h.at_ x h1 zd
 .obtain⟨h1,h2⟩:=kT.1 I;exact zm170
 have:=h.few;omega
theorem Si.new(h:Si w db t cs A n ab a0 fb f0 nb n0 ac fc nc rb ro rc mb pb D){id:Ub}(hn:∀c∈cs,c.id≠id)(h8:cs.length<8)(hp:w.heap[p]?=some (xi #[xd xh 0,xd xh 0] 100 (0,0)))
  (ad:¬ lU cs mb pb p)(hps:p≠db/\p≠ab/\p≠fb/\p≠nb/\∀i,i<n->p≠rb i)(hm:w'.ownsMap prog 9 l9 mb (cs.length+1) (D.put (lj id) (.lit (.int xh (p:Int)))))(ht:w.mapTurned w' mb):
  Si w' db t (cs++[⟨id,0,0⟩]) A n ab a0 fb f0 nb n0 ac fc nc rb ro rc mb (yE pb id p) (D.put (lj id) (.lit (.int xh (p:Int))))/\R0 (lU cs mb pb) w w':=by
 have hg:=ht.grown;have aa:lU cs mb pb mb:=RA rfl;obtain⟨p1,p2,p3,p4,p5⟩:=h.sep _ aa;have hf:R0 (λk=>k=mb) w w':=R0.grown hg rfl;have I:∀{x:Cs},x∈cs++[⟨id,0,0⟩]->(x∈cs/\x.id≠id)\/x=⟨id,0,0⟩:=λ{x} J=>by
  grind
 have ag:=λe=>ad (RA e)
 refine⟨⟨(hf.block db (dK h.blk) (λe=>p1 e.symm)).trans h.blk,h.tb.frame hf (λe=>p2 e.symm) (λe=>p3 e.symm) (λe=>p4 e.symm) (λi hi e=>p5 i hi e.symm),?_,?_,λx=>?_,λx J zd=>?_,λx J=>?_,?_,λx J y hy e=>?_,λx J=>?_,?_,λk hk=>?_⟩,hf.mono (λk _ e=>by rw[e];exact aa)⟩
 .grind
 .have h1:=size_put (k:=lj id) (h.mp.tidy uH) (.lit (.int xh (p:Int)));have U:Maps.has D (lj id)=false:=by
   cases e:Maps.has D (lj id) with
   |false=>rfl
   |true=>obtain⟨c,hc,e'⟩:=(h.has id).1 e;simp_all
  rw[U,T' zp,h.sz] at h1;simp_all
 .by_cases e:x=id
  .subst e;rw[has_put_same h.mp.isMap (EY)];simp
  rw[has_put_other (λe'=>e (vM e')),h.has]
  grind
 .rcases I J with⟨h1,U⟩|rfl
  .rw[atKey_put_other (λe'=>U (vM e')),mU U];exact h.at_ x h1 zd
  rw[atKey_put_same h.mp.isMap (EY),qF]
 .rcases I J with⟨h1,U⟩|rfl
  .rw[mU U];exact zm170
  rw[qF];exact(hf.block _ (dK hp) ag).trans hp
 .rw[U1,WU];refine⟨h.nd,zp,λx J y hy e=>?_⟩
  grind
 .rcases I J with⟨h1,U⟩|rfl
  .rcases I hy with⟨h3,h4⟩|rfl
   .rw[mU U,mU h4] at e;exact h.inj x h1 y h3 e
   grind[lU,yE]
  grind[lU,yE]
 .rcases I J with⟨h1,_⟩|rfl
  .exact h.st x h1
  have:=h.tb.n1;trivial
 .grind
 rcases hk with rfl|⟨x,J,rfl⟩
 .trivial
 rcases I J with⟨h1,U⟩|rfl
 .rw[mU U];exact h.sep _ (Rr ⟨x,h1,rfl⟩)
 rw[qF];omega
end
structure Th where
 S:Nat->Prop
 P:Uc->Prop
variable{xs ys old:List Th}
structure R1(w:Uc)(x:Th):Prop where
 p:x.P w
 lt:∀k,x.S k->k<w.heap.size
 keep:∀w':Uc,w.heap.size<=w'.heap.size->(∀k,x.S k->w'.heap[k]?=w.heap[k]?)->x.P w'
def R1.same{w:Uc}{x:Th}(h:R1 w x)(hs:w.heap.size<=w'.heap.size)(U:∀k,x.S k->w'.heap[k]?=w.heap[k]?):R1 w' x:=
 ⟨h.keep w' hs U,λk I=>Uw (h.lt k I) hs,λJ h1 h2=>h.keep J (UP hs h1) (λk I=>(h2 k I).trans (U k I))⟩
structure RK(B:Nat)(w:Uc)(xs:List Th):Prop where
 ok:∀x∈xs,R1 w x
 ap:xs.Pairwise λx y=>∀k,x.S k->¬ y.S k
 lo:∀x∈xs,∀k,x.S k->B<=k
def RK.perm{w:Uc}(h:RK B w xs)(I:xs.Perm ys):RK B w ys:=
 ⟨λx J=>h.ok x (I.mem_iff.2 J),(I.pairwise_iff (λh k U h2=>h k h2 U)).1 h.ap,λx J=>h.lo x (I.mem_iff.2 J)⟩
def RK.later{w:Uc}(h:RK B w xs)(I:XL w w'):RK B w' xs:=
 ⟨λx J=>(h.ok x J).same I.size (λk U=>I.block k ((h.ok x J).lt k U)),h.ap,h.lo⟩
theorem RK.turn{w:Uc}{new rest:List Th}(h:RK B w (old++rest))(hf:R0 (λk=>∃x∈old,x.S k) w w')(hn:∀x∈new,R1 w' x)(ha:new.Pairwise λx y=>∀k,x.S k->¬ y.S k)
  (hs:∀x∈new,∀k,x.S k->(∃y∈old,y.S k)\/w.heap.size<=k)(hB:B<=w.heap.size):RK B w' (new++rest):=by
 have hp:=List.pairwise_append.1 h.ap;refine⟨λx I=>?_,List.pairwise_append.2 ⟨ha,hp.2.1,λx I y U k h1 h2=>?_⟩,λx I k J=>?_⟩
 .rcases List.mem_append.1 I with I|I
  .exact hn x I
  have ho:=h.ok x (Wm I);exact ho.same hf.size (λk J=>hf.block k (ho.lt k J) (λ⟨y,U,aa⟩=>hp.2.2 y U x I k aa J))
 .rcases hs x I k h1 with⟨z,hz,hzk⟩|hge
  .grind
  have:=(h.ok y (Wm U)).lt k h2;omega
 rcases List.mem_append.1 I with I|I
 .rcases hs x I k J with⟨z,hz,hzk⟩|hge
  .exact h.lo z (Wv hz) k hzk
  omega
 exact h.lo x (Wm I) k J
theorem RK.turn1{w:Uc}{x I:Th}{rest:List Th}(h:RK B w (x::rest))(hf:R0 x.S w w')(hn:R1 w' I)(hs:∀k,I.S k->x.S k\/w.heap.size<=k)(hB:B<=w.heap.size):RK B w' (I::rest):=
 RK.turn (old:=[x]) (new:=[I]) h ⟨hf.os,hf.tape,hf.output,hf.size,λk J hn=>hf.block k J (λe=>hn ⟨x,List.mem_singleton.2 rfl,e⟩)⟩ (λy U=>by grind) (VK)
  (λy U k J=>za) hB
def RK.add{w:Uc}{new rest:List Th}(h:RK B w rest)(I:XL w w')(hn:∀x∈new,R1 w' x)(U:new.Pairwise λx y=>∀k,x.S k->¬ y.S k)(hs:∀x∈new,∀k,x.S k->w.heap.size<=k)(hB:B<=w.heap.size):RK B w' (new++rest):=
 RK.turn (old:=[]) h ⟨I.os,I.tape,I.output,I.size,λk J _=>I.block k J⟩ hn U (λx hx k J=>Rr (hs x hx k J)) hB
def RK.bel{w:Uc}{rest:List Th}(h:RK B w (old++rest))(hf:R0 (λk=>∃x∈old,x.S k) w w')(hB:B<=w.heap.size):Below B w w':=
 ⟨hf.os,hf.tape,hf.output,hf.size,λk J=>hf.block k (Uw J hB) (λ⟨x,U,I⟩=>by have:=h.lo x (Wv U) k I;omega)⟩
def nz{w:Uc}(h:w'.heap[b]?=w.heap[b]?):w'.cell? (TU b i)=w.cell? (TU b i):=by
 unfold RP;rw[h]
def jZ{w:Uc}{base z n:Nat}{v:Ud}{xs:TW}(h:w.ownsRow base e z v n xs)(hk:∀k,v.ownBlock=some k->w'.heap[k]?=w.heap[k]?):w'.ownsRow base e z v n xs:=by
 obtain⟨hl,⟨U,h0⟩|⟨g,cap,cur,U,hg,J,I⟩⟩:=h
 .exact⟨hl,RA ⟨U,h0⟩⟩
 exact⟨hl,Rr ⟨g,cap,cur,U,hg,(hk g (by rw[U];rfl)).trans J,I⟩⟩
def IK{t:Tb}(h:Fn t)(s:Nat):jS t s<=3:=by
 unfold jS;cases e:t.fl[s]? with
 |none=>simp
 |some f=>exact h.fs f (UA e)
def M5(h:f<=3):bits BinOp.and xh (f:Int) 2=if 2<=f then 2 else 0:=by
 match f,h with
 |0,_=>decide
 |1,_=>decide
 |2,_=>decide
 |3,_=>decide
def Tx(h:f<=3):bits BinOp.and xh (f:Int) 1=if f%2=1 then 1 else 0:=by
 match f,h with
 |0,_=>decide
 |1,_=>decide
 |2,_=>decide
 |3,_=>decide
def ON(t:Tb)(s:Nat):kM t s=decide (jS t s%2=1):=by
 unfold kM jS;rfl
section
variable (w : Uc)(t : Tb)(A n ab a0 fb f0 nb n0 ac fc nc : Nat)(rb ro rc : Nat -> Nat)
def Ay(I:SQ w t A n ab a0 fb f0 nb n0 rb ro rc)(s:Nat)(hs:s<n):
  Calls prog 48 #[.agg #[xa (some (TU ab a0)) A ac,xa (some (TU fb f0)) n fc,xa (some (TU nb n0)) n nc],xd xh (s:Int),xd xh 2] w λe w'=>e=xm (xn (decide (2<=jS t s)))/\XL w w':=by
 have hfa:=I.fla s hs;have hlf:=I.lf;have J:=M5 (IK I.rt s);have hin:(s:Int)<(n:Int):=zo;clear I;generalize jS t s=f at *;go_in;by_cases h2:2<=f
 .rw[Uh h2] at J;go_wp2_with fail;refine py (v:=xn true) (by simp[results,results48,go_sem]) rfl ?_;exact⟨by rw[UH h2],gC⟩
 rw[T' h2] at J;go_wp2_with fail;refine py (v:=xn false) (by simp[results,results48,go_sem]) rfl ?_;exact⟨by rw[Uy h2],gC⟩
def EW(I:SQ w t A n ab a0 fb f0 nb n0 rb ro rc)(s:Nat)(hs:s<n):
  Calls prog 48 #[.agg #[xa (some (TU ab a0)) A ac,xa (some (TU fb f0)) n fc,xa (some (TU nb n0)) n nc],xd xh (s:Int),xd xh 1] w λe w'=>e=xm (xn (kM t s))/\XL w w':=by
 have hfa:=I.fla s hs;have hlf:=I.lf;have J:=Tx (IK I.rt s);have hin:(s:Int)<(n:Int):=zo;rw[ON];clear I;generalize jS t s=f at *;go_in;by_cases h2:f%2=1
 .rw[Uh h2] at J;rw[UH h2];clear h2;go_wp2_with fail;refine py (v:=xn true) (by simp[results,results48,go_sem]) rfl ?_;exact⟨rfl,gC⟩
 rw[T' h2] at J;rw[Uy h2];clear h2;go_wp2_with fail;refine py (v:=xn false) (by simp[results,results48,go_sem]) rfl ?_;exact⟨rfl,gC⟩
end
def EX:∀(l:TZ)(i:Nat),Lib.idxFromS l x i=match iV x l i with|some a=>(a:Int)|none=>-1
 |[],i=>rfl
 |y::l,i=>by
  rw[Lib.idxFromS,iV];by_cases e:y=x
  .rw[Uh e,Uh e]
  rw[T' e,T' e];exact EX l (i+1)
def QR(t:Tb)(s:Nat)(act:Ub)(e:Ending):Prop:=
 (iV act t.acts 0=none/\e=xm (.tuple #[xd xh 0,xn false]))\/∃a,iV act t.acts 0=some a/\e=xm (.tuple #[xd xh (kW t s a:Int),xn true])
section
variable (w : Uc)(t : Tb)(A n ab a0 fb f0 nb n0 ac fc nc : Nat)(rb ro rc : Nat -> Nat)
def Le(J:SQ w t A n ab a0 fb f0 nb n0 rb ro rc)(s:Nat)(hs:s<n)(act:Ub):
  Calls prog 91 #[.agg #[xa (some (TU ab a0)) A ac,xa (some (TU fb f0)) n fc,xa (some (TU nb n0)) n nc],xd xh (s:Int),xj act] w λe w'=>QR t s act e/\XL w w':=by
 have hA6:=J.A6;have aa:=ir w (xi #[xa (some (TU ab a0)) A ac,xa (some (TU fb f0)) n fc,xa (some (TU nb n0)) n nc] 92);have I:Hid (Calls prog 123 #[xa (some (TU ab a0)) A ac,xj act] (w.alloc (xi #[xa (some (TU ab a0)) A ac,xa (some (TU fb f0)) n fc,xa (some (TU nb n0)) n nc] 92)) λe w'=>e=xm (xd xh (Lib.idxOfS (t.acts.take A) act))/\w'=(w.alloc (xi #[xa (some (TU ab a0)) A ac,xa (some (TU fb f0)) n fc,xa (some (TU nb n0)) n nc] 92))):=
  Any.slices_Index_string (P:=prog) {Tryz.lays110 with} ab a0 A ac t.acts act _ (by rw[J.hA];exact XH) zo (λj hj=>by
   have:=(J.later aa).act j t.acts[j] (Uq hj);rw[this,List.getD_eq_getElem?_getD,Uq hj];rfl)
 have ad:t.acts.take A=t.acts:=UF (by rw[J.hA];exact XH);rw[ad] at I;have U:Lib.idxOfS t.acts act=match iV act t.acts 0 with|some a=>(a:Int)|none=>-1:=EX t.acts 0
 rw[U] at I;have hsn:(s:Int)<(n:Int):=zo;have hrow:=J.row s hs;have hln:=J.ln;clear ad U aa;go_in;cases hf:iV act t.acts 0 with
 |none=>
  rw[hf] at I;have HF:=fy hf;clear hf;go_wp2_with fail;refine I.out.mono ?_;rintro e w' ⟨rfl,hw⟩;subst hw;clear I;go_wp2_with fail;refine py (v:=.tuple #[xd xh 0,xn false]) (by simp[results,results91,go_sem]) rfl ?_;exact⟨RA ⟨HF.out,rfl⟩,gC⟩
 |some a=>
  rw[hf] at I;have HF:=fy hf;have ag:a<A:=by
   have h1:=(List.getElem?_eq_some_iff.1 (mE hf).2).1;rw[WT,J.hA] at h1;exact h1
  have hai:(a:Int)<(A:Int):=zo;have hneg:¬ (a:Int)<0:=zo;have ai:=J.nxt s a hs ag;have hlr:=J.lr s hs;clear hf;obtain⟨y,hy⟩:∃y,y=kW t s a:=⟨_,rfl⟩;rw[<-hy] at ai;have HY:=fy hy;clear hy;go_wp2_with fail;refine I.out.mono ?_;rintro e w' ⟨rfl,hw⟩;subst hw;clear I;go_wp2_with fail;refine py (v:=.tuple #[xd xh (y:Int),xn true]) (by simp[results,results91,go_sem]) rfl ?_;exact⟨Rr ⟨a,HF.out,by rw[HY.out]⟩,gC⟩
end
def Lv:EH:=by
 intro s w hG;have ad:=fy (λW hW=>xK s W hW);have U:Hid (l8 s=match iz s with| .error x=>(⟨#[]⟩,x.1,x.2)| .ok (al,rs)=>(qw al rs,0,0)):=rfl;go_in
 go_wp2_with (refine(ad.out _ hG.g).mono ?_)
 rintro e w1 ⟨I,hx⟩;cases hm:iz s with
 |error x=>
  rw[hm] at hx;have aB:=hx;subst aB;clear hx;have hp:l8 s=(⟨#[]⟩,x.1,x.2):=by rw[U.out,hm]
  have HP:=fy hp;have az:=my hm;have hne':¬ ((x.2:Nat):Int)=0:=zo;clear hp hm U ad az;go_wp2;go_quiet (fail);go_wp2_with fail;refine py (v:=.tuple #[xj ⟨#[]⟩,xd xh x.1,xd xh x.2]) (by simp[results,results15,go_sem]) rfl ?_;rw[HP.out];have hb:=((I.alloc I.size (xi #[TV,TV] 78)).alloc (by have:=I.size;simp;omega) (xi #[xd xh x.1,xd xh x.2] 80));exact⟨rfl,hb.trans ((iK _ _).mono hb.size)⟩
 |ok m=>
  obtain⟨al,rs⟩:=m;rw[hm] at hx;obtain⟨a1,a2,a3,m1,m2,m3,cs,rfl,ha,hr,hp⟩:=hx;have HP:Hid (l8 s=(qw al rs,0,0)):=by show _=_;rw[U.out,hm]
  have hg:=lK hm;have J:XL w1 ((w1.alloc (xi #[xa a1 a2 a3,xa m1 m2 m3] 78)).alloc (xi #[xd xh 0,xd xh 0] 80)):=gC.alloc zp _;have HA:=gq ha J;have HR:=gq hr J;have an:=hp.keep (KB.below J);have HB:=I.trans (J.mono I.size);have ar:=hG.later HB;have aq:Hid (∀r∈rs,RlGood qS 401 r/\(r.call=true->r.word.s.toList≠[])/\(sg r).size<=200000):=λr aa=>
   ⟨hg.rules r aa,λhc=>F5 (Ip (λt h=>h.1) (hg.rules r aa) hc ((mD (List.append_eq_nil_iff.1 hg.nof).2 r aa).2 hc)),LG (hg.rules r aa)⟩
  have au:=fy (KY (al:=al) (λt ht=>(hg.acts t ht).1.2) hg.alen);have ax:=fy (NN hg.ne hg.rules);have av:=fy hg.ne;have ay:=hg.alen;have aA:=hg.rlen;clear hm ha hr hp hg J I U ad;go_wp2_with fail;refine(I9 qS HA av.out ay au.out HR an aA aq.out ar).mono ?_;rintro e w2 ⟨rfl,ae⟩;rw[ax.out];have ak:=HB.trans (ae.mono HB.size);clear ae;go_wp2_with fail;refine py (v:=.tuple #[xj (qw al rs),xd xh 0,xd xh 0]) (by simp[results,results15,go_sem]) rfl ?_;rw[HP.out];exact⟨rfl,ak⟩
def Bq(w:Uc):Calls prog 94 #[TV] w λe w'=>e=xm TV/\w'=w:=by
 have he:=λW:Uc=>Co W
 go_in;go_wp2;go_ret;simp
def z6(w:Uc):Calls prog 96 #[xk (TT lb),o,TV] w λe w'=>e=xm (xn true)/\w'=w:=by
 have he:=λW:Uc=>Co W
 go_in;go_wp2;go_ret;simp
def So.nil(w:Uc):So w none []:=λj x h=>zv
end Go.Proofs.YtidakhhekofkoaaGreatDoor
