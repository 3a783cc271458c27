import Derived.Test.YtidakhhekofkoaaGreatDoorT05
set_option linter.all false
set_option maxRecDepth 100000
set_option maxHeartbeats 4000000
namespace Go.Proofs.YtidakhhekofkoaaGreatDoor
attribute [local go_sem] TT TU TV XL
attribute [local simp] TT TU TV XL
open Go.Proofs.Tryz
open Go.RowKit Go.Deep
open Value renaming slice->xa,int->xd,string->xj,pointer->xk,bool->xn
open IntKind renaming i64->xh
open Obj renaming cells->xi
open Ending renaming returned->xm
open List renaming range->Rb
open Or renaming inr->Ri
variable{zq:Prop}
variable{w w' w2 w3:Uc}{nb B n n1 k1 n2 k2 tc p:Nat}{L:List Nd}{x5 x6 x7 x8 x:Fin 5->TW}{α:Type}{o1 o2 tt:TX}{al:TY}{rs:T6}{f:Fm}{Q:Tk->Prop}{ns:T8}{R:List (Nat->Bool)}{d:Nd}{a b:Ub}{kinds:T9}{t:Tk}{tr:TZ}
def zm1(h:zq:=by
 apply zr 10;intro K hK;refine UB _ zf _ _ 51 zf B 5 i0 (xd .u8 0) 1 1 underlying51 hi hz0 hz1 hz2 rfl zd (v 0) (jh L2 T 0).length (jh L2 T 0) zf ?c0 (TU wr.heap.size 0) 1 1 [xd .u8 (iI a.1)] zf rfl ?c1 ?c2 zd ?c3 ?c4 ?c5 (wr.heap.size+1) zp ?_
 case c0=>exact(gq (hv.own 0) (((XF).drew).alloc (XH) _))
 case c1=>
  intro j u hj
  match j,hj with
  |0,hj=>simp at hj;subst hj;simp[Addr.add]
  |j+1,hj=>simp at hj
 case c2=>intro u hu;simp at hu;subst hu;rfl
 case c3=>rw[hX0];unfold maxLen;omega
 case c4=>rw[hX0];omega
 case c5=>simp;omega
 intro g4 cap4 w4 hown4 hgrow4 hat4 hlt4;have hn4:=(hgrow4.block nb zs (λe=>gz (hv.own 0) e.symm hv.blk zd)).trans ((XD hnl).trans hv.blk);clear nbc nbf;have nbc:=EQ hn4;have nbf:=gh hn4;clear hn4;refine hK _ _ ?_;clear hK K;apply zt0 11 (xk (TT nb));apply zt0 12 (xk (TT nb));apply zS 13;refine Vg zk ?_ _;obtain⟨v5,x5,hv5,hf5,ex5,ev5,ew5⟩:=(hv.later (((XF).drew).alloc (XH) (xi #[xd .u8 (iI a.1)] 5))).step 0 0 rfl (xd .u8 (iI a.1)) hX0.symm (by rw[hX0] at hown4;exact hown4) hgrow4 za;have HX5:=fy ex5;have HE5:=fy ev5;have HF5:=HFW.trans ((NF.below (((Uo wr.heap.size wr).drew).alloc (XH) (xi #[xd .u8 (iI a.1)] 5)) hBw).trans hf5);have HM51:Hid ((x5 1).length=L2.length):=by show _=_;rw[HX5.out,mQ _ _ zp];simp[jh]
 have HM52:Hid ((x5 2).length=L2.length):=by show _=_;rw[HX5.out,mQ _ _ zp];simp[jh]
 have HM53:Hid ((x5 3).length=L2.length):=by show _=_;rw[HX5.out,mQ _ _ zp];simp[jh]
 have HL5:=HM51;clear nbc nbf hf5 ex5 ev5 ew5 hown4 hgrow4 hat4 hlt4;generalize w4.setCell (TU nb 0) (xa (TT g4) (L2.length+1) cap4)=w5 at *;have nbc:=EQ hv5.blk;have nbf:=gh hv5.blk;have hnl:=dK hv5.blk;have hBw:=hv5.low
 go_wp2_with (at_builtin;go_must (refine wpList_append_lies _ rfl _ _ 33 rfl B 3 j0 (xd xh 0) 1 8 underlying33 ji jz0 jz1 jz2 rfl zd _ L2.length (x5 1) rfl ?c0 (TU w5.heap.size 0) 1 1 [xd xh (gP al l L).2] rfl rfl ?c1 ?c2 zd ?c3 ?c4 ?c5 (w5.heap.size+1) ?c6 ?_))
 case c0=>have:=gq (hv5.own 1) ((XF).alloc (XH) (xi #[xd xh (gP al l L).2] 3));rw[HL5.out] at this;exact this
 case c1=>
  intro j u hj
  match j,hj with
  |0,hj=>simp at hj;subst hj;exact EQ (gu (by simp[World.setCell])) 0
  |j+1,hj=>trivial
 case c2=>intro u hu;simp at hu;subst hu;rfl
 case c3=>unfold maxLen;omega
 case c4=>omega
 case c5=>simp;omega
 case c6=>simp
 intro g6 cap6 q6 hown hgrow hat _;have hnq:=(hgrow.block nb zs (λe=>gz (hv5.own 1) e.symm hv5.blk zd)).trans ((XD (dK hv5.blk)).trans hv5.blk);obtain⟨v6,x6,hv6,hf6,ex6,ev6,ew6⟩:=(hv5.later ((XF).alloc (XH) (xi #[xd xh (gP al l L).2] 3))).step 1 1 rfl (xd xh (gP al l L).2) HL5.out.symm hown hgrow za;clear nbc nbf;have nbc:=EQ hnq;have nbf:=gh hnq;clear hnq;have HX6:=fy ex6;have HW6:=fy ew6;have HF6:=HF5.trans ((NF.below ((XF).alloc (XH) (xi #[xd xh (gP al l L).2] 3)) hv5.low).trans hf6);have HL6:Hid ((x6 2).length=L2.length):=by show _=_;rw[HX6.out,mQ _ _ zp];trivial
 have HM63:Hid ((x6 3).length=L2.length):=by show _=_;rw[HX6.out,mQ _ _ zp];trivial
 have hnl6:nb<q6.heap.size:=by have:=dK hv6.blk;simp_all
 have hBw6:B<=q6.heap.size:=by have:=hv6.low;simp_all
 clear hown hgrow hat hf6 ex6 ev6 ew6
 go_wp2_with (at_builtin;go_must (refine wpList_append_lies _ rfl _ _ 33 rfl B 3 j0 (xd xh 0) 1 8 underlying33 ji jz0 jz1 jz2 rfl zd _ L2.length (x6 2) rfl ?c0 (TU q6.heap.size 0) 1 1 [xd xh (gP al r (gP al l L).1).2] rfl rfl ?c1 ?c2 zd ?c3 ?c4 ?c5 (q6.heap.size+1) ?c6 ?_))
 case c0=>have:=gq (hv6.own 2) ((XF).alloc (XH) (xi #[xd xh (gP al r (gP al l L).1).2] 3));rw[HL6.out,HW6.out 2 zp] at this;exact this
 case c1=>
  intro j u hj
  match j,hj with
  |0,hj=>simp at hj;subst hj;exact EQ (gu (by simp[World.setCell])) 0
  |j+1,hj=>trivial
 case c2=>intro u hu;simp at hu;subst hu;rfl
 case c3=>unfold maxLen;omega
 case c4=>omega
 case c5=>simp;omega
 case c6=>simp
 intro g7 cap7 q7 hown hgrow hat _;replace hgrow:=zE (HW6.out 2 zp) hgrow;replace hat:(v6 2).ownBlock=some g7\/g7=q6.heap.size+1:=by grind[gQ]
 have hnq:=(hgrow.block nb zs (λe=>gz (hv6.own 2) e.symm hv6.blk zd)).trans ((XD (dK hv6.blk)).trans hv6.blk);obtain⟨v7,x7,hv7,hf7,ex7,ev7,ew7⟩:=(hv6.later ((XF).alloc (XH) (xi #[xd xh (gP al r (gP al l L).1).2] 3))).step 2 2 rfl (xd xh (gP al r (gP al l L).1).2) HL6.out.symm hown hgrow za;clear nbc nbf;have nbc:=EQ hnq;have nbf:=gh hnq;clear hnq;have HX7:=fy ex7;have HW7:=fy ew7;have HF7:=HF6.trans ((NF.below ((XF).alloc (XH) (xi #[xd xh (gP al r (gP al l L).1).2] 3)) hv6.low).trans hf7);have HL7:Hid ((x7 3).length=L2.length):=by show _=_;rw[HX7.out,mQ _ _ zp];trivial
 have hnl7:nb<q7.heap.size:=by have:=dK hv7.blk;simp_all
 have hBw7:B<=q7.heap.size:=by have:=hv7.low;simp_all
 clear hown hgrow hat hf7 ex7 ev7 ew7
 go_wp2_with (at_builtin;go_must (refine wpList_append_lies _ rfl _ _ 33 rfl B 3 j0 (xd xh 0) 1 8 underlying33 ji jz0 jz1 jz2 rfl zd _ L2.length (x7 3) rfl ?c0 (TU q7.heap.size 0) 1 1 [xd xh x] rfl rfl ?c1 ?c2 zd ?c3 ?c4 ?c5 (q7.heap.size+1) ?c6 ?_))
 case c0=>have:=gq (hv7.own 3) ((XF).alloc (XH) (xi #[xd xh x] 3));rw[HL7.out,HW7.out 3 zp] at this;exact this
 case c1=>
  intro j u hj
  match j,hj with
  |0,hj=>simp at hj;subst hj;exact EQ (gu (by simp[World.setCell])) 0
  |j+1,hj=>trivial
 case c2=>intro u hu;simp at hu;subst hu;rfl
 case c3=>unfold maxLen;omega
 case c4=>omega
 case c5=>simp;omega
 case c6=>simp
 intro g8 cap8 q8 hown hgrow hat _;replace hgrow:=zE (HW7.out 3 zp) hgrow;replace hat:(v7 3).ownBlock=some g8\/g8=q7.heap.size+1:=by grind[gQ]
 have hnq:=(hgrow.block nb zs (λe=>gz (hv7.own 3) e.symm hv7.blk zd)).trans ((XD (dK hv7.blk)).trans hv7.blk);obtain⟨v8,x8,hv8,hf8,ex8,ev8,ew8⟩:=(hv7.later ((XF).alloc (XH) (xi #[xd xh x] 3))).step 3 3 rfl (xd xh x) HL7.out.symm hown hgrow za;clear nbc nbf;have nbc:=EQ hnq;have nbf:=gh hnq;clear hnq;have HX8:=fy ex8;have HW8:=fy ew8;have HF8:=HF7.trans ((NF.below ((XF).alloc (XH) (xi #[xd xh x] 3)) hv7.low).trans hf8);have hnl8:nb<q8.heap.size:=by have:=dK hv8.blk;simp_all
 have hBw8:B<=q8.heap.size:=by have:=hv8.low;simp_all
 clear hown hgrow hat hf8 ex8 ev8 ew8;have e70:=(HW7.out 0 zp).trans ((HW6.out 0 zp).trans HE5.out);have nb0:=(nbc 0).trans (congrArg some e70);have nb3:=nbc 3;clear nbc e70;go_wp2;go_ret;refine⟨?_,⟨v8,?_⟩,HF8⟩
 .rw[HAD.out];exact oH zp
 rw[HAD.out];have hx:=Lc HX5.out HX6.out HX7.out HX8.out;have hd:x=if a.1=0 then lI a.2.1 0 al (-1) else -1:=HXE.out.symm
 grind[gQ]
 ):zq:=h
def zm84(h:zq:=by
 have e:kO S ins ev more nx=pq (λi=>if i<S.length then A4 S ins ev more nx (jJ S ins ev more nx i) i else ins) (S.length+1):=by
  grind[rU,GL,pq,kO]
 grind[xI]
 ):zq:=h
def zm94(h:zq:=by
 go_wp2;go_ret;exact⟨Lz.no HN.out,HB1⟩
 ):zq:=h
def zm105(h:zq:=by
 go_wp2;go_quiet (fail);go_wp2
 go_roundw
 .exact⟨k+1,d+nq,x,zf,rfl,zo,by grind[gQ],by show _=_;rw[HW.out,World.drewN_drewN]⟩
 simp[intOf];omega
 ):zq:=h
def zm133(h:zq:=by
 exact h.bel.setCell (p:=⟨w.heap.size+1,k,none⟩) zp _
 ):zq:=h
def zm142(h:zq:=by
 exact(XE zp).trans h.box
 ):zq:=h
def zm148(h:zq:=by
 exact⟨gu zp,(XD zp).trans (gi _ _),hB.alloc zp _⟩
 ):zq:=h
def zm158(h:zq:=by
 go_wp2
 go_roundw
 .exact⟨k+1,true,M.set k true,zo,rfl,zf,HA2,HS2⟩
 simp[intOf];omega
 ):zq:=h
def zm163(h:zq:=by
 clear hlvk;go_wp2
 go_roundw
 .exact⟨k+1,b,M,zo,rfl,zf,HA',HR2⟩
 simp[intOf];omega
 ):zq:=h
def jh(L:List Nd)(T:T8):Fin 5->TW:=λi=>if i=0 then L.map (λd=>xd .u8 (iI d.k)) else if i=1 then L.map (λd=>xd xh d.a) else if i=2 then L.map (λd=>xd xh d.b) else if i=3 then L.map (λd=>xd xh d.t) else T.map (λt=>xd xh t)
def S0(w:Uc)(nb B:Nat)(L:List Nd)(T:T8):Prop:=∃v,NS w nb B v (jh L T)
def S0.later{T:T8}(h:S0 w nb B L T)(I:XL w w'):S0 w' nb B L T:=by
 obtain⟨v,J⟩:=h;exact⟨v,J.later I⟩
theorem QO(L:List Nd)(T:T8)(d:Nd):qs (qs (qs (qs (jh L T) 0 (jh L T 0++[xd .u8 (iI d.k)])) 1 (jh L T 1++[xd xh d.a])) 2 (jh L T 2++[xd xh d.b])) 3 (jh L T 3++[xd xh d.t])=jh (L++[d]) T:=by
 grind[qs,jh]
theorem Lc{T:T8}{k:Nat}{a b t:Int}(I:x5=qs (jh L T) 0 (jh L T 0++[xd .u8 (iI k)]))(J:x6=qs x5 1 (x5 1++[xd xh a]))(U:x7=qs x6 2 (x6 2++[xd xh b]))(h8:x8=qs x7 3 (x7 3++[xd xh t])):x8=jh (L++[⟨k,a,b,t⟩]) T:=by
 subst I J U h8
 grind[qs,jh]
def zE{a b:Ud}(e:a=b)(h:w.grownBy w' b.ownBlock):w.grownBy w' a.ownBlock:=by rw[e];exact h
def rD(a:Nat × Ub × Nat)(al:TY)(k:Nat)(x:Int):Int:=if a.1=0 then lI a.2.1 k (al.drop k) x else x
theorem qT(al:TY):∀(f:Fm)(L:List Nd),(gP al f L).1.length=L.length+gI f:=by intro I;induction I<;>grind[gP,gI]
def N7{k:Nat}(h:k≠0)(hk:k<=12):(iI k==97)=false:=by
 have h:k=1\/k=2\/k=3\/k=4\/k=5\/k=6\/k=7\/k=8\/k=9\/k=10\/k=11\/k=12:=zo;rcases h with rfl|rfl|rfl|rfl|rfl|rfl|rfl|rfl|rfl|rfl|rfl|rfl<;>rfl
def P4:(prog.info? 5).map (λi=>(i.zero,i.size,i.bytes))=some (some (xd .u8 0),1,1):=zk
def Gf:(prog.info? 3).map (λi=>(i.zero,i.size,i.bytes))=some (some (xd xh 0),1,8):=zk
theorem NS.step{v:Fin 5->Ud}(h:NS w nb B v x)(i:Fin 5)(o:Nat)(J:i.val=o)(u:Ud){g cap:Nat}(hn:n=(x i).length)(ho:w2.ownsRow B (Cu i) 1 (xa (TT g) (n+1) cap) (n+1) (x i++[u]))(hg:w.grownBy w2 (v i).ownBlock)(I:(v i).ownBlock=some g\/g=w.heap.size):
  ∃U x',NS (w2.setCell (TU nb o) (xa (TT g) (n+1) cap)) nb B U x'/\NF nb B w (w2.setCell (TU nb o) (xa (TT g) (n+1) cap))/\x'=qs x i (x i++[u])/\U i=xa (TT g) (n+1) cap/\∀j,j≠i->U j=v j:=by
 subst hn J;obtain⟨h1,h2⟩:=h.app i u ho hg I
 grind[rM,mQ]
def Ox(al:TY)(f:Fm)(L:List Nd)(T:T8)(nb B:Nat)(w w':Uc)(e:Ending):Prop:=
 e=xm (xd xh (gP al f L).2)/\S0 w' nb B (gP al f L).1 T/\NF nb B w w'
theorem zj(Q:Tk->Prop)(al:TY)(o1:TX)(n1 k1:Nat)(ae:al.length<=401)(T:T8)(nb B:Nat)(aA:nb<B):∀(f:Fm)(L:List Nd)(w:Uc)(p:TX),Q9 w f p->(f=.nil\/Fg Q f)->IR w o1 n1 k1 al->S0 w nb B L T->L.length+gI f<=100000->
  Calls prog 179 #[xk (TT nb),xk p,xa o1 n1 k1] w λe w'=>Ox al f L T nb B w w' e
 |.nil,L,w,p,h,_,_,hns,_=>by
  cases (show p=none from h);go_in;go_wp2;go_ret;exact⟨rfl,hns,NF.refl _ _ _⟩
 |.node u v0 a l r,L,w,p,h,hfg,ha,hns,hsz=>by
  obtain⟨b,pl,pr,rfl,hb,hl,hr⟩:=h;have ax:Fg Q (.node u v0 a l r):=by grind
  have ay:a.1<=12:=by
   grind[Fg]
  have aF:l=.nil\/Fg Q l:=by
   grind[Fg]
  have aG:r=.nil\/Fg Q r:=by
   grind[Fg]
  have hs:gI (.node u v0 a l r)=1+gI l+gI r:=rfl;have aC:=fy (λW ak an aq=>zj Q al o1 n1 k1 ae T nb B aA l L W pl ak aF an aq zo);have bc:=EQ hb;clear hfg ax;go_in;go_wp2_with fail;refine(aC.out w hl ha hns).mono ?_;rintro e w1 ⟨rfl,az,U⟩;clear bc;have ar:=U.kt _ _ _ _ (Ri rfl) hb;have bc:=EQ ar;have aw:=U.kt.isF hr;have ag:=U.kt.acts ha;have aI:((gP al l L).1).length+gI r<=100000:=by have:=qT al l L;omega
  have aD:=fy (λW ak an aq=>zj Q al o1 n1 k1 ae T nb B aA r (gP al l L).1 W pr ak aG an aq aI);clear hb hl hr ha hns;go_wp2_with fail;refine(aD.out w1 aw ag az).mono ?_;rintro e w2 ⟨rfl,au,ad⟩;clear bc;have J:=ad.kt _ _ _ _ (Ri rfl) ar;have ai:=ad.kt.acts ag;have av:=U.trans ad;have bc:=EQ J;have hn1l:=ai.len;have hlq:(gP al r (gP al l L).1).1.length+1<=100000:=by grind[qT]
  clear ad ar ag az U aw;go_wp2
  go_loopw [9,10] (λv i wr=>∃(k d:Nat)(x:Int),i=xd xh (k:Int)/\v=xd xh x/\k<=al.length/\Hid (rD a al 0 (-1)=rD a al k x)/\Hid (wr=w2.drewN d)) (λ_ i _=>al.length-(intOf i).toNat)
  .exact⟨0,0,-1,rfl,rfl,Ux,rfl,rfl⟩
  obtain⟨k,d,x,rfl,rfl,hkk,HX,HW⟩:=hrel;clear bc;have I:Hid (XL w2 wr):=by grind[iK,gQ]
  have bc:=λo=>EQ ((I.out.block _ (dK J)).trans J) o
  by_cases hlt:k<al.length
  .obtain⟨t,rr,ht⟩:=jc hlt;have aj:=(KT.below I.out).acts ai;obtain⟨g,ho,hgl,_,t0,t1,t2⟩:=aj.tok ht;subst ho;have aH:(k:Int)<(n1:Int):=zo;by_cases hk:a.1=0
   .have HS:Hid (rD a al k x=rD a al (k+1) (if t.s.toList=a.2.1.toList then (k:Int) else x)):=by
     show _=_
     grind[lG,rD,lI]
    have aB:iI a.1=97:=by rw[hk];rfl
    have b0:wr.cell? (TU b 0)=some (xd .u8 97):=za;have b1:wr.cell? (TU b 1)=some (xj a.2.1):=bc 1;clear bc ht aj hk aB;cases he:(t.s.toList==a.2.1.toList) with
    |true=>
     have HE:Hid (t.s.toList=a.2.1.toList):=fy (by simpa using he);go_wp2;go_quiet (fail);go_wp2
     go_roundw
     .exact⟨k+1,d+nq,k,zf,rfl,zo,by grind[gQ],by show _=_;rw[HW.out,World.drewN_drewN]⟩
     simp[intOf];omega
    |false=>
     have HE:Hid (¬ t.s.toList=a.2.1.toList):=fy (by simpa using he);exact zm105
   have HS:Hid (rD a al k x=rD a al (k+1) x):=by
    show _=_;unfold rD;omega
   have aB:=N7 hk ay;have b0:wr.cell? (TU b 0)=some (xd .u8 (iI a.1)):=bc 0;clear bc ht aj hk;generalize iI a.1=ro at *;exact zm105
  have aH:¬ (k:Int)<(n1:Int):=zo;have HXE:Hid (rD a al 0 (-1)=x):=by
   grind[rD,lI]
  obtain⟨v,hv⟩:=au.later I.out;have nbc:=EQ hv.blk;have nbf:=gh hv.blk;have hnl:=dK hv.blk;have hbl:b<wr.heap.size:=by have:=dK J;have:=I.out.size;omega
  have hBw:=hv.low;have HFW:=av.trans (NF.below I.out (by obtain⟨v',aK⟩:=au;exact aK.low));obtain⟨i0,hi,hz0,hz1,hz2⟩:=Uk P4;obtain⟨j0,ji,jz0,jz1,jz2⟩:=Uk Gf;have HP:Hid (rD a al 0 (-1)=if a.1=0 then lI a.2.1 0 al (-1) else -1):=rfl;have HAD:Hid (gP al (.node u v0 a l r) L=((gP al r (gP al l L).1).1++[⟨a.1,(gP al l L).2,(gP al r (gP al l L).1).2,if a.1=0 then lI a.2.1 0 al (-1) else -1⟩],((gP al r (gP al l L).1).1.length:Int))):=rfl;have hX0:(jh (gP al r (gP al l L).1).1 T 0).length=(gP al r (gP al l L).1).1.length:=by simp[jh]
  clear au I J ai HX av HP;generalize (gP al r (gP al l L).1).1=L2 at *;go_wp2_with fail;refine U9 zk ?_;change wpAny _ _ _ _ _ _ _ (World.drew _);apply zt0 0 (xk (TT nb));apply zt0 1 (xk (TT nb));apply zt0 2 (xk (TT nb));apply zt0 3 (xk (TT nb));apply zt0 5 (xk (TT b));apply zt0 6 (xk (TT b));apply zt0 7 (xk (TT b));refine zr2 4 8 (λK hK=>?_) λK hK=>?_
  .go_simp;refine hK _ _ ?_;clear hK K;apply zS 8;apply zS 9;exact zm1
  go_simp;refine hK _ _ ?_;clear hK K;refine zr2 4 9 (λK hK=>?_) λK hK=>?_
  .go_simp;refine hK _ _ ?_;clear hK K;apply zS 9;exact zm1
  go_simp;refine hK _ _ ?_;clear hK K;apply zS 4;exact zm1
def NF.toBelow{s:Nat}(h:Below s w w3)(hf:NF nb B w3 w')(hs:s<=nb)(hB:s<=B):Below s w w':=
 ⟨hf.os.trans h.os,hf.tape.trans h.tape,hf.output.trans h.output,UP h.size hf.size,λb I=>(hf.low b zo zo).trans (h.block b I)⟩
theorem Ld{T:T8}{k:Int}:qs (jh L T) 4 (jh L T 4++[xd xh k])=jh L (T++[k]):=by
 grind[qs,jh]
def NS.init(h:w.heap[nb]?=some (xi #[TV,TV,TV,TV,TV] 294 (0,0))):S0 w nb w.heap.size [] []:=by
 refine⟨λ_=>TV,⟨h,λi=>?_,λi j _ k hk=>zv,XH⟩⟩;have:jh [] [] i=[]:=by unfold jh;simp
 rw[this];exact XG
def SP{l:List α}{k:Nat}(h:k<l.length):∃t r,l.drop k=t::r:=by
 cases hd:l.drop k with
 |nil=>have:=congrArg List.length hd;simp at this;omega
 |cons t r=>simp
def OF(al:TY)(rs:T6)(w w':Uc)(e:Ending):Prop:=
 ∃nb B,e=xm (xk (TT nb))/\w.heap.size<=nb/\nb<B/\S0 w' nb B (iH al rs ([],[])).1 (iH al rs ([],[])).2/\XL w w'
theorem vZ(Q:Tk->Prop)(ha:IR w o1 n1 k1 al)(hr:Sd w o2 n2 k2 rs)(aN:al.length<=401)(bo:rs.length<=401)(aQ:∀r∈rs,r.call=true->qQ r)(aL:∀r∈rs,Fg Q (gO r))(hnl:iw rs<=10000):
  Calls prog 140 #[.agg #[xa o1 n1 k1,xa o2 n2 k2]] w λe w'=>OF al rs w w' e:=by
 have aB:=fy aQ;have aY:=fy aL;clear aQ aL;obtain⟨j0,ji,bu,bw,bA⟩:=Uk Gf;go_in
 go_wp2_with (refine(uq (hr.later (gC.alloc zp _)) bo aB.out).mono ?_)
 rintro e w3 ⟨v,ps,rfl,U,bf,ag⟩;obtain⟨fo,fc,rfl⟩:=ib U;have hmb:=(ag.block w.heap.size zs).trans ((XD zp).trans (gi w (xi #[xa o1 n1 k1,xa o2 n2 k2] 228)));have aP:=(ag.block (w.heap.size+1) zp).trans (gu zp);have ad:=(((Uo w.heap.size w).alloc (XH) _).alloc zp _).trans (ag.mono zs);have hz3:=dK aP;have ak:=U;have aW:=(KT.below ad).acts ha;clear U ag ha hr aB;go_wp2
 go_loopw [5] (λx wr=>∃k:Nat,k<=rs.length/\x=xd xh k/\S0 wr (w.heap.size+1) w3.heap.size (iH al (rs.take k) ([],[])).1 (iH al (rs.take k) ([],[])).2/\NF (w.heap.size+1) w3.heap.size w3 wr) (λx _=>rs.length-(intOf x).toNat)
 .exact⟨0,Ux,rfl,by rw[List.take_zero];exact NS.init aP,NF.refl _ _ _⟩
 obtain⟨k,hk,rfl,av,aa⟩:=hrel;by_cases hlt:k<rs.length
 .obtain⟨r,l,aw⟩:=SP hlt;have bn:(k:Int)<(rs.length:Int):=zo;obtain⟨p,hp,aG⟩:=bf.at aw;obtain⟨g,bj,hg,bg⟩:=gT ak hlt;subst bj;have bh:wr.cell? (TU g k)=some (xk p):=by
   have e1:w3.cell? (TU g k)=some (xk p):=za;have e2 :=aa.low g hg (by
    intro e;obtain⟨_,⟨h1,_⟩|⟨g',aD,aE,bq,_,bl,_⟩⟩:=ak
    .omega
    grind[gQ])
   unfold World.cell? at e1|-;simp_all
  have hm0:=EQ ((aa.low w.heap.size zo zo).trans hmb) 0;have bd:=aa.kt.isF aG;have bc:=aa.kt.acts aW;have aR:=Vk (aw▸Um ..);have aU:rs.take (k+1)=rs.take k++[r]:=by
   grind
  have aT:iw (rs.take k)+gI (gO r)<=10000:=by
   have h1:iw rs=iw (rs.take (k+1))+iw (rs.drop (k+1)):=by rw[<-mL,Vn]
   grind[mL,iw]
  have az:=fy (λW h1 h2 h3=>zj Q al (o1:=o1) (n1:=n1) (k1:=k1) aN (iH al (rs.take k) ([],[])).2 (w.heap.size+1) w3.heap.size zo (gO r) (iH al (rs.take k) ([],[])).1 W p h1 (Ri (aY.out r aR)) h2 h3 (by grind[rC]));have a6:Hid (iH al (rs.take (k+1)) ([],[])=((gP al (gO r) (iH al (rs.take k) ([],[])).1).1,(iH al (rs.take k) ([],[])).2++[(gP al (gO r) (iH al (rs.take k) ([],[])).1).2])):=by
   show _=_;rw[aU,I']
  have aH:(iH al (rs.take k) ([],[])).2.length=k:=by grind[rC]
  have bt:=aa.size;clear aG hp bg aw aR aU aT;generalize hNM:iH al (rs.take k) ([],[])=NM at *;clear hNM;obtain⟨L,T⟩:=NM;have aI:=aH;clear aH;generalize hAN:gP al (gO r) L=AN at *;have aA:=fy hAN;clear hAN;go_wp2_with fail;refine R' (S:=λw'=>w'.cell? (TU g k)=some (xk p)/\w'.cell? (TU w.heap.size 0)=some (xa o1 n1 k1)) zk ?_ (λI=>?_)
  .trivial
  apply zt1 0 (xk (TT (w.heap.size+1))) I;apply zt1 1 (xa (TT g) rs.length fc) I;apply zt1 2 (xd xh (k:Int)) I;apply zt1 3 (xk (some (TU g k))) I;apply zt1 4 (xk p) I;apply zt1 5 (xk (TT w.heap.size)) I;apply zt1 6 (xa o1 n1 k1) I;apply zrH 7;intro K hK;go_simp;refine(az.out _ ((KT.below ((XF).drew)).isF bd) ((KT.below ((XF).drew)).acts bc) (av.later ((XF).drew))).mono ?_;rintro e w5 ⟨rfl,aO,ar⟩;rw[aA.out] at aO;have aj:=aa.trans ((NF.below ((XF).drew) bt).trans ar);have aS:w5.cell? (TU g k)=some (xk p)/\w5.cell? (TU w.heap.size 0)=some (xa o1 n1 k1):=by
   refine⟨?_,EQ ((aj.low w.heap.size zo zo).trans hmb) 0⟩;have e2:w5.heap[g]?=wr.heap[g]? :=ar.low g hg (by
    intro e;obtain⟨_,⟨h1,_⟩|⟨g',aD,aE,bq,_,bl,_⟩⟩:=ak
    .omega
    grind[gQ])
   unfold World.cell? at bh|-;simp_all
  refine hK.out _ _ aS (λI=>?_);clear hK K aS;rw[aA.out];obtain⟨v,hv⟩:=aO;have ax:=EQ hv.blk;have hnl5:=dK hv.blk;have hBw5:=hv.low;obtain⟨to4,tc,ai⟩:=ib (hv.own 4);have aq:(jh AN.1 T 4).length=k:=by simp[jh,aI]
  rw[aq] at ai;have an:=fy ai;have aC:=fy aq;have bB:=(ax 4).trans (congrArg some ai);clear ar ai aq ax;apply zt1 8 (xd xh AN.2) I;refine Ut zk ?_ _;clear I
  go_wp2_with (at_builtin;go_must (refine wpList_append_lies _ rfl _ _ 33 rfl w3.heap.size 3 j0 (xd xh 0) 1 8 underlying33 ji bu bw bA rfl zd _ k (jh AN.1 T 4) rfl ?c0 (TU w5.heap.size 0) 1 1 [xd xh AN.2] rfl rfl ?c1 ?c2 zd ?c3 ?c4 ?c5 (w5.heap.size+1) ?c6 ?_))
  case c0=>have:=gq (hv.own 4) ((XF).alloc (XH) (xi #[xd xh AN.2] 3));rw[aC.out,an.out] at this;exact this
  case c1=>
   intro j u hj
   match j,hj with
   |0,hj=>simp at hj;subst hj;exact EQ (gi _ _) 0
   |j+1,hj=>trivial
  case c2=>intro u hu;simp at hu;subst hu;rfl
  case c3=>unfold maxLen;omega
  case c4=>omega
  case c5=>simp;omega
  case c6=>simp
  intro g8 cap8 q8 U J aJ _;replace J:=zE an.out J;replace aJ:(v 4).ownBlock=some g8\/g8=w5.heap.size+1:=by rw[an.out];omega
  have au:=(J.block (w.heap.size+1) zs (λe=>gz (hv.own 4) e.symm hv.blk zd)).trans ((XD (dK hv.blk)).trans hv.blk);obtain⟨v8,x8,br,aK,aF,a8,ba⟩:=(hv.later ((XF).alloc (XH) (xi #[xd xh AN.2] 3))).step 4 4 rfl (xd xh AN.2) aC.out.symm U J za;clear bB;have ax:=EQ au;have nbf:=gh au;clear au;have a7:=fy aF;have aX:=aj.trans ((NF.below ((XF).alloc (XH) (xi #[xd xh AN.2] 3)) hv.low).trans aK);clear U J aJ aK aF a8 ba;go_wp2
  go_roundw
  .refine⟨k+1,zo,zf,?_,aX⟩;rw[a6.out];have hx:=a7.out;rw[Ld] at hx;exact⟨v8,hx▸br⟩
  simp[intOf];omega
 have bn:¬ (k:Int)<(rs.length:Int):=zo;have bm:rs.take k=rs:=UF zo;rw[bm] at av;go_wp2;go_ret;exact⟨_,_,rfl,zo,zo,av,NF.toBelow ad aa zo zo⟩
def zT(ns:T8)(t:Int)(i:Nat):Bool:=match i with
 |0=>false
 |j+1=>match ns[j]? with
  |some x=>x==t
  |none=>false
def BQ(m:Nat)(d:Nd):Prop:=(d.k<=3/\d.a= -1/\d.b= -1)\/(4<=d.k/\d.k<=8/\(∃a:Nat,d.a=(a:Int)/\a<m)/\d.b= -1)\/(9<=d.k/\d.k<=12/\(∃a:Nat,d.a=(a:Int)/\a<m)/\∃b:Nat,d.b=(b:Int)/\b<m)
def RY(L:List Nd):Prop:=∀k d,L[k]?=some d->BQ k d
theorem s9(al:TY)(hf:f≠ .nil)(L:List Nd):(gP al f L).2=((gP al f L).1.length:Int)-1:=by
 cases f with
 |nil=>trivial
 |node u v a l r=>rw[gP];simp
def Fg.ne(h:Fg Q f):f≠ .nil:=by
 intro e;subst e;exact h
theorem uw(Q:Tk->Prop)(al:TY):∀(f:Fm)(L:List Nd),(f=.nil\/Fg Q f)->RY L->RY (gP al f L).1
 |.nil,L,_,h=>h
 |.node u v a l r,L,hf,h=>by
  have J:Fg Q (.node u v a l r):=by grind
  have U:l=.nil\/Fg Q l:=by
   grind[Fg]
  have aa:r=.nil\/Fg Q r:=by
   grind[Fg]
  have h1:=uw Q al l L U h;have h2:=uw Q al r (gP al l L).1 aa h1;have e1:=qT al l L;have e2:=qT al r (gP al l L).1;intro k d I;rw[gP] at I;replace I:((gP al r (gP al l L).1).1++[(⟨a.1,(gP al l L).2,(gP al r (gP al l L).1).2,if a.1=0 then lI a.2.1 0 al (-1) else -1⟩:Nd)])[k]?=some d:=I;rcases Nat.lt_trichotomy k (gP al r (gP al l L).1).1.length with hk|hk|hk
  .grind[RY]
  .rw[Uv zo,show k-(gP al r (gP al l L).1).1.length=0 from zo] at I;cases I;rcases J with⟨hk0,_,rfl,rfl⟩|⟨hk0,rfl,rfl⟩|⟨hk0,hl,rfl⟩|⟨hk0,hl,hr⟩
   .exact Or.inl ⟨za,rfl,rfl⟩
   .exact Or.inl ⟨za,rfl,rfl⟩
   .have:=lO hl.ne;exact Ri (Or.inl ⟨za,za,⟨(gP al l L).1.length-1,by show(gP al l L).2=_;rw[s9 al hl.ne];omega,zo⟩,rfl⟩)
   have:=lO hl.ne;have:=lO hr.ne;exact Ri (Ri ⟨za,za,⟨(gP al l L).1.length-1,by show(gP al l L).2=_;rw[s9 al hl.ne];omega,zo⟩,(gP al r (gP al l L).1).1.length-1,by show(gP al r (gP al l L).1).2=_;rw[s9 al hr.ne];omega,zo⟩)
  grind
theorem uQ(Q:Tk->Prop)(al:TY):∀(rs:T6)(p:List Nd × T8),(∀r∈rs,Fg Q (gO r))->RY p.1->RY (iH al rs p).1:=by intro I;induction I<;>grind[uw,iH]
theorem sw(Q:Tk->Prop)(al:TY):∀(rs:T6)(p:List Nd × T8),(∀r∈rs,Fg Q (gO r))->(∀t∈p.2,0<=t)->∀t∈(iH al rs p).2,0<=t
 |[],p,_,h=>h
 |r::rs,p,hf,h=>by
  rw[iH];refine sw Q al rs _ (λU J=>hf U (Ul J)) (λt I=>?_);rcases List.mem_append.1 I with I|I
  .simp_all
  rcases List.mem_singleton.1 I with rfl
  have hne:=(hf r (Um ..)).ne
  grind[s9,lO,qT]
def FP(w:Uc)(n:Nat)(bel:Ud)(R:List (Nat->Bool)):Prop:=∃bo bcap,bel=xa bo R.length bcap/\∀i f,R[i]?=some f->∃bg ua um uc,bo=some ⟨bg,0,none⟩/\w.cell? (TU bg i)=some (xa (TT ua) um uc)/\R9 w n f ua um uc
def TA(w:Uc)(tt:TX)(ns:T8):Prop:=∀j x,ns[j]?=some x->∃tg,tt=some ⟨tg,0,none⟩/\tg<w.heap.size/\w.cell? (TU tg j)=some (xd xh x)
def TA.later(h:TA w tt ns)(J:XL w w'):TA w' tt ns:=λj x hx=>by
 obtain⟨tg,U,I,h3⟩:=h j x hx;exact⟨tg,U,Uw I J.size,(Fd J _ _ I).trans h3⟩
theorem vh{k:Nat}{f:Nat->Bool}(h:R[k]?=some f):NE R (k:Int)=f:=by
 grind[NE]
theorem AU(R:List (Nat->Bool)):NE R (-1)=λ_=>true:=Uh zd
theorem OS(w:Uc)(k:Nat)(d:Nd)(j:Nat){bel:Ud}(R:List (Nat->Bool))(hT:TA w tt ns)(hB:FP w ns.length bel R)(hg:BQ R.length d)(U:nt w nb k (iI d.k) d.a d.b d.t)(hj:j<=ns.length)(hn:ns.length<=10000000000000):
  Calls prog 180 #[xk (TT nb),xd xh k,xd xh (j+1:Nat),xa tt ns.length tc,bel] w λe w'=>e=xm (xn (kL ns.length (zT ns) R d (j+1)))/\∃q,w'=w.drewN q:=by
 obtain⟨I,da,db,dt⟩:=d;have ae:∀a:Nat,a<R.length->∃f bg J ua um uc,R[a]?=some f/\bel=xa (TT bg) R.length J/\w.cell? (TU bg a)=some (xa (TT ua) um uc)/\R9 w ns.length f ua um uc:=by
  intro a ha;obtain⟨bo,J,rfl,h⟩:=hB;obtain⟨bg,ua,um,uc,rfl,h2,h3⟩:=h a R[a] (Uq ha)
  grind
 have hy:∀{y y':Bool} {u v:Nat->Bool} {i n:Nat},I≠0->jF I y u v i n=jF I y' u v i n:=λh=>MK h
 rcases hg with⟨h1,rfl,rfl⟩|⟨h1,h2,⟨a,rfl,ha⟩,rfl⟩|⟨h1,h2,⟨a,rfl,ha⟩,b,rfl,hb⟩
 .replace h1:I<=3:=h1;have hv:kL ns.length (zT ns) R ⟨I,-1,-1,dt⟩ (j+1)=jF I (zT ns dt (j+1)) (λ_=>true) (λ_=>true) (j+1) ns.length:=by
   unfold kL;rw[AU]
  rw[hv];have h:I=0\/I=1\/I=2\/I=3:=zo;rcases h with rfl|rfl|rfl|rfl
  .by_cases hjn:j<ns.length
   .obtain⟨tg,rfl,_,hc⟩:=hT j ns[j] (Uq hjn);refine(F1 w k j hjn hn hc U).mono ?_;rintro e w' ⟨rfl,h⟩;refine⟨?_,h⟩
    congr 2
    show _=zT ns dt (j+1)
    grind[zT]
   refine(DS w k j ns.length zo zo U).mono ?_;rintro e w' ⟨rfl,h⟩;refine⟨?_,h⟩
   congr 2
   show _=zT ns dt (j+1)
   grind[zT]
  .exact M8 w k j hj hn U
  .exact Kl w k j hj hn U
  exact OT w k j hj hn U
 .replace h1:4<=I:=h1;replace h2:I<=8:=h2;obtain⟨f,bg,J,ua,um,uc,hf,rfl,hc,hr⟩:=ae a ha;have hv:kL ns.length (zT ns) R ⟨I,(a:Int),-1,dt⟩ (j+1)=jF I false f (λ_=>true) (j+1) ns.length:=by
   grind[AU,vh,kL]
  rw[hv];have h:I=4\/I=5\/I=6\/I=7\/I=8:=zo;rcases h with rfl|rfl|rfl|rfl|rfl
  .exact OW w k j a f hc ha hr hj hn U
  .exact dL w k j a f hc ha hr hj hn U
  .exact M9 w k j a f hc ha hr hj hn U
  .exact OU w k j a f hc ha hr hj hn U
  exact M7 w k j a f hc ha hr hj hn U
 replace h1:9<=I:=h1;replace h2:I<=12:=h2;obtain⟨f,bg,J,ua,um,uc,hf,rfl,hc,hr⟩:=ae a ha;obtain⟨f',bg',bcap',va,vm,vc,hf',he,ag,ai⟩:=ae b hb;cases he;have hv:kL ns.length (zT ns) R ⟨I,(a:Int),(b:Int),dt⟩ (j+1)=jF I false f f' (j+1) ns.length:=by
  grind[vh,kL]
 rw[hv];have h:I=9\/I=10\/I=11\/I=12:=zo;rcases h with rfl|rfl|rfl|rfl
 .exact Km w k j a f hc ha hr b f' ag hb ai hj hn U
 .exact OR w k j a f hc ha hr b f' ag hb ai hj hn U
 .exact PV w k j a f hc ha hr b f' ag hb ai hj hn U
 exact OV w k j a f hc ha hr b f' ag hb ai hj hn U
theorem S0.nd{T:T8}{k:Nat}(h:S0 w nb B L T)(U:L[k]?=some d):nt w nb k (iI d.k) d.a d.b d.t:=by
 obtain⟨v,J⟩:=h;have I:k<L.length:=by
  grind
 have o0:=J.own 0;have o1:=J.own 1;have o2:=J.own 2;have o3:=J.own 3;have l0:(jh L T 0).length=L.length:=by simp[jh]
 have l1:(jh L T 1).length=L.length:=by simp[jh]
 have l2:(jh L T 2).length=L.length:=by simp[jh]
 have l3:(jh L T 3).length=L.length:=by simp[jh]
 rw[l0] at o0;rw[l1] at o1;rw[l2] at o2;rw[l3] at o3;obtain⟨p0,c0,e0⟩:=ib o0;obtain⟨p1,c1,e1⟩:=ib o1;obtain⟨p2,c2,e2⟩:=ib o2;obtain⟨p3,c3,e3⟩:=ib o3;rw[e0] at o0;rw[e1] at o1;rw[e2] at o2;rw[e3] at o3;obtain⟨g0,rfl,_,x0⟩:=gT o0 I;obtain⟨g1,rfl,_,x1⟩:=gT o1 I;obtain⟨g2,rfl,_,x2⟩:=gT o2 I;obtain⟨g3,rfl,_,x3⟩:=gT o3 I;have hb:=J.blk;rw[e0,e1,e2,e3] at hb;exact⟨g0,_,c0,g1,_,c1,g2,_,c2,g3,_,c3,v 4,hb,I,I,I,I,by rw[x0];simp[jh,U],by rw[x1];simp[jh,U],by rw[x2];simp[jh,U],by rw[x3];simp[jh,U]⟩
def n9(tr:TZ)(s:Ub)(i:Nat):Bool:=match i with
 |0=>false
 |j+1=>match tr[j]? with
  |some x=>x.toList==s.toList
  |none=>false
def jQ(s:Ub)(tr:TZ):Bool × Nat:=
 match iz s with
 |.error x=>(false,x.2)
 |.ok (al,rs)=>if tr.all (λx=>iB al x)=true then (rs.all (λr=>jA tr.length (n9 tr) (gO r) 1),0) else (false,3)
theorem Fg.weak{R:Tk->Prop}(h:∀t,Q t->R t):∀{f:Fm},Fg Q f->Fg R f:=by intro I;induction I<;>grind[Fg]
def tS(_:Tk):Prop:=True
def Fg.act(s:Ub):Fg tS (ia s):=Or.inl ⟨rfl,⟨⟨2,s,0⟩,trivial,rfl,rfl,rfl⟩,rfl,rfl⟩
theorem vx(a:Ub):∀n,Fg tS (me a n)
 |0=>Fg.one zp (Fg.act a)
 |1=>Fg.one zp (Fg.act a)
 |n+2=>Fg.one zp (Fg.two zp (Fg.act a) (Fg.one zp (vx a (n+1))))
theorem Ou{k:Nat}:Fg tS (jg k a b n):=by
 have I:=Fg.act a;have hb:=Fg.act b;have ht:Fg tS (leaf 1 ByteArray.empty 0):=Fg.word zp;unfold jg
 repeat' split
 .exact I
 .grind[Fg.one,Fg.two]
 .exact vx a n
 .grind[Fg.one,vx]
 .grind[Fg.one,Fg.two]
 .grind[Fg.two,Fg.one]
 .grind[Fg.one,Fg.two]
 .grind[Fg.two,Fg.one]
 .grind[Fg.two,Fg.one]
 .grind[Fg.one,Fg.two]
 .grind[Fg.one,Fg.two]
 grind[Fg.one,Fg.two]
def Q5.fg(h:Q5 al rs):∀r∈rs,Fg tS (gO r):=by
 intro r hr;unfold gO
 split
 .exact Ou
 rename_i hc
 rcases h.rules r hr with⟨h1,_⟩|⟨_,h2,_⟩
 .exact absurd h1 hc
 exact h2.weak (λ_ _=>trivial)
theorem Q5.call(h:Q5 al rs):∀r∈rs,r.call=true->qQ r:=by
 intro r hr hc;have hn:=mD (List.append_eq_nil_iff.1 h.nof).2 r hr;exact zx (Q:=qS) (λt I=>I.1) (h.rules r hr) hc (hn.2 hc)
def Q5.dist(h:Q5 al rs):ze al:=Nb (List.append_eq_nil_iff.1 h.nof).1
theorem Nm.weak{P R:Ub->Prop}(h:∀s,P s->R s):∀{f:Fm},Nm P f->Nm R f:=by intro I;induction I<;>grind[Nm]
theorem Nm.one{P:Ub->Prop}{k:Nat}(h:k≠0)(hf:Nm P f):Nm P (one k f):=by grind[Nm,one]
theorem Nm.two{P:Ub->Prop}{k:Nat}{g:Fm}(h:k≠0)(hf:Nm P f)(hg:Nm P g):Nm P (two k f g):=by grind[Nm,two]
def Nm.act{P:Ub->Prop}{s:Ub}(h:P s):Nm P (ia s):=⟨λ_=>h,trivial,trivial⟩
theorem A9{P:Ub->Prop}(h:P a):∀n,Nm P (me a n)
 |0=>Nm.one zp (Nm.act h)
 |1=>Nm.one zp (Nm.act h)
 |n+2=>Nm.one zp (Nm.two zp (Nm.act h) (Nm.one zp (A9 h (n+1))))
theorem Ov{P:Ub->Prop}{k:Nat}(J:P a)(pb:4<=k->P b):Nm P (jg k a b n):=by
 have I:=Nm.act J;have hb:=λh=>Nm.act (pb h)
 have ht:Nm P (leaf 1 ByteArray.empty 0):=⟨λe=>absurd e zp,trivial,trivial⟩;unfold jg
 split
 .exact I
 split
 .grind[Nm.one,Nm.two]
 grind[A9,Nm.one,Nm.two]
theorem Av{s:Ub}(h:iW al s p=[]):iB al s=true:=by
 obtain⟨_,h2⟩:=List.append_eq_nil_iff.1 h;simp_all
def Ct:∀{f:Fm},qx al f=[]->Nm (λs=>iB al s=true) f
 |.nil,_=>trivial
 |.node _ _ a l r,h=>by
  rw[qx] at h;obtain⟨I,J⟩:=List.append_eq_nil_iff.1 h;obtain⟨U,h4⟩:=List.append_eq_nil_iff.1 J;exact⟨λe=>by rw[Uh e] at I;exact Av I,Ct U,Ct h4⟩
theorem xu(h:q9 al kinds t=[])(hk:t.k=2):iB al t.s=true:=by
 obtain⟨h1,_⟩:=List.append_eq_nil_iff.1 h
 grind[Av]
theorem Q5.nm(h:Q5 al rs):∀r∈rs,Nm (λs=>iB al s=true) (gO r):=by
 intro r hr;have hn:=mD (List.append_eq_nil_iff.1 h.nof).2 r hr;unfold gO
 split
 .rename_i hc
  have J:=h.call r hr hc;have U:=hn.2 hc;obtain⟨_,h2⟩:=List.append_eq_nil_iff.1 U;obtain⟨_,h3⟩:=List.append_eq_nil_iff.1 h2;obtain⟨I,_⟩:=List.append_eq_nil_iff.1 h3;rcases h.rules r hr with⟨_,_,_,_,x,_,hx,hargs⟩|⟨h1,_⟩
  .have hx0:lP r.args 0=x.s:=by
    rcases hargs with e|⟨y,_,_,e⟩<;>rw[e]<;>rfl
   have hax:iB al x.s=true:=by
    rcases hargs with e|⟨y,_,_,e⟩
    .grind[xu,Pa]
    rw[e,Pa] at I;exact xu (List.append_eq_nil_iff.1 I).1 hx
   refine Ov za (λh5=>?_);rcases J with⟨h6,_⟩|⟨_,h6,_⟩|⟨_,h6,x',y',e⟩
   .omega
   .omega
   have ht:iD (gW r.word.s.toList)=[110,110]:=by
    grind[iD]
   rw[e,ht] at I;rw[Pa,Pa] at I;obtain⟨_,h7⟩:=List.append_eq_nil_iff.1 I;obtain⟨h8,_⟩:=List.append_eq_nil_iff.1 h7;rw[e];show iB al y'.s=true;have hk:y'.k=2:=by
    obtain⟨_,h9⟩:=List.append_eq_nil_iff.1 h8
    grind[iN]
   exact xu h8 hk
  rw[h1] at hc;cases hc
 exact Ct hn.1
theorem PI(hd:ze al)(ht:∀x∈tr,iB al x=true){s:Ub}(hs:iB al s=true)(i:Nat):
  zT (tr.map λx=>kC x 0 al) (lI s 0 al (-1)) i=n9 tr s i:=by
 cases i with
 |zero=>rfl
 |succ j=>
  grind[Pp,zT,n9]
def yB(h:Q5 al rs)(I:∀x∈tr,iB al x=true):
  (iH al rs ([],[])).2.all (λt=>NE (iq tr.length (zT (tr.map λx=>kC x 0 al)) (iH al rs ([],[])).1) t 1)=rs.all (λr=>jA tr.length (n9 tr) (gO r) 1):=by
 rw[C8 (n9 tr) (zT (tr.map λx=>kC x 0 al)) rs ([],[]) (λr hr=>(h.nm r hr).weak (λs hs i=>PI h.dist I hs i)) (λt I=>zv)];simp
end Go.Proofs.YtidakhhekofkoaaGreatDoor
namespace Go.Proofs.YtidakhhekofkoaaGreatDoor.Rt
attribute [local go_sem] TT TU TV XL
attribute [local simp] TT TU TV XL
open Go.Proofs.Tryz
open Go.Deep
open Value renaming slice->xa,int->xd,string->xj,pointer->xk,bool->xn
open IntKind renaming i64->xh
open Obj renaming cells->xi
open Ending renaming returned->xm
open List renaming range->Rb
open Or renaming inr->Ri
variable{al:TY}{rs:T6}
def uD(s:Ub)(i j:Nat):(s.extract i j).data.toList=(s.data.toList.drop i).take (j-i):=by
 simp
theorem tN(p:UInt8->Bool):∀(l:T9),∀c∈l.take (Su p l),p c=true:=by intro I;induction I<;>grind[Su]
def BV(t:Tk):Prop:=(t.k=2->t.s.data.toList≠[]/\(∀c∈t.s.data.toList,GE c=true)/\Q7 t.s.data.toList=false)/\(t.k=3->∃c:UInt8,t.s.data.toList=[c]/\48<=c.toNat/\c.toNat<=57)
def IW{l:T9}(h:jC l=2):Q7 l=false:=by
 cases hw:Q7 l with
 |false=>rfl
 |true=>have:=y8 hw;omega
theorem LP(c:Nat):ju c≠2/\ju c≠3:=by
 unfold ju
 repeat' split
 all_goals simp
theorem CP(s:Ub)(j:Nat):BV (gY s j):=by
 unfold gY
 split
 .rename_i h
  split
  .rename_i hl
   refine⟨λI=>⟨?_,?_,IW I⟩,λI=>?_⟩
   .show(s.extract j (gV GE s j)).data.toList≠[];rw[uD];have e:gV GE s j-j=Su GE (s.data.toList.drop j):=by unfold gV;omega
    rw[e,Q4 s j h,Su,Uh hl,List.take_succ_cons];simp
   .show ∀c∈(s.extract j (gV GE s j)).data.toList,GE c=true;rw[uD];have e:gV GE s j-j=Su GE (s.data.toList.drop j):=by unfold gV;omega
    rw[e];exact tN _ _
   have J:jC (s.extract j (gV GE s j)).data.toList=3:=I;unfold jC at J
   grind
  split
  .rename_i U
   exact⟨λI=>(by cases I),λ_=>⟨s[j],mS s j h,U.1,U.2⟩⟩
  grind[LP,BV]
 grind[BV]
theorem E6{s:Ub}:∀n i,∀t∈jr s n i,BV t
 |0,_,t,h=>by simp[jr] at h
 |n+1,i,t,h=>by
  by_cases hk:(gY s (gV iy s i)).k<=1
  .rw[mq s n i hk] at h;grind[CP]
  rw[oC s n i hk] at h;rcases List.mem_cons.1 h with rfl|h
  .exact CP _ _
  exact E6 n _ t h
theorem readM_nm{s:Ub}(h:iz s=.ok (al,rs)):(∀t∈al,BV t/\t.k=2)/\∀r∈rs,∃m,RlGood BV m r:=by
 unfold iz at h
 split at h
 .cases h
 cases hm:ie (jr s (s.size+1) 0) with
 |error q=>rw[hm] at h;cases h
 |ok m=>
  obtain⟨al',rs'⟩:=m;rw[hm,uZ] at h
  split at h
  .cases h
  split at h
  .cases h
  cases h;have hg:=nM BV hm (λt I=>E6 _ _ t I)
  grind
end Go.Proofs.YtidakhhekofkoaaGreatDoor.Rt
namespace Go.Proofs.YtidakhhekofkoaaGreatDoor
attribute [local go_sem] TT TU TV XL
attribute [local simp] TT TU TV XL
open Go.Proofs.Tryz
open Rt
open Value renaming slice->xa,int->xd,string->xj,pointer->xk,bool->xn
open IntKind renaming i64->xh
open Obj renaming cells->xi
open Ending renaming returned->xm
open List renaming range->Rb
open Or renaming inr->Ri
variable{al:TY}{rs:T6}{tr:TZ}{ev:Ub}{nx a mx n i ac:Nat}{Q:Tk->Prop}{x v2:Bool}{G:List Fm}{t:Tb}{m:List (T7)}{tw':T0}{b b' L:T7}{o o':Option Tb}{f:Int}{w wr:Uc}{r:T8}{ao fo:TX}
theorem Qi(v:T5)(t:Int):∀i,zT (v.map λa:Nat=>(a:Int)) t i=zV v t i
 |0=>rfl
 |j+1=>by
  grind[zT,zV]
def np(tops:T8)(p:Bool × T7):Bool:=tops.all λt=>kF p.2 t
theorem D1(h:Q5 al rs)(I:Sv (iH al rs ([],[])).1)(J:∀x∈tr,iB al x=true){v:T5}(U:(tr.map λx=>kC x 0 al)=v.map λa:Nat=>(a:Int)):
  np (iH al rs ([],[])).2 (kY (sS (iH al rs ([],[])).1) (oU (iH al rs ([],[])).1) v)=rs.all (λr=>jA tr.length (n9 tr) (gO r) 1):=by
 rw[<-yB h J,Pu I v];have hlen:tr.length=v.length:=by simpa using congrArg List.length U
 have hz:zT (tr.map λx=>kC x 0 al)=zV v:=by
  grind[Qi]
 grind[mj,np]
def RY.low{L:List Nd}(h:RY L):Sv L:=λi d I=>by
 rcases h i d I with⟨h1,h2,h3⟩|⟨_,h1,⟨a,h2,h3⟩,h4⟩|⟨_,h1,⟨a,h2,h3⟩,b,h4,h5⟩
 .omega
 .omega
 omega
def Q5.low(h:Q5 al rs):Sv (iH al rs ([],[])).1:=(uQ tS al rs _ h.fg (λi d I=>by simp at I)).low
open Go.Deep
def A4(S:List Sp)(ins:Bool)(ev:Ub)(more:Bool)(nx hr k:Nat):Bool:=match S[k]? with
 |some d=>jl d.k ins more (ev.toList==d.s.toList) (hr.testBit d.a) (hr.testBit d.b) (nx.testBit d.a) (nx.testBit k)
 |none=>false
def jJ(S:List Sp)(ins:Bool)(ev:Ub)(more:Bool)(nx:Nat):Nat->Nat
 |0=>0
 |k+1=>jJ S ins ev more nx k+(if A4 S ins ev more nx (jJ S ins ev more nx k) k=true then 2^k else 0)
def kO(S:List Sp)(ins:Bool)(ev:Ub)(more:Bool)(nx:Nat):Nat:=jJ S ins ev more nx S.length+(if ins=true then 2^S.length else 0)
theorem rU(S:List Sp)(ins:Bool)(ev:Ub)(more:Bool)(nx:Nat):∀k,jJ S ins ev more nx k=pq (λj=>A4 S ins ev more nx (jJ S ins ev more nx j) j) k:=by intro I;induction I<;>grind[jJ,pq]
theorem xy(S:List Sp)(ins:Bool)(ev:Ub)(more:Bool)(nx:Nat){k:Nat}:jJ S ins ev more nx k<2^k:=by rw[rU];exact zP _ _
theorem CC(S:List Sp)(ins:Bool)(ev:Ub)(more:Bool)(nx k:Nat):jJ S ins ev more nx k|||2^k=jJ S ins ev more nx k+2^k:=by grind[rU,N2]
theorem rh{S:List Sp}{ins:Bool}{more:Bool}:kO S ins ev more nx<2^(S.length+1):=by
 have:=xy S ins ev more nx (k:=S.length)
 grind[kO]
theorem IF(S:List Sp)(ins:Bool)(ev:Ub)(more:Bool)(nx j:Nat)(hj:j<S.length):(kO S ins ev more nx).testBit j=A4 S ins ev more nx (jJ S ins ev more nx j) j:=by
 exact zm84
theorem IG(S:List Sp)(ins:Bool)(ev:Ub)(more:Bool)(nx:Nat):(kO S ins ev more nx).testBit S.length=ins:=by
 exact zm84
theorem IN(S:List Sp)(ins:Bool)(ev:Ub)(more:Bool)(nx j k:Nat)(hj:j<k):(jJ S ins ev more nx k).testBit j=A4 S ins ev more nx (jJ S ins ev more nx j) j:=by
 grind[rU,xI]
def FN(G:List Fm)(n:Nat)(y:Ub->Nat->Bool)(p i:Nat):Prop:=(∀j f,G[j]?=some f->p.testBit j=jA n y f i)/\p.testBit G.length=decide (i<=n)
def ur:Fm->Prop
 |.nil=>True
 |.node _ _ a l r=>a.1<=12/\(a.1=0\/a.1=1\/a.1=2\/a.1=3\/l≠ .nil)/\(a.1<9\/r≠ .nil)/\ur l/\ur r
theorem Fg.kok:∀{f:Fm},Fg Q f->ur f:=by intro I;induction I<;>grind[Fg,ur]
theorem L8:∀{f:Fm},ur f->∀g∈kR f,ur g:=by intro I;induction I<;>grind[kR,ur]
theorem A8(h:∀r∈rs,ur (gO r)):∀g∈om rs,ur g:=by
 grind[L8,om]
theorem qJ{k:Nat}(h:k=0\/k=1\/k=2\/k=3)(ins more y u v u' x u2 v2 I J:Bool):jl k ins more y u v u' x=jl k ins more y u2 v2 I J:=by
 grind[jl]
theorem JE{k:Nat}(h:k<9){ins more y u v u':Bool}:jl k ins more y u v u' x=jl k ins more y u v2 u' x:=by
 grind[jl]
theorem ET{S:List Sp}(hs:Sk S G)(hk:∀g∈G,ur g)(n:Nat)(y:Ub->Nat->Bool)(J:Ub->Nat->Bool)(hy:∀s i,y s i=(decide (i<=n)&&J s i))(ev:Ub)(i:Nat)
  (hev:i<=n->∀s,J s i=(ev.toList==s.toList))(nx:Nat)(ag:i<=n->FN G n y nx (i+1)):
  FN G n y (kO S (decide (i<=n)) ev (decide (i+1<=n)) nx) i:=by
 have key:∀k,k<=S.length->∀j,j<k->∀f,G[j]?=some f->A4 S (decide (i<=n)) ev (decide (i+1<=n)) nx (jJ S (decide (i<=n)) ev (decide (i+1<=n)) nx j) j=jA n y f i:=by
  intro k
  induction k with
  |zero=>simp
  |succ k ih=>
   intro hkl j hj f hf;by_cases ae:j<k
   .grind
   have ae:j=k:=zo;subst ae;have ih:=ih zo;obtain⟨d,hd⟩:∃d,S[j]?=some d:=⟨_,Uq zo⟩;have ak:=hs.2 j d f hd hf;have I:=hk f (UA hf);cases f with
   |nil=>trivial
   |node u v a l r=>
    obtain⟨h1,h2,h3,h4⟩:=ak;unfold A4;rw[hd];show jl d.k _ _ _ _ _ _ _=jF a.1 (y a.2.1 i) (jA n y l) (jA n y r) i n;rw[hy,xF (J a.2.1) (jA n y l) (jA n y r) i n I.1,h1,h2];have aa:jl a.1 (decide (i<=n)) (decide (i+1<=n)) (ev.toList==a.2.1.toList) (jA n y l i) (jA n y r i) (jA n y l (i+1)) (jF a.1 (decide (i+1<=n)&&J a.2.1 (i+1)) (jA n y l) (jA n y r) (i+1) n)=jl a.1 (decide (i<=n)) (decide (i+1<=n)) (J a.2.1 i) (jA n y l i) (jA n y r i) (jA n y l (i+1)) (jF a.1 (decide (i+1<=n)&&J a.2.1 (i+1)) (jA n y l) (jA n y r) (i+1) n):=by
     grind[jl]
    rw[<-aa];have ad:i<=n->nx.testBit j=jF a.1 (decide (i+1<=n)&&J a.2.1 (i+1)) (jA n y l) (jA n y r) (i+1) n:=by
     intro hi;rw[(ag hi).1 j _ hf];show jF a.1 (y a.2.1 (i+1)) _ _ _ _=_;rw[hy]
    have hx:∀u' x u2 x2:Bool,(i<=n->u'=u2)->(i<=n->x=x2)->∀u v,jl a.1 (decide (i<=n)) (decide (i+1<=n)) (ev.toList==a.2.1.toList) u v u' x=jl a.1 (decide (i<=n)) (decide (i+1<=n)) (ev.toList==a.2.1.toList) u v u2 x2:=by
     intro u' x u2 x2 e1 e2 u v;by_cases hi:i<=n
     .simp_all
     rw[Uy hi,Uy (show ¬ i+1<=n from zo)];rfl
    have U:∀b g,b<j->G[b]?=some g->(jJ S (decide (i<=n)) ev (decide (i+1<=n)) nx j).testBit b=jA n y g i:=by
     grind[IN]
    rcases I.2.1 with hk0|hk0|hk0|hk0|hln
    .grind[qJ]
    .grind[qJ]
    .grind[qJ]
    .grind[qJ]
    rcases h3 with h3|⟨h3,h3'⟩
    .trivial
    have hl:=U d.a l h3 h3';have aj:=λhi=>(ag hi).1 d.a l h3'
    rcases I.2.2.1 with hk9|hrn
    .rw[hl,JE hk9];exact hx _ _ _ _ aj ad _ _
    grind
 grind[IF,IG,Sk,FN]
def kz(S:List Sp):TZ->Nat
 |[]=>kO S false ⟨#[]⟩ false 0
 |ev::r=>kO S true ev ((kz S r).testBit S.length) (kz S r)
def Mq(S:List Sp):∀tr,kz S tr<2^(S.length+1)
 |[]=>rh
 |_::_=>rh
def yT(tr:TZ)(s:Ub)(i:Nat):Bool:=match i with
 |0=>false
 |j+1=>(tr.getD j ⟨#[]⟩).toList==s.toList
theorem Mz(tr:TZ)(s:Ub)(i:Nat):n9 tr s i=(decide (i<=tr.length)&&yT tr s i):=by
 cases i with
 |zero=>rfl
 |succ j=>
  grind[n9,yT]
theorem Fz{S:List Sp}(hs:Sk S G)(I:∀g∈G,ur g)(tr:TZ):∀(c j:Nat),j+c=tr.length->FN G tr.length (n9 tr) (kz S (tr.drop j)) (j+1)
 |0,j,h=>by
  rw[UX zo,kz];have:=ET hs I tr.length (n9 tr) (yT tr) (Mz tr) ⟨#[]⟩ (j+1) (λU=>zo) 0 (λU=>zo)
  grind
 |c+1,j,h=>by
  have hj:j<tr.length:=zo;have J:=Fz hs I tr c (j+1) zo;have hd:=UK hj;rw[hd,kz,hs.1,J.2];have:=ET hs I tr.length (n9 tr) (yT tr) (Mz tr) tr[j] (j+1) (λ_ s=>by grind[yT]) (kz S (tr.drop (j+1))) (λ_=>J)
  grind
def ij:T6->List Sp->Nat->Nat
 |[],_,w=>w
 |r::rs,S,w=>ij rs (iu (gO r) S) (w|||2^((iu (gO r) S).length-1))
theorem EB(r:Rl):∀(rs:T6)(S:List Sp)(w:Nat),ij (rs++[r]) S w=(ij rs S w|||2^((gH (rs++[r]) S).length-1)):=by intro I;induction I<;>grind[ij,gH]
theorem F0(p w t:Nat):(p&&&(w|||2^t)==(w|||2^t))=((p&&&w==w)&&p.testBit t):=by
 rw[Vz,Vu,VE,VE];constructor
 .intro h;have hb:∀j,(p.testBit j&&(w.testBit j||decide (t=j)))=(w.testBit j||decide (t=j)):=by
   intro j;have:=congrArg (λx=>x.testBit j) h
   grind
  refine⟨Wi (λj=>?_),?_⟩
  .simp_all
  simp_all
 rintro⟨h1,h2⟩;refine Wi (λj=>?_)
 grind
theorem DL(n:Nat)(y:Ub->Nat->Bool)(p i:Nat):∀(rs:T6)(S:List Sp)(G:List Fm)(w:Nat),Sk S G->(∀r∈rs,gO r≠ .nil)->(∀j f,(G++om rs)[j]?=some f->p.testBit j=jA n y f i)->
  (p&&&ij rs S w==ij rs S w)=((p&&&w==w)&&rs.all (λr=>jA n y (gO r) i))
 |[],S,G,w,_,_,_=>by simp[ij]
 |r::rs,S,G,w,hs,hn,hp=>by
  have hr:=hn r (Um ..);have J:=vJ (gO r) S G hs;rw[ij,DL n y p i rs _ (G++kR (gO r)) _ J (λU I=>hn U (Ul I)) (λj f hf=>hp j f (by grind[yX])),F0,Wd,Bool.and_assoc]
  grind[vv,ox,Sk,om]
def CL(h:Q5 al rs)(tr:TZ):
  (kz (gH rs []) tr&&&ij rs [] 0==ij rs [] 0)=rs.all (λr=>jA tr.length (n9 tr) (gO r) 1):=by
 have hs:Sk (gH rs []) (om rs):=by simpa using A5 rs [] [] Sk.nil
 have hw:=Fz hs (A8 (λr hr=>(h.fg r hr).kok)) tr tr.length 0 zo;have:=DL tr.length (n9 tr) (kz (gH rs []) tr) 1 rs [] [] 0 Sk.nil (λr hr=>(h.fg r hr).ne) (λj f hf=>hw.1 j f zv);simp_all
def rA(al:TY)(a:Nat):Ub:=((al[a]?).map (·.s)).getD ⟨#[]⟩
def ub(S:List Sp):Nat:=kO S false ⟨#[]⟩ false 0
def oT(S:List Sp)(al:TY)(p a:Nat):Nat:=kO S true (rA al a) (p.testBit S.length) p
def keepP(w p:Nat):Bool:=p&&&w==w
def Pt(S:List Sp)(al:TY):∀v:T5,kY (ub S) (oT S al) v=kz S (v.map (rA al))
 |[]=>rfl
 |a::v=>by
  rw[kY,Pt S al v];rfl
theorem Fa(hd:ze al)(I:a<al.length):iB al (rA al a)=true/\kC (rA al a) 0 al=(a:Int):=by
 have hal:=Uq I;have hn:rA al a=al[a].s:=by unfold rA;simp_all
 have hm:∀(l:TY)(t:Tk),t∈l->iB l t.s=true:=by
  intro l t
  induction l with
  |nil=>simp
  |cons x r ih=>
   grind[iB]
 grind[r9,ze]
def Gi(h:Q5 al rs)(v:T5)(J:∀a∈v,a<al.length):
  np (iH al rs ([],[])).2 (kY (sS (iH al rs ([],[])).1) (oU (iH al rs ([],[])).1) v)=keepP (ij rs [] 0) (kY (ub (gH rs [])) (oT (gH rs []) al) v):=by
 have U:∀x∈v.map (rA al),iB al x=true:=λx hx=>by
  obtain⟨a,I,rfl⟩:=List.mem_map.1 hx;exact(Fa h.dist (J a I)).1
 have hn:((v.map (rA al)).map λx=>kC x 0 al)=v.map λa:Nat=>(a:Int):=by
  rw[Vp];exact Vd λa I=>(Fa h.dist (J a I)).2
 rw[D1 h h.low U hn,Pt];exact(CL h (v.map (rA al))).symm
theorem xE:∀(B:Nat)(l:T5),l.Nodup->(∀x∈l,x<B)->l.length<=B
 |0,l,_,h=>by
  cases l with
  |nil=>simp
  |cons x r=>exact absurd (h x (Um ..)) (V2 _)
 |B+1,l,hn,h=>by
  have h1:=xE B (l.erase B) (hn.erase B) (λx hx=>by
   grind)
  grind
section
variable{σ : Type}[DecidableEq σ]
theorem EL{st:σ->Nat->σ}{acts:T5}{k:Nat}{l:List σ}{rows:T0}(h:l.length<=k):kE st acts mx (n+1) k l rows=some (l,rows):=by
 grind[kE]
theorem Ko{st:σ->Nat->σ}{acts:T5}{k:Nat}{l:List σ}{rows:T0}{s:σ}(h:l[k]?=some s)(hm:¬ mx<(jv st s acts l).1.length):
  kE st acts mx (n+1) k l rows=kE st acts mx n (k+1) (jv st s acts l).1 (rows++[(jv st s acts l).2]):=by
 grind[kE]
def B6{st:σ->Nat->σ}{acts:T5}{k:Nat}{l:List σ}{rows:T0}{s:σ}(h:l[k]?=some s)(hm:mx<(jv st s acts l).1.length):
  kE st acts mx (n+1) k l rows=none:=by
 rw[kE,h];simp_all
end
def GC{S:List Sp}{k:Nat}{l:T5}{tw:T0}(h:R7 (oT S al) (Rb n) (ub S) k l tw):l.length<=2^(S.length+1)/\∀p∈l,p<2^(S.length+1):=by
 have J:∀p∈l,p<2^(S.length+1):=λp U=>by
  obtain⟨j,I⟩:=List.mem_iff_getElem?.1 U;cases j with
  |zero=>
   rw[h.first] at I;cases I;exact rh
  |succ j=>
   obtain⟨_,_,_,_,_,_,_,e⟩:=h.met j p I;rw[e];exact rh
 exact⟨xE _ _ h.nodup J,J⟩
def jR(b:T7):Nat:=(if (b[0]?).getD false=true then 1 else 0)+(if b.any id=true then 2 else 0)
def MT(names:TZ)(m:List (T7))(rows:T0):Tb:=⟨names,m.map jR,rows⟩
theorem Nl(b:T7):jR b%2=1↔(b[0]?).getD false=true:=by
 grind[jR]
theorem Nn(b:T7):2<=jR b↔true∈b:=by
 grind[jR]
theorem IJ(b:T7):jR b<=3:=by grind[jR]
def Sz{π:Type}[DecidableEq π](p0:π)(ah:π->Nat->π)(keep:π->Bool)(names:TZ)(o:Option Tb):Prop:=
 ∃(l:List π)(tw:T0),R7 ah (Rb names.length) p0 l.length l tw/\o=(kE (setB tw) (Rb names.length) 100 102 0 [l.map keep] []).map λx=>MT names x.1 x.2
section
variable{π : Type}[DecidableEq π]
structure Tp(p0:π)(ah:π->Nat->π)(keep:π->Bool)(t:Tb)(l:List π)(tw:T0)(m:List (T7)):Prop where
 pl:R7 ah (List.range t.acts.length) p0 l.length l tw
 st:R7 (setB tw) (List.range t.acts.length) (l.map keep) m.length m t.nx
 fl:t.fl=m.map jR
 few:m.length<=100
def Sz.some{p0:π}{ah:π->Nat->π}{keep:π->Bool}{names:TZ}(h:Sz p0 ah keep names (some t)):t.acts=names/\∃l tw m,Tp p0 ah keep t l tw m:=by
 obtain⟨l,tw,J,I⟩:=h;cases e:kE (setB tw) (Rb names.length) 100 102 0 [l.map keep] [] with
 |none=>simp_all
 |some x=>
  obtain⟨m,rows⟩:=x;rw[e] at I;have U:=Ue I;obtain⟨k1,k2⟩:=B7 102 0 [l.map keep] [] (R7.start _ _ _) zp m rows e;subst U;exact⟨rfl,l,tw,m,J,k1,rfl,zo⟩
def Tp.hf{p0:π}{ah:π->Nat->π}{keep:π->Bool}{l:List π}{tw:T0}(h:Tp p0 ah keep t l tw m):
  ∀(i:Nat)(b:T7),m[i]?=some b->∃f,t.fl[i]?=some f/\(f%2=1↔(b[0]?).getD false=true):=λi b I=>
 ⟨jR b,by rw[h.fl,UG,I];rfl,Nl b⟩
theorem Tp.right{p0:π}{ah:π->Nat->π}{keep:π->Bool}{l:List π}{tw:T0}(h:Tp p0 ah keep t l tw m)(ha:n5 t.acts):Fn t:=by
 have hm1:1<=m.length:=by have:=(List.getElem?_eq_some_iff.1 h.st.first).1;omega
 have U:=h.st.len;refine⟨ha,zo,by have:=h.few;omega,by rw[h.fl,UL,U],λr hr=>?_,λf hf=>?_,λi f hi=>?_⟩
 .obtain⟨i,hi⟩:=List.mem_iff_getElem?.1 hr;have I:i<m.length:=by grind
  obtain⟨r',r1,r2,r3⟩:=h.st.row i m[i] I (Uq I);rw[hi] at r1;cases r1;rw[WV] at r2;refine⟨r2,λx hx=>?_⟩;obtain⟨q,hq⟩:=List.mem_iff_getElem?.1 hx;have aa:q<t.acts.length:=by grind
  obtain⟨k,k1,k2⟩:=r3 q q (Vs aa)
  grind
 .rw[h.fl] at hf
  grind[IJ]
 rw[h.fl,UG] at hi;cases hb:m[i]? with
 |none=>simp_all
 |some b=>
  rw[hb] at hi;have J:=Ue hi;rw[<-J,Nn,AE h.pl h.st h.hf hb]
end
section
variable{π ρ : Type}[DecidableEq π][DecidableEq ρ]
theorem II{p0:π}{ah:π->Nat->π}{keep:π->Bool}{q0:ρ}{J:ρ->Nat->ρ}{I:ρ->Bool}{l:List π}{tw:T0}{U:List ρ} 
  (h:R7 ah (Rb n) p0 l.length l tw)(h':R7 J (Rb n) q0 U.length U tw')(same:∀v:T5,(∀a∈v,a<n)->keep (kY p0 ah v)=I (kY q0 J v))(hb:FC n ah keep l J I U b b'):jR b=jR b':=by
 obtain⟨u,hu,rfl,rfl⟩:=hb;have hap:∀{v:T5},(∀a∈v,a<n)->∀a∈u++v,a<n:=λhv a ha=>by
  grind
 have e0:((l.map (lh ah keep u))[0]?).getD false=((U.map (lh J I u))[0]?).getD false:=by
  rw[UG,UG,h.first,h'.first];have k1:=nQ p0 ah u keep []
  grind[nQ,kY]
 have e1:(l.map (lh ah keep u)).any id=(U.map (lh J I u)).any id:=by
  rw[Vz,WQ,WQ];constructor
  .rintro⟨x,hx,e⟩;obtain⟨p,hp,rfl⟩:=List.mem_map.1 hx;obtain⟨j,hj⟩:=List.mem_iff_getElem?.1 hp;obtain⟨v,hv,rfl⟩:=sT h j j p (XH) hj;refine⟨lh J I u (kY q0 J v),List.mem_map.2 ⟨_,vP h' v hv,rfl⟩,?_⟩
   grind[nQ]
  rintro⟨x,hx,e⟩;obtain⟨p,hp,rfl⟩:=List.mem_map.1 hx;obtain⟨j,hj⟩:=List.mem_iff_getElem?.1 hp;obtain⟨v,hv,rfl⟩:=sT h' j j p (XH) hj;refine⟨lh ah keep u (kY p0 ah v),List.mem_map.2 ⟨_,vP h v hv,rfl⟩,?_⟩
  grind[nQ]
 unfold jR;simp_all
theorem Sz.alike{p0:π}{ah:π->Nat->π}{keep:π->Bool}{q0:ρ}{J:ρ->Nat->ρ}{I:ρ->Bool}{names:TZ} 
  (h:Sz p0 ah keep names o)(h':Sz q0 J I names o')(same:∀v:T5,(∀a∈v,a<names.length)->keep (kY p0 ah v)=I (kY q0 J v)):o=o':=by
 obtain⟨l,tw,h1,rfl⟩:=h;obtain⟨l',tw',U,rfl⟩:=h';rcases DG h1 U same 100 102 with⟨e1,e2⟩|⟨m,m',r,e1,e2,hR⟩
 .simp_all
 rw[e1,e2];simp only[Xf];have:m.map jR=m'.map jR:=by
  clear e1 e2
  induction hR using RL.ind with
  |nil=>rfl
  |cons hb _ ih=>grind[II]
 unfold MT;rw[this]
end
def s7(al:TY)(rs:T6)(o:Option Tb):Prop:=Sz (ub (gH rs [])) (oT (gH rs []) al) (keepP (ij rs [] 0)) (al.map (·.s)) o
def rN(al:TY)(rs:T6)(o:Option Tb):Prop:=Sz (sS (iH al rs ([],[])).1) (oU (iH al rs ([],[])).1) (np (iH al rs ([],[])).2) (al.map (·.s)) o
theorem Am(h:Q5 al rs)(I:s7 al rs o)(hf:rN al rs o'):o=o':=
 Sz.alike I hf (λv hv=>(Gi h v (λa ha=>za)).symm)
theorem Ar:∀{l:TY} {i:Nat},mC al i l=[]->(∀t∈l,t.s.size<=8)/\(l≠[]->i+l.length<=6)
 |[],_,_=>⟨λt J=>(US J).elim,λh=>absurd rfl h⟩
 |a::r,i,h=>by
  rw[mC] at h;obtain⟨I,U⟩:=List.append_eq_nil_iff.1 h;unfold zC at I;obtain⟨h3,h4⟩:=List.append_eq_nil_iff.1 I;obtain⟨_,h5⟩:=List.append_eq_nil_iff.1 h4;obtain⟨k1,k2⟩:=Ar U;have ha:a.s.size<=8:=by
   grind[jw]
  have hi:i<6:=by
   simp_all
  refine⟨λt J=>?_,λ_=>?_⟩
  .grind
  rw[UM]
  grind
theorem vI{s:Ub}(h:iz s=.ok (al,rs)):n5 (al.map (·.s)):=by
 have I:=lK h;obtain⟨h1,h2⟩:=Ar (List.append_eq_nil_iff.1 I.nof).1;have h3:=h2 I.ne;have h4:=(Rt.readM_nm h).1;have hd:=I.dist;refine⟨?_,za,λa ha=>?_,?_⟩
 .rw[UL];cases hc:al with
  |nil=>exact absurd hc I.ne
  |cons _ _=>simp
 .obtain⟨t,ht,rfl⟩:=List.mem_map.1 ha;obtain⟨k1,k2⟩:=h4 t ht;obtain⟨k3,k4,k5⟩:=k1.1 k2;refine⟨?_,h1 t ht,k4,k5⟩
  grind[LT]
 show List.Pairwise _ _;rw[Xr];intro i j hi hj hij e;have J:i<al.length:=by simpa using hi
 have U:j<al.length:=by simpa using hj
 rw[WO,WO] at e;have:=hd i j al[i] al[j] (Uq J) (Uq U) (by rw[e]);omega
theorem F6{s:Ub}(h:iz s=.ok (al,rs))(hc:s7 al rs (some t)):Fn t:=by
 obtain⟨e,l,tw,m,I⟩:=Sz.some hc;exact I.right (by rw[e];exact vI h)
def Fn.step(h:Fn t){x:Nat}(I:x<t.nx.length)(ha:a<t.acts.length):∃r k,t.nx[x]?=some r/\r[a]?=some k/\k<t.nx.length:=by
 have e:=Uq I;obtain⟨h1,h2⟩:=h.rs _ (UA e);simp_all
def Fn.go(h:Fn t){x:Nat}(J:x<t.nx.length)(I:a<t.acts.length):((t.nx[x]?.getD [])[a]?).getD 0<t.nx.length:=by
 obtain⟨r,k,h1,h2,h3⟩:=h.step J I;simp_all
open Go.RowKit
def B5(f:Int):bits .and xh f 1=f%2:=by
 show IntKind.i64.wrap ((BitVec.ofInt 64 f&&&BitVec.ofInt 64 1).toNat:Int)=_;rw[BitVec.toNat_and,show(BitVec.ofInt 64 1).toNat=1 from rfl,Nat.and_one_is_mod,BitVec.toNat_ofInt];rw[UR];omega
def Kh(h0:0<=f)(h3:f<=3):bits .and xh f 2=if 2<=f then 2 else 0:=by
 have:f=0\/f=1\/f=2\/f=3:=zo;rcases this with rfl|rfl|rfl|rfl<;>rfl
def Tryz.infoBool:(prog.info? 4).map (λi=>(i.zero,i.size,i.bytes))=some (some (xn false),1,1):=zk
def mA(L:T7):T1:=(L.map xn).toArray
def qV{k:Nat}(h:L[k]?=some x):(mA L)[k]?=some (xn x):=by
 unfold mA;simp_all
theorem Ak(L:T7)(k:Nat)(x:Bool):(mA L).setIfInBounds k (xn x)=mA (L.set k x):=by
 unfold mA;simp
def IV:Ud->Bool
 |xn true=>true
 |_=>false
def Cg(w:Uc)(g:Nat):Nat:=
 match w.heap[g]? with
 |some (xi c _ _)=>c.toList.countP IV
 |_=>0
def EP{g ty:Nat}{m:T3}(h:w.heap[g]?=some (xi (mA L) ty m)):Cg w g=L.count true:=by
 unfold Cg;rw[h];simp only[mA];clear h
 induction L with
 |nil=>rfl
 |cons x r ih=>
  rw[UZ,List.countP_cons,Xh,ih];cases x<;>rfl
structure AL(w wr:Uc)(g:Nat)(T:T1)(L:T7):Prop where
 blk:wr.heap[g]?=some (xi (mA L) 4 (0,0))
 box:wr.heap[w.heap.size]?=some (xi T 36 (0,0))
 bel:XL w wr
def AL.bos{g:Nat}{T:T1}(h:AL w wr g T L):Oz wr (TT g) L:=λj x I=>
 ⟨g,0,rfl,dK h.blk,by rw[U2,EQ h.blk,qV I]⟩
def AL.set{T:T1}(h:AL w wr (w.heap.size+1) T L)(k:Nat):AL w (wr.setCell (TU (w.heap.size+1) k) (xn true)) (w.heap.size+1) T (L.set k true):=by
 refine⟨?_,?_,?_⟩
 .have:=gj h.blk k (xn true);rw[Ak] at this;omega
 .exact zm142
 exact zm133
def BP(z:Tz)(L:T7)(i:Nat):Prop:=∀f r,z.fl[i]?=some f->z.nx[i]?=some r->lv L i=false->f%2=0/\r.any (λx=>lv L x.toNat)=false
def Sf(z:Tz)(L:T7):Prop:=L.length=z.nx.length/\∀i,lv L i=true->LE (nu z) i
def Sf.set{z:Tz}(h:Sf z L){k:Nat}(I:LE (nu z) k):Sf z (L.set k true):=by
 refine⟨by rw[Xd];exact h.1,λi hi=>?_⟩;rw[sP] at hi
 split at hi
 .rename_i e
  rw[<-e.1];exact I
 exact h.2 i hi
def I1{z:Tz}(h:z.fl[i]?=some f)(h1:f%2=1):LE (nu z) i:=by
 refine .acc (f:=(f%2).toNat) ?_ zo;unfold nu;simp_all
def K4{z:Tz}(hs:Sf z L)(h:z.nx[i]?=some r)(I:r.any (λx=>lv L x.toNat)=true):LE (nu z) i:=by
 obtain⟨x,J,e⟩:=WQ.1 I;refine .step (r:=r.map Int.toNat) (j:=x.toNat) ?_ (List.mem_map.2 ⟨x,J,rfl⟩) (hs.2 _ e);unfold nu;simp_all
def NK{z:Tz}(hr:n7 z)(hs:Sf z L)(hc:∀i,i<z.nx.length->BP z L i)(i:Nat):lv L i=true↔LE (nu z) i:=by
 refine CW hs.2 (λi f I J=>?_) (λi r j I J h3=>?_)
 .unfold nu at I;simp only[UG] at I;cases e:z.fl[i]? with
  |none=>simp_all
  |some g=>
   rw[e] at I;have hg:(g%2).toNat=f:=Ue I;have hi:i<z.nx.length:=by have:=(List.getElem?_eq_some_iff.1 e).1;have:=hr.fl;omega
   cases hl:lv L i with
   |true=>rfl
   |false=>
    have:=(hc i hi g _ e (Uq hi) hl).1;omega
 unfold nu at I;simp only[UG] at I;cases e:z.nx[i]? with
 |none=>simp_all
 |some q=>
  rw[e] at I;have U:=Ue I;have hi:=(List.getElem?_eq_some_iff.1 e).1;cases hl:lv L i with
  |true=>rfl
  |false=>
   have hf:i<z.fl.length:=by have:=hr.fl;omega
   have h4:=(hc i hi _ _ (Uq hf) e hl).2;rw[<-U] at J;obtain⟨x,hx,rfl⟩:=List.mem_map.1 J;simp_all
def Tg{k:Nat}(I:L[k]?=some false):L.count true<(L.set k true).count true:=by
 have U:R3 L (L.set k true):=⟨zp,λi hi=>by
  rw[sP];simp_all⟩
 refine U.count.2 λe=>?_
 have J:=(List.getElem?_eq_some_iff.1 I).1;rw[e,List.getElem?_set_self J] at I;cases I
structure Ho(z:Tz)(L0 L:T7)(b:Bool)(k:Nat):Prop where
 s:Sf z L
 t:b=true->L0.count true<L.count true
 f:b=false->L=L0/\∀i,i<k->BP z L i
def Oy(z:Tz)(w':Uc)(e:Ending):Prop:=∃g L,e=xm (xa (TT g) z.nx.length z.nx.length)/\L.length=z.nx.length/\Oz w' (TT g) L/\∀i,lv L i=true↔LE (nu z) i
def Ij{no:TX}(fc nc:Nat)(z:Tz)(hI:SN w ao fo no ac z)(hR:n7 z):
  Calls prog 133 #[.agg #[xa ao z.acts.length ac,xa fo z.fl.length fc,xa no z.nx.length nc]] w λe w'=>Oy z w' e/\XL w w':=by
 have hB:=ir w (xi #[xa ao z.acts.length ac,xa fo z.fl.length fc,xa no z.nx.length nc] 36);have hl3:=hR.n100;have hfa:=Vx hR.fl;have aD:=Vx hR.fl.symm;obtain⟨i0,an,av,aw,aH⟩:=Uk Tryz.infoBool;have hmk:=λ(w:Uc)=>ry (P:=prog) w 87 4 i0 (xn false) underlying87 an av aw rfl zo z.nx.length zo
 clear an av aw aH;have J:mA (List.replicate z.nx.length false)=Array.replicate z.nx.length (xn false):=by
  unfold mA;simp
 have aA:Hid (AL w ((w.alloc (xi #[xa ao z.acts.length ac,xa fo z.fl.length fc,xa no z.nx.length nc] 36)).alloc (xi (Array.replicate z.nx.length (xn false)) 4)) (w.heap.size+1) #[xa ao z.acts.length ac,xa fo z.fl.length fc,xa no z.nx.length nc] (List.replicate z.nx.length false)):=by
  rw[<-J];exact zm148
 clear hB J;go_in;go_wp2_with fail;generalize ((w.alloc (xi #[xa ao z.acts.length ac,xa fo z.fl.length fc,xa no z.nx.length nc] 36)).alloc (xi (Array.replicate z.nx.length (xn false)) 4))=W0 at *
 go_loopw [4] (λmo wr=>∃b L,mo=xn b/\Hid (AL w wr (w.heap.size+1) #[xa ao z.acts.length ac,xa fo z.fl.length fc,xa no z.nx.length nc] L)/\Hid (Sf z L)/\Hid (b=false->∀i,i<z.nx.length->BP z L i)) (λmo wr=>2*(z.nx.length-Cg wr (w.heap.size+1))+(if IV mo then 1 else 0))
 .exact⟨true,_,rfl,aA,⟨zp,λi hi=>by unfold lv at hi;rw[VM] at hi;split at hi<;>cases hi⟩,λh=>Bool.noConfusion h⟩
 obtain⟨b,L,rfl,HA,HS,HC⟩:=hrel;cases b with
 |false=>
  go_wp2;go_ret;exact⟨⟨w.heap.size+1,L,rfl,HS.out.1,HA.out.bos,NK hR HS.out (HC.out zp)⟩,HA.out.bel⟩
 |true=>
  rename Uc=>wR
  have ai:=EQ HA.out.box 2;go_wp2_with fail;clear ai
  go_loopw [4,15] (λmo x wq=>∃(k:Nat)(b:Bool)(M:T7),k<=z.nx.length/\mo=xn b/\x=xd xh k/\Hid (AL w wq (w.heap.size+1) #[xa ao z.acts.length ac,xa fo z.fl.length fc,xa no z.nx.length nc] M)/\Hid (Ho z L M b k)) (λ_ x _=>z.nx.length-(intOf x).toNat)
  .exact⟨0,false,L,Ux,rfl,rfl,HA,⟨HS.out,λh=>Bool.noConfusion h,λ_=>⟨rfl,λi hi=>zo⟩⟩⟩
  obtain⟨k,b,M,hk,rfl,rfl,HA',I⟩:=hrel;rcases zc k z.nx.length with⟨hlt,hkn⟩|⟨hlt,hkn⟩
  .have hkf:(k:Int)<(z.fl.length:Int):=zo;have U:k<z.fl.length:=zo;have aq:k<M.length:=by rw[I.out.s.1];omega
   have bc1:=EQ HA'.out.box 1;have ai:=EQ HA'.out.box 2;have gf:=gh HA'.out.blk k;have gc:=(EQ HA'.out.blk k).trans (qV (Uq aq));have aa:=hI.later HA'.out.bel;obtain⟨rb,off,ro,rc,aF,hb,hcx,ar⟩:=aa.nx k z.nx[k] (Uq hlt);obtain⟨fb,foff,aE,aD,hfc⟩:=aa.fl k z.fl[k] (Uq U);have HX:=fy (Uq hlt);have HY:=fy (Uq U);have HZ:=fy (Uq aq);have aG:=aa.rl z.nx[k] (UY hlt);have ad:=(hR.rs z.nx[k] (UY hlt)).2;subst aF;subst aE;generalize z.nx[k]=r at *;generalize z.fl[k]=f at *;generalize M[k]=y at *;rw[<-I.out.s.1] at ad;have HL:=D6 rc r z.nx.length M ar HA'.out.bos ad aG (by rw[I.out.s.1];omega);rw[I.out.s.1] at HL;clear ar ad;have hlvk:lv M k=y:=by unfold lv;rw[HZ.out];rfl
   cases y with
   |true=>
    have HR2:Hid (Ho z L M b (k+1)):=⟨I.out.s,I.out.t,λe=>⟨(I.out.f e).1,λi hi=>by
     rcases UU i k with h|h
     .exact(I.out.f e).2 i h
     obtain rfl:i=k:=zo;intro f' r' _ _ h3;simp_all⟩⟩
    exact zm163
   |false=>
    have ag:=fy (Tg HZ.out);by_cases hf1:f%2=1
    .have hand:bits .and xh f 1=1:=by rw[B5];omega
     have HS2:Hid (Ho z L (M.set k true) true (k+1)):=⟨I.out.s.set (I1 HY.out hf1),λ_=>by
      cases b with
      |true=>exact Nat.lt_trans (I.out.t rfl) ag.out
      |false=>rw[<-(I.out.f rfl).1];trivial,λe=>Bool.noConfusion e⟩
     have HA2:=HA'.out.set k;clear hlvk hf1;exact zm158
    have hand:bits .and xh f 1=0:=by rw[B5];omega
    generalize hld:(r.any λx=>lv M x.toNat)=ld at *;have aB:=fy hld;clear hld;have ak:f%2=0:=zo;have HF0:=fy ak;clear hf1 ak
    go_wp2_with (refine HL.mono ?_)
    rintro e w2 ⟨rfl,au⟩;have h2:=au.symm;clear au;subst h2;cases ld with
    |true=>
     have HS2:Hid (Ho z L (M.set k true) true (k+1)):=⟨I.out.s.set (K4 I.out.s HX.out aB.out),λ_=>by
      cases b with
      |true=>exact Nat.lt_trans (I.out.t rfl) ag.out
      |false=>rw[<-(I.out.f rfl).1];trivial,λe=>Bool.noConfusion e⟩
     have HA2:=HA'.out.set k;clear hlvk;exact zm158
    |false=>
     have HR2:Hid (Ho z L M b (k+1)):=⟨I.out.s,I.out.t,λe=>⟨(I.out.f e).1,λi hi=>by
      rcases UU i k with h|h
      .exact(I.out.f e).2 i h
      obtain rfl:i=k:=zo;intro f' r' h1 h2 _;rw[HY.out] at h1;rw[HX.out] at h2;cases h1;cases h2;trivial⟩⟩
     exact zm163
  have U:k=z.nx.length:=zo;subst U;have HM:Hid (2*(z.nx.length-Cg wr (w.heap.size+1))+(if IV (xn b) then 1 else 0)<2*(z.nx.length-Cg wR (w.heap.size+1))+(if IV (xn true) then 1 else 0)):=by
   show _<_;rw[EP HA'.out.blk,EP HA.out.blk];have h1:=List.count_le_length (a:=true) (l:=M);rw[I.out.s.1] at h1;cases b with
   |true=>
    have:=I.out.t rfl;omega
   |false=>
    have:=(I.out.f rfl).1;rw[this];simp[IV]
  go_wp2
  go_roundw
  case rel=>exact⟨b,M,rfl,HA',I.out.s,λe i hi=>(I.out.f e).2 i hi⟩
  trivial
def FH(L:T7)(i:Nat)(f:Int):Prop:=0<=f/\f<=3/\(2<=f↔lv L i=true)
def DZ{z:Tz}(h:∀i,lv L i=true↔LE (nu z) i):pD z↔ ∀(i:Nat)(f:Int),z.fl[i]?=some f->FH L i f:=by
 unfold pD FH;simp_all
def zQ{no:TX}{fc nc:Nat}(z:Tz)(hI:SN w ao fo no ac z)(hR:n7 z):
  Calls prog 87 #[.agg #[xa ao z.acts.length ac,xa fo z.fl.length fc,xa no z.nx.length nc]] w λe w'=>Lz (pD z) e/\XL w w':=by
 have hB:=ir w (xi #[xa ao z.acts.length ac,xa fo z.fl.length fc,xa no z.nx.length nc] 36);have aq:=Ij fc nc z (hI.later hB) hR;have ad:=gi w (xi #[xa ao z.acts.length ac,xa fo z.fl.length fc,xa no z.nx.length nc] 36);have hl3:=hR.n100;have hfa:=Vx hR.fl;have av:=Vx hR.fl.symm;clear hR;go_in
 go_wp2_with (refine aq.mono ?_)
 rintro e w1 ⟨⟨g,L,rfl,au,hL,ag⟩,U⟩;generalize w.alloc (xi #[xa ao z.acts.length ac,xa fo z.fl.length fc,xa no z.nx.length nc] 36)=W at *;have aj:=(U.block _ (dK ad)).trans ad;have HB1:=hB.trans (U.mono hB.size);have ar:=hI.later HB1;have bc1:=EQ aj 1;have I:=fy (DZ ag);have hLa:L.length<=z.nx.length:=zo;have hLb:z.nx.length<=L.length:=zo;clear aj ag au U;go_wp2
 go_loopw [9] (λx wr=>∃k:Nat,k<=z.nx.length/\x=xd xh k/\Hid (w1=wr)/\Hid (∀(i:Nat)(f:Int),i<k->z.fl[i]?=some f->FH L i f)) (λx _=>z.nx.length-(intOf x).toNat)
 .exact⟨0,Ux,rfl,rfl,λi f hi=>zo⟩
 obtain⟨k,hk,rfl,HW,HK⟩:=hrel;have hw:=HW.out;subst hw;clear HW;rcases zc k z.nx.length with⟨hlt,hkn⟩|⟨hlt,hkn⟩
 .have hkf:(k:Int)<(z.fl.length:Int):=zo;have ak:k<z.fl.length:=zo;have ay:k<L.length:=zo;obtain⟨fb,foff,rfl,av,hfc⟩:=ar.fl k z.fl[k] (Uq ak);obtain⟨gb,goff,ax,hgb,aw⟩:=hL k L[k] (Uq ay);cases ax;rw[U2] at aw;have HY:=fy (Uq ak);have J:lv L k=L[k]:=by unfold lv;simp_all
  have ae:=fy J;clear J;generalize z.fl[k]=f at *;generalize L[k]=y at *;by_cases h0:f<0
  .have HN:Hid (¬ pD z):=λh=>by
    have:=(I.out.1 h k f HY.out).1;omega
   exact zm94
  by_cases h3:3<f
  .have HN:Hid (¬ pD z):=λh=>by
    have:=(I.out.1 h k f HY.out).2.1;omega
   exact zm94
  have hand:=Kh (f:=f) zo zo;by_cases hok:2<=f↔y=true
  .have HK2:Hid (∀(i:Nat)(f:Int),i<k+1->z.fl[i]?=some f->FH L i f):=λi f' hi aa=>by
    rcases UU i k with h|h
    .exact HK.out i f' h aa
    obtain rfl:i=k:=zo;rw[HY.out] at aa;cases aa;exact⟨zo,zo,by rw[ae.out];omega⟩
   cases y with
   |true=>
    rw[Uh (hok.2 rfl)] at hand;clear hok;exact zm106
   |false=>
    rw[T' (λh=>Bool.noConfusion (hok.1 h))] at hand;clear hok;exact zm106
  have HN:=fy (λh=>by
   have:=(I.out.1 h k f HY.out).2.2;rw[ae.out] at this;exact hok this)
  cases y with
  |true=>
   rw[T' (λh=>hok ⟨λ_=>rfl,λ_=>h⟩)] at hand;clear hok;exact zm94
  |false=>
   rw[Uh (by
    simp_all)] at hand
   clear hok;exact zm94
 go_wp2;go_ret;refine⟨Lz.yes (I.out.2 λi f hf=>HK.out i f ?_ hf),HB1⟩;have:=(List.getElem?_eq_some_iff.1 hf).1;omega
def Af{no:TX}(fc nc:Nat){z:Tz}(hI:SN w ao fo no ac z)(hG:GV w):
  Calls prog 45 #[.agg #[xa ao z.acts.length ac,xa fo z.fl.length fc,xa no z.nx.length nc]] w λe w'=>Lz (iS z) e/\XL w w':=by
 have hB:=ir w (xi #[xa ao z.acts.length ac,xa fo z.fl.length fc,xa no z.nx.length nc] 36);have aj:=gi w (xi #[xa ao z.acts.length ac,xa fo z.fl.length fc,xa no z.nx.length nc] 36);have HA:=Bv ((hI.later hB).acts) hI.ac (hG.later hB) hI.al;have HZ:=fy (AT z);clear hG;go_in
 go_wp2_with (refine HA.mono ?_)
 rintro e w1 ⟨⟨b1,rfl,h1⟩,ae⟩;generalize w.alloc (xi #[xa ao z.acts.length ac,xa fo z.fl.length fc,xa no z.nx.length nc] 36)=W at *;have I:=(ae.block _ (dK aj)).trans aj;have ai:=I;have HB1:=hB.trans (ae.mono hB.size);clear ae;have U:=EQ I 0;have aa:=EQ I 1;have ad:=EQ I 2;clear I;have av:=hI.later HB1;cases b1 with
 |false=>
  have HN:Hid (¬ iS z):=λh=>Bool.noConfusion (h1.2 (HZ.out.1 h).1)
  clear h1;exact zm94
 |true=>
  have H1:=h1.1 rfl;clear h1
  go_wp2_with (refine(Bw z av).mono ?_)
  rintro e w2 ⟨⟨b2,rfl,h2⟩,ag⟩;have I:=(ag.block _ (dK ai)).trans ai;have J:=HB1.trans (ag.mono HB1.size);clear ag U aa ad;have U:=EQ I 0;have aa:=EQ I 1;have ad:=EQ I 2;clear I;have aw:=hI.later J;cases b2 with
  |false=>
   have HN:Hid (¬ iS z):=λh=>Bool.noConfusion (h2.2 (HZ.out.1 h).2.1)
   clear h2;go_wp2;go_ret;exact⟨Lz.no HN.out,J⟩
  |true=>
   have H2:=h2.1 rfl;clear h2
   go_wp2_with (refine(zQ z aw H2).mono ?_)
   rintro e w3 ⟨⟨b3,rfl,h3⟩,an⟩;have au:=J.trans (an.mono J.size);clear an U aa ad;have H3:Hid (b3=true↔iS z):=by
    show _↔_;rw[h3,HZ.out];exact⟨λh=>⟨H1,H2,h⟩,λh=>h.2.2⟩
   clear h3;go_wp2;go_ret;exact⟨⟨b3,rfl,H3.out⟩,au⟩
end Go.Proofs.YtidakhhekofkoaaGreatDoor
