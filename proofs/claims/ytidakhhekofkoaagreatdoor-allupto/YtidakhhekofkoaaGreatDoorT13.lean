import Derived.Test.YtidakhhekofkoaaGreatDoorT20
import Derived.Test.YtidakhhekofkoaaGreatDoorT19
import Derived.Test.YtidakhhekofkoaaGreatDoorT12
set_option linter.all false
set_option maxHeartbeats 8000000
set_option maxRecDepth 100000
namespace Go.Proofs
def VN:=@Go.wpList_lookup_own_ok_int
end Go.Proofs
namespace Go.Proofs.YtidakhhekofkoaaGreatDoor
attribute [local go_sem] TT TU TV XL
attribute [local simp] TT TU TV XL
open Go.Proofs.Tryz
open Go.RowKit Go.Deep Go.Maps
open Value renaming slice->xa,int->xd,string->xj,pointer->xk,bool->xn
open IntKind renaming i64->xh
open Obj renaming cells->xi
open Ending renaming returned->xm
open List renaming range->QX
open World renaming setCell->Rp,ownsMap_made->Rz,cell?->RD
open Or renaming inr->Ru
variable{zq:Prop}
variable{W W' V W1 W2 w w':Uc}{n H mb bb lc hc cap g2 j a3 m2 m3 sb sc tb sc' nb:Nat}{D D':DataW Unit}{m x:T3}{rv xs rv':TW}{lo ho a1 m1 so so':TX}{r:T5}{al:TY}{rs:T6}{σ π:Type}{ms ms':List (T7)}{b s0:T7}{A F X:Ud}{t:Tb}{e:Ending}{o:Option Tb}{p:Bool × T7}{L:List Nd}
def zm101(h:zq:=by
 apply zS 4
 try simp only[Act.put,UT,Ve,Vf,Va,U7,U6]
 exact hG
 ):zq:=h
def zm115(h:zq:=by
 show _=_;rw[Xg,El,HRN.out]
 ):zq:=h
def zm126(h:zq:=by
 rw[Dk] at this;show _=_;rw[yK hjl HQL.out rfl];omega
 ):zq:=h
def zm130(h:zq:=by
 rw[HRN.out,WV] at this;omega
 ):zq:=h
def zm152(h:zq:=by
 show _=_;rw[HEQ.out,hn2,Ko HX.out (by rw[HRN.out];exact hbig),HRN.out,show 102-(k+1)=n2 from zo]
 ):zq:=h
def E0(s:Nat):WideAt.IsKeyLit (tW s):=trivial
def ud(l:T5):TW:=l.map λp:Nat=>xd .u32 (p:Int)
def QP(l r:T5):ud (l++r)=ud l++ud r:=by unfold ud;simp
def TJ(W:Uc)(base H:Nat)(rv:TW)(tw:T0):Prop:=
 ∀(j:Nat)(r:T5),tw[j]?=some r->∃g,rv[j]?=some (xa (TT g) r.length r.length)/\base<=g/\g<H/\W.heap[g]?=some (xi (lz r) 3 (0,0))
structure SX(V W:Uc)(mb bb:Nat)(lo:TX)(lc:Nat)(l:T5)(D:DataW Unit)(ho:TX)(hc:Nat)(rv:TW)(tw:T0)(H:Nat):Prop where
 blk:W.heap[bb]?=some (xi #[xa ho tw.length hc,xj ⟨#[]⟩] 153 (0,0))
 hbb:V.heap.size<=bb
 pl:W.ownsRow V.heap.size 147 1 (xa lo l.length lc) l.length (ud l)
 mp:W.ownsMap prog 147 (plainElem prog 3) mb l.length D
 hmb:V.heap.size<=mb
 num:SM tW D l
 ah:W.ownsRow V.heap.size 33 1 (xa ho tw.length hc) tw.length rv
 rows:TJ W V.heap.size H rv tw
 hH:H<=W.heap.size
 bel:XL V W
theorem rz{b:Nat}(h:W.ownsMap prog 147 (plainElem prog 3) b n D){c:T1}{ty:Nat}{k:Nat}(hk:W.heap[k]?=some (xi c ty m)):k≠b:=by
 rintro rfl;obtain⟨es,clock,h1,_⟩:=h;simp_all
theorem TJ.keep{base:Nat}{tw:T0}(h:TJ W base H rv tw)(hk:∀g c,g<H->W.heap[g]?=some (xi c 3 (0,0))->W'.heap[g]? =W.heap[g]?):TJ W' base H rv tw:=by grind[TJ]
def SX.later{l:T5}{tw:T0}(h:SX V W mb bb lo lc l D ho hc rv tw H)(I:XL W W'):SX V W' mb bb lo lc l D ho hc rv tw H:=
 ⟨(I.block _ (dK h.blk)).trans h.blk,h.hbb,gq h.pl I,h.mp.kept (gE I none) zp,h.hmb,h.num,gq h.ah I,h.rows.keep (λg c _ hg=>I.block g (dK hg)),UP h.hH I.size,h.bel.trans (I.mono h.bel.size)⟩
def SX.mapped{l:T5}{tw:T0}(h:SX V W mb bb lo lc l D ho hc rv tw H)(hg:W.grownBy W' (some mb)):
  W'.heap[bb]?=some (xi #[xa ho tw.length hc,xj ⟨#[]⟩] 153 (0,0))/\W'.ownsRow V.heap.size 147 1 (xa lo l.length lc) l.length (ud l)/\W'.ownsRow V.heap.size 33 1 (xa ho tw.length hc) tw.length rv/\TJ W' V.heap.size H rv tw/\H<=W'.heap.size/\XL V W':=by
 have I:∀{c:T1} {ty:Nat} {m:T3} {k:Nat},W.heap[k]?=some (xi c ty m)->some k≠some mb:=λhk e=>rz h.mp hk (Ue e)
 refine⟨(hg.block _ (dK h.blk) (I h.blk)).trans h.blk,gG h.pl hg ?_,gG h.ah hg ?_,h.rows.keep (λg c _ aa=>hg.block g (dK aa) (I aa)),UP h.hH hg.size,h.bel.grown hg h.bel.size (λb U=>by cases U;exact h.hmb)⟩
 .intro b U e;obtain⟨c,J⟩:=jj h.pl e;exact I J U.symm
 intro b U e;obtain⟨c,J⟩:=jj h.ah e;exact I J U.symm
theorem SX.place{W3:Uc}{l:T5}{tw:T0}(h:SX V W mb bb lo lc l D ho hc rv tw H){p:Nat}(hp:iV p l 0=none)
  (hm:W1.ownsMap prog 147 (plainElem prog 3) mb (l.length+1) (D.put (tW p) (.lit (.int xh (l.length:Nat)))))(aj:W.grownBy W1 (some mb))(I:XL W1 W2){g:Nat}
  (ho3:W3.ownsRow V.heap.size 147 1 (xa (TT g) (l.length+1) cap) (l.length+1) (ud l++[xd .u32 (p:Int)]))(J:W2.grownBy W3 (xa lo l.length lc).ownBlock):
  SX V W3 mb bb (TT g) cap (l++[p]) (D.put (tW p) (.lit (.int xh (l.length:Nat)))) ho hc rv tw H:=by
 obtain⟨k1,k2,k3,k4,k5,k6⟩:=h.mapped aj;have U:=(I.block _ (dK k1)).trans k1;have ae:=gq k2 I;have k3':=gq k3 I;have ao:=k4.keep (λg c _ hg=>I.block g (dK hg));have ak:=hm.kept (gE I none) zp;have ag:=k6.trans (I.mono k6.size);have ad:∀{c:T1} {ty k:Nat},W2.heap[k]?=some (xi c ty (0,0))->ty≠147->some k≠(xa lo l.length lc).ownBlock:=λhk an e=>gz ae e.symm hk an
 refine⟨(J.block _ (dK U) (ad U zp)).trans U,h.hbb,?_,?_,h.hmb,h.num.put E0 EZ hp,?_,?_,?_,?_⟩
 .grind[ud]
 .rw[Ur];refine ak.kept J (λe=>?_)
  grind[jj,rz]
 .grind[gG,jj]
 .exact ao.keep (λg c _ aa=>J.block g (dK aa) (ad aa zp))
 .exact UP k5 (UP I.size J.size)
 exact ag.grown J ag.size (λb hb=>(gJ ae b hb).1)
def SX.cell{l:T5}{tw:T0}(h:SX V W mb bb lo lc l D ho hc rv tw H){g:Nat}(hgH:H<=g)(hgV:V.heap.size<=g){c:T1}(J:W.heap[g]?=some (xi c 3 (0,0)))(i:Nat)(v:Ud):SX V (W.setCell (TU g i) v) mb bb lo lc l D ho hc rv tw H:=by
 have hg:=gp W g i v;have U:∀{c:T1} {ty k:Nat},W.heap[k]?=some (xi c ty (0,0))->ty≠3->some k≠some g:=λhk hne e=>by
  simp_all
 refine⟨(hg.block _ (dK h.blk) (U h.blk zp)).trans h.blk,h.hbb,gG h.pl hg ?_,h.mp.kept hg (λe=>rz h.mp J (Ue e).symm),h.hmb,h.num,gG h.ah hg ?_,?_,?_,?_⟩
 .intro b hb e;obtain⟨c',I⟩:=jj h.pl e;simp_all
 .intro b hb e;obtain⟨c',I⟩:=jj h.ah e;simp_all
 .exact h.rows.keep (λk c' hkH hk=>hg.block k (dK hk) (λe=>by cases e;omega))
 .simpa [Rp] using h.hH
 exact h.bel.grown hg h.bel.size (λb hb=>za)
theorem SX.row{l:T5}{tw:T0}(h:SX V W mb bb lo lc l D ho hc rv tw H){g:Nat}(ay:V.heap.size<=g)(an:W.heap[g]?=some (xi (lz r) 3 (0,0)))
  (ak:XL W W1)(ho2:W2.ownsRow V.heap.size 33 1 (xa (TT g2) (tw.length+1) cap) (tw.length+1) (rv++[xa (TT g) r.length r.length]))(I:W1.grownBy W2 (xa ho tw.length hc).ownBlock):
  SX V (W2.setCell (TU bb 0) (xa (TT g2) (tw.length+1) cap)) mb bb lo lc l D (TT g2) cap (rv++[xa (TT g) r.length r.length]) (tw++[r]) W.heap.size:=by
 have J:=h.later ak;have aa:=(ak.block _ (dK an)).trans an;have hrl:rv.length=tw.length:=by have:=h.ah.1;omega
 have ao:∀{c:T1} {ty k:Nat},W1.heap[k]?=some (xi c ty (0,0))->ty≠33->some k≠(xa ho tw.length hc).ownBlock:=λhk av e=>gz J.ah e.symm hk av
 have ag:=(I.block _ (dK J.blk) (ao J.blk zp)).trans J.blk;have aw:=gG J.pl I (λb hb e=>by obtain⟨c,ar⟩:=jj J.pl e;grind);have ai:=J.mp.kept I (λe=>by obtain⟨c,ar⟩:=jj J.ah e.symm;exact rz J.mp ar rfl);have U:=J.bel.grown I J.bel.size (λb hb=>(gJ J.ah b hb).1);have ad:=(I.block _ (dK aa) (ao aa zp)).trans aa;have hs:=gp W2 bb 0 (xa (TT g2) (tw.length+1) cap);have aj:∀{c:T1} {ty k:Nat},W2.heap[k]?=some (xi c ty (0,0))->ty≠153->some k≠some bb:=λhk av e=>by
  simp_all
 have ae:=J.rows.keep (λk c _ hk=>I.block k (dK hk) (ao hk zp));have aB:W.heap.size<=(W2.setCell (TU bb 0) (xa (TT g2) (tw.length+1) cap)).heap.size:=by
  have:=ak.size;have:=I.size;simp[Rp];omega
 refine⟨?_,h.hbb,gG aw hs (λb hb e=>by grind[jj]),ai.kept hs (λe=>rz ai ag (Ue e).symm),h.hmb,h.num,?_,?_,aB,U.grown hs U.size (λb hb=>by cases hb;exact h.hbb)⟩
 .have:=gj ag 0 (xa (TT g2) (tw.length+1) cap);simp_all
 .grind[gG,jj]
 intro j q hq;rcases UU j tw.length with hj|hj
 .rw[UJ hj] at hq;obtain⟨k,k1,k2,k3,k4⟩:=ae j q hq;exact⟨k,by grind,k2,Uw k3 h.hH,(hs.block k (dK k4) (aj k4 zp)).trans k4⟩
 rw[Uv hj] at hq;have az:j-tw.length=0:=by
  grind
 rw[az] at hq;have aA:r=q:=za;subst aA;refine⟨g,?_,ay,dK an,(hs.block g (dK ad) (aj ad zp)).trans ad⟩
 grind
def QU(w:Uc)(al:TY)(rs:T6)(w':Uc)(e:Ending):Prop:=
 ∃l tw ro rc,e=xm (.agg #[xa ro tw.length rc,xj (gK (l.map (keepP (ij rs [] 0))))])/\R7 (oT (gH rs []) al) (QX al.length) (ub (gH rs [])) l.length l tw/\S9 w' ro (tw.map zI)/\XL w w'/\l.length<=131072
theorem Fx(h:j<al.length):(kp al)[j]?=some (xj (rA al j)):=by
 unfold rA kp;simp_all
theorem yF(I:Q5 al rs){k:Nat}{l:T5}{tw:T0}(h:R7 (oT (gH rs []) al) (QX n) (ub (gH rs [])) k l tw):l.length<=131072/\∀p∈l,p<4294967296:=by
 have hn:(gH rs []).length<=16:=by
  rw[pA];simpa using I.nodes
 obtain⟨h1,h2⟩:=GC h;have h3:2^((gH rs []).length+1)<=2^17:=VO zp zo
 grind
def Tryz.infoRowP:(prog.info? 33).map (λi=>(i.zero,i.size,i.bytes))=some (some TV,1,24):=zk
def Tryz.infoPl:(prog.info? 147).map (λi=>(i.zero,i.size,i.bytes))=some (some (xd .u32 0),1,4):=zk
theorem NQ[DecidableEq σ](l:List σ)(s:σ):(jx l s).1.length<=l.length+1:=by
 grind[jx]
theorem vR[DecidableEq σ](st:σ->Nat->σ)(s:σ):∀(I:T5)(l:List σ),(jv st s I l).1.length<=l.length+I.length:=by intro J;induction J<;>grind[NQ,jv,jx]
def OO(I:Q5 al rs)(p a:Nat):oT (gH rs []) al p a<4294967296:=by
 have hn:(gH rs []).length<=16:=by rw[pA];simpa using I.nodes
 exact Uw (rh) (UP (VO zp (show _<=32 from zo)) zp)
theorem SX.rws{l:T5}{tw:T0}(h:SX V W mb bb lo lc l D ho hc rv tw H)(hk:∀(k:Nat)(c:T1)(ty:Nat),W.heap[k]?=some (xi c ty (0,0))->ty=3\/ty=33->W'.heap[k]? =W.heap[k]?):S9 W' ho (tw.map zI):=λj r hr=>by
 rw[UG] at hr;cases e:tw[j]? with
 |none=>simp_all
 |some q=>
  rw[e] at hr;have hq:=Ue hr;subst hq;have hj:=(List.getElem?_eq_some_iff.1 e).1;obtain⟨g,h1,h2,h3⟩:=gT h.ah hj;obtain⟨g2,k1,_,_,k4⟩:=h.rows j q e;subst h1;obtain⟨c,U⟩:=jj h.ah (b:=g) rfl;have aa:=hk g _ _ U (Ru rfl);have I:=(hk g2 _ _ k4 (Or.inl rfl)).trans k4;refine⟨g,0,TT g2,q.length,rfl,?_,?_,λi x J=>?_⟩
  .grind
  .rw[U2,V5 (a:=⟨g,j,none⟩) aa,h3,k1];unfold zI;simp
  unfold zI at J;rw[UG] at J;cases e2:q[i]? with
  |none=>simp_all
  |some y=>
   rw[e2] at J;have hy:(y:Int)=x:=Ue J;exact⟨g2,0,rfl,dK I,by rw[U2,EQ I,sU e2,hy]⟩
def C4(w:Uc)(n:Nat)(hn:n<=10000000000):(Instr.makeSlice 33 (xd xh (n:Int)) (xd xh (n:Int))).run prog w=.ok (xa (TT w.heap.size) n n) (w.alloc (xi (Array.replicate n (xd xh 0)) 3)):=by
 obtain⟨i0,I,J,U,hz2⟩:=Uk Tryz.infoI64;exact ry (P:=prog) w 33 3 i0 (xd xh 0) underlying33 I J U rfl zo n hn
theorem xJ(hM:Q5 al rs){cells:TW}(ha:w.ownsRow 0 9 1 (xa a1 al.length a3) al.length (kp al))(hr:w.ownsRow 0 144 3 (xa m1 m2 m3) rs.length cells)(hp:SI w rs cells)(h6:al.length<=6):
  Calls prog 80 #[.agg #[xa a1 al.length a3,xa m1 m2 m3]] w λe w'=>QU w al rs w' e:=by
 have hB:XL w ((w.alloc (xi #[xa a1 al.length a3,xa m1 m2 m3] 78)).alloc (xi #[TV,xj ⟨#[]⟩] 153)):=gC.alloc zp _;have HW:=Ae a1 al.length a3 (gq hr hB) (hp.keep (KB.below hB)) hM.nodes hM.rlen (λr hr=>(hM.fg r hr).ne);have bT:=gq ha hB;have aW:Hid (((w.alloc (xi #[xa a1 al.length a3,xa m1 m2 m3] 78)).alloc (xi #[TV,xj ⟨#[]⟩] 153)).heap[w.heap.size]?=some (xi #[xa a1 al.length a3,xa m1 m2 m3] 78 (0,0))):=(XD zp).trans (gi _ _);have ae:Hid (((w.alloc (xi #[xa a1 al.length a3,xa m1 m2 m3] 78)).alloc (xi #[TV,xj ⟨#[]⟩] 153)).heap[w.heap.size+1]?=some (xi #[TV,xj ⟨#[]⟩] 153 (0,0))):=gu zp;have HG:=tP hM;have dd:ij rs [] 0<4294967296:=Uw (sk rs [] 0 zp (λr hr=>(hM.fg r hr).ne)) (UP (VO zp (show _<=32 by have:=(tP hM).len;omega)) zp);have hmm:=@run_makeMap prog;obtain⟨i0,cW,de,df,dh⟩:=Uk Tryz.infoPl;obtain⟨r0,dc,cy,cA,cB⟩:=Uk Tryz.infoRowP;clear ha hr hp;go_in;go_wp2_with fail;refine HW.mono ?_;generalize ((w.alloc (xi #[xa a1 al.length a3,xa m1 m2 m3] 78)).alloc (xi #[TV,xj ⟨#[]⟩] 153))=W0 at *;rintro e w1 ⟨so,sc,rfl,cC,ao⟩;have aA:=ir w1 (xi #[xa so (gH rs []).length sc,xd .u32 ((ij rs [] 0:Nat):Int)] 149);have bu:=hB.trans ((ao.trans (aA.mono ao.size)).mono hB.size);have aE:=cC.later aA;have cJ:=gq (gq bT ao) aA;have bB:=(aA.block _ (Uw (dK aW.out) ao.size)).trans ((ao.block _ (dK aW.out)).trans aW.out);have bC:=(aA.block _ (Uw (dK ae.out) ao.size)).trans ((ao.block _ (dK ae.out)).trans ae.out);have ak:=gi w1 (xi #[xa so (gH rs []).length sc,xd .u32 ((ij rs [] 0:Nat):Int)] 149);clear cC ao aA HW bT aW ae hB;have aV:=fy (λW h=>xW W so sc (ij rs [] 0) h HG);go_wp2_with fail;generalize hV:w1.alloc (xi #[xa so (gH rs []).length sc,xd .u32 ((ij rs [] 0:Nat):Int)] 149)=V at *;refine(aV.out V aE).mono ?_;rintro e w3 ⟨rfl,ai⟩;have c8:ub (gH rs [])<4294967296:=by
  have:=(yF hM (R7.start (oT (gH rs []) al) (QX al.length) (ub (gH rs [])))).2 (ub (gH rs [])) zp;omega
 have cv:kz (gH rs []) []=ub (gH rs []):=rfl;rw[cv] at aV|-;have bV:=R7.start (oT (gH rs []) al) (QX al.length) (ub (gH rs []));generalize hP0:ub (gH rs [])=p0 at *;have cL:=fy hP0;have a7:XL w3 ((w3.alloc (xi #[xd .u32 (p0:Int)] 147)).alloc (.map #[] 0)):=gC.alloc zp _;have aP:=(ai.block _ (dK ak)).trans ak;have wc:=EQ aP;have cG:=dK aP;have bg:=aE.later (ai.trans (a7.mono ai.size));clear cv hP0;go_wp2_with fail;refine(aV.out _ bg).mono ?_;rintro e w4 ⟨rfl,a6⟩;have ck:w4.ownsMap prog 147 (plainElem (H:=Unit) prog 3) (w3.heap.size+1) 0 (.map []):=by
  have k:=Rz (H:=Unit) (w3.alloc (xi #[xd .u32 (p0:Int)] 147)) prog 147 (plainElem prog 3);have e:(w3.alloc (xi #[xd .u32 (p0:Int)] 147)).heap.size=w3.heap.size+1:=zp;rw[e] at k;exact k.kept (gE a6 none) zp
 have bq:w4.ownsRow V.heap.size 147 1 (xa (TT w3.heap.size) 1 1) 1 (ud [p0]):=by
  refine gq (w:=(w3.alloc (xi #[xd .u32 (p0:Int)] 147)).alloc (.map #[] 0)) ⟨rfl,.inr ⟨w3.heap.size,1,_,rfl,ai.size,(XD zp).trans (gi _ _),XH,zd,rfl,rfl⟩⟩ a6
 have av:=(ai.trans (a7.mono ai.size)).trans (a6.mono (UP ai.size a7.size));obtain⟨w5,cw,cl,bH⟩:=ck.update Gl underlying218 zd (Gk c8) (plainElem_int (a:=0) underlying3 zf);have cF:=(av.block _ (dK ak)).trans ak;have bW:Hid (SX V (w5.alloc (xi #[TV,xj ⟨#[]⟩] 153)) (w3.heap.size+1) w5.heap.size (TT w3.heap.size) 1 [p0] ((DataW.map []).put (tW p0) (.lit (.int xh ((0:Nat):Int)))) none 0 [] [] w5.heap.size):=by
  have bE:=av.grown bH av.size (λb hb=>by cases hb;have:=ai.size;omega);have aa:=ir w5 (xi #[TV,xj ⟨#[]⟩] 153);refine⟨gi _ _,bE.size,gq (gG bq bH (λb hb e=>?_)) aa,(cl.kept (gE aa none) zp),by have:=ai.size;omega,(SM.nil tW).put E0 EZ rfl,XG,λj r hr=>zv,aa.size,bE.trans (aa.mono bE.size)⟩
  grind[jj,rz]
 clear ck bq av cl bH cF a7 aP ai a6 wc cG bg aV;go_wp2_with fail;clear cw;generalize w5.alloc (xi #[TV,xj ⟨#[]⟩] 153)=w6 at *;generalize w5.heap.size=bb at *;generalize w3.heap.size+1=mb at *;have hmk:=λW:Uc=>C4 W al.length zo
 have aO:=dK ak
 go_loopw [4,7] (λpv x wr=>∃(k:Nat)(lo:TX)(lc:Nat)(l:T5)(D:DataW Unit)(ho:TX)(hc:Nat)(rv:TW)(tw:T0)(H:Nat),x=xd xh k/\pv=xa lo l.length lc/\Hid (SX V wr mb bb lo lc l D ho hc rv tw H)/\Hid (R7 (oT (gH rs []) al) (QX al.length) p0 k l tw)) (λ_ x _=>131073-(intOf x).toNat)
 .exact⟨0,TT w3.heap.size,1,[p0],_,none,0,[],[],_,rfl,rfl,bW,bV⟩
 obtain⟨k,lo,lc,l,D,ho,hc,rv,tw,H,rfl,rfl,ae,aU⟩:=hrel;have aJ:l.length<=131072/\∀p∈l,p<4294967296:=by
  grind[gQ,yF]
 have bG:=aJ.1;have bw:=fy aJ.2;have hkl:=aU.out.le;have cD:=aU.out.len;have cO:=fy cD;clear aJ cD;have J:=ae.out.bel;have cn:wr.cell? (TU w.heap.size 0)=some (xa a1 al.length a3):=(Fd J _ _ (dK bB)).trans (EQ bB 0);have cp:=Uw (dK bB) J.size;rcases zc k l.length with⟨hlt,hkn⟩|⟨hlt,hkn⟩
 .obtain⟨pb,c7,ct,c9⟩:=gT ae.out.pl hlt;have HX:=fy (Uq hlt);have c':=bw.out l[k] (UY hlt);subst c7;generalize l[k]=px at *;have cV:(wr.alloc (xi (Array.replicate al.length (xd xh 0)) 3)).heap[wr.heap.size]?=some (xi (lz (jN [] al.length 0)) 3 (0,0)):=by
   grind[vj,gi,jN]
  have bX:=ae.out.later ((XF).alloc (XH) (xi (Array.replicate al.length (xd xh 0)) 3));have b5:=ae.out.hH;have bD:=ae.out.bel.size;clear J c9 ct;go_wp2_with fail;generalize wr.alloc (xi (Array.replicate al.length (xd xh 0)) 3)=wA at *;generalize wr.heap.size=g at *;clear cn cp bw
  rename Uc=>wR
  go_loopw [4,36] (λpv x wq=>∃(j:Nat)(lo:TX)(lc:Nat)(M:T5)(D:DataW Unit)(q:T5),j<=al.length/\x=xd xh j/\pv=xa lo M.length lc/\Hid (SX V wq mb bb lo lc M D ho hc rv tw H)/\Hid (wq.heap[g]?=some (xi (lz (jN q al.length j)) 3 (0,0)))/\Hid (jv (oT (gH rs []) al) px (QX j) l=(M,q))) (λ_ x _=>al.length-(intOf x).toNat)
  .exact⟨0,TT pb,lc,l,D,[],Ux,rfl,rfl,bX,cV,rfl⟩
  obtain⟨j,lo,bQ,M,D2,q,hj,rfl,rfl,U,bA,HRN⟩:=hrel;have aN:=oI (oT (gH rs []) al) px (QX j) l;rw[HRN.out] at aN;obtain⟨⟨xs,aX,_⟩,da,_,_⟩:=aN;have hMle:M.length<=l.length+j:=by
   have:=vR (oT (gH rs []) al) px (QX j) l;exact zm130
  have br:q.length=j:=za;have HQL:=fy br;have cY:k<M.length:=by have:=congrArg List.length aX;simp at this;omega
  have b6:M[k]?=some px:=by rw[show M=l++xs from aX,UJ hlt];trivial
  clear da br;rcases zc j al.length with⟨hjl,hjn⟩|⟨hjl,hjn⟩
  .have hkMn:(k:Int)<(M.length:Int):=zo;have J:=U.out.bel;obtain⟨aS,cj,bo,bn⟩:=gT U.out.pl cY;have cu:wr.cell? (TU aS k)=some (xd .u32 (px:Int)):=bn.trans (by unfold ud;simp_all);obtain⟨ab,cR,b7,b8⟩:=gT (gq cJ J) hjl;have b9:=b8.trans (Fx hjl);have bN:wr.cell? (TU w1.heap.size 0)=some (xa so (gH rs []).length sc):=(Fd J _ _ aO).trans (EQ ak 0);have bO:wr.cell? (TU w1.heap.size 1)=some (xd .u32 ((ij rs [] 0:Nat):Int)):=(Fd J _ _ aO).trans (EQ ak 1);have aQ:=Uw aO J.size;have aB:=z7 so sc (ij rs [] 0) px (rA al j) (aE.later (J.trans (((Uo wr.heap.size wr).drew).mono J.size))) HG c';have bM:=OO hM px j;have b':kO (gH rs []) true (rA al j) (px.testBit (gH rs []).length) px=oT (gH rs []) al px j:=rfl;rw[b'] at aB;have au:Hid (jv (oT (gH rs []) al) px (QX (j+1)) l=((jx M (oT (gH rs []) al px j)).1,q++[(jx M (oT (gH rs []) al px j)).2])):=by
    exact zm115
   subst cR;subst cj;clear b' bn b8 aX b6 J;generalize oT (gH rs []) al px j=p2 at *;generalize rA al j=ev at *;go_wp2_with fail;refine R' (S:=λw'=>w'.cell? (TU w1.heap.size 0)=some (xa so (gH rs []).length sc)/\w'.cell? (TU w1.heap.size 1)=some (xd .u32 ((ij rs [] 0:Nat):Int))/\w'.cell? (TU aS k)=some (xd .u32 (px:Int))) zk ?_ (λI=>?_)
   .simp_all
   apply zt1 0 (.agg #[xa so (gH rs []).length sc,xd .u32 ((ij rs [] 0:Nat):Int)]) I;apply zt1 1 (xa (TT aS) M.length bQ) I;apply zt1 2 (xd xh (k:Int)) I;apply zt1 3 (xk (some (TU aS k))) I;apply zt1 4 (xd .u32 (px:Int)) I;apply zt1 5 (xj ev) I;apply zrH 6;intro K hK;go_simp;refine aB.mono ?_;rintro e cH ⟨rfl,aF⟩;refine hK.out _ _ ⟨(Fd aF _ _ aQ).trans I.1,(Fd aF _ _ aQ).trans I.2.1,(Fd aF _ _ bo).trans I.2.2⟩ (λI=>?_);clear hK K;have aG:XL wr cH:=((XF).drew).trans aF;have ad:=U.out.later aG;have ag:=(aG.block _ (dK bA.out)).trans bA.out;clear aF aG;apply zt1 7 (xd .u32 (p2:Int)) I;refine Ut zk ?_ _;clear I bN bO cu b9 b7 bo aQ aB;cases hf:iV p2 M 0 with
   |some i=>
    obtain⟨aq,bl⟩:=(ad.num.2 p2).1 i hf;rw[uU hf] at au;have an:=fy aq;have bd:=fy bl;clear aq bl hf
    go_wp2_with (at_lookup;go_must (refine VN _ rfl _ _ 218 rfl 147 3 xh Gl underlying218 underlying3 (BJ) mb M.length D2 rfl ad.mp _ (tW p2) rfl (Gk bM) ?_))
    intro c aY bP;rw[bd.out] at aY;have cU:(i:Int)=c:=za;subst cU;rw[an.out];clear aY bP bd an;have gf:=gh ag j;have aM:=se (by rw[HQL.out];simp) hj;obtain⟨y0,aR⟩:∃y0,(jN q al.length j)[j]?=some y0:=⟨_,Uq zo⟩;have gc:=(EQ ag j).trans (sU aR);have aD:=ad.cell b5 bD ag j (xd xh (i:Int));have aC:Hid ((cH.setCell (TU g j) (xd xh (i:Int))).heap[g]?=some (xi (lz (jN (q++[i]) al.length (j+1))) 3 (0,0))):=by
     have:=gj ag j (xd xh (i:Int));exact zm126
    clear aR aM;go_wp2
    go_roundw
    .exact⟨j+1,TT aS,bQ,M,D2,q++[i],zo,zf,rfl,aD,aC,au⟩
    simp[intOf];omega
   |none=>
    have aq:=(ad.num.2 p2).2 hf;rw[uT hf] at au;have an:=fy aq;have HF:=fy hf;clear aq hf
    go_wp2_with (at_lookup;go_must (refine VN _ rfl _ _ 218 rfl 147 3 xh Gl underlying218 underlying3 (BJ) mb M.length D2 rfl ad.mp _ (tW p2) rfl (Gk bM) ?_))
    intro c aY bP;rw[an.out];clear aY bP an;have hMi:(M.length:Int)<=200000:=zo
    go_wp2_with (at_mapUpdate;go_must (refine wpList_mapUpdate_own _ rfl _ _ _ 218 rfl 147 3 Gl underlying218 _ mb M.length D2 rfl ad.mp ?m1 _ _ _ rfl rfl (Gk bM) _ [] (plainElem_int underlying3 ?m2) ?_))
    case m1=>unfold maxLen;omega
    case m2=>exact WalkArith.wf_i64 zo
    intro w7 cm a8;obtain⟨k1,k2,k3,k4,k5,k6⟩:=ad.mapped a8;have hV7:=k6.size;have aK:=(a8.block _ (dK ag) (λe=>rz ad.mp ag (Ue e))).trans ag;clear k1 k3 k4 k5 k6
    go_wp2_with (at_builtin;go_must (refine Uz _ rfl _ _ 217 rfl V.heap.size 147 i0 (xd .u32 0) 1 4 underlying217 cW de df dh rfl zd _ M.length (ud M) rfl ?c0 (TU w7.heap.size 0) 1 1 [xd .u32 (p2:Int)] rfl rfl ?c1 ?c2 zd ?c3 ?c4 ?c5 (w7.heap.size+1) ?c6 ?_))
    case c0=>exact k2.alloc _
    case c1=>
     intro j u hj
     match j,hj with
     |0,hj=>simp at hj;subst hj;exact EQ (gu zp) 0
     |j+1,hj=>simp at hj
    case c2=>intro u hu;simp at hu;subst hu;rfl
    case c3=>unfold maxLen;omega
    case c4=>omega
    case c5=>simp;omega
    case c6=>simp
    intro g8 b3 w8 cq bI _ _;have aa:=ir w7 (xi #[xd .u32 (p2:Int)] 147);have aD:=ad.place HF.out cm a8 aa cq bI;have ay:=(aa.block _ (dK aK)).trans aK;have ax:=(bI.block _ (dK ay) (λe=>gz (k2.alloc _) e.symm ay zp)).trans ay;clear cq bI aa ay cm a8 k2 aK;have gf:=gh ax j;have aM:=se (by rw[HQL.out];simp) hj;obtain⟨y0,aR⟩:∃y0,(jN q al.length j)[j]?=some y0:=⟨_,Uq zo⟩;have gc:=(EQ ax j).trans (sU aR);have bY:=aD.cell b5 bD ax j (xd xh (M.length:Int));have aC:Hid ((w8.setCell (TU g j) (xd xh (M.length:Int))).heap[g]?=some (xi (lz (jN (q++[M.length]) al.length (j+1))) 3 (0,0))):=by
     have:=gj ax j (xd xh (M.length:Int));exact zm126
    have hlM:(M++[p2]).length=M.length+1:=zp;clear aR aM;go_wp2
    go_roundw
    .exact⟨j+1,TT g8,b3,M++[p2],_,q++[M.length],zo,zf,zp,bY,aC,au⟩
    simp[intOf];omega
  have cX:j=al.length:=zo;subst cX;have bj:jN q al.length al.length=q:=by unfold jN;rw[UF (by rw[HQL.out];simp)];simp
  have ch:=bA.out;rw[bj] at ch;have bU:Hid (R7 (oT (gH rs []) al) (QX al.length) p0 (k+1) M (tw++[q])):=by
   have:=aU.out.step HX.out;rw[HRN.out] at this;exact this
  have cb:wr.cell? (TU bb 0)=some (xa ho tw.length hc):=EQ U.out.blk 0;have htwk:tw.length<=200000:=by have:=cO.out;omega
  have hVr:=U.out.bel.size;clear bj aX b6
  go_wp2_with (at_builtin;go_must (refine Uz _ rfl _ _ 34 rfl V.heap.size 33 r0 TV 1 24 underlying34 dc cy cA cB rfl zd _ tw.length rv rfl ?d0 (TU wr.heap.size 0) 1 1 [xa (TT g) al.length al.length] rfl rfl ?d1 ?d2 zd ?d3 ?d4 ?d5 (wr.heap.size+1) ?d6 ?_))
  case d0=>exact U.out.ah.alloc _
  case d2=>rfl
  case d3=>unfold maxLen;omega
  case d4=>omega
  case d5=>omega
  intro g9 b4 w9 cr bJ _ _;have aa:=ir wr (xi #[xa (TT g) al.length al.length] 33);have aI:=(bJ.block bb (dK (U.out.later aa).blk) (λe=>gz (U.out.later aa).ah e.symm (U.out.later aa).blk zp)).trans (U.out.later aa).blk;have bZ:=U.out.row bD ch aa (by rw[HQL.out];exact cr) bJ;have hc9:w9.cell? (TU bb 0)=some (xa ho tw.length hc):=EQ aI 0;have hf9:=gh aI 0;have hk1:k<131072:=zo;clear cr bJ aa aI cb;go_wp2
  go_roundw
  .exact⟨k+1,lo,bQ,M,D2,TT g9,b4,_,tw++[q],_,zf,rfl,bZ,bU⟩
  simp[intOf];omega
 have cZ:k=l.length:=zo;subst cZ;have bN:wr.cell? (TU w1.heap.size 0)=some (xa so (gH rs []).length sc):=(Fd J _ _ aO).trans (EQ ak 0);have bO:wr.cell? (TU w1.heap.size 1)=some (xd .u32 ((ij rs [] 0:Nat):Int)):=(Fd J _ _ aO).trans (EQ ak 1);have cM:Hid (TL wr lo l):=λj x hx=>by
  have hj:=(List.getElem?_eq_some_iff.1 hx).1;obtain⟨b,h1,h2,h3⟩:=gT ae.out.pl hj
  grind[ud]
 have cK:=D3 so (gH rs []).length sc l lc cM.out dd zo bw.out;clear cn cp J;go_wp2_with fail;refine cK.mono ?_;rintro e w8 ⟨rfl,ca⟩;have aj:=ae.out.later ca;generalize hS8:gK (l.map (keepP (ij rs [] 0)))=s8 at *;have cN:=fy hS8;have aH:=aj.blk;have aw:=(aj.bel.block _ (dK bC)).trans bC;have bc:=EQ aH;have bf:=gh aH;have rc:=EQ aw;have rf:=gh aw;have cd:bb≠w.heap.size+1:=by have:=aj.hbb;have:=dK bC;omega
 have bF:w.heap.size+1≠bb:=λe=>cd e.symm
 clear hS8 ca bN bO;go_wp2_with fail;have bK:∀k,k≠bb->k≠w.heap.size+1->(((w8.setCell (TU bb 1) (xj s8)).setCell (TU (w.heap.size+1) 0) (xa ho tw.length hc)).setCell (TU (w.heap.size+1) 1) (xj s8)).heap[k]?=w8.heap[k]? :=λk h1 h2=>
  (XE h2).trans ((XE h2).trans (XE h1))
 have cg:(((w8.setCell (TU bb 1) (xj s8)).setCell (TU (w.heap.size+1) 0) (xa ho tw.length hc)).setCell (TU (w.heap.size+1) 1) (xj s8)).heap[w.heap.size+1]?=some (xi #[xa ho tw.length hc,xj s8] 153 (0,0)):=
  gj (gj ((XE bF).trans aw) 0 _) 1 _
 have cT:XL w (((w8.setCell (TU bb 1) (xj s8)).setCell (TU (w.heap.size+1) 0) (xa ho tw.length hc)).setCell (TU (w.heap.size+1) 1) (xj s8)):=by
  have cS:=bu.trans (aj.bel.mono bu.size);have cc:=UP bu.size aj.hbb;exact((cS.setCell (p:=⟨bb,1,none⟩) cc _).setCell (p:=⟨w.heap.size+1,0,none⟩) zp _).setCell (p:=⟨w.heap.size+1,1,none⟩) zp _
 have cx:=aj.rws (W':=(((w8.setCell (TU bb 1) (xj s8)).setCell (TU (w.heap.size+1) 0) (xa ho tw.length hc)).setCell (TU (w.heap.size+1) 1) (xj s8))) (λk c ty hk cE=>bK k (λe=>by
   rw[e,aH] at hk;injection hk with hk
   injection hk with _ e2 _
   rcases cE with h|h<;>(simp_all)) (λe=>by
   rw[e,aw] at hk;injection hk with hk
   injection hk with _ e2 _
   rcases cE with h|h<;>(simp_all)))
 generalize (((w8.setCell (TU bb 1) (xj s8)).setCell (TU (w.heap.size+1) 0) (xa ho tw.length hc)).setCell (TU (w.heap.size+1) 1) (xj s8))=wf at *;have cP:=EQ cg;refine py (v:=.agg #[xa ho tw.length hc,xj s8]) (by simp[results,results80,go_sem,cP]) rfl ?_;refine⟨l,tw,ho,hc,by rw[cN.out],?_,cx,cT,bG⟩;rw[cL.out];exact aU.out
def nG(ms:List (T7)):TW:=ms.map λb=>xj (gK b)
def QJ(l r:List (T7)):nG (l++r)=nG l++nG r:=by unfold nG;simp
structure Ti(W:Uc)(base sb mb:Nat)(so:TX)(sc:Nat)(ms:List (T7))(D:DataW Unit):Prop where
 blk:W.heap[sb]?=some (xi #[xa so ms.length sc,.map (some mb)] 158 (0,0))
 own:W.ownsRow base 151 1 (xa so ms.length sc) ms.length (nG ms)
 mp:W.ownsMap prog 151 (plainElem prog 3) mb ms.length D
 num:SM wE D ms
 hsb:base<=sb
 hmb:base<=mb
theorem qL{b:Nat}(h:W.ownsMap prog 151 (plainElem prog 3) b n D){c:T1}{ty:Nat}{k:Nat}(hk:W.heap[k]?=some (xi c ty m)):k≠b:=by
 rintro rfl;obtain⟨es,clock,h1,_⟩:=h;simp_all
structure TK(base:Nat)(w w':Uc):Prop where
 os:w'.os=w.os
 tape:w'.tape=w.tape
 output:w'.output=w.output
 size:w.heap.size<=w'.heap.size
 ty:∀(k:Nat)(c:T1)(ty:Nat)(m:T3),w.heap[k]?=some (xi c ty m)->ty≠158->ty≠151->w'.heap[k]?=w.heap[k]?
 low:∀k,k<base->w'.heap[k]?=w.heap[k]?
def TK.refl(base:Nat)(w:Uc):TK base w w:=⟨rfl,rfl,rfl,XH,λ_ _ _ _ _ _ _=>rfl,λ_ _=>rfl⟩
def Ti.later{base:Nat}(h:Ti W base sb mb so sc ms D)(I:XL W W'):Ti W' base sb mb so sc ms D:=
 ⟨(I.block _ (dK h.blk)).trans h.blk,gq h.own I,h.mp.kept (gE I none) zp,h.num,h.hsb,h.hmb⟩
def Ti.other{base:Nat}(h:Ti W base sb mb so sc ms D){row:Ua}(hg:W.grownBy W' row)(I:∀b,row=some b->∃c ty m,W.heap[b]?=some (xi c ty m)/\ty≠158/\ty≠151):Ti W' base sb mb so sc ms D:=by
 refine⟨(hg.block _ (dK h.blk) (λe=>?_)).trans h.blk,gG h.own hg (λb hb e=>?_),h.mp.kept hg (λe=>?_),h.num,h.hsb,h.hmb⟩
 .obtain⟨c,ty,m,J,h2,_⟩:=I _ e.symm;rw[h.blk] at J;simp_all
 .obtain⟨c,ty,m,J,_,U⟩:=I _ hb;exact gz h.own e J U
 obtain⟨c,ty,m,J,_,_⟩:=I _ e.symm;exact qL h.mp J rfl
def Tryz.infoSet:(prog.info? 151).map (λi=>(i.zero,i.size,i.bytes))=some (some (xj ⟨#[]⟩),1,16):=zk
def NB(b:T7):WideAt.IsKeyLit (wE b):=trivial
def QQ(w:Uc)(base sb mb:Nat)(ms:List (T7))(b:T7)(w':Uc)(e:Ending):Prop:=
 e=xm (xd xh ((jx ms b).2:Nat))/\(∃so' sc' D',Ti w' base sb mb so' sc' (jx ms b).1 D')/\TK base w w'
theorem wL{base:Nat}(D:DataW Unit)(h:Ti w base sb mb so sc ms D)(hb:b.length<=1000000)(hm:ms.length<=1000)(aF:base<=w.heap.size):
  Calls prog 81 #[xk (TT sb),xj (gK b)] w λe w'=>QQ w base sb mb ms b w' e:=by
 obtain⟨i0,aP,aT,aU,aV⟩:=Uk Tryz.infoSet;have c0:w.cell? (TU sb 0)=some (xa so ms.length sc):=EQ h.blk 0;have c1:w.cell? (TU sb 1)=some (.map (some mb)):=EQ h.blk 1;have hk:=QD (b:=b) hb;generalize hsb:gK b=s at *;have HSB:=fy hsb;clear hsb;cases hf:iV b ms 0 with
 |some i=>
  obtain⟨ai,aw⟩:=(h.num.2 b).1 i hf;have an:=fy (uU hf);have ad:=fy ai;have av:=fy aw;clear ai aw hf;go_in
  go_wp2_with (at_lookup;go_must (refine VN _ rfl _ _ 155 rfl 151 3 xh K1 underlying155 underlying3 (BJ) mb ms.length D rfl h.mp _ (wE b) rfl hk ?_))
  intro c au aA;rw[av.out] at au;have aO:(i:Int)=c:=za;subst aO;rw[ad.out];clear au aA av ad;go_wp2;go_ret;refine⟨by rw[an.out];rfl,?_,TK.refl _ _⟩;rw[an.out];exact⟨_,_,_,h⟩
 |none=>
  have ai:=(h.num.2 b).2 hf;have an:=fy (uT hf);have ad:=fy ai;have HF:=fy hf;clear ai hf;go_in
  go_wp2_with (at_lookup;go_must (refine VN _ rfl _ _ 155 rfl 151 3 xh K1 underlying155 underlying3 (BJ) mb ms.length D rfl h.mp _ (wE b) rfl hk ?_))
  intro c au aA;rw[ad.out];clear au aA ad
  go_wp2_with (at_mapUpdate;go_must (refine wpList_mapUpdate_own _ rfl _ _ _ 155 rfl 151 3 K1 underlying155 _ mb ms.length D rfl h.mp ?m1 _ _ _ rfl rfl hk _ [] (plainElem_int underlying3 ?m2) ?_))
  case m1=>unfold maxLen;omega
  case m2=>exact WalkArith.wf_i64 zo
  intro w7 aQ I;have U:=(I.block _ (dK h.blk) (λe=>qL h.mp h.blk (Ue e))).trans h.blk;have ar:=gG h.own I (λk hk e=>by
   obtain⟨c',aN⟩:=jj h.own e;exact qL h.mp aN (Ue hk).symm)
  have aL:=I;have d0:w7.cell? (TU sb 0)=some (xa so ms.length sc):=EQ U 0;have hl7:=dK U;have hs7:=UP aF I.size;clear I c0 c1
  go_wp2_with (at_builtin;go_must (refine Uz _ rfl _ _ 156 rfl base 151 i0 (xj ⟨#[]⟩) 1 16 underlying156 aP aT aU aV rfl zd _ ms.length (nG ms) rfl ?c0 (TU w7.heap.size 0) 1 1 [xj s] rfl rfl ?c1 ?c2 zd ?c3 ?c4 ?c5 (w7.heap.size+1) ?c6 ?_))
  case c0=>exact ar.alloc _
  case c1=>
   intro j u hj
   match j,hj with
   |0,hj=>simp at hj;subst hj;exact EQ (gu zp) 0
   |j+1,hj=>simp at hj
  case c2=>intro u hu;simp at hu;subst hu;rfl
  case c3=>unfold maxLen;omega
  case c4=>omega
  case c5=>simp;omega
  case c6=>simp
  intro g8 ae w8 aS aa _ _;have J:=ir w7 (xi #[xj s] 151);have ak:=(J.block _ (dK U)).trans U;have aq:=gq ar J;have ax:=aQ.kept (gE J none) zp;have az:∀{c:T1} {ty k:Nat} {m:T3},(w7.alloc (xi #[xj s] 151)).heap[k]?=some (xi c ty m)->ty≠151->some k≠(xa so ms.length sc).ownBlock:=λhk aR e=>gz aq e.symm hk aR
  have ag:=(aa.block _ (dK ak) (az ak zp)).trans ak;have ao:=ax.kept aa (λe=>by
   grind[jj,qL])
  have aG:=gp w8 sb 0 (xa (TT g8) (ms.length+1) ae);have aC:Hid (Ti (w8.setCell (TU sb 0) (xa (TT g8) (ms.length+1) ae)) base sb mb (TT g8) ae (ms++[b]) (D.put (wE b) (.lit (.int xh (ms.length:Nat))))):=by
   refine⟨?_,?_,?_,h.num.put NB NA HF.out,h.hsb,h.hmb⟩
   .have:=gj ag 0 (xa (TT g8) (ms.length+1) ae);simp_all
   .grind[gQ,gG,gz,nG]
   rw[Ur];exact ao.kept aG (λe=>qL ao ag (Ue e).symm)
  have aK:Hid (TK base w (w8.setCell (TU sb 0) (xa (TT g8) (ms.length+1) ae))):=by
   have I:=aL;refine⟨aa.os.trans (J.os.trans I.os),aa.tape.trans (J.tape.trans I.tape),aa.output.trans (J.output.trans I.output),?_,λk c ty m hk h1 h2=>?_,λk hk=>?_⟩
   .have:=I.size;have:=J.size;have:=aa.size;simp[Rp];omega
   .have e7:=I.block k (dK hk) (λe=>qL h.mp hk (Ue e));have ea:=(J.block k (dK (e7.trans hk))).trans e7;have e8:=(aa.block k (dK (ea.trans hk)) (az (ea.trans hk) h2)).trans ea;refine(XE ?_).trans e8;rintro rfl;simp_all
   have hks:=h.hsb;have hkm:=h.hmb;have ay:=Uw hk aF;have e7:=I.block k ay (λe=>by have:=Ue e;omega);have ea:=(J.block k (Uw ay I.size)).trans e7;have e8:=(aa.block k (Uw ay (UP I.size J.size)) (λe=>by have:=(gJ aq k e.symm).1;omega)).trans ea;exact(XE (by show k≠sb;omega)).trans e8
  have e0:w8.cell? (TU sb 0)=some (xa so ms.length sc):=EQ ag 0;have ef:=gh ag 0;clear aS aa J ak aq ax az ag ao aG;go_wp2;go_ret;refine⟨by rw[an.out];rfl,?_,aK.out⟩;rw[an.out];exact⟨_,_,_,aC.out⟩
theorem oE{base e size:Nat}{v:Ud}(h:w.ownsRow base e size v n xs)(I:∀b c,v.ownBlock=some b->w.heap[b]?=some (xi c e (0,0))->w'.heap[b]?=w.heap[b]?):w'.ownsRow base e size v n xs:=by
 refine⟨h.1,?_⟩;rcases h.2 with h2|⟨g,cap,cur,hv,hg,hh,r⟩
 .simp_all
 exact Ru ⟨g,cap,cur,hv,hg,(I g cur (by rw[hv];rfl) hh).trans hh,r⟩
theorem RX.keepTy{base:Nat}(h:RX w base A F X t rv)(J:∀(k:Nat)(c:T1)(ty:Nat),w.heap[k]?=some (xi c ty (0,0))->ty=9\/ty=3\/ty=33->w'.heap[k]?=w.heap[k]?):RX w' base A F X t rv:=by
 refine⟨oE h.acts (λb c _ I=>J b c _ I (Or.inl rfl)),oE h.fl (λb c _ I=>J b c _ I (Ru (Or.inl rfl))),oE h.nx (λb c _ I=>J b c _ I (Ru (Ru rfl))),λj r hr=>?_,h.rf,h.rr⟩;obtain⟨g,c,h1,h2⟩:=h.rows j r hr
 grind[oE]
theorem RX.cell{base:Nat}(h:RX w base A F X t rv){g:Nat}{c:T1}(hg:w.heap[g]?=some (xi c 3 (0,0)))(hF:F.ownBlock≠some g)(hV:∀v∈rv,v.ownBlock≠some g)(i:Nat)(v:Ud):RX (w.setCell (TU g i) v) base A F X t rv:=by
 have key:∀b,b≠g->(w.setCell (TU g i) v).heap[b]?=w.heap[b]? :=λb I=>XE I
 have J:∀{b ty:Nat} {c':T1},w.heap[b]?=some (xi c' ty (0,0))->ty≠3->b≠g:=λ{b ty c'} I hne e=>by
  simp_all
 refine⟨oE h.acts (λb c _ I=>key b (J I zp)),oE h.fl (λb c e I=>key b (λU=>hF (U▸e))),oE h.nx (λb c _ I=>key b (J I zp)),λj r hr=>?_,h.rf,h.rr⟩;obtain⟨g2,c2,h1,h2⟩:=h.rows j r hr
 grind[oE]
def RX.lt{base:Nat}(h:RX w base A F X t rv){g:Nat}(hg:w.heap.size<=g):F.ownBlock≠some g/\∀v∈rv,v.ownBlock≠some g:=by
 refine⟨λe=>?_,λv hv e=>?_⟩
 .have:=(gJ h.fl g e).2;omega
 obtain⟨j,U⟩:=List.mem_iff_getElem?.1 hv;have I:j<t.nx.length:=by have:=(List.getElem?_eq_some_iff.1 U).1;have:=h.rl;omega
 obtain⟨g2,c,J,h2⟩:=h.rows j _ (Uq I);rw[U] at J;cases J;have:=(gJ h2 g e).2;omega
structure CT(V W:Uc)(sb mb tb:Nat)(so:TX)(sc:Nat)(ms:List (T7))(D:DataW Unit)(A F X:Ud)(t:Tb)(rv:TW):Prop where
 st:Ti W V.heap.size sb mb so sc ms D
 tbk:W.heap[tb]?=some (xi #[A,F,X] 36 (0,0))
 htb:V.heap.size<=tb
 tab:RX W V.heap.size A F X t rv
 bel:XL V W
def CT.later(h:CT V W sb mb tb so sc ms D A F X t rv)(I:XL W W'):CT V W' sb mb tb so sc ms D A F X t rv:=
 ⟨h.st.later I,(I.block _ (dK h.tbk)).trans h.tbk,h.htb,h.tab.later I,h.bel.trans (I.mono h.bel.size)⟩
def CT.numbered(h:CT V W sb mb tb so sc ms D A F X t rv)(hs:Ti W' V.heap.size sb mb so' sc' ms' D')(hf:TK V.heap.size W W'):CT V W' sb mb tb so' sc' ms' D' A F X t rv:=
 ⟨hs,(hf.ty _ _ _ _ h.tbk zp zp).trans h.tbk,h.htb,h.tab.keepTy (λk c ty I hty=>hf.ty k c ty _ I zo zo),
  ⟨hf.os.trans h.bel.os,hf.tape.trans h.bel.tape,hf.output.trans h.bel.output,UP h.bel.size hf.size,λk I=>(hf.low k I).trans (h.bel.block k I)⟩⟩
theorem CT.cell(h:CT V W sb mb tb so sc ms D A F X t rv){g:Nat}{c:T1}(hg:W.heap[g]?=some (xi c 3 (0,0)))(I:F.ownBlock≠some g)(J:∀v∈rv,v.ownBlock≠some g)(hgV:V.heap.size<=g)(i:Nat)(v:Ud):CT V (W.setCell (TU g i) v) sb mb tb so sc ms D A F X t rv:=by
 refine⟨h.st.other (gp W g i v) (λb U=>by grind),(XE (λe=>?_)).trans h.tbk,h.htb,h.tab.cell hg I J i v,h.bel.grown (gp W g i v) h.bel.size (λb U=>za)⟩;have e':=e;have:=h.tbk;simp_all
theorem CT.grow{A' F' X' Y:Ud}{t':Tb}(h:CT V W sb mb tb so sc ms D A F X t rv){e:Nat}(hY:W.ownsRow V.heap.size e 1 Y n xs)(hg:W.grownBy W' Y.ownBlock)(he:e=9\/e=3\/e=33)
  (ht:RX W' V.heap.size A' F' X' t' rv')(i:Nat)(v:Ud)(hc:(#[A,F,X]:T1).setIfInBounds i v= #[A',F',X']):CT V (W'.setCell (TU tb i) v) sb mb tb so sc ms D A' F' X' t' rv':=by
 have U:=h.st.other hg (λb J=>by
  grind[jj])
 have hblk:=(hg.block _ (dK h.tbk) (λe1=>gz hY e1.symm h.tbk zo)).trans h.tbk;have I:=h.bel.grown hg h.bel.size (λb J=>(gJ hY b J).1);refine⟨U.other (gp _ _ _ _) (λb J=>by grind),?_,h.htb,ht.other (gp _ _ _ _) (λb J c m=>?_),I.grown (gp _ _ _ _) I.size (λb J=>by cases J;exact h.htb)⟩
 .grind[gj]
 grind
def Tryz.infoIntT:(prog.info? 3).map (λi=>(i.zero,i.size,i.bytes))=some (some (xd xh 0),1,8):=zk
def Dx{tw:T0}{acts:T5}{k:Nat}{rows:T0}(h:R7 (setB tw) acts s0 k ms rows)(h0:s0.length=tw.length):∀b∈ms,b.length=tw.length:=λb J=>by
 obtain⟨j,I⟩:=List.mem_iff_getElem?.1 J;cases j with
 |zero=>
  rw[h.first] at I;simp_all
 |succ j=>
  obtain⟨_,_,_,_,_,a,_,e⟩:=h.met j b I;rw[e];unfold setB;simp
theorem Hf[DecidableEq π]{ah:π->Nat->π}{p0:π}{l:List π}{tw:T0}(h:R7 ah (QX n) p0 l.length l tw):∀r∈tw,r.length=n/\∀x∈r,x<tw.length:=λr hr=>by
 obtain⟨i,hi⟩:=List.mem_iff_getElem?.1 hr;have htl:=h.len;have I:i<l.length:=by grind
 obtain⟨r',U,r2,r3⟩:=h.row i l[i] I (Uq I);rw[hi] at U;cases U;rw[WV] at r2;refine⟨r2,λx hx=>?_⟩;obtain⟨q,hq⟩:=List.mem_iff_getElem?.1 hx;have J:q<n:=by grind
 obtain⟨m,m1,m2⟩:=r3 q q (Vs J)
 grind
theorem H'(hM:Q5 al rs){cells:TW}(ha:w.ownsRow 0 9 1 (xa a1 al.length a3) al.length (kp al))(hr:w.ownsRow 0 144 3 (xa m1 m2 m3) rs.length cells)(hp:SI w rs cells)(h6:al.length<=6):
  Calls prog 43 #[.agg #[xa a1 al.length a3,xa m1 m2 m3]] w λe w'=>∃o,s7 al rs o/\oq TP w o w' e:=by
 have hB:XL w ((w.alloc (xi #[xa a1 al.length a3,xa m1 m2 m3] 78)).alloc (xi #[TV,TV,TV] 36)):=gC.alloc zp _;have bq:=xJ hM (gq ha hB) (gq hr hB) (hp.keep (KB.below hB)) h6;have b5:=gq ha hB;have a7:Hid (((w.alloc (xi #[xa a1 al.length a3,xa m1 m2 m3] 78)).alloc (xi #[TV,TV,TV] 36)).heap[w.heap.size]?=some (xi #[xa a1 al.length a3,xa m1 m2 m3] 78 (0,0))):=(XD zp).trans (gi _ _);have a8:Hid (((w.alloc (xi #[xa a1 al.length a3,xa m1 m2 m3] 78)).alloc (xi #[TV,TV,TV] 36)).heap[w.heap.size+1]?=some (xi #[TV,TV,TV] 36 (0,0))):=gu zp;have hmm:=@run_makeMap prog;have hne:1<=al.length:=by
  cases hc:al with
  |nil=>exact absurd hc hM.ne
  |cons _ _=>simp
 clear ha hr hp;go_in;go_wp2_with fail;refine bq.mono ?_;generalize ((w.alloc (xi #[xa a1 al.length a3,xa m1 m2 m3] 78)).alloc (xi #[TV,TV,TV] 36))=W0 at *;rintro e w1 ⟨l,tw,ro,rc,rfl,an,bH,ao,hlf⟩;have aE:=ir w1 (xi #[xa ro tw.length rc,xj (gK (l.map (keepP (ij rs [] 0))))] 153);have aJ:=hB.trans ((ao.trans (aE.mono ao.size)).mono hB.size);have b6:=gq (gq b5 ao) aE;have aL:=(aE.block _ (Uw (dK a7.out) ao.size)).trans ((ao.block _ (dK a7.out)).trans a7.out);have ba:=(aE.block _ (Uw (dK a8.out) ao.size)).trans ((ao.block _ (dK a8.out)).trans a8.out);have b7:=gi w1 (xi #[xa ro tw.length rc,xj (gK (l.map (keepP (ij rs [] 0))))] 153);have cY:=bH.later aE;have aG:tw.length<=131072:=by have:=an.len;omega
 have bI:(l.map (keepP (ij rs [] 0))).length=tw.length:=by rw[UL];exact an.len.symm
 have cp:=fy bI;have cr:=fy (Hf an);clear bH ao aE bI bq b5 a7 a8 hB;go_wp2_with fail;generalize hV:w1.alloc (xi #[xa ro tw.length rc,xj (gK (l.map (keepP (ij rs [] 0))))] 153)=V at *;have bT:V.heap.size=w1.heap.size+1:=by rw[<-hV];simp
 have bt:Hid (Ti ((V.alloc (.map #[] 0)).alloc (xi #[TV,.map (some (w1.heap.size+1))] 158)) V.heap.size (w1.heap.size+2) (w1.heap.size+1) none 0 [] (.map [])):=by
  have aU:=Rz (H:=Unit) V prog 151 (plainElem prog 3);rw[bT] at aU;exact⟨gu za,XG,aU.kept (V9 _ _ none) zp,SM.nil wE,zo,zo⟩
 have aB:XL V ((V.alloc (.map #[] 0)).alloc (xi #[TV,.map (some (w1.heap.size+1))] 158)):=gC.alloc zp _;have ct:=fy bT;have bJ:(l.map (keepP (ij rs [] 0))).length<=1000000:=by rw[cp.out];omega
 refine(wL (.map []) bt.out bJ zp aB.size).mono ?_;rintro e w3 ⟨rfl,⟨so,sc,D,cP⟩,aF⟩;have aA:XL V w3:=⟨aF.os.trans aB.os,aF.tape.trans aB.tape,aF.output.trans aB.output,UP aB.size aF.size,λk hk=>(aF.low k hk).trans (aB.block k hk)⟩;have bK:Ti w3 V.heap.size (w1.heap.size+2) (w1.heap.size+1) so sc [l.map (keepP (ij rs [] 0))] D:=cP;have aV:=(aA.block _ (dK aL)).trans aL;have mc:=EQ aV;have ml:=dK aV;obtain⟨ab,c7,cA,_⟩:=gT (gq b6 aA) (show 0<al.length from zo);have b9:=(Tryz.slices_Clone_string ab 0 al.length a3 (al.map (·.s)) w3 zp zo (λj hj=>by
  have de:j<al.length:=za;obtain⟨b',h1,_,h3⟩:=gT (gq b6 aA) de
  grind[Fx,rA]))
 subst c7;clear cP aF aV aB bt bJ hV cA bT;go_wp2_with fail;refine b9.mono ?_;rintro e w4 ⟨va,rfl,bg,_,bV⟩;obtain⟨ag,ai,rfl⟩:=ib bg;have cF:(al.map (·.s)).take al.length=al.map (·.s):=by rw[UF zp]
 rw[cF] at bg;have dn:(al.map (·.s)).length=al.length:=zp;have az:=ir w4 (xi #[xa ag al.length ai,TV,TV] 36);have ca:Hid (CT V (w4.alloc (xi #[xa ag al.length ai,TV,TV] 36)) (w1.heap.size+2) (w1.heap.size+1) w4.heap.size so sc [l.map (keepP (ij rs [] 0))] D (xa ag al.length ai) TV TV ⟨al.map (·.s),[],[]⟩ []):=by
  have aN:=aA.trans (bV.mono aA.size);refine⟨(bK.later bV).later az,gi _ _,aN.size,⟨?_,XG,XG,λj r hr=>zv,λv hv=>zv,List.Pairwise.nil⟩,aN.trans (az.mono aN.size)⟩;have:=im (gq bg az) aA.size;show World.ownsRow _ _ _ _ _ (al.map (·.s)).length _;rw[dn];exact this
 clear bg bV az cF b9 bK aA mc ml;go_wp2_with fail;generalize w4.alloc (xi #[xa ag al.length ai,TV,TV] 36)=w5 at *;generalize w4.heap.size=tb at *;have hsb:V.heap.size<=w1.heap.size+2:=by have:=ct.out;omega
 have bX:w1.heap.size<V.heap.size:=by have:=ct.out;omega
 generalize hsbe:w1.heap.size+2=sb at *;generalize hmbe:w1.heap.size+1=mb at *;generalize hs0e:l.map (keepP (ij rs [] 0))=s0 at *;generalize hname:al.map (·.s)=names at *;have br:=fy hs0e;have bO:=fy hname;clear hsbe hmbe hs0e hname;have hmk:=λW:Uc=>C4 W al.length zo
 obtain⟨i0,dd,du,dv,dw⟩:=Uk Tryz.infoIntT;obtain⟨r0,dp,cM,cN,cO⟩:=Uk Tryz.infoRowP
 go_loopw [7] (λx wr=>∃(k:Nat) (so:TX) (sc:Nat) (ms:List (T7)) (D:DataW Unit) (fo:TX) (fc:Nat) (xo:TX) (xc:Nat) (rows:T0) (rv:TW),x=xd xh k/\Hid (CT V wr sb mb tb so sc ms D (xa ag al.length ai) (xa fo k fc) (xa xo k xc) ⟨names,(ms.take k).map jR,rows⟩ rv)/\Hid (R7 (setB tw) (QX al.length) s0 k ms rows)/\ms.length<=100/\Hid (kE (setB tw) (QX al.length) 100 102 0 [s0] []=kE (setB tw) (QX al.length) 100 (102-k) k ms rows)) (λx _=>101-(intOf x).toNat)
 .exact⟨0,so,sc,[s0],D,none,0,none,0,[],[],rfl,ca,R7.start _ _ _,zp,rfl⟩
 obtain⟨k,so,sc,ms,D,fo,fc,xo,xc,rows,rv,rfl,ae,a6,hms,HEQ⟩:=hrel;have hkm:=a6.out.le;have cK:=a6.out.len;have cX:=fy cK;have I:=ae.out.bel;have dk:wr.cell? (TU w.heap.size 0)=some (xa (TT ab) al.length a3):=(Fd I _ _ (dK aL)).trans (EQ aL 0);have dm:=Uw (dK aL) I.size;have aW:wr.cell? (TU sb 0)=some (xa so ms.length sc):=EQ ae.out.st.blk 0;have aX:=dK ae.out.st.blk;clear cK;rcases zc k ms.length with⟨hlt,hkn⟩|⟨hlt,hkn⟩
 .obtain⟨pb,dj,cH,cI⟩:=gT ae.out.st.own hlt;have cJ:wr.cell? (TU pb k)=some (xj (gK ms[k])):=cI.trans (by unfold nG;simp_all);have HX:=fy (Uq hlt);have bw:=Dx a6.out cp.out _ (UY hlt);have bl:=fy bw;subst dj;generalize ms[k]=bs at *;have dc:(wr.alloc (xi (Array.replicate al.length (xd xh 0)) 3)).heap[wr.heap.size]?=some (xi (lz (jN [] al.length 0)) 3 (0,0)):=by
   grind[vj,gi,jN]
  have cb:=ae.out.later ((XF).alloc (XH) (xi (Array.replicate al.length (xd xh 0)) 3));have cy:=ae.out.bel.size;obtain⟨cu,cx⟩:=ae.out.tab.lt (To wr.heap.size);have ch:=fy cu;have cm:=fy cx;clear I cI cu cx bw;go_wp2_with fail;clear dk dm aW aX cJ cH;generalize wr.alloc (xi (Array.replicate al.length (xd xh 0)) 3)=wA at *;generalize wr.heap.size=g at *
  rename Uc=>wR
  go_loopw [40] (λx wq=>∃(j:Nat) (so:TX) (sc:Nat) (M:List (T7)) (D:DataW Unit) (q:T5),j<=al.length/\x=xd xh j/\Hid (CT V wq sb mb tb so sc M D (xa ag al.length ai) (xa fo k fc) (xa xo k xc) ⟨names,(ms.take k).map jR,rows⟩ rv)/\Hid (wq.heap[g]?=some (xi (lz (jN q al.length j)) 3 (0,0)))/\Hid (jv (setB tw) bs (QX j) ms=(M,q))) (λx _=>al.length-(intOf x).toNat)
  .exact⟨0,_,_,ms,D,[],Ux,rfl,cb,dc,rfl⟩
  obtain⟨j,cT,cS,M,D2,q,hj,rfl,U,bN,HRN⟩:=hrel;have aY:=oI (setB tw) bs (QX j) ms;rw[HRN.out] at aY;obtain⟨⟨xs,cw,_⟩,aC,_,_⟩:=aY;have hMle:M.length<=ms.length+j:=by
   have:=vR (setB tw) bs (QX j) ms;exact zm130
  have bF:q.length=j:=za;have HQL:=fy bF;have cW:=fy cw;clear aC bF cw;rcases zc j al.length with⟨hjl,hjn⟩|⟨hjl,hjn⟩
  .have I:=U.out.bel;have c8:wr.cell? (TU w1.heap.size 0)=some (xa ro tw.length rc):=(Fd I _ _ bX).trans (EQ b7 0);have ao:wr.cell? (TU w1.heap.size 1)=some (xj (gK s0)):=(Fd I _ _ bX).trans (EQ b7 1);have c9:=Uw bX I.size;have bj:=F3 rc (gK s0) bs j (cY.later I) zo (λr hr=>⟨by rw[(cr.out r hr).1];omega,λx hx=>by rw[bl.out];exact(cr.out r hr).2 x hx⟩);have cq:Hid (jv (setB tw) bs (QX (j+1)) ms=((jx M (setB tw bs j)).1,q++[(jx M (setB tw bs j)).2])):=by
    exact zm115
   have bZ:(setB tw bs j).length<=1000000:=by unfold setB;rw[UL];omega
   clear I;generalize setB tw bs j=b2 at *;go_wp2_with fail;refine bj.mono ?_;rintro e w6 ⟨rfl,bW⟩;have aK:=U.out.later bW;have bn:=(bW.block _ (dK bN.out)).trans bN.out;clear bW c8 ao c9 bj;go_wp2_with fail;refine(wL D2 aK.st bZ zo aK.bel.size).mono ?_;rintro e w7 ⟨rfl,⟨dB,dA,D4,bM⟩,aR⟩;have cc:=aK.numbered bM aR;have au:=(aR.ty _ _ _ _ bn zp zp).trans bn;generalize (jx M b2).2=i at *;generalize (jx M b2).1=M4 at *;have cC:=dK au;have gf:=gh au j;have cD:=se (by rw[HQL.out];simp) hj;obtain⟨y0,cR⟩:∃y0,(jN q al.length j)[j]?=some y0:=⟨_,Uq zo⟩;have gc:=(EQ au j).trans (sU cR);have cd:=cc.cell au ch.out cm.out cy j (xd xh (i:Int));have cl:Hid ((w7.setCell (TU g j) (xd xh (i:Int))).heap[g]?=some (xi (lz (jN (q++[i]) al.length (j+1))) 3 (0,0))):=by
    have:=gj au j (xd xh (i:Int));exact zm126
   clear cR cD au bM aR;go_wp2
   go_roundw
   .exact⟨j+1,dB,dA,M4,D4,q++[i],zo,zf,cd,cl,cq⟩
   simp[intOf];omega
  have df:j=al.length:=zo;subst df;have bu:jN q al.length al.length=q:=by unfold jN;rw[UF (by rw[HQL.out];simp)];simp
  have bd:=bN.out;rw[bu] at bd;have I:=U.out.bel;have aW:wr.cell? (TU sb 0)=some (xa cT M.length cS):=EQ U.out.st.blk 0;have aX:=dK U.out.st.blk;have J:=(I.block _ (dK ba)).trans ba;obtain⟨n2,hn2⟩:∃n2,102-k=n2+1:=⟨101-k,zo⟩;clear bu;rcases zc 100 M.length with⟨hbig,hbi⟩|⟨hbig,hbi⟩
  .have bP:Hid (kE (setB tw) (QX al.length) 100 102 0 [s0] []=none):=by
    show _=_;rw[HEQ.out,hn2];exact B6 HX.out (by rw[HRN.out];omega)
   have dx:=EQ J;have dy:=gh J;have dz:=dK J;clear hn2;go_wp2_with fail;change bodyPost _ _ _ _ _ (jb wr (w.heap.size+1) TV TV TV);have aQ:=jf J TV TV TV;have bY:=iY (aJ.trans (I.mono aJ.size)) (show w.heap.size<=w.heap.size+1 from zo) TV TV TV;generalize jb wr (w.heap.size+1) TV TV TV=wf at *;have bR:=EQ aQ;refine py (v:=.tuple #[.agg #[TV,TV,TV],xn false]) (by simp[results,results43,go_sem,bR]) rfl ?_;refine⟨none,⟨l,tw,?_,?_⟩,bY,rfl⟩
   .rw[UL];exact an
   rw[UL,br.out,bP.out];rfl
  have cg:Hid (kE (setB tw) (QX al.length) 100 102 0 [s0] []=kE (setB tw) (QX al.length) 100 (102-(k+1)) (k+1) M (rows++[q])):=by
   exact zm152
  have b8:Hid (R7 (setB tw) (QX al.length) s0 (k+1) M (rows++[q])):=by
   have:=a6.out.step HX.out;rw[HRN.out] at this;exact this
  have cv:(M.take (k+1)).map jR=(ms.take k).map jR++[jR bs]:=by
   rw[show M=ms++xs from cW.out,VV zo,U5,HX.out,U1];rfl
  have cV:=fy cv;have aO:bs≠[]:=λe=>by
   have h1:=bl.out;have h2:=(List.getElem?_eq_some_iff.1 an.first).1;have h3:=an.len;simp_all
  have cj:=fy (λW=>IL aO W);have hfl3:=IJ bs;clear I J hn2 cv aO;go_wp2_with fail;clear aW aX;refine U9 zk ?_;change wpAny _ _ _ _ _ _ _ (World.drew _);apply zt0 0 (xk (some (TU tb 1)));apply zt0 2 (xj (gK bs));have aD:=U.out.later (W':=wr.drew) ((XF).drew);refine(λhG=>?main) (?suf:(?G:Prop))
  case main=>
   refine zr2 1 3 (λK hK=>?_) λK hK=>?_
   .have aP:RD _ (TU tb 1)=some (xa fo k fc):=EQ aD.tbk 1;have aG:=dK aD.tbk;go_simp;refine hK _ _ ?_;clear hK K
    try simp only[Act.put,UT,Ve,Vf,Va,U7,U6]
    clear aP aG;apply zr 3;intro K hK;go_simp;refine(cj.out _).mono ?_;rintro e w8 ⟨rfl,b3⟩;subst b3;refine hK _ _ ?_;clear hK K
    try simp only[Act.put,UT,Ve,Vf,Va,U7,U6]
    exact zm101
   go_simp;refine(cj.out _).mono ?_;rintro e w8 ⟨rfl,b3⟩;subst b3;refine hK _ _ ?_;clear hK K
   try simp only[Act.put,UT,Ve,Vf,Va,U7,U6]
   refine zr2 1 4 (λK hK=>?_) λK hK=>?_
   .have aP:RD _ (TU tb 1)=some (xa fo k fc):=EQ aD.tbk 1;have aG:=dK aD.tbk;go_simp;refine hK _ _ ?_;clear hK K
    try simp only[Act.put,UT,Ve,Vf,Va,U7,U6]
    clear aP aG;exact zm101
   go_simp;refine hK _ _ ?_;clear hK K
   try simp only[Act.put,UT,Ve,Vf,Va,U7,U6]
   apply zr 1;intro K hK;have aP:RD _ (TU tb 1)=some (xa fo k fc):=EQ (U.out.later ((XF).alloc (XH) (xi #[xd xh (jR bs:Int)] 3))).tbk 1;have aG:=dK (U.out.later ((XF).alloc (XH) (xi #[xd xh (jR bs:Int)] 3))).tbk;go_simp;refine hK _ _ ?_;clear hK K
   try simp only[Act.put,UT,Ve,Vf,Va,U7,U6]
   clear aP aG;exact hG
  have cE:((ms.take k).map jR).length=k:=by rw[UL,Vi];omega
  have c5:=U.out.bel.size;apply zr 5;intro K hK;refine UB _ zf _ _ 33 zf V.heap.size 3 i0 (xd xh 0) 1 8 underlying33 dd du dv dw rfl zp (xa fo k fc) k (gX ((ms.take k).map jR)) zf ?d0 (TU wr.heap.size 0) 1 1 [xd xh (jR bs:Int)] zf rfl ?d1 ?d2 zp ?d3 ?d4 ?d5 (wr.heap.size+1) ?d6 ?_
  case d0=>have:=aD.tab.fl;simp only[cE] at this;exact this.alloc _
  case d1=>
   intro j u hj
   match j,hj with
   |0,hj=>simp at hj;subst hj;simp[Addr.add]
   |j+1,hj=>simp at hj
  case d2=>intro u hu;simp at hu;subst hu;rfl
  case d3=>unfold maxLen;omega
  case d4=>omega
  case d5=>simp;omega
  case d6=>simp
  intro g5 aq bh bE aT bU cC;have ak:=aD.later ((XF).alloc (XH) (xi #[xd xh (jR bs:Int)] 3));have ad:(wr.drew.alloc (xi #[xd xh (jR bs:Int)] 3)).grownBy bh (xa fo k fc).ownBlock:=aT;have av:=ak.tab.flag (F':=xa (TT g5) (k+1) aq) (f:=jR bs) (by simp only[cE];exact bE) ad rfl (bU.imp id (λh=>zs));have aa:=(ad.block tb (dK ak.tbk) (λe=>gz ak.tab.fl e.symm ak.tbk zp)).trans ak.tbk;have ax:=ak.grow ak.tab.fl ad (Ru (Or.inl rfl)) av 1 (xa (TT g5) (k+1) aq) rfl;have aS:=((((XF).drew).trans (((Uo wr.drew.heap.size wr.drew).alloc (XH) (xi #[xd xh (jR bs:Int)] 3)).mono (XH))).block g (dK bd)).trans bd;have cB:∀v,(xa fo k fc).ownBlock=some v->g≠v:=λv hv e=>ch.out (e▸hv)
  have bB:=(ad.block g (dK aS) (λe=>cB g e.symm rfl)).trans aS;have bD:g≠tb:=λe=>by
   simp_all
  have bo:=(Ug bh (TU tb 1) (xa (TT g5) (k+1) aq) g bD).trans bB;have bA:(xa (TT g5) (k+1) aq).ownBlock≠some g:=λe=>by
   have e':g5=g:=Ue e;rcases bU with h|h
   .simp_all
   have:=dK bd;omega
  have ck:=fy bA;have c':bh.cell? (TU tb 1)=some (xa fo k fc):=EQ aa 1;have da:=gh aa 1;have di:=dK aa;refine hK _ _ ?_;clear hK K ak av aa bE aT ad bU cC aS cB bB bD bA
  try simp only[Act.put,UT,Ve,Vf,Va,U7,U6]
  apply zt0 6 (xk (some (TU tb 1)));apply zS 7;clear c' da di c5;refine Vg zk ?_ _;generalize bh.setCell (TU tb 1) (xa (TT g5) (k+1) aq)=w8 at *;have dr:w8.cell? (TU tb 2)=some (xa xo k xc):=EQ ax.tbk 2;have dt:=dK ax.tbk;have hV8:=ax.bel.size;have bG:=cX.out;have cn:=fy bG;clear bG
  go_wp2_with (at_builtin;go_must (refine Uz _ rfl _ _ 34 rfl V.heap.size 33 r0 TV 1 24 underlying34 dp cM cN cO rfl zp _ k rv rfl ?e0 (TU w8.heap.size 0) 1 1 [xa (TT g) al.length al.length] rfl rfl ?e1 ?e2 zp ?e3 ?e4 ?e5 (w8.heap.size+1) ?e6 ?_))
  case e0=>have:=ax.tab.nx;simp only[cn.out] at this;exact this.alloc _
  case e2=>rfl
  case e3=>unfold maxLen;omega
  case e4=>omega
  case e5=>omega
  intro g9 aM w9 cG bc _ _;have az:=ir w8 (xi #[xa (TT g) al.length al.length] 33);have aj:=ax.later az;have bC:=(az.block _ (dK bo)).trans bo;have aC:=HQL.out;have cL:=AW (base:=V.heap.size) bC cy aC zo;have av:=aj.tab.row (X':=xa (TT g9) (k+1) aM) (g:=g) (c:=al.length) (r:=q) (by rw[aC];exact cL) ck.out cm.out (by simp only[cn.out,aC];exact cG) bc;rw[aC] at av;have aa:=(bc.block tb (dK aj.tbk) (λe=>gz aj.tab.nx e.symm aj.tbk zp)).trans aj.tbk;have bm:=aj.grow aj.tab.nx bc (Ru (Ru rfl)) av 2 (xa (TT g9) (k+1) aM) rfl;rw[<-cV.out] at bm;have hc9:w9.cell? (TU tb 2)=some (xa xo k xc):=EQ aa 2;have hf9:=gh aa 2;have hl9:=dK aa;have hk99:k<100:=zo;clear cG bc az aj bC aC cL av aa dr dt;go_wp2
  go_roundw
  .exact⟨k+1,cT,cS,M,D2,TT g5,aq,TT g9,aM,rows++[q],_,zf,bm,b8,zo,cg⟩
  simp[intOf];omega
 have dh:k=ms.length:=zo;have bQ:Hid (kE (setB tw) (QX al.length) 100 102 0 [s0] []=some (ms,rows)):=by
  show _=_;obtain⟨n2,hn2⟩:∃n2,102-k=n2+1:=⟨101-k,zo⟩
  grind[gQ,EL]
 have cQ:ms.take k=ms:=UF zo;rw[cQ] at ae;have J:=(I.block _ (dK ba)).trans ba;have dx:=EQ J;have dy:=gh J;have dz:=dK J;have tc0:wr.cell? (TU tb 0)=some (xa ag al.length ai):=EQ ae.out.tbk 0;have tc1:wr.cell? (TU tb 1)=some (xa fo k fc):=EQ ae.out.tbk 1;have tc2:wr.cell? (TU tb 2)=some (xa xo k xc):=EQ ae.out.tbk 2;have tl:=dK ae.out.tbk;clear dh cQ;go_wp2_with fail;change bodyPost _ _ _ _ _ (jb wr (w.heap.size+1) (xa ag al.length ai) (xa fo k fc) (xa xo k xc));have aQ:=jf J (xa ag al.length ai) (xa fo k fc) (xa xo k xc);have bY:=iY (aJ.trans (I.mono aJ.size)) (show w.heap.size<=w.heap.size+1 from zo) (xa ag al.length ai) (xa fo k fc) (xa xo k xc);have dq:=ow J ae.out.tab (A':=xa ag al.length ai) (F':=xa fo k fc) (X':=xa xo k xc);generalize jb wr (w.heap.size+1) (xa ag al.length ai) (xa fo k fc) (xa xo k xc)=wf at *;have bR:=EQ aQ;refine py (v:=.tuple #[.agg #[xa ag al.length ai,xa fo k fc,xa xo k xc],xn true]) (by simp[results,results43,go_sem,bR]) rfl ?_;refine⟨some ⟨names,ms.map jR,rows⟩,⟨l,tw,?_,?_⟩,bY,_,_,_,rv,rfl,dq.mono aJ.size⟩
 .rw[UL];exact an
 rw[UL,br.out,bQ.out,bO.out];rfl
def C':TW->Ud
 |[]=>xd xh 5
 |_=>xd xh 0
def SC(s:Ub)(w w':Uc)(e:Ending):Prop:=
 match iz s with
 |.error x=>XL w w'/\e=xm (.tuple #[.agg #[TV,TV,TV],xd xh x.2])
 |.ok (al,rs)=>∃o,s7 al rs o/\oq C' w o w' e
theorem SC.err{s:Ub}(h:iz s=.error x)(hb:XL w w')(he:e=xm (.tuple #[.agg #[TV,TV,TV],xd xh x.2])):SC s w w' e:=by
 grind[SC]
theorem SC.ok{s:Ub}(h:iz s=.ok (al,rs))(ho:s7 al rs o)(hd:oq C' w o w' e):SC s w w' e:=by
 grind[SC]
def DM(s:Ub)(w:Uc)(hG:GV w):
  Calls prog 17 #[xj s] w λe w'=>SC s w w' e:=by
 have aD:=ir w (xi #[TV,TV,TV] 36);have aL:=xK s _ (hG.later aD);have aB:=gi w (xi #[TV,TV,TV] 36);clear hG;go_in;go_wp2_with fail;refine aL.mono ?_;generalize hW:w.alloc (xi #[TV,TV,TV] 36)=W at *;clear hW;rintro e w1 ⟨az,hm⟩;have ad:=(az.block _ (dK aB)).trans aB;have ax:=aD.trans (az.mono aD.size);cases hr:iz s with
 |error x=>
  rw[hr] at hm;have aQ:=my hr;have HX:=fy hr;obtain⟨xp,xe⟩:=x;have hne':¬ ((xe:Nat):Int)=0:=zo;subst hm;have aa:XL w1 ((w1.alloc (xi #[TV,TV] 78)).alloc (xi #[xd xh xp,xd xh xe] 80)):=gC.alloc zp _;have ai:=(aa.block _ (dK ad)).trans ad;have aq:=ax.trans (aa.mono ax.size);have aH:((w1.alloc (xi #[TV,TV] 78)).alloc (xi #[xd xh xp,xd xh xe] 80)).heap[w1.heap.size+1]?=some (xi #[xd xh xp,xd xh xe] 80 (0,0)):=gu zp;clear hr az aQ aa ad;go_wp2_with fail;generalize ((w1.alloc (xi #[TV,TV] 78)).alloc (xi #[xd xh xp,xd xh xe] 80))=w2 at *;have aO:w2.cell? (TU (w1.heap.size+1) 1)=some (xd xh xe):=EQ aH 1;have rc:=EQ ai;have rf:=gh ai;refine R' (S:=λw'=>w'.cell? (TU (w1.heap.size+1) 1)=some (xd xh xe)) zk ?_ (λJ=>?_)
  .trivial
  apply zt5 0 (.agg #[TV,TV,TV]) J;apply zt1 1 (xk (some (TU (w1.heap.size+1) 1))) J;apply zt5 2 (xd xh xe) J;apply zrH 3;intro K hK;go_simp;have hk:(jb w2 w.heap.size TV TV TV).cell? (TU (w1.heap.size+1) 1)=some (xd xh xe):=by
   have hb:=(nS w2 w.heap.size (A:=TV) (F:=TV) (X:=TV)).block _ (dK aH) (λe=>by
    simp_all)
   rw[V5 (a:=⟨w1.heap.size+1,1,none⟩) hb];exact aO
  refine hK.out _ _ hk (λJ=>?_);clear hK K;apply zt1 4 (xd xh xe) J;refine Ut zk ?_ _;clear J hk;go_wp2_with fail;change bodyPost _ _ _ _ _ (World.drew (jb w2 w.heap.size TV TV TV));have ae:=jf ai TV TV TV;have ak:=iY aq (XH) TV TV TV;generalize jb w2 w.heap.size TV TV TV=wf at *;have au:=EQ ae;refine py (v:=.tuple #[.agg #[TV,TV,TV],xd xh xe]) (by simp[results,results17,go_sem,au]) rfl ?_;exact SC.err HX.out (ak.trans (((XF).drew).mono ak.size)) rfl
 |ok m=>
  obtain⟨al,rs⟩:=m;rw[hr] at hm;obtain⟨a1,a2,a3,m1,m2,m3,cs,rfl,ha,aI,hp⟩:=hm;obtain⟨_,_,e2⟩:=ib ha;cases e2;have hg:=lK hr;have h6:al.length<=6:=by have:=(vI hr).n6;simp_all
  have an:XL w1 ((w1.alloc (xi #[xa a1 al.length a3,xa m1 m2 m3] 78)).alloc (xi #[xd xh 0,xd xh 0] 80)):=gC.alloc zp _;have HT:=H' hg (gq ha an) (gq aI an) (hp.keep (KB.below an)) h6;have aq:=ax.trans (an.mono ax.size);have aF:=(an.block _ (dK ad)).trans ad;have HX:=fy hr;clear hr ha aI hp hg an az ad;go_wp2_with fail;refine HT.mono ?_;generalize ((w1.alloc (xi #[xa a1 al.length a3,xa m1 m2 m3] 78)).alloc (xi #[xd xh 0,xd xh 0] 80))=w2 at *;rintro e w3 ⟨o,ho,aA,hm⟩;have U:=(aA.block _ (dK aF)).trans aF;have ay:=aq.trans (aA.mono aq.size);have aS:=aq.size;cases o with
  |none=>
   have aP:e=xm (.tuple #[.agg #[TV,TV,TV],xn false]):=hm;subst aP;have aa:=ir w3 (xi #[TV,TV,TV] 36);have I:=(aa.block _ (dK U)).trans U;have aC:=ay.trans (aa.mono ay.size);have rc:=EQ I;have rf:=gh I;have rl:=dK I;clear hm aA U aa;go_wp2_with fail;change bodyPost _ _ _ _ _ (jb (w3.alloc (xi #[TV,TV,TV] 36)) w.heap.size TV TV TV);have ae:=jf I TV TV TV;have ak:=iY aC (XH) TV TV TV;generalize jb (w3.alloc (xi #[TV,TV,TV] 36)) w.heap.size TV TV TV=wf at *;have au:=EQ ae;refine py (v:=.tuple #[.agg #[TV,TV,TV],xd xh 5]) (by simp[results,results17,go_sem,au]) rfl ?_;exact SC.ok HX.out ho ⟨ak,rfl⟩
  |some t=>
   obtain⟨A,F,X,rv,he,ag⟩:=hm;obtain⟨ao,ac,rfl⟩:=ib ag.acts;obtain⟨fo,fc,rfl⟩:=ib ag.fl;obtain⟨no,nc,rfl⟩:=ib ag.nx;have aN:e=xm (.tuple #[.agg #[xa ao t.acts.length ac,xa fo t.fl.length fc,xa no t.nx.length nc],xn true]):=he;subst aN;clear he;have aa:=ir w3 (xi #[xa ao t.acts.length ac,xa fo t.fl.length fc,xa no t.nx.length nc] 36);have I:=(aa.block _ (dK U)).trans U;have aC:=ay.trans (aa.mono ay.size);have aG:=(ag.later aa).mono aS;have hbx:=gi w3 (xi #[xa ao t.acts.length ac,xa fo t.fl.length fc,xa no t.nx.length nc] 36);have rc:=EQ I;have rf:=gh I;have rl:=dK I;clear aA U aa ag;go_wp2_with fail;change bodyPost _ _ _ _ _ (jb (w3.alloc (xi #[xa ao t.acts.length ac,xa fo t.fl.length fc,xa no t.nx.length nc] 36)) w.heap.size (xa ao t.acts.length ac) (xa fo t.fl.length fc) (xa no t.nx.length nc));have ae:=jf I (xa ao t.acts.length ac) (xa fo t.fl.length fc) (xa no t.nx.length nc);have ak:=iY aC (XH) (xa ao t.acts.length ac) (xa fo t.fl.length fc) (xa no t.nx.length nc);have aR:=ow I aG (A':=xa ao t.acts.length ac) (F':=xa fo t.fl.length fc) (X':=xa no t.nx.length nc);generalize jb (w3.alloc (xi #[xa ao t.acts.length ac,xa fo t.fl.length fc,xa no t.nx.length nc] 36)) w.heap.size (xa ao t.acts.length ac) (xa fo t.fl.length fc) (xa no t.nx.length nc)=wf at *;have au:=EQ ae;refine py (v:=.tuple #[.agg #[xa ao t.acts.length ac,xa fo t.fl.length fc,xa no t.nx.length nc],xd xh 0]) (by simp[results,results17,go_sem,au]) rfl ?_;exact SC.ok HX.out ho ⟨ak,_,_,_,rv,rfl,aR⟩
open Rt
def Fn.small(h:Fn t):t.acts.length<=1000/\t.nx.length<=1000/\t.fl.length<=1000/\∀r∈t.nx,r.length<=1000:=by
 have h1:=h.acts.n6;have h2:=h.n100;have h3:=h.fl;exact⟨zo,zo,zo,λr hr=>by have:=(h.rs r hr).1;omega⟩
def DecT(t:Tb)(w w':Uc)(e:Ending):Prop:=∃ao fo no ac fc nc rv,e=xm (.tuple #[.agg #[xa ao t.acts.length ac,xa fo t.fl.length fc,xa no t.nx.length nc],xd xh 0])/\RX w' w.heap.size (xa ao t.acts.length ac) (xa fo t.fl.length fc) (xa no t.nx.length nc) t rv/\Fn t/\XL w w'
theorem DecT.of{ty:TW->Ud}(hty:ty [xn true]=xd xh 0)(hR:Fn t)(h:oq ty w (some t) w' e):DecT t w w' e:=by
 obtain⟨hb,A,F,X,rv,he,I⟩:=h;obtain⟨ao,ac,rfl⟩:=ib I.acts;obtain⟨fo,fc,rfl⟩:=ib I.fl;obtain⟨no,nc,rfl⟩:=ib I.nx
 grind[DecT]
def Tryz.infoPt:(prog.info? 302).map (λi=>(i.zero,i.size,i.bytes))=some (some (.agg #[xj ⟨#[]⟩,xn false]),2,24):=zk
def QT(L:List Nd)(n:Nat)(w w':Uc)(e:Ending):Prop:=
 ∃N sb rv l tw lo lc ho hc,e=xm (.tuple #[xa lo l.length lc,xa ho tw.length hc])/\R7 (oU L) (QX n) (sS L) l.length l tw/\SG w w' N sb lo lc l ho hc rv tw/\l.length<=131072
def SG.first{N pb:Nat}(hb:XL V W)(J:V.heap.size<=pb)(U:V.heap.size<=sb)(hp:W.heap[pb]?=some (xi #[xj (gK p.2),xn p.1] 302 (0,0)))(hs:W.heap[sb]?=some (xi (Array.replicate N (xd xh 0)) 3 (0,0)))(hN:N<=maxLen):
  SG V (W.setCell (TU sb (jd p)) (xd xh 1)) N sb (TT pb) 1 [p] none 0 [] []:=by
 have I:SG V W N sb none 0 [] none 0 [] []:=by
  refine⟨XG,⟨XG,?_,XG,λj r hr=>zv,λv hv=>zv,List.Pairwise.nil⟩,hb⟩;show W.ownsRow _ _ 1 _ (qp N []).length (gX (qp N []));rw[sY,Od];refine⟨by unfold gX;simp,Ru ⟨sb,N,_,rfl,U,hs,XH,hN,zp,?_⟩⟩;unfold gX;simp
 have h3:W.ownsRow V.heap.size 302 2 (xa (TT pb) (([]:List (Bool × T7)).length+1) 1) (([]:List (Bool × T7)).length+1) (pC []++[xj (gK p.2),xn p.1]):=
  ⟨rfl,Ru ⟨pb,1,_,rfl,J,hp,XH,zd,rfl,rfl⟩⟩
 exact(I.more (Sn.start _ _ _ _) zf h3 (gE (XF) _) rfl).1
def GG(B:Nat){T:T8}(hN:S0 w nb B L T)(hg:RY L)(hL:L.length<=16)(hn:n<=6):
  Calls prog 181 #[xk (TT nb),xd xh n] w λe w'=>QT L n w w' e:=by
 obtain⟨N,hNa,hNb⟩:∃N,N<=131072/\131072<=N:=⟨131072,zo,zo⟩;have bH:∀W:Uc,(Instr.makeSlice 33 (xd xh 131072) (xd xh 131072)).run prog W=.ok (xa (TT W.heap.size) N N) (W.alloc (xi (Array.replicate N (xd xh 0)) 3)):=λW=>by
  have h:=C4 W N zo;have e:(N:Int)=131072:=zo;simp_all
 have aS:=Ih w B L T hN hg zo [] false;obtain⟨i0,hi0,hz0,hz1,hz2⟩:=Uk oe;obtain⟨r0,hr0,hrz0,hrz1,hrz2⟩:=Uk sH;obtain⟨q0,bI,bh,bj,bl⟩:=Uk Tryz.infoPt;go_in;go_wp2_with fail;refine aS.mono ?_;rintro e w1 ⟨rfl,ar⟩;have bw:Hid ((true,km [] false false (-1) L)=sS L):=rfl;generalize hP0:km [] false false (-1) L=P0 at *;have hP0l:P0.length=L.length:=by rw[<-hP0];exact mF ..
 have HC:=fy (λW:Uc=>Ch W P0 true zo);clear hP0 aS;go_wp2_with fail;have I:XL w1 ((w1.alloc (xi #[xj (gK P0),xn true] 302)).alloc (xi (Array.replicate N (xd xh 0)) 3)):=gC.alloc zp _;have ak:((w1.alloc (xi #[xj (gK P0),xn true] 302)).alloc (xi (Array.replicate N (xd xh 0)) 3)).heap[w1.heap.size]?=some (xi #[xj (gK P0),xn true] 302 (0,0)):=(XD zp).trans (gi _ _);have hsb:((w1.alloc (xi #[xj (gK P0),xn true] 302)).alloc (xi (Array.replicate N (xd xh 0)) 3)).heap[w1.heap.size+1]?=some (xi (Array.replicate N (xd xh 0)) 3 (0,0)):=gu zp;refine(HC.out _).mono ?_;generalize ((w1.alloc (xi #[xj (gK P0),xn true] 302)).alloc (xi (Array.replicate N (xd xh 0)) 3))=W2 at *;rintro e w2 ⟨rfl,aA⟩;have aC:jd (true,P0)<N:=by have:=xt (true,P0) (n:=16) za;omega
 have an:=(aA.block _ (dK hsb)).trans hsb;have aE:=ar.trans ((I.trans (aA.mono I.size)).mono ar.size);have bA:=SG.first (V:=w) (W:=w2) (p:=(true,P0)) aE ar.size (by have:=ar.size;omega) ((aA.block _ (dK ak)).trans ak) an (by unfold maxLen;omega);have aV:Hid (R7 (oU L) (QX n) (sS L) 0 [(true,P0)] []):=by show R7 _ _ _ _ _ _;rw[bw.out];exact R7.start _ _ _
 have sc:w2.cell? (TU (w1.heap.size+1) (jd (true,P0)))=some (xd xh 0):=by rw[EQ an];simp_all
 have sf:=gh an (jd (true,P0));have aF:((jd (true,P0):Nat):Int)<(N:Int):=zo;generalize jd (true,P0)=c0 at *;clear ak hsb an I aA aE HC bH;generalize hsbe:w1.heap.size+1=sb at *;generalize hpbe:w1.heap.size=pb at *;clear hsbe hpbe ar;go_wp2_with fail;generalize w2.setCell (TU sb c0) (xd xh 1)=W3 at *;clear sc sf aC aF
 go_loopw [6,8,9] (λy z x wr=>∃(k:Nat) (lo:TX) (lc:Nat) (l:List (Bool × T7)) (ho:TX) (hc:Nat) (rv:TW) (tw:T0),y=xa lo l.length lc/\z=xa ho k hc/\x=xd xh k/\Hid (SG w wr N sb lo lc l ho hc rv tw)/\Hid (R7 (oU L) (QX n) (sS L) k l tw)) (λ_ _ x _=>131073-(intOf x).toNat)
 .exact⟨0,TT pb,1,[(true,P0)],none,0,[],[],rfl,rfl,rfl,bA,aV⟩
 obtain⟨k,lo,lc,l,ho,hc,rv,tw,rfl,rfl,rfl,HP,aj⟩:=hrel;have bc:=yG hL aj.out;have hkl:=aj.out.le;have az:=fy (aj.out.len);rcases zc k l.length with⟨hlt,hkn⟩|⟨hlt,hkn⟩
 .have HX:=fy (Uq hlt);have aP:=qG aj.out _ (UY hlt);have bC:=Sn.start wr w.heap.size (xa (TT sb) N N) rv;have aX:=fy (qG aj.out);generalize l[k]=pp at *;obtain⟨pe,P⟩:=pp;replace aP:P.length=L.length:=aP;go_wp2_with fail
  rename Uc=>wR
  go_loopw [6,10,11] (λy v x wr=>∃(j:Nat) (lo:TX) (lc:Nat) (M:List (Bool × T7)) (q:T5) (vo:TX) (vc:Nat),j<=n/\y=xa lo M.length lc/\v=xa vo j vc/\x=xd xh j/\Hid (SG w wr N sb lo lc M ho hc rv tw)/\Hid (Sn wr w.heap.size (xa (TT sb) N N) rv (xa vo j vc) q)/\Hid (jv (oU L) (pe,P) (QX j) l=(M,q))) (λ_ _ x _=>n-(intOf x).toNat)
  .exact⟨0,lo,lc,l,[],none,0,Ux,rfl,rfl,rfl,HP,bC,rfl⟩
  obtain⟨j,bJ,bm,M,q,vo,vc,hj,rfl,rfl,rfl,U,HU,HRN⟩:=hrel;have aw:=oI (oU L) (pe,P) (QX j) l;rw[HRN.out] at aw;obtain⟨⟨xs,aq,aQ⟩,bg,_,_⟩:=aw;have hMle:M.length<=l.length+j:=by
   have:=vR (oU L) (pe,P) (QX j) l;exact zm130
  have av:q.length=j:=za;have ay:=fy av;have hkM:k<M.length:=by
   have:M=l++xs:=aq;rw[this,Ur];omega
  have aK:M[k]?=some (pe,P):=by
   have:M=l++xs:=aq;rw[this];exact uF HX.out
  have bu:Hid (∀p∈M,p.2.length=L.length):=λp hp=>by
   have:M=l++xs:=aq;rw[this] at hp;rcases List.mem_append.1 hp with h|h
   .exact aX.out p h
   obtain⟨a,_,rfl⟩:=aQ p h;exact mF ..
  rcases zc j n with⟨hjl,hjn⟩|⟨hjl,hjn⟩
  .have hkMi:(k:Int)<(M.length:Int):=zo;obtain⟨g,bd,bF,bD,bE⟩:=Jo U.out.pl k _ aK;subst bd;have aT:=Ke B L T (hN.later U.out.bel) hg zo P pe j zo aP;have ad:Hid (jv (oU L) (pe,P) (QX (j+1)) l=((jx M (oU L (pe,P) j)).1,q++[(jx M (oU L (pe,P) j)).2])):=by
    exact zm115
   have aU:Hid (oU L (pe,P) j=(false,km P true (!pe) (j:Nat) L)):=rfl;have ba:(km P true (!pe) (j:Nat) L).length=L.length:=mF ..;clear bg av aq aQ aK;generalize km P true (!pe) (j:Nat) L=P2 at *;rw[aU.out] at ad;clear aU;go_wp2_with fail;refine aT.mono ?_;rintro e w5 ⟨rfl,aL⟩;have aY:=U.out.later aL;have a6:=HU.out.later aL;clear aL aT U HU bF bD bE;have aW:=fy (λW:Uc=>Ch W P2 false zo);go_wp2_with fail;have aM:=ir w5 (xi #[xj (gK P2),xn false] 302);have ak:=gi w5 (xi #[xj (gK P2),xn false] 302);refine(aW.out _).mono ?_;rintro e w6 ⟨rfl,aB⟩;have aa:=(aY.later aM).later aB;have ao:=(a6.later aM).later aB;have au:=(aB.block _ (dK ak)).trans ak;have pc0:=EQ au 0;have pc1:=EQ au 1;have aC:jd (false,P2)<N:=by have:=xt (false,P2) (n:=16) za;omega
   have aF:((jd (false,P2):Nat):Int)<(N:Int):=zo;obtain⟨sc,sl,sf⟩:=MN aa.tab aC;have hV6:=aa.bel.size;clear aM ak aB au aY a6 aW;rcases Oe (l:=M) (p:=(false,P2)) (λq hq=>(bu.out q hq).trans ba.symm) with⟨h0,hf,hnum⟩|⟨i,hi,hs,hnum⟩
   .rw[hnum] at ad;rw[h0] at sc;have bn:w6.cell? (TU sb (jd (false,P2)))=some (xd xh 0):=sc;have HF:=fy hf;clear hnum h0 sc hf
    go_wp2_with (at_builtin;go_must (refine Uz _ rfl _ _ 298 rfl w.heap.size 302 q0 (.agg #[xj ⟨#[]⟩,xn false]) 2 24 underlying298 bI bh bj bl rfl zd _ M.length (pC M) rfl ?c0 (TU w6.heap.size 0) 1 1 [xj (gK P2),xn false] rfl rfl ?c1 ?c2 zd ?c3 ?c4 ?c5 (w6.heap.size+1) ?c6 ?_))
    case c0=>exact aa.pl.alloc _
    case c1=>exact WR (gi _ _)
    case c2=>intro u hu;simp at hu;rcases hu with rfl|rfl<;>rfl
    case c3=>unfold maxLen;omega
    case c4=>omega
    case c5=>simp;omega
    case c6=>simp
    intro g8 a7 w8 bf aN _ _;have I:=ir w6 (xi #[xj (gK P2),xn false] 302);have aO:=aa.later I;obtain⟨sc8,sl8,sf8⟩:=MN (aO.tabL aN) aC;obtain⟨aG,aI⟩:=aO.more (ao.later I) (p:=(false,P2)) HF.out bf aN (z:=(M.length:Int)+1) zo;generalize jd (false,P2)=c at *;clear bf aN I aO aa ao bn sl sf HF
    go_wp2_with (at_builtin;go_must (refine qu rfl _ _ 33 rfl _ w.heap.size 3 oe rfl underlying33 (n:=j) (xs:=gX q) rfl (xd xh (M.length:Int)) rfl rfl ?x0 zo aG.bel.size (by first|rfl|simp[Rp]) ?_))
    case x0=>have:=aI.own;rw[ay.out] at this;exact this
    intro g9 ae w9 ai ag J;have hwA:(w8.setCell (TU sb c) (xd xh ((M.length:Int)+1))).heap.size=w8.heap.size:=zp;generalize w8.setCell (TU sb c) (xd xh ((M.length:Int)+1))=wA at *;have I:=ir wA (xi #[xd xh (M.length:Int)] 3);obtain⟨aH,aJ⟩:=(aG.later I).num (aI.later I) (x:=M.length) (by rw[ay.out];exact ai) ag rfl (J.imp id (λh=>zs));have hlM:(M++[(false,P2)]).length=M.length+1:=zp;clear ai ag J I aG aI;go_wp2
    go_roundw
    .exact⟨j+1,TT g8,a7,M++[(false,P2)],q++[M.length],TT g9,ae,zo,zp,rfl,zf,aH,aJ,ad⟩
    simp[intOf];omega
   rw[hnum] at ad;rw[hs] at sc;have bn:w6.cell? (TU sb (jd (false,P2)))=some (xd xh ((i:Int)+1)):=sc;generalize jd (false,P2)=c at *;clear hnum hs sc
   go_wp2_with (at_builtin;go_must (refine qu rfl _ _ 33 rfl _ w.heap.size 3 oe rfl underlying33 (n:=j) (xs:=gX q) rfl (xd xh (i:Int)) rfl rfl ?y0 zo aa.bel.size (by first|rfl|simp[Rp]) ?_))
   case y0=>have:=ao.own;rw[ay.out] at this;exact this
   intro g9 ae w9 ai ag J;have I:=ir w6 (xi #[xd xh (i:Int)] 3);obtain⟨aH,aJ⟩:=(aa.later I).num (ao.later I) (x:=i) (by rw[ay.out];exact ai) ag rfl (J.imp id (λh=>zs));clear ai ag J I aa ao;go_wp2
   go_roundw
   .exact⟨j+1,_,bm,M,q++[i],TT g9,ae,zo,rfl,rfl,zf,aH,aJ,ad⟩
   simp[intOf];omega
  have bG:j=n:=zo;subst bG;have aD:Hid (R7 (oU L) (QX j) (sS L) (k+1) M (tw++[q])):=by
   have:=aj.out.step HX.out;rw[HRN.out] at this;exact this
  have hfew2:=yG hL aD.out;clear bg av aq aQ aK
  go_wp2_with (at_builtin;go_must (refine qu rfl _ _ 34 rfl _ w.heap.size 33 sH rfl underlying34 (n:=k) (xs:=rv) rfl (xa vo j vc) rfl rfl ?z0 zo U.out.bel.size (by first|rfl|simp[Rp]) ?_))
  case z0=>have h1:=U.out.tab.nx;rw[az.out] at h1;exact h1
  intro g9 ae w9 ai ag J;have I:=ir wr (xi #[xa vo j vc] 33);have bB:=(U.out.later I).row (HU.out.later I) (by rw[az.out];exact ai) (by rw[az.out];exact ag);clear ai ag J I U HU;go_wp2
  go_roundw
  .exact⟨k+1,bJ,bm,M,TT g9,ae,_,tw++[q],rfl,rfl,zf,bB,aD⟩
  simp[intOf];omega
 have bt:Hid (k=l.length):=by show _=_;omega
 go_wp2_with fail;refine py (v:=.tuple #[xa lo l.length lc,xa ho k hc]) (by simp[results,results181,go_sem]) rfl ?_;exact⟨N,sb,rv,l,tw,lo,lc,ho,hc,by rw[az.out],bt.out▸aj.out,HP.out,bc⟩
end Go.Proofs.YtidakhhekofkoaaGreatDoor
