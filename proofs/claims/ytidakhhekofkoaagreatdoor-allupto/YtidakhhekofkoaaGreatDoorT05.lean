import Derived.Test.YtidakhhekofkoaaGreatDoorT04
import Derived.Deep.AppendLies
set_option linter.all false
set_option maxHeartbeats 4000000
set_option maxRecDepth 100000
namespace Go.Proofs
def UB:=@Go.step_append_lies
def UQ:=@Go.World.cell?_setCell_far
def XK:=λ{a b c d}=>@Go.World.cell?_setCell_far a b c d
end Go.Proofs
namespace Go.Proofs.YtidakhhekofkoaaGreatDoor
attribute [local go_sem] TT TU TV XL
attribute [local simp] TT TU TV XL
open Go.Proofs.Tryz
open Go.RowKit Go.Deep
open Value renaming slice->xa,int->xd,string->xj,pointer->xk,bool->xn
open IntKind renaming i64->xh
open Obj renaming cells->xi
open Ending renaming returned->xm
open Or renaming inr->QY,inl->Rj
open Addr renaming add->Rn
open Lib renaming containsS_iff->Rr
variable{zq:Prop}
variable{w w' w1 w2:Uc}{L r NM a l' al r1 r2 r3:TY}{j pb cap B i q n q1 q2 q' p lo hi e off ac m j1 j2 j3 q3:Nat}{t:Tk}{bad b b1 b2 bad' y b' b3:Bool}{α:Type}{rs:T6}{x:T3}{u u' v':Nat->Bool}{o ro so ao fo vf vg:TX}{f:Fm}{xs:TW}
def zm7(h:zq:=by
 apply zrH 7;intro K hK;refine UB _ zf _ _ 125 zf B 201 i0 (.agg #[xd xh 0,xj ⟨#[]⟩,xd xh 0]) 3 32 underlying125 hi hz0 hz1 hz2 rfl zp (xa no nn nc) NM.length (gM NM) zf ?c0 (TU (w1.heap.size+1) 0) 1 1 [xd xh t.k,xj t.s,xd xh t.p] zf rfl ?c1 ?c2 zp ?c3 ?c4 ?c5 (w1.heap.size+2) zp ?_
 case c0=>exact gq hown (gC.alloc zp _).drew
 case c1=>
  intro j u hj
  match j,hj with
  |0,hj=>simp at hj;subst hj;simp[Addr.add]
  |1,hj=>simp at hj;subst hj;simp[Addr.add]
  |2,hj=>simp at hj;subst hj;simp[Addr.add]
  |j+3,hj=>simp at hj
 case c2=>intro u hu;simp at hu;rcases hu with rfl|rfl|rfl<;>rfl
 case c3=>unfold maxLen;omega
 case c4=>omega
 case c5=>simp;omega
 intro g2 cap2 w2 hown2 hgrow hat hlt2;have hbx2:w2.heap[w1.heap.size]?=some (xi #[xd xh t.k,xj t.s,xd xh t.p] 201 (0,0)):=(hgrow.block _ zs (λe=>hxn e.symm)).trans ((XD zp).trans (gi _ _));have hpb2:=(hgrow.block pb zs (λe=>hpn e.symm)).trans ((XD zs).trans ((XD hpb).trans h1));have hz2:w1.heap.size<w2.heap.size:=dK hbx2;have hzp2:pb<w2.heap.size:=dK hpb2;have hs2:w2.cell? (TU w1.heap.size 0)=some (xd xh t.k)/\w2.cell? (TU w1.heap.size 1)=some (xj t.s)/\w2.cell? (TU w1.heap.size 2)=some (xd xh t.p):=⟨EQ hbx2 0,EQ hbx2 1,EQ hbx2 2⟩;refine hK.out _ _ hs2 (λhHeld=>?_);clear hK K bc bf;have bc:=EQ hpb2;have bf:=gh hpb2;have HF2:=(hf1.trans (PF.below (pb:=pb) (B:=B) (((Uo w1.heap.size w1).alloc (XH) (xi #[xd xh t.k,xj t.s,xd xh t.p] 201)).alloc zp (xi #[xd xh t.k,xj t.s,xd xh t.p] 201)).drew)).trans (PF.row (gq hown (gC.alloc zp _).drew) hgrow);have hrow2:∃cur,w2.heap[g]?=some (xi cur 201 (0,0))/\cur.toList.take (L.length*3)=gM L:=by
  obtain⟨cur,h3,h4⟩:=hp1.row;exact⟨cur,(hgrow.block g (by have:=dK h3;simp;omega) (by intro e;have:=rE hown e.symm;omega)).trans ((XD (by have:=dK h3;simp;omega)).trans ((XD (dK h3)).trans h3)),h4⟩
 have HROW:=fy hrow2;have hg2n:g2≠pb:=by
  rintro rfl;rcases hat with e|e
  .trivial
  omega
 clear hgrow hrow2 hs2;apply zt1 8 (xk (TT pb)) hHeld;apply zt1 9 (xk (some (TU pb 3))) hHeld;apply zrH 10;intro K hK;go_simp;refine hK.out _ _ (by obtain⟨s0,s1,s2⟩:=hHeld;refine⟨?_,?_,?_⟩<;>(rw[XK (by show pb≠w1.heap.size;omega)];assumption)) (λhHeld=>?_);clear hK K;refine Ut zk ?_ _;obtain⟨s0,s1,s2⟩:=hHeld;clear bc bf;go_wp2_with fail;refine(oh).mono ?_;rintro e w4 ⟨v,rfl,hv,hb4⟩;have HV:=fy hv;clear hv;go_wp2;go_ret;have hPP3:PP (w2.setCell (TU pb 3) (xa (TT g2) (NM.length+1) cap2)) pb g cap B L j bad' q' (NM++[t]):=by
  obtain⟨cur,h3,h4⟩:=HROW.out;refine⟨⟨TT g2,NM.length+1,cap2,gj hpb2 3 _,?_⟩,⟨cur,(XE (by show g≠pb;exact hp1.ne)).trans h3,h4⟩,hp1.le,hp1.capLe,hp1.len,hp1.lt,hp1.fe,hp1.ok,hgB,hpB,by simp[World.setCell];omega,λe=>za⟩;rw[mP,Ur];exact gy hown2 (gp _ _ _ _) (Or.inr (by intro e;cases e;trivial))
 have hF3:PF pb B w (w2.setCell (TU pb 3) (xa (TT g2) (NM.length+1) cap2)):=HF2.trans (PF.grown (gp _ _ _ _));exact⟨v,rfl,HV.out t.p,hPP3.later hb4,hF3.trans (PF.below hb4)⟩
 ):zq:=h
def zm14(h:zq:=by
 apply zr 8;intro K hK;refine UB _ zf _ _ 125 zf w.heap.size 201 i0 (.agg #[xd xh 0,xj ⟨#[]⟩,xd xh 0]) 3 32 underlying125 hi hz0 hz1 hz2 rfl zp (xa ao an ac) 1 (gM [v]) zf ?c0 (TU w3.heap.size 0) 1 1 [xd xh z.k,xj z.s,xd xh z.p] zf rfl ?c1 ?c2 zp ?c3 ?c4 ?c5 (w3.heap.size+1) zp ?_
 case c0=>exact hown3.alloc _
 case c1=>
  intro j u hj
  match j,hj with
  |0,hj=>simp at hj;subst hj;simp[Addr.add]
  |1,hj=>simp at hj;subst hj;simp[Addr.add]
  |2,hj=>simp at hj;subst hj;simp[Addr.add]
  |j+3,hj=>simp at hj
 case c2=>intro u hu;simp at hu;rcases hu with rfl|rfl|rfl<;>rfl
 case c3=>decide
 case c4=>simp
 case c5=>simp;omega
 intro g4 cap4 w4 hown4 hgrow4 hat4 hlt4;have hcb4:=(hgrow4.block cb zs (λe=>gz hown3 e.symm hcb3 zp)).trans ((XD hcb3l).trans hcb3);have bc4:=EQ hcb4;have bf4:=gh hcb4;refine hK _ _ ?_;clear hK K bc3;apply zt0 9 (xk (TT cb));apply zt0 10 (xk (some (TU cb 3)));apply zS 11;refine Vg zk ?_ _;go_wp2_with fail
 go_meet
 have hg4:=λe=>gz hown4 e hcb4 zp
 refine⟨⟨hzw,TT g4,1+1,cap4,gj hcb4 3 _,gy hown4 (gp _ _ _ _) (Or.inr hg4)⟩,?_⟩;exact(((HM6.trans HM3).alloc _).row hgrow4 (λk e=>(gJ hown3 k e).1) hp0).setNew hzw hp0 _ _
 ):zq:=h
def zm15(h:zq:=by
 apply zr 8;intro K hK;refine UB _ zf _ _ 125 zf w.heap.size 201 i0 (.agg #[xd xh 0,xj ⟨#[]⟩,xd xh 0]) 3 32 underlying125 hi hz0 hz1 hz2 rfl zp TV 0 (gM []) zf ?c0 (TU w3.heap.size 0) 1 1 [xd xh v.k,xj v.s,xd xh v.p] zf rfl ?c1 ?c2 zp ?c3 ?c4 ?c5 (w3.heap.size+1) zp ?_
 case c0=>exact hown3.alloc _
 case c1=>
  intro j u hj
  match j,hj with
  |0,hj=>simp at hj;subst hj;simp[Addr.add]
  |1,hj=>simp at hj;subst hj;simp[Addr.add]
  |2,hj=>simp at hj;subst hj;simp[Addr.add]
  |j+3,hj=>simp at hj
 case c2=>intro u hu;simp at hu;rcases hu with rfl|rfl|rfl<;>rfl
 case c3=>decide
 case c4=>simp
 case c5=>simp;omega
 intro g4 cap4 w4 hown4 hgrow4 hat4 hlt4;have hcb4:=(hgrow4.block cb zs (λe=>gz hown3 e.symm hcb3 zp)).trans ((XD hcb3l).trans hcb3);have bc4:=EQ hcb4;have bf4:=gh hcb4;refine hK _ _ ?_;clear hK K bc3;apply zt0 9 (xk (TT cb));apply zt0 10 (xk (some (TU cb 3)));apply zS 11;refine Vg zk ?_ _;go_wp2_with fail
 go_meet
 have hg4:=λe=>gz hown4 e hcb4 zp
 refine⟨⟨hzw,TT g4,0+1,cap4,gj hcb4 3 _,gy hown4 (gp _ _ _ _) (Or.inr hg4)⟩,?_⟩;exact(((HM2.trans HM3).alloc _).row hgrow4 (λk e=>(gJ hown3 k e).1) hp0).setNew hzw hp0 _ _
 ):zq:=h
def zm25(h:zq:=by
 clear ht h3 hs hs3;go_in;go_wp2_with fail;refine(jk (h.alloc _) HT.out).mono ?_;rintro e w1 ⟨rfl,rfl⟩;go_wp2_with fail;refine hTT.mono ?_;rintro e w1 ⟨rfl,hm1⟩;have hrb:=(hm1.gr.block w.heap.size zp zs).trans (gi _ _);have HM:=((Mv.refl w pb g cap L.length i bad q).alloc (xi #[xd xh 0,xj ⟨#[]⟩,xd xh 0] 201)).trans hm1;have rc:=EQ hrb;have rf:=gh hrb;clear hm1;simp only[jm];go_wp2_with fail;clear rc;have hfin:(((w1.setCell (TU w.heap.size 0) (xd xh t.k)).setCell (TU w.heap.size 1) (xj t.s)).setCell (TU w.heap.size 2) (xd xh t.p)).heap[w.heap.size]?=some (xi #[xd xh t.k,xj t.s,xd xh t.p] 201 (0,0)):=gj (gj (gj hrb 0 _) 1 _) 2 _;have rc:=EQ hfin;exact py (v:=jm t) (by simp[results,results225,go_sem,rc,jm]) rfl ⟨rfl,HM.setNew3 (XH) hp _ _ _⟩
 ):zq:=h
def zm36(h:zq:=by
 rintro e w2 ⟨hf,p,rfl,hx⟩;go_wp2;go_ret;exact⟨hf,p,rfl,hx⟩
 ):zq:=h
def zm56(h:zq:=by
 exact⟨0,Ux,rfl,rfl,rfl⟩
 ):zq:=h
def zm60(h:zq:=by
 rintro e w4 ⟨v,rfl,hv,hb4⟩;have HV:=hv HG3 hg3;clear hv;go_wp2_with fail
 go_roundg m
 case measure=>omega
 exact⟨_,rfl,((hgj.trans HF2).trans hf3).trans (PF.below hb4),Or.inl ⟨_,i3,zo,hl3,HV,by rw[qK zp,<-UI];exact hp3.later hb4,HX3.out⟩⟩
 ):zq:=h
def zm69(h:zq:=by
 rintro e w4 ⟨v,rfl,hv,hb4⟩;have HV:=hv HGA hg3;clear hv;go_wp2;go_ret;rw[HX3.out];exact⟨((hf1.trans HF2).trans hf3).trans (PF.below hb4),_,rfl,HV,i3,HQ3.out,by rw[qK zp,<-UI];exact hp3.later hb4⟩
 ):zq:=h
def zm80(h:zq:=by
 have HT:=fy ht;have HK:=fy hk;clear ht hpf h13 hk;go_wp2_with fail;refine(pN hp1 HT.out HK.out).mono ?_;rintro e w2 ⟨rfl,rfl⟩;go_wp2;go_ret;rw[HX.out];exact⟨hf1,_,rfl,hg1,i1,rfl,hp1⟩
 ):zq:=h
def zm81(h:zq:=by
 have HT:=fy ht;have HK:=fy hk;clear ht h16 hk hxj;go_wp2_with fail;refine(pN hpj HT.out HK.out).mono ?_;rintro e w2 ⟨rfl,rfl⟩;go_wp2;go_ret;rw[HX.out];exact⟨hgj,_,rfl,hga,j,rfl,hpj⟩
 ):zq:=h
def zm89(h:zq:=by
 obtain⟨a,l1⟩:=x;have hlen:=jz _ _ _ _ _ _ hpf;rw[hpf] at hx;obtain⟨hg1,i1,hl1,hp1⟩:=hx;exact Or.inl ⟨a,i1,XH,by rw[hl1];omega,hg1,hp1,by show _=_;rw[pf,hpf,hl1]⟩
 ):zq:=h
def zm93(h:zq:=by
 rintro e w4 ⟨v,rfl,-,hb4⟩;go_wp2_with fail
 go_roundg m
 case measure=>omega
 exact⟨_,rfl,((hgj.trans HF2).trans hf3).trans (PF.below hb4),Or.inr ⟨q,NM3,hp3.later hb4,HX3.out⟩⟩
 ):zq:=h
def zm96(h:zq:=by
 have HXJ:=fy hxj.out;clear ht hxj hk;go_wp2_with fail;refine(pN hpj HT.out HK.out).mono ?_;rintro e w2 ⟨rfl,rfl⟩;go_wp2;go_ret;rw[HXJ.out];exact⟨hgj,_,rfl,NMj,hpj⟩
 ):zq:=h
def zm97(h:zq:=by
 go_wp2;go_ret;exact⟨Lz.no HN.out,hB⟩
 ):zq:=h
def zm106(h:zq:=by
 go_wp2
 go_roundw
 .exact⟨k+1,zo,zf,trivial,HK2⟩
 simp[intOf];omega
 ):zq:=h
def zm110(h:zq:=by
 clear ht hpf hk;go_wp2_with fail;refine(pN hp1 HT.out HK.out).mono ?_;rintro e w2 ⟨rfl,rfl⟩;go_wp2;go_ret;rw[HX.out];exact⟨hf1,_,rfl,NM1,hp1⟩
 ):zq:=h
def zm121(h:zq:=by
 rintro e w4 ⟨v,rfl,-,hb4⟩;go_wp2;go_ret;rw[HX3.out];exact⟨((hf1.trans HF2).trans hf3).trans (PF.below hb4),_,rfl,NM3,hp3.later hb4⟩
 ):zq:=h
def zm141(h:zq:=by
 go_wp2;go_ret;exact⟨Lz.no HN.out,XF⟩
 ):zq:=h
def zm156(h:zq:=by
 go_wp2;go_ret;exact⟨ja HF.out.symm,rfl⟩
 ):zq:=h
def zm166(h:zq:=by
 rw[UF zo] at HK;go_wp2;go_ret;exact⟨ja HK.out.symm,rfl⟩
 ):zq:=h
def zm168(h:zq:=by
 rw[hpf] at hx;obtain⟨NM1,hp1⟩:=hx;exact Or.inr ⟨q,NM1,hp1,by show _=_;rw[pf,hpf]⟩
 ):zq:=h
def Sw{row:Ua}(h:w.grownBy w' row):w.grownBy w'.drew row:=⟨h.os,h.tape,h.output,h.size,h.block⟩
structure PP(w:Uc)(pb g cap B:Nat)(L:TY)(i:Nat)(bad:Bool)(q:Nat)(NM:TY):Prop where
 blk:∃no nn nc,w.heap[pb]?=some (xi #[xa (some (TU g (i*3))) (L.length-i) (cap-i),xn bad,xd xh q,xa no nn nc] 194 (0,0))/\w.ownsRow B 201 3 (xa no nn nc) NM.length (gM NM)
 row:∃cur,w.heap[g]?=some (xi cur 201 (0,0))/\cur.toList.take (L.length*3)=gM L
 le:L.length<=cap
 capLe:cap<=maxLen
 len:L.length<=401
 lt:i<L.length
 fe:FE L
 ok:∀t∈L,Kc 400 t
 gB:g<B
 pB:pb<B
 hB:B<=w.heap.size
 nm:bad=false->NM.length<=i
theorem Et(L:TY)(i:Nat)(t:Tk)(r:TY)(h:L.drop i=t::r):
  (gM L)[i*3]?=some (xd xh t.k)/\(gM L)[i*3+1]?=some (xj t.s)/\(gM L)[i*3+2]?=some (xd xh t.p):=by
 induction L generalizing i with
 |nil=>simp at h
 |cons u L ih=>
  cases i with
  |zero=>grind[gM]
  |succ i=>
   grind[gM]
theorem mZ{g:Nat}(h:∃cur,w.heap[g]?=some (xi cur 201 (0,0))/\cur.toList.take (L.length*3)=gM L)(I:L.drop j=t::r):
  w.cell? (TU g (j*3))=some (xd xh t.k)/\w.cell? (TU g (j*3+1))=some (xj t.s)/\w.cell? (TU g (j*3+2))=some (xd xh t.p):=by
 obtain⟨cur,h1,h2⟩:=h;have h3:=Et L j t r I
 grind[EQ]
def PP.tok{g:Nat}(h:PP w pb g cap B L i bad q NM)(I:PL L i=t::r):
  w.cell? (TU g (i*3))=some (xd xh t.k)/\w.cell? (TU g (i*3+1))=some (xj t.s)/\w.cell? (TU g (i*3+2))=some (xd xh t.p):=by
 obtain⟨r',hr⟩:=vH I;exact mZ h.row hr
def PP.gLt{g:Nat}(h:PP w pb g cap B L i bad q NM):g<w.heap.size:=by
 obtain⟨cur,I,_⟩:=h.row;exact dK I
def PP.pLt{g:Nat}(h:PP w pb g cap B L i bad q NM):pb<w.heap.size:=by
 obtain⟨_,_,_,I,_⟩:=h.blk;exact dK I
def PP.ne{g:Nat}(h:PP w pb g cap B L i bad q NM):g≠pb:=by
 rintro rfl;obtain⟨cur,h1,_⟩:=h.row;obtain⟨_,_,_,h2,_⟩:=h.blk;simp_all
def PP.later{g:Nat}(h:PP w pb g cap B L i bad q NM)(I:XL w w'):PP w' pb g cap B L i bad q NM:=by
 obtain⟨no,nn,nc,J,h2⟩:=h.blk;obtain⟨cur,U,h4⟩:=h.row;exact⟨⟨no,nn,nc,(I.block _ (dK J)).trans J,gq h2 I⟩,⟨cur,(I.block _ (dK U)).trans U,h4⟩,h.le,h.capLe,h.len,h.lt,h.fe,h.ok,h.gB,h.pB,by have:=I.size;have:=h.hB;omega,h.nm⟩
def PP.alloc{g:Nat}(h:PP w pb g cap B L i bad q NM)(o:Obj):PP (w.alloc o) pb g cap B L i bad q NM:=
 h.later gC
def Qp(g cap n i:Nat)(bad:Bool)(q:Nat)(no:TX)(nn nc:Nat):Obj:=
 xi #[xa (some (TU g (i*3))) (n-i) (cap-i),xn bad,xd xh q,xa no nn nc] 194 (0,0)
structure Mv(w w':Uc)(pb g cap n i:Nat)(bad:Bool)(q j:Nat)(bad':Bool)(q':Nat):Prop where
 gr:w.grownBy w' (some pb)
 onto:∀no nn nc,w.heap[pb]?=some (Qp g cap n i bad q no nn nc)->w'.heap[pb]?=some (Qp g cap n j bad' q' no nn nc)
def Mv.trans{g k:Nat}(h:Mv w w1 pb g cap n i b q j b1 q1)(I:Mv w1 w2 pb g cap n j b1 q1 k b2 q2):Mv w w2 pb g cap n i b q k b2 q2:=
 ⟨h.gr.trans I.gr,λno nn nc e=>I.onto no nn nc (h.onto no nn nc e)⟩
def Mv.refl(w:Uc)(pb g cap n i:Nat)(b:Bool)(q:Nat):Mv w w pb g cap n i b q i b q:=⟨U4 _ _,λ_ _ _ e=>e⟩
def Mv.alloc{g:Nat}(h:Mv w w1 pb g cap n i b q j b1 q1)(o:Obj):Mv w (w1.alloc o) pb g cap n i b q j b1 q1:=
 ⟨gL h.gr,λno nn nc e=>by have:=h.onto no nn nc e;exact(XD (dK this)).trans this⟩
def Mv.setNew{g:Nat}(h:Mv w w1 pb g cap n i b q j b1 q1){c:Nat}(hc:w.heap.size<=c)(hp:pb<w.heap.size)(o:Nat)(v:Ud):Mv w (w1.setCell (TU c o) v) pb g cap n i b q j b1 q1:=
 ⟨gD h.gr hc o v,λno nn nc e=>(XE (by show pb≠c;omega)).trans (h.onto no nn nc e)⟩
def Mv.setNew3{g:Nat}(h:Mv w w1 pb g cap n i b q j b1 q1){c:Nat}(hc:w.heap.size<=c)(I:pb<w.heap.size)(v0 v1 v2:Ud):Mv w (((w1.setCell (TU c 0) v0).setCell (TU c 1) v1).setCell (TU c 2) v2) pb g cap n i b q j b1 q1:=
 ((h.setNew hc I 0 v0).setNew hc I 1 v1).setNew hc I 2 v2
def PP.move{g:Nat}(h:PP w pb g cap B L i bad q NM)(hm:Mv w w' pb g cap L.length i bad q j bad' q')
  (hj:j<L.length)(hn:bad'=false->NM.length<=j):PP w' pb g cap B L j bad' q' NM:=by
 obtain⟨no,nn,nc,h1,J⟩:=h.blk;obtain⟨cur,U,h4⟩:=h.row;have I:(xa no nn nc).ownBlock≠some pb:=by
  intro e;have:=gJ J pb e;have:=h.pB;omega
 exact⟨⟨no,nn,nc,hm.onto _ _ _ h1,gy J hm.gr (QY I)⟩,⟨cur,(hm.gr.block _ (dK U) (by have:=h.ne;simp_all)).trans U,h4⟩,h.le,h.capLe,h.len,hj,h.fe,h.ok,h.gB,h.pB,by have:=hm.gr.size;have:=h.hB;omega,hn⟩
def fq(bad:Bool)(q p:Nat):Nat:=if bad=true then q else p
def jk{g:Nat}(h:PP w pb g cap B L i bad q NM)(J:PL L i=t::r):
  Calls prog 155 #[xk (TT pb)] w λe w'=>e=xm (xd xh t.k)/\w'=w:=by
 obtain⟨no,nn,nc,I,_⟩:=h.blk;obtain⟨t0,t1,t2⟩:=h.tok J;have hlt:=h.lt;have bc:=EQ I;clear h I J;go_in;go_wp2;go_ret;simp
def Jh(g:Nat)(B:Nat)(L:TY)(i:Nat)(q:Nat)(t:Tk)(r:TY)(h:PP w pb g cap B L i bad q NM)(ht:PL L i=t::r):
  Calls prog 191 #[xk (TT pb)] w λe w'=>e=xm (.tuple #[])/\Mv w w' pb g cap L.length i bad q (L.length-1) true (fq bad q t.p):=by
 obtain⟨no,nn,nc,h1,_⟩:=h.blk;obtain⟨t0,t1,t2⟩:=h.tok ht;have hlt:=h.lt;have hlen:=h.len;have hcap:=h.le;have I:=h.capLe;unfold maxLen at I;have bc:=EQ h1;have bf:=gh h1;have HP:=h;clear h ht;go_in;have e1:i*3+(L.length-i-1)*3=(L.length-1)*3:=zo;have e2:L.length-i-(L.length-i-1)=L.length-(L.length-1):=zo;have e3:cap-i-(L.length-i-1)=cap-(L.length-1):=zo;have J:=fy e1;have U:=fy e2;have E3:=fy e3;clear e1 e2 e3;cases bad
 .go_wp2_with fail
  go_region
  rw[J.out,U.out,E3.out];go_end0;have hg:=Sw ((gp w pb 1 (xn true)).trans ((gp _ pb 2 (xd xh t.p)).trans (gp _ pb 0 (xa (some (TU g ((L.length-1)*3))) (L.length-(L.length-1)) (cap-(L.length-1))))));exact⟨rfl,hg,λno nn nc h=>gj (gj (gj h 1 _) 2 _) 0 _⟩
 go_wp2_with fail
 go_region
 rw[J.out,U.out,E3.out];go_end0;have hg:=Sw (gp w pb 0 (xa (some (TU g ((L.length-1)*3))) (L.length-(L.length-1)) (cap-(L.length-1))));exact⟨rfl,hg,λno nn nc h=>gj h 0 _⟩
def rH{k:Nat}{g:Nat}(h:PP w pb g cap B L i bad q NM)(ht:PL L i=t::r)(hk:t.k≠k):
  Calls prog 153 #[xk (TT pb),xd xh (k:Int)] w λe w'=>e=xm (jm t)/\Mv w w' pb g cap L.length i bad q (L.length-1) true (fq bad q t.p):=by
 obtain⟨no,nn,nc,h1,_⟩:=h.blk;obtain⟨t0,t1,t2⟩:=h.tok ht;have hlt:=h.lt;have hp:=h.pLt;have hg:=h.gLt;have bc:=EQ h1;have hkb:((t.k:Int) !=(k:Int))=true:=zs;have HT:=fy ht;clear h1 ht hk;go_in;go_wp2_with fail;refine(Jh g B L i q t r ((h.alloc _).alloc _) HT.out).mono ?_;rintro e w1 ⟨rfl,J⟩;have I:=J.gr;have hrb:=(I.block _ zs zs).trans ((XD zp).trans (gi _ _));have U:w1.heap[w.heap.size+1]?=some (xi #[xd xh t.k,xj t.s,xd xh t.p] 201 (0,0)):=(I.block _ zp zs).trans (gu zp);have HM:=(((Mv.refl w pb g cap L.length i bad q).alloc _).alloc _).trans J;have rc:=EQ hrb;have rf:=gh hrb;have xc:=EQ U;clear I J U bc t0 t1 t2;go_wp2_with fail;clear rc;have aa:(((w1.setCell (TU w.heap.size 0) (xd xh t.k)).setCell (TU w.heap.size 1) (xj t.s)).setCell (TU w.heap.size 2) (xd xh t.p)).heap[w.heap.size]?=some (xi #[xd xh t.k,xj t.s,xd xh t.p] 201 (0,0)):=gj (gj (gj hrb 0 _) 1 _) 2 _;have rc:=EQ aa;refine py (v:=jm t) (by simp[results,results153,go_sem,rc,jm]) rfl ⟨rfl,HM.setNew3 (XH) hp _ _ _⟩
def kU{k:Nat}{g:Nat}(h:PP w pb g cap B L i bad q NM)(ht:PL L i=t::r)(hk:t.k=k)(U:2<=k):
  Calls prog 153 #[xk (TT pb),xd xh (k:Int)] w λe w'=>e=xm (jm t)/\Mv w w' pb g cap L.length i bad q (i+1) bad q:=by
 obtain⟨no,nn,nc,J,_⟩:=h.blk;obtain⟨t0,t1,t2⟩:=h.tok ht;have hnx:=h.fe.nextLt ht zo;have hle:=h.le;have I:=h.capLe;unfold maxLen at I;have hp:=h.pLt;have hg:=h.gLt;have bc:=EQ J;have bf:=gh J;have hkb:((t.k:Int) !=(k:Int))=false:=zs;have hkz:((k:Int) !=0)=true:=zs;have hc1:¬ cap-i=1:=zo;have e1:i*3+3=(i+1)*3:=zo;have e2:L.length-i-1=L.length-(i+1):=zo;have e3:cap-i-1=cap-(i+1):=zo;have E1:=fy e1;have E2:=fy e2;have E3:=fy e3;clear h J ht hk e1 e2 e3 U;go_in;go_wp2_with fail;rw[E1.out,E2.out,E3.out];refine py (v:=jm t) (by simp[results,results153,go_sem,jm]) rfl ⟨rfl,?_⟩;have hm:Mv w (w.setCell (TU pb 0) (xa (some (TU g ((i+1)*3))) (L.length-(i+1)) (cap-(i+1)))) pb g cap L.length i bad q (i+1) bad q:=⟨gp _ _ _ _,λno nn nc h=>gj h 0 _⟩;exact(hm.alloc _).alloc _
def AQ{g:Nat}(h:PP w pb g cap B L i bad q NM)(J:PL L i=t::r)(U:t.k=0):
  Calls prog 153 #[xk (TT pb),xd xh 0] w λe w'=>e=xm (jm t)/\Mv w w' pb g cap L.length i bad q i bad q:=by
 obtain⟨no,nn,nc,I,_⟩:=h.blk;obtain⟨t0,t1,t2⟩:=h.tok J;have hlt:=h.lt;have hp:=h.pLt;have hg:=h.gLt;have bc:=EQ I;have hkb:((t.k:Int) !=0)=false:=zs;clear h I J U;go_in;go_wp2_with fail;refine py (v:=jm t) (by simp[results,results153,go_sem,jm]) rfl ⟨rfl,?_⟩;exact((Mv.refl _ _ _ _ _ _ _ _).alloc _).alloc _
def pN{k:Nat}{g:Nat}(h:PP w pb g cap B L i bad q NM)(I:PL L i=t::r)(U:t.k≠k):
  Calls prog 154 #[xk (TT pb),xd xh (k:Int)] w λe w'=>e=xm (xn false)/\w'=w:=by
 have hkb:((t.k:Int) !=(k:Int))=true:=zs;have J:=fy I;clear I U;go_in;go_wp2_with fail;refine(jk h J.out).mono ?_;rintro e w1 ⟨rfl,rfl⟩;go_wp2;go_ret;simp
def oG{k:Nat}{g:Nat}(h:PP w pb g cap B L i bad q NM)(ht:PL L i=t::r)(U:t.k=k)(I:2<=k):
  Calls prog 154 #[xk (TT pb),xd xh (k:Int)] w λe w'=>e=xm (xn true)/\Mv w w' pb g cap L.length i bad q (i+1) bad q:=by
 have hkb:((t.k:Int) !=(k:Int))=false:=zs;have J:=fy ht;have HK:=fy U;clear ht U;go_in;go_wp2_with fail;refine(jk h J.out).mono ?_;rintro e w1 ⟨rfl,rfl⟩;go_wp2_with fail;refine(kU h J.out HK.out I).mono ?_;rintro e w2 ⟨rfl,hm⟩;go_wp2;go_ret;trivial
def lJ:Fm->TY
 |.nil=>[]
 |.node _ _ a l r=>(if a.1=0 then [⟨2,a.2.1,a.2.2⟩] else [])++(lJ l++lJ r)
theorem E9{k:Nat}(hk:k≠0)(f:Fm):lJ (one k f)=lJ f:=by
 grind[lJ,one]
theorem qK{k:Nat}(hk:k≠0)(f g:Fm):lJ (two k f g)=lJ f++lJ g:=by
 grind[lJ,two]
theorem C0{k:Nat}(hk:k≠0)(s:Ub)(p:Nat):lJ (leaf k s p)=[]:=by
 grind[lJ,leaf]
theorem C1(s:Ub)(p:Nat):lJ (leaf 0 s p)=[⟨2,s,p⟩]:=rfl
theorem ES(al:TY):∀f,qx al f=(lJ f).flatMap (λt=>iW al t.s t.p):=by intro I;induction I<;>grind[qx,lJ]
def kJ{l:List α}:l.tail.Sublist l:=List.tail_sublist l
def pP{m m2 l l1 l2:List α}(h:(m++l1).Sublist l)(I:(m2++l2).Sublist l1):((m++m2)++l2).Sublist l:=by
 rw[UI];exact(V4 (UD m) I).trans h
def L7{m l l1 l2:List α}(h:(m++l1).Sublist l)(I:l2.Sublist l1):(m++l2).Sublist l:=(V4 (UD m) I).trans h
theorem kX:∀n ae f l J l',pf n ae f l=.ok (J,l')->ae<=6->∃ms,lJ J=(if 5<=ae then lJ f else [])++ms/\(ms++l').Sublist l
 |0,_,_,_,_,_,h,_=>zv
 |n+1,0,f,l,J,l',h,_=>by
  rw[pf] at h
  split at h
  .cases h
  rename_i a l1 e
  obtain⟨m1,e1,I⟩:=kX n 1 .nil l a l1 e zo
  split at h
  .split at h
   .cases h
   rename_i b l2 e2
   obtain⟨m2,g2,U⟩:=kX n 0 .nil l1.tail b l2 e2 zo;cases h;exact⟨m1++m2,by grind[qK],pP I (U.trans (kJ))⟩
  simp_all
 |n+1,1,f,l,J,l',h,_=>by
  rw[pf] at h
  split at h
  .cases h
  rename_i a l1 e
  obtain⟨m1,e1,I⟩:=kX n 2 .nil l a l1 e zo;obtain⟨m2,e2,U⟩:=kX n 5 a l1 J l' h zo;exact⟨m1++m2,za,pP I U⟩
 |n+1,2,f,l,J,l',h,_=>by
  rw[pf] at h
  split at h
  .cases h
  rename_i a l1 e
  obtain⟨m1,e1,I⟩:=kX n 3 .nil l a l1 e zo;obtain⟨m2,e2,U⟩:=kX n 6 a l1 J l' h zo;exact⟨m1++m2,za,pP I U⟩
 |n+1,3,f,l,J,l',h,_=>by
  rw[pf] at h
  split at h
  .cases h
  rename_i a l1 e
  obtain⟨m1,e1,I⟩:=kX n 4 .nil l a l1 e zo
  split at h
  .split at h
   .cases h
   rename_i b l2 e2
   obtain⟨m2,g2,U⟩:=kX n 4 .nil l1.tail b l2 e2 zo;cases h;exact⟨m1++m2,by grind[qK],pP I (U.trans (kJ))⟩
  simp_all
 |n+1,4,f,l,J,l',h,_=>by
  rw[pf] at h
  split at h
  .rename_i ag
   split at h
   .cases h
   rename_i a l1 e
   obtain⟨m1,e1,I⟩:=kX n 4 .nil l.tail a l1 e zo;cases h;exact⟨m1,by rw[E9 ag,e1];rfl,I.trans (kJ)⟩
  split at h
  .split at h
   .cases h
   rename_i a l1 e
   obtain⟨m1,e1,I⟩:=kX n 0 .nil l.tail a l1 e zo
   split at h
   .cases h;exact⟨m1,e1,L7 (I.trans (kJ)) (kJ)⟩
   cases h
  split at h
  .rename_i hw
   cases h;exact⟨[],by rw[C0 zo];rfl,kJ⟩
  split at h
  .rename_i hk
   cases h;obtain⟨t,r,hl,ht⟩:=tj hk zp;subst hl;refine⟨[t],?_,UD _⟩;rw[C1];cases t with
   |mk k s p=>cases ht;rfl
  cases h
 |n+1,5,f,l,J,l',h,_=>by
  rw[pf] at h
  split at h
  .split at h
   .cases h
   rename_i b l1 e
   obtain⟨m1,e1,I⟩:=kX n 2 .nil l.tail b l1 e zo;obtain⟨m2,e2,U⟩:=kX n 5 _ l1 J l' h zo;exact⟨m1++m2,by grind[qK],(pP I U).trans (kJ)⟩
  simp_all
 |n+1,6,f,l,J,l',h,_=>by
  rw[pf] at h
  split at h
  .split at h
   .cases h
   rename_i b l1 e
   obtain⟨m1,e1,I⟩:=kX n 3 .nil l.tail b l1 e zo;obtain⟨m2,e2,U⟩:=kX n 6 _ l1 J l' h zo;exact⟨m1++m2,by grind[qK],(pP I U).trans (kJ)⟩
  simp_all
 |n+1,k+7,f,l,J,l',h,hl=>zo
def sA(r:Rl):T5:=if r.call=true then r.word.p::(r.args.map Tk.p++[r.fin]) else (lJ r.f).map Tk.p
def G8{b:TY}(h:a.Sublist b):(a.map Tk.p).Sublist (b.map Tk.p):=h.map _
def jD{l:TY}{k:Nat}(h:gF l=k)(I:k≠0):l.map Tk.p=ig l::l.tail.map Tk.p:=by
 obtain⟨t,r,rfl,_⟩:=tj h I;rfl
theorem vL(l:TY):(lg l).p=ig l:=by cases l<;>rfl
theorem Dm{l:TY}{r:Rl}(h:gZ l=.ok (r,l')):(sA r++l'.map Tk.p).Sublist (l.map Tk.p):=by
 unfold gZ at h
 split at h
 .rename_i I
  obtain⟨I,h2⟩:=I
  split at h
  .rename_i h3
   split at h
   .rename_i U
    split at h
    .rename_i J
     split at h
     .rename_i h6
      cases h;unfold sA;rw[Uh rfl,jD I zp,jD h2 zp,jD h3 zp,jD U zp];have h7:l.tail.tail.tail.tail.map Tk.p=ig l.tail.tail.tail.tail::l.tail.tail.tail.tail.tail.map Tk.p:=by
       rcases J with J|J<;>exact jD J zp
      rw[jD h6 zp] at h7;simp only[UZ,Vv,vL,UE,Vy]
      grind
     cases h
    cases h
   split at h
   .rename_i U
    cases h;unfold sA;rw[Uh rfl,jD I zp,jD h2 zp,jD h3 zp,jD U zp]
    grind[vL]
   cases h
  cases h
 grind[kX,sA]
def uv:∀n l ts l',iZ n l=.ok (ts,l')->(ts.map Tk.p++l'.map Tk.p).Sublist (l.map Tk.p)
 |0,_,_,_,h=>by simp[iZ] at h
 |n+1,l,ts,l',h=>by
  rw[iZ] at h
  split at h
  .rename_i I
   split at h
   .rename_i h2
    split at h
    .cases h
    rename_i ts1 l1 e
    cases h;have:=uv n _ _ _ e;rw[jD I zp,UZ,vL,UE];exact List.Sublist.cons_cons _ (this.trans (G8 (kJ)))
   cases h;rw[jD I zp,UZ,vL];exact UD _
  cases h
theorem uh:∀n l rs,iR n l=.ok rs->(rs.flatMap (λr=>r.pl::sA r)).Sublist (l.map Tk.p)
 |0,_,_,h=>by simp[iR] at h
 |n+1,l,rs,h=>by
  rw[iR] at h
  split at h
  .grind
  split at h
  .rename_i J
   split at h
   .cases h
   rename_i r l1 e
   split at h
   .split at h
    .cases h
    rename_i rs1 I
    cases h;have U:=Dm e;have h4:=uh n _ _ I;rw[jD J zp,VB,UE];refine List.Sublist.cons_cons _ ((V4 (UD _) (h4.trans (G8 (kJ)))).trans ?_);exact U
   cases h
  cases h
def Bt{l:TY}(h:ie l=.ok (al,rs)):(al.map Tk.p++rs.flatMap (λr=>r.pl::sA r)).Sublist (l.map Tk.p):=by
 unfold ie at h
 split at h
 .split at h
  .cases h
  rename_i al1 l1 e
  split at h
  .split at h
   .cases h
   rename_i rs1 I
   cases h;have J:=uv _ _ _ _ e;have U:=uh _ _ _ I;exact(V4 (UD _) (U.trans (G8 (kJ)))).trans (J.trans (G8 (kJ)))
  cases h
 cases h
theorem E7(s:Ub):∀n i,i<=s.size->(∀t∈jr s n i,i<=t.p)/\((jr s n i).map Tk.p).Pairwise (· <·)
 |0,i,_=>⟨λ_ h=>zv,List.Pairwise.nil⟩
 |n+1,i,hi=>by
  have I:=nU iy s i hi;have h2:=sL I;have h0:=pR iy s i;by_cases hk:(gY s (gV iy s i)).k<=1
  .grind[mq]
  rw[oC s n i hk];have J:=sN hi hk;have h4:=uJ s _ I zo;obtain⟨i1,U⟩:=E7 s n _ J.2;refine⟨λt ht=>?_,?_⟩
  .grind
  rw[UZ];refine List.Pairwise.cons (λp hp=>?_) U
  grind
def R2(p lo hi:Nat)(l:List (T3)):Prop:=(∀f∈l,f.1=p/\lo<=f.2/\f.2<=hi)/\l.Pairwise (λf g=>f.2<=g.2)
theorem R2.nil(p lo hi:Nat):R2 p lo hi []:=⟨λ_ h=>(US h).elim,List.Pairwise.nil⟩
theorem R2.one(h:lo<=e)(h':e<=hi):R2 p lo hi [(p,e)]:=by grind[R2]
def R2.ite{c:Prop}[Decidable c]{l m:List (T3)}(h:R2 p lo hi l)(k:R2 p lo hi m):R2 p lo hi (if c then l else m):=by split<;>assumption
theorem R2.append{mid mid':Nat}{l m:List (T3)}(h:R2 p lo mid l)(k:R2 p mid' hi m)(hm:mid<=mid')(hlo:lo<=mid')(hhi:mid<=hi):R2 p lo hi (l++m):=by
 grind[R2]
def Sh:T5->List (T3)->Prop
 |[],l=>l=[]
 |p::ps,l=>∃a b,l=a++b/\(∃lo hi,R2 p lo hi a)/\Sh ps b
theorem Sh.append:∀{ps I:T5} {l m:List (T3)},Sh ps l->Sh I m->Sh (ps++I) (l++m):=by intro J;induction J<;>grind[Sh]
def Sh.one{l:List (T3)}(h:R2 p lo hi l):Sh [p] l:=⟨l,[],zp,⟨lo,hi,h⟩,rfl⟩
theorem Sh.cons{ps:T5}{l m:List (T3)}(h:R2 p lo hi l)(k:Sh ps m):Sh (p::ps) (l++m):=by grind[R2,Sh]
def Mx(l:List (T3)):Prop:=l.Pairwise (λf g=>f.1<g.1\/(f.1=g.1/\f.2<=g.2))
def Sh.mem:∀{ps:T5} {l:List (T3)},Sh ps l->∀f∈l,f.1∈ps
 |[],_,h,f,hf=>by cases h;trivial
 |p::ps,l,⟨a,b,e,⟨lo,hi,h1⟩,h2⟩,f,hf=>by
  rw[e] at hf;rcases List.mem_append.1 hf with hf|hf
  .rw[(h1.1 f hf).1];simp
  exact Ul (Sh.mem h2 f hf)
def Sh.srt:∀{ps:T5} {l:List (T3)},Sh ps l->ps.Pairwise (· <·)->Mx l
 |[],_,h,_=>by cases h;exact List.Pairwise.nil
 |p::ps,l,⟨a,b,e,⟨lo,hi,h1⟩,h2⟩,hp=>by
  rw[e];obtain⟨I,J⟩:=List.pairwise_cons.1 hp;refine List.pairwise_append.2 ⟨?_,Sh.srt h2 J,λx U y hy=>Rj ?_⟩
  .exact h1.2.imp_of_mem (λU hy aa=>QY ⟨by rw[(h1.1 _ U).1,(h1.1 _ hy).1],aa⟩)
  rw[(h1.1 x U).1];exact I _ (Sh.mem h2 y hy)
theorem Au(al:TY)(s:Ub)(p:Nat):R2 p 1 3 (iW al s p):=by grind[R2.append,R2.one,R2.nil,R2,iW]
theorem Ky(a:Tk):∀l,R2 a.p 3 3 (nB l a):=by intro I;induction I<;>grind[R2.nil,R2.append,R2.one,R2,nB]
def KG{pre:TY}(i:Nat)(a:Tk):R2 a.p 1 4 (zC pre i a):=
 R2.append (mid:=1) (mid':=3) (R2.ite (R2.one zo zo) (R2.nil _ _ _)) (R2.append (mid:=3) (mid':=4) (Ky a pre) (R2.ite (R2.one zo zo) (R2.nil _ _ _)) zo zo zo) zo zo zo
def Aq:∀i l,Sh (l.map Tk.p) (mC al i l)
 |_,[]=>rfl
 |i,a::r=>Sh.cons (KG i a) (Aq (i+1) r)
theorem KI(al:TY)(ks:T9)(t:Tk):R2 t.p 1 4 (q9 al ks t):=by grind[R2.append,Au,R2.nil,R2.one,R2,q9]
theorem IB:∀(ks:T9)(l:TY),Sh (l.map Tk.p) (Pa al ks l):=by intro I q1;induction q1 generalizing I<;>grind[Sh.cons,KI,Pa,Sh]
def AH:∀l:TY,Sh (l.map Tk.p) (l.flatMap (λt=>iW al t.s t.p))
 |[]=>rfl
 |_::r=>Sh.cons (Au al _ _) (AH r)
def IC(r:Rl):Sh (r.word.p::(r.args.map Tk.p++[r.fin])) (nj al r):=by
 unfold nj;rw[<-UI];refine Sh.cons (lo:=1) (hi:=3) (R2.append (mid:=1) (mid':=3) (R2.ite (R2.one zo zo) (R2.nil _ _ _)) (R2.ite (R2.nil _ _ _) (R2.one zo zo)) zo zo zo) ?_;exact Sh.append (IB _ _) (Sh.one (lo:=4) (hi:=4) (R2.ite (R2.one zo zo) (R2.nil _ _ _)))
def ye(r:Rl):Prop:=r.call=true->r.f=.nil
theorem ID(al:TY)(i:Nat)(r:Rl)(h:ye r):Sh (r.pl::sA r) (qB al i r):=by
 unfold qB;refine Sh.cons (lo:=4) (hi:=4) (R2.ite (R2.one zo zo) (R2.nil _ _ _)) ?_;unfold sA;by_cases hc:r.call=true
 .rw[Uh hc,Uh hc,h hc];exact IC r
 rw[T' hc,T' hc,Vo,ES];exact AH _
theorem Gb:∀i (rs:T6),(∀r∈rs,ye r)->Sh (rs.flatMap (λr=>r.pl::sA r)) (kV al i rs):=by intro I q1;induction q1 generalizing I<;>grind[Sh.append,ID,kV,ye,Sh,sA]
def Gc{l:TY}(h:ie l=.ok (al,rs))(I:(l.map Tk.p).Pairwise (· <·))(hf:∀r∈rs,ye r):Mx (ke al rs):=
 Sh.srt (Sh.append (Aq 0 al) (Gb 0 rs hf)) (List.Pairwise.sublist (Bt h) I)
def St(x:T3)(p e:Nat):T3:=if x.2=0\/p<x.1 then (p,e) else x
def gS(x:T3)(l:List (T3)):T3:=l.foldl (λx f=>St x f.1 f.2) x
theorem iO(x:T3)(l m:List (T3)):gS x (l++m)=gS (gS x l) m:=V'
theorem G'(hx:x.2≠0):∀{l:List (T3)},(∀f∈l,x.1<=f.1)->gS x l=x:=by intro I;induction I<;>grind[gS,St]
def yA(I:x.2≠0):∀{l:List (T3)},(∀f∈l,x.1<f.1\/(x.1=f.1/\x.2<=f.2))->Fr x l=x
 |[],_=>rfl
 |f::l,h=>by
  have h1:=h f Um;show Fr (Se x f.1 f.2) l=x;have:Se x f.1 f.2=x:=T' zo;rw[this];exact yA I (λg hg=>h g (Ul hg))
def JP{l:List (T3)}(h:Mx l)(he:Ok l):gS (0,0) l=(l.head?).getD (0,0):=by
 cases l with
 |nil=>rfl
 |cons f l=>
  show gS (St (0,0) f.1 f.2) l=f;have:St (0,0) f.1 f.2=f:=Uh (Rj rfl);rw[this];exact G' (he f Um) (λg hg=>by have:=(List.pairwise_cons.1 h).1 g hg;omega)
def I5{l:List (T3)}(h:Mx l)(he:Ok l):Fr (0,0) l=(l.head?).getD (0,0):=by
 cases l with
 |nil=>rfl
 |cons f l=>
  show Fr (Se (0,0) f.1 f.2) l=f;have:Se (0,0) f.1 f.2=f:=Uh (Rj rfl);rw[this];exact yA (he f Um) (List.pairwise_cons.1 h).1
def uV(pre:TY)(i:Nat)(a:Tk):List (T3):=jw a++((if iB pre a.s=true then [(a.p,3)] else [])++(if 6<=i then [(a.p,4)] else []))
def pV(al:TY):Nat->TY->List (T3)
 |_,[]=>[]
 |i,a::r=>uV (al.take i) i a++pV al (i+1) r
def pW(al:TY)(r:Rl):List (T3):=
 jw r.word++(if gW r.word.s.toList<=11 then Pa al (iD (gW r.word.s.toList)) r.args++(if r.args.length<(iD (gW r.word.s.toList)).length then [(r.fin,4)] else []) else [(r.word.p,3)])
def qE(al:TY)(i:Nat)(r:Rl):List (T3):=(if 4<=i then [(r.pl,4)] else [])++(if r.call=true then pW al r else (lJ r.f).flatMap (λt=>iW al t.s t.p))
def pk(al:TY):Nat->T6->List (T3)
 |_,[]=>[]
 |i,r::l=>qE al i r++pk al (i+1) l
def qO(al:TY)(rs:T6):List (T3):=pV al 0 al++pk al 0 rs
def Hd(a b:List (T3)):Prop:=a.Sublist b/\a.head? =b.head?
theorem Hd.refl(a:List (T3)):Hd a a:=by grind[Hd]
theorem Hd.append{a b c d:List (T3)}(h:Hd a b)(k:Hd c d):Hd (a++c) (b++d):=by grind[Hd]
theorem Nf(a:Tk):∀l,Hd (if iB l a.s=true then [(a.p,3)] else []) (nB l a):=by intro I;induction I<;>grind[Hd.refl,iB,nB,Hd]
def Dc:∀i l,Hd (pV al i l) (mC al i l)
 |_,[]=>Hd.refl _
 |i,a::r=>Hd.append (Hd.append (Hd.refl _) (Hd.append (Nf a _) (Hd.refl _))) (Dc (i+1) r)
theorem Lo(r:Rl):Hd (pW al r) (nj al r):=by
 unfold pW nj;refine Hd.append (Hd.refl _) ?_
 grind[Hd]
theorem Lp(i:Nat)(r:Rl)(h:ye r):Hd (qE al i r) (qB al i r):=by
 unfold qE qB;refine Hd.append (Hd.refl _) ?_;by_cases hc:r.call=true
 .rw[Uh hc,Uh hc,h hc];exact Lo r
 grind[ES,Hd.refl]
def AM:∀i (rs:T6),(∀r∈rs,ye r)->Hd (pk al i rs) (kV al i rs)
 |_,[],_=>Hd.refl _
 |i,r::l,h=>Hd.append (Lp i r (h r Um)) (AM (i+1) l (λx I=>h x (Ul I)))
def Ma{l:TY}(h:ie l=.ok (al,rs))(hu:(l.map Tk.p).Pairwise (· <·))(hf:∀r∈rs,ye r):gS (0,0) (qO al rs)=Fr (0,0) (ke al rs):=by
 have I:Hd (qO al rs) (ke al rs):=Hd.append (Dc 0 al) (AM 0 rs hf);have J:=Gc h hu hf;have U:=pT al rs;rw[JP (List.Pairwise.sublist I.1 J) (λf hf=>U f (I.1.subset hf)),I5 J U,I.2]
def uC{v:Nat->Bool}:∀(c i:Nat),(∀j,i<=j->u j=u' j)->(∀j,i<=j->v j=v' j)->j8 u v c i=j8 u' v' c i
 |0,_,_,_=>rfl
 |c+1,i,h1,h2=>by rw[j8,j8,h1 i (XH),h2 i (XH),uC c (i+1) (λj I=>h1 j zo) (λj I=>h2 j zo)]
def Ai:∀(c i:Nat),(∀j,i<=j->u j=u' j)->ni u c i=ni u' c i
 |0,_,_=>rfl
 |c+1,i,h1=>by rw[ni,ni,h1 i (XH),Ai c (i+1) (λj hj=>h1 j zo)]
theorem Jb{k:Nat}{v:Nat->Bool}(I:∀j,i<=j->u j=u' j)(J:∀j,i<=j->v j=v' j):jF k y u v i n=jF k y u' v' i n:=by
 unfold jF;rw[I i (XH),I (i+1) zo,J i (XH),uC (u:=λ_=>true) (u':=λ_=>true) _ _ (λ_ _=>rfl) I,uC _ _ I J,Ai _ _ I]
theorem GQ{z I:Int->Nat->Bool}(h:∀t j,1<=j->z t j=I t j)(L:List Nd):∀j,1<=j->((iq n z L).map λf=>f j)=(iq n I L).map λf=>f j:=by
 induction L using pO with
 |zero=>intro _ _;rfl
 |succ L d ih=>
  intro j hj;have hr:∀(k:Int) i,1<=i->NE (iq n z L) k i=NE (iq n I L) k i:=λk i hi=>by rw[<-mj,<-mj,ih i hi]
  grind[lM,Jb,kL,iq]
theorem Eh{z:Int->Nat->Bool}(hz:∀t j,z t j=true->j<=0)(P:T7)(act:Int)(L:List Nd):Sv L->km P false false act L=(iq 0 z L).map λf=>f 1:=by
 induction L using pO with
 |zero=>intro _;rfl
 |succ L d ih=>
  intro J;obtain⟨U,_,_⟩:=J L.length d zp;rw[qe,ih J.pre,lM,U1];unfold rG
  congr 1
  rw[UZ,Vv]
  congr 1
  rw[mj,mj];have I:(decide (1<=0)&&z d.t 1)=z d.t 1:=by
   grind
  have e:=xF (z d.t) (NE (iq 0 z L) d.a) (NE (iq 0 z L) d.b) 1 0 U;rw[I] at e;unfold kL;rw[e];rfl
def zV(v:T5)(t:Int):Nat->Bool
 |0=>false
 |j+1=>decide ((v[j]?).map (λa:Nat=>(a:Int))=some t)
def sS(L:List Nd):Bool × T7:=(true,km [] false false (-1) L)
def oU(L:List Nd)(p:Bool × T7)(a:Nat):Bool × T7:=(false,km p.2 true (!p.1) a L)
theorem Pu{L:List Nd}(J:Sv L):∀v:T5,kY (sS L) (oU L) v=(v.isEmpty,(iq v.length (zV v) L).map λf=>f 1)
 |[]=>by
  rw[kY,sS,Eh (z:=zV []) (λt j h=>?_) _ _ L J]
  .rfl
  cases j with
  |zero=>simp
  |succ j=>trivial
 |a::v=>by
  rw[kY,Pu J v];unfold oU;have I:(!v.isEmpty)=decide (1<=v.length):=by cases v<;>simp
  have hP:((iq v.length (zV v) L).map λf=>f 1)=((iq v.length (λt j=>zV (a::v) t (j+1)) L).map λf=>f 1):=
   GQ (λt j hj=>by
    obtain⟨i,rfl⟩:∃i,j=i+1:=⟨j-1,zo⟩;rfl) L 1 (XH)
  simp only[I];rw[GM (n:=v.length) (z:=λt j=>zV (a::v) t (j+1)) (z':=zV (a::v)) (act:=(a:Int)) (λ_ _=>rfl) (λt=>?_) (λt j h=>?_) _ L J ⟨[],za⟩]
  .rfl
  .grind[zV]
  cases j with
  |zero=>simp
  |succ j=>
   grind[zV]
def SV(w:Uc)(o:TX)(l:T8):Prop:=∀(j:Nat)(x:Int),l[j]?=some x->∃b off,o=some ⟨b,off,none⟩/\b<w.heap.size/\w.cell? (TU b (off+j))=some (xd xh x)
def Oz(w:Uc)(o:TX)(l:T7):Prop:=∀(j:Nat)(x:Bool),l[j]?=some x->∃b off,o=some ⟨b,off,none⟩/\b<w.heap.size/\w.cell? (TU b (off+j))=some (xn x)
def S9(w:Uc)(o:TX)(l:List (T8)):Prop:=∀(j:Nat)(r:T8),l[j]?=some r->∃b off ro rc,o=some ⟨b,off,none⟩/\b<w.heap.size/\w.cell? (TU b (off+j))=some (xa ro r.length rc)/\SV w ro r
def SV.later{l:T8}(h:SV w o l)(J:XL w w'):SV w' o l:=λj x hx=>by
 obtain⟨b,off,U,I,h3⟩:=h j x hx;exact⟨b,off,U,Uw I J.size,(Fd J _ _ I).trans h3⟩
def S9.later{l:List (T8)}(h:S9 w o l)(I:XL w w'):S9 w' o l:=λj x hx=>by
 obtain⟨b,off,ro,rc,U,J,h3,h4⟩:=h j x hx;exact⟨b,off,ro,rc,U,Uw J I.size,(Fd I _ _ J).trans h3,h4.later I⟩
def Lz(p:Prop)(e:Ending):Prop:=∃b,e=xm (xn b)/\(b=true↔p)
theorem Lz.yes{p:Prop}(h:p):Lz p (xm (xn true)):=by grind[Lz]
theorem Lz.no{p:Prop}(h:¬ p):Lz p (xm (xn false)):=by grind[Lz]
theorem tN{p:UInt8->Bool}:∀{l:T9},Su p l=l.length↔ ∀c∈l,p c=true:=by intro I;induction I<;>grind[Su]
theorem Ba{l:T9}:jC l=2↔Q7 l=false:=by
 grind[jC,Q7]
theorem FI(s:Ub)(hG:GV w):
  Calls prog 131 #[xj s] w λe w'=>Lz (pE s) e/\XL w w':=by
 by_cases h1:1<=s.size
 .by_cases h8:s.size<=8
  .have HL:=sK s w (by unfold maxLen;omega);have ae:(1:Int)<=(s.size:Int):=zo;have aj:(s.size:Int)<=8:=zo;have hu:gV GE s 0=Su GE s.data.toList:=by unfold gV;simp
   by_cases hal:∀c∈s.data.toList,GE c=true
   .have U:gV GE s 0=s.size:=by grind[tN,LT]
    rw[U] at HL;have HW:=vE s hG;by_cases hwd:Q7 s.data.toList=false
    .have HN:Hid (pE s):=⟨h1,h8,hal,hwd⟩;have J:jC s.toList=2:=(Ba).2 (by rw[Ui];omega);rw[J] at HW;clear hal hu U hwd J;go_in
     go_wp2_with (refine HL.mono ?_)
     rintro e w1 ⟨rfl,I⟩;have h2:=I.symm;clear I;subst h2
     go_wp2_with (refine HW.mono ?_)
     rintro e w2 ⟨rfl,aa⟩;go_wp2;go_ret;exact⟨Lz.yes HN.out,aa⟩
    have HN:Hid (¬ pE s):=λh=>hwd h.wd
    have J:jC s.toList≠2:=λe=>hwd ((Ba).1 (by rw[<-e,Ui]))
    have hk3:(((jC s.toList:Nat):Int)==2)=false:=by grind
    clear hal hu U hwd J;go_in
    go_wp2_with (refine HL.mono ?_)
    rintro e w1 ⟨rfl,I⟩;have h2:=I.symm;clear I;subst h2
    go_wp2_with (refine HW.mono ?_)
    rintro e w2 ⟨rfl,aa⟩;go_wp2;go_ret;exact⟨Lz.no HN.out,aa⟩
   have HN:Hid (¬ pE s):=λh=>hal h.lt
   have U:¬ (gV GE s 0:Int)=(s.size:Int):=by
    grind[tN,LT]
   clear hal hu;go_in
   go_wp2_with (refine HL.mono ?_)
   rintro e w1 ⟨rfl,I⟩;have h2:=I.symm;clear I;subst h2;exact zm141
  have HN:Hid (¬ pE s):=λh=>h8 h.n8
  have ae:(1:Int)<=(s.size:Int):=zo;have aj:¬ (s.size:Int)<=8:=zo;go_in;exact zm141
 have HN:Hid (¬ pE s):=λh=>h1 h.n1
 have ae:¬ (1:Int)<=(s.size:Int):=zo;go_in;exact zm141
theorem sC{p:α->Bool}{l:List α}{k:Nat}{x:α}(hx:l[k]?=some x)(h:p x=false):l.all p=false:=by
 grind
def Bd{p:α->Bool}{l:List α}{k:Nat}{x:α}(J:l[k]?=some x)(h:p x=true)(I:(l.take k).all p=true):(l.take (k+1)).all p=true:=by
 rw[U5,J,Ww,I];simp[h]
theorem Be{p:α->Bool}{l:List α}{k:Nat}{x:α}(hx:l[k]?=some x)(h:p x=true):l.any p=true:=by
 grind
def SK{p:α->Bool}{l:List α}{k:Nat}{x:α}(J:l[k]?=some x)(h:p x=false)(I:(l.take k).any p=false):(l.take (k+1)).any p=false:=by
 rw[U5,J,List.any_append,I];simp[h]
theorem Bc(w:Uc)(rc:Nat)(r:T8)(n:Nat)(h:SV w ro r)(hl:r.length<=10000000000000):
  Calls prog 132 #[xa ro r.length rc,xd xh (n:Int)] w λe w'=>e=xm (xn (r.all (nZ n)))/\w'=w:=by
 go_in;go_wp2
 go_loopw [9] (λx wr=>∃k:Nat,k<=r.length/\x=xd xh k/\Hid (w=wr)/\Hid ((r.take k).all (nZ n)=true)) (λx _=>r.length-(intOf x).toNat)
 .exact zm56
 obtain⟨k,hk,rfl,J,HK⟩:=hrel;have hw:=J.out;subst hw;clear J;rcases zc k r.length with⟨hlt,hkn⟩|⟨hlt,hkn⟩
 .obtain⟨b,off,rfl,hb,hc⟩:=h k r[k] (Uq hlt);have I:=fy (Uq hlt);generalize r[k]=x at *;by_cases h0:x<0
  .have HF:=fy (sC (p:=nZ n) I.out (by grind[nZ]));exact zm156
  by_cases h1:(n:Int)<=x
  .have HF:=fy (sC (p:=nZ n) I.out (by unfold nZ;simp_all));exact zm156
  have HF:=fy (Bd (p:=nZ n) I.out (by unfold nZ;simp_all) HK.out);go_wp2
  go_roundw
  .exact⟨k+1,zo,zf,trivial,HF⟩
  simp[intOf];omega
 exact zm166
def D6(rc:Nat)(r:T8)(sc:Nat)(L:T7)(h:SV w ro r)(hL:Oz w so L)(hr:r.all (nZ L.length)=true)(hl:r.length<=10000000000000)(hl2:L.length<=10000000000000):
  Calls prog 172 #[xa ro r.length rc,xa so L.length sc] w λe w'=>e=xm (xn (r.any λx=>lv L x.toNat))/\w'=w:=by
 have HR:=fy hr;clear hr;go_in;go_wp2
 go_loopw [9] (λx wr=>∃k:Nat,k<=r.length/\x=xd xh k/\Hid (w=wr)/\Hid ((r.take k).any (λx=>lv L x.toNat)=false)) (λx _=>r.length-(intOf x).toNat)
 .exact zm56
 obtain⟨k,hk,rfl,I,HK⟩:=hrel;have hw:=I.out;subst hw;clear I;rcases zc k r.length with⟨hlt,hkn⟩|⟨hlt,hkn⟩
 .obtain⟨b,off,rfl,hb,hc⟩:=h k r[k] (Uq hlt);have J:=fy (Uq hlt);have hx:=List.all_eq_true.1 HR.out r[k] (UY hlt);generalize r[k]=x at *;unfold nZ at hx;have hx0:0<=x:=za;have hx1:x<(L.length:Int):=za;clear hx;obtain⟨y,rfl⟩:∃y:Nat,x=(y:Int):=⟨x.toNat,zo⟩;have hy:y<L.length:=zo;obtain⟨b2,off2,rfl,hb2,hc2⟩:=hL y L[y] (Uq hy);have U:Hid (lv L ((y:Int)).toNat=L[y]):=by
   show _=_;unfold lv;simp_all
  generalize hz:L[y]=z at *;clear hz;cases z with
  |true=>
   have HF:=fy (Be (p:=λx=>lv L x.toNat) J.out U.out);exact zm156
  |false=>
   have HF:=fy (SK (p:=λx=>lv L x.toNat) J.out U.out HK.out);go_wp2
   go_roundw
   .exact⟨k+1,zo,zf,trivial,HF⟩
   simp[intOf];omega
 exact zm166
theorem So.cells{b:Nat}{l:TZ}(h:So w (some (TU b off)) l):∀j,j<l.length->w.cell? (TU b (off+j))=some (xj (l.getD j ByteArray.empty)):=by grind[So]
theorem Bv{l:TZ}(hT:So w ao l)(hc:l.length<=ac)(hG:GV w)(hl:l.length<=10000000000000):
  Calls prog 85 #[xa ao l.length ac] w λe w'=>Lz (n5 l) e/\XL w w':=by
 by_cases h1:1<=l.length
 .by_cases h6:l.length<=6
  .have ad:¬ (l.length:Int)<1:=zo;have an:¬ (6:Int)<(l.length:Int):=zo;go_in;go_wp2
   go_loopw [15] (λx wr=>∃k:Nat,k<=l.length/\x=xd xh k/\Hid (XL w wr)/\Hid ((∀a∈l.take k,pE a)/\(l.take k).Nodup)) (λx _=>l.length-(intOf x).toNat)
   .exact⟨0,Ux,rfl,XF,λa ha=>by simp at ha,zp⟩
   obtain⟨k,hk,rfl,U,HK⟩:=hrel;rcases zc k l.length with⟨hlt,hkn⟩|⟨hlt,hkn⟩
   .obtain⟨b,off,rfl,hb,hcx⟩:=hT.later U.out k l[k] (Uq hlt);have HX:=fy (Uq hlt);have HN:=FI l[k] (hG.later U.out);have ai:=fy (λ(W:Uc)(hb:XL w W)=>Tryz.slices_Contains_string b off k ac l l[k] W zo zo (hT.later hb).cells);generalize l[k]=a at *
    go_wp2_with (refine HN.mono ?_)
    rintro e w1 ⟨⟨n,rfl,hn⟩,aa⟩;have I:=U.out.trans (aa.mono U.out.size);clear aa;cases n with
    |false=>
     have J:Hid (¬ n5 l):=λh=>by
      have:=hn.2 (h.nm a (UA HX.out));trivial
     clear hn;go_wp2;go_ret;exact⟨Lz.no J.out,I⟩
    |true=>
     have HNM:=hn.1 rfl;clear hn;have hkc:k<=ac:=zo;have HC:=ai.out w1 I;generalize hcs:Lib.containsS (l.take k) a=cs at *;have ag:=fy hcs;clear hcs
     go_wp2_with (refine HC.mono ?_)
     rintro e w2 ⟨rfl,ae⟩;have h2:=ae.symm;clear ae;subst h2;cases cs with
     |true=>
      have J:Hid (¬ n5 l):=λh=>by
       have hm:=(Rr _ _).1 ag.out;obtain⟨i,hi⟩:=List.mem_iff_getElem?.1 hm;rw[U8] at hi
       split at hi
       .rename_i hik
        have hil:=(List.getElem?_eq_some_iff.1 hi).1;have e:l[i]=l[k]:=by
         grind[gQ]
        have:=(List.getElem_inj h.nd).1 e;omega
       trivial
      go_wp2;go_ret;exact⟨Lz.no J.out,I⟩
     |false=>
      have ak:Hid ((∀a∈l.take (k+1),pE a)/\(l.take (k+1)).Nodup):=by
       have hnm:a∉l.take k:=λhm=>by
        have:=(Rr _ _).2 hm
        grind[gQ]
       show _/\_;rw[U5,HX.out]
       grind[gQ]
      go_wp2
      go_roundw
      .exact⟨k+1,zo,zf,I,ak⟩
      simp[intOf];omega
   rw[UF zo] at HK;go_wp2;go_ret;exact⟨Lz.yes (⟨h1,h6,HK.out.1,HK.out.2⟩),U.out⟩
  have J:Hid (¬ n5 l):=λh=>h6 h.n6
  have ad:¬ (l.length:Int)<1:=zo;have an:(6:Int)<(l.length:Int):=zo;go_in;go_wp2;go_ret;exact⟨Lz.no J.out,XF⟩
 have J:Hid (¬ n5 l):=λh=>h1 h.n1
 have ad:(l.length:Int)<1:=zo;go_in;go_wp2;go_ret;exact⟨Lz.no J.out,XF⟩
structure SN(w:Uc)(ao fo no:TX)(ac:Nat)(z:Tz):Prop where
 acts:So w ao z.acts
 fl:SV w fo z.fl
 nx:S9 w no z.nx
 ac:z.acts.length<=ac
 al:z.acts.length<=10000000000000
 fll:z.fl.length<=10000000000000
 nxl:z.nx.length<=10000000000000
 rl:∀r∈z.nx,r.length<=10000000000000
def SN.later{no:TX}{z:Tz}(h:SN w ao fo no ac z)(I:XL w w'):SN w' ao fo no ac z:=
 ⟨h.acts.later I,h.fl.later I,h.nx.later I,h.ac,h.al,h.fll,h.nxl,h.rl⟩
theorem Bw{no:TX}{fc nc:Nat}(z:Tz)(hI:SN w ao fo no ac z):
  Calls prog 86 #[.agg #[xa ao z.acts.length ac,xa fo z.fl.length fc,xa no z.nx.length nc]] w λe w'=>Lz (n7 z) e/\XL w w':=by
 have hB:=ir w (xi #[xa ao z.acts.length ac,xa fo z.fl.length fc,xa no z.nx.length nc] 36);have HI:=hI.later hB;have ae:=gi w (xi #[xa ao z.acts.length ac,xa fo z.fl.length fc,xa no z.nx.length nc] 36);have hl3:=hI.nxl;clear hI;by_cases h1:1<=z.nx.length
 .by_cases h6:z.nx.length<=100
  .by_cases hf:z.fl.length=z.nx.length
   .have I:¬ (z.nx.length:Int)<1:=zo;have J:¬ (100:Int)<(z.nx.length:Int):=zo;have ak:(z.fl.length:Int)=(z.nx.length:Int):=zo;have HF:=fy hf;clear hf;go_in;go_wp2_with fail;generalize w.alloc (xi #[xa ao z.acts.length ac,xa fo z.fl.length fc,xa no z.nx.length nc] 36)=W at *;have mc:=EQ ae
    go_loopw [25] (λx wr=>∃k:Nat,k<=z.nx.length/\x=xd xh k/\Hid (W=wr)/\Hid (∀r∈z.nx.take k,r.length=z.acts.length/\r.all (nZ z.nx.length)=true)) (λx _=>z.nx.length-(intOf x).toNat)
    .exact⟨0,Ux,rfl,rfl,λr hr=>zv⟩
    obtain⟨k,hk,rfl,HW,HK⟩:=hrel;have hw:=HW.out;subst hw;clear HW;rcases zc k z.nx.length with⟨hlt,hkn⟩|⟨hlt,hkn⟩
    .obtain⟨b,off,ro,rc,rfl,hb,aj,aa⟩:=HI.nx k z.nx[k] (Uq hlt);have HX:=fy (Uq hlt);have U:=HI.rl z.nx[k] (UY hlt);generalize z.nx[k]=r at *;have HA:=Bc W rc r z.nx.length aa U;clear aa;by_cases hne:r.length=z.acts.length
     .rw[hne] at HA aj U;have HNE:=fy hne;clear hne;generalize hal:r.all (nZ z.nx.length)=al at *;have HAL:=fy hal;clear hal
      go_wp2_with (refine HA.mono ?_)
      rintro e w2 ⟨rfl,ad⟩;have h2:=ad.symm;clear ad;subst h2;cases al with
      |false=>
       have HN:Hid (¬ n7 z):=λh=>by
        have:=(h.rs r (UA HX.out)).2
        grind[gQ]
       exact zm97
      |true=>
       have HK2:Hid (∀r∈z.nx.take (k+1),r.length=z.acts.length/\r.all (nZ z.nx.length)=true):=by
        intro q hq;rw[U5,HX.out] at hq
        grind[gQ]
       exact zm106
     have hie:¬ (r.length:Int)=(z.acts.length:Int):=zo;have HN:Hid (¬ n7 z):=λh=>hne (h.rs r (UA HX.out)).1
     exact zm97
    rw[UF zo] at HK;go_wp2;go_ret;exact⟨Lz.yes (⟨h1,h6,HF.out,HK.out⟩),hB⟩
   have HN:Hid (¬ n7 z):=λh=>hf h.fl
   have I:¬ (z.nx.length:Int)<1:=zo;have J:¬ (100:Int)<(z.nx.length:Int):=zo;have ak:¬ (z.fl.length:Int)=(z.nx.length:Int):=zo;go_in;exact zm97
  have HN:Hid (¬ n7 z):=λh=>h6 h.n100
  have I:¬ (z.nx.length:Int)<1:=zo;have J:(100:Int)<(z.nx.length:Int):=zo;go_in;exact zm97
 have HN:Hid (¬ n7 z):=λh=>h1 h.n1
 have I:(z.nx.length:Int)<1:=zo;go_in;exact zm97
def Pi(w:Uc):Fm->TX->Prop
 |.nil,p=>p=none
 |.node _ _ a l r,p=>∃b pl pr,p=some ⟨b,0,none⟩/\w.heap[b]?=some (xi #[xd xh a.1,xj a.2.1,xk pl,xk pr] 270 (0,0))/\Pi w l pl/\Pi w r pr
theorem Pi.keep(hk:∀(b:Nat)(c:T1)(m:T3),w.heap[b]?=some (xi c 270 m)->w'.heap[b]?=w.heap[b]?):∀{f:Fm} {v:TX},Pi w f v->Pi w' f v:=by intro I;induction I<;>grind[Pi]
def Pi.later(I:XL w w'){v:TX}(hf:Pi w f v):Pi w' f v:=
 hf.keep (λb _ _ h=>I.block b (dK h))
def kG(k:Nat)(f g:Fm):
  Calls prog 227 #[xd xh (k:Int),xk vf,xk vg] w λe w'=>∃v,e=xm (xk v)/\(Pi w f vf->Pi w g vg->Pi w' (two k f g) v)/\XL w w':=by
 go_in;go_wp2;go_ret;have I:=ir w (xi #[xd xh (k:Int),xj ⟨#[]⟩,xk vf,xk vg] 270);exact⟨_,rfl,λhf hg=>⟨w.heap.size,vf,vg,rfl,gi _ _,hf.later I,hg.later I⟩,I⟩
def ov(k:Nat)(f:Fm):
  Calls prog 269 #[xd xh (k:Int),xk vf] w λe w'=>∃v,e=xm (xk v)/\(Pi w f vf->Pi w' (one k f) v)/\XL w w':=by
 go_in;go_wp2;go_ret;have I:=ir w (xi #[xd xh (k:Int),xj ⟨#[]⟩,xk vf,xk none] 270);exact⟨_,rfl,λhf=>⟨w.heap.size,vf,none,rfl,gi _ _,hf.later I,rfl⟩,I⟩
def Aw(k:Nat):
  Calls prog 268 #[xd xh (k:Int)] w λe w'=>∃v,e=xm (xk v)/\Pi w' (leaf k ByteArray.empty 0) v/\XL w w':=by
 go_in;go_wp2;go_ret;have I:=ir w (xi #[xd xh (k:Int),xj ⟨#[]⟩,xk none,xk none] 270);exact⟨_,rfl,⟨w.heap.size,none,none,rfl,gi _ _,rfl,rfl⟩,I⟩
def oh{s:Ub}:
  Calls prog 162 #[xj s] w λe w'=>∃v,e=xm (xk v)/\(∀p,Pi w' (leaf 0 s p) v)/\XL w w':=by
 go_in;go_wp2;go_ret;have I:=ir w (xi #[xd xh 0,xj s,xk none,xk none] 270);exact⟨_,rfl,λ_=>⟨w.heap.size,none,none,rfl,gi _ _,rfl,rfl⟩,I⟩
structure PF(pb B:Nat)(w w':Uc):Prop where
 os:w'.os=w.os
 tape:w'.tape=w.tape
 output:w'.output=w.output
 size:w.heap.size<=w'.heap.size
 keep:∀k,k<w.heap.size->k≠pb->(k<B\/¬ Q2 w k 201)->w'.heap[k]?=w.heap[k]?
def PF.trans(h:PF pb B w w1)(I:PF pb B w1 w2):PF pb B w w2:=
 ⟨I.os.trans h.os,I.tape.trans h.tape,I.output.trans h.output,UP h.size I.size,λk J U hc=>by
  have e:=h.keep k J U hc;refine(I.keep k (Uw J h.size) U ?_).trans e;rcases hc with hc|hc
  .omega
  refine QY ?_;rintro⟨c,m,hh⟩;exact hc ⟨c,m,za⟩⟩
def PF.grown(h:w.grownBy w' (some pb)):PF pb B w w':=⟨h.os,h.tape,h.output,h.size,λk I hp _=>h.block k I za⟩
def PF.below(h:XL w w'):PF pb B w w':=PF.grown (gE h _)
def rE{base size:Nat}{v:Ud}(h:w.ownsRow base e size v n xs){k:Nat}(I:v.ownBlock=some k):base<=k/\Q2 w k e:=by
 obtain⟨_,J|⟨g,cap,cur,hv,hg,U,_⟩⟩:=h
 .rw[J.1] at I;cases I
 rw[hv] at I;cases I;exact⟨hg,cur,_,U⟩
def PF.row{v:Ud}(I:w.ownsRow B 201 3 v n xs)(h:w.grownBy w' v.ownBlock):PF pb B w w':=
 ⟨h.os,h.tape,h.output,h.size,λk J _ hc=>h.block k J (by
  intro e;have:=rE I e.symm;rcases hc with hc|hc
  .omega
  simp_all)⟩
def PF.isG{g:Nat}(J:PP w pb g cap B L i bad q NM)(h:PF pb B w w'){v:TX}(hf:Pi w f v):Pi w' f v:=
 hf.keep (λb c m I=>h.keep b (dK I) (by
  rintro rfl;obtain⟨_,_,_,h1,_⟩:=J.blk;simp_all) (QY (by rintro⟨c',m',h'⟩;simp_all)))
def wg{g:Nat}(h:PP w pb g cap B L i false 0 NM)(hj:j<L.length)(hn:bad'=false->NM.length+1<=j)
  (I:Calls prog 153 #[xk (TT pb),xd xh 2] w λe w'=>e=xm (jm t)/\Mv w w' pb g cap L.length i false 0 j bad' q'):
  Calls prog 295 #[xk (TT pb)] w λe w'=>∃p,e=xm (xk p)/\Pi w' (leaf 0 t.s t.p) p/\PP w' pb g cap B L j bad' q' (NM++[t])/\PF pb B w w':=by
 obtain⟨i0,hi,hz0,hz1,hz2⟩:=Uk Tryz.infoTokP;have hnm:NM.length<=401:=by have:=h.nm rfl;have:=h.lt;have:=h.len;omega
 have J:=h;clear h;go_in;go_wp2_with fail;refine I.mono ?_;rintro e w1 ⟨rfl,hm⟩;have hp1:=J.move hm hj (λe=>by have:=hn e;omega);have hf1:PF pb B w w1:=PF.grown hm.gr;obtain⟨no,nn,nc,h1,hown⟩:=hp1.blk;have hpb:=hp1.pLt;have hBw:=hp1.hB;have hgB:=hp1.gB;have hpB:=hp1.pB;have bc:=EQ h1;have bf:=gh h1;have hpn:(xa no nn nc).ownBlock≠some pb:=by intro e;have:=rE hown e;omega
 have hxn:(xa no nn nc).ownBlock≠some w1.heap.size:=by intro e;have:=gJ hown _ e;omega
 clear hm I;simp only[jm];go_wp2_with fail;refine R' (S:=λw'=>w'.cell? (TU w1.heap.size 0)=some (xd xh t.k)/\w'.cell? (TU w1.heap.size 1)=some (xj t.s)/\w'.cell? (TU w1.heap.size 2)=some (xd xh t.p)) zk ?_ (λhHeld=>?_)
 .simp
 apply zt1 0 (xk (TT pb)) hHeld;apply zt1 1 (xk (TT pb)) hHeld;apply zt1 2 (xk (TT pb)) hHeld;apply zt1 3 (xk (some (TU pb 3))) hHeld;apply zt1 5 (.agg #[xd xh t.k,xj t.s,xd xh t.p]) hHeld;refine zrH2 4 6 (λK hK=>?_) λK hK=>?_
 .go_simp;refine hK.out _ _ hHeld (λhHeld=>?_);clear hK K;apply zrH 6;intro K hK;go_simp;refine hK.out _ _ zp (λhHeld=>?_);clear hK K;exact zm7
 go_simp;refine hK.out _ _ zp (λhHeld=>?_);clear hK K;apply SR 4 hHeld;intro hHeld;exact zm7
def ku(L:TY)(pb g cap B:Nat)(NM:TY)(w w':Uc)(e:Ending)(x:Rd):Prop:=
 PF pb B w w'/\∃p,e=xm (xk p)/\(match x with
  |.ok (f,l)=>Pi w' f p/\∃i,PL L i=l/\PP w' pb g cap B L i false 0 (NM++lJ f)
  |.error q=>∃NM',PP w' pb g cap B L (L.length-1) true q NM')
def GU(n:Nat):Prop:=∀(w:Uc)(pb g cap B:Nat)(L:TY)(i:Nat)(NM:TY),PP w pb g cap B L i false 0 NM->6*(PL L i).length+1<=n->
 Calls prog 290 #[xk (TT pb)] w λe w'=>ku L pb g cap B NM w w' e (pf n 4 .nil (PL L i))
def GT(n:Nat):Prop:=∀(w:Uc)(pb g cap B:Nat)(L:TY)(i:Nat)(NM:TY),PP w pb g cap B L i false 0 NM->6*(PL L i).length+2<=n->
 Calls prog 286 #[xk (TT pb)] w λe w'=>ku L pb g cap B NM w w' e (pf n 3 .nil (PL L i))
def GA(n:Nat):Prop:=∀(w:Uc)(pb g cap B:Nat)(L:TY)(i:Nat)(NM:TY),PP w pb g cap B L i false 0 NM->6*(PL L i).length+3<=n->
 Calls prog 264 #[xk (TT pb)] w λe w'=>ku L pb g cap B NM w w' e (pf n 2 .nil (PL L i))
def GO(n:Nat):Prop:=∀(w:Uc)(pb g cap B:Nat)(L:TY)(i:Nat)(NM:TY),PP w pb g cap B L i false 0 NM->6*(PL L i).length+4<=n->
 Calls prog 226 #[xk (TT pb)] w λe w'=>ku L pb g cap B NM w w' e (pf n 1 .nil (PL L i))
def GF(n:Nat):Prop:=∀(w:Uc)(pb g cap B:Nat)(L:TY)(i:Nat)(NM:TY),PP w pb g cap B L i false 0 NM->6*(PL L i).length+5<=n->
 Calls prog 193 #[xk (TT pb)] w λe w'=>ku L pb g cap B NM w w' e (pf n 0 .nil (PL L i))
def l7(k:Nat):Rd->Rd
 |.error q=>.error q
 |.ok (a,l)=>.ok (one k a,l)
def TG:Rd->Rd
 |.error q=>.error q
 |.ok (a,l)=>if gF l=19 then .ok (a,l.tail) else .error (ig l)
def PP.step{g:Nat}(h:PP w pb g cap B L i false 0 NM)(hm:Mv w w' pb g cap L.length i false 0 (i+1) false 0)(I:PL L i=t::r)(hk:2<=t.k):PP w' pb g cap B L (i+1) false 0 NM:=
 h.move hm (h.fe.nextLt I zo) (λ_=>by have:=h.nm rfl;omega)
def PP.lost{g:Nat}(h:PP w pb g cap B L i bad q NM)(hm:Mv w w' pb g cap L.length i bad q (L.length-1) true q'):PP w' pb g cap B L (L.length-1) true q' NM:=
 h.move hm (by have:=h.lt;omega) (λe=>by cases e)
def uY(k:Nat){g:Nat}(h:PP w pb g cap B L i false 0 NM)(ht:PL L i=t::r)(hk:2<=t.k)(I:k≠0):
  Calls prog 294 #[xk (TT pb),xd xh (k:Int)] w λe w'=>ku L pb g cap B NM w w' e (.ok (leaf k ByteArray.empty 0,r)):=by
 have J:=fy ht;have aa:=fy I;clear ht I;go_in;go_wp2_with fail;refine(jk h J.out).mono ?_;rintro e w1 ⟨rfl,rfl⟩;go_wp2_with fail;refine(kU h J.out rfl hk).mono ?_;rintro e w2 ⟨rfl,hm⟩;have ad:=h.step hm J.out hk;have U:=PF.grown (B:=B) hm.gr;clear hm;simp only[jm];go_wp2_with fail;refine(Aw k).mono ?_;rintro e w3 ⟨v,rfl,hv,hb⟩;go_wp2;go_ret;exact⟨U.trans (PF.below hb),v,rfl,hv,i+1,iQ J.out hk,by rw[C0 aa.out,Vo];exact ad.later hb⟩
def mN(hU:GU n)(k:Nat){g:Nat}(h:PP w pb g cap B L i false 0 NM)(ht:PL L i=t::r)(hk:2<=t.k)(ae:k≠0)(hn:6*r.length+1<=n):
  Calls prog 292 #[xk (TT pb),xd xh (k:Int)] w λe w'=>ku L pb g cap B NM w w' e (l7 k (pf n 4 .nil r)):=by
 have HT:=fy ht;have ai:=fy ae;have hr:=iQ ht hk;have HR:=fy hr;clear ht ae hr;go_in;go_wp2_with fail;refine(jk h HT.out).mono ?_;rintro e w1 ⟨rfl,rfl⟩;go_wp2_with fail;refine(kU h HT.out rfl hk).mono ?_;rintro e w2 ⟨rfl,hm⟩;have ak:=h.step hm HT.out hk;have U:=PF.grown (B:=B) hm.gr;clear hm;simp only[jm];go_wp2_with fail;refine(hU _ _ _ _ _ _ _ _ ak (by rw[HR.out];omega)).mono ?_;rw[HR.out];rintro e w3 ⟨ad,p3,rfl,I⟩;go_wp2_with fail;cases hpf:pf n 4 .nil r with
 |error q=>
  obtain⟨au,J⟩:∃ar,PP w3 pb g cap B L (L.length-1) true q ar:=by have:=I;simp_all
  have HX:Hid (l7 k (pf n 4 .nil r)=.error q):=by show _=_;rw[hpf];rfl
  clear hpf I;refine(ov k .nil).mono ?_;rintro e w4 ⟨v,rfl,-,hb⟩;go_wp2;go_ret;rw[HX.out];exact⟨(U.trans ad).trans (PF.below hb),v,rfl,au,J.later hb⟩
 |ok x=>
  obtain⟨a,l1⟩:=x;obtain⟨av,i3,ag,J⟩:Pi w3 a p3/\∃i,PL L i=l1/\PP w3 pb g cap B L i false 0 (NM++lJ a):=by have:=I;simp_all
  have aj:=fy ag;have HX:Hid (l7 k (pf n 4 .nil r)=.ok (one k a,l1)):=by show _=_;rw[hpf];rfl
  clear hpf I ag;refine(ov k a).mono ?_;rintro e w4 ⟨v,rfl,hv,hb⟩;have HV:=hv av;clear hv;go_wp2;go_ret;rw[HX.out];exact⟨(U.trans ad).trans (PF.below hb),v,rfl,HV,i3,aj.out,by rw[E9 ai.out];exact J.later hb⟩
def De(n:Nat)(hU:GF n){g:Nat}(h:PP w pb g cap B L i false 0 NM)(ht:PL L i=t::r)(hk:t.k=18)(hn:6*r.length+5<=n):
  Calls prog 293 #[xk (TT pb)] w λe w'=>ku L pb g cap B NM w w' e (TG (pf n 0 .nil r)):=by
 have HT:=fy ht;have hr:=iQ ht zo;have HR:=fy hr;have HK:=fy hk;clear ht hr hk;go_in;go_wp2_with fail;refine(kU h HT.out HK.out zp).mono ?_;rintro e w2 ⟨rfl,hm⟩;have ax:=h.step hm HT.out (by have:=HK.out;omega);have an:=PF.grown (B:=B) hm.gr;clear hm;simp only[jm];go_wp2_with fail;refine(hU _ _ _ _ _ _ _ _ ax (by rw[HR.out];omega)).mono ?_;rw[HR.out];rintro e w3 ⟨aq,p3,rfl,ai⟩;go_wp2_with fail;cases hpf:pf n 0 .nil r with
 |error q=>
  obtain⟨az,I⟩:∃ay,PP w3 pb g cap B L (L.length-1) true q ay:=by have:=ai;simp_all
  obtain⟨t3,J,aa⟩:=nJ I.fe;have U:=fy J;have aj:t3.k≠19:=zo;have ar:=fy aj;have HX:Hid (TG (pf n 0 .nil r)=.error q):=by show _=_;rw[hpf];rfl
  clear hpf ai J aa aj;refine(rH I U.out ar.out).mono ?_;rintro e w4 ⟨rfl,hm⟩;have ag:=I.lost hm;have ad:=PF.grown (B:=B) hm.gr;clear hm;simp only[jm];go_wp2;go_ret;rw[HX.out];exact⟨(an.trans aq).trans ad,p3,rfl,az,ag⟩
 |ok x=>
  obtain⟨a,l1⟩:=x;obtain⟨aA,i3,aB,I⟩:Pi w3 a p3/\∃i,PL L i=l1/\PP w3 pb g cap B L i false 0 (NM++lJ a):=by have:=ai;simp_all
  subst aB;by_cases h19:gF (PL L i3)=19
  .obtain⟨t3,u3,r3,J,aa⟩:=kH (lA I.fe I.lt) zp h19;have HX:Hid (TG (pf n 0 .nil r)=.ok (a,u3::r3)):=by show _=_;rw[hpf];show(if gF (PL L i3)=19 then (.ok (a,(PL L i3).tail):Rd) else .error (ig (PL L i3)))=_;simp_all
   have U:=fy J;have ae:=fy aa;clear hpf ai J aa h19;refine(kU I U.out ae.out zp).mono ?_;rintro e w4 ⟨rfl,hm⟩;have ag:=I.step hm U.out (by have:=ae.out;omega);have ad:=PF.grown (B:=B) hm.gr;clear hm;simp only[jm];go_wp2;go_ret;rw[HX.out];exact⟨(an.trans aq).trans ad,p3,rfl,ad.isG I aA,i3+1,iQ U.out (by have:=ae.out;omega),ag⟩
  obtain⟨t3,r3,J,aa⟩:=lY (lA I.fe I.lt) h19;have HX:Hid (TG (pf n 0 .nil r)=.error t3.p):=by show _=_;rw[hpf];show(if gF (PL L i3)=19 then (.ok (a,(PL L i3).tail):Rd) else .error (ig (PL L i3)))=_;rw[T' h19,J];rfl
  have U:=fy J;have ae:=fy aa;clear hpf ai J aa h19;refine(rH I U.out ae.out).mono ?_;rintro e w4 ⟨rfl,hm⟩;have ag:=I.lost hm;have ad:=PF.grown (B:=B) hm.gr;clear hm;simp only[jm];go_wp2;go_ret;rw[HX.out];exact⟨(an.trans aq).trans ad,p3,rfl,_,ag⟩
theorem Ej(n:Nat)(hU:GU n)(hV:GU n):GT (n+1):=by
 intro w pb g cap B L i NM h hn;go_in;go_wp2_with fail;refine(hU _ _ _ _ _ _ _ _ h zo).mono ?_;rintro e w1 ⟨hf1,p,rfl,hx⟩;cases hpf:pf n 4 .nil (PL L i) with
 |error q=>
  have HX:Hid (pf (n+1) 3 .nil (PL L i)=.error q):=by show _=_;rw[pf,hpf]
  rw[hpf] at hx;obtain⟨NM1,hp1⟩:=hx;obtain⟨t,ht,hk⟩:=nJ hp1.fe;have HT:=fy ht;have HK:=fy (show t.k≠13 from zo);exact zm110
 |ok x=>
  obtain⟨a,l1⟩:=x;have J:=jz _ _ _ _ _ _ hpf;rw[hpf] at hx;obtain⟨hg1,i1,ai,hp1⟩:=hx;subst ai;by_cases h13:gF (PL L i1)=13
  .obtain⟨t,u,r,ht,hk⟩:=kH (lA hp1.fe hp1.lt) zp h13;have aa:=iQ ht zo;have hX:pf (n+1) 3 .nil (PL L i)=(match pf n 4 .nil (PL L (i1+1)) with| .error q=>.error q| .ok (b,l2)=>.ok (two 9 a b,l2)):=by
    rw[pf,hpf];simp only[h13,VF];rw[ht,aa];rfl
   have HX:=fy hX;have U:6*(PL L (i1+1)).length+1<=n:=by rw[aa];rw[ht] at J;simp only[UM] at J|-;omega
   have HL:=fy U;have HT:=fy ht;have HK:=fy hk;clear ht hpf hX h13 hk aa U;go_wp2_with fail;refine(oG hp1 HT.out HK.out zp).mono ?_;rintro e w2 ⟨rfl,hm⟩;have ad:=hp1.step hm HT.out (by have:=HK.out;omega);have HF2:=PF.grown (B:=B) hm.gr;clear hm;go_wp2_with fail;refine(hV _ _ _ _ _ _ _ _ ad HL.out).mono ?_;rintro e w3 ⟨hf3,p3,rfl,I⟩;have HGA:=hf3.isG ad (HF2.isG hp1 hg1);go_wp2_with fail;cases hpf3:pf n 4 .nil (PL L (i1+1)) with
   |error q=>
    rw[hpf3] at I;have HX3:Hid (pf (n+1) 3 .nil (PL L i)=.error q):=by show _=_;rw[HX.out,hpf3]
    obtain⟨NM3,hp3⟩:=I;clear hpf3;refine(kG 9 .nil .nil).mono ?_;exact zm121
   |ok x=>
    obtain⟨b,l2⟩:=x;rw[hpf3] at I;have HX3:Hid (pf (n+1) 3 .nil (PL L i)=.ok (two 9 a b,l2)):=by show _=_;rw[HX.out,hpf3]
    obtain⟨hg3,i3,ae,hp3⟩:=I;have HQ3:=fy ae;clear ae hpf3;refine(kG 9 a b).mono ?_;exact zm69
  obtain⟨t,r,ht,hk⟩:=lY (lA hp1.fe hp1.lt) h13;have HX:Hid (pf (n+1) 3 .nil (PL L i)=.ok (a,PL L i1)):=by show _=_;rw[pf,hpf];simp_all
  exact zm80
theorem Bu(n:Nat)(hU:GO n)(hV:GF n):GF (n+1):=by
 intro w pb g cap B L i NM h hn;go_in;go_wp2_with fail;refine(hU _ _ _ _ _ _ _ _ h zo).mono ?_;rintro e w1 ⟨hf1,p,rfl,hx⟩;cases hpf:pf n 1 .nil (PL L i) with
 |error q=>
  have HX:Hid (pf (n+1) 0 .nil (PL L i)=.error q):=by show _=_;rw[pf,hpf]
  rw[hpf] at hx;obtain⟨NM1,hp1⟩:=hx;obtain⟨t,ht,hk⟩:=nJ hp1.fe;have HT:=fy ht;have HK:=fy (show t.k≠14 from zo);exact zm110
 |ok x=>
  obtain⟨a,l1⟩:=x;have J:=jz _ _ _ _ _ _ hpf;rw[hpf] at hx;obtain⟨hg1,i1,ai,hp1⟩:=hx;subst ai;by_cases h13:gF (PL L i1)=14
  .obtain⟨t,u,r,ht,hk⟩:=kH (lA hp1.fe hp1.lt) zp h13;have aa:=iQ ht zo;have hX:pf (n+1) 0 .nil (PL L i)=(match pf n 0 .nil (PL L (i1+1)) with| .error q=>.error q| .ok (b,l2)=>.ok (two 12 a b,l2)):=by
    rw[pf,hpf];simp only[h13,VF];rw[ht,aa];rfl
   have HX:=fy hX;have U:6*(PL L (i1+1)).length+5<=n:=by rw[aa];rw[ht] at J;simp only[UM] at J|-;omega
   have HL:=fy U;have HT:=fy ht;have HK:=fy hk;clear ht hpf hX h13 hk aa U;go_wp2_with fail;refine(oG hp1 HT.out HK.out zp).mono ?_;rintro e w2 ⟨rfl,hm⟩;have ad:=hp1.step hm HT.out (by have:=HK.out;omega);have HF2:=PF.grown (B:=B) hm.gr;clear hm;go_wp2_with fail;refine(hV _ _ _ _ _ _ _ _ ad HL.out).mono ?_;rintro e w3 ⟨hf3,p3,rfl,I⟩;have HGA:=hf3.isG ad (HF2.isG hp1 hg1);go_wp2_with fail;cases hpf3:pf n 0 .nil (PL L (i1+1)) with
   |error q=>
    rw[hpf3] at I;have HX3:Hid (pf (n+1) 0 .nil (PL L i)=.error q):=by show _=_;rw[HX.out,hpf3]
    obtain⟨NM3,hp3⟩:=I;clear hpf3;refine(kG 12 .nil .nil).mono ?_;exact zm121
   |ok x=>
    obtain⟨b,l2⟩:=x;rw[hpf3] at I;have HX3:Hid (pf (n+1) 0 .nil (PL L i)=.ok (two 12 a b,l2)):=by show _=_;rw[HX.out,hpf3]
    obtain⟨hg3,i3,ae,hp3⟩:=I;have HQ3:=fy ae;clear ae hpf3;refine(kG 12 a b).mono ?_;exact zm69
  obtain⟨t,r,ht,hk⟩:=lY (lA hp1.fe hp1.lt) h13;have HX:Hid (pf (n+1) 0 .nil (PL L i)=.ok (a,PL L i1)):=by show _=_;rw[pf,hpf];simp_all
  exact zm80
theorem Je(n:Nat)(hU:∀m,m<=n->GT m):GA (n+1):=by
 intro w pb g cap B L i NM h hn;have HU:=fy hU;clear hU;go_in;go_wp2_with fail;refine(HU.out n (XH) _ _ _ _ _ _ _ _ h zo).mono ?_;rintro e w1 ⟨an,p,rfl,hx⟩;have I:∃pa,(xk p=xk pa)/\PF pb B w w1/\
   ((∃acc j,n<=n/\6*(PL L j).length+1<=n/\Pi w1 acc pa/\PP w1 pb g cap B L j false 0 (NM++lJ acc)/\Hid (pf (n+1) 2 .nil (PL L i)=pf n 6 acc (PL L j)))\/(∃q aa,PP w1 pb g cap B L (L.length-1) true q aa/\Hid (pf (n+1) 2 .nil (PL L i)=.error q))):=by
  refine⟨p,rfl,an,?_⟩;cases hpf:pf n 3 .nil (PL L i) with
  |error q=>
   exact zm168
  |ok x=>
   exact zm89
 have HS:=fy I;clear I hx an;go_wp2
 go_loopg [3] n (λm v wr=>∃pa,v=xk pa/\PF pb B w wr/\
   ((∃acc j,m<=n/\6*(PL L j).length+1<=m/\Pi wr acc pa/\PP wr pb g cap B L j false 0 (NM++lJ acc)/\Hid (pf (n+1) 2 .nil (PL L i)=pf m 6 acc (PL L j)))\/(∃q aa,PP wr pb g cap B L (L.length-1) true q aa/\Hid (pf (n+1) 2 .nil (PL L i)=.error q))))
 .trivial
 clear HS;obtain⟨pa,rfl,hgj,ad⟩:=hrel;rcases ad with⟨acc,j,hm,hmj,hga,hpj,hxj⟩|⟨q,NMj,hpj,hxj⟩
 .obtain⟨m,rfl⟩:∃m,gk=m+1:=⟨gk-1,zo⟩;by_cases h16:gF (PL L j)=16
  .obtain⟨t,u,r,ht,hk⟩:=kH (lA hpj.fe hpj.lt) zp h16;have ai:=iQ ht zo;have HXJ:Hid (pf (n+1) 2 .nil (PL L i)=(match pf m 3 .nil (PL L (j+1)) with| .error q=>.error q| .ok (b,l2)=>pf m 6 (two 10 acc b) l2)):=by
    show _=_;rw[hxj.out,pf];simp only[h16,VF];rw[ht,ai];rfl
   have U:6*(PL L (j+1)).length+2<=m:=by rw[ai];rw[ht] at hmj;simp only[UM] at hmj|-;omega
   have HL:=fy U;have HT:=fy ht;have HK:=fy hk;clear ht h16 hk ai U hxj;go_wp2_with fail;refine(oG hpj HT.out HK.out zp).mono ?_;rintro e w2 ⟨rfl,ag⟩;have ak:=hpj.step ag HT.out (by have:=HK.out;omega);have HF2:=PF.grown (B:=B) ag.gr;clear ag;go_wp2_with fail;refine(HU.out m zo _ _ _ _ _ _ _ _ ak HL.out).mono ?_;rintro e w3 ⟨hf3,p3,rfl,J⟩;have HG3:=hf3.isG ak (HF2.isG hpj hga);go_wp2_with fail;cases hpf3:pf m 3 .nil (PL L (j+1)) with
   |error q=>
    rw[hpf3] at J;obtain⟨NM3,hp3⟩:=J;have HX3:Hid (pf (n+1) 2 .nil (PL L i)=.error q):=by show _=_;rw[HXJ.out,hpf3]
    clear hpf3;refine(kG 10 .nil .nil).mono ?_;exact zm93
   |ok x=>
    obtain⟨b,l2⟩:=x;have ae:=jz _ _ _ _ _ _ hpf3;rw[hpf3] at J;obtain⟨hg3,i3,hl3,hp3⟩:=J;subst hl3;have HX3:Hid (pf (n+1) 2 .nil (PL L i)=pf m 6 (two 10 acc b) (PL L i3)):=by show _=_;rw[HXJ.out,hpf3]
    have hl3:6*(PL L i3).length+1<=m:=by have:=HL.out;omega
    clear hpf3 ae;refine(kG 10 acc b).mono ?_;exact zm60
  obtain⟨t,r,ht,hk⟩:=lY (lA hpj.fe hpj.lt) h16;have HX:Hid (pf (n+1) 2 .nil (PL L i)=.ok (acc,PL L j)):=by show _=_;rw[hxj.out,pf];simp only[h16,Wh]
  exact zm81
 obtain⟨t,ht,hk⟩:=nJ hpj.fe;have HT:=fy ht;have HK:=fy (show t.k≠16 from zo);exact zm96
theorem Lr(n:Nat)(hU:∀m,m<=n->GA m):GO (n+1):=by
 intro w pb g cap B L i NM h hn;have HU:=fy hU;clear hU;go_in;go_wp2_with fail;refine(HU.out n (XH) _ _ _ _ _ _ _ _ h zo).mono ?_;rintro e w1 ⟨an,p,rfl,hx⟩;have I:∃pa,(xk p=xk pa)/\PF pb B w w1/\
   ((∃acc j,n<=n/\6*(PL L j).length+1<=n/\Pi w1 acc pa/\PP w1 pb g cap B L j false 0 (NM++lJ acc)/\Hid (pf (n+1) 1 .nil (PL L i)=pf n 5 acc (PL L j)))\/(∃q aa,PP w1 pb g cap B L (L.length-1) true q aa/\Hid (pf (n+1) 1 .nil (PL L i)=.error q))):=by
  refine⟨p,rfl,an,?_⟩;cases hpf:pf n 2 .nil (PL L i) with
  |error q=>
   exact zm168
  |ok x=>
   exact zm89
 have HS:=fy I;clear I hx an;go_wp2
 go_loopg [3] n (λm v wr=>∃pa,v=xk pa/\PF pb B w wr/\
   ((∃acc j,m<=n/\6*(PL L j).length+1<=m/\Pi wr acc pa/\PP wr pb g cap B L j false 0 (NM++lJ acc)/\Hid (pf (n+1) 1 .nil (PL L i)=pf m 5 acc (PL L j)))\/(∃q aa,PP wr pb g cap B L (L.length-1) true q aa/\Hid (pf (n+1) 1 .nil (PL L i)=.error q))))
 .trivial
 clear HS;obtain⟨pa,rfl,hgj,ad⟩:=hrel;rcases ad with⟨acc,j,hm,hmj,hga,hpj,hxj⟩|⟨q,NMj,hpj,hxj⟩
 .obtain⟨m,rfl⟩:∃m,gk=m+1:=⟨gk-1,zo⟩;by_cases h16:gF (PL L j)=15
  .obtain⟨t,u,r,ht,hk⟩:=kH (lA hpj.fe hpj.lt) zp h16;have ai:=iQ ht zo;have HXJ:Hid (pf (n+1) 1 .nil (PL L i)=(match pf m 2 .nil (PL L (j+1)) with| .error q=>.error q| .ok (b,l2)=>pf m 5 (two 11 acc b) l2)):=by
    show _=_;rw[hxj.out,pf];simp only[h16,VF];rw[ht,ai];rfl
   have U:6*(PL L (j+1)).length+3<=m:=by rw[ai];rw[ht] at hmj;simp only[UM] at hmj|-;omega
   have HL:=fy U;have HT:=fy ht;have HK:=fy hk;clear ht h16 hk ai U hxj;go_wp2_with fail;refine(oG hpj HT.out HK.out zp).mono ?_;rintro e w2 ⟨rfl,ag⟩;have ak:=hpj.step ag HT.out (by have:=HK.out;omega);have HF2:=PF.grown (B:=B) ag.gr;clear ag;go_wp2_with fail;refine(HU.out m zo _ _ _ _ _ _ _ _ ak HL.out).mono ?_;rintro e w3 ⟨hf3,p3,rfl,J⟩;have HG3:=hf3.isG ak (HF2.isG hpj hga);go_wp2_with fail;cases hpf3:pf m 2 .nil (PL L (j+1)) with
   |error q=>
    rw[hpf3] at J;obtain⟨NM3,hp3⟩:=J;have HX3:Hid (pf (n+1) 1 .nil (PL L i)=.error q):=by show _=_;rw[HXJ.out,hpf3]
    clear hpf3;refine(kG 11 .nil .nil).mono ?_;exact zm93
   |ok x=>
    obtain⟨b,l2⟩:=x;have ae:=jz _ _ _ _ _ _ hpf3;rw[hpf3] at J;obtain⟨hg3,i3,hl3,hp3⟩:=J;subst hl3;have HX3:Hid (pf (n+1) 1 .nil (PL L i)=pf m 5 (two 11 acc b) (PL L i3)):=by show _=_;rw[HXJ.out,hpf3]
    have hl3:6*(PL L i3).length+1<=m:=by have:=HL.out;omega
    clear hpf3 ae;refine(kG 11 acc b).mono ?_;exact zm60
  obtain⟨t,r,ht,hk⟩:=lY (lA hpj.fe hpj.lt) h16;have HX:Hid (pf (n+1) 1 .nil (PL L i)=.ok (acc,PL L j)):=by show _=_;rw[hxj.out,pf];simp only[h16,Wh]
  exact zm81
 obtain⟨t,ht,hk⟩:=nJ hpj.fe;have HT:=fy ht;have HK:=fy (show t.k≠15 from zo);exact zm96
def iL{k c:Nat}(h:k≠c):((k:Int)==(c:Int))=false:=zs
def nv{k c:Nat}(h:k=c):((k:Int)==(c:Int))=true:=zs
def J0(n:Nat)(hU:GU n)(w:Uc)(g:Nat)(B:Nat)(L:TY)(i:Nat)(t:Tk)(r:TY)(h:PP w pb g cap B L i false 0 NM)(U:PL L i=t::r)(I:t.k=17)(hn:6*r.length+1<=n):
  Calls prog 290 #[xk (TT pb)] w λe w'=>ku L pb g cap B NM w w' e (l7 4 (pf n 4 .nil r)):=by
 have J:=fy U;have e17:=nv (c:=17) I;have HK:=fy I;clear U I;go_in;go_wp2_with fail;refine(jk h J.out).mono ?_;rintro e w1 ⟨rfl,rfl⟩;go_wp2_with fail;refine(mN hU 4 h J.out (by have:=HK.out;omega) zp hn).mono ?_;exact zm36
def Ml(n:Nat)(hU:GU n)(w:Uc)(g:Nat)(B:Nat)(L:TY)(i:Nat)(t:Tk)(r:TY)(h:PP w pb g cap B L i false 0 NM)(U:PL L i=t::r)(I:t.k=9)(hn:6*r.length+1<=n):
  Calls prog 290 #[xk (TT pb)] w λe w'=>ku L pb g cap B NM w w' e (l7 5 (pf n 4 .nil r)):=by
 have J:=fy U;have e17:((t.k:Int)==17)=false:=iL (c:=17) zo;have e9:=nv (c:=9) I;have HK:=fy I;clear U I;go_in;go_wp2_with fail;refine(jk h J.out).mono ?_;rintro e w1 ⟨rfl,rfl⟩;go_wp2_with fail;refine(mN hU 5 h J.out (by have:=HK.out;omega) zp hn).mono ?_;exact zm36
def JX(n:Nat)(hU:GU n)(w:Uc)(g:Nat)(B:Nat)(L:TY)(i:Nat)(t:Tk)(r:TY)(h:PP w pb g cap B L i false 0 NM)(U:PL L i=t::r)(I:t.k=10)(hn:6*r.length+1<=n):
  Calls prog 290 #[xk (TT pb)] w λe w'=>ku L pb g cap B NM w w' e (l7 6 (pf n 4 .nil r)):=by
 have J:=fy U;have e17:((t.k:Int)==17)=false:=iL (c:=17) zo;have e9:((t.k:Int)==9)=false:=iL (c:=9) zo;have e10:=nv (c:=10) I;have HK:=fy I;clear U I;go_in;go_wp2_with fail;refine(jk h J.out).mono ?_;rintro e w1 ⟨rfl,rfl⟩;go_wp2_with fail;refine(mN hU 6 h J.out (by have:=HK.out;omega) zp hn).mono ?_;exact zm36
def JY(n:Nat)(hU:GU n)(w:Uc)(g:Nat)(B:Nat)(L:TY)(i:Nat)(t:Tk)(r:TY)(h:PP w pb g cap B L i false 0 NM)(U:PL L i=t::r)(I:t.k=11)(hn:6*r.length+1<=n):
  Calls prog 290 #[xk (TT pb)] w λe w'=>ku L pb g cap B NM w w' e (l7 7 (pf n 4 .nil r)):=by
 have J:=fy U;have e17:((t.k:Int)==17)=false:=iL (c:=17) zo;have e9:((t.k:Int)==9)=false:=iL (c:=9) zo;have e10:((t.k:Int)==10)=false:=iL (c:=10) zo;have e11:=nv (c:=11) I;have HK:=fy I;clear U I;go_in;go_wp2_with fail;refine(jk h J.out).mono ?_;rintro e w1 ⟨rfl,rfl⟩;go_wp2_with fail;refine(mN hU 7 h J.out (by have:=HK.out;omega) zp hn).mono ?_;exact zm36
def JZ(n:Nat)(hU:GU n)(w:Uc)(g:Nat)(B:Nat)(L:TY)(i:Nat)(t:Tk)(r:TY)(h:PP w pb g cap B L i false 0 NM)(U:PL L i=t::r)(I:t.k=12)(hn:6*r.length+1<=n):
  Calls prog 290 #[xk (TT pb)] w λe w'=>ku L pb g cap B NM w w' e (l7 8 (pf n 4 .nil r)):=by
 have J:=fy U;have e17:((t.k:Int)==17)=false:=iL (c:=17) zo;have e9:((t.k:Int)==9)=false:=iL (c:=9) zo;have e10:((t.k:Int)==10)=false:=iL (c:=10) zo;have e11:((t.k:Int)==11)=false:=iL (c:=11) zo;have e12:=nv (c:=12) I;have HK:=fy I;clear U I;go_in;go_wp2_with fail;refine(jk h J.out).mono ?_;rintro e w1 ⟨rfl,rfl⟩;go_wp2_with fail;refine(mN hU 8 h J.out (by have:=HK.out;omega) zp hn).mono ?_;exact zm36
def J1(n:Nat)(hU:GF n)(w:Uc)(g:Nat)(B:Nat)(L:TY)(i:Nat)(t:Tk)(r:TY)(h:PP w pb g cap B L i false 0 NM)(U:PL L i=t::r)(I:t.k=18)(hn:6*r.length+5<=n):
  Calls prog 290 #[xk (TT pb)] w λe w'=>ku L pb g cap B NM w w' e (TG (pf n 0 .nil r)):=by
 have J:=fy U;have e17:((t.k:Int)==17)=false:=iL (c:=17) zo;have e9:((t.k:Int)==9)=false:=iL (c:=9) zo;have e10:((t.k:Int)==10)=false:=iL (c:=10) zo;have e11:((t.k:Int)==11)=false:=iL (c:=11) zo;have e12:((t.k:Int)==12)=false:=iL (c:=12) zo;have e18:=nv (c:=18) I;have HK:=fy I;clear U I;go_in;go_wp2_with fail;refine(jk h J.out).mono ?_;rintro e w1 ⟨rfl,rfl⟩;go_wp2_with fail;refine(De n hU h J.out HK.out hn).mono ?_;exact zm36
def Mi(w:Uc)(g:Nat)(B:Nat)(L:TY)(i:Nat)(t:Tk)(r:TY)(h:PP w pb g cap B L i false 0 NM)(U:PL L i=t::r)(I:t.k=6):
  Calls prog 290 #[xk (TT pb)] w λe w'=>ku L pb g cap B NM w w' e (.ok (leaf 1 ByteArray.empty 0,r)):=by
 have J:=fy U;have e17:((t.k:Int)==17)=false:=iL (c:=17) zo;have e9:((t.k:Int)==9)=false:=iL (c:=9) zo;have e10:((t.k:Int)==10)=false:=iL (c:=10) zo;have e11:((t.k:Int)==11)=false:=iL (c:=11) zo;have e12:((t.k:Int)==12)=false:=iL (c:=12) zo;have e18:((t.k:Int)==18)=false:=iL (c:=18) zo;have e6:=nv (c:=6) I;have HK:=fy I;clear U I;go_in;go_wp2_with fail;refine(jk h J.out).mono ?_;rintro e w1 ⟨rfl,rfl⟩;go_wp2_with fail;refine(uY 1 h J.out (by have:=HK.out;omega) zp).mono ?_;exact zm36
def Mj(w:Uc)(g:Nat)(B:Nat)(L:TY)(i:Nat)(t:Tk)(r:TY)(h:PP w pb g cap B L i false 0 NM)(U:PL L i=t::r)(I:t.k=7):
  Calls prog 290 #[xk (TT pb)] w λe w'=>ku L pb g cap B NM w w' e (.ok (leaf 2 ByteArray.empty 0,r)):=by
 have J:=fy U;have e17:((t.k:Int)==17)=false:=iL (c:=17) zo;have e9:((t.k:Int)==9)=false:=iL (c:=9) zo;have e10:((t.k:Int)==10)=false:=iL (c:=10) zo;have e11:((t.k:Int)==11)=false:=iL (c:=11) zo;have e12:((t.k:Int)==12)=false:=iL (c:=12) zo;have e18:((t.k:Int)==18)=false:=iL (c:=18) zo;have e6:((t.k:Int)==6)=false:=iL (c:=6) zo;have e7:=nv (c:=7) I;have HK:=fy I;clear U I;go_in;go_wp2_with fail;refine(jk h J.out).mono ?_;rintro e w1 ⟨rfl,rfl⟩;go_wp2_with fail;refine(uY 2 h J.out (by have:=HK.out;omega) zp).mono ?_;exact zm36
def Mk(w:Uc)(g:Nat)(B:Nat)(L:TY)(i:Nat)(t:Tk)(r:TY)(h:PP w pb g cap B L i false 0 NM)(U:PL L i=t::r)(I:t.k=8):
  Calls prog 290 #[xk (TT pb)] w λe w'=>ku L pb g cap B NM w w' e (.ok (leaf 3 ByteArray.empty 0,r)):=by
 have J:=fy U;have e17:((t.k:Int)==17)=false:=iL (c:=17) zo;have e9:((t.k:Int)==9)=false:=iL (c:=9) zo;have e10:((t.k:Int)==10)=false:=iL (c:=10) zo;have e11:((t.k:Int)==11)=false:=iL (c:=11) zo;have e12:((t.k:Int)==12)=false:=iL (c:=12) zo;have e18:((t.k:Int)==18)=false:=iL (c:=18) zo;have e6:((t.k:Int)==6)=false:=iL (c:=6) zo;have e7:((t.k:Int)==7)=false:=iL (c:=7) zo;have e8:=nv (c:=8) I;have HK:=fy I;clear U I;go_in;go_wp2_with fail;refine(jk h J.out).mono ?_;rintro e w1 ⟨rfl,rfl⟩;go_wp2_with fail;refine(uY 3 h J.out (by have:=HK.out;omega) zp).mono ?_;exact zm36
theorem JW(w:Uc)(g:Nat)(B:Nat)(L:TY)(i:Nat)(t:Tk)(r:TY)(h:PP w pb g cap B L i false 0 NM)(U:PL L i=t::r){x:Rd}
  (hk:t.k≠17/\t.k≠9/\t.k≠10/\t.k≠11/\t.k≠12/\t.k≠18/\t.k≠6/\t.k≠7/\t.k≠8)
  (hx:if t.k=2 then x=.ok (leaf 0 t.s t.p,r) else x=.error t.p):
  Calls prog 290 #[xk (some ⟨pb,0,none⟩)] w λe w'=>ku L pb g cap B NM w w' e x:=by
 have HT:=fy U;obtain⟨h1,I,h3,h4,h5,h6,h7,h8,h9⟩:=hk;have e17:=iL (c:=17) h1;have e9:=iL (c:=9) I;have e10:=iL (c:=10) h3;have e11:=iL (c:=11) h4;have e12:=iL (c:=12) h5;have e18:=iL (c:=18) h6;have e6:=iL (c:=6) h7;have e7:=iL (c:=7) h8;have e8:=iL (c:=8) h9;clear h1 I h3 h4 h5 h6 h7 h8 h9;have J:Calls prog 295 #[xk (some ⟨pb,0,none⟩)] w λe w'=>ku L pb g cap B NM w w' e x:=by
  by_cases I:t.k=2
  .rw[Uh I] at hx;subst hx;refine(wg h (h.fe.nextLt U zo) (λ_=>by have:=h.nm rfl;omega) (kU h U I zp)).mono ?_;rintro e w1 ⟨p,rfl,hg,hp,hf⟩;have e1:(⟨2,t.s,t.p⟩:Tk)=t:=by cases t;simp_all
   grind[iQ,C1,ku]
  rw[T' I] at hx;subst hx;refine(wg h (by have:=h.lt;omega) (λe=>by cases e) (rH h U I)).mono ?_;exact λe w1 ⟨p,e1,_,hp,hf⟩=>⟨hf,p,e1,_,hp⟩
 clear U hx;go_in;go_wp2_with fail;refine(jk h HT.out).mono ?_;rintro e w1 ⟨rfl,rfl⟩;go_wp2_with fail;refine J.mono ?_;exact zm36
theorem Ei(n:Nat)(hU:GU n)(hF:GF n):GU (n+1):=by
 intro w pb g cap B L i NM h hn;obtain⟨t,r,J⟩:=lB h.fe h.lt;have ag:6*r.length+5<=n:=by grind
 have U:gF (PL L i)=t.k:=by rw[J];rfl
 have ad:ig (PL L i)=t.p:=by rw[J];rfl
 have ae:MF (PL L i)=t.s:=by rw[J];rfl
 have I:(PL L i).tail=r:=za;by_cases h17:t.k=17
 .have e:pf (n+1) 4 .nil (PL L i)=l7 4 (pf n 4 .nil r):=by
   rw[pf,U,I,h17];rfl
  rw[e];exact J0 n hU w g B L i t r h J h17 zo
 by_cases h9:t.k=9
 .have e:pf (n+1) 4 .nil (PL L i)=l7 5 (pf n 4 .nil r):=by
   rw[pf,U,I,h9];rfl
  rw[e];exact Ml n hU w g B L i t r h J h9 zo
 by_cases h10:t.k=10
 .have e:pf (n+1) 4 .nil (PL L i)=l7 6 (pf n 4 .nil r):=by
   rw[pf,U,I,h10];rfl
  rw[e];exact JX n hU w g B L i t r h J h10 zo
 by_cases h11:t.k=11
 .have e:pf (n+1) 4 .nil (PL L i)=l7 7 (pf n 4 .nil r):=by
   rw[pf,U,I,h11];rfl
  rw[e];exact JY n hU w g B L i t r h J h11 zo
 by_cases h12:t.k=12
 .have e:pf (n+1) 4 .nil (PL L i)=l7 8 (pf n 4 .nil r):=by
   rw[pf,U,I,h12];rfl
  rw[e];exact JZ n hU w g B L i t r h J h12 zo
 by_cases h18:t.k=18
 .have e:pf (n+1) 4 .nil (PL L i)=TG (pf n 0 .nil r):=by
   rw[pf,U,I,h18];rfl
  rw[e];exact J1 n hF w g B L i t r h J h18 ag
 by_cases h6:t.k=6
 .have e:pf (n+1) 4 .nil (PL L i)=.ok (leaf 1 ByteArray.empty 0,r):=by
   rw[pf,U,I,h6];rfl
  rw[e];exact Mi w g B L i t r h J h6
 by_cases h7:t.k=7
 .have e:pf (n+1) 4 .nil (PL L i)=.ok (leaf 2 ByteArray.empty 0,r):=by
   rw[pf,U,I,h7];rfl
  rw[e];exact Mj w g B L i t r h J h7
 by_cases h8:t.k=8
 .have e:pf (n+1) 4 .nil (PL L i)=.ok (leaf 3 ByteArray.empty 0,r):=by
   rw[pf,U,I,h8];rfl
  rw[e];exact Mk w g B L i t r h J h8
 refine JW w g B L i t r h J ⟨h17,h9,h10,h11,h12,h18,h6,h7,h8⟩ ?_;have ai:ph t.k=0:=by unfold ph;simp_all
 rw[pf,U,I,ad,ae];simp only[ai,ne_eq,not_true_eq_false,Wh,h18,h6,h7,h8,or_self];by_cases h2:t.k=2
 .simp only[h2,VF]
 simp only[h2,Wh]
theorem ti:∀n m,m<=n->GU m/\GT m/\GA m/\GO m/\GF m
 |0,m,hm=>by
  grind[GU,GT,GA,GO,GF]
 |n+1,m,hm=>by
  by_cases hlt:m<=n
  .exact ti n m hlt
  have:m=n+1:=zo;subst this;have ih:=ti n
  grind[Ei,Ej,Je,Lr,Bu]
def Df:GF n:=(ti n n (XH)).2.2.2.2
def Stp(ok:Prop)(t:Tk)(n i:Nat)(b:Bool)(q j:Nat)(b':Bool)(q':Nat):Prop:=(ok/\j=i+1/\b'=b/\q'=q)\/(¬ ok/\j=n-1/\b'=true/\q'=fq b q t.p)
def jU(k:Nat)(w:Uc)(pb g cap B:Nat)(L:TY)(i:Nat)(bad:Bool)(q:Nat)(NM:TY)(t:Tk)(r:TY)(h:PP w pb g cap B L i bad q NM)(J:PL L i=t::r)(I:2<=k)(j:Nat)(b':Bool)(q':Nat)(hs:Stp (t.k=k) t L.length i bad q j b' q'):
  Calls prog 153 #[xk (TT pb),xd xh (k:Int)] w λe w'=>e=xm (jm t)/\Mv w w' pb g cap L.length i bad q j b' q':=by
 rcases hs with⟨hk,rfl,rfl,rfl⟩|⟨hk,rfl,rfl,rfl⟩
 .exact kU h J hk I
 exact rH h J hk
def PP.stp{g:Nat}(h:PP w pb g cap B L i bad q NM)(J:PL L i=t::r){ok:Prop}(I:ok->2<=t.k)(hs:Stp ok t L.length i bad q j b' q')
  (hm:Mv w w' pb g cap L.length i bad q j b' q'):PP w' pb g cap B L j b' q' NM:=by
 have hlt:=h.lt;rcases hs with⟨hk,rfl,rfl,rfl⟩|⟨hk,rfl,rfl,rfl⟩
 .exact h.move hm (h.fe.nextLt J (by have:=I hk;omega)) (λe=>by have:=h.nm e;omega)
 exact h.move hm zo (λe=>by cases e)
def Stp.lt{ok:Prop}(hs:Stp ok t L.length i b q j b' q')(I:FE L)(U:PL L i=t::r)(J:ok->2<=t.k):j<L.length:=by
 have hlt:=Mw U;rcases hs with⟨hk,rfl,_,_⟩|⟨_,rfl,_,_⟩
 .exact I.nextLt U (by have:=J hk;omega)
 omega
def Dg{g:Nat}(h:PP w pb g cap B L i bad q NM)(ht:PL L i=t::r)(hs:Stp (t.k=2\/t.k=3) t L.length i bad q j b' q'):
  Calls prog 225 #[xk (TT pb)] w λe w'=>e=xm (jm t)/\Mv w w' pb g cap L.length i bad q j b' q':=by
 have hp:=h.pLt;have HT:=fy ht;by_cases h3:t.k=3
 .have hs3:Stp (t.k=3) t L.length i bad q j b' q':=by
   rcases hs with⟨_,e⟩|⟨hk,e⟩
   .exact Rj ⟨h3,e⟩
   exact absurd (QY h3) hk
  have hTT:=jU 3 (w.alloc (xi #[xd xh 0,xj ⟨#[]⟩,xd xh 0] 201)) pb g cap B L i bad q NM t r (h.alloc _) ht zp j b' q' hs3;have J:=nv (c:=3) h3;exact zm25
 have hs3:Stp (t.k=2) t L.length i bad q j b' q':=by
  rcases hs with⟨hk,e⟩|⟨hk,e⟩
  .exact Rj ⟨zo,e⟩
  exact QY ⟨λI=>hk (Rj I),e⟩
 have hTT:=jU 2 (w.alloc (xi #[xd xh 0,xj ⟨#[]⟩,xd xh 0] 201)) pb g cap B L i bad q NM t r (h.alloc _) ht zp j b' q' hs3;have J:=iL (c:=3) h3;exact zm25
def oS(ok:Prop)(t:Tk)(n i:Nat)(b:Bool)(q:Nat):∃j b' q',Stp ok t n i b q j b' q':=by
 by_cases h:ok
 .exact⟨_,_,_,Rj ⟨h,rfl,rfl,rfl⟩⟩
 exact⟨_,_,_,QY ⟨h,rfl,rfl,rfl⟩⟩
def Stp.nm{ok:Prop}(hs:Stp ok t n i b q j b' q')(h:b=false->m<=i):b'=false->m<=j:=by
 rcases hs with⟨_,rfl,rfl,_⟩|⟨_,_,rfl,_⟩
 .intro e;have:=h e;omega
 simp
def y9(L:TY)(i:Nat)(t:Tk)(args:TY)(x:Tk)(j:Nat)(b:Bool)(q:Nat):Prop:=
 (b=false/\q=0/\(j<L.length/\i<=j)/\gZ (PL L i)=.ok (⟨0,true,t,args,x.p,.nil⟩,PL L j))\/(b=true/\j=L.length-1/\gZ (PL L i)=.error q)
def DX{u v y:Tk}(I:FE L)(ht:PL L i=t::u::v::r)(hk:t.k=2)(hu:u.k=18)(ae:Stp (v.k=2) v L.length (i+1+1) false 0 j1 b1 q1)
  (hy:PL L j1=y::r1)(U:y.k≠20)(J:Stp (y.k=19) y L.length j1 b1 q1 j2 b2 q2):y9 L i t [v] y j2 b2 q2:=by
 have ag:=iQ (iQ ht zo) zo;rcases ae with⟨hv,rfl,rfl,rfl⟩|⟨hv,rfl,rfl,rfl⟩
 .have ht3:=iQ ag zo;have hr:r=y::r1:=za;subst hr;rcases J with⟨h19,rfl,rfl,rfl⟩|⟨h19,rfl,rfl,rfl⟩
  .refine Rj ⟨rfl,rfl,⟨I.nextLt hy zo,zo⟩,?_⟩;rw[iQ hy zo,ht];simp[gZ,gF,lg,ig,hk,hu,hv,h19]
  refine QY ⟨rfl,rfl,?_⟩;rw[ht];simp[gZ,gF,ig,hk,hu,hv,h19,U,fq]
 obtain⟨e,he,hek⟩:=nJ I;rw[hy] at he;have ak:=(Vb he).1;subst ak;rcases J with⟨h19,_⟩|⟨h19,rfl,rfl,rfl⟩
 .omega
 refine QY ⟨rfl,rfl,?_⟩;rw[ht];simp[gZ,gF,ig,hk,hu,hv,fq]
def DY{u v y z x:Tk}(J:FE L)(ht:PL L i=t::u::v::r)(hk:t.k=2)(hu:u.k=18)(ai:Stp (v.k=2) v L.length (i+1+1) false 0 j1 b1 q1)
  (hy:PL L j1=y::r1)(I:y.k=20)(hz:PL L (j1+1)=z::r2)(aj:Stp (z.k=2\/z.k=3) z L.length (j1+1) b1 q1 j2 b2 q2)
  (hx:PL L j2=x::r3)(U:Stp (x.k=19) x L.length j2 b2 q2 j3 b3 q3):y9 L i t [v,z] x j3 b3 q3:=by
 have ak:=iQ (iQ ht zo) zo;obtain⟨e,he,hek⟩:=nJ J;rcases ai with⟨hv,rfl,rfl,rfl⟩|⟨hv,rfl,rfl,rfl⟩
 .have ht3:=iQ ak zo;have hr:r=y::r1:=za;subst hr;have ht4:=iQ hy zo;have ae:r1=z::r2:=za;subst ae;rcases aj with⟨hzk,rfl,rfl,rfl⟩|⟨hzk,rfl,rfl,rfl⟩
  .have ht5:=iQ hz zo;have ag:r2=x::r3:=za;subst ag;rcases U with⟨h19,rfl,rfl,rfl⟩|⟨h19,rfl,rfl,rfl⟩
   .refine Rj ⟨rfl,rfl,⟨J.nextLt hx zo,zo⟩,?_⟩;rw[iQ hx zo,ht];simp[gZ,gF,lg,ig,hk,hu,hv,I,hzk,h19]
   refine QY ⟨rfl,rfl,?_⟩;rw[ht];simp[gZ,gF,ig,hk,hu,hv,I,hzk,h19,fq]
  rw[hx] at he;have ar:=(Vb he).1;subst ar;rcases U with⟨h19,_⟩|⟨h19,rfl,rfl,rfl⟩
  .omega
  refine QY ⟨rfl,rfl,?_⟩;rw[ht];simp[gZ,gF,ig,hk,hu,hv,I,hzk,fq]
 rw[hy] at he;have au:=(Vb he).1;subst au;omega
def ny(word:Tk)(ao:TX)(an ac:Nat)(x:Tk):Obj:=
 xi #[xd xh word.k,xj word.s,xd xh word.p,xa ao an ac,xd xh x.k,xj x.s,xd xh x.p] 259 (0,0)
def CS(w wc:Uc)(cb:Nat)(word:Tk)(args:TY):Prop:=
 w.heap.size<=cb/\∃ao an ac,wc.heap[cb]?=some (ny word ao an ac vz)/\wc.ownsRow w.heap.size 201 3 (xa ao an ac) args.length (gM args)
def nY{row:Ua}(h:w.drew.grownBy w' row):w.grownBy w' row:=⟨h.os,h.tape,h.output,h.size,h.block⟩
def Mv.from_drew{g:Nat}(h:Mv w.drew w1 pb g cap n i b q j b1 q1):Mv w w1 pb g cap n i b q j b1 q1:=⟨nY h.gr,h.onto⟩
def Mv.row{g:Nat}(h : Mv w w1 pb g cap n i b q j b1 q1){row : Ua}(hg : w1.grownBy w2 row)(hr :∀ k,row = some k -> w.heap.size <= k)(hp : pb < w.heap.size) : Mv w w2 pb g cap n i b q j b1 q1 :=
  ⟨⟨hg.os.trans h.gr.os,hg.tape.trans h.gr.tape,hg.output.trans h.gr.output,UP h.gr.size hg.size,λk J I =>(hg.block k (Uw J h.gr.size) (λe =>by have :=hr k e.symm;omega)).trans (h.gr.block k J I)⟩,
   λno nn nc e =>by
    have :=h.onto no nn nc e;exact(hg.block pb (dK this) (λe =>by have :=hr pb e.symm;omega)).trans this⟩
def J6(w w':Uc)(pb g cap:Nat)(L:TY)(i:Nat)(t:Tk)(e:Ending):Prop:=∃cb args x j b q,e=xm (xk (TT cb))/\w.heap.size<=cb/\
 (∃ao an ac,w'.heap[cb]?=some (ny t ao an ac x)/\w'.ownsRow w.heap.size 201 3 (xa ao an ac) args.length (gM args))/\Mv w w' pb g cap L.length i false 0 j b q/\y9 L i t args x j b q
def Jg(g:Nat)(B:Nat)(L:TY)(u v:Tk)(h:PP w pb g cap B L i false 0 NM)(ht:PL L i=t::u::v::r)(hk:t.k=2)(hu:u.k=18):
  Calls prog 192 #[xk (TT pb)] w λe w'=>J6 w w' pb g cap L i t e:=by
 obtain⟨i0,hi,hz0,hz1,hz2⟩:=Uk Tryz.infoTokP;have hp0:=h.pLt;have aT:=iQ ht zo;have aU:=iQ aT zo;obtain⟨j1,b1,q1,ar⟩:=oS (v.k=2) v L.length (i+1+1) false 0;have bd:=ar.lt h.fe aU (λe=>zo);have aL:b1=false->NM.length<=j1:=ar.nm (λ_=>by have:=h.nm rfl;omega);obtain⟨y,r1,hy⟩:=lB h.fe bd;have HP:=h;have HT:=fy ht;have aY:=fy aT;have a6:=fy aU;have HK:=fy hk;have aE:=fy hu;have HY:=fy hy;have au:=fy aL;clear h ht aT aU hk hu hy aL;go_in;go_wp2_with fail;refine(kU HP HT.out HK.out zp).mono ?_;rintro e w1 ⟨rfl,aH⟩;have aP:=HP.step aH HT.out (by have:=HK.out;omega);have hzw:=aH.gr.size;simp only[jm];go_wp2_with fail;refine(kU (aP.alloc _) aY.out aE.out zp).mono ?_;rintro e w2 ⟨rfl,aI⟩;have HM2:=(aH.alloc _).trans aI;have aQ:=(aP.alloc _).step aI aY.out (by have:=aE.out;omega);have ad:=(aI.gr.block w1.heap.size zp zs).trans (gi _ _);generalize hcbe:w1.heap.size=cb at *;have aj:=dK ad;have bc:=EQ ad;have aN:=fy ad;have ae:Hid (w2.ownsRow w.heap.size 201 3 TV 0 (gM [])):=XG;have aA:(TV).ownBlock≠some pb:=by intro e;cases e
 clear aI ad hcbe;simp only[jm]
 go_upto_region 3 with fail
 go_cut [] (λwc=>CS w wc cb t [v]/\Mv w wc pb g cap L.length i false 0 j1 b1 q1)
 case first=>
  refine U9 zk ?_;change wpAny _ _ _ _ _ _ _ (World.drew _);apply zt0 0 (xk (TT cb));apply zt0 1 (xk (TT cb));apply zt0 2 (xk (TT cb));apply zt0 3 (xk (some (TU cb 3)));apply zt0 5 (xk (TT pb));refine zr2 4 6 (λK hK=>?_) λK hK=>?_
  .go_simp;refine hK _ _ ?_;clear hK K;apply zr 6;intro K hK;go_simp
   go_wp2_with (refine(jU 2 _ pb g cap B L (i+1+1) false 0 NM v r (aQ.later (XF).drew) a6.out zp j1 b1 q1 ar).mono ?_;rintro e w3 ⟨rfl,I⟩)
   have HM3:=I.from_drew;have hcb3:=(I.gr.block cb aj zs).trans aN.out;have hown3:=gy ae.out I.from_drew.gr (QY aA);have hcb3l:=dK hcb3;clear I bc;simp only[jm];apply zS 7;apply zr 8;intro K hK;refine UB _ zf _ _ 125 zf w.heap.size 201 i0 (.agg #[xd xh 0,xj ⟨#[]⟩,xd xh 0]) 3 32 underlying125 hi hz0 hz1 hz2 rfl zp TV 0 (gM []) zf ?c0 (TU w3.heap.size 0) 1 1 [xd xh v.k,xj v.s,xd xh v.p] zf rfl ?c1 ?c2 zp ?c3 ?c4 ?c5 (w3.heap.size+1) zp ?_
   case c0=>exact hown3.alloc _
   case c1=>
    intro j u hj
    match j,hj with
    |0,hj=>simp at hj;subst hj;simp[Rn]
    |1,hj=>simp at hj;subst hj;simp[Rn]
    |2,hj=>simp at hj;subst hj;simp[Rn]
    |j+3,hj=>simp at hj
   case c2=>intro u hu;simp at hu;rcases hu with rfl|rfl|rfl<;>rfl
   case c3=>decide
   case c4=>simp
   case c5=>simp;omega
   intro g4 cap4 w4 hown4 hgrow4 hat4 hlt4;have hcb4:=(hgrow4.block cb zs (λe=>gz hown3 e.symm hcb3 zp)).trans ((XD hcb3l).trans hcb3);have bc4:=EQ hcb4;have bf4:=gh hcb4;refine hK _ _ ?_;clear hK K;apply zt0 9 (xk (TT cb));apply zt0 10 (xk (some (TU cb 3)));apply zS 11;refine Vg zk ?_ _;go_wp2_with fail
   go_meet
   have hg4:=λe=>gz hown4 e hcb4 zp
   refine⟨⟨hzw,TT g4,0+1,cap4,gj hcb4 3 _,gy hown4 (gp _ _ _ _) (QY hg4)⟩,?_⟩;exact(((HM2.trans HM3).alloc _).row hgrow4 (λk e=>(gJ hown3 k e).1) hp0).setNew hzw hp0 _ _
  .go_simp
   go_wp2_with (refine(jU 2 _ pb g cap B L (i+1+1) false 0 NM v r (aQ.later (XF).drew) a6.out zp j1 b1 q1 ar).mono ?_;rintro e w3 ⟨rfl,I⟩)
   have HM3:=I.from_drew;have hcb3:=(I.gr.block cb aj zs).trans aN.out;have hown3:=gy ae.out I.from_drew.gr (QY aA);have hcb3l:=dK hcb3;have bc3:=EQ hcb3;clear I bc;simp only[jm];refine zr2 4 7 (λK hK=>?_) λK hK=>?_
   .go_simp;refine hK _ _ ?_;clear hK K;apply zS 7;exact zm15
   go_simp;refine hK _ _ ?_;clear hK K;apply zS 4;exact zm15
 obtain⟨⟨-,ao,an,ac,ax,ai⟩,aS⟩:=hcut;have aF:=HP.move aS bd au.out;have ay:=dK ax;clear bc aN ae aP aH aQ HM2;by_cases hy20:y.k=20
 .have aK:=HP.fe.nextLt HY.out zo;obtain⟨z,r2,hz⟩:=lB HP.fe aK;obtain⟨j2,b2,q2,aq⟩:=oS (z.k=2\/z.k=3) z L.length (j1+1) b1 q1;have bg:=aq.lt HP.fe hz (λe=>zo);have aM:b2=false->NM.length<=j2:=aq.nm (λe=>by have:=au.out e;omega);obtain⟨x,r3,hx⟩:=lB HP.fe bg;obtain⟨j3,b3,q3,bj⟩:=oS (x.k=19) x L.length j2 b2 q2;have av:=DY HP.fe HT.out HK.out aE.out ar HY.out hy20 hz aq hx bj;have HZ:=fy hz;have HX:=fy hx;have aW:=fy aM;have aw:=fy hy20;clear hz hx aM hy20;go_wp2_with fail;refine(oG aF HY.out aw.out zp).mono ?_;rintro e w2 ⟨rfl,az⟩;have aX:=aF.move az aK (λe=>by have:=au.out e;omega);have HM6:=aS.trans az;have ad:=(az.gr.block cb ay zs).trans ax;unfold ny vz at ad;have aB:(xa ao an ac).ownBlock≠some pb:=by
   intro e;have:=gJ ai pb e;omega
  have ae:=gy ai az.gr (QY aB);have aA:=aB;have aj:=dK ad;have bc:=EQ ad;clear az aB
  go_upto_region 5 with fail
  go_cut [] (λwc=>CS w wc cb t [v,z]/\Mv w wc pb g cap L.length i false 0 j2 b2 q2)
  case first=>
   refine U9 zk ?_;change wpAny _ _ _ _ _ _ _ (World.drew _);apply zt0 0 (xk (TT cb));apply zt0 1 (xk (TT cb));apply zt0 2 (xk (TT cb));apply zt0 3 (xk (some (TU cb 3)));apply zt0 5 (xk (TT pb));refine zr2 4 6 (λK hK=>?_) λK hK=>?_
   .go_simp;refine hK _ _ ?_;clear hK K;apply zr 6;intro K hK;go_simp
    go_wp2_with (refine(Dg (aX.later (XF).drew) HZ.out aq).mono ?_;rintro e w3 ⟨rfl,I⟩)
    have HM3:=I.from_drew;have hcb3:=(I.gr.block cb aj zs).trans ad;have hown3:=gy ae I.from_drew.gr (QY aA);have hcb3l:=dK hcb3;clear I bc;simp only[jm];apply zS 7;apply zr 8;intro K hK;refine UB _ zf _ _ 125 zf w.heap.size 201 i0 (.agg #[xd xh 0,xj ⟨#[]⟩,xd xh 0]) 3 32 underlying125 hi hz0 hz1 hz2 rfl zp (xa ao an ac) 1 (gM [v]) zf ?c0 (TU w3.heap.size 0) 1 1 [xd xh z.k,xj z.s,xd xh z.p] zf rfl ?c1 ?c2 zp ?c3 ?c4 ?c5 (w3.heap.size+1) zp ?_
    case c0=>exact hown3.alloc _
    case c1=>
     intro j u hj
     match j,hj with
     |0,hj=>simp at hj;subst hj;simp[Rn]
     |1,hj=>simp at hj;subst hj;simp[Rn]
     |2,hj=>simp at hj;subst hj;simp[Rn]
     |j+3,hj=>simp at hj
    case c2=>intro u hu;simp at hu;rcases hu with rfl|rfl|rfl<;>rfl
    case c3=>decide
    case c4=>simp
    case c5=>simp;omega
    intro g4 cap4 w4 hown4 hgrow4 hat4 hlt4;have hcb4:=(hgrow4.block cb zs (λe=>gz hown3 e.symm hcb3 zp)).trans ((XD hcb3l).trans hcb3);have bc4:=EQ hcb4;have bf4:=gh hcb4;refine hK _ _ ?_;clear hK K;apply zt0 9 (xk (TT cb));apply zt0 10 (xk (some (TU cb 3)));apply zS 11;refine Vg zk ?_ _;go_wp2_with fail
    go_meet
    have hg4:=λe=>gz hown4 e hcb4 zp
    refine⟨⟨hzw,TT g4,1+1,cap4,gj hcb4 3 _,gy hown4 (gp _ _ _ _) (QY hg4)⟩,?_⟩;exact(((HM6.trans HM3).alloc _).row hgrow4 (λk e=>(gJ hown3 k e).1) hp0).setNew hzw hp0 _ _
   .go_simp
    go_wp2_with (refine(Dg (aX.later (XF).drew) HZ.out aq).mono ?_;rintro e w3 ⟨rfl,I⟩)
    have HM3:=I.from_drew;have hcb3:=(I.gr.block cb aj zs).trans ad;have hown3:=gy ae I.from_drew.gr (QY aA);have hcb3l:=dK hcb3;have bc3:=EQ hcb3;clear I bc;simp only[jm];refine zr2 4 7 (λK hK=>?_) λK hK=>?_
    .go_simp;refine hK _ _ ?_;clear hK K;apply zS 7;exact zm14
    go_simp;refine hK _ _ ?_;clear hK K;apply zS 4;exact zm14
  obtain⟨⟨-,ba,a8,a7,aJ,aC⟩,bh⟩:=hcut;have bq:=HP.move bh bg aW.out;have aR:=dK aJ;clear bc;go_wp2_with fail;refine(jU 19 _ pb g cap B L j2 b2 q2 NM x r3 bq HX.out zp j3 b3 q3 bj).mono ?_;rintro e w8 ⟨rfl,ag⟩;have aO:=bh.trans ag;have J:=(ag.gr.block cb aR zs).trans aJ;unfold ny vz at J;have ak:(xa ba a8 a7).ownBlock≠some pb:=by
   intro e;have:=gJ aC pb e;omega
  have U:=gy aC ag.gr (QY ak);have bc:=EQ J;have bf:=gh J;have aa:=λe=>gz U e J zp
  clear ag ak;simp only[jm];go_wp2;go_ret;exact⟨cb,[v,z],x,j3,b3,q3,rfl,hzw,⟨ba,a8,a7,gj (gj (gj J 4 _) 5 _) 6 _,gy (gy (gy U (gp _ _ _ _) (QY aa)) (gp _ _ _ _) (QY aa)) (gp _ _ _ _) (QY aa)⟩,((aO.setNew hzw hp0 _ _).setNew hzw hp0 _ _).setNew hzw hp0 _ _,av⟩
 obtain⟨j2,b2,q2,aq⟩:=oS (y.k=19) y L.length j1 b1 q1;have av:=DX HP.fe HT.out HK.out aE.out ar HY.out hy20 aq;have aw:=fy hy20;clear hy20;go_wp2_with fail;refine(pN aF HY.out aw.out).mono ?_;rintro e w2 ⟨rfl,bl⟩;have bt:=bl.symm;clear bl;subst bt;go_wp2_with fail;refine(jU 19 _ pb g cap B L j1 b1 q1 NM y r1 aF HY.out zp j2 b2 q2 aq).mono ?_;rintro e w8 ⟨rfl,ag⟩;have aO:=aS.trans ag;have J:=(ag.gr.block cb ay zs).trans ax;unfold ny vz at J;have ak:(xa ao an ac).ownBlock≠some pb:=by
  intro e;have:=gJ ai pb e;omega
 have U:=gy ai ag.gr (QY ak);have bc:=EQ J;have bf:=gh J;have aa:=λe=>gz U e J zp
 clear ag ak;simp only[jm];go_wp2;go_ret;exact⟨cb,[v],y,j2,b2,q2,rfl,hzw,⟨ao,an,ac,gj (gj (gj J 4 _) 5 _) 6 _,gy (gy (gy U (gp _ _ _ _) (QY aa)) (gp _ _ _ _) (QY aa)) (gp _ _ _ _) (QY aa)⟩,((aO.setNew hzw hp0 _ _).setNew hzw hp0 _ _).setNew hzw hp0 _ _,av⟩
end Go.Proofs.YtidakhhekofkoaaGreatDoor
