import Derived.Test.YtidakhhekofkoaaGreatDoorT05
set_option linter.all false
set_option maxHeartbeats 8000000
set_option maxRecDepth 100000
namespace Go.Proofs
def Us:=@Go.World.cell?_alloc_lt
def XJ:=λ{a b c}=>@Go.World.cell?_alloc_lt a b c
def Uz:=@Go.wpList_append_lies
end Go.Proofs
namespace Go.Proofs.YtidakhhekofkoaaGreatDoor
attribute [local go_sem] TT TU TV XL
attribute [local simp] TT TU TV XL
open Go.Proofs.Tryz
open Go.RowKit Go.Deep
open Value renaming slice->xa,int->xd,string->xj,pointer->xk,bool->xn
open IntKind renaming i64->xh
open Obj renaming cells->xi
open Ending renaming returned->xm
open World renaming alloc->Q',setCell->Rp,drew->Rs
open Or renaming inr->QY,inl->Rf
open Addr renaming add->Ra
variable{zq:Prop}
variable{w w1 w2 w' W w3:Uc}{m x:T3}{n nn nc pb cap B i q j0 q0 j1 q1 j j2 q2 m' cb:Nat}{xs:TW}{f:Fm}{fp cp p o:TX}{L NM r A r1 al l1:TY}{bad b0 b1 b b2:Bool}{cs:T1}{t y:Tk}{rs rs':T6}{k1 k2:Ua}{e:Ending}
def zm6(h:zq:=by
 apply zt0 6 (xk (some (TU (w.heap.size+1) 1)));apply zS 7;refine Vg zk ?_ _;go_wp2_with fail
 go_roundg (gk-1)
 case measure=>omega
 have hks:KQ w4 (w4.setCell (TU (w.heap.size+1) 1) (xa (TT g4) (rs.length+1) cap4)):=KQ.set HSB4.out zp zp zp _ _;have hkk:=hkq4.trans hks;have hro:=gy hown4 (gp w4 (w.heap.size+1) 1 (xa (TT g4) (rs.length+1) cap4)) (Or.inr (λe=>gz hown4 e HSB4.out zp));have hgg:=gD HG4 (show w.heap.size<=w.heap.size+1 from zo) 1 (xa (TT g4) (rs.length+1) cap4);have hrb5:=(Ug w4 (TU (w.heap.size+1) 1) (xa (TT g4) (rs.length+1) cap4) w.heap.size zp).trans hrb4;have hpp5:=λB j b q NM h=>(HPR.out B j b q NM h).setTy HSB4.out zp zp 1 (xa (TT g4) (rs.length+1) cap4)
 rcases HX3.out with⟨rl,l1,hx,h21,hrs,B3,j3,NM3,hl3,hp3⟩|⟨rl,l1,hx,h21,B3,NM3,hp3⟩|⟨q3,hx,B3,NM3,hp3⟩
 .have:=Pm H5.out hlr hlm HMR.out hx h21 hl3;refine⟨al,rs++[{rl with pl:=t.p}],j3,false,0,⟨hrb5,⟨o1,n1,k1,TT g4,rs.length+1,cap4,rs.length+1,_,gj HSB4.out 1 _,hro,λ_=>⟨hkk.owns HACT3.out,zp,?_⟩⟩,hgg,B3,NM3,hpp5 _ _ _ _ _ hp3⟩,by rw[hmm];exact this⟩;exact Q8.snoc (r:={rl with pl:=t.p}) (HRU3.out.keep hkk) ((hrs.pl t.p).keep hkk)
 .exact⟨al,rs,_,_,_,⟨hrb5,⟨o1,n1,k1,TT g4,rs.length+1,cap4,rs.length+1,_,gj HSB4.out 1 _,hro,λe=>by cases e⟩,hgg,B3,NM3,hpp5 _ _ _ _ _ hp3⟩,by rw[hmm];exact I7 H5.out HMR.out (Or.inl ⟨rl,l1,hx,h21,rfl⟩)⟩
 exact⟨al,rs,_,_,_,⟨hrb5,⟨o1,n1,k1,TT g4,rs.length+1,cap4,rs.length+1,_,gj HSB4.out 1 _,hro,λe=>by cases e⟩,hgg,B3,NM3,hpp5 _ _ _ _ _ hp3⟩,by rw[hmm];exact I7 H5.out HMR.out (Or.inr hx)⟩
 ):zq:=h
def zm10(h:zq:=by
 apply zrH 8;intro K hK;refine UB _ zf _ _ 25 zf B 9 i0 (xj ⟨#[]⟩) 1 16 underlying25 hi hz0 hz1 hz2 rfl zd (xa bo bn bk) A.length (kp A) zf ?c0 (TU w3.heap.size 0) 1 1 [xj t.s] zf rfl ?c1 ?c2 zd ?c3 ?c4 ?c5 (w3.heap.size+1) zp ?_
 case c0=>exact gq ho3 gC.drew
 case c1=>
  intro j u hj
  match j,hj with
  |0,hj=>simp at hj;subst hj;simp[Addr.add]
  |j+1,hj=>simp at hj
 case c2=>intro u hu;simp at hu;subst hu;rfl
 case c3=>unfold maxLen;omega
 case c4=>omega
 case c5=>have:=hf3.size;simp;omega
 intro g4 cap4 w4 hown4 hgrow4 hat4 hlt4;have hb4:=(hgrow4.block cb zs (λe=>hnc3 e.symm)).trans ((XD hcl3).trans hb3);have hbx4:=(hgrow4.block w.heap.size zs (λe=>hnx3 e.symm)).trans ((XD hxl3).trans hbx3);have hf4:CF cb B w w4:=(hf3.trans (CF.below ((Uo w3.heap.size w3).alloc (XH) (xi #[xj t.s] 9)).drew)).trans (CF.row (gq ho3 gC.drew) hgrow4);refine hK.out _ _ (EQ hbx4 1) (λhHeld=>?_);clear hK K bc bf;have bc:=EQ hb4;have bf:=gh hb4;have hcl4:=dK hb4;clear hgrow4 hbx4;apply zt1 9 (xk (TT cb)) hHeld;apply zt1 10 (xk (TT cb)) hHeld;apply zrH 11;intro K hK;go_simp;refine hK.out _ _ (by show(World.setCell _ _ _).cell? _=_;rw[XK (by show cb≠w.heap.size;omega)];omega) (λhHeld=>?_);clear hK K;refine Ut zk ?_ _;clear hHeld bc bf;go_wp2;go_end0;refine⟨rfl,⟨⟨TT g4,A.length+1,cap4,gj hb4 0 _,?_⟩,hBc⟩,hf4.trans (CF.grown (gp _ _ _ _))⟩;rw[A7,Ur];exact gy hown4 (gp _ _ _ _) (Or.inr (λe=>gz hown4 e hb4 zp))
 ):zq:=h
def zm12(h:zq:=by
 apply zr 5;intro K hK;refine UB _ zf _ _ 125 zf w.heap.size 201 i0 (.agg #[xd xh 0,xj ⟨#[]⟩,xd xh 0]) 3 32 underlying125 hi hz0 hz1 hz2 rfl zp (xa o1 n1 k1) A.length (gM A) zf ?c0 (TU w3.heap.size 0) 1 1 [xd xh v.k,xj v.s,xd xh v.p] zf rfl ?c1 ?c2 zp ?c3 ?c4 ?c5 (w3.heap.size+1) zp ?_
 case c0=>exact hown3.alloc _
 case c1=>
  intro j u hj
  match j,hj with
  |0,hj=>simp at hj;subst hj;simp[Addr.add]
  |1,hj=>simp at hj;subst hj;simp[Addr.add]
  |2,hj=>simp at hj;subst hj;simp[Addr.add]
  |j+3,hj=>simp at hj
 case c2=>intro u hu;simp at hu;rcases hu with rfl|rfl|rfl<;>rfl
 case c3=>unfold maxLen;omega
 case c4=>omega
 case c5=>simp;omega
 intro g4 cap4 w4 hown4 hgrow4 hat4 hlt4;have hsb4:=(hgrow4.block (w.heap.size+1) zs (λe=>gz hown3 e.symm hsb3 zp)).trans ((XD hsb3l).trans hsb3);have hrb4:=(hgrow4.block w.heap.size zs (λe=>gz hown3 e.symm hrb3 zp)).trans ((XD zo).trans hrb3);unfold k9 at hsb4;have bc4:=EQ hsb4;have bf4:=gh hsb4;refine hK _ _ ?_;clear hK K bc3;apply zt0 6 (xk (TT (w.heap.size+1)));apply zS 7;refine Vg zk ?_ _;go_wp2_with fail
 go_roundg (gk-1)
 case measure=>omega
 refine⟨A++[v],j2,b2,q2,?_,hact2⟩;refine⟨(XE zp).trans hrb4,⟨TT g4,A.length+1,cap4,gj hsb4 0 _,?_⟩,(((HM2.trans HM3).alloc _).row hgrow4 (λk e=>(gJ hown3 k e).1) hp0).setNew zo hp0 _ _,hj2⟩;rw[mP,Ur];exact gy hown4 (gp _ _ _ _) (Or.inr (λe=>gz hown4 e hsb4 zp))
 ):zq:=h
def zm13(h:zq:=by
 apply zr 5;intro K hK;refine UB _ zf _ _ 125 zf w.heap.size 201 i0 (.agg #[xd xh 0,xj ⟨#[]⟩,xd xh 0]) 3 32 underlying125 hi hz0 hz1 hz2 rfl zp TV 0 (gM []) zf ?c0 (TU w3.heap.size 0) 1 1 [xd xh v.k,xj v.s,xd xh v.p] zf rfl ?c1 ?c2 zp ?c3 ?c4 ?c5 (w3.heap.size+1) zp ?_
 case c0=>exact hown3.alloc _
 case c1=>
  intro j u hj
  match j,hj with
  |0,hj=>simp at hj;subst hj;simp[Addr.add]
  |1,hj=>simp at hj;subst hj;simp[Addr.add]
  |2,hj=>simp at hj;subst hj;simp[Addr.add]
  |j+3,hj=>simp at hj
 case c2=>intro u hu;simp at hu;rcases hu with rfl|rfl|rfl<;>rfl
 case c3=>decide
 case c4=>omega
 case c5=>simp;omega
 intro g4 cap4 w4 hown4 hgrow4 hat4 hlt4;have hsb4:=(hgrow4.block (w.heap.size+1) zs (λe=>gz hown3 e.symm hsb3 zp)).trans ((XD hsb3l).trans hsb3);have hrb4:=(hgrow4.block w.heap.size zs (λe=>gz hown3 e.symm hrb3 zp)).trans ((XD zo).trans hrb3);unfold k9 at hsb4;have bc4:=EQ hsb4;have bf4:=gh hsb4;refine hK _ _ ?_;clear hK K bc3;apply zt0 6 (xk (TT (w.heap.size+1)));apply zS 7;refine Vg zk ?_ _;go_wp2_with fail
 go_meet
 refine⟨?_,HACT⟩;exact⟨(XE zp).trans hrb4,⟨TT g4,0+1,cap4,gj hsb4 0 _,gy hown4 (gp _ _ _ _) (Or.inr (λe=>gz hown4 e hsb4 zp))⟩,(((HM2.out.trans HM3).alloc _).row hgrow4 (λk e=>(gJ hown3 k e).1) hp0).setNew zo hp0 _ _,hj1⟩
 ):zq:=h
def zm43(h:zq:=by
 refine⟨TT g8,cap8,?_,?_,HG8,?_⟩
 .rw[hlen];rfl
 .rw[hlen];exact HO8.out
 rcases HAT.out with e|e
 .exact Or.inl e.symm
 exact Or.inr ⟨g8,rfl,e⟩
 ):zq:=h
def zm52(h:zq:=by
 rcases hat with e|e
 .rcases HAF.at_ with e2|⟨g,e2,hg⟩
  .exact Or.inl (e2.symm.trans e)
  rw[e2] at e;cases e;exact Or.inr zo
 exact Or.inr zo
 ):zq:=h
def zm86(h:zq:=by
 go_in;go_wp2;go_end0;rw[HT.out];exact⟨rfl,HC.told ((gp _ _ _ _).trans (gp _ _ _ _)) (λ_ _ _ h=>gj (gj h 1 _) 2 _),(gp _ _ _ _).trans (gp _ _ _ _)⟩
 ):zq:=h
def zm109(h:zq:=by
 obtain⟨h1,h2⟩:=ho;refine⟨h1,?_⟩;rcases h2 with h2|⟨g,cap,cur,hv,hg,hh,r⟩
 .simp_all
 exact Or.inr ⟨g,cap,cur,hv,hg,h _ _ _ _ hh (Or.inl rfl),r⟩
 ):zq:=h
def zm118(h:zq:=by
 have:=hown;show q8.ownsRow _ _ _ _ _ _;rw[xP];rw[show(((T4.length:Nat):Int)-1)=((T4.length-1:Nat):Int) from zo] at this;exact this
 ):zq:=h
def KQ(w w':Uc):Prop:=∀(b:Nat)(c:T1)(ty:Nat)(m:T3),w.heap[b]?=some (xi c ty m)->(ty=201\/ty=259\/ty=270)->w'.heap[b]?=some (xi c ty m)
theorem KQ.trans(h:KQ w w1)(h':KQ w1 w2):KQ w w2:=by grind[KQ]
def KQ.below(h:XL w w'):KQ w w':=λb _ _ _ I _=>(h.block b (dK I)).trans I
theorem KQ.grown{row:Ua}(h:w.grownBy w' row)(hr:∀k,row=some k->¬ Q2 w k 201/\¬ Q2 w k 259/\¬ Q2 w k 270):KQ w w':=λb c ty m I ht=>
 (h.block b (dK I) (by
  grind[Q2])).trans I
theorem sj{b ty ty':Nat}{c:T1}(h:w.heap[b]?=some (xi c ty m))(hne:ty≠ty'):¬ Q2 w b ty':=by
 grind[Q2]
theorem KQ.set{b ty:Nat}{c:T1}(hb:w.heap[b]?=some (xi c ty m))(h1:ty≠201)(h2:ty≠259)(h3:ty≠270)(o:Nat)(v:Ud):KQ w (w.setCell (TU b o) v):=by grind[KQ.grown,gp,sj]
def KQ.owns(h:KQ w w'){base size:Nat}{v:Ud}(ho:w.ownsRow base 201 size v n xs):w'.ownsRow base 201 size v n xs:=by
 exact zm109
def KQ.isG(h:KQ w w'){v:TX}(hf:Pi w f v):Pi w' f v:=
 hf.keep (λb c m I=>(h b c _ m I (QY (QY rfl))).trans I.symm)
def R4(w:Uc)(r:Rl)(fp no:TX)(nn nc:Nat)(cp:TX):Prop:=
 if r.call=true then (∃cb ao an ac x,cp=some ⟨cb,0,none⟩/\w.heap[cb]?=some (ny r.word ao an ac x)/\x.p=r.fin/\w.ownsRow 0 201 3 (xa ao an ac) r.args.length (gM r.args))/\no=none/\nn=0/\nc=0/\fp=none
 else cp=none/\Pi w r.f fp/\w.ownsRow 0 201 3 (xa no nn nc) (lJ r.f).length (gM (lJ r.f))
theorem R4.keep(h:KQ w w'){r:Rl}{no:TX}(hr:R4 w r fp no nn nc cp):R4 w' r fp no nn nc cp:=by
 unfold R4 at hr|-;by_cases hc:r.call=true
 .rw[Uh hc] at hr|-;obtain⟨⟨cb,J,I,ac,x,U,h2,h3,h4⟩,h5⟩:=hr;exact⟨⟨cb,J,I,ac,x,U,h _ _ _ _ h2 (QY (Rf rfl)),h3,h.owns h4⟩,h5⟩
 rw[T' hc] at hr|-;exact⟨hr.1,h.isG hr.2.1,h.owns hr.2.2⟩
def Fk(t:Tk)(fp no:TX)(nn nc:Nat)(cp:TX):Obj:=
 xi #[xd xh t.k,xj t.s,xd xh t.p,xk fp,xa no nn nc,xk cp] 205 (0,0)
def OJ(L : TY)(pb g cap : Nat)(w w' : Uc)(t : Tk)(e : Ending)(x : Except Nat (Rl × TY)) : Prop :=
  w.grownBy w' (some pb) /\∃ fp no nn nc cp,e =xm (.agg #[xd xh t.k,xj t.s,xd xh t.p,xk fp,xa no nn nc,xk cp]) /\
    ((∃ rl l1,x = .ok (rl,l1) /\ gF l1 = 21 /\ R4 w' rl fp no nn nc cp /\∃ B j NM,PL L j = l1.tail /\ PP w' pb g cap B L j false 0 NM) \/
     (∃ rl l1,x = .ok (rl,l1) /\ gF l1 ≠ 21 /\∃ B NM,PP w' pb g cap B L (L.length-1) true (ig l1) NM) \/
     (∃ q,x = .error q /\∃ B NM,PP w' pb g cap B L (L.length-1) true q NM))
def PP.clear{g:Nat}(h:PP w pb g cap B L i bad q NM):PP (w.setCell (TU pb 3) TV) pb g cap w.heap.size L i bad q []:=by
 obtain⟨no,nn,nc,I,h2⟩:=h.blk;obtain⟨cur,J,U⟩:=h.row;exact⟨⟨none,0,0,gj I 3 _,XG⟩,⟨cur,(XE h.ne).trans J,U⟩,h.le,h.capLe,h.len,h.lt,h.fe,h.ok,h.gLt,h.pLt,zp,λ_=>Ux⟩
def PP.ty{g:Nat}(h:PP w pb g cap B L i bad q NM):∃c m,w.heap[pb]?=some (xi c 194 m):=by
 obtain⟨no,nn,nc,h1,h2⟩:=h.blk;simp_all
theorem PP.kq{g:Nat}(h:PP w pb g cap B L i bad q NM)(hg:w.grownBy w' (some pb)):KQ w w':=by
 obtain⟨c,m,hb⟩:=h.ty
 grind[KQ.grown,sj]
def PP.setTy{g:Nat}(h:PP w pb g cap B L i bad q NM){c ty:Nat}(hc:w.heap[c]?=some (xi cs ty m))(U:ty≠201)(h2:ty≠194)(o:Nat)(v:Ud):PP (w.setCell (TU c o) v) pb g cap B L i bad q NM:=by
 obtain⟨no,nn,nc,hb,ho⟩:=h.blk;obtain⟨cur,h3,h4⟩:=h.row;have J:pb≠c:=by rintro rfl;simp_all
 have I:g≠c:=by rintro rfl;simp_all
 exact⟨⟨no,nn,nc,(XE J).trans hb,gy ho (gp _ _ _ _) (QY (λe=>gz ho e hc U))⟩,⟨cur,(XE I).trans h3,h4⟩,h.le,h.capLe,h.len,h.lt,h.fe,h.ok,h.gB,h.pB,by simp[Rp];exact h.hB,h.nm⟩
def set6(w:Uc)(b:Nat)(v0 v1 v2 v3 v4 v5:Ud):Uc:=(((((w.setCell (TU b 0) v0).setCell (TU b 1) v1).setCell (TU b 2) v2).setCell (TU b 3) v3).setCell (TU b 4) v4).setCell (TU b 5) v5
def PP.set6{g:Nat}(h:PP w pb g cap B L i bad q NM){c ty:Nat}(hc:w.heap[c]?=some (xi cs ty m))(I:ty≠201)(J:ty≠194)(v0 v1 v2 v3 v4 v5:Ud):PP (set6 w c v0 v1 v2 v3 v4 v5) pb g cap B L i bad q NM:=
 (((((h.setTy hc I J 0 v0).setTy (gj hc 0 v0) I J 1 v1).setTy (gj (gj hc 0 v0) 1 v1) I J 2 v2).setTy (gj (gj (gj hc 0 v0) 1 v1) 2 v2) I J 3 v3).setTy (gj (gj (gj (gj hc 0 v0) 1 v1) 2 v2) 3 v3) I J 4 v4).setTy (gj (gj (gj (gj (gj hc 0 v0) 1 v1) 2 v2) 3 v3) 4 v4) I J 5 v5
def KQ.set6{b ty:Nat}{c:T1}(hb:w.heap[b]?=some (xi c ty m))(I:ty≠201)(J:ty≠259)(U:ty≠270)(v0 v1 v2 v3 v4 v5:Ud):KQ w (set6 w b v0 v1 v2 v3 v4 v5):=
 (((((KQ.set hb I J U 0 v0).trans (KQ.set (gj hb 0 v0) I J U 1 v1)).trans (KQ.set (gj (gj hb 0 v0) 1 v1) I J U 2 v2)).trans (KQ.set (gj (gj (gj hb 0 v0) 1 v1) 2 v2) I J U 3 v3)).trans (KQ.set (gj (gj (gj (gj hb 0 v0) 1 v1) 2 v2) 3 v3) I J U 4 v4)).trans (KQ.set (gj (gj (gj (gj (gj hb 0 v0) 1 v1) 2 v2) 3 v3) 4 v4) I J U 5 v5)
def Gd{row:Ua}(h:w.grownBy w' row){b:Nat}(I:w.heap.size<=b){v0 v1 v2 v3 v4 v5:Ud}:w.grownBy (set6 w' b v0 v1 v2 v3 v4 v5) row:=
 gD (gD (gD (gD (gD (gD h I 0 v0) I 1 v1) I 2 v2) I 3 v3) I 4 v4) I 5 v5
def Kq{b ty:Nat}{a0 a1 a2 a3 a4 I:Ud}(J:w.heap[b]?=some (xi #[a0,a1,a2,a3,a4,I] ty m))(v0 v1 v2 v3 v4 v5:Ud):(set6 w b v0 v1 v2 v3 v4 v5).heap[b]?=some (xi #[v0,v1,v2,v3,v4,v5] ty m):=
 gj (gj (gj (gj (gj (gj J 0 v0) 1 v1) 2 v2) 3 v3) 4 v4) 5 v5
def PF.from(hg:w.grownBy W (some pb))(hf:PF pb B W w3)(hB:w.heap.size<=B):w.grownBy w3 (some pb):=
 ⟨hf.os.trans hg.os,hf.tape.trans hg.tape,hf.output.trans hg.output,UP hg.size hf.size,λk J I=>(hf.keep k (Uw J hg.size) (λe=>I (by rw[e])) (Rf zo)).trans (hg.block k J I)⟩
theorem Bx{l:TY}(h:¬ (gF l=2/\gF l.tail=18)):gZ l=(match pf (6*l.length+5) 0 .nil l with| .error q=>.error q| .ok (f,l1)=>.ok (⟨0,false,vz,[],0,f⟩,l1)):=by
 grind[gZ]
structure PU(L:TY)(pb g cap:Nat)(w wc:Uc)(rb vb:Nat)(t:Tk)(x:Except Nat (Rl × TY)):Prop where
 gr:w.grownBy wc (some pb)
 rbx:wc.heap[rb]?=some (Fk vz none none 0 0 none)
 ex:∃fp no nn nc cp B j b q NM,wc.heap[vb]?=some (Fk t fp no nn nc cp)/\PP wc pb g cap B L j b q NM/\
  ((b=false/\q=0/\∃rl,x=.ok (rl,PL L j)/\R4 wc rl fp no nn nc cp)\/(b=true/\j=L.length-1/\x=.error q))
theorem AP{g:Nat}(h:PP w pb g cap B L i false 0 NM)(ht:PL L i=t::r)(hk:t.k=5):
  Calls prog 156 #[xk (TT pb)] w λe w'=>OJ L pb g cap w w' t e (gZ r):=by
 have hp0:=h.pLt;have hr:=iQ ht zo;have aC:=h.fe.nextLt ht zo;obtain⟨t1,r1,bm⟩:=lB h.fe aC;have bh:r=t1::r1:=za;have HP:=h;have HT:=fy ht;have ak:=fy bm;have HK:=fy hk;have HR:=fy hr;have ae:=fy bh;clear h ht hk bm hr bh;go_in;go_wp2_with fail;refine(kU (HP.alloc _) HT.out HK.out zp).mono ?_;rintro e w1 ⟨rfl,az⟩;have aN:=((Mv.refl w pb g cap L.length i false 0).alloc _).trans az;have U:=(HP.alloc _).step az HT.out (by have:=HK.out;omega);have au:=(az.gr.block w.heap.size zp zs).trans (gi _ _);have bq:=dK au;clear az;simp only[jm]
 go_upto_region 2 with fail
 obtain⟨cc,aQ⟩:∃cc,cc=decide (gF r=2/\gF r.tail=18):=⟨_,rfl⟩;have aE:=fy aQ;clear aQ
 go_cut [19] (λc wc=>c=xn cc/\wc=w1.alloc (xi #[xd xh t.k,xj t.s,xd xh t.p,xk none,TV,xk none] 205))
 case first=>
  obtain⟨no,nn,nc,ag,_⟩:=U.blk;have bc:=EQ ag;have ba:=U.pLt;have hg1:=U.gLt;clear ag;by_cases hn:t1.k=2
  .have aY:=HP.fe.nextLt ak.out zo;have a7:=iQ ak.out zo;obtain⟨u,r2,hu⟩:=lB HP.fe aY;have aj:r1=u::r2:=by rw[<-a7];exact hu
   obtain⟨r3,aJ⟩:=vH hu;obtain⟨c0,c1,c2⟩:=mZ U.row aJ;have e2:((t1.k:Int)==2)=true:=nv (c:=2) hn;have c0':w1.cell? (TU g ((i+1)*3+3))=some (xd xh u.k):=by rw[<-c0];congr 2;omega
   have hh:gF r=2:=by rw[ae.out];exact hn
   have aV:gF r.tail=u.k:=by rw[ae.out,aj];rfl
   have HH:=fy hh;have bA:=fy aV;clear hn a7 hu aj aJ hh aV c0 c1 c2
   go_wp2_with (refine(jk (U.alloc _) ak.out).mono ?_;rintro e w' ⟨rfl,rfl⟩)
   go_meet
   refine⟨?_,rfl⟩
   congr 1
   rw[aE.out,HH.out,bA.out];simp only[true_and];rw[Vz];simp;omega
  .have e2:((t1.k:Int)==2)=false:=iL (c:=2) hn;have hh:¬ gF r=2:=by rw[ae.out];exact hn
   have HH:=fy hh;clear hn hh
   go_wp2_with (go_at_call 155;refine(jk (U.alloc _) ak.out).mono ?_;rintro e w' ⟨rfl,rfl⟩)
   go_meet
   grind[gQ]
 obtain⟨rfl,rfl⟩:=hcut
 go_upto_if 19 with fail
 go_cut [] (λwc=>PU L pb g cap w wc w.heap.size w1.heap.size t (gZ r))
 case first=>
  by_cases hcall:gF r=2/\gF r.tail=18
  .have hd:=aE.out.trans (UH hcall);subst hd;obtain⟨u,v,r2,aj,aX⟩:∃u v r2,r=t1::u::v::r2/\u.k=18:=by
    have aG:=lA HP.fe aC;rw[ak.out] at aG;have h1:t1.k=2:=by have:=hcall.1;rw[ae.out] at this;trivial
    obtain⟨u,r2,aj⟩:=R8.more aG zo;subst aj;have h2:u.k=18:=by have:=hcall.2;rw[ae.out] at this;trivial
    obtain⟨v,r3,aJ⟩:=R8.more (aG.tail zo) zo
    grind[gQ]
   have aI:t1.k=2:=by have:=hcall.1;rw[ae.out] at this;trivial
   have bd:PL L (i+1)=t1::u::v::r2:=by rw[HR.out];omega
   have bD:=fy bd;have bB:=fy aI;have bC:=fy aX;clear hcall aj aX bd aI;go_wp2_with fail;refine(Jg g B L u v (U.alloc _) bD.out bB.out bC.out).mono ?_;rintro e w2 ⟨cb,args,x,j,b,q,rfl,hcbw,⟨ao,an,ac,hcb,hown⟩,aA,I⟩;have ad:=(aA.gr.block w1.heap.size zp (by grind)).trans (gi _ _);have bj:=(aA.gr.block w.heap.size zs zs).trans ((XD bq).trans au);unfold Fk at ad;have vc:=EQ ad;have vf:=gh ad;go_wp2_with fail
   go_meet
   have hj:j<L.length:=by
    rcases I with⟨_,_,h,_⟩|⟨_,h,_⟩
    .omega
    omega
   have aH:=(((Mv.refl w1 pb g cap L.length (i+1) false 0).alloc _).trans aA).gr;have aW:KQ w2 (w2.setCell (TU w1.heap.size 5) (xk (TT cb))):=KQ.set ad zp zp zp _ _;refine⟨gD (aN.gr.trans aH) zo _ _,(XE (by grind)).trans bj,none,none,0,0,TT cb,B,j,b,q,NM,gj ad 5 _,?_,?_⟩
   .refine(U.move (((Mv.refl w1 pb g cap L.length (i+1) false 0).alloc _).trans aA) hj ?_).setTy ad zp zp _ _;intro e;rcases I with⟨_,_,h,_⟩|⟨h,_,_⟩
    .have h1:=U.nm rfl;omega
    simp_all
   rcases I with⟨h1,h2,_,h4⟩|⟨h1,h2,h3⟩
   .grind[gQ,R4.keep,im,R4]
   grind[gQ]
  .have hd:=aE.out.trans (Uy hcall);subst hd;have HRR:=fy (Bx hcall);have bI:=U.clear.alloc (Fk t none none 0 0 none);obtain⟨no1,nn1,nc1,ag,_⟩:=U.blk;have bc:=EQ ag;have bf:=gh ag;have ba:=U.pLt;clear hcall ag;go_wp2_with fail;refine(Df _ _ _ _ _ _ _ _ bI (XH)).mono ?_;rintro e w3 ⟨ay,p3,rfl,bo⟩;rw[HR.out] at bo;clear bc bf;have aK:(w1.setCell (TU pb 3) TV).heap.size=w1.heap.size:=zp;have J:=(ay.keep w1.heap.size zp zo (QY (sj (gu aK.symm) zp))).trans (gu aK.symm);have bl:=(ay.keep w.heap.size (by simp[Rp];omega) zo (Rf bq)).trans ((XD zo).trans ((XE (by show w.heap.size≠pb;omega)).trans au));have aT:=PF.from (gL (aN.gr.trans (gp _ _ _ _))) ay zo
   have a6:∃j b q ax,PP w3 pb g cap w1.heap.size L j b q ax/\((b=false/\q=0/\∃f,gZ r=.ok (⟨0,false,vz,[],0,f⟩,PL L j)/\Pi w3 f p3/\ax=lJ f)\/(b=true/\j=L.length-1/\gZ r=.error q)):=by
    grind[gQ]
   obtain⟨j,b,q,ax,a8,I⟩:=a6;obtain⟨no,nn,nc,aP,hown3⟩:=a8.blk;have bc:=EQ aP;have aB:=fy I;unfold Fk at J;have vc:=EQ J;have vf:=gh J;clear ay bo I aP aK;go_wp2_with fail
   go_meet
   have aI:=(KQ.set J zp zp zp 3 (xk p3)).trans (KQ.set (gj J 3 (xk p3)) zp zp zp 4 (xa no nn nc));refine⟨gD (gD aT zo _ _) zo _ _,(XE (by grind)).trans ((XE (by grind)).trans bl),p3,no,nn,nc,none,w1.heap.size,j,b,q,ax,gj (gj J 3 _) 4 _,?_,?_⟩
   .exact(a8.setTy J zp zp _ _).setTy (gj J 3 _) zp zp _ _
   grind[gQ,R4.keep,im,R4]
 obtain⟨aH,hrb,fp,no,nn,nc,cp,B2,j,b,q,aw,bn,ai,I⟩:=hcut;obtain⟨y,r5,hy⟩:=lB ai.fe ai.lt;obtain⟨j2,b2,q2,hs⟩:=oS (y.k=21) y L.length j b q;have HY:=fy hy;have aB:=fy I;clear hy I;go_wp2_with fail;refine(jU 21 _ pb g cap B2 L j b q aw y r5 ai HY.out zp j2 b2 q2 hs).mono ?_;rintro e w4 ⟨rfl,aq⟩;have av:=(aq.gr.block w1.heap.size (dK bn) (by grind)).trans bn;have aa:=(aq.gr.block w.heap.size (dK hrb) zs).trans hrb;unfold Fk at av aa;unfold vz at aa;have vc:=EQ av;have rc:=EQ aa;have rf:=gh aa;clear av;simp only[jm];go_wp2_with fail;have aS:=Kq aa (xd xh t.k) (xj t.s) (xd xh t.p) (xk fp) (xa no nn nc) (xk cp);have br:=EQ aS;clear rc;unfold set6 at br;refine py (v:=.agg #[xd xh t.k,xj t.s,xd xh t.p,xk fp,xa no nn nc,xk cp]) (by simp[results,results156,go_sem,br]) rfl ?_;have bg:=ai.stp HY.out (λe=>zo) hs aq;have ar:=bg.set6 aa zp zp (xd xh t.k) (xj t.s) (xd xh t.p) (xk fp) (xa no nn nc) (xk cp);have aW:=(ai.kq aq.gr).trans (KQ.set6 aa zp zp zp (xd xh t.k) (xj t.s) (xd xh t.p) (xk fp) (xa no nn nc) (xk cp));refine⟨Gd (aH.trans aq.gr) (XH),fp,no,nn,nc,cp,rfl,?_⟩;have hyk:gF (PL L j)=y.k:=by rw[HY.out];rfl
 have hyp:ig (PL L j)=y.p:=by rw[HY.out];rfl
 rcases aB.out with⟨rfl,rfl,rl,hx,hrs⟩|⟨rfl,rfl,hx⟩
 .rcases hs with⟨hk,rfl,rfl,rfl⟩|⟨hk,rfl,rfl,rfl⟩
  .exact Rf ⟨rl,_,hx,zo,hrs.keep aW,B2,j+1,aw,by rw[HY.out];exact iQ HY.out zo,ar⟩
  exact QY (Rf ⟨rl,_,hx,zo,B2,aw,by rw[hyp];exact ar⟩)
 obtain⟨e0,aR,hek⟩:=nJ ai.fe;rw[HY.out] at aR;have hye:=(Vb aR).1;rcases hs with⟨hk,_⟩|⟨hk,rfl,rfl,rfl⟩
 .simp_all
 exact QY (QY ⟨_,hx,B2,aw,ar⟩)
theorem M':∀l:TY,(Te l).length<=l.length:=by intro q0;induction q0<;>grind[Te]
theorem Hy(L:TY)(i:Nat):(PL L i).length<=L.length:=by
 grind[M',PL]
def yg(m:Nat)(A:TY)(l:TY):Except Nat (TY × TY):=if gF l=20 then pX A (iZ m l.tail) else .ok (A,l)
theorem yh(m:Nat)(v:Tk)(r:TY)(A:TY)(J:v.k=2):pX A (iZ (m+1) (v::r))=yg m (A++[v]) r:=by
 have I:gF (v::r)=2:=J;rw[iZ,Uh I];unfold yg;by_cases h:gF r=20
 .rw[Uh (show gF (v::r).tail=20 from h),Uh h];show pX A (match iZ m r.tail with| .error q=>.error q| .ok (ts,l1)=>.ok (v::ts,l1))=_
  grind[pX]
 rw[T' (show ¬ gF (v::r).tail=20 from h),T' h];rfl
def yi{m:Nat}{v:Tk}(I:v.k≠2):pX A (iZ m (v::r))=.error v.p:=by
 cases m with
 |zero=>rfl
 |succ m=>rw[iZ,T' (show ¬ gF (v::r)=2 from I)];rfl
def oQ(L:TY)(m:Nat)(A:TY)(j:Nat)(b:Bool)(q:Nat):Prop:=
 (b=false/\q=0/\A.length+(PL L j).length<=401/\(PL L j).length<=m/\kN (PL L 0)=yg m A (PL L j))\/(b=true/\j=L.length-1/\kN (PL L 0)=.error q)
theorem sJ(hfe:FE L)(hy:PL L (L.length-1)=y::r):y.k=0:=by
 grind[nJ]
theorem FV(J:FE L)(hlen:L.length<=401){v:Tk}(ht:PL L 0=t::r)(U:Stp (t.k=4) t L.length 0 false 0 j0 b0 q0)(hv:PL L j0=v::r1)
  (I:Stp (v.k=2) v L.length j0 b0 q0 j1 b1 q1):oQ L ((PL L 0).length-1) [v] j1 b1 q1:=by
 have h0:=Hy L 0;rcases U with⟨h4,rfl,rfl,rfl⟩|⟨h4,rfl,rfl,rfl⟩
 .have hr:r=v::r1:=by grind[iQ]
  subst hr;have hx:kN (PL L 0)=pX [] (iZ (r1.length+1+1) (v::r1)):=by
   unfold kN;rw[ht,Uh (show gF (t::v::r1)=4 from h4)];show iZ (r1.length+1+1) (v::r1)=_;cases iZ (r1.length+1+1) (v::r1)<;>rfl
  rcases I with⟨hk,rfl,rfl,rfl⟩|⟨hk,rfl,rfl,rfl⟩
  .grind[iQ,yh,oQ]
  exact QY ⟨rfl,rfl,by rw[hx,yi hk];rfl⟩
 have:=sJ J hv;rcases I with⟨hk,_⟩|⟨hk,rfl,rfl,rfl⟩
 .omega
 refine QY ⟨rfl,rfl,?_⟩;unfold kN;rw[ht,T' (show ¬ gF (t::r)=4 from h4)];rfl
theorem FW(I:FE L){m:Nat}(h:oQ L m A j b q){v:Tk}(J:PL L j=y::r)(h20:y.k=20)(hv:PL L (j+1)=v::r1)
  (hs:Stp (v.k=2) v L.length (j+1) b q j2 b2 q2):1<=m/\A.length<=400/\oQ L (m-1) (A++[v]) j2 b2 q2:=by
 rcases h with⟨rfl,rfl,h3,h4,h5⟩|⟨rfl,rfl,_⟩
 .have hr:r=v::r1:=by grind[iQ]
  subst hr;rw[J] at h3 h4 h5;simp at h3 h4;obtain⟨m',rfl⟩:∃m',m=m'+1:=⟨m-1,zo⟩;have U:kN (PL L 0)=pX A (iZ (m'+1) (v::r1)):=by
   grind[yg,gF]
  refine⟨zo,zo,?_⟩;rcases hs with⟨hk,rfl,rfl,rfl⟩|⟨hk,rfl,rfl,rfl⟩
  .grind[iQ,yh,oQ]
  exact QY ⟨rfl,rfl,by rw[U,yi hk];rfl⟩
 have:=sJ I J;omega
theorem Kd{m:Nat}(h:oQ L m A j b q)(hy:PL L j=y::r)(h20:y.k≠20):
  (b=false/\q=0/\A.length<=401/\kN (PL L 0)=.ok (A,PL L j))\/(b=true/\j=L.length-1/\kN (PL L 0)=.error q):=by
 grind[yg,gF,oQ]
def pS(L:TY)(m:Nat)(al:TY)(rs:T6)(j:Nat)(b:Bool)(q:Nat):Prop:=
 (b=false/\q=0/\rs.length+(PL L j).length<=401/\(PL L j).length<=m/\ie (PL L 0)=oj al rs (iR m (PL L j)))\/(b=true/\j=L.length-1/\ie (PL L 0)=.error q)
theorem I6(I:FE L)(hlen:L.length<=401)(h:(b=false/\q=0/\A.length<=401/\kN (PL L 0)=.ok (A,PL L j))\/(b=true/\j=L.length-1/\kN (PL L 0)=.error q))
  (J:PL L j=y::r)(hs:Stp (y.k=21) y L.length j b q j2 b2 q2):pS L (PL L j).length A [] j2 b2 q2:=by
 have hl:=Hy L j2;rcases h with⟨rfl,rfl,_,h4⟩|⟨rfl,rfl,h3⟩
 .have hm:ie (PL L 0)=if gF (PL L j)=21 then oj A [] (iR (PL L j).length (PL L j).tail) else .error (ig (PL L j)):=by rw[nD,h4]
  rcases hs with⟨hk,rfl,rfl,rfl⟩|⟨hk,rfl,rfl,rfl⟩
  .grind[iQ,gF,pS]
  refine QY ⟨rfl,rfl,?_⟩;rw[hm,J,T' (show ¬ gF (y::r)=21 from hk)];rfl
 have:=sJ I J;rcases hs with⟨hk,_⟩|⟨hk,rfl,rfl,rfl⟩
 .omega
 grind[nD,pS]
theorem Em(m:Nat)(t:Tk)(r:TY)(h5:t.k=5):iR (m+1) (t::r)=(match gZ r with
   |.error q=>.error q
   |.ok (rl,l1)=>if gF l1=21 then (match iR m l1.tail with| .error q=>.error q| .ok rs=>.ok ({rl with pl:=t.p}::rs)) else .error (ig l1)):=by
 grind[iR,gF,ig]
def Lb{m:Nat}(I:FE L)(h:pS L m al rs j b q)(J:PL L j=t::r)(h5:t.k=5):
  b=false/\q=0/\rs.length<=400/\∃m',m=m'+1/\rs.length+r.length<=400/\r.length<=m'/\ie (PL L 0)=oj al rs (iR (m'+1) (t::r)):=by
 rcases h with⟨rfl,rfl,h3,h4,h6⟩|⟨rfl,rfl,_⟩
 .rw[J] at h3 h4 h6;simp at h3 h4;exact⟨rfl,rfl,zo,m-1,zo,zo,zo,by rw[h6];congr 2;omega⟩
 have:=sJ I J;omega
theorem Pm(h5:t.k=5)(hl:rs.length+r.length<=400)(hl2:r.length<=m')(h:ie (PL L 0)=oj al rs (iR (m'+1) (t::r)))
  {rl:Rl}(hr:gZ r=.ok (rl,l1))(h21:gF l1=21)(hj:PL L j2=l1.tail):pS L m' al (rs++[{rl with pl:=t.p}]) j2 false 0:=by
 have hlen:=rJ hr;have hl1:l1.tail.length+1=l1.length:=nC zo
 grind[Em,oj,gF,pS]
theorem I7(h5:t.k=5)(h:ie (PL L 0)=oj al rs (iR (m'+1) (t::r)))
  (hr:(∃rl l1,gZ r=.ok (rl,l1)/\gF l1≠21/\q=ig l1)\/gZ r=.error q):pS L m' al rs' (L.length-1) true q:=by
 grind[oj,gF,iR,pS]
theorem NL(hfe:FE L){m:Nat}(h:pS L m al rs j b q)(J:PL L j=t::r)(I:t.k≠5):
  (t.k=0/\b=false/\ie (PL L 0)=.ok (al,rs))\/(t.k≠0/\b=false/\q=0/\ie (PL L 0)=.error t.p)\/(t.k=0/\b=true/\ie (PL L 0)=.error q):=by
 rcases h with⟨rfl,rfl,h3,h4,h6⟩|⟨rfl,rfl,h3⟩
 .rw[J] at h4 h6;obtain⟨m',rfl⟩:∃m',m=m'+1:=⟨m-1,by simp at h4;omega⟩;by_cases h0:t.k=0
  .grind[iR,gF,oj]
  refine QY (Rf ⟨h0,rfl,rfl,?_⟩);rw[h6,iR,T' (show ¬ gF (t::r)=0 from h0),T' (show ¬ gF (t::r)=5 from I)];rfl
 grind[sJ]
def Q8(w:Uc):T6->TW->Prop
 |[],cs=>cs=[]
 |r::rs,cs=>∃k s fp no nn nc cp rest,cs=xd xh k:: xj s:: xd xh r.pl:: xk fp:: xa no nn nc:: xk cp::rest/\R4 w r fp no nn nc cp/\Q8 w rs rest
def Q8.keep(h:KQ w w'):∀{rs:T6} {cs:TW},Q8 w rs cs->Q8 w' rs cs
 |[],_,h1=>h1
 |_::_,_,⟨k,s,fp,no,nn,nc,cp,rest,e,hr,hrs⟩=>⟨k,s,fp,no,nn,nc,cp,rest,e,hr.keep h,Q8.keep h hrs⟩
theorem Q8.snoc:∀{rs:T6} {cs:TW} {r:Rl} {k:Int} {s:Ub} {fp no:TX} {nn nc:Nat} {cp:TX},Q8 w rs cs->R4 w r fp no nn nc cp->
  Q8 w (rs++[r]) (cs++[xd xh k,xj s,xd xh r.pl,xk fp,xa no nn nc,xk cp]):=by intro q0;induction q0<;>grind[Q8,R4]
def R4.pl{r:Rl}{no:TX}(h:R4 w r fp no nn nc cp)(p:Nat):R4 w {r with pl:=p} fp no nn nc cp:=h
def k9(o1:TX)(n1 k1:Nat)(o2:TX)(n2 k2:Nat):Obj:=xi #[xa o1 n1 k1,xa o2 n2 k2] 128 (0,0)
structure MA(w wc:Uc)(pb g cap:Nat)(L A:TY)(j:Nat)(b:Bool)(q:Nat):Prop where
 rbx:wc.heap[w.heap.size]?=some (k9 none 0 0 none 0 0)
 sbx:∃o1 n1 k1,wc.heap[w.heap.size+1]?=some (k9 o1 n1 k1 none 0 0)/\wc.ownsRow w.heap.size 201 3 (xa o1 n1 k1) A.length (gM A)
 mv:Mv w wc pb g cap L.length 0 false 0 j b q
 lt:j<L.length
structure MB(w wc:Uc)(pb g cap:Nat)(L al:TY)(rs:T6)(j:Nat)(b:Bool)(q:Nat):Prop where
 rbx:wc.heap[w.heap.size]?=some (k9 none 0 0 none 0 0)
 sbx:∃o1 n1 k1 o2 n2 k2 nR cells,wc.heap[w.heap.size+1]?=some (k9 o1 n1 k1 o2 n2 k2)/\wc.ownsRow w.heap.size 205 6 (xa o2 n2 k2) nR cells/\
  (b=false->wc.ownsRow w.heap.size 201 3 (xa o1 n1 k1) al.length (gM al)/\nR=rs.length/\Q8 wc rs cells)
 gr:w.grownBy wc (some pb)
 pp:∃B NM,PP wc pb g cap B L j b q NM
def OE(L:TY)(pb g cap:Nat)(w w':Uc)(e:Ending):Prop:=
 w.grownBy w' (some pb)/\∃o1 n1 k1 o2 n2 k2 b q,e=xm (.agg #[xa o1 n1 k1,xa o2 n2 k2])/\(∃B j NM,PP w' pb g cap B L j b q NM)/\
  ((b=false/\∃al rs cells,ie (PL L 0)=.ok (al,rs)/\w'.ownsRow 0 201 3 (xa o1 n1 k1) al.length (gM al)/\w'.ownsRow 0 205 6 (xa o2 n2 k2) rs.length cells/\Q8 w' rs cells)\/(b=true/\ie (PL L 0)=.error q))
def Tryz.infoRs:(prog.info? 205).map (λi=>(i.zero,i.size,i.bytes))=some (some (.agg #[xd xh 0,xj ⟨#[]⟩,xd xh 0,xk none,TV,xk none]),6,72):=zk
theorem PP.row'{g:Nat}(h:PP w pb g cap B L i bad q NM){base:Nat}{v:Ud}(ho:w.ownsRow base 205 6 v n xs)(hg:w.grownBy w' v.ownBlock):PP w' pb g cap B L i bad q NM:=by
 obtain⟨no,nn,nc,J,hn⟩:=h.blk;obtain⟨cur,I,U⟩:=h.row;refine⟨⟨no,nn,nc,(hg.block pb (dK J) (λe=>gz ho e.symm J zp)).trans J,gy hn hg ?_⟩,⟨cur,(hg.block g (dK I) (λe=>gz ho e.symm I zp)).trans I,U⟩,h.le,h.capLe,h.len,h.lt,h.fe,h.ok,h.gB,h.pB,UP h.hB hg.size,h.nm⟩;cases hob:(xa no nn nc).ownBlock with
 |none=>simp
 |some k=>
  refine QY (λe=>?_);obtain⟨_,c,m,hk⟩:=rE hn hob
  grind[gz]
theorem KQ.row{base:Nat}{v:Ud}(ho:w.ownsRow base 205 6 v n xs)(hg:w.grownBy w' v.ownBlock):KQ w w':=
 KQ.grown hg (λk e=>by
  obtain⟨_,c,m,hk⟩:=rE ho e
  grind[sj])
def uG(h:w.grownBy w1 (some pb)){row:Ua}(hg:w1.grownBy w2 row)(hr:∀k,row=some k->w.heap.size<=k):w.grownBy w2 (some pb):=
 ⟨hg.os.trans h.os,hg.tape.trans h.tape,hg.output.trans h.output,UP h.size hg.size,λk J I=>(hg.block k (Uw J h.size) (λe=>by have:=hr k e.symm;omega)).trans (h.block k J I)⟩
def GD{g:Nat}(h:PP w pb g cap B L 0 false 0 NM):
  Calls prog 114 #[xk (TT pb)] w λe w'=>OE L pb g cap w w' e:=by
 obtain⟨i0,hi,hz0,hz1,hz2⟩:=Uk Tryz.infoTokP;obtain⟨m0,bq,aG,aH,aI⟩:=Uk Tryz.infoRs;have hp0:=h.pLt;have hnm0:=h.nm rfl;have a8:=h.len;obtain⟨t0,r0,aT⟩:=lB h.fe h.lt;obtain⟨j0,b0,q0,bt⟩:=oS (t0.k=4) t0 L.length 0 false 0;have bD:=bt.lt h.fe aT (λe=>zo);obtain⟨v,r1,hv⟩:=lB h.fe bD;obtain⟨j1,b1,q1,aS⟩:=oS (v.k=2) v L.length j0 b0 q0;have hj1:=aS.lt h.fe hv (λe=>zo);have HACT:=FV h.fe a8 aT bt hv aS;have HP:=h;have bS:=fy aT;have HV:=fy hv;have aj:=h.fe;clear h aT hv;go_in;go_wp2_with fail;refine(jU 4 _ pb g cap B L 0 false 0 NM t0 r0 ((HP.alloc _).alloc _) bS.out zp j0 b0 q0 bt).mono ?_;rintro e W2 ⟨rfl,ak⟩;have HM2:=fy ((((Mv.refl w pb g cap L.length 0 false 0).alloc _).alloc _).trans ak);have aB:=fy (HP.move HM2.out bD (λ_=>zo));have hsb:=(ak.gr.block (w.heap.size+1) zp zs).trans (gu zp);have hrb:=(ak.gr.block w.heap.size zs zs).trans ((XD zp).trans (gi _ _));have ad:=dK hsb;have bm:=fy hsb;have bl:=fy hrb;unfold k9 at hsb;have bc:=EQ hsb;have ao:Hid (W2.ownsRow w.heap.size 201 3 TV 0 (gM [])):=XG;have an:(TV).ownBlock≠some pb:=by intro e;cases e
 clear ak hsb hrb;simp only[jm]
 go_upto_region 3 with fail
 go_cut [] (λwc=>MA w wc pb g cap L [v] j1 b1 q1/\oQ L ((PL L 0).length-1) [v] j1 b1 q1)
 case first=>
  refine U9 zk ?_;change wpAny _ _ _ _ _ _ _ (Rs _);apply zt0 0 (xk (TT (w.heap.size+1)));apply zt0 2 (xk (TT pb));refine zr2 1 3 (λK hK=>?_) λK hK=>?_
  .go_simp;refine hK _ _ ?_;clear hK K;apply zr 3;intro K hK;go_simp
   go_wp2_with (refine(jU 2 _ pb g cap B L j0 b0 q0 NM v r1 (aB.out.later (XF).drew) HV.out zp j1 b1 q1 aS).mono ?_;rintro e w3 ⟨rfl,I⟩)
   have HM3:=I.from_drew;have hsb3:=(I.gr.block (w.heap.size+1) ad zs).trans bm.out;have hrb3:=(I.gr.block w.heap.size (by show w.heap.size<W2.heap.size;omega) zs).trans bl.out;have hown3:=gy ao.out I.from_drew.gr (QY an);have hsb3l:=dK hsb3;unfold k9 at hsb3;clear I bc;simp only[jm];apply zS 4;apply zr 5;intro K hK;refine UB _ zf _ _ 125 zf w.heap.size 201 i0 (.agg #[xd xh 0,xj ⟨#[]⟩,xd xh 0]) 3 32 underlying125 hi hz0 hz1 hz2 rfl zp TV 0 (gM []) zf ?c0 (TU w3.heap.size 0) 1 1 [xd xh v.k,xj v.s,xd xh v.p] zf rfl ?c1 ?c2 zp ?c3 ?c4 ?c5 (w3.heap.size+1) zp ?_
   case c0=>exact hown3.alloc _
   case c1=>
    intro j u hj
    match j,hj with
    |0,hj=>simp at hj;subst hj;simp[Ra]
    |1,hj=>simp at hj;subst hj;simp[Ra]
    |2,hj=>simp at hj;subst hj;simp[Ra]
    |j+3,hj=>simp at hj
   case c2=>intro u hu;simp at hu;rcases hu with rfl|rfl|rfl<;>rfl
   case c3=>decide
   case c4=>omega
   case c5=>simp;omega
   intro g4 cap4 w4 hown4 hgrow4 hat4 hlt4;have hsb4:=(hgrow4.block (w.heap.size+1) zs (λe=>gz hown3 e.symm hsb3 zp)).trans ((XD hsb3l).trans hsb3);have hrb4:=(hgrow4.block w.heap.size zs (λe=>gz hown3 e.symm hrb3 zp)).trans ((XD zo).trans hrb3);unfold k9 at hsb4;have bc4:=EQ hsb4;have bf4:=gh hsb4;refine hK _ _ ?_;clear hK K;apply zt0 6 (xk (TT (w.heap.size+1)));apply zS 7;refine Vg zk ?_ _;go_wp2_with fail
   go_meet
   refine⟨?_,HACT⟩;exact⟨(XE zp).trans hrb4,⟨TT g4,0+1,cap4,gj hsb4 0 _,gy hown4 (gp _ _ _ _) (QY (λe=>gz hown4 e hsb4 zp))⟩,(((HM2.out.trans HM3).alloc _).row hgrow4 (λk e=>(gJ hown3 k e).1) hp0).setNew zo hp0 _ _,hj1⟩
  .go_simp
   go_wp2_with (refine(jU 2 _ pb g cap B L j0 b0 q0 NM v r1 (aB.out.later (XF).drew) HV.out zp j1 b1 q1 aS).mono ?_;rintro e w3 ⟨rfl,I⟩)
   have HM3:=I.from_drew;have hsb3:=(I.gr.block (w.heap.size+1) ad zs).trans bm.out;have hrb3:=(I.gr.block w.heap.size (by show w.heap.size<W2.heap.size;omega) zs).trans bl.out;have hown3:=gy ao.out I.from_drew.gr (QY an);have hsb3l:=dK hsb3;unfold k9 at hsb3;have bc3:=EQ hsb3;clear I bc;simp only[jm];refine zr2 1 4 (λK hK=>?_) λK hK=>?_
   .go_simp;refine hK _ _ ?_;clear hK K;apply zS 4;exact zm13
   go_simp;refine hK _ _ ?_;clear hK K;apply zS 1;exact zm13
 have aV:=fy hcut;clear hcut bc ao an bm bl HM2 aB ad;go_wp2
 go_loopg [] ((PL L 0).length-1) (λm wr=>∃A j b q,MA w wr pb g cap L A j b q/\oQ L m A j b q)
 .exact⟨_,_,_,_,aV.out⟩
 clear aV;obtain⟨A,j,b,q,ae,ax⟩:=hrel;obtain⟨y,r2,hy⟩:=lB aj ae.lt;have aO:=HP.move ae.mv ae.lt (λ_=>zo);have HY:=fy hy;by_cases h20:y.k=20
 .have a7:=aj.nextLt hy zo;obtain⟨v,r3,hv⟩:=lB aj a7;obtain⟨j2,b2,q2,av⟩:=oS (v.k=2) v L.length (j+1) b q;have hj2:=av.lt aj hv (λe=>zo);obtain⟨hgk,hA,hact2⟩:=FW aj ax hy h20 hv av;have HV:=fy hv;have aM:=fy h20;clear ax hy h20 hv;go_wp2_with fail;refine(oG aO HY.out aM.out zp).mono ?_;rintro e W2 ⟨rfl,ak⟩;have HM2:=ae.mv.trans ak;have aB:=HP.move HM2 a7 (λ_=>zo);obtain⟨o1,n1,k1,ar,ag⟩:=ae.sbx;have hsb:=(ak.gr.block (w.heap.size+1) (dK ar) zs).trans ar;have hrb:=(ak.gr.block w.heap.size (dK ae.rbx) zs).trans ae.rbx;have an:=rF ag hp0;have ao:=gy ag ak.gr (QY an);have ad:=dK hsb;unfold k9 at hsb;have bc:=EQ hsb;clear ak ar ag
  go_upto_region 5 with fail
  refine U9 zk ?_;change wpAny _ _ _ _ _ _ _ (Rs _);apply zt0 0 (xk (TT (w.heap.size+1)));apply zt0 2 (xk (TT pb));refine zr2 1 3 (λK hK=>?_) λK hK=>?_
  .go_simp;refine hK _ _ ?_;clear hK K;apply zr 3;intro K hK;go_simp
   go_wp2_with (refine(jU 2 _ pb g cap B L (j+1) b q NM v r3 (aB.later (XF).drew) HV.out zp j2 b2 q2 av).mono ?_;rintro e w3 ⟨rfl,I⟩)
   have HM3:=I.from_drew;have hsb3:=(I.gr.block (w.heap.size+1) ad zs).trans hsb;have hrb3:=(I.gr.block w.heap.size (by show w.heap.size<W2.heap.size;omega) zs).trans hrb;have hown3:=gy ao I.from_drew.gr (QY an);have hsb3l:=dK hsb3;unfold k9 at hsb3;clear I bc;simp only[jm];apply zS 4;apply zr 5;intro K hK;refine UB _ zf _ _ 125 zf w.heap.size 201 i0 (.agg #[xd xh 0,xj ⟨#[]⟩,xd xh 0]) 3 32 underlying125 hi hz0 hz1 hz2 rfl zp (xa o1 n1 k1) A.length (gM A) zf ?c0 (TU w3.heap.size 0) 1 1 [xd xh v.k,xj v.s,xd xh v.p] zf rfl ?c1 ?c2 zp ?c3 ?c4 ?c5 (w3.heap.size+1) zp ?_
   case c0=>exact hown3.alloc _
   case c1=>
    intro j u hj
    match j,hj with
    |0,hj=>simp at hj;subst hj;simp[Ra]
    |1,hj=>simp at hj;subst hj;simp[Ra]
    |2,hj=>simp at hj;subst hj;simp[Ra]
    |j+3,hj=>simp at hj
   case c2=>intro u hu;simp at hu;rcases hu with rfl|rfl|rfl<;>rfl
   case c3=>unfold maxLen;omega
   case c4=>omega
   case c5=>simp;omega
   intro g4 cap4 w4 hown4 hgrow4 hat4 hlt4;have hsb4:=(hgrow4.block (w.heap.size+1) zs (λe=>gz hown3 e.symm hsb3 zp)).trans ((XD hsb3l).trans hsb3);have hrb4:=(hgrow4.block w.heap.size zs (λe=>gz hown3 e.symm hrb3 zp)).trans ((XD zo).trans hrb3);unfold k9 at hsb4;have bc4:=EQ hsb4;have bf4:=gh hsb4;refine hK _ _ ?_;clear hK K;apply zt0 6 (xk (TT (w.heap.size+1)));apply zS 7;refine Vg zk ?_ _;go_wp2_with fail
   go_roundg (gk-1)
   case measure=>omega
   refine⟨A++[v],j2,b2,q2,?_,hact2⟩;refine⟨(XE zp).trans hrb4,⟨TT g4,A.length+1,cap4,gj hsb4 0 _,?_⟩,(((HM2.trans HM3).alloc _).row hgrow4 (λk e=>(gJ hown3 k e).1) hp0).setNew zo hp0 _ _,hj2⟩;rw[mP,Ur];exact gy hown4 (gp _ _ _ _) (QY (λe=>gz hown4 e hsb4 zp))
  go_simp
  go_wp2_with (refine(jU 2 _ pb g cap B L (j+1) b q NM v r3 (aB.later (XF).drew) HV.out zp j2 b2 q2 av).mono ?_;rintro e w3 ⟨rfl,I⟩)
  have HM3:=I.from_drew;have hsb3:=(I.gr.block (w.heap.size+1) ad zs).trans hsb;have hrb3:=(I.gr.block w.heap.size (by show w.heap.size<W2.heap.size;omega) zs).trans hrb;have hown3:=gy ao I.from_drew.gr (QY an);have hsb3l:=dK hsb3;unfold k9 at hsb3;have bc3:=EQ hsb3;clear I bc;simp only[jm];refine zr2 1 4 (λK hK=>?_) λK hK=>?_
  .go_simp;refine hK _ _ ?_;clear hK K;apply zS 4;exact zm12
  go_simp;refine hK _ _ ?_;clear hK K;apply zS 1;exact zm12
 have aW:=fy (Kd ax hy h20);have aM:=fy h20;obtain⟨j2,b2,q2,av⟩:=oS (y.k=21) y L.length j b q;have hj2:=av.lt aj hy (λe=>zo);have aX:=I6 aj a8 aW.out hy av;clear ax hy h20;go_wp2_with fail;refine(pN aO HY.out aM.out).mono ?_;rintro e w2 ⟨rfl,bM⟩;have bV:=bM.symm;clear bM;subst bV;go_wp2_with fail;refine(jU 21 _ pb g cap B L j b q NM y r2 aO HY.out zp j2 b2 q2 av).mono ?_;rintro e w5 ⟨rfl,aC⟩;have aA:MB w w5 pb g cap L A [] j2 b2 q2:=by
  obtain⟨o1,n1,k1,ar,ag⟩:=ae.sbx;exact⟨(aC.gr.block w.heap.size (dK ae.rbx) zs).trans ae.rbx,⟨o1,n1,k1,none,0,0,0,[],(aC.gr.block (w.heap.size+1) (dK ar) zs).trans ar,XG,λ_=>⟨gy ag aC.gr (QY (rF ag hp0)),rfl,rfl⟩⟩,ae.mv.gr.trans aC.gr,B,NM,HP.move (ae.mv.trans aC) hj2 (λ_=>zo)⟩
 clear aC;simp only[jm];go_wp2
 go_loopg [] (PL L j).length (λm wr=>∃al rs j b q,MB w wr pb g cap L al rs j b q/\pS L m al rs j b q)
 .exact⟨_,_,_,_,_,aA,aX⟩
 clear aA aX ae aO HY aW aM av hj2;obtain⟨al,rs,j,b,q,hmb,ay⟩:=hrel;obtain⟨B2,bA,J⟩:=hmb.pp;obtain⟨t,r,ht⟩:=lB aj J.lt;have aP:=fy ht;have aN:=hmb.gr;by_cases h5:t.k=5
 .obtain⟨hb,hq,hrl,m',hmm,hlr,hlm,bF⟩:=Lb aj ay ht h5;subst hb hq;obtain⟨o1,n1,k1,o2,n2,k2,nR,cells,hsb,aq,ai⟩:=hmb.sbx;obtain⟨aw,br,aR⟩:=ai rfl;subst br;have hrb:=hmb.rbx;have an:=rF aq hp0;have bd:=rF aw hp0;have e5:=nv (c:=5) h5;have ba:gk-1=m':=zo;have HMR:=fy bF;have H5:=fy h5;have ad:=dK hsb;unfold k9 at hsb;have bc:=EQ hsb;have hmm:=ba;clear hmb ay ht h5 bF ai ba
  go_wp2_with (refine(jk J aP.out).mono ?_;rintro e W2 ⟨rfl,aF⟩;have bo:=aF.symm;clear aF;subst bo)
  generalize wr=W2 at *;refine U9 zk ?_;change wpAny _ _ _ _ _ _ _ (Rs _);apply zt0 0 (xk (some (TU (w.heap.size+1) 1)));apply zt0 2 (xk (TT pb));refine zr2 1 3 (λK hK=>?_) λK hK=>?_
  .go_simp;refine hK _ _ ?_;clear hK K;apply zr 3;intro K hK;go_simp
   go_wp2_with (refine(AP (J.later (XF).drew) aP.out H5.out).mono ?_;rintro e w3 ⟨au,fp,no,nn,nc,cp,rfl,aJ⟩)
   have U:=nY au;have HX3:=fy aJ;have hsb3:=(au.block (w.heap.size+1) ad zs).trans hsb;have hrb3:=(au.block w.heap.size (by show w.heap.size<W2.heap.size;omega) zs).trans hrb;have hown3:=gy aq U (QY an);have HACT3:=fy (gy aw U (QY bd));have HRU3:=fy (aR.keep (J.kq U));have hsb3l:=dK hsb3;unfold k9 at hsb3;clear au bc aJ;apply zS 4;apply zr 5;intro K hK;refine UB _ zf _ _ 126 zf w.heap.size 205 m0 (.agg #[xd xh 0,xj ⟨#[]⟩,xd xh 0,xk none,TV,xk none]) 6 72 underlying126 bq aG aH aI rfl zp (xa o2 n2 k2) rs.length cells zf ?c0 (TU w3.heap.size 0) 1 1 [xd xh t.k,xj t.s,xd xh t.p,xk fp,xa no nn nc,xk cp] zf rfl ?c1 ?c2 zp ?c3 ?c4 ?c5 (w3.heap.size+1) zp ?_
   case c0=>exact hown3.alloc _
   case c1=>
    intro j u hj
    match j,hj with
    |0,hj=>simp at hj;subst hj;simp[Ra]
    |1,hj=>simp at hj;subst hj;simp[Ra]
    |2,hj=>simp at hj;subst hj;simp[Ra]
    |3,hj=>simp at hj;subst hj;simp[Ra]
    |4,hj=>simp at hj;subst hj;simp[Ra]
    |5,hj=>simp at hj;subst hj;simp[Ra]
    |j+6,hj=>trivial
   case c2=>intro u hu;simp at hu;rcases hu with rfl|rfl|rfl|rfl|rfl|rfl<;>rfl
   case c3=>unfold maxLen;omega
   case c4=>omega
   case c5=>simp;omega
   intro g4 cap4 w4 hown4 hgrow4 hat4 hlt4;have hsb4:=(hgrow4.block (w.heap.size+1) zs (λe=>gz hown3 e.symm hsb3 zp)).trans ((XD hsb3l).trans hsb3);have hrb4:=(hgrow4.block w.heap.size zs (λe=>gz hown3 e.symm hrb3 zp)).trans ((XD zo).trans hrb3);have hkq4:=(KQ.below gC).trans (KQ.row (hown3.alloc _) hgrow4);have HPR:=fy (λ(B:Nat)(j:Nat)(b:Bool)(q:Nat)(NM:TY)(h:PP w3 pb g cap B L j b q NM)=>PP.row' (h.alloc _) (hown3.alloc _) hgrow4);have HG4:=uG (gL (aN.trans U)) hgrow4 (λk e=>(gJ hown3 k e).1);have HSB4:=fy hsb4;unfold k9 at hsb4;have bc4:=EQ hsb4;have bf4:=gh hsb4;refine hK _ _ ?_;clear hK K hgrow4 hsb4;exact zm6
  go_simp
  go_wp2_with (refine(AP (J.later (XF).drew) aP.out H5.out).mono ?_;rintro e w3 ⟨au,fp,no,nn,nc,cp,rfl,aJ⟩)
  have U:=nY au;have HX3:=fy aJ;have hsb3:=(au.block (w.heap.size+1) ad zs).trans hsb;have hrb3:=(au.block w.heap.size (by show w.heap.size<W2.heap.size;omega) zs).trans hrb;have hown3:=gy aq U (QY an);have HACT3:=fy (gy aw U (QY bd));have HRU3:=fy (aR.keep (J.kq U));have hsb3l:=dK hsb3;unfold k9 at hsb3;have bc3:=EQ hsb3;clear au bc aJ;refine zr2 1 4 (λK hK=>?_) λK hK=>?_
  .go_simp;refine hK _ _ ?_;clear hK K;apply zS 4;apply zr 5;intro K hK;refine UB _ zf _ _ 126 zf w.heap.size 205 m0 (.agg #[xd xh 0,xj ⟨#[]⟩,xd xh 0,xk none,TV,xk none]) 6 72 underlying126 bq aG aH aI rfl zp (xa o2 n2 k2) rs.length cells zf ?c0 (TU w3.heap.size 0) 1 1 [xd xh t.k,xj t.s,xd xh t.p,xk fp,xa no nn nc,xk cp] zf rfl ?c1 ?c2 zp ?c3 ?c4 ?c5 (w3.heap.size+1) zp ?_
   case c0=>exact hown3.alloc _
   case c1=>
    intro j u hj
    match j,hj with
    |0,hj=>simp at hj;subst hj;simp[Ra]
    |1,hj=>simp at hj;subst hj;simp[Ra]
    |2,hj=>simp at hj;subst hj;simp[Ra]
    |3,hj=>simp at hj;subst hj;simp[Ra]
    |4,hj=>simp at hj;subst hj;simp[Ra]
    |5,hj=>simp at hj;subst hj;simp[Ra]
    |j+6,hj=>trivial
   case c2=>intro u hu;simp at hu;rcases hu with rfl|rfl|rfl|rfl|rfl|rfl<;>rfl
   case c3=>unfold maxLen;omega
   case c4=>omega
   case c5=>simp;omega
   intro g4 cap4 w4 hown4 hgrow4 hat4 hlt4;have hsb4:=(hgrow4.block (w.heap.size+1) zs (λe=>gz hown3 e.symm hsb3 zp)).trans ((XD hsb3l).trans hsb3);have hrb4:=(hgrow4.block w.heap.size zs (λe=>gz hown3 e.symm hrb3 zp)).trans ((XD zo).trans hrb3);have hkq4:=(KQ.below gC).trans (KQ.row (hown3.alloc _) hgrow4);have HPR:=fy (λ(B:Nat)(j:Nat)(b:Bool)(q:Nat)(NM:TY)(h:PP w3 pb g cap B L j b q NM)=>PP.row' (h.alloc _) (hown3.alloc _) hgrow4);have HG4:=uG (gL (aN.trans U)) hgrow4 (λk e=>(gJ hown3 k e).1);have HSB4:=fy hsb4;unfold k9 at hsb4;have bc4:=EQ hsb4;have bf4:=gh hsb4;refine hK _ _ ?_;clear hK K hgrow4 hsb4 bc3;exact zm6
  go_simp;refine hK _ _ ?_;clear hK K;apply zS 1;apply zr 5;intro K hK;refine UB _ zf _ _ 126 zf w.heap.size 205 m0 (.agg #[xd xh 0,xj ⟨#[]⟩,xd xh 0,xk none,TV,xk none]) 6 72 underlying126 bq aG aH aI rfl zp (xa o2 n2 k2) rs.length cells zf ?c0 (TU w3.heap.size 0) 1 1 [xd xh t.k,xj t.s,xd xh t.p,xk fp,xa no nn nc,xk cp] zf rfl ?c1 ?c2 zp ?c3 ?c4 ?c5 (w3.heap.size+1) zp ?_
  case c0=>exact hown3.alloc _
  case c1=>
   intro j u hj
   match j,hj with
   |0,hj=>simp at hj;subst hj;simp[Ra]
   |1,hj=>simp at hj;subst hj;simp[Ra]
   |2,hj=>simp at hj;subst hj;simp[Ra]
   |3,hj=>simp at hj;subst hj;simp[Ra]
   |4,hj=>simp at hj;subst hj;simp[Ra]
   |5,hj=>simp at hj;subst hj;simp[Ra]
   |j+6,hj=>trivial
  case c2=>intro u hu;simp at hu;rcases hu with rfl|rfl|rfl|rfl|rfl|rfl<;>rfl
  case c3=>unfold maxLen;omega
  case c4=>omega
  case c5=>simp;omega
  intro g4 cap4 w4 hown4 hgrow4 hat4 hlt4;have hsb4:=(hgrow4.block (w.heap.size+1) zs (λe=>gz hown3 e.symm hsb3 zp)).trans ((XD hsb3l).trans hsb3);have hrb4:=(hgrow4.block w.heap.size zs (λe=>gz hown3 e.symm hrb3 zp)).trans ((XD zo).trans hrb3);have hkq4:=(KQ.below gC).trans (KQ.row (hown3.alloc _) hgrow4);have HPR:=fy (λ(B:Nat)(j:Nat)(b:Bool)(q:Nat)(NM:TY)(h:PP w3 pb g cap B L j b q NM)=>PP.row' (h.alloc _) (hown3.alloc _) hgrow4);have HG4:=uG (gL (aN.trans U)) hgrow4 (λk e=>(gJ hown3 k e).1);have HSB4:=fy hsb4;unfold k9 at hsb4;have bc4:=EQ hsb4;have bf4:=gh hsb4;refine hK _ _ ?_;clear hK K hgrow4 hsb4 bc3;exact zm6
 have e5:=iL (c:=5) h5;have aY:=NL aj ay ht h5;obtain⟨j',b',q',hT,bT,bG,bC,bB⟩:∃j' b' q',(Calls prog 153 #[xk (TT pb),xd xh 0] wr λe w'=>e=xm (jm t)/\Mv wr w' pb g cap L.length j b q j' b' q')/\j'<L.length/\(b'=false->bA.length<=j')/\(b'=false->b=false/\ie (PL L 0)=.ok (al,rs))/\(b'=true->ie (PL L 0)=.error q'):=by
  rcases aY with⟨h0,hb,hx⟩|⟨h0,hb,hq,hx⟩|⟨h0,hb,hx⟩
  .exact⟨j,b,q,AQ J ht h0,J.lt,λe=>J.nm e,λe=>⟨hb,hx⟩,λe=>by rw[hb] at e;cases e⟩
  .subst hb hq;exact⟨L.length-1,true,t.p,rH J ht h0,zo,λe=>(by cases e),λe=>(by cases e),λ_=>hx⟩
  exact⟨j,b,q,AQ J ht h0,J.lt,λe=>J.nm e,λe=>(by rw[hb] at e;cases e),λ_=>hx⟩
 obtain⟨o1,n1,k1,o2,n2,k2,nR,cells,hsb,aq,ai⟩:=hmb.sbx;have hrb:=hmb.rbx;have bR:=fy bG;have bQ:=fy bC;have bP:=fy bB;have bj:=fy ai;clear hmb ay ht h5 aY bG bC bB ai
 go_wp2_with (refine(jk J aP.out).mono ?_;rintro e W2 ⟨rfl,aF⟩;have bo:=aF.symm;clear aF;subst bo)
 refine hT.mono ?_;rintro e w6 ⟨rfl,aD⟩;have az:=(aD.gr.block (w.heap.size+1) (dK hsb) zs).trans hsb;have aa:=(aD.gr.block w.heap.size (dK hrb) zs).trans hrb;unfold k9 at az aa;have sc:=EQ az;have rc:=EQ aa;have rf:=gh aa;have hsl6:=dK az;clear az hT;simp only[jm];go_wp2_with fail;have a6:((w6.setCell (TU w.heap.size 0) (xa o1 n1 k1)).setCell (TU w.heap.size 1) (xa o2 n2 k2)).heap[w.heap.size]?=some (k9 o1 n1 k1 o2 n2 k2):=gj (gj aa 0 _) 1 _;unfold k9 at a6;have bX:=EQ a6;clear rc;refine py (v:=.agg #[xa o1 n1 k1,xa o2 n2 k2]) (by simp[results,results114,go_sem,bX]) rfl ?_;have bI:=J.move aD bT bR.out;have bJ:=(bI.setTy aa zp zp 0 (xa o1 n1 k1)).setTy (gj aa 0 (xa o1 n1 k1)) zp zp 1 (xa o2 n2 k2);have bE:=(J.kq aD.gr).trans ((KQ.set aa zp zp zp 0 (xa o1 n1 k1)).trans (KQ.set (gj aa 0 (xa o1 n1 k1)) zp zp zp 1 (xa o2 n2 k2)));have bf:=gy aq aD.gr (QY (rF aq hp0));have bH:=λe=>gz bf e aa zp
 have bK:=gy (gy bf (gp w6 w.heap.size 0 (xa o1 n1 k1)) (QY bH)) (gp _ w.heap.size 1 (xa o2 n2 k2)) (QY bH);refine⟨gD (gD (aN.trans aD.gr) (XH) _ _) (XH) _ _,o1,n1,k1,o2,n2,k2,b',q',rfl,⟨B2,j',bA,bJ⟩,?_⟩;cases hb':b' with
 |true=>exact QY ⟨rfl,bP.out hb'⟩
 |false=>
  obtain⟨hb,hx⟩:=bQ.out hb';obtain⟨ha,br,aR⟩:=bj.out hb;subst br;exact Rf ⟨rfl,al,rs,cells,hx,im (bE.owns ha) (Ux),im bK (Ux),aR.keep bE⟩
def OG(l : TY)(w w' : Uc)(e : Ending) : Prop :=
  XL w w' /\∃ o1 n1 k1 o2 n2 k2,
    ((∃ al rs cells q,e =xm (.tuple #[.agg #[xa o1 n1 k1,xa o2 n2 k2],xd xh q,xn true]) /\ ie l = .ok (al,rs) /\ w'.ownsRow 0 201 3 (xa o1 n1 k1) al.length (gM al) /\ w'.ownsRow 0 205 6 (xa o2 n2 k2) rs.length cells /\ Q8 w' rs cells) \/
     (∃ q : Nat,e =xm (.tuple #[.agg #[xa o1 n1 k1,xa o2 n2 k2],xd xh q,xn false]) /\ ie l = .error q))
def Jf(s:Ub)(w:Uc)(hs:s.size<=400)(hG:GV w):
  Calls prog 69 #[xj s] w λe w'=>OG (jr s (s.size+1) 0) w w' e:=by
 have ak:=E4 s (s.size+1) 0 (Ux) zo;have aq:=E5 s (s.size+1) 0 (Ux);have hlen:=CU s (s.size+1) 0 (Ux);have ag:=Kv s (s.size+1) 0;have aC:=fy (λw hG=>LJ s w hs hG);generalize ly s (s.size+1) 0=L at *;rw[<-ag];have av:Te L=PL L 0:=rfl;rw[av];clear av ag;have az:=fy aq;clear aq;go_in;go_wp2_with fail;refine(aC.out _ (hG.alloc _)).mono ?_;rintro e w1 ⟨v1,rfl,an,aa⟩;obtain⟨aJ,h1|⟨g,cap,cur,aL,aH,J,ar,ae,aG,U⟩⟩:=an
 .exact absurd h1.2 (by intro e;have:=ak.ne;simp_all)
 subst aL;have aI:=dK J;have aA:Hid (PP (w1.alloc (xi #[xa (TT g) L.length cap,xn false,xd xh 0,TV] 194)) w1.heap.size g cap (w1.heap.size+1) L 0 false 0 []):=by
  have hL:=List.length_pos_iff.2 ak.ne;refine⟨⟨none,0,0,?_,XG⟩,⟨cur,(XD aI).trans J,U⟩,ar,ae,zo,hL,ak,λt ht=>?_,zo,zo,zp,λ_=>XH⟩
  .rw[gi];simp
  obtain⟨h1,h2,h3⟩:=az.out t ht;exact⟨h1,zo,zo⟩
 have aM:w.heap.size<w1.heap.size:=by have:=aa.size;simp at this;omega
 have aB:=show w1.heap[w.heap.size]?=some (k9 none 0 0 none 0 0) from(aa.block _ zp).trans (gi _ _)
 have ax:=((Uo w.heap.size w).alloc (XH) (k9 none 0 0 none 0 0)).trans (aa.mono zp);clear aa J U aG ar ae aJ aH;go_wp2_with fail;refine(GD aA.out).mono ?_;rintro e w2 ⟨ad,o1,n1,k1,o2,n2,k2,b,q,rfl,⟨B,j,NM,aK⟩,aw⟩;have aD:=fy aw;have ay:=su (ax.alloc zo _) ad zo;have I:=(ad.block w.heap.size zs zs).trans ((XD aM).trans aB);have hz2:w1.heap.size<w2.heap.size:=by have:=ad.size;simp at this;omega
 obtain⟨no,nn,nc,aj,_⟩:=aK.blk;have bc:=EQ aj;have aN:w.heap.size<w2.heap.size:=zo;unfold k9 at I;have rc:=EQ I;have rf:=gh I;clear ad aw aj;go_wp2_with fail
 go_region
 go_wp2_with fail;have ai:((w2.setCell (TU w.heap.size 0) (xa o1 n1 k1)).setCell (TU w.heap.size 1) (xa o2 n2 k2)).heap[w.heap.size]?=some (k9 o1 n1 k1 o2 n2 k2):=gj (gj I 0 _) 1 _;unfold k9 at ai;have aO:=EQ ai;clear rc;refine py (v:=.tuple #[.agg #[xa o1 n1 k1,xa o2 n2 k2],xd xh q,xn !b]) (by simp[results,results69,go_sem,aO,aN]) rfl ?_;refine⟨(((ay.setCell (XH) _).setCell (XH) _).alloc (by simp[Rp];omega) _).drew,o1,n1,k1,o2,n2,k2,?_⟩;have hk:=((KQ.set I zp zp zp 0 (xa o1 n1 k1)).trans (KQ.set (gj I 0 (xa o1 n1 k1)) zp zp zp 1 (xa o2 n2 k2))).trans (KQ.below ((XF).alloc (XH) (xi #[xa o1 n1 k1,xa o2 n2 k2] 128)).drew);rcases aD.out with⟨rfl,al,rs,cells,hx,ha,hr,hru⟩|⟨rfl,hx⟩
 .have au:=λe=>gz hr e I zp
  exact Rf ⟨al,rs,cells,q,rfl,hx,hk.owns ha,gq (gy (gy hr (gp w2 w.heap.size 0 (xa o1 n1 k1)) (QY au)) (gp _ w.heap.size 1 (xa o2 n2 k2)) (QY au)) gC.drew,hru.keep hk⟩
 simp_all
def kp(A:TY):TW:=A.map (λt=>xj t.s)
theorem A7(A:TY)(t:Tk):kp (A++[t])=kp A++[xj t.s]:=by simp[kp]
def Og{k:Nat}(h:A.drop k=t::r):(kp A)[k]?=some (xj t.s):=by
 unfold kp;rw[UG];have:A[k]?=some t:=by
  have:=congrArg (λl=>l[0]?) h;simpa using this
 simp_all
theorem Ft{v:Ud}(h:w.ownsRow B 9 1 v A.length (kp A)):(v=TV/\A=[])\/∃g cap,v=xa (TT g) A.length cap/\g<w.heap.size/\A.length<=cap/\cap<=maxLen/\∀k t r,A.drop k=t::r->w.cell? (TU g k)=some (xj t.s):=by
 obtain⟨_,h2|⟨g,cap,cur,hv,_,hh,U,I,_,htake⟩⟩:=h
 .simp_all
 refine QY ⟨g,cap,hv,dK hh,U,I,λk t r J=>?_⟩;have hj:k<A.length:=by
  rcases UU k A.length with h|h
  .omega
  rw[UX h] at J;cases J
 have:=Og J
 grind[EQ]
def Nu{s:Ub}{k:Nat}(h:A.drop k=t::r):iB (A.drop k) s=if t.s.toList=s.toList then true else iB (A.drop (k+1)) s:=by
 rw[h,lG h,iB]
theorem IS(A:TY)(s:Ub)(v:Ud)(B:Nat)(w:Uc)(h:w.ownsRow B 9 1 v A.length (kp A)):
  Calls prog 123 #[v,xj s] w λe w'=>∃z:Int,e=xm (xd xh z)/\decide (0<=z)=iB A s/\w'=w:=by
 rcases Ft h with⟨rfl,rfl⟩|⟨g,cap,rfl,hg,hle,hcap,hc⟩
 .clear h;go_in;go_wp2_with fail
  go_loop [8] (λx=>x=xd xh 0) (λx=>0)
  .rfl
  subst hrel;go_wp2;go_ret;exact⟨-1,rfl,rfl,rfl⟩
 unfold maxLen at hcap;have J:=fy hc;clear h hc;go_in;go_wp2_with fail
 go_loop [8] (λx=>∃k:Nat,k<=A.length/\x=xd xh (k:Int)/\Hid (iB A s=iB (A.drop k) s)) (λx=>A.length-(intOf x).toNat)
 .exact zm65
 obtain⟨k,hk,rfl,H⟩:=hrel;by_cases hlt:k<A.length
 .obtain⟨t,r,I⟩:∃t r,A.drop k=t::r:=by
   cases hd:A.drop k with
   |nil=>have:=congrArg List.length hd;simp at this;omega
   |cons t r=>simp
  have hc:=J.out k t r I;have HA:=fy (Nu (s:=s) I);clear I;go_wp2_with fail
  .have he:t.s.toList=s.toList:=za;go_ret;exact⟨k,rfl,by grind[gQ],rfl⟩
  have he:¬ t.s.toList=s.toList:=by intro e;simp_all
  go_round
  .grind[gQ]
  simp[intOf];omega
 go_wp2;go_ret;refine⟨-1,rfl,?_,rfl⟩;rw[H.out,UX zo];rfl
def qZ{s:Ub}{v:Ud}(h:w.ownsRow B 9 1 v A.length (kp A)):
  Calls prog 77 #[v,xj s] w λe w'=>e=xm (xn (iB A s))/\w'=w:=by
 have J:=IS A s v B w h;clear h;go_in;go_wp2_with fail;refine J.mono ?_;rintro e w1 ⟨z,rfl,I,rfl⟩;have U:=fy I;clear I;go_wp2;go_ret;exact⟨ja U.out,rfl⟩
structure CK(w:Uc)(cb B:Nat)(A:TY)(x:T3):Prop where
 blk:∃ao an ac,w.heap[cb]?=some (xi #[xa ao an ac,xd xh x.1,xd xh x.2] 198 (0,0))/\w.ownsRow B 9 1 (xa ao an ac) A.length (kp A)
 hB:B<=cb
def CK.lt(h:CK w cb B A x):cb<w.heap.size:=by
 obtain⟨_,_,_,I,_⟩:=h.blk;exact dK I
def CK.later(h:CK w cb B A x)(J:XL w w'):CK w' cb B A x:=by
 obtain⟨ao,U,ac,I,h2⟩:=h.blk;exact⟨⟨ao,U,ac,(J.block _ (dK I)).trans I,gq h2 J⟩,h.hB⟩
def CK.alloc(h:CK w cb B A x)(o:Obj):CK (w.alloc o) cb B A x:=h.later gC
structure CF(cb B:Nat)(w w':Uc):Prop where
 os:w'.os=w.os
 tape:w'.tape=w.tape
 output:w'.output=w.output
 size:w.heap.size<=w'.heap.size
 keep:∀k,k<w.heap.size->k≠cb->(k<B\/¬ Q2 w k 9)->w'.heap[k]?=w.heap[k]?
def CF.refl(cb B:Nat)(w:Uc):CF cb B w w:=⟨rfl,rfl,rfl,XH,λ_ _ _ _=>rfl⟩
def CF.trans(h:CF cb B w w1)(I:CF cb B w1 w2):CF cb B w w2:=
 ⟨I.os.trans h.os,I.tape.trans h.tape,I.output.trans h.output,UP h.size I.size,λk J U hc=>by
  have e:=h.keep k J U hc;refine(I.keep k (Uw J h.size) U ?_).trans e;rcases hc with hc|hc
  .omega
  refine QY ?_;rintro⟨c,m,hh⟩;exact hc ⟨c,m,za⟩⟩
def CF.grown(h:w.grownBy w' (some cb)):CF cb B w w':=⟨h.os,h.tape,h.output,h.size,λk I hp _=>h.block k I za⟩
def CF.below(h:XL w w'):CF cb B w w':=CF.grown (gE h _)
theorem CF.row{v:Ud}(I:w.ownsRow B 9 1 v n xs)(h:w.grownBy w' v.ownBlock):CF cb B w w':=
 ⟨h.os,h.tape,h.output,h.size,λk J _ hc=>h.block k J (by
  intro e;have:=rE I e.symm
  grind)⟩
def CF.low(h:CF cb B w w')(hc:B<=cb)(hB:B<=w.heap.size):Below B w w':=⟨h.os,h.tape,h.output,h.size,λk I=>h.keep k zo zo (Rf I)⟩
def CK.told{y:T3}(h:CK w cb B A x)(hg:w.grownBy w' (some cb))(hb:∀J I ac,w.heap[cb]?=some (xi #[xa J I ac,xd xh x.1,xd xh x.2] 198 (0,0))->w'.heap[cb]?=some (xi #[xa J I ac,xd xh y.1,xd xh y.2] 198 (0,0))):CK w' cb B A y:=by
 obtain⟨J,I,ac,U,h2⟩:=h.blk;exact⟨⟨J,I,ac,hb _ _ _ U,gy h2 hg (QY (λe=>gz h2 e U zp))⟩,h.hB⟩
def mG(p e:Nat)(h:CK w cb B A x):
  Calls prog 158 #[xk (TT cb),xd xh (p:Int),xd xh (e:Int)] w λr w'=>r=xm (.tuple #[])/\CK w' cb B A (St x p e)/\w.grownBy w' (some cb):=by
 obtain⟨ao,an,ac,I,_⟩:=h.blk;have bc:=EQ I;have bf:=gh I;have HC:=h;clear h I;by_cases h0:x.2=0
 .have J:((x.2:Int)==0)=true:=nv (c:=0) h0;have HT:Hid (St x p e=(p,e)):=Uh (Rf h0);clear h0;exact zm86
 have J:((x.2:Int)==0)=false:=iL (c:=0) h0;rcases zc p x.1 with⟨hp,hp'⟩|⟨hp,hp'⟩
 .have HT:Hid (St x p e=(p,e)):=Uh (QY hp);clear h0 hp;exact zm86
 have HT:Hid (St x p e=x):=T' zo;clear h0 hp;go_in;go_wp2;go_end0;rw[HT.out];exact⟨rfl,HC,U4 _ _⟩
def JO(x:T3)(p e:Nat):gS x [(p,e)]=St x p e:=rfl
def JN(x:T3):gS x []=x:=rfl
theorem oW(h:CK w cb B A x):
  Calls prog 157 #[xk (TT cb),jm t] w λr w'=>r=xm (.tuple #[])/\CK w' cb B A (gS x (jw t))/\CF cb B w w':=by
 unfold jm;rcases zc 8 t.s.size with⟨hl,hl'⟩|⟨hl,hl'⟩
 .have I:Hid (gS x (jw t)=St x t.p 1):=by show _=_;grind[jw,gS]
  clear hl;go_in;go_wp2_with fail;refine(mG t.p 1 (h.alloc _)).mono ?_;rintro e w1 ⟨rfl,J,U⟩;go_wp2;go_end0;rw[I.out];exact⟨rfl,J,(CF.below gC).trans (CF.grown U)⟩
 have I:Hid (gS x (jw t)=x):=by show _=_;grind[jw,gS]
 clear hl;go_in;go_wp2;go_end0;rw[I.out];exact⟨rfl,h.alloc _,CF.below gC⟩
def Cc{b ty:Nat}{c:T1}(hf:CF cb B w w')(I:w.heap[b]?=some (xi c ty m))(J:ty≠9)(U:b≠cb):w'.heap[b]?=some (xi c ty m):=
 (hf.keep b (dK I) U (QY (sj I J))).trans I
def Tryz.infoStr:(prog.info? 9).map (λi=>(i.zero,i.size,i.bytes))=some (some (xj ⟨#[]⟩),1,16):=zk
theorem sE(h:CK w cb B A x):
  Calls prog 159 #[xk (TT cb),jm t] w λr w'=>r=xm (.tuple #[])/\CK w' cb B A (gS x (iW A t.s t.p))/\CF cb B w w':=by
 have hcl:=h.lt;unfold jm;go_in;go_wp2_with fail;refine(oW (h.alloc _)).mono ?_;rintro e w1 ⟨rfl,I,J⟩;have ad:=Cc J (gi w (xi #[xd xh t.k,xj t.s,xd xh t.p] 201)) zp zo;have xc:=EQ ad;obtain⟨ao,an,ac,aa,aj⟩:=I.blk;have bc:=EQ aa;have U:=(CF.below (cb:=cb) (B:=B) ((Uo w.heap.size w).alloc (XH) _)).trans J;clear J ad aa;go_wp2;go_quiet (first|(refine WS (qZ (gq aj (iK _ _)))));cases hh:iB A t.s with
 |true=>
  have HT:Hid (gS (gS x (jw t)) []=gS x (iW A t.s t.p)):=by show _=_;grind[iO,iW,jw]
  clear hh;go_wp2;go_end0;rw[<-HT.out];exact⟨rfl,I.later (iK _ _),U.trans (CF.below (iK _ _))⟩
 |false=>
  have HT:Hid (St (gS x (jw t)) t.p 3=gS x (iW A t.s t.p)):=by show _=_;unfold iW jw;rw[hh,iO];rfl
  clear hh;go_wp2_with fail;refine(mG t.p 3 (I.later (iK _ _))).mono ?_;rintro e w2 ⟨rfl,ag,ai⟩;go_wp2;go_end0;rw[<-HT.out];exact⟨rfl,ag,(U.trans (CF.below (iK _ _))).trans (CF.grown ai)⟩
def Cf(x:T3)(i:Nat)(t:Tk)(h:CK w cb B A x)(hA:A.length<=401)(hBw:B<=w.heap.size):
  Calls prog 115 #[xk (TT cb),xd xh (i:Int),jm t] w λr w'=>r=xm (.tuple #[])/\CK w' cb B (A++[t]) (gS x (uV A i t))/\CF cb B w w':=by
 obtain⟨i0,hi,hz0,hz1,hz2⟩:=Uk Tryz.infoStr;have HC:=h;have hcl:=h.lt;have hBc:=h.hB;clear h;unfold jm;go_in;go_wp2_with fail;refine(oW (HC.alloc _)).mono ?_;rintro e w1 ⟨rfl,J,ai⟩;have aa:=Cc ai (gi w (xi #[xd xh t.k,xj t.s,xd xh t.p] 201)) zp zo;have xc:=EQ aa;have ax:=dK aa;obtain⟨ao,an,ac,aj,au⟩:=J.blk;have bc:=EQ aj;have hcl1:=J.lt;have ae:=(CF.below (cb:=cb) (B:=B) ((Uo w.heap.size w).alloc (XH) _)).trans ai;clear ai aj;go_wp2;go_quiet (first|(go_at_call 77;refine WS (qZ (gq au (iK _ _)))));clear bc xc
 go_upto_if 15 with fail
 go_cut [] (λwc=>CK wc cb B A (gS (gS x (jw t)) (if iB A t.s=true then [(t.p,3)] else []))/\CF cb B w wc/\wc.heap[w.heap.size]?=some (xi #[xd xh t.k,xj t.s,xd xh t.p] 201 (0,0)))
 case first=>
  have I:=((iK w1 nq).block _ ax).trans aa;have xc:=EQ I;cases hh:iB A t.s with
  |true=>
   have HT:Hid (gS (gS x (jw t)) (if iB A t.s=true then [(t.p,3)] else [])=St (gS x (jw t)) t.p 3):=by show _=_;rw[hh];rfl
   go_wp2_with fail;refine(mG t.p 3 (J.later (iK _ _))).mono ?_;rintro e w2 ⟨rfl,ad,aq⟩;go_wp2_with fail
   go_meet
   rw[HT.out];exact⟨ad,(ae.trans (CF.below (iK _ _))).trans (CF.grown aq),(aq.block _ (dK I) zs).trans I⟩
  |false=>
   have HT:Hid (gS (gS x (jw t)) (if iB A t.s=true then [(t.p,3)] else [])=gS x (jw t)):=by show _=_;rw[hh];rfl
   go_wp2_with fail
   go_meet
   rw[HT.out];exact⟨J.later (iK _ _),ae.trans (CF.below (iK _ _)),I⟩
 obtain⟨ad,ak,I⟩:=hcut;have av:=dK I;clear J au ae aa
 go_upto_if 21 with fail
 go_cut [] (λwc=>CK wc cb B A (gS x (uV A i t))/\CF cb B w wc/\wc.heap[w.heap.size]?=some (xi #[xd xh t.k,xj t.s,xd xh t.p] 201 (0,0)))
 case first=>
  have xc:=EQ I;by_cases h6:6<=i
  .have aw:(6:Int)<=(i:Int):=zo;have HT:Hid (St (gS (gS x (jw t)) (if iB A t.s=true then [(t.p,3)] else [])) t.p 4=gS x (uV A i t)):=by show _=_;unfold uV;rw[Uh h6,iO,iO];rfl
   clear h6;go_wp2_with fail;refine(mG t.p 4 ad).mono ?_;rintro e w2 ⟨rfl,U,ar⟩;go_wp2_with fail
   go_meet
   rw[<-HT.out];exact⟨U,ak.trans (CF.grown ar),(ar.block _ av zs).trans I⟩
  .have aw:¬ (6:Int)<=(i:Int):=zo;have HT:Hid (gS (gS x (jw t)) (if iB A t.s=true then [(t.p,3)] else [])=gS x (uV A i t)):=by show _=_;unfold uV;rw[T' h6,iO,Vo]
   clear h6;go_wp2_with fail
   go_meet
   rw[<-HT.out];trivial
 obtain⟨U,hf3,hbx3⟩:=hcut;obtain⟨bo,bn,bk,hb3,ho3⟩:=U.blk;have bc:=EQ hb3;have bf:=gh hb3;have hcl3:=U.lt;have hxl3:=dK hbx3;have hnc3:(xa bo bn bk).ownBlock≠some cb:=λe=>gz ho3 e hb3 zp
 have hnx3:(xa bo bn bk).ownBlock≠some w.heap.size:=λe=>gz ho3 e hbx3 zp
 clear U ad ak I;generalize wc=w3 at *;go_wp2_with fail;refine R' (S:=λw'=>w'.cell? (TU w.heap.size 1)=some (xj t.s)) zk ?_ (λhHeld=>?_)
 .show w3.drew.cell? _=_;exact EQ hbx3 1
 apply zt1 0 (xk (TT cb)) hHeld;apply zt1 1 (xk (TT cb)) hHeld;apply zt1 2 (xk (TT cb)) hHeld;apply zt1 3 (xk (TT cb)) hHeld;apply zt1 5 (xk (some (TU w.heap.size 1))) hHeld;apply zt1 6 (xj t.s) hHeld;refine zrH2 4 7 (λK hK=>?_) λK hK=>?_
 .go_simp;refine hK.out _ _ hHeld (λhHeld=>?_);clear hK K;apply zrH 7;intro K hK;go_simp;refine hK.out _ _ (by first|exact hHeld|(show(Q' _ _).cell? _=_;rw[XJ hxl3];trivial)) (λhHeld=>?_);clear hK K;exact zm10
 go_simp;refine hK.out _ _ (by first|exact hHeld|(show(Q' _ _).cell? _=_;rw[XJ hxl3];trivial)) (λhHeld=>?_);clear hK K;apply SR 4 hHeld;intro hHeld;exact zm10
def Dz(d:Sp):TW:=[xd xh (d.k:Int),xj d.s,xd xh (d.a:Int),xd xh (d.b:Int)]
def pw(S:List Sp):TW:=S.flatMap Dz
def xP(S:List Sp)(d:Sp):pw (S++[d])=pw S++Dz d:=by simp[pw]
def JB:∀{S:List Sp} {k:Nat} {d:Sp},S[k]?=some d->∀j,j<4->(pw S)[k*4+j]?=(Dz d)[j]?
 |[],k,d,h,j,hj=>zv
 |x::r,0,d,h,j,hj=>by
  simp at h;subst h;show(Dz x++pw r)[0*4+j]? =_;rw[Nat.zero_mul,U2,UJ zv]
 |x::r,k+1,d,h,j,hj=>by
  show(Dz x++pw r)[(k+1)*4+j]? =_;rw[Uv (by show 4<=_;omega),show(k+1)*4+j-(Dz x).length=k*4+j by show(k+1)*4+j-4=_;omega];exact JB zv j hj
def Tryz.infoSp:(prog.info? 319).map (λi=>(i.zero,i.size,i.bytes))=some (some (.agg #[xd xh 0,xj ⟨#[]⟩,xd xh 0,xd xh 0]),4,40):=zk
def rV{base:Nat}{v:Ud}(ho:w.ownsRow base 319 4 v n xs)(hg:w.grownBy w' v.ownBlock)(hf:Pi w f p):Pi w' f p:=
 hf.keep (λb _ _ I=>hg.block b (dK I) (λe=>gz ho e.symm I zp))
def BK(base:Nat)(S':List Sp)(v:Ud)(w w':Uc)(e:Ending):Prop:=
 ∃o' c',e=xm (xa o' S'.length c')/\w'.ownsRow base 319 4 (xa o' S'.length c') S'.length (pw S')/\w.grownBy w' v.ownBlock/\((xa o' S'.length c').ownBlock=v.ownBlock\/∃g,(xa o' S'.length c').ownBlock=some g/\w.heap.size<=g)
def jW{a b c:Uc}(I:a.grownBy b k1)(J:b.grownBy c k2)(h:k2=k1\/∃g,k2=some g/\a.heap.size<=g):a.grownBy c k1:=by
 refine⟨J.os.trans I.os,J.tape.trans I.tape,J.output.trans I.output,UP I.size J.size,λx U hn=>?_⟩;refine(J.block x (Uw U I.size) ?_).trans (I.block x U hn);rcases h with h|⟨g,h,hg⟩
 .simp_all
 rw[h];intro e;cases e;omega
structure Ta(w W:Uc)(base:Nat)(v:Ud)(o:TX)(c:Nat)(T:List Sp)(k:Nat)(s:Ub)(x y:Nat):Prop where
 sb:W.heap[w.heap.size]?=some (xi #[xd xh (k:Int),xj s,xd xh (x:Int),xd xh (y:Int)] 319 (0,0))
 own:W.ownsRow base 319 4 (xa o T.length c) T.length (pw T)
 gr:w.grownBy W v.ownBlock
 at_:(xa o T.length c).ownBlock=v.ownBlock\/∃g,(xa o T.length c).ownBlock=some g/\w.heap.size<g
 vlt:∀k,v.ownBlock=some k->k<w.heap.size
def Ta.ne{base:Nat}{v:Ud}{c:Nat}{T:List Sp}{k:Nat}{s:Ub}{x y:Nat}(h:Ta w W base v o c T k s x y):(xa o T.length c).ownBlock≠some w.heap.size:=by
 rcases h.at_ with e|⟨g,e,hg⟩
 .rw[e];intro I;have:=h.vlt _ I;omega
 rw[e];intro I;simp_all
def Ta.call{base:Nat}{v:Ud}{c:Nat}{T J:List Sp}{k:Nat}{s:Ub}{x y:Nat}(h:Ta w W base v o c T k s x y)(hp:BK base J (xa o T.length c) W w2 e):∃I c',e=xm (xa I J.length c')/\Ta w w2 base v I c' J k s x y:=by
 obtain⟨I,c',he,ho,hg,U⟩:=hp;have aa:=dK h.sb;refine⟨I,c',he,(hg.block _ aa (λe=>h.ne e.symm)).trans h.sb,ho,jW h.gr hg ?_,?_,h.vlt⟩
 .rcases h.at_ with e|⟨g,e,hgg⟩
  .simp_all
  exact QY ⟨g,e,zo⟩
 rcases U with e|⟨g,e,hgg⟩
 .rw[e];exact h.at_
 exact QY ⟨g,e,zo⟩
def Ta.setA{base:Nat}{v:Ud}{c:Nat}{T:List Sp}{k:Nat}{s:Ub}{x y:Nat}(h:Ta w W base v o c T k s x y)(z:Int)(I:Nat)(J:z=(I:Int)):Ta w (W.setCell (TU w.heap.size 2) (xd xh z)) base v o c T k s I y:=by
 subst J;refine⟨gj h.sb 2 _,gy h.own (gp _ _ _ _) (QY h.ne),jW h.gr (gp _ _ _ _) (QY ⟨_,rfl,XH⟩),h.at_,h.vlt⟩
def Ta.setB{base:Nat}{v:Ud}{c:Nat}{T:List Sp}{k:Nat}{s:Ub}{x y:Nat}(h:Ta w W base v o c T k s x y)(z:Int)(I:Nat)(J:z=(I:Int)):Ta w (W.setCell (TU w.heap.size 3) (xd xh z)) base v o c T k s x I:=by
 subst J;refine⟨gj h.sb 3 _,gy h.own (gp _ _ _ _) (QY h.ne),jW h.gr (gp _ _ _ _) (QY ⟨_,rfl,XH⟩),h.at_,h.vlt⟩
def lE:∀(f:Fm)(S:List Sp)(w:Uc)(p:TX)(base:Nat)(vo:TX)(vc:Nat),f≠ .nil->Pi w f p->w.ownsRow base 319 4 (xa vo S.length vc) S.length (pw S)->base<=w.heap.size->S.length+gI f<=100000->
  Calls prog 166 #[xa vo S.length vc,xk p] w λe w'=>BK base (iu f S) (xa vo S.length vc) w w' e
 |.nil,_,_,_,_,_,_,h,_,_,_,_=>absurd rfl h
 |.node u v0 a .nil .nil,S,w,p,base,vo,vc,_,h,ho,hbase,hsz=>by
  obtain⟨i0,az,aB,aC,aD⟩:=Uk Tryz.infoSp;obtain⟨b,pl,pr,rfl,hb,hl,hr⟩:=h;have ao:Hid (iu (.node u v0 a .nil .nil) S=iu .nil (iu .nil S)++[⟨a.1,a.2.1,0,0⟩]):=rfl;have hs:gI (.node u v0 a .nil .nil)=1+gI (.nil:Fm)+gI (.nil:Fm):=rfl;have ag:(iu .nil S).length=S.length+gI (.nil:Fm):=jK _ _;have aL:=Vx ag;have aM:=Vx ag.symm;clear ag;have ai:(iu .nil (iu .nil S)).length=(iu .nil S).length+gI (.nil:Fm):=jK _ _;have aN:=Vx ai;have aO:=Vx ai.symm;clear ai;cases (show pl=none from hl);have aP:gI (.nil:Fm)=0:=rfl;cases (show pr=none from hr);have bc:=EQ hb;have ad:=dK hb;have aw:=gJ ho;have c0:w.cell? (TU b 0)=some (xd xh (a.1:Int)):=bc 0;have c1:w.cell? (TU b 1)=some (xj a.2.1):=bc 1;clear hl hr bc;go_in;go_wp2_with fail;refine R' (S:=λw'=>w'.cell? (TU b 0)=some (xd xh (a.1:Int))/\w'.cell? (TU b 1)=some (xj a.2.1)) zk ?_ (λI=>?_)
  .trivial
  apply zt1 0 (xk (TT b)) I;apply zt1 1 (xk (TT b)) I;apply zt1 2 (xk (TT b)) I;apply zt1 3 (xd xh (a.1:Int)) I;apply zt1 4 (xk (TT b)) I;apply zt1 5 (xk (TT b)) I;apply zt1 6 (xk (some (TU b 1))) I;apply zt1 7 (xj a.2.1) I;apply zt1 8 (.agg #[xd xh (a.1:Int),xj a.2.1,xd xh 0,xd xh 0]) I;apply zrH 9;intro K hK;go_simp;refine hK.out _ _ ⟨by show(Q' _ _).cell? _=_;rw[XJ (by simpa using ad)];exact I.1,by show(Q' _ _).cell? _=_;rw[XJ (by simpa using ad)];exact I.2⟩ (λI=>?_);clear hK K;apply zrH 10;intro K hK;go_simp;refine hK.out _ _ ⟨by show(Q' _ _).cell? _=_;rw[XJ (by simpa using ad)];exact c0,by show(Q' _ _).cell? _=_;rw[XJ (by simpa using ad)];exact c1⟩ (λI=>?_);clear hK K;refine Ut zk ?_ _;clear I;have J:XL w ((w.alloc (xi #[xd xh (a.1:Int),xj a.2.1,xd xh 0,xd xh 0] 319)).drew):=gC.drew;have hA:Ta w ((w.alloc (xi #[xd xh (a.1:Int),xj a.2.1,xd xh 0,xd xh 0] 319)).drew) base (xa vo S.length vc) vo vc S a.1 a.2.1 0 0:=⟨gi _ _,gq ho J,⟨J.os,J.tape,J.output,J.size,λx hx _=>J.block x hx⟩,Rf rfl,λx hx=>(aw x hx).2⟩;generalize (w.alloc (xi #[xd xh (a.1:Int),xj a.2.1,xd xh 0,xd xh 0] 319)).drew=W1 at *;clear J aw c0 c1;have ae:Hid (∀W:Uc,w.grownBy W (xa vo S.length vc).ownBlock->W.heap[b]?=w.heap[b]?):=λW hW=>hW.block b ad (λe=>gz ho e.symm hb zp)
  have bc:=λo=>EQ ((ae.out _ hA.gr).trans hb) o
  have sc:=EQ hA.sb;have av:=dK hA.sb;have aV:base<=W1.heap.size:=zo
  go_wp2_with (at_builtin;go_must (refine Uz _ rfl _ _ 145 rfl base 319 i0 (.agg #[xd xh 0,xj ⟨#[]⟩,xd xh 0,xd xh 0]) 4 40 underlying145 az aB aC aD rfl zd _ S.length (pw S) rfl ?c0 (TU W1.heap.size 0) 1 1 [xd xh (a.1:Int),xj a.2.1,xd xh 0,xd xh 0] rfl rfl ?c1 ?c2 zd ?c3 ?c4 ?c5 (W1.heap.size+1) ?c6 ?_))
  case c0=>exact gq hA.own gC
  case c1=>
   intro j u U
   match j,U with
   |0,U=>simp at U;subst U;exact EQ (gu zf) 0
   |1,U=>simp at U;subst U;exact EQ (gu zf) 1
   |2,U=>simp at U;subst U;exact EQ (gu zf) 2
   |3,U=>simp at U;subst U;exact EQ (gu zf) 3
   |j+4,U=>trivial
  case c2=>intro u hu;simp at hu;rcases hu with rfl|rfl|rfl|rfl<;>rfl
  case c3=>unfold maxLen;omega
  case c4=>omega
  case c5=>simp;omega
  case c6=>simp
  intro g8 cap8 q8 hown aa hat _;have HG8:=jW hA.gr (jW (V9 _ _ _) aa (Rf rfl)) zp;have HO8:Hid (q8.ownsRow base 319 4 (xa (TT g8) (S.length+1) cap8) (S.length+1) (pw (S++[⟨a.1,a.2.1,0,0⟩]))):=by
   have:=hown;show q8.ownsRow _ _ _ _ _ _;rw[xP];exact this
  have HAT:Hid ((xa vo S.length vc).ownBlock=some g8\/w.heap.size<=g8):=by
   rcases hat with e|e
   .rcases hA.at_ with e2|⟨g,e2,hg⟩
    .exact Rf (e2.symm.trans e)
    rw[e2] at e;cases e;exact QY zo
   exact QY zo
  clear hown aa hat;go_wp2;go_ret;have au:iu (.node u v0 a .nil .nil) S=S++[⟨a.1,a.2.1,0,0⟩]:=ao.out;rw[au];have hlen:(S++[(⟨a.1,a.2.1,0,0⟩:Sp)]).length=S.length+1:=zp;exact zm43
 |.node u v0 a (.node lu lv la ll lr) .nil,S,w,p,base,vo,vc,_,h,ho,hbase,hsz=>by
  obtain⟨i0,az,aB,aC,aD⟩:=Uk Tryz.infoSp;obtain⟨b,pl,pr,rfl,hb,hl,hr⟩:=h;have ao:Hid (iu (.node u v0 a (.node lu lv la ll lr) .nil) S=iu .nil (iu (.node lu lv la ll lr) S)++[⟨a.1,a.2.1,(iu (.node lu lv la ll lr) S).length-1,0⟩]):=rfl;have hs:gI (.node u v0 a (.node lu lv la ll lr) .nil)=1+gI ((.node lu lv la ll lr):Fm)+gI (.nil:Fm):=rfl;have ag:(iu (.node lu lv la ll lr) S).length=S.length+gI ((.node lu lv la ll lr):Fm):=jK _ _;have aL:=Vx ag;have aM:=Vx ag.symm;clear ag;have ai:(iu .nil (iu (.node lu lv la ll lr) S)).length=(iu (.node lu lv la ll lr) S).length+gI (.nil:Fm):=jK _ _;have aN:=Vx ai;have aO:=Vx ai.symm;clear ai;have aE:=fy (λW h1 h2 h3 h4=>lE (.node lu lv la ll lr) S W pl base vo vc zp h1 h2 h3 h4);have aP:1<=gI (.node lu lv la ll lr):=by show 1<=1+_+_;omega
  cases (show pr=none from hr);have bd:gI (.nil:Fm)=0:=rfl;generalize hsl:gI ((.node lu lv la ll lr):Fm)=zl at *;generalize hsr:gI (.nil:Fm)=zr at *;obtain⟨bl,bm,bn,aY,bh,_,_⟩:=id hl;subst aY;have bc:=EQ hb;have ad:=dK hb;have aw:=gJ ho;have c0:w.cell? (TU b 0)=some (xd xh (a.1:Int)):=bc 0;have c1:w.cell? (TU b 1)=some (xj a.2.1):=bc 1;clear hr bc;go_in;go_wp2_with fail;refine R' (S:=λw'=>w'.cell? (TU b 0)=some (xd xh (a.1:Int))/\w'.cell? (TU b 1)=some (xj a.2.1)) zk ?_ (λI=>?_)
  .trivial
  apply zt1 0 (xk (TT b)) I;apply zt1 1 (xk (TT b)) I;apply zt1 2 (xk (TT b)) I;apply zt1 3 (xd xh (a.1:Int)) I;apply zt1 4 (xk (TT b)) I;apply zt1 5 (xk (TT b)) I;apply zt1 6 (xk (some (TU b 1))) I;apply zt1 7 (xj a.2.1) I;apply zt1 8 (.agg #[xd xh (a.1:Int),xj a.2.1,xd xh 0,xd xh 0]) I;apply zrH 9;intro K hK;go_simp;refine hK.out _ _ ⟨by show(Q' _ _).cell? _=_;rw[XJ (by simpa using ad)];exact I.1,by show(Q' _ _).cell? _=_;rw[XJ (by simpa using ad)];exact I.2⟩ (λI=>?_);clear hK K;apply zrH 10;intro K hK;go_simp;refine hK.out _ _ ⟨by show(Q' _ _).cell? _=_;rw[XJ (by simpa using ad)];exact c0,by show(Q' _ _).cell? _=_;rw[XJ (by simpa using ad)];exact c1⟩ (λI=>?_);clear hK K;refine Ut zk ?_ _;clear I;have J:XL w ((w.alloc (xi #[xd xh (a.1:Int),xj a.2.1,xd xh 0,xd xh 0] 319)).drew):=gC.drew;have hA:Ta w ((w.alloc (xi #[xd xh (a.1:Int),xj a.2.1,xd xh 0,xd xh 0] 319)).drew) base (xa vo S.length vc) vo vc S a.1 a.2.1 0 0:=⟨gi _ _,gq ho J,⟨J.os,J.tape,J.output,J.size,λx hx _=>J.block x hx⟩,Rf rfl,λx hx=>(aw x hx).2⟩;generalize (w.alloc (xi #[xd xh (a.1:Int),xj a.2.1,xd xh 0,xd xh 0] 319)).drew=W1 at *;clear J aw c0 c1;have ae:Hid (∀W:Uc,w.grownBy W (xa vo S.length vc).ownBlock->W.heap[b]?=w.heap[b]?):=λW hW=>hW.block b ad (λe=>gz ho e.symm hb zp)
  have bc:=λo=>EQ ((ae.out _ hA.gr).trans hb) o
  have av:=dK hA.sb;go_wp2_with fail;refine(aE.out _ (rV ho hA.gr hl) hA.own zo zo).mono ?_;intro e w2 aH;obtain⟨o2,k2,aW,aq⟩:=hA.call aH;subst aW;clear aH bc av aE;generalize hT2:iu (.node lu lv la ll lr) S=T2 at *;have bc:=λo=>EQ ((ae.out _ aq.gr).trans hb) o
  have sc:=EQ aq.sb;have sf:=gh aq.sb;have av:=dK aq.sb;have HAF:=aq.setA (((T2.length:Nat):Int)-1) (T2.length-1) zo;have aV:base<=w2.heap.size:=zo
  go_wp2_with (at_builtin;go_must (refine Uz _ rfl _ _ 145 rfl base 319 i0 (.agg #[xd xh 0,xj ⟨#[]⟩,xd xh 0,xd xh 0]) 4 40 underlying145 az aB aC aD rfl zd _ T2.length (pw T2) rfl ?c0 (TU w2.heap.size 0) 1 1 [xd xh (a.1:Int),xj a.2.1,xd xh (((T2.length:Nat):Int)-1),xd xh 0] rfl rfl ?c1 ?c2 zd ?c3 ?c4 ?c5 (w2.heap.size+1) ?c6 ?_))
  case c0=>exact gq HAF.own gC
  case c1=>
   intro j u U
   match j,U with
   |0,U=>simp at U;subst U;exact EQ (gu zp) 0
   |1,U=>simp at U;subst U;exact EQ (gu zp) 1
   |2,U=>simp at U;subst U;exact EQ (gu zp) 2
   |3,U=>simp at U;subst U;exact EQ (gu zp) 3
   |j+4,U=>trivial
  case c2=>intro u hu;simp at hu;rcases hu with rfl|rfl|rfl|rfl<;>rfl
  case c3=>unfold maxLen;omega
  case c4=>omega
  case c5=>simp;omega
  case c6=>simp
  intro g8 cap8 q8 hown aa hat _;have HG8:=jW HAF.gr (jW (V9 _ _ _) aa (Rf rfl)) (by rcases HAF.at_ with e|⟨g,e,hg⟩;exact Rf e;exact QY ⟨g,e,zo⟩);have HO8:Hid (q8.ownsRow base 319 4 (xa (TT g8) (T2.length+1) cap8) (T2.length+1) (pw (T2++[⟨a.1,a.2.1,T2.length-1,0⟩]))):=by
   have:=hown;show q8.ownsRow _ _ _ _ _ _;rw[xP];rw[show(((T2.length:Nat):Int)-1)=((T2.length-1:Nat):Int) from zo] at this;exact this
  have HAT:Hid ((xa vo S.length vc).ownBlock=some g8\/w.heap.size<=g8):=by
   exact zm52
  clear hown aa hat;go_wp2;go_ret;have au:iu (.node u v0 a (.node lu lv la ll lr) .nil) S=T2++[⟨a.1,a.2.1,T2.length-1,0⟩]:=ao.out;rw[au];have hlen:(T2++[(⟨a.1,a.2.1,T2.length-1,0⟩:Sp)]).length=T2.length+1:=zp;exact zm43
 |.node u v0 a .nil (.node ru rv ra rl rr),S,w,p,base,vo,vc,_,h,ho,hbase,hsz=>by
  obtain⟨i0,az,aB,aC,aD⟩:=Uk Tryz.infoSp;obtain⟨b,pl,pr,rfl,hb,hl,hr⟩:=h;have ao:Hid (iu (.node u v0 a .nil (.node ru rv ra rl rr)) S=iu (.node ru rv ra rl rr) S++[⟨a.1,a.2.1,0,(iu (.node ru rv ra rl rr) S).length-1⟩]):=rfl;have hs:gI (.node u v0 a .nil (.node ru rv ra rl rr))=1+gI (.nil:Fm)+gI ((.node ru rv ra rl rr):Fm):=rfl;have ag:(iu .nil S).length=S.length+gI (.nil:Fm):=jK _ _;have aL:=Vx ag;have aM:=Vx ag.symm;clear ag;have ai:(iu (.node ru rv ra rl rr) S).length=S.length+gI ((.node ru rv ra rl rr):Fm):=jK _ _;have aN:=Vx ai;have aO:=Vx ai.symm;clear ai;cases (show pl=none from hl);have aP:gI (.nil:Fm)=0:=rfl;have aF:=fy (λS2 W o2 c2 h1 h2 h3 h4=>lE (.node ru rv ra rl rr) S2 W pr base o2 c2 zp h1 h2 h3 h4);have bd:1<=gI (.node ru rv ra rl rr):=by show 1<=1+_+_;omega
  generalize hsl:gI (.nil:Fm)=zl at *;generalize hsr:gI ((.node ru rv ra rl rr):Fm)=zr at *;obtain⟨br,bo,bq,a6,bj,_,_⟩:=id hr;subst a6;have bc:=EQ hb;have ad:=dK hb;have aw:=gJ ho;have c0:w.cell? (TU b 0)=some (xd xh (a.1:Int)):=bc 0;have c1:w.cell? (TU b 1)=some (xj a.2.1):=bc 1;clear hl bc;go_in;go_wp2_with fail;refine R' (S:=λw'=>w'.cell? (TU b 0)=some (xd xh (a.1:Int))/\w'.cell? (TU b 1)=some (xj a.2.1)) zk ?_ (λI=>?_)
  .trivial
  apply zt1 0 (xk (TT b)) I;apply zt1 1 (xk (TT b)) I;apply zt1 2 (xk (TT b)) I;apply zt1 3 (xd xh (a.1:Int)) I;apply zt1 4 (xk (TT b)) I;apply zt1 5 (xk (TT b)) I;apply zt1 6 (xk (some (TU b 1))) I;apply zt1 7 (xj a.2.1) I;apply zt1 8 (.agg #[xd xh (a.1:Int),xj a.2.1,xd xh 0,xd xh 0]) I;apply zrH 9;intro K hK;go_simp;refine hK.out _ _ ⟨by show(Q' _ _).cell? _=_;rw[XJ (by simpa using ad)];exact I.1,by show(Q' _ _).cell? _=_;rw[XJ (by simpa using ad)];exact I.2⟩ (λI=>?_);clear hK K;apply zrH 10;intro K hK;go_simp;refine hK.out _ _ ⟨by show(Q' _ _).cell? _=_;rw[XJ (by simpa using ad)];exact c0,by show(Q' _ _).cell? _=_;rw[XJ (by simpa using ad)];exact c1⟩ (λI=>?_);clear hK K;refine Ut zk ?_ _;clear I;have J:XL w ((w.alloc (xi #[xd xh (a.1:Int),xj a.2.1,xd xh 0,xd xh 0] 319)).drew):=gC.drew;have hA:Ta w ((w.alloc (xi #[xd xh (a.1:Int),xj a.2.1,xd xh 0,xd xh 0] 319)).drew) base (xa vo S.length vc) vo vc S a.1 a.2.1 0 0:=⟨gi _ _,gq ho J,⟨J.os,J.tape,J.output,J.size,λx hx _=>J.block x hx⟩,Rf rfl,λx hx=>(aw x hx).2⟩;generalize (w.alloc (xi #[xd xh (a.1:Int),xj a.2.1,xd xh 0,xd xh 0] 319)).drew=W1 at *;clear J aw c0 c1;have ae:Hid (∀W:Uc,w.grownBy W (xa vo S.length vc).ownBlock->W.heap[b]?=w.heap[b]?):=λW hW=>hW.block b ad (λe=>gz ho e.symm hb zp)
  have bc:=λo=>EQ ((ae.out _ hA.gr).trans hb) o
  have av:=dK hA.sb;go_wp2_with fail;refine(aF.out _ _ _ _ (rV ho hA.gr hr) hA.own zo zo).mono ?_;intro e w4 aI;obtain⟨o4,k4,aX,ay⟩:=hA.call aI;subst aX;clear aI aF;generalize hT4:iu (.node ru rv ra rl rr) S=T4 at *;clear bc av;have sc:=EQ ay.sb;have sf:=gh ay.sb;have av:=dK ay.sb;have HAF:=ay.setB (((T4.length:Nat):Int)-1) (T4.length-1) zo;have aV:base<=w4.heap.size:=zo
  go_wp2_with (at_builtin;go_must (refine Uz _ rfl _ _ 145 rfl base 319 i0 (.agg #[xd xh 0,xj ⟨#[]⟩,xd xh 0,xd xh 0]) 4 40 underlying145 az aB aC aD rfl zd _ T4.length (pw T4) rfl ?c0 (TU w4.heap.size 0) 1 1 [xd xh (a.1:Int),xj a.2.1,xd xh 0,xd xh (((T4.length:Nat):Int)-1)] rfl rfl ?c1 ?c2 zd ?c3 ?c4 ?c5 (w4.heap.size+1) ?c6 ?_))
  case c0=>exact gq HAF.own gC
  case c1=>
   intro j u U
   match j,U with
   |0,U=>simp at U;subst U;exact EQ (gu zp) 0
   |1,U=>simp at U;subst U;exact EQ (gu zp) 1
   |2,U=>simp at U;subst U;exact EQ (gu zp) 2
   |3,U=>simp at U;subst U;exact EQ (gu zp) 3
   |j+4,U=>trivial
  case c2=>intro u hu;simp at hu;rcases hu with rfl|rfl|rfl|rfl<;>rfl
  case c3=>unfold maxLen;omega
  case c4=>omega
  case c5=>simp;omega
  case c6=>simp
  intro g8 cap8 q8 hown aa hat _;have HG8:=jW HAF.gr (jW (V9 _ _ _) aa (Rf rfl)) (by rcases HAF.at_ with e|⟨g,e,hg⟩;exact Rf e;exact QY ⟨g,e,zo⟩);have HO8:Hid (q8.ownsRow base 319 4 (xa (TT g8) (T4.length+1) cap8) (T4.length+1) (pw (T4++[⟨a.1,a.2.1,0,T4.length-1⟩]))):=by
   exact zm118
  have HAT:Hid ((xa vo S.length vc).ownBlock=some g8\/w.heap.size<=g8):=by
   exact zm52
  clear hown aa hat;go_wp2;go_ret;have au:=ao.out;rw[au];have hlen:(T4++[(⟨a.1,a.2.1,0,T4.length-1⟩:Sp)]).length=T4.length+1:=zp;exact zm43
 |.node u v0 a (.node lu lv la ll lr) (.node ru rv ra rl rr),S,w,p,base,vo,vc,_,h,ho,hbase,hsz=>by
  obtain⟨i0,az,aB,aC,aD⟩:=Uk Tryz.infoSp;obtain⟨b,pl,pr,rfl,hb,hl,hr⟩:=h;have ao:Hid (iu (.node u v0 a (.node lu lv la ll lr) (.node ru rv ra rl rr)) S=iu (.node ru rv ra rl rr) (iu (.node lu lv la ll lr) S)++[⟨a.1,a.2.1,(iu (.node lu lv la ll lr) S).length-1,(iu (.node ru rv ra rl rr) (iu (.node lu lv la ll lr) S)).length-1⟩]):=rfl;have hs:gI (.node u v0 a (.node lu lv la ll lr) (.node ru rv ra rl rr))=1+gI ((.node lu lv la ll lr):Fm)+gI ((.node ru rv ra rl rr):Fm):=rfl;have ag:(iu (.node lu lv la ll lr) S).length=S.length+gI ((.node lu lv la ll lr):Fm):=jK _ _;have aL:=Vx ag;have aM:=Vx ag.symm;clear ag;have ai:(iu (.node ru rv ra rl rr) (iu (.node lu lv la ll lr) S)).length=(iu (.node lu lv la ll lr) S).length+gI ((.node ru rv ra rl rr):Fm):=jK _ _;have aN:=Vx ai;have aO:=Vx ai.symm;clear ai;have aE:=fy (λW h1 h2 h3 h4=>lE (.node lu lv la ll lr) S W pl base vo vc zp h1 h2 h3 h4);have aP:1<=gI (.node lu lv la ll lr):=by show 1<=1+_+_;omega
  have aF:=fy (λS2 W o2 c2 h1 h2 h3 h4=>lE (.node ru rv ra rl rr) S2 W pr base o2 c2 zp h1 h2 h3 h4);have bd:1<=gI (.node ru rv ra rl rr):=by show 1<=1+_+_;omega
  generalize hsl:gI ((.node lu lv la ll lr):Fm)=zl at *;generalize hsr:gI ((.node ru rv ra rl rr):Fm)=zr at *;obtain⟨bl,bm,bn,aY,bh,_,_⟩:=id hl;subst aY;obtain⟨br,bo,bq,a6,bj,_,_⟩:=id hr;subst a6;have bc:=EQ hb;have ad:=dK hb;have aw:=gJ ho;have c0:w.cell? (TU b 0)=some (xd xh (a.1:Int)):=bc 0;have c1:w.cell? (TU b 1)=some (xj a.2.1):=bc 1;clear bc;go_in;go_wp2_with fail;refine R' (S:=λw'=>w'.cell? (TU b 0)=some (xd xh (a.1:Int))/\w'.cell? (TU b 1)=some (xj a.2.1)) zk ?_ (λI=>?_)
  .trivial
  apply zt1 0 (xk (TT b)) I;apply zt1 1 (xk (TT b)) I;apply zt1 2 (xk (TT b)) I;apply zt1 3 (xd xh (a.1:Int)) I;apply zt1 4 (xk (TT b)) I;apply zt1 5 (xk (TT b)) I;apply zt1 6 (xk (some (TU b 1))) I;apply zt1 7 (xj a.2.1) I;apply zt1 8 (.agg #[xd xh (a.1:Int),xj a.2.1,xd xh 0,xd xh 0]) I;apply zrH 9;intro K hK;go_simp;refine hK.out _ _ ⟨by show(Q' _ _).cell? _=_;rw[XJ (by simpa using ad)];exact I.1,by show(Q' _ _).cell? _=_;rw[XJ (by simpa using ad)];exact I.2⟩ (λI=>?_);clear hK K;apply zrH 10;intro K hK;go_simp;refine hK.out _ _ ⟨by show(Q' _ _).cell? _=_;rw[XJ (by simpa using ad)];exact c0,by show(Q' _ _).cell? _=_;rw[XJ (by simpa using ad)];exact c1⟩ (λI=>?_);clear hK K;refine Ut zk ?_ _;clear I;have J:XL w ((w.alloc (xi #[xd xh (a.1:Int),xj a.2.1,xd xh 0,xd xh 0] 319)).drew):=gC.drew;have hA:Ta w ((w.alloc (xi #[xd xh (a.1:Int),xj a.2.1,xd xh 0,xd xh 0] 319)).drew) base (xa vo S.length vc) vo vc S a.1 a.2.1 0 0:=⟨gi _ _,gq ho J,⟨J.os,J.tape,J.output,J.size,λx hx _=>J.block x hx⟩,Rf rfl,λx hx=>(aw x hx).2⟩;generalize (w.alloc (xi #[xd xh (a.1:Int),xj a.2.1,xd xh 0,xd xh 0] 319)).drew=W1 at *;clear J aw c0 c1;have ae:Hid (∀W:Uc,w.grownBy W (xa vo S.length vc).ownBlock->W.heap[b]?=w.heap[b]?):=λW hW=>hW.block b ad (λe=>gz ho e.symm hb zp)
  have bc:=λo=>EQ ((ae.out _ hA.gr).trans hb) o
  have av:=dK hA.sb;go_wp2_with fail;refine(aE.out _ (rV ho hA.gr hl) hA.own zo zo).mono ?_;intro e w2 aH;obtain⟨o2,k2,aW,aq⟩:=hA.call aH;subst aW;clear aH bc av aE;generalize hT2:iu (.node lu lv la ll lr) S=T2 at *;have bc:=λo=>EQ ((ae.out _ aq.gr).trans hb) o
  have sc:=EQ aq.sb;have sf:=gh aq.sb;have av:=dK aq.sb;go_wp2_with fail;have aK:=(aq.setA (((T2.length:Nat):Int)-1) (T2.length-1) zo);generalize (w2.setCell (TU w.heap.size 2) (xd xh (((T2.length:Nat):Int)-1)))=w3 at *;have hz3':=aK.gr.size;clear bc sc sf av;refine(aF.out _ _ _ _ (rV ho aK.gr hr) aK.own zo zo).mono ?_;intro e w4 aI;obtain⟨o4,k4,aX,ay⟩:=aK.call aI;subst aX;clear aI aF;generalize hT4:iu (.node ru rv ra rl rr) T2=T4 at *;have sc:=EQ ay.sb;have sf:=gh ay.sb;have av:=dK ay.sb;have HAF:=ay.setB (((T4.length:Nat):Int)-1) (T4.length-1) zo;have aV:base<=w4.heap.size:=zo
  go_wp2_with (at_builtin;go_must (refine Uz _ rfl _ _ 145 rfl base 319 i0 (.agg #[xd xh 0,xj ⟨#[]⟩,xd xh 0,xd xh 0]) 4 40 underlying145 az aB aC aD rfl zd _ T4.length (pw T4) rfl ?c0 (TU w4.heap.size 0) 1 1 [xd xh (a.1:Int),xj a.2.1,xd xh ((T2.length-1:Nat):Int),xd xh (((T4.length:Nat):Int)-1)] rfl rfl ?c1 ?c2 zd ?c3 ?c4 ?c5 (w4.heap.size+1) ?c6 ?_))
  case c0=>exact gq HAF.own gC
  case c1=>
   intro j u U
   match j,U with
   |0,U=>simp at U;subst U;exact EQ (gu zp) 0
   |1,U=>simp at U;subst U;exact EQ (gu zp) 1
   |2,U=>simp at U;subst U;exact EQ (gu zp) 2
   |3,U=>simp at U;subst U;exact EQ (gu zp) 3
   |j+4,U=>trivial
  case c2=>intro u hu;simp at hu;rcases hu with rfl|rfl|rfl|rfl<;>rfl
  case c3=>unfold maxLen;omega
  case c4=>omega
  case c5=>simp;omega
  case c6=>simp
  intro g8 cap8 q8 hown aa hat _;have HG8:=jW HAF.gr (jW (V9 _ _ _) aa (Rf rfl)) (by rcases HAF.at_ with e|⟨g,e,hg⟩;exact Rf e;exact QY ⟨g,e,zo⟩);have HO8:Hid (q8.ownsRow base 319 4 (xa (TT g8) (T4.length+1) cap8) (T4.length+1) (pw (T4++[⟨a.1,a.2.1,T2.length-1,T4.length-1⟩]))):=by
   exact zm118
  have HAT:Hid ((xa vo S.length vc).ownBlock=some g8\/w.heap.size<=g8):=by
   exact zm52
  clear hown aa hat;go_wp2;go_ret;have au:=ao.out;rw[au];have hlen:(T4++[(⟨a.1,a.2.1,T2.length-1,T4.length-1⟩:Sp)]).length=T4.length+1:=zp;exact zm43
end Go.Proofs.YtidakhhekofkoaaGreatDoor
