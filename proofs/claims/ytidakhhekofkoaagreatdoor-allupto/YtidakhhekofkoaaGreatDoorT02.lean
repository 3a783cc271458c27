import Derived.Test.YtidakhhekofkoaaGreatDoorT00
import Derived.Test.YtidakhhekofkoaaGreatDoorT01
set_option linter.all false
set_option maxHeartbeats 4000000
set_option maxRecDepth 100000
namespace Go.Proofs
def Ut:=@Go.wpAnyH_done
def UR:=@Go.IntKind.wrap_i64
def U4:=@Go.World.grownBy.refl
def U9:=@Go.wp_region_any
def Vg:=@Go.wpAny_done
def WS:=@Go.Calls.quiet_of_same
end Go.Proofs
namespace Go.Proofs.YtidakhhekofkoaaGreatDoor
attribute [local go_sem] TT TU TV XL
attribute [local simp] TT TU TV XL
open Go.Proofs.Tryz
open Go.RowKit Go.Deep
open Value renaming slice->xa,int->xd,string->xj,pointer->xk,bool->xn
open IntKind renaming i64->xh
open Obj renaming cells->xi
open Ending renaming returned->xm
open Or renaming inl->Rf,inr->Rj
open World renaming setCell->Ri,drew->Rn
variable{zq:Prop}
variable{vf vg p:TX}{w w':Uc}{L r r0 r1 r2:TY}{i n pb cap q lb nx hr size j4 j:Nat}{t u:Tk}{o:Obj}{b bad b4 bad':Bool}{a ev:Ub}{f:Fm}{xs:TW}
def zm9(h:zq:=by
 go_wp2;go_ret;exact⟨rfl,(gC.trans ((Qs _).mono zp))⟩
 ):zq:=h
def zm19(h:zq:=by
 rw[hx];have HT:=fy ht;have hlt:=h.lt;have hlen:=h.len;obtain⟨c0,c1,c2⟩:=h.cells;clear ht hx;go_in
 go_wp2_with (refine(jH h HT.out).mono ?_)
 rintro e w1 ⟨rfl,hb⟩;have HP1:=h.later hb;simp only[ki];clear c0 c1 c2;obtain⟨c0,c1,c2⟩:=HP1.cells;have hf:=gh HP1.blk 1;have hp1:=dK HP1.blk;simp only[hr];go_wp2;go_ret;exact⟨gL (gL ((gE hb _).trans (gp _ _ _ _))),_,rfl,⟨w1.heap.size+1,none,none,rfl,gu zp,rfl,rfl⟩,i+1,Hx HT.out,((HP1.setI HT.out).alloc _).alloc _⟩
 ):zq:=h
def zm27(h:zq:=by
 rw[hx];have HT:=fy ht;obtain⟨c0,c1,c2⟩:=h.cells;clear ht hx;go_in
 go_wp2_with (go_at_call 201;refine(jH h HT.out).mono ?_)
 rintro e w1 ⟨rfl,hb⟩;have HP1:=h.later hb;simp only[ki];clear c0 c1 c2
 go_wp2_with (go_at_call 280;refine(re (HP1.alloc _)).mono ?_)
 rintro e w2 ⟨rfl,hp2,hg2⟩;go_wp2;go_ret;refine⟨gL ((gL (gE hb _)).trans hg2),_,rfl,i,?_,hp2.alloc _⟩;rw[HT.out];rfl
 ):zq:=h
def zm30(h:zq:=by
 have hs':=mz (hs zp);subst hs';exact Ey (n+1) h ht zd zd zd zd zd (by grind[pf,gF,ph,ig])
 ):zq:=h
def zm35(h:zq:=by
 obtain⟨f,l1⟩:=x;rw[hpf] at hx;obtain⟨hf,j,hl,hp⟩:=hx;refine⟨⟨rfl,?_⟩,j,hl,hkeep j _ hp⟩;rw[T' zp];exact⟨(((((((hf.set t1 zp).set (t0.set _ _) zp).set ((t0.set _ _).set _ _) zp).set (((t0.set _ _).set _ _).set _ _) zp).set ((((t0.set _ _).set _ _).set _ _).set _ _) zp).set (((((t0.set _ _).set _ _).set _ _).set _ _).set _ _) zp).set ((((((t0.set _ _).set _ _).set _ _).set _ _).set _ _).set _ _) zp).set (((((((t0.set _ _).set _ _).set _ _).set _ _).set _ _).set _ _).set _ _) zp,hf.some (mW _ 0 _ _ _ _ zo hpf)⟩
 ):zq:=h
def zm40(h:zq:=by
 have hs':=mz (hs zp);subst hs';exact Mm hU h ht zf zf zf zo (by rw[ht2,ht,pf];rfl)
 ):zq:=h
def zm63(h:zq:=by
 obtain⟨i3,hq3,hp3⟩:=hx3;have HQ3:=fy hq3;clear hq3 hpf3
 go_wp2_with (refine(DI).mono ?_)
 rintro e w4 ⟨v,rfl,hb4⟩;go_wp2;go_ret;rw[HX3.out];exact⟨((hg1.trans hg2).trans hg3).trans (gE hb4 _),_,rfl,i3,HQ3.out,hp3.later hb4⟩
 ):zq:=h
def zm67(h:zq:=by
 clear hq3 hpf3
 go_wp2_with (refine(DI).mono ?_)
 rintro e w4 ⟨v,rfl,hb4⟩;go_wp2_with fail
 go_roundg m
 case measure=>omega
 exact⟨_,rfl,((hgj.trans hg2).trans hg3).trans (gE hb4 _),Or.inr ⟨i3,hp3.later hb4,HX3.out⟩⟩
 ):zq:=h
def zm72(h:zq:=by
 have hj':jy=j4+1+1+1:=by rw[HJY.out,h19];rfl
 have hb':by'=false:=by rw[HBY.out,h19];rfl
 subst hj' hb';rw[HRR.out.2.1 HZK.out (by rw[hz2k];simpa using h19),hz2p];refine⟨⟨rfl,?_⟩,j4+1+1+1,rfl,hps⟩
 grind[im]
 ):zq:=h
def zm73(h:zq:=by
 have hs':=mz (hs zp);subst hs';exact EA (n+1) h ht zf zf zf (by rw[Ui];rfl) (by rw[Ui];rfl) (by rw[Ui];rfl) (by rw[ht,pf];rfl)
 ):zq:=h
def zm74(h:zq:=by
 simp[results,results248,go_sem,jV,rc]
 ):zq:=h
def zm78(h:zq:=by
 rintro e w4 ⟨v,rfl,hv,hb4⟩;go_wp2_with fail
 go_roundg m
 case measure=>omega
 exact⟨_,rfl,((hgj.trans hg2).trans hg3).trans (gE hb4 _),Or.inl ⟨_,i3,zo,hl3,hv,hp3.later hb4,HX3.out⟩⟩
 ):zq:=h
def zm88(h:zq:=by
 obtain⟨a,l1⟩:=x;have hlen:=jz _ _ _ _ _ _ hpf;rw[hpf] at hx;obtain⟨hf1,i1,hl1,hp1⟩:=hx;exact Or.inl ⟨a,i1,XH,by rw[hl1];omega,hf1,hp1,by show _=_;rw[pf,hpf,hl1]⟩
 ):zq:=h
def zm90(h:zq:=by
 exact Ex (n+1) h ht zd zd zd (by grind[pf,gF,ph,ig])
 ):zq:=h
def zm92(h:zq:=by
 have bc:=EQ h;have hlt:=dK h;clear h;go_in;go_wp2;go_ret;exact⟨rfl,gC⟩
 ):zq:=h
def zm112(h:zq:=by
 rintro e w4 ⟨v,rfl,hv,hb4⟩;go_wp2;go_ret;rw[HX3.out];exact⟨((hg1.trans hg2).trans hg3).trans (gE hb4 _),_,rfl,hv,i3,HQ3.out,hp3.later hb4⟩
 ):zq:=h
def zm138(h:zq:=by
 rintro e w2 ⟨rfl,hp2,hg2⟩;go_wp2;go_ret;rw[HX.out];exact⟨hg1.trans hg2,_,rfl,hf1.keepP hp1 hg2,i1,rfl,hp2⟩
 ):zq:=h
def zm139(h:zq:=by
 rintro e w2 ⟨rfl,hp2,hg2⟩;go_wp2;go_ret;rw[HX.out];exact⟨hgj.trans hg2,_,rfl,hfa.keepP hpj hg2,j,rfl,hp2⟩
 ):zq:=h
def zm153(h:zq:=by
 rintro e w2 ⟨rfl,hp2,hg2⟩;go_wp2;go_ret;rw[HX.out];exact⟨hg1.trans hg2,_,rfl,i1,HQ.out,hp2⟩
 ):zq:=h
def zm160(h:zq:=by
 rintro e w2 ⟨rfl,hp2,hg2⟩;go_wp2;go_ret;rw[HXJ.out];exact⟨hgj.trans hg2,_,rfl,j,rfl,hp2⟩
 ):zq:=h
def zm164(h:zq:=by
 rw[hpf] at hx;obtain⟨i1,hq1,hp1⟩:=hx;exact Or.inr ⟨i1,hp1,by show _=_;rw[pf,hpf,hq1]⟩
 ):zq:=h
def DI{c:Int}:
  Calls prog 252 #[xd .u8 c,xk vf,xk vg] w λe w'=>∃v,e=xm (xk v)/\XL w w':=by
 go_in;go_wp2;go_ret;exact⟨_,rfl,gC⟩
def kH{l:TY}(h:R8 l){k:Nat}(hk:2<=k)(e:gF l=k):∃t u r,l=t::u::r/\t.k=k:=by
 match l,h with
 |[t],h=>grind[R8,gF]
 |t::u::r,_=>exact⟨t,u,r,rfl,e⟩
def lY{l:TY}(h:R8 l){k:Nat}(e:gF l≠k):∃t r,l=t::r/\t.k≠k:=by
 match l,h with
 |t::r,_=>exact⟨t,r,rfl,e⟩
def SU(n:Nat):Prop:=∀(w:Uc)(pb g cap:Nat)(L:TY)(i:Nat),PS w pb g cap L i false->6*(L.drop i).length+1<=n->
 Calls prog 297 #[xk (TT pb)] w λe w'=>Sr L pb g cap w w' e (pf n 4 .nil (L.drop i))
def ST(n:Nat):Prop:=∀(w:Uc)(pb g cap:Nat)(L:TY)(i:Nat),PS w pb g cap L i false->6*(L.drop i).length+2<=n->
 Calls prog 296 #[xk (TT pb)] w λe w'=>Sr L pb g cap w w' e (pf n 3 .nil (L.drop i))
def SA(n:Nat):Prop:=∀(w:Uc)(pb g cap:Nat)(L:TY)(i:Nat),PS w pb g cap L i false->6*(L.drop i).length+3<=n->
 Calls prog 291 #[xk (TT pb)] w λe w'=>Sr L pb g cap w w' e (pf n 2 .nil (L.drop i))
def SO(n:Nat):Prop:=∀(w:Uc)(pb g cap:Nat)(L:TY)(i:Nat),PS w pb g cap L i false->6*(L.drop i).length+4<=n->
 Calls prog 289 #[xk (TT pb)] w λe w'=>Sr L pb g cap w w' e (pf n 1 .nil (L.drop i))
def SF(n:Nat):Prop:=∀(w:Uc)(pb g cap:Nat)(L:TY)(i:Nat),PS w pb g cap L i false->6*(L.drop i).length+5<=n->
 Calls prog 282 #[xk (TT pb)] w λe w'=>Sr L pb g cap w w' e (pf n 0 .nil (L.drop i))
theorem Hx(h:L.drop i=t::r):L.drop (i+1)=r:=by rw[<-Xn,h];rfl
theorem Hj(n:Nat)(hU:SU n):ST (n+1):=by
 intro w pb g cap L i h hn;go_in
 go_wp2_with (refine(hU _ _ _ _ _ _ h zo).mono ?_)
 rintro e w1 ⟨hg1,p,rfl,hx⟩;cases hpf:pf n 4 .nil (L.drop i) with
 |error q=>
  have HX:Hid (pf (n+1) 3 .nil (L.drop i)=.error q):=by show _=_;rw[pf,hpf]
  rw[hpf] at hx;obtain⟨i1,ae,hp1⟩:=hx;obtain⟨t,r,I⟩:=jc hp1.lt;have HQ:=fy ae;have U:=fy I;clear ae I hpf
  go_wp2_with (refine(nh 13 hp1 U.out rfl zp zp (Rf rfl)).mono ?_)
  exact zm153
 |ok x=>
  obtain⟨a,l1⟩:=x;have hlen:=jz _ _ _ _ _ _ hpf;rw[hpf] at hx;obtain⟨hf1,i1,an,hp1⟩:=hx;subst an;by_cases h13:gF (L.drop i1)=13
  .obtain⟨t,u,r,I,hk⟩:=kH hp1.ends zp h13;have ao:=Hx I;have hX:pf (n+1) 3 .nil (L.drop i)=(match pf n 4 .nil (L.drop (i1+1)) with| .error q=>.error q| .ok (b,l2)=>.ok (two 9 a b,l2)):=by
    grind[pf]
   have HX:=fy hX;have J:6*(L.drop (i1+1)).length+1<=n:=by grind
   have HL:=fy J;have U:=fy I;have HK:=fy hk;clear I hpf hX h13 hk ao J
   go_wp2_with (refine(pQ hp1 U.out rfl zp zp HK.out).mono ?_)
   rintro e w2 ⟨rfl,hp2,hg2⟩
   go_wp2_with (refine(hU _ _ _ _ _ _ hp2 HL.out).mono ?_)
   rintro e w3 ⟨hg3,p3,rfl,hx3⟩;have ai:=(hf1.keepP hp1 hg2).keepP hp2 hg3;cases hpf3:pf n 4 .nil (L.drop (i1+1)) with
   |error q=>
    rw[hpf3] at hx3;have HX3:Hid (pf (n+1) 3 .nil (L.drop i)=.error q):=by show _=_;rw[HX.out,hpf3]
    exact zm63
   |ok x=>
    obtain⟨b,l2⟩:=x;rw[hpf3] at hx3;have HX3:Hid (pf (n+1) 3 .nil (L.drop i)=.ok (two 9 a b,l2)):=by show _=_;rw[HX.out,hpf3]
    obtain⟨ak,i3,ad,hp3⟩:=hx3;have HQ3:=fy ad;clear ad hpf3
    go_wp2_with (refine(kr 9 ai ak rfl).mono ?_)
    exact zm112
  obtain⟨t,r,I,hk⟩:=lY hp1.ends h13;have HX:Hid (pf (n+1) 3 .nil (L.drop i)=.ok (a,L.drop i1)):=by show _=_;rw[pf,hpf];simp_all
  have U:=fy I;have HK:=fy hk;clear I hpf h13 hk
  go_wp2_with (refine(nh 13 hp1 U.out rfl zp zp (Rj HK.out)).mono ?_)
  exact zm138
theorem Cz(n:Nat)(hO:SO n)(hF:SF n):SF (n+1):=by
 intro w pb g cap L i h hn;go_in
 go_wp2_with (refine(hO _ _ _ _ _ _ h zo).mono ?_)
 rintro e w1 ⟨hg1,p,rfl,hx⟩;cases hpf:pf n 1 .nil (L.drop i) with
 |error q=>
  have HX:Hid (pf (n+1) 0 .nil (L.drop i)=.error q):=by show _=_;rw[pf,hpf]
  rw[hpf] at hx;obtain⟨i1,ae,hp1⟩:=hx;obtain⟨t,r,I⟩:=jc hp1.lt;have HQ:=fy ae;have U:=fy I;clear ae I hpf
  go_wp2_with (refine(nh 14 hp1 U.out rfl zp zp (Rf rfl)).mono ?_)
  exact zm153
 |ok x=>
  obtain⟨a,l1⟩:=x;have hlen:=jz _ _ _ _ _ _ hpf;rw[hpf] at hx;obtain⟨hf1,i1,an,hp1⟩:=hx;subst an;by_cases h13:gF (L.drop i1)=14
  .obtain⟨t,u,r,I,hk⟩:=kH hp1.ends zp h13;have ao:=Hx I;have hX:pf (n+1) 0 .nil (L.drop i)=(match pf n 0 .nil (L.drop (i1+1)) with| .error q=>.error q| .ok (b,l2)=>.ok (two 12 a b,l2)):=by
    grind[pf]
   have HX:=fy hX;have J:6*(L.drop (i1+1)).length+5<=n:=by grind
   have HL:=fy J;have U:=fy I;have HK:=fy hk;clear I hpf hX h13 hk ao J
   go_wp2_with (refine(pQ hp1 U.out rfl zp zp HK.out).mono ?_)
   rintro e w2 ⟨rfl,hp2,hg2⟩
   go_wp2_with (refine(hF _ _ _ _ _ _ hp2 HL.out).mono ?_)
   rintro e w3 ⟨hg3,p3,rfl,hx3⟩;have ai:=(hf1.keepP hp1 hg2).keepP hp2 hg3;cases hpf3:pf n 0 .nil (L.drop (i1+1)) with
   |error q=>
    rw[hpf3] at hx3;have HX3:Hid (pf (n+1) 0 .nil (L.drop i)=.error q):=by show _=_;rw[HX.out,hpf3]
    exact zm63
   |ok x=>
    obtain⟨b,l2⟩:=x;rw[hpf3] at hx3;have HX3:Hid (pf (n+1) 0 .nil (L.drop i)=.ok (two 12 a b,l2)):=by show _=_;rw[HX.out,hpf3]
    obtain⟨ak,i3,ad,hp3⟩:=hx3;have HQ3:=fy ad;clear ad hpf3
    go_wp2_with (refine(kr 12 ai ak rfl).mono ?_)
    exact zm112
  obtain⟨t,r,I,hk⟩:=lY hp1.ends h13;have HX:Hid (pf (n+1) 0 .nil (L.drop i)=.ok (a,L.drop i1)):=by show _=_;rw[pf,hpf];simp_all
  have U:=fy I;have HK:=fy hk;clear I hpf h13 hk
  go_wp2_with (refine(nh 14 hp1 U.out rfl zp zp (Rj HK.out)).mono ?_)
  exact zm138
theorem Ki(n:Nat)(hU:∀m,m<=n->ST m):SA (n+1):=by
 intro w pb g cap L i h hn;have HU:=fy hU;clear hU;go_in
 go_wp2_with (refine(HU.out n (XH) _ _ _ _ _ _ h zo).mono ?_)
 rintro e w1 ⟨aj,p,rfl,hx⟩;have I:∃pa,(xk p=xk pa)/\w.grownBy w1 (some pb)/\
   ((∃acc j,n<=n/\6*(L.drop j).length+1<=n/\Q9 w1 acc pa/\PS w1 pb g cap L j false/\Hid (pf (n+1) 2 .nil (L.drop i)=pf n 6 acc (L.drop j)))\/(∃j,PS w1 pb g cap L j true/\Hid (pf (n+1) 2 .nil (L.drop i)=.error (ig (L.drop j))))):=by
  refine⟨p,rfl,aj,?_⟩;cases hpf:pf n 3 .nil (L.drop i) with
  |error q=>
   exact zm164
  |ok x=>
   exact zm88
 have HS:=fy I;clear I hx aj;go_wp2
 go_loopg [3] n (λm v wr=>∃pa,v=xk pa/\w.grownBy wr (some pb)/\
   ((∃acc j,m<=n/\6*(L.drop j).length+1<=m/\Q9 wr acc pa/\PS wr pb g cap L j false/\Hid (pf (n+1) 2 .nil (L.drop i)=pf m 6 acc (L.drop j)))\/(∃j,PS wr pb g cap L j true/\Hid (pf (n+1) 2 .nil (L.drop i)=.error (ig (L.drop j))))))
 .trivial
 clear HS;obtain⟨pa,rfl,hgj,ad⟩:=hrel;rcases ad with⟨acc,j,hm,hmj,hfa,hpj,hxj⟩|⟨j,hpj,hxj⟩
 .obtain⟨m,rfl⟩:∃m,gk=m+1:=⟨gk-1,zo⟩;by_cases h16:gF (L.drop j)=16
  .obtain⟨t,u,r,J,hk⟩:=kH hpj.ends zp h16;have au:=Hx J;have HXJ:Hid (pf (n+1) 2 .nil (L.drop i)=(match pf m 3 .nil (L.drop (j+1)) with| .error q=>.error q| .ok (b,l2)=>pf m 6 (two 10 acc b) l2)):=by
    grind[pf]
   have aa:6*(L.drop (j+1)).length+2<=m:=by grind
   have HL:=fy aa;have HT:=fy J;have HK:=fy hk;clear J h16 hk au aa hxj
   go_wp2_with (refine(pQ hpj HT.out rfl zp zp HK.out).mono ?_)
   rintro e w2 ⟨rfl,hp2,hg2⟩
   go_wp2_with (refine(HU.out m zo _ _ _ _ _ _ hp2 HL.out).mono ?_)
   rintro e w3 ⟨hg3,p3,rfl,U⟩;have ao:=(hfa.keepP hpj hg2).keepP hp2 hg3;cases hpf3:pf m 3 .nil (L.drop (j+1)) with
   |error q=>
    rw[hpf3] at U;obtain⟨i3,hq3,hp3⟩:=U;have HX3:Hid (pf (n+1) 2 .nil (L.drop i)=.error (ig (L.drop i3))):=by grind
    exact zm67
   |ok x=>
    obtain⟨b,l2⟩:=x;have ae:=jz _ _ _ _ _ _ hpf3;rw[hpf3] at U;obtain⟨ar,i3,hl3,hp3⟩:=U;subst hl3;have HX3:Hid (pf (n+1) 2 .nil (L.drop i)=pf m 6 (two 10 acc b) (L.drop i3)):=by show _=_;rw[HXJ.out,hpf3]
    have hl3:6*(L.drop i3).length+1<=m:=by have:=HL.out;omega
    clear hpf3 ae
    go_wp2_with (refine(kr 10 ao ar rfl).mono ?_)
    exact zm78
  obtain⟨t,r,J,hk⟩:=lY hpj.ends h16;have HX:Hid (pf (n+1) 2 .nil (L.drop i)=.ok (acc,L.drop j)):=by grind[pf]
  have HT:=fy J;have HK:=fy hk;clear J h16 hk hxj
  go_wp2_with (refine(nh 16 hpj HT.out rfl zp zp (Rj HK.out)).mono ?_)
  exact zm139
 obtain⟨t,r,J⟩:=jc hpj.lt;have HT:=fy J;have HXJ:=fy hxj.out;clear J hxj
 go_wp2_with (refine(nh 16 hpj HT.out rfl zp zp (Rf rfl)).mono ?_)
 exact zm160
theorem NZ(n:Nat)(hU:∀m,m<=n->SA m):SO (n+1):=by
 intro w pb g cap L i h hn;have HU:=fy hU;clear hU;go_in
 go_wp2_with (refine(HU.out n (XH) _ _ _ _ _ _ h zo).mono ?_)
 rintro e w1 ⟨aj,p,rfl,hx⟩;have I:∃pa,(xk p=xk pa)/\w.grownBy w1 (some pb)/\
   ((∃acc j,n<=n/\6*(L.drop j).length+1<=n/\Q9 w1 acc pa/\PS w1 pb g cap L j false/\Hid (pf (n+1) 1 .nil (L.drop i)=pf n 5 acc (L.drop j)))\/(∃j,PS w1 pb g cap L j true/\Hid (pf (n+1) 1 .nil (L.drop i)=.error (ig (L.drop j))))):=by
  refine⟨p,rfl,aj,?_⟩;cases hpf:pf n 2 .nil (L.drop i) with
  |error q=>
   exact zm164
  |ok x=>
   exact zm88
 have HS:=fy I;clear I hx aj;go_wp2
 go_loopg [3] n (λm v wr=>∃pa,v=xk pa/\w.grownBy wr (some pb)/\
   ((∃acc j,m<=n/\6*(L.drop j).length+1<=m/\Q9 wr acc pa/\PS wr pb g cap L j false/\Hid (pf (n+1) 1 .nil (L.drop i)=pf m 5 acc (L.drop j)))\/(∃j,PS wr pb g cap L j true/\Hid (pf (n+1) 1 .nil (L.drop i)=.error (ig (L.drop j))))))
 .trivial
 clear HS;obtain⟨pa,rfl,hgj,ad⟩:=hrel;rcases ad with⟨acc,j,hm,hmj,hfa,hpj,hxj⟩|⟨j,hpj,hxj⟩
 .obtain⟨m,rfl⟩:∃m,gk=m+1:=⟨gk-1,zo⟩;by_cases h16:gF (L.drop j)=15
  .obtain⟨t,u,r,J,hk⟩:=kH hpj.ends zp h16;have au:=Hx J;have HXJ:Hid (pf (n+1) 1 .nil (L.drop i)=(match pf m 2 .nil (L.drop (j+1)) with| .error q=>.error q| .ok (b,l2)=>pf m 5 (two 11 acc b) l2)):=by
    grind[pf]
   have aa:6*(L.drop (j+1)).length+3<=m:=by grind
   have HL:=fy aa;have HT:=fy J;have HK:=fy hk;clear J h16 hk au aa hxj
   go_wp2_with (refine(pQ hpj HT.out rfl zp zp HK.out).mono ?_)
   rintro e w2 ⟨rfl,hp2,hg2⟩
   go_wp2_with (refine(HU.out m zo _ _ _ _ _ _ hp2 HL.out).mono ?_)
   rintro e w3 ⟨hg3,p3,rfl,U⟩;have ao:=(hfa.keepP hpj hg2).keepP hp2 hg3;cases hpf3:pf m 2 .nil (L.drop (j+1)) with
   |error q=>
    rw[hpf3] at U;obtain⟨i3,hq3,hp3⟩:=U;have HX3:Hid (pf (n+1) 1 .nil (L.drop i)=.error (ig (L.drop i3))):=by grind
    exact zm67
   |ok x=>
    obtain⟨b,l2⟩:=x;have ae:=jz _ _ _ _ _ _ hpf3;rw[hpf3] at U;obtain⟨ar,i3,hl3,hp3⟩:=U;subst hl3;have HX3:Hid (pf (n+1) 1 .nil (L.drop i)=pf m 5 (two 11 acc b) (L.drop i3)):=by show _=_;rw[HXJ.out,hpf3]
    have hl3:6*(L.drop i3).length+1<=m:=by have:=HL.out;omega
    clear hpf3 ae
    go_wp2_with (refine(kr 11 ao ar rfl).mono ?_)
    exact zm78
  obtain⟨t,r,J,hk⟩:=lY hpj.ends h16;have HX:Hid (pf (n+1) 1 .nil (L.drop i)=.ok (acc,L.drop j)):=by grind[pf]
  have HT:=fy J;have HK:=fy hk;clear J h16 hk hxj
  go_wp2_with (refine(nh 15 hpj HT.out rfl zp zp (Rj HK.out)).mono ?_)
  exact zm139
 obtain⟨t,r,J⟩:=jc hpj.lt;have HT:=fy J;have HXJ:=fy hxj.out;clear J hxj
 go_wp2_with (refine(nh 15 hpj HT.out rfl zp zp (Rf rfl)).mono ?_)
 exact zm160
def Ll:Ub:=⟨#[33,88,78,70,71]⟩
def gu(h:n=w.heap.size):(w.alloc o).heap[n]?=some o:=by rw[h];exact gi w o
def vD{s:Ub}{c:UInt8}(hs:s.size<=maxLen)(h:lX s.data.toList c=b):
  Calls prog 279 #[xj s,xd .u8 (c.toNat:Int)] w λe w'=>e=xm (xn b)/\w'=w:=by
 rw[<-h];exact y7 hs
def Ex(n:Nat){g:Nat}{k:Nat}{s:Ub}(h:PS w pb g cap L i false)(ht:L.drop i=⟨k,s,q⟩::r)
  (h1:(gR k==111)=false)(h2:(gR k==110)=false)(h3:(gR k==119)=false)(hx:pf n 4 .nil (L.drop i)=.error q):
  Calls prog 297 #[xk (TT pb)] w λe w'=>Sr L pb g cap w w' e (pf n 4 .nil (L.drop i)):=by
 exact zm27
def Ey(n:Nat){g:Nat}{k:Nat}{c:UInt8}(h:PS w pb g cap L i false)(ht:L.drop i=⟨k,⟨#[c]⟩,q⟩::r)
  (h1:(gR k==111)=true)(h2:(gR k==110)=false)(h3:(gR k==119)=false)(hc:lX Ll.data.toList c=false)(h40:([c]==[40])=false)(hx:pf n 4 .nil (L.drop i)=.error q):
  Calls prog 297 #[xk (TT pb)] w λe w'=>Sr L pb g cap w w' e (pf n 4 .nil (L.drop i)):=by
 rw[hx];have HT:=fy ht;have HC:=fy hc;obtain⟨c0,c1,c2⟩:=h.cells;clear ht hx hc;go_in
 go_wp2_with (go_at_call 201;refine(jH h HT.out).mono ?_)
 rintro e w1 ⟨rfl,hb⟩;have I:=h.later hb;simp only[ki];clear c0 c1 c2
 go_wp2_with (first|(go_at_call 279;refine(vD zd HC.out).mono ?_;rintro e w' ⟨rfl,rfl⟩)|(go_at_call 280;refine(re (I.alloc _)).mono ?_))
 rintro e w2 ⟨rfl,U,J⟩;go_wp2;go_ret;refine⟨gL ((gL (gE hb _)).trans J),_,rfl,i,?_,U.alloc _⟩;rw[HT.out];rfl
def Ez(n:Nat)(w:Uc)(g:Nat)(L:TY)(i:Nat){k:Nat}(q:Nat)(h:PS w pb g cap L i false)(ht:L.drop i=⟨k,⟨#[45,62]⟩,q⟩::r)
  (h1:(gR k==111)=true)(h2:(gR k==110)=false)(h3:(gR k==119)=false)(hx:pf n 4 .nil (L.drop i)=.error q):
  Calls prog 297 #[xk (TT pb)] w λe w'=>Sr L pb g cap w w' e (pf n 4 .nil (L.drop i)):=by
 exact zm27
def EA(n:Nat){g:Nat}{k:Nat}{s:Ub}(h:PS w pb g cap L i false)(ht:L.drop i=⟨k,s,q⟩::r)
  (h1:(gR k==111)=false)(h2:(gR k==110)=false)(h3:(gR k==119)=true)(h6:(s.toList==[116,114,117,101])=false)(h7:(s.toList==[102,97,108,115,101])=false)(h8:(s.toList==[101,110,100])=false)(hx:pf n 4 .nil (L.drop i)=.error q):
  Calls prog 297 #[xk (TT pb)] w λe w'=>Sr L pb g cap w w' e (pf n 4 .nil (L.drop i)):=by
 exact zm27
def Hh(n:Nat)(w:Uc)(g:Nat)(L:TY)(i k q:Nat)(s:Ub)(u:Tk)(h:PS w pb g cap L i false)(ht:L.drop i=⟨k,s,q⟩::u::r)
  (h1:(gR k==111)=false)(h2:(gR k==110)=true)(hx:pf n 4 .nil (L.drop i)=.ok (leaf 0 s q,u::r)):
  Calls prog 297 #[xk (TT pb)] w λe w'=>Sr L pb g cap w w' e (pf n 4 .nil (L.drop i)):=by
 rw[hx];have J:=fy ht;have hlt:=h.lt;have hlen:=h.len;obtain⟨c0,c1,c2⟩:=h.cells;clear ht hx;go_in
 go_wp2_with (refine(jH h J.out).mono ?_)
 rintro e w1 ⟨rfl,U⟩;have I:=h.later U;simp only[ki];clear c0 c1 c2;obtain⟨c0,c1,c2⟩:=I.cells;have hf:=gh I.blk 1;have hp1:=dK I.blk;go_wp2;go_ret;exact⟨gL (gL ((gE U _).trans (gp _ _ _ _))),_,rfl,⟨w1.heap.size+1,none,none,rfl,gu zp,rfl,rfl⟩,i+1,Hx J.out,((I.setI J.out).alloc _).alloc _⟩
def Mn(n:Nat)(w:Uc)(g:Nat)(L:TY)(i q:Nat)(u:Tk)(h:PS w pb g cap L i false)(ht:L.drop i=⟨6,⟨#[116,114,117,101]⟩,q⟩::u::r)
  (hx:pf n 4 .nil (L.drop i)=.ok (leaf 1 ByteArray.empty 0,u::r)):
  Calls prog 297 #[xk (TT pb)] w λe w'=>Sr L pb g cap w w' e (pf n 4 .nil (L.drop i)):=by
 have hr:gR 6=119:=rfl;exact zm19
def Mo(n:Nat)(w:Uc)(g:Nat)(L:TY)(i q:Nat)(u:Tk)(h:PS w pb g cap L i false)(ht:L.drop i=⟨7,⟨#[102,97,108,115,101]⟩,q⟩::u::r)
  (hx:pf n 4 .nil (L.drop i)=.ok (leaf 2 ByteArray.empty 0,u::r)):
  Calls prog 297 #[xk (TT pb)] w λe w'=>Sr L pb g cap w w' e (pf n 4 .nil (L.drop i)):=by
 have hr:gR 7=119:=rfl;exact zm19
def Mp(n:Nat)(w:Uc)(g:Nat)(L:TY)(i q:Nat)(u:Tk)(h:PS w pb g cap L i false)(ht:L.drop i=⟨8,⟨#[101,110,100]⟩,q⟩::u::r)
  (hx:pf n 4 .nil (L.drop i)=.ok (leaf 3 ByteArray.empty 0,u::r)):
  Calls prog 297 #[xk (TT pb)] w λe w'=>Sr L pb g cap w w' e (pf n 4 .nil (L.drop i)):=by
 have hr:gR 8=119:=rfl;exact zm19
def Mm(hU:SU n){g:Nat}{k:Nat}{c:UInt8}(h:PS w pb g cap L i false)(ht:L.drop i=⟨k,⟨#[c]⟩,q⟩::u::r)
  (h1:(gR k==111)=true)(hc:lX Ll.data.toList c=true)(aj:(c.toNat:Int)=iI (ph k))(hn:6*(L.drop (i+1)).length+1<=n)
  (hx:pf (n+1) 4 .nil (L.drop i)=(match pf n 4 .nil (L.drop (i+1)) with| .error q=>.error q| .ok (a,l1)=>.ok (one (ph k) a,l1))):
  Calls prog 297 #[xk (TT pb)] w λe w'=>Sr L pb g cap w w' e (pf (n+1) 4 .nil (L.drop i)):=by
 have HU:=fy hU;have HN:=fy hn;have HC:=fy hc;have ak:=fy aj;clear hU hn hc aj;have HX:=fy hx;have HT:=fy ht;have hlt:=h.lt;have hlen:=h.len;obtain⟨c0,c1,c2⟩:=h.cells;clear ht hx;go_in
 go_wp2_with (refine(jH h HT.out).mono ?_)
 rintro e w1 ⟨rfl,hb⟩;have J:=fy (h.later hb);simp only[ki];clear c0 c1 c2;obtain⟨c0,c1,c2⟩:=J.out.cells;have hf:=gh J.out.blk 1;have hp1:=dK J.out.blk
 go_wp2_with (first|(refine(vD zd HC.out).mono ?_;rintro e w' ⟨rfl,rfl⟩)|(refine(HU.out _ _ _ _ _ _ ((J.out.setI HT.out).alloc _) HN.out).mono ?_))
 rintro e w2 ⟨ag,p2,rfl,U⟩;have aa:w2.heap[w1.heap.size]?=some (xi #[xd .u8 (gR k),xj ⟨#[c]⟩,xd xh q] 232 (0,0)):=
   (ag.block _ zp zs).trans (gu zp)
 have b1:=EQ aa 1;simp at b1;clear aa c0 c1 c2;cases hpf:pf n 4 .nil (L.drop (i+1)) with
 |error q=>
  rw[hpf] at U;have ae:Hid (pf (n+1) 4 .nil (L.drop i)=.error q):=by show _=_;rw[HX.out,hpf]
  obtain⟨i3,I,ai⟩:=U;have ad:=fy I;clear I hpf;go_wp2;go_ret;rw[ae.out];exact⟨gL ((gL ((gE hb _).trans (gp _ _ _ _))).trans ag),_,rfl,i3,ad.out,ai.alloc _⟩
 |ok x=>
  obtain⟨a,l1⟩:=x;rw[hpf] at U;have ae:Hid (pf (n+1) 4 .nil (L.drop i)=.ok (one (ph k) a,l1)):=by show _=_;rw[HX.out,hpf]
  obtain⟨ao,i3,I,ai⟩:=U;have ad:=fy I;clear I hpf;go_wp2;go_ret;rw[ae.out];refine⟨gL ((gL ((gE hb _).trans (gp _ _ _ _))).trans ag),_,rfl,⟨w2.heap.size,p2,none,rfl,?_,ao.later gC,rfl⟩,i3,ad.out,ai.alloc _⟩;rw[gi,<-ak.out];rfl
def BC(n:Nat)(hF:SF n)(w:Uc)(g:Nat)(L:TY)(i:Nat){k:Nat}(q:Nat)(u:Tk)(h:PS w pb g cap L i false)(ht:L.drop i=⟨k,⟨#[40]⟩,q⟩::u::r)
  (h1:(gR k==111)=true)(hn:6*(L.drop (i+1)).length+5<=n)
  (hx:pf (n+1) 4 .nil (L.drop i)=(match pf n 0 .nil (L.drop (i+1)) with| .error q=>.error q| .ok (a,l1)=>if gF l1=19 then .ok (a,l1.tail) else .error (ig l1))):
  Calls prog 297 #[xk (TT pb)] w λe w'=>Sr L pb g cap w w' e (pf (n+1) 4 .nil (L.drop i)):=by
 have HU:=fy hF;have HN:=fy hn;have HC:Hid (lX Ll.data.toList 40=false):=by show _=_;rfl
 clear hF hn;have HX:=fy hx;have HT:=fy ht;have hlt:=h.lt;have hlen:=h.len;obtain⟨c0,c1,c2⟩:=h.cells;clear ht hx;go_in
 go_wp2_with (refine(jH h HT.out).mono ?_)
 rintro e w1 ⟨rfl,hb⟩;have ai:=fy (h.later hb);simp only[ki];clear c0 c1 c2;obtain⟨c0,c1,c2⟩:=ai.out.cells;have hf:=gh ai.out.blk 1;have hp1:=dK ai.out.blk
 go_wp2_with (first|(refine(vD zd HC.out).mono ?_;rintro e w' ⟨rfl,rfl⟩)|(refine(HU.out _ _ _ _ _ _ ((ai.out.setI HT.out).alloc _) HN.out).mono ?_))
 rintro e w2 ⟨ao,p2,rfl,ak⟩;clear c0 c1 c2;cases hpf:pf n 0 .nil (L.drop (i+1)) with
 |error q=>
  rw[hpf] at ak;have ad:Hid (pf (n+1) 4 .nil (L.drop i)=.error q):=by show _=_;rw[HX.out,hpf]
  obtain⟨i3,aj,I⟩:=ak;obtain⟨t3,r3,J⟩:=jc I.lt;have av:=fy aj;have aa:=fy J;clear aj hpf J
  go_wp2_with (refine(zL 19 I aa.out rfl zp zp (Rf rfl)).mono ?_)
  rintro e w4 ⟨rfl,ag,U⟩;go_wp2;go_ret;rw[ad.out];exact⟨((gL ((gE hb _).trans (gp _ _ _ _))).trans ao).trans U,_,rfl,i3,av.out,ag⟩
 |ok x=>
  obtain⟨a,l1⟩:=x;rw[hpf] at ak;obtain⟨ar,i3,aj,I⟩:=ak;subst aj;by_cases h19:gF (L.drop i3)=19
  .obtain⟨t3,u3,r3,J,ae⟩:=kH I.ends zp h19;have ad:Hid (pf (n+1) 4 .nil (L.drop i)=.ok (a,L.drop (i3+1))):=by show _=_;rw[HX.out,hpf];simp only[h19,VF];simp
   have aa:=fy J;have an:=fy ae;clear hpf J ae h19
   go_wp2_with (refine(xC I aa.out rfl zp zp an.out).mono ?_)
   rintro e w4 ⟨rfl,ag,U⟩;go_wp2;go_ret;rw[ad.out];exact⟨((gL ((gE hb _).trans (gp _ _ _ _))).trans ao).trans U,_,rfl,ar.keepP I U,i3+1,rfl,ag⟩
  obtain⟨t3,r3,J,ae⟩:=lY I.ends h19;have ad:Hid (pf (n+1) 4 .nil (L.drop i)=.error (ig (L.drop i3))):=by grind
  have aa:=fy J;have an:=fy ae;clear hpf ar J ae h19
  go_wp2_with (refine(zL 19 I aa.out rfl zp zp (Rj an.out)).mono ?_)
  rintro e w4 ⟨rfl,ag,U⟩;go_wp2;go_ret;rw[ad.out];exact⟨((gL ((gE hb _).trans (gp _ _ _ _))).trans ao).trans U,_,rfl,i3,rfl,ag⟩
def mz{s:Ub}{l:T9}(h:s.data.toList=l):s=⟨l.toArray⟩:=by
 obtain⟨⟨d⟩⟩:=s;simp_all
def R8.more(h:R8 (t::r))(hk:2<=t.k):∃u I,r=u::I:=by
 cases r with
 |nil=>grind[R8]
 |cons u r=>simp
theorem Hi(n:Nat)(hU:SU n)(hF:SF n):SU (n+1):=by
 intro w pb g cap L i h hn;obtain⟨⟨k,s,q⟩,r,ht⟩:=jc h.lt;have aa:=h.ok _ (pJ ht);obtain⟨U,hs,_,_⟩:=aa;dsimp only at U hs;have J:=h.ends;rw[ht] at J;by_cases hk2:2<=k
 .obtain⟨u,r',rfl⟩:=J.more hk2;have ht2:=Hx ht;have hn2:6*(L.drop (i+1)).length+5<=n:=by grind
  have I:k=2\/k=3\/k=4\/k=5\/k=6\/k=7\/k=8\/k=9\/k=10\/k=11\/k=12\/k=13\/k=14\/k=15\/k=16\/k=17\/k=18\/k=19\/k=20\/k=21:=zo;rcases I with rfl|rfl|rfl|rfl|rfl|rfl|rfl|rfl|rfl|rfl|rfl|rfl|rfl|rfl|rfl|rfl|rfl|rfl|rfl|rfl
  .exact Hh (n+1) w g L i 2 q s u h ht zf zf (by rw[ht,pf];rfl)
  .exact zm90
  .exact zm73
  .exact zm73
  .have hs':=mz (hs zp);subst hs';exact Mn (n+1) w g L i q u h ht (by rw[ht,pf];rfl)
  .have hs':=mz (hs zp);subst hs';exact Mo (n+1) w g L i q u h ht (by rw[ht,pf];rfl)
  .have hs':=mz (hs zp);subst hs';exact Mp (n+1) w g L i q u h ht (by rw[ht,pf];rfl)
  .exact zm40
  .exact zm40
  .exact zm40
  .exact zm40
  .exact zm30
  .have hs':=mz (hs zp);subst hs';exact Ez (n+1) w g L i q h ht zd zd zd (by grind[pf,gF,ph,ig])
  .exact zm30
  .exact zm30
  .exact zm40
  .have hs':=mz (hs zp);subst hs';exact BC n hF w g L i q u h ht zf zo (by rw[ht2,ht,pf];rfl)
  .exact zm30
  .exact zm30
  exact zm30
 have I:k=0\/k=1:=zo;rcases I with rfl|rfl
 .exact zm90
 exact zm90
def vd:∀n m,m<=n->SU m/\ST m/\SA m/\SO m/\SF m
 |0,m,hm=>by
  grind[SU,ST,SA,SO,SF]
 |n+1,m,hm=>by
  by_cases hlt:m<=n
  .exact vd n m hlt
  have:m=n+1:=zo;subst this;have ih:=vd n
  grind[Hi,Hj,Ki,NZ,Cz]
def wD:SF n:=(vd n n (XH)).2.2.2.2
def MV:List (T9 × Nat):=[([97,99,116,115],4),([114,117,108,101],5),([116,114,117,101],6),([102,97,108,115,101],7),([101,110,100],8)]
def SZ(l:T9):List (T9 × Nat)->Nat
 |[]=>2
 |x::r=>if l=x.1 then x.2 else SZ l r
def Hl(l:T9):jC l=SZ l MV:=rfl
def Qy(w:Uc):(Instr.index 321 (.agg qt) (xd xh 0)).run prog w=.ok (.agg #[xj ⟨#[97,99,116,115]⟩,xd xh 4]) w:=zk
def Qz(w:Uc):(Instr.index 321 (.agg qt) (xd xh 1)).run prog w=.ok (.agg #[xj ⟨#[114,117,108,101]⟩,xd xh 5]) w:=zk
def QA(w:Uc):(Instr.index 321 (.agg qt) (xd xh 2)).run prog w=.ok (.agg #[xj ⟨#[116,114,117,101]⟩,xd xh 6]) w:=zk
def QB(w:Uc):(Instr.index 321 (.agg qt) (xd xh 3)).run prog w=.ok (.agg #[xj ⟨#[102,97,108,115,101]⟩,xd xh 7]) w:=zk
def QC(w:Uc):(Instr.index 321 (.agg qt) (xd xh 4)).run prog w=.ok (.agg #[xj ⟨#[101,110,100]⟩,xd xh 8]) w:=zk
def vE(s:Ub)(J:GV w):Calls prog 171 #[xj s] w λe w'=>e=xm (xd xh (jC s.toList:Nat))/\XL w w':=by
 obtain⟨t,m,hg⟩:=J.ws;clear J;rw[Hl];go_in
 go_wp2_with (refine wpList_load_row rfl 321 _ rfl 2 rfl t _ m _ hg underlying321 rfl zk ?_)
 clear hg
 go_loopw [6] (λi wr=>∃z:Int,i=xd xh z/\0<=z/\z<=5/\Hid (SZ s.toList MV=SZ s.toList (MV.drop z.toNat))/\XL w wr) (λi _=>(5-intOf i).toNat)
 .exact⟨0,rfl,zo,zo,rfl,XF⟩
 obtain⟨z,rfl,h0,h5,H,U⟩:=hrel;have I:=fy U;clear U;have hz:z=0\/z=1\/z=2\/z=3\/z=4\/z=5:=zo;clear h0 h5;have i0:=Qy;have i1:=Qz;have i2:=QA;have i3:=QB;have i4:=QC;rcases hz with rfl|rfl|rfl|rfl|rfl|rfl
 all_goals go_wp2_with fail
 all_goals first
  |(go_ret;refine⟨oH ?_,by first|exact I.out|exact I.out.alloc I.out.size _⟩;rw[H.out];first|rfl|(simp_all [SZ,MV];done))
  |(go_round;(case rel=>exact⟨_,rfl,zp,zp,H.out.trans (T' (by intro h;simp_all)),by first|exact I.out|exact I.out.alloc I.out.size _⟩);decide)
def AR(s:Ub)(j:Nat):(s.extract j s.size).data.toList=s.data.toList.drop j:=by
 rw[V1,UF zp]
def Jt(s:Ub)(j:Nat):j+gV GE (s.extract j s.size) 0=gV GE s j:=by
 unfold gV;rw[AR,Vt];omega
def zn{l:T9}(h:a.data.toList=l):a=⟨l.toArray⟩:=by
 cases a with
 |mk d=>simp at h;subst h;simp
theorem lQ{b:Ub}(h:a.data.toList=b.data.toList):a=b:=(zn h).trans (zn rfl).symm
def Dj(s:Ub)(j n:Nat)(_:j+n<=s.size):(s.extract j s.size).extract 0 n=s.extract j (j+n):=by
 apply lQ;simp_all
def qk:List (T9 × Nat):=[([88],9),([78],10),([70],11),([71],12),([85],13),([45,62],14),([124],15),([38],16),([33],17),([40],18),([41],19),([44],20),([59],21)]
def o8(l:T9):List (T9 × Nat)->Option (T9 × Nat)
 |[]=>none
 |x::r=>if l.take x.1.length=x.1 then some x else o8 l r
def JA(s:Ub)(j:Nat):Option (T9 × Nat)->Tk
 |none=>⟨1,s.extract j (j+1),j⟩
 |some x=>⟨x.2,⟨x.1.toArray⟩,j⟩
def yz(c:UInt8):Option (T9 × Nat):=if c=88 then some ([88],9) else if c=78 then some ([78],10) else if c=70 then some ([70],11) else if c=71 then some ([71],12) else if c=85 then some ([85],13) else if c=124 then some ([124],15) else if c=38 then some ([38],16) else if c=33 then some ([33],17) else if c=40 then some ([40],18) else if c=41 then some ([41],19) else if c=44 then some ([44],20) else if c=59 then some ([59],21) else none
def K6(c:UInt8):yz c=if ju c.toNat=1 then none else some ([c],ju c.toNat):=by
 have aux:∀n:Nat,∀_:n<256,yz (UInt8.ofNat n)=if ju n=1 then none else some ([UInt8.ofNat n],ju n):=by
  intro n hn;exact(by decide+kernel:∀m:Fin 256,yz (UInt8.ofNat m.val)=if ju m.val=1 then none else some ([UInt8.ofNat m.val],ju m.val)) ⟨n,hn⟩
 have:=aux c.toNat (UInt8.toNat_lt c);simp_all
def I3{c:UInt8}{r:T9}(h:(c::r).take 2≠[45,62]):o8 (c::r) qk=yz c:=by
 have I:∀x:UInt8,((c::r).take 1=[x])=(c=x):=λx=>zp
 simp only[o8,qk,yz,UM,Xa,U2,Nat.reduceAdd,I,h,Wh]
def D7{c:UInt8}{r:T9}(h:(c::r).take 2=[45,62]):o8 (c::r) qk=some ([45,62],14):=by
 have hc:c=45:=za;subst hc;have I:∀x:UInt8,((45::r).take 1=[x])=((45:UInt8)=x):=λx=>zp
 simp only[o8,qk,UM,Xa,U2,Nat.reduceAdd,I,h];rfl
def I0(s:Ub)(j:Nat)(h:j<s.size)(hl:GE s[j]=false)(hd:¬ (48<=s[j].toNat/\s[j].toNat<=57)):
  gY s j=JA s j (o8 (s.data.toList.drop j) qk):=by
 rw[Q4 s j h];by_cases ha:(s[j]::s.data.toList.drop (j+1)).take 2=[45,62]
 .rw[D7 ha];have I:j+1<s.size:=by
   rcases UU (j+1) s.size with I|I
   .omega
   rw[UX zv] at ha;simp_all
  rw[Q4 s (j+1) I] at ha;simp at ha;exact AB h za I za
 rw[I3 ha,K6,xB h hl hd ?_]
 .split
  .rename_i J;rw[J];rfl
  show(⟨ju s[j].toNat,s.extract j (j+1),j⟩:Tk)=⟨ju s[j].toNat,⟨[s[j]].toArray⟩,j⟩;rw[zn (mS s j h)]
 rintro⟨J,I,U⟩;apply ha;rw[Q4 s (j+1) I];have e1:s[j]=45:=UInt8.toNat_inj.1 J;have e2:s[j+1]=62:=UInt8.toNat_inj.1 U;simp_all
def jm(t:Tk):Ud:=.agg #[xd xh t.k,xj t.s,xd xh t.p]
def uj(k:Nat):Ub:=⟨((qk.getD k ([],0)).1).toArray⟩
def MP(k:Nat):Nat:=(qk.getD k ([],0)).2
def QM{k:Nat}(h:k<13):k=0\/k=1\/k=2\/k=3\/k=4\/k=5\/k=6\/k=7\/k=8\/k=9\/k=10\/k=11\/k=12:=zo
def QW(k:Nat)(h:k<13)(w:Uc):(Instr.index 310 (.agg sV) (xd xh (k:Int))).run prog w=.ok (.agg #[xj (uj k),xd xh (MP k:Nat)]) w:=by
 rcases QM h with rfl|rfl|rfl|rfl|rfl|rfl|rfl|rfl|rfl|rfl|rfl|rfl|rfl<;>kernel_rfl
def LM(k:Nat):(uj k).toList=(qk.getD k ([],0)).1:=by rw[Ui];rfl
def LN(k:Nat):(uj k).size=(qk.getD k ([],0)).1.length:=zf
def Gp(l:T9)(k:Nat)(h:k<13):o8 l (qk.drop k)=if (l.take (uj k).size==(uj k).toList)=true then some ((uj k).toList,MP k) else o8 l (qk.drop (k+1)):=by
 have I:k<qk.length:=h;have e:qk.drop k=qk.getD k ([],0)::qk.drop (k+1):=by
  rw[UK I];simp[List.getD,Uq I]
 rw[e,o8,LN,LM];simp only[VE];rfl
def Eu(s:Ub)(j:Nat)(w:Uc)(hs:s.size<=maxLen)(hj:j<s.size)(hG:GV w):
  Calls prog 152 #[xj s,xd xh j] w λe w'=>e=xm (jm (gY s j))/\XL w w':=by
 unfold maxLen at hs;have aw:=Jt s j;have ai:=AR s j;have av:=Dj s j;have aC:(s.extract j s.size).size<=s.size-j/\s.size-j<=(s.extract j s.size).size:=zp;obtain⟨hrs1,hrs2⟩:=aC;have au:∀h:0<(s.extract j s.size).size,(s.extract j s.size)[0]=s[j]:=by
  intro h;have h1:=Q4 (s.extract j s.size) 0 h;rw[Vt,ai,Q4 s j hj] at h1;simp_all
 have ax:=fy ai;have ao:=fy av;have ag:=fy aw;clear ai av aw;go_in;go_wp2_with fail;generalize hR:s.extract j s.size=R at *;clear hR;refine(sK R _ (by unfold maxLen;omega)).mono ?_;rintro e w' ⟨rfl,rfl⟩;have hup:=nU GE R 0 (Ux);generalize hn:gV GE R 0=n at *;have HN:=fy hn;clear hn;by_cases hn0:0<n
 .have I:Hid (gY s j=⟨jC (R.extract 0 n).data.toList,R.extract 0 n,j⟩):=by
   show _=_;rw[CV hj (DJ hj (by have:=ag.out;omega)),<-ag.out,ao.out n zo]
  go_wp2_with fail;refine U9 zk ?_;change wpAny _ _ _ _ _ _ _ (Rn _);apply zt0 0 (xj R);apply zt0 1 (xd xh (n:Int));apply zt0 2 (xj (R.extract 0 n));apply zt0 4 (xj R);apply zt0 5 (xd xh (n:Int));apply zt0 6 (xj (R.extract 0 n));apply zt0 7 (xd xh (j:Int));apply zr 3;intro K hK;go_simp
  go_wp2_with (refine(vE _ (hG.later (gC.drew))).mono ?_;rintro e w1 ⟨rfl,hb⟩)
  have hrb:=(hb.block w.heap.size zp).trans (gi _ _);have rc:=EQ hrb;have rf:=gh hrb;apply zt0 8 (.agg #[xd xh (jC (R.extract 0 n).toList:Nat),xj (R.extract 0 n),xd xh (j:Int)]);apply zS 9;refine Vg zk ?_ _;go_wp2_with fail;have J:(((w1.setCell (TU w.heap.size 0) (xd xh (jC (R.extract 0 n).toList:Nat))).setCell (TU w.heap.size 1) (xj (R.extract 0 n))).setCell (TU w.heap.size 2) (xd xh (j:Int))).heap[w.heap.size]?=some (xi #[xd xh (jC (R.extract 0 n).toList:Nat),xj (R.extract 0 n),xd xh (j:Int)] 201 (0,0)):=gj (gj (gj hrb 0 _) 1 _) 2 _;have U:=EQ J;refine py (v:=.agg #[xd xh (jC (R.extract 0 n).toList:Nat),xj (R.extract 0 n),xd xh (j:Int)]) (by simp[results,results152,go_sem,U]) rfl ⟨?_,?_⟩
  .rw[I.out,jm,Ui]
  exact((((gC.drew).trans (hb.mono zp)).setCell (XH) _).setCell (XH) _).setCell (XH) _
 have aA:n=0:=zo;subst aA;have hl:=J2 s j hj (by have:=ag.out;omega);have HL:=fy hl;clear hl;have aB:0<R.size:=zo;have hr00:=au aB;have an:=fy (ao.out 1 zo);clear au;have ad:∀(W:Uc)(a:Int)(b:Ub),W.heap[w.heap.size]?=some (xi #[xd xh 0,xj ⟨#[]⟩,xd xh 0] 201 (0,0))->
   (((W.setCell (TU w.heap.size 0) (xd xh a)).setCell (TU w.heap.size 1) (xj b)).setCell (TU w.heap.size 2) (xd xh (j:Int))).heap[w.heap.size]?=some (xi #[xd xh a,xj b,xd xh (j:Int)] 201 (0,0)):=
  λW a b h=>gj (gj (gj h 0 _) 1 _) 2 _
 have aa:=fy ad;clear ad;by_cases hd:(48:Int)<=(s[j].toNat:Int)/\(s[j].toNat:Int)<=57
 .obtain⟨aq,ay⟩:=hd;go_wp2_with fail;refine py (v:=.agg #[xd xh 3,xj (R.extract 0 1),xd xh (j:Int)]) (by simp[results,results152,go_sem]) rfl ⟨?_,gC⟩;rw[AD hj zo zo,an.out];rfl
 have I:=fy (I0 s j hj HL.out zo);rw[<-ax.out,<-Ui] at I;obtain⟨tt,mm,hg⟩:=hG.rs;have ar:(w.alloc (xi #[xd xh 0,xj ⟨#[]⟩,xd xh 0] 201)).heap[1]?=some (xi sV tt mm):=(XD (dK hg)).trans hg;clear hg;have az:((48:Int)<=(s[j].toNat:Int)/\¬ (s[j].toNat:Int)<=57)\/¬ (48:Int)<=(s[j].toNat:Int):=zo;rcases az with⟨aq,ay⟩|aq
 all_goals
  clear hd
  go_wp2_with (refine wpList_load_row rfl 310 _ rfl 1 rfl tt _ mm _ ar underlying310 rfl zk ?_)
  clear ar
  go_loopw [38] (λi wr=>∃k:Nat,i=xd xh (k:Int)/\k<=13/\Hid (o8 R.toList qk=o8 R.toList (qk.drop k))/\Below (w.heap.size+1) (w.alloc (xi #[xd xh 0,xj ⟨#[]⟩,xd xh 0] 201)) wr) (λi _=>13-(intOf i).toNat)
  case atStart=>exact⟨0,rfl,zo,rfl,XF⟩
  case round=>
   obtain⟨k,rfl,h5,H,hb⟩:=hrel;have hrb:=(hb.block w.heap.size zp).trans (gi _ _);have aD:=dK hrb;have rc:=EQ hrb;have rf:=gh hrb;have HW:=gC.trans (hb.mono zo);by_cases hk:k<13
   .have ik:=QW k hk;have HS:=fy (Gp R.toList k hk)
    go_wp2_with (refine(Bm).mono ?_;rintro e w' ⟨rfl,rfl⟩)
    .have hm:(R.toList.take (uj k).size==(uj k).toList)=true:=by assumption
     have J:=aa.out wr (MP k:Nat) (uj k) hrb;have U:=EQ J;clear rc;refine py (v:=.agg #[xd xh (MP k:Nat),xj (uj k),xd xh (j:Int)]) (by simp[results,results152,go_sem,U,aD]) rfl ⟨?_,?_⟩
     .rw[I.out,H.out,HS.out,Uh hm,JA,jm,Ui]
     exact((((HW.setCell (XH) _).setCell (XH) _).setCell (XH) _).alloc (by simp[Ri];omega) _)
    have hm:(R.toList.take (uj k).size==(uj k).toList)=false:=by assumption
    go_round
    .exact⟨k+1,zf,zo,H.out.trans (HS.out.trans (T' za)),hb.alloc zo _⟩
    simp[intOf];omega
   have ae:k=13:=zo;have HK:=fy ae;clear ae;go_wp2_with fail;have J:=aa.out wr 1 (R.extract 0 1) hrb;have U:=EQ J;clear rc;refine py (v:=.agg #[xd xh 1,xj (R.extract 0 1),xd xh (j:Int)]) (by simp[results,results152,go_sem,U]) rfl ⟨?_,?_⟩
   .rw[I.out,H.out,HK.out,an.out];rfl
   exact(((HW.setCell (XH) _).setCell (XH) _).setCell (XH) _)
def Sb(w:Uc)(lb:Nat)(ins:Bool)(ev:Ub)(more:Bool)(nx hr:Nat):Prop:=w.heap[lb]?=some (xi #[xn ins,xj ev,xn more,xd .u32 (nx:Int),xd .u32 (hr:Int)] 277 (0,0))
def Qs:∀n,XL w (w.drewN n):=λ_=>⟨rfl,rfl,rfl,XH,λ_ _=>rfl⟩
def Pd(w:Uc){ins:Bool}{more:Bool}(s:Ub)(i a b:Nat)(h:Sb w lb ins ev more nx hr)(hnx:nx<4294967296)(hhr:hr<4294967296)(hi:i<=31)(ha:a<=31)(hb:b<=31):
  Calls prog 197 #[xk (TT lb),xd xh (i:Int),.agg #[xd xh 0,xj s,xd xh (a:Int),xd xh (b:Int)]] w λe w'=>e=xm (xn (jl 0 ins more (ev.toList==s.toList) (hr.testBit a) (hr.testBit b) (nx.testBit a) (nx.testBit i)))/\XL w w':=by
 have bc:=EQ h;have hlt:=dK h;clear h;cases ins
 .go_in;go_wp2;go_quiet (fail);exact zm9
 go_in;go_wp2;go_quiet (fail);exact zm9
def NH(w:Uc){ins:Bool}{more:Bool}(s:Ub)(i a b:Nat)(h:Sb w lb ins ev more nx hr)(hnx:nx<4294967296)(hhr:hr<4294967296)(hi:i<=31)(ha:a<=31)(hb:b<=31):
  Calls prog 197 #[xk (TT lb),xd xh (i:Int),.agg #[xd xh 1,xj s,xd xh (a:Int),xd xh (b:Int)]] w λe w'=>e=xm (xn (jl 1 ins more (ev.toList==s.toList) (hr.testBit a) (hr.testBit b) (nx.testBit a) (nx.testBit i)))/\XL w w':=by
 exact zm92
def K5(w:Uc){ins:Bool}{more:Bool}(s:Ub)(i a b:Nat)(h:Sb w lb ins ev more nx hr)(hnx:nx<4294967296)(hhr:hr<4294967296)(hi:i<=31)(ha:a<=31)(hb:b<=31):
  Calls prog 197 #[xk (TT lb),xd xh (i:Int),.agg #[xd xh 2,xj s,xd xh (a:Int),xd xh (b:Int)]] w λe w'=>e=xm (xn (jl 2 ins more (ev.toList==s.toList) (hr.testBit a) (hr.testBit b) (nx.testBit a) (nx.testBit i)))/\XL w w':=by
 exact zm92
def Pf(w:Uc){ins:Bool}{more:Bool}(s:Ub)(i a b:Nat)(h:Sb w lb ins ev more nx hr)(hnx:nx<4294967296)(hhr:hr<4294967296)(hi:i<=31)(ha:a<=31)(hb:b<=31):
  Calls prog 197 #[xk (TT lb),xd xh (i:Int),.agg #[xd xh 3,xj s,xd xh (a:Int),xd xh (b:Int)]] w λe w'=>e=xm (xn (jl 3 ins more (ev.toList==s.toList) (hr.testBit a) (hr.testBit b) (nx.testBit a) (nx.testBit i)))/\XL w w':=by
 exact zm92
def Ph(w:Uc){ins:Bool}{more:Bool}(s:Ub)(i a b:Nat)(h:Sb w lb ins ev more nx hr)(hnx:nx<4294967296)(I:hr<4294967296)(hi:i<=31)(J:a<=31)(hb:b<=31):
  Calls prog 197 #[xk (TT lb),xd xh (i:Int),.agg #[xd xh 4,xj s,xd xh (a:Int),xd xh (b:Int)]] w λe w'=>e=xm (xn (jl 4 ins more (ev.toList==s.toList) (hr.testBit a) (hr.testBit b) (nx.testBit a) (nx.testBit i)))/\XL w w':=by
 have bc:=EQ h;have hlt:=dK h;clear h;cases h1:hr.testBit a
 .go_in;go_wp2;go_quiet (first|(go_at_call_of 168 a;exact WS (ic I J h1)));exact zm9
 go_in;go_wp2;go_quiet (first|(go_at_call_of 168 a;exact WS (ic I J h1)));exact zm9
def Pe(w:Uc){ins:Bool}{more:Bool}(s:Ub)(i a b:Nat)(h:Sb w lb ins ev more nx hr)(hnx:nx<4294967296)(I:hr<4294967296)(hi:i<=31)(J:a<=31)(U:b<=31):
  Calls prog 197 #[xk (TT lb),xd xh (i:Int),.agg #[xd xh 10,xj s,xd xh (a:Int),xd xh (b:Int)]] w λe w'=>e=xm (xn (jl 10 ins more (ev.toList==s.toList) (hr.testBit a) (hr.testBit b) (nx.testBit a) (nx.testBit i)))/\XL w w':=by
 have bc:=EQ h;have hlt:=dK h;clear h;cases h1:hr.testBit a
 .go_in;go_wp2;go_quiet (first|(go_at_call_of 168 a;exact WS (ic I J h1)));exact zm9
 cases h2:hr.testBit b
 .go_in;go_wp2;go_quiet (first|(go_at_call_of 168 a;exact WS (ic I J h1))|(go_at_call_of 168 b;exact WS (ic I U h2)));exact zm9
 go_in;go_wp2;go_quiet (first|(go_at_call_of 168 a;exact WS (ic I J h1))|(go_at_call_of 168 b;exact WS (ic I U h2)));exact zm9
def P5(w:Uc){ins:Bool}{more:Bool}(s:Ub)(i a b:Nat)(h:Sb w lb ins ev more nx hr)(hnx:nx<4294967296)(I:hr<4294967296)(hi:i<=31)(J:a<=31)(U:b<=31):
  Calls prog 197 #[xk (TT lb),xd xh (i:Int),.agg #[xd xh 11,xj s,xd xh (a:Int),xd xh (b:Int)]] w λe w'=>e=xm (xn (jl 11 ins more (ev.toList==s.toList) (hr.testBit a) (hr.testBit b) (nx.testBit a) (nx.testBit i)))/\XL w w':=by
 have bc:=EQ h;have hlt:=dK h;clear h;cases h1:hr.testBit a
 .cases h2:hr.testBit b
  .go_in;go_wp2;go_quiet (first|(go_at_call_of 168 a;exact WS (ic I J h1))|(go_at_call_of 168 b;exact WS (ic I U h2)));exact zm9
  go_in;go_wp2;go_quiet (first|(go_at_call_of 168 a;exact WS (ic I J h1))|(go_at_call_of 168 b;exact WS (ic I U h2)));exact zm9
 go_in;go_wp2;go_quiet (first|(go_at_call_of 168 a;exact WS (ic I J h1)));exact zm9
def Pg(w:Uc){ins:Bool}{more:Bool}(s:Ub)(i a b:Nat)(h:Sb w lb ins ev more nx hr)(hnx:nx<4294967296)(I:hr<4294967296)(hi:i<=31)(J:a<=31)(U:b<=31):
  Calls prog 197 #[xk (TT lb),xd xh (i:Int),.agg #[xd xh 12,xj s,xd xh (a:Int),xd xh (b:Int)]] w λe w'=>e=xm (xn (jl 12 ins more (ev.toList==s.toList) (hr.testBit a) (hr.testBit b) (nx.testBit a) (nx.testBit i)))/\XL w w':=by
 have bc:=EQ h;have hlt:=dK h;clear h;cases h1:hr.testBit a
 .go_in;go_wp2;go_quiet (first|(go_at_call_of 168 a;exact WS (ic I J h1)));exact zm9
 cases h2:hr.testBit b
 .go_in;go_wp2;go_quiet (first|(go_at_call_of 168 a;exact WS (ic I J h1))|(go_at_call_of 168 b;exact WS (ic I U h2)));exact zm9
 go_in;go_wp2;go_quiet (first|(go_at_call_of 168 a;exact WS (ic I J h1))|(go_at_call_of 168 b;exact WS (ic I U h2)));exact zm9
def NU(w:Uc){ins:Bool}{more:Bool}(s:Ub)(i a b:Nat)(h:Sb w lb ins ev more nx hr)(I:nx<4294967296)(hhr:hr<4294967296)(hi:i<=31)(J:a<=31)(hb:b<=31):
  Calls prog 242 #[xk (TT lb),xd xh (i:Int),.agg #[xd xh 5,xj s,xd xh (a:Int),xd xh (b:Int)]] w λe w'=>e=xm (xn (jl 5 ins more (ev.toList==s.toList) (hr.testBit a) (hr.testBit b) (nx.testBit a) (nx.testBit i)))/\XL w w':=by
 have bc:=EQ h;have hlt:=dK h;clear h;cases more
 .go_in;go_wp2;go_quiet (fail);exact zm9
 cases h1:nx.testBit a
 .go_in;go_wp2;go_quiet (first|(exact WS (ic I J h1)));exact zm9
 go_in;go_wp2;go_quiet (first|(exact WS (ic I J h1)));exact zm9
def NV(w:Uc){ins:Bool}{more:Bool}(s:Ub)(i a b:Nat)(h:Sb w lb ins ev more nx hr)(I:nx<4294967296)(hhr:hr<4294967296)(hi:i<=31)(J:a<=31)(hb:b<=31):
  Calls prog 242 #[xk (TT lb),xd xh (i:Int),.agg #[xd xh 6,xj s,xd xh (a:Int),xd xh (b:Int)]] w λe w'=>e=xm (xn (jl 6 ins more (ev.toList==s.toList) (hr.testBit a) (hr.testBit b) (nx.testBit a) (nx.testBit i)))/\XL w w':=by
 have bc:=EQ h;have hlt:=dK h;clear h;cases more
 .go_in;go_wp2;go_quiet (fail);exact zm9
 cases h1:nx.testBit a
 .go_in;go_wp2;go_quiet (first|(exact WS (ic I J h1)));exact zm9
 go_in;go_wp2;go_quiet (first|(exact WS (ic I J h1)));exact zm9
def Pr(w:Uc){ins:Bool}{more:Bool}(s:Ub)(i a b:Nat)(h:Sb w lb ins ev more nx hr)(J:nx<4294967296)(I:hr<4294967296)(hi:i<=31)(U:a<=31)(hb:b<=31):
  Calls prog 242 #[xk (TT lb),xd xh (i:Int),.agg #[xd xh 7,xj s,xd xh (a:Int),xd xh (b:Int)]] w λe w'=>e=xm (xn (jl 7 ins more (ev.toList==s.toList) (hr.testBit a) (hr.testBit b) (nx.testBit a) (nx.testBit i)))/\XL w w':=by
 have bc:=EQ h;have hlt:=dK h;clear h;cases ins
 .go_in;go_wp2;go_quiet (fail);exact zm9
 cases h1:hr.testBit a
 .cases h2:nx.testBit i
  .go_in;go_wp2;go_quiet (first|(go_at_call_of 168 a;exact WS (ic I U h1))|(go_at_call_of 168 i;exact WS (ic J hi h2)));exact zm9
  go_in;go_wp2;go_quiet (first|(go_at_call_of 168 a;exact WS (ic I U h1))|(go_at_call_of 168 i;exact WS (ic J hi h2)));exact zm9
 go_in;go_wp2;go_quiet (first|(go_at_call_of 168 a;exact WS (ic I U h1)));exact zm9
def NT(w:Uc){ins:Bool}{more:Bool}(s:Ub)(i a b:Nat)(h:Sb w lb ins ev more nx hr)(J:nx<4294967296)(I:hr<4294967296)(hi:i<=31)(U:a<=31)(hb:b<=31):
  Calls prog 242 #[xk (TT lb),xd xh (i:Int),.agg #[xd xh 8,xj s,xd xh (a:Int),xd xh (b:Int)]] w λe w'=>e=xm (xn (jl 8 ins more (ev.toList==s.toList) (hr.testBit a) (hr.testBit b) (nx.testBit a) (nx.testBit i)))/\XL w w':=by
 have bc:=EQ h;have hlt:=dK h;clear h;cases ins
 .go_in;go_wp2;go_quiet (fail);exact zm9
 cases h1:hr.testBit a
 .go_in;go_wp2;go_quiet (first|(go_at_call_of 168 a;exact WS (ic I U h1)));exact zm9
 cases h2:nx.testBit i
 .go_in;go_wp2;go_quiet (first|(go_at_call_of 168 a;exact WS (ic I U h1))|(go_at_call_of 168 i;exact WS (ic J hi h2)));exact zm9
 go_in;go_wp2;go_quiet (first|(go_at_call_of 168 a;exact WS (ic I U h1))|(go_at_call_of 168 i;exact WS (ic J hi h2)));exact zm9
def Lj(w:Uc){ins:Bool}{more:Bool}(s:Ub)(i a b:Nat)(h:Sb w lb ins ev more nx hr)(J:nx<4294967296)(I:hr<4294967296)(hi:i<=31)(ha:a<=31)(U:b<=31):
  Calls prog 242 #[xk (TT lb),xd xh (i:Int),.agg #[xd xh 9,xj s,xd xh (a:Int),xd xh (b:Int)]] w λe w'=>e=xm (xn (jl 9 ins more (ev.toList==s.toList) (hr.testBit a) (hr.testBit b) (nx.testBit a) (nx.testBit i)))/\XL w w':=by
 have bc:=EQ h;have hlt:=dK h;clear h;cases ins
 .go_in;go_wp2;go_quiet (fail);exact zm9
 cases h1:hr.testBit b
 .cases h2:hr.testBit a
  .go_in;go_wp2;go_quiet (first|(go_at_call_of 168 b;exact WS (ic I U h1))|(go_at_call_of 168 a;exact WS (ic I ha h2)));exact zm9
  cases h3:nx.testBit i
  .go_in;go_wp2;go_quiet (first|(go_at_call_of 168 b;exact WS (ic I U h1))|(go_at_call_of 168 a;exact WS (ic I ha h2))|(go_at_call_of 168 i;exact WS (ic J hi h3)));exact zm9
  go_in;go_wp2;go_quiet (first|(go_at_call_of 168 b;exact WS (ic I U h1))|(go_at_call_of 168 a;exact WS (ic I ha h2))|(go_at_call_of 168 i;exact WS (ic J hi h3)));exact zm9
 go_in;go_wp2;go_quiet (first|(go_at_call_of 168 b;exact WS (ic I U h1)));exact zm9
def jV(a b:Int)(s:Ub)(c:Int)(o:TX)(n k:Nat)(d:Int)(p:TX):Ud:=
 .agg #[xd xh a,xd .u8 b,xj s,xd xh c,xa o n k,xd xh d,xk p]
def Ss(w:Uc)(r:Rl)(a b:Int)(s:Ub)(c:Int)(o:TX)(n k:Nat)(d:Int)(p:TX):Prop:=
 a=r.pl/\(if r.call=true then b=gR r.word.k/\s=r.word.s/\c=r.word.p/\w.ownsRow 0 232 3 (xa o n k) r.args.length (iP r.args)/\d=r.fin/\p=none
  else Q9 w r.f p/\p.isSome=true)
def BF(L:TY)(pb g cap:Nat)(w w':Uc)(e:Ending)(x:Except Nat (Rl × TY)):Prop:=
 w.grownBy w' (some pb)/\∃a b s c o n k d p,e=xm (jV a b s c o n k d p)/\(match x with
  |.ok (r,l)=>Ss w' r a b s c o n k d p/\∃j,L.drop j=l/\PS w' pb g cap L j false
  |.error q=>∃j,ig (L.drop j)=q/\PS w' pb g cap L j true)
def mW:∀n aa f l I U,(5<=aa->f≠ .nil)->pf n aa f l=.ok (I,U)->I≠ .nil
 |0,_,_,_,_,_,_,h=>zv
 |n+1,0,f,l,I,U,_,h=>by
  rw[pf] at h
  split at h
  .cases h
  rename_i a l1 e
  have h1:=mW n 1 .nil l a l1 zo e
  split at h
  .split at h
   .cases h
   cases h;intro J;cases J
  simp_all
 |n+1,1,f,l,I,U,_,h=>by
  rw[pf] at h
  split at h
  .cases h
  rename_i a l1 e
  exact mW n 5 a l1 I U (λ_=>mW n 2 .nil l a l1 zo e) h
 |n+1,2,f,l,I,U,_,h=>by
  rw[pf] at h
  split at h
  .cases h
  rename_i a l1 e
  exact mW n 6 a l1 I U (λ_=>mW n 3 .nil l a l1 zo e) h
 |n+1,3,f,l,I,U,_,h=>by
  rw[pf] at h
  split at h
  .cases h
  rename_i a l1 e
  have h1:=mW n 4 .nil l a l1 zo e
  split at h
  .split at h
   .cases h
   cases h;intro J;cases J
  simp_all
 |n+1,4,f,l,I,U,_,h=>by
  rw[pf] at h
  split at h
  .split at h
   .cases h
   cases h;intro J;cases J
  split at h
  .split at h
   .cases h
   rename_i a l1 e
   have h1:=mW n 0 .nil l.tail a l1 zo e
   grind
  split at h
  .cases h;intro J;cases J
  split at h
  .cases h;intro J;cases J
  cases h
 |n+1,5,f,l,I,U,hf,h=>by
  rw[pf] at h
  split at h
  .split at h
   .cases h
   exact mW n 5 _ _ I U (λ_=>by intro J;cases J) h
  simp_all
 |n+1,6,f,l,I,U,hf,h=>by
  rw[pf] at h
  split at h
  .split at h
   .cases h
   exact mW n 6 _ _ I U (λ_=>by intro J;cases J) h
  simp_all
 |n+1,k+7,f,l,I,U,hf,h=>by
  rw[pf] at h;simp_all
def Q9.some(h:Q9 w f p)(hn:f≠ .nil):p.isSome=true:=by
 cases f with
 |nil=>trivial
 |node=>grind[Q9]
def Q2(w:Uc)(b ty:Nat):Prop:=∃c m,w.heap[b]?=some (xi c ty m)
def Q2.set{b ty:Nat}(h:Q2 w b ty)(a:Addr)(v:Ud):Q2 (w.setCell a v) b ty:=by
 obtain⟨c,m,h⟩:=h;unfold Q2;simp only[Ri,WB]
 split
 .simp_all
 simp_all
def Q9.set{b ty o:Nat}{v:Ud}(ht:Q2 w b ty)(hne:ty≠292)(hf:Q9 w f p):Q9 (w.setCell (TU b o) v) f p:=
 hf.keep (gp w b o v) (λk c m e=>by grind[Q2])
def yu(x p:Int)(s:Ub)(w:Uc):(Instr.field 232 (.agg #[xd .u8 x,xj s,xd xh p]) 0).run prog w=.ok (xd .u8 x) w:=zk
def Cv(x p:Int)(s:Ub)(w:Uc):(Instr.field 232 (.agg #[xd .u8 x,xj s,xd xh p]) 2).run prog w=.ok (xd xh p) w:=zk
def Dq(w:Uc)(g:Nat)(L:TY)(i:Nat)(h:PS w pb g cap L i false)(ae:gF (L.drop i)≠2):
  Calls prog 248 #[xk (TT pb)] w λe w'=>BF L pb g cap w w' e (gZ (L.drop i)):=by
 obtain⟨t,r,ht,hk⟩:=lY h.ends ae;have hr:(gR t.k !=110)=true:=by rw[qg];simp[hk]
 have HT:=fy ht;have HP:=h;obtain⟨c0,c1,c2⟩:=h.cells;have hp0:=dK h.blk;have HNO:Hid (gF (L.drop i)=t.k):=by show _=_;rw[ht];rfl
 have HK:=fy hk;clear h ht ae hk;have fl0:=yu;go_in;go_wp2_with fail;refine U9 zk ?_;change wpAny _ _ _ _ _ _ _ (Rn _);apply zt0 0 (xk (TT pb));apply zr 1;intro K hK;go_simp
 go_wp2_with (refine(jH (HP.later (by exact(gC.alloc zp _).drew)) HT.out).mono ?_;rintro e w1 ⟨rfl,hb⟩;simp only[ki])
 apply zt0 2 (xd .u8 (gR t.k));apply zt0 3 (xn true);apply zt0 4 (xn true);apply zu 5;apply zu 6;apply zu 7;apply zu 8;apply zu 9;apply zu 10;apply zu 11;apply zu 12;apply zu 13;apply zu 14;apply zu 15;apply zu 16;apply zu 17;apply zt0 18 (xn true);refine Vg zk ?_ _;have HB:=show XL w w1 from((((Uo w.heap.size w).alloc (XH) _).alloc zp _).drew).trans (hb.mono zs)
 have aw:w.heap.size+1<w1.heap.size:=by have:=hb.size;simp at this;omega
 have ag:=
  (hb.block _ zs).trans ((XD zp).trans (gi _ _))
 have ai:w1.heap[w.heap.size+1]?=some (xi #[xd xh 0,xd .u8 0,xj ⟨#[]⟩,xd xh 0,TV,xd xh 0,xk none] 235 (0,0)):=
  (hb.block _ zp).trans (gu zp)
 have an:=HP.later HB;clear hb c0 c1 c2
 go_wp2_with (refine(wD _ _ _ _ _ _ an (XH)).mono ?_)
 rintro e w2 ⟨U,p2,rfl,av⟩;have I:=(U.block w.heap.size zo zs).trans ag;have J:=(U.block (w.heap.size+1) aw zs).trans ai;have rc:=EQ I;have rf:=gh I;have vc:=EQ J;have vf:=gh J;go_wp2_with fail;refine py (v:=jV 0 0 ⟨#[]⟩ 0 none 0 0 0 p2) ?_ rfl ?_
 .exact zm74
 have hgl:=HP.gLt;have ao:=gD (gD (gD (gD (gD (gD (gD (gD ((gE HB (some pb)).trans U) (b:=w.heap.size+1) zo 6 (xk p2)) (XH) 0 (xd xh 0)) (XH) 1 (xd .u8 0)) (XH) 2 (xj ⟨#[]⟩)) (XH) 3 (xd xh 0)) (XH) 4 TV) (XH) 5 (xd xh 0)) (XH) 6 (xk p2);have hkeep:∀j bad,PS w2 pb g cap L j bad->PS ((((((((w2.setCell (TU (w.heap.size+1) 6) (xk p2)).setCell (TU w.heap.size 0) (xd xh 0)).setCell (TU w.heap.size 1) (xd .u8 0)).setCell (TU w.heap.size 2) (xj ⟨#[]⟩)).setCell (TU w.heap.size 3) (xd xh 0)).setCell (TU w.heap.size 4) TV).setCell (TU w.heap.size 5) (xd xh 0)).setCell (TU w.heap.size 6) (xk p2)) pb g cap L j bad:=λj bad hp=>
  (((((((hp.setOther _ _ _ zo zo).setOther _ _ _ zo zo).setOther _ _ _ zo zo).setOther _ _ _ zo zo).setOther _ _ _ zo zo).setOther _ _ _ zo zo).setOther _ _ _ zo zo).setOther _ _ _ zo zo
 have t0:Q2 w2 w.heap.size 235:=⟨_,_,I⟩;have t1:Q2 w2 (w.heap.size+1) 235:=⟨_,_,J⟩;have ar:gZ (L.drop i)=(match pf (6*(L.drop i).length+5) 0 .nil (L.drop i) with| .error q=>.error q| .ok (f,l1)=>.ok (⟨0,false,vz,[],0,f⟩,l1)):=by
  rw[gZ,T' (by grind[gQ])];rfl
 rw[ar];refine⟨ao,0,0,⟨#[]⟩,0,none,0,0,0,p2,rfl,?_⟩;have hx:=av;cases hpf:pf (6*(L.drop i).length+5) 0 .nil (L.drop i) with
 |error q=>
  rw[hpf] at hx
  grind
 |ok x=>
  exact zm35
def Bz(w:Uc)(g:Nat)(L:TY)(i:Nat)(h:PS w pb g cap L i false)(h2:gF (L.drop i)=2)(ad:gF (L.drop i).tail≠18):
  Calls prog 248 #[xk (TT pb)] w λe w'=>BF L pb g cap w w' e (gZ (L.drop i)):=by
 obtain⟨t,u,r,ht,hk⟩:=kH h.ends zp h2;have hr:(gR t.k !=110)=false:=by rw[qg];simp[hk]
 have hu:u.k≠18:=by intro e;rw[ht] at ad;trivial
 have U:=h.ok u (pJ (Hx ht));have h40:(u.s.toList !=[40])=true:=by
  rw[Ui,Xk];by_cases h4:4<=u.k
  .intro e;rw[U.2.1 h4] at e;exact hu (CI U.1 zp h4 zp e)
  exact U.2.2.2 zo
 have HT:=fy ht;have HP:=h;have HK:=fy (show ¬ (gF (L.drop i)=2/\gF (L.drop i).tail=18) from λe=>ad e.2);have hlen:=h.len;have hlt:=h.lt;have hlt1:i+1<L.length:=by have:=congrArg List.length ht;simp at this;omega
 have hp0:=dK h.blk;have hgl0:=h.gLt;have hI:(i:Int)+1<(L.length:Int):=zo;have hI0:(0:Int)<=(i:Int)+1:=zo;have hwr:IntKind.i64.wrap ((i:Int)+1)=(i:Int)+1:=by rw[UR];omega
 have h40':¬ u.s.toList=[40]:=za;clear h ht h2 ad hk hu U;have fl0:=yu;go_in;obtain⟨c0,c1,c2⟩:=HP.cells;go_wp2_with fail;clear c0 c1 c2;refine U9 zk ?_;change wpAny _ _ _ _ _ _ _ (Rn _);apply zt0 0 (xk (TT pb));apply zr 1;intro K hK;go_simp
 go_wp2_with (refine(jH (HP.later (by exact(gC.alloc zp _).drew)) HT.out).mono ?_;rintro e w1 ⟨rfl,hb⟩;simp only[ki])
 have HB:=show XL w w1 from((((Uo w.heap.size w).alloc (XH) _).alloc zp _).drew).trans (hb.mono zs)
 have aa:=HP.later HB;obtain⟨c0,c1,c2⟩:=aa.cells;obtain⟨k0,k1,k2⟩:=aa.tok (i+1) _ _ (Hx HT.out);refine wpAny_of_held (S:=λw'=>w'=w1) _ _ _ _ ?_;refine Uj (i:=2) (v:=xd .u8 (gR t.k)) rfl zk zk zk (λ_ _ _ h=>h) (Rf ⟨zk,λw hw=>by subst hw;go_simp⟩) rfl ?_
 try simp only[Act.put,UT,Ve,Vf,Va,U7,U6]
 refine Uj (i:=3) (v:=xn false) rfl zk zk zk (λ_ _ _ h=>h) (Rf ⟨zk,λw hw=>by subst hw;go_simp⟩) rfl ?_
 try simp only[Act.put,UT,Ve,Vf,Va,U7,U6]
 refine Uj (i:=4) (v:=xn false) rfl zk zk zk (λ_ _ _ h=>h) (Rf ⟨zk,λw hw=>by subst hw;go_simp⟩) rfl ?_
 try simp only[Act.put,UT,Ve,Vf,Va,U7,U6]
 refine Uj (i:=5) (v:=xk (TT pb)) rfl zk zk zk (λ_ _ _ h=>h) (Rf ⟨zk,λw hw=>by subst hw;go_simp⟩) rfl ?_
 try simp only[Act.put,UT,Ve,Vf,Va,U7,U6]
 refine Uj (i:=6) (v:=xk (TT pb)) rfl zk zk zk (λ_ _ _ h=>h) (Rf ⟨zk,λw hw=>by subst hw;go_simp⟩) rfl ?_
 try simp only[Act.put,UT,Ve,Vf,Va,U7,U6]
 refine Uj (i:=7) (v:=xk (TT pb)) rfl zk zk zk (λ_ _ _ h=>h) (Rf ⟨zk,λw hw=>by subst hw;go_simp⟩) rfl ?_
 try simp only[Act.put,UT,Ve,Vf,Va,U7,U6]
 refine Uj (i:=8) (v:=xa (TT g) L.length cap) rfl zk zk zk (λ_ _ _ h=>h) (Rf ⟨zk,λw hw=>by subst hw;go_simp⟩) rfl ?_
 try simp only[Act.put,UT,Ve,Vf,Va,U7,U6]
 refine Uj (i:=9) (v:=xk (TT pb)) rfl zk zk zk (λ_ _ _ h=>h) (Rf ⟨zk,λw hw=>by subst hw;go_simp⟩) rfl ?_
 try simp only[Act.put,UT,Ve,Vf,Va,U7,U6]
 refine Uj (i:=10) (v:=xk (TT pb)) rfl zk zk zk (λ_ _ _ h=>h) (Rf ⟨zk,λw hw=>by subst hw;go_simp⟩) rfl ?_
 try simp only[Act.put,UT,Ve,Vf,Va,U7,U6]
 refine Uj (i:=11) (v:=xk (some (TU pb 1))) rfl zk zk zk (λ_ _ _ h=>h) (Rf ⟨zk,λw hw=>by subst hw;go_simp⟩) rfl ?_
 try simp only[Act.put,UT,Ve,Vf,Va,U7,U6]
 refine Uj (i:=12) (v:=xd xh (i:Int)) rfl zk zk zk (λ_ _ _ h=>h) (Rf ⟨zk,λw hw=>by subst hw;go_simp⟩) rfl ?_
 try simp only[Act.put,UT,Ve,Vf,Va,U7,U6]
 refine Uj (i:=13) (v:=xd xh ((i:Int)+1)) rfl zk zk zk (λ_ _ _ h=>h) (Rf ⟨zk,λw hw=>by subst hw;go_simp⟩) rfl ?_
 try simp only[Act.put,UT,Ve,Vf,Va,U7,U6]
 refine Uj (i:=14) (v:=xk (some (TU g ((i+1)*3)))) rfl zk zk zk (λ_ _ _ h=>h) (Rf ⟨zk,λw hw=>by subst hw;go_simp⟩) rfl ?_
 try simp only[Act.put,UT,Ve,Vf,Va,U7,U6]
 refine Uj (i:=15) (v:=xk (some (TU g ((i+1)*3+1)))) rfl zk zk zk (λ_ _ _ h=>h) (Rf ⟨zk,λw hw=>by subst hw;go_simp⟩) rfl ?_
 try simp only[Act.put,UT,Ve,Vf,Va,U7,U6]
 refine Uj (i:=16) (v:=xj u.s) rfl zk zk zk (λ_ _ _ h=>h) (Rf ⟨zk,λw hw=>by subst hw;go_simp⟩) rfl ?_
 try simp only[Act.put,UT,Ve,Vf,Va,U7,U6]
 refine Uj (i:=17) (v:=xn true) rfl zk zk zk (λ_ _ _ h=>h) (Rf ⟨zk,λw hw=>by subst hw;go_simp⟩) rfl ?_
 try simp only[Act.put,UT,Ve,Vf,Va,U7,U6]
 refine Uj (i:=18) (v:=xn true) rfl zk zk zk (λ_ _ _ h=>h) (Rf ⟨zk,λw hw=>by subst hw;go_simp⟩) rfl ?_
 try simp only[Act.put,UT,Ve,Vf,Va,U7,U6]
 refine Ut zk ?_ _;clear c0 c1 c2 k0 k1 k2;have ax:w.heap.size+1<w1.heap.size:=by have:=hb.size;simp at this;omega
 have aj:=
  (hb.block _ zs).trans ((XD zp).trans (gi _ _))
 have ak:w1.heap[w.heap.size+1]?=some (xi #[xd xh 0,xd .u8 0,xj ⟨#[]⟩,xd xh 0,TV,xd xh 0,xk none] 235 (0,0)):=
  (hb.block _ zp).trans (gu zp)
 clear hb
 go_wp2_with (refine(wD _ _ _ _ _ _ aa (XH)).mono ?_)
 rintro e w2 ⟨ae,p2,rfl,aw⟩;have I:=(ae.block w.heap.size zo zs).trans aj;have J:=(ae.block (w.heap.size+1) ax zs).trans ak;have rc:=EQ I;have rf:=gh I;have vc:=EQ J;have vf:=gh J;go_wp2_with fail;refine py (v:=jV 0 0 ⟨#[]⟩ 0 none 0 0 0 p2) ?_ rfl ?_
 .exact zm74
 have au:=gD (gD (gD (gD (gD (gD (gD (gD ((gE HB (some pb)).trans ae) (b:=w.heap.size+1) zo 6 (xk p2)) (XH) 0 (xd xh 0)) (XH) 1 (xd .u8 0)) (XH) 2 (xj ⟨#[]⟩)) (XH) 3 (xd xh 0)) (XH) 4 TV) (XH) 5 (xd xh 0)) (XH) 6 (xk p2);have hkeep:∀j bad,PS w2 pb g cap L j bad->PS ((((((((w2.setCell (TU (w.heap.size+1) 6) (xk p2)).setCell (TU w.heap.size 0) (xd xh 0)).setCell (TU w.heap.size 1) (xd .u8 0)).setCell (TU w.heap.size 2) (xj ⟨#[]⟩)).setCell (TU w.heap.size 3) (xd xh 0)).setCell (TU w.heap.size 4) TV).setCell (TU w.heap.size 5) (xd xh 0)).setCell (TU w.heap.size 6) (xk p2)) pb g cap L j bad:=λj bad hp=>
  (((((((hp.setOther _ _ _ zo zo).setOther _ _ _ zo zo).setOther _ _ _ zo zo).setOther _ _ _ zo zo).setOther _ _ _ zo zo).setOther _ _ _ zo zo).setOther _ _ _ zo zo).setOther _ _ _ zo zo
 have t0:Q2 w2 w.heap.size 235:=⟨_,_,I⟩;have t1:Q2 w2 (w.heap.size+1) 235:=⟨_,_,J⟩;have av:gZ (L.drop i)=(match pf (6*(L.drop i).length+5) 0 .nil (L.drop i) with| .error q=>.error q| .ok (f,l1)=>.ok (⟨0,false,vz,[],0,f⟩,l1)):=by
  rw[gZ,T' HK.out];rfl
 rw[av];refine⟨au,0,0,⟨#[]⟩,0,none,0,0,0,p2,rfl,?_⟩;have hx:=aw;cases hpf:pf (6*(L.drop i).length+5) 0 .nil (L.drop i) with
 |error q=>
  rw[hpf] at hx
  grind
 |ok x=>
  exact zm35
def PR(L:TY)(pb g cap i:Nat)(w w':Uc)(e:Ending):Prop:=
 w.grownBy w' (some pb)/\∃a b s c o n k d p,e=xm (jV a b s c o n k d p)/\PS w' pb g cap L i true
def oi{row:Ua}(h:w.grownBy w' row)(b:Nat)(I:w.heap.size<=b)(v0 v1 v2 v3 v4 v5 v6:Ud):
  w.grownBy (((((((w'.setCell (TU b 0) v0).setCell (TU b 1) v1).setCell (TU b 2) v2).setCell (TU b 3) v3).setCell (TU b 4) v4).setCell (TU b 5) v5).setCell (TU b 6) v6) row:=
 gD (gD (gD (gD (gD (gD (gD h I 0 v0) I 1 v1) I 2 v2) I 3 v3) I 4 v4) I 5 v5) I 6 v6
def PS.set7{g:Nat}(h:PS w pb g cap L i bad)(b:Nat)(I:b≠pb)(J:b≠g)(v0 v1 v2 v3 v4 v5 v6:Ud):
  PS (((((((w.setCell (TU b 0) v0).setCell (TU b 1) v1).setCell (TU b 2) v2).setCell (TU b 3) v3).setCell (TU b 4) v4).setCell (TU b 5) v5).setCell (TU b 6) v6) pb g cap L i bad:=
 ((((((h.setOther b 0 v0 I J).setOther b 1 v1 I J).setOther b 2 v2 I J).setOther b 3 v3 I J).setOther b 4 v4 I J).setOther b 5 v5 I J).setOther b 6 v6 I J
def Jy(w:Uc)(g:Nat)(L:TY)(i:Nat)(h:PS w pb g cap L i true):
  Calls prog 248 #[xk (TT pb)] w λe w'=>PR L pb g cap i w w' e:=by
 obtain⟨c0,c1,c2⟩:=h.cells;have hp0:=dK h.blk;go_in;go_wp2_with fail;refine py (v:=jV 0 0 ⟨#[]⟩ 0 none 0 0 0 none) ?_ rfl ⟨?_,0,0,⟨#[]⟩,0,none,0,0,0,none,rfl,?_⟩
 .simp[results,results248,go_sem,jV]
 .exact gL (gL (U4 _ _))
 exact(h.alloc _).alloc _
def gy{base e:Nat}{v:Ud}{row:Ua}(h:w.ownsRow base e size v n xs)(hg:w.grownBy w' row)(I:v.ownBlock=none\/v.ownBlock≠row):w'.ownsRow base e size v n xs:=by
 obtain⟨U,J⟩:=h;refine⟨U,?_⟩;rcases J with J|⟨g,cap,cur,hv,hgb,hh,r⟩
 .simp_all
 refine Rj ⟨g,cap,cur,hv,hgb,?_,r⟩;rw[hg.block g (dK hh) ?_];exact hh;subst hv;rcases I with I|I
 .trivial
 trivial
theorem im{base base' e:Nat}{v:Ud}(h:w.ownsRow base e size v n xs)(U:base'<=base):w.ownsRow base' e size v n xs:=by
 obtain⟨J,I⟩:=h;refine⟨J,?_⟩;rcases I with I|⟨g,cap,cur,hv,hgb,hh,r⟩
 .simp_all
 exact Rj ⟨g,cap,cur,hv,UP U hgb,hh,r⟩
def Jq(k:Nat):(gR k !=100)= !(k==3):=by
 grind[gR]
def Dl{v y:Tk}(ht:L.drop i=t::u::v::r0)(hk:t.k=2)(hu:u.k=18)(hj:j4=if (!false&&v.k==2)=true then i+1+1+1 else i+1+1)
  (hb:b4= !(!false&&v.k==2))(hy:L.drop j4=y::r1)(h6:false=(!b4&&y.k==20)):
  ((!b4&&y.k==19)=true->gZ (L.drop i)=.ok (⟨0,true,t,[v],y.p,.nil⟩,L.drop (j4+1)))/\((!b4&&y.k==19)=false->gZ (L.drop i)=.error (ig (L.drop j4))):=by
 grind[Hx,gF,gZ,lg,ig]
def Dp{v y z:Tk}(ht:L.drop i=t::u::v::r0)(hk:t.k=2)(hu:u.k=18)(hj:j4=if (!false&&v.k==2)=true then i+1+1+1 else i+1+1)
  (hb:b4= !(!false&&v.k==2))(hy:L.drop j4=y::r1)(h6:true=(!b4&&y.k==20))(hz:L.drop (j4+1)=z::r2):
  (¬ (z.k=2\/z.k=3)->gZ (L.drop i)=.error (ig (L.drop (j4+1))))/\
  ((z.k=2\/z.k=3)->gF (L.drop (j4+1+1))=19->gZ (L.drop i)=.ok (⟨0,true,t,[v,z],ig (L.drop (j4+1+1)),.nil⟩,L.drop (j4+1+1+1)))/\
  ((z.k=2\/z.k=3)->gF (L.drop (j4+1+1))≠19->gZ (L.drop i)=.error (ig (L.drop (j4+1+1)))):=by
 have h2:=Hx (Hx ht);have h3:=Hx h2;have e1:gF (t::u::v::r0)=2/\gF (t::u::v::r0).tail=18:=⟨hk,hu⟩;have J:b4=false:=by grind
 have hv:v.k=2:=by rw[J] at hb;simpa using hb
 have ad:j4=i+1+1+1:=by rw[hj];simp[hv]
 subst ad;have aa:y.k=20:=by rw[J] at h6;simpa using h6
 have ag:r1=z::r2:=by rw[<-Hx hy];omega
 have U:=Hx hz;have ae:r0=y::z::r2:=by rw[<-h3,hy,ag]
 rw[hz,U,ht,gZ,Uh e1,ae];refine⟨λh=>?_,λh I=>?_,λh I=>?_⟩
 .grind[gF]
 .have hd:L.drop (i+1+1+1+1+1+1)=r2.tail:=by rw[<-U,WC]
  rw[Uh (show gF (t::u::v::y::z::r2).tail.tail=2 from hv),Uh (show gF (t::u::v::y::z::r2).tail.tail.tail=20 from aa),Uh (show gF (t::u::v::y::z::r2).tail.tail.tail.tail=2\/gF (t::u::v::y::z::r2).tail.tail.tail.tail=3 from h),Uh (show gF (t::u::v::y::z::r2).tail.tail.tail.tail.tail=19 from I),hd];rfl
 grind[gF]
def PS.grown{g:Nat}(h:PS w pb g cap L i bad){row:Ua}(hg:w.grownBy w' row)(I:some pb≠row)(J:some g≠row):PS w' pb g cap L i bad:=by
 obtain⟨cur,r1,r2⟩:=h.row;exact⟨by rw[hg.block pb (dK h.blk) I];exact h.blk,⟨cur,by rw[hg.block g (dK r1) J];omega,r2⟩,h.le,h.capLe,h.len,h.lt,h.ends,h.ok⟩
def CA(w':Uc)(b:Nat)(v0 v1 v2 v3 v4 v5 v6:Ud):
  w'.grownBy (((((((w'.setCell (TU b 0) v0).setCell (TU b 1) v1).setCell (TU b 2) v2).setCell (TU b 3) v3).setCell (TU b 4) v4).setCell (TU b 5) v5).setCell (TU b 6) v6) (some b):=
 ((((((gp _ b 0 v0).trans (gp _ b 1 v1)).trans (gp _ b 2 v2)).trans (gp _ b 3 v3)).trans (gp _ b 4 v4)).trans (gp _ b 5 v5)).trans (gp _ b 6 v6)
def C6{g:Nat}(h:PS w pb g cap L i bad)(J:L.drop i=t::r)(hj:j=if (!bad&&t.k==2)=true then i+1 else i)(I:bad'= !(!bad&&t.k==2)):
  Calls prog 246 #[xk (TT pb)] w λe w'=>e=xm (ki t)/\PS w' pb g cap L j bad'/\w.grownBy w' (some pb):=by
 subst hj I;cases hb:(!bad&&t.k==2) with
 |true=>
  simp only[Vu,WY,VE] at hb;obtain⟨rfl,hk⟩:=hb;obtain⟨u,U,rfl⟩:=(by have:=h.ends;rw[J] at this;exact this.more zo:∃u U,r=u::U);exact C7 h J hk
 |false=>
  refine NO w g L i t r h J ?_
  grind
def DH{s:Ub}{k:Nat}{g:Nat}(h:PS w pb g cap L i bad)(J:L.drop i=t::r)
  (hs:s.data.toList=lH k)(U:4<=k)(I:k<=21)(hbb:b=(!bad&&t.k==k))(hj:j=if (!bad&&t.k==k)=true then i+1 else i):
  Calls prog 247 #[xk (TT pb),xj s] w λe w'=>e=xm (xn b)/\PS w' pb g cap L j bad/\w.grownBy w' (some pb):=by
 subst hj hbb;cases hb:(!bad&&t.k==k) with
 |true=>
  simp only[Vu,WY,VE] at hb;obtain⟨rfl,he⟩:=hb;obtain⟨u,r',rfl⟩:=(by have:=h.ends;rw[J] at this;exact this.more zo:∃u r',r=u::r');exact pQ h J hs U I he
 |false=>
  refine nh k h J hs U I ?_
  grind
def nE{s:Ub}{k:Nat}{g:Nat}(h:PS w pb g cap L i bad)(U:L.drop i=t::r)
  (hs:s.data.toList=lH k)(hk:4<=k)(I:k<=21)(hj:j=if (!bad&&t.k==k)=true then i+1 else i)(J:bad'= !(!bad&&t.k==k)):
  Calls prog 245 #[xk (TT pb),xj s] w λe w'=>e=xm (.tuple #[])/\PS w' pb g cap L j bad'/\w.grownBy w' (some pb):=by
 subst hj J;cases hb:(!bad&&t.k==k) with
 |true=>
  simp only[Vu,WY,VE] at hb;obtain⟨rfl,he⟩:=hb;obtain⟨u,r',rfl⟩:=(by have:=h.ends;rw[U] at this;exact this.more zo:∃u r',r=u::r');exact xC h U hs hk I he
 |false=>
  refine zL k h U hs hk I ?_
  grind
def Jx(w:Uc)(g:Nat)(L:TY)(i:Nat)(t u v:Tk)(h:PS w pb g cap L i false)(ht:L.drop i=t::u::v::r0)(hk:t.k=2)(hu:u.k=18):
  Calls prog 248 #[xk (TT pb)] w λe w'=>BF L pb g cap w w' e (gZ (L.drop i)):=by
 have hr:(gR t.k !=110)=false:=by rw[qg];simp[hk]
 have b9:=h.ok u (pJ (Hx ht));have h40':u.s.toList=[40]:=by rw[Ui,b9.2.1 zo,hu];rfl
 have HT:=fy ht;have HP:=h;have bm:=fy hk;have bn:=fy hu;have hlen:=h.len;have hlt:=h.lt;have hlt1:i+1<L.length:=by have:=congrArg List.length ht;simp at this;omega
 have hp0:=dK h.blk;have hgl0:=h.gLt;have hI:(i:Int)+1<(L.length:Int):=zo;have hI0:(0:Int)<=(i:Int)+1:=zo;have hwr:IntKind.i64.wrap ((i:Int)+1)=(i:Int)+1:=by rw[UR];omega
 clear h ht hk hu b9;have fl0:=yu;have fl2:=Cv;obtain⟨i0,bF,bI,bJ,aA⟩:=Uk Tryz.infoTok;go_in;obtain⟨c0,c1,c2⟩:=HP.cells;go_wp2_with fail;clear c0 c1 c2;refine U9 zk ?_;change wpAny _ _ _ _ _ _ _ (Rn _);apply zt0 0 (xk (TT pb));apply zr 1;intro K hK;go_simp
 go_wp2_with (go_at_call 201;refine(jH (HP.later (by exact(gC.alloc zp _).drew)) HT.out).mono ?_;rintro e w1 ⟨rfl,hb⟩;simp only[ki])
 have HB:=show XL w w1 from((((Uo w.heap.size w).alloc (XH) _).alloc zp _).drew).trans (hb.mono zs)
 have br:=HP.later HB;obtain⟨c0,c1,c2⟩:=br.cells;obtain⟨k0,k1,k2⟩:=br.tok (i+1) _ _ (Hx HT.out);refine wpAny_of_held (S:=λw'=>w'=w1) _ _ _ _ ?_;refine Uj (i:=2) (v:=xd .u8 (gR t.k)) rfl zk zk zk (λ_ _ _ h=>h) (Rf ⟨zk,λw hw=>by subst hw;go_simp⟩) rfl ?_
 try simp only[Act.put,UT,Ve,Vf,Va,U7,U6]
 refine Uj (i:=3) (v:=xn false) rfl zk zk zk (λ_ _ _ h=>h) (Rf ⟨zk,λw hw=>by subst hw;go_simp⟩) rfl ?_
 try simp only[Act.put,UT,Ve,Vf,Va,U7,U6]
 refine Uj (i:=4) (v:=xn false) rfl zk zk zk (λ_ _ _ h=>h) (Rf ⟨zk,λw hw=>by subst hw;go_simp⟩) rfl ?_
 try simp only[Act.put,UT,Ve,Vf,Va,U7,U6]
 refine Uj (i:=5) (v:=xk (TT pb)) rfl zk zk zk (λ_ _ _ h=>h) (Rf ⟨zk,λw hw=>by subst hw;go_simp⟩) rfl ?_
 try simp only[Act.put,UT,Ve,Vf,Va,U7,U6]
 refine Uj (i:=6) (v:=xk (TT pb)) rfl zk zk zk (λ_ _ _ h=>h) (Rf ⟨zk,λw hw=>by subst hw;go_simp⟩) rfl ?_
 try simp only[Act.put,UT,Ve,Vf,Va,U7,U6]
 refine Uj (i:=7) (v:=xk (TT pb)) rfl zk zk zk (λ_ _ _ h=>h) (Rf ⟨zk,λw hw=>by subst hw;go_simp⟩) rfl ?_
 try simp only[Act.put,UT,Ve,Vf,Va,U7,U6]
 refine Uj (i:=8) (v:=xa (TT g) L.length cap) rfl zk zk zk (λ_ _ _ h=>h) (Rf ⟨zk,λw hw=>by subst hw;go_simp⟩) rfl ?_
 try simp only[Act.put,UT,Ve,Vf,Va,U7,U6]
 refine Uj (i:=9) (v:=xk (TT pb)) rfl zk zk zk (λ_ _ _ h=>h) (Rf ⟨zk,λw hw=>by subst hw;go_simp⟩) rfl ?_
 try simp only[Act.put,UT,Ve,Vf,Va,U7,U6]
 refine Uj (i:=10) (v:=xk (TT pb)) rfl zk zk zk (λ_ _ _ h=>h) (Rf ⟨zk,λw hw=>by subst hw;go_simp⟩) rfl ?_
 try simp only[Act.put,UT,Ve,Vf,Va,U7,U6]
 refine Uj (i:=11) (v:=xk (some (TU pb 1))) rfl zk zk zk (λ_ _ _ h=>h) (Rf ⟨zk,λw hw=>by subst hw;go_simp⟩) rfl ?_
 try simp only[Act.put,UT,Ve,Vf,Va,U7,U6]
 refine Uj (i:=12) (v:=xd xh (i:Int)) rfl zk zk zk (λ_ _ _ h=>h) (Rf ⟨zk,λw hw=>by subst hw;go_simp⟩) rfl ?_
 try simp only[Act.put,UT,Ve,Vf,Va,U7,U6]
 refine Uj (i:=13) (v:=xd xh ((i:Int)+1)) rfl zk zk zk (λ_ _ _ h=>h) (Rf ⟨zk,λw hw=>by subst hw;go_simp⟩) rfl ?_
 try simp only[Act.put,UT,Ve,Vf,Va,U7,U6]
 refine Uj (i:=14) (v:=xk (some (TU g ((i+1)*3)))) rfl zk zk zk (λ_ _ _ h=>h) (Rf ⟨zk,λw hw=>by subst hw;go_simp⟩) rfl ?_
 try simp only[Act.put,UT,Ve,Vf,Va,U7,U6]
 refine Uj (i:=15) (v:=xk (some (TU g ((i+1)*3+1)))) rfl zk zk zk (λ_ _ _ h=>h) (Rf ⟨zk,λw hw=>by subst hw;go_simp⟩) rfl ?_
 try simp only[Act.put,UT,Ve,Vf,Va,U7,U6]
 refine Uj (i:=16) (v:=xj u.s) rfl zk zk zk (λ_ _ _ h=>h) (Rf ⟨zk,λw hw=>by subst hw;go_simp⟩) rfl ?_
 try simp only[Act.put,UT,Ve,Vf,Va,U7,U6]
 refine Uj (i:=17) (v:=xn false) rfl zk zk zk (λ_ _ _ h=>h) (Rf ⟨zk,λw hw=>by subst hw;go_simp⟩) rfl ?_
 try simp only[Act.put,UT,Ve,Vf,Va,U7,U6]
 refine Uj (i:=18) (v:=xn false) rfl zk zk zk (λ_ _ _ h=>h) (Rf ⟨zk,λw hw=>by subst hw;go_simp⟩) rfl ?_
 try simp only[Act.put,UT,Ve,Vf,Va,U7,U6]
 refine Ut zk ?_ _;clear c0 c1 c2 k0 k1 k2;have hz1':w.heap.size+1<w1.heap.size:=by have:=hb.size;simp at this;omega
 have cx:=(show w1.heap[w.heap.size]?=some (xi #[xd xh 0,xd .u8 0,xj ⟨#[]⟩,xd xh 0,TV,xd xh 0,xk none] 235 (0,0)) from
  (hb.block _ zs).trans ((XD zp).trans (gi _ _)))
 have cE:=(show w1.heap[w.heap.size+1]?=some (xi #[xd xh 0,xd .u8 0,xj ⟨#[]⟩,xd xh 0,TV,xd xh 0,xk none] 235 (0,0)) from
  (hb.block _ zp).trans (gu zp))
 clear hb;have bT:=fy (Hx HT.out);have cD:=fy (Hx bT.out)
 go_wp2_with (go_at_call 246;refine(C7 br HT.out bm.out).mono ?_)
 rintro e w2 ⟨rfl,cH,aY⟩;simp only[ki];have cm:=(gE HB (some pb)).trans aY;have cy:=(aY.block w.heap.size zo zs).trans cx;have aV:=(aY.block (w.heap.size+1) zo zs).trans cE;have hz2':=dK aV;have vc:=EQ aV;have vf:=gh aV;clear aY
 go_wp2_with (go_at_call 245;refine(xC (((cH.setOther _ _ _ zo zo).setOther _ _ _ zo zo).setOther _ _ _ zo zo) bT.out rfl zp zp bn.out).mono ?_)
 rintro e w3 ⟨rfl,cI,a6⟩;have cn:=(gD (gD (gD cm (b:=w.heap.size+1) zo _ _) (b:=w.heap.size+1) zo _ _) (b:=w.heap.size+1) zo _ _).trans a6;have cA:=(a6.block w.heap.size (by simp[Ri];omega) zs).trans ((XE zp).trans ((XE zp).trans ((XE zp).trans cy)));have bU:Hid (w3.heap[w.heap.size+1]?=some (xi #[xd xh 0,xd .u8 (gR t.k),xj t.s,xd xh t.p,TV,xd xh 0,xk none] 235 (0,0))):=
  (a6.block (w.heap.size+1) za zs).trans ((gj (gj (gj aV _ _) _ _) _ _).trans rfl)
 have hz3':=dK bU.out;clear vc vf a6;obtain⟨j4,b7⟩:∃j,j=if (!false&&v.k==2)=true then i+1+1+1 else i+1+1:=⟨_,rfl⟩;obtain⟨b4,bZ⟩:∃b,b= !(!false&&v.k==2):=⟨_,rfl⟩;have bl:=fy b7;have bf:=fy bZ;clear b7 bZ
 go_wp2_with (go_at_call 246;refine(C6 cI cD.out bl.out bf.out).mono ?_)
 rintro e w4 ⟨rfl,cJ,a7⟩;simp only[ki];have cq:=cn.trans a7;have cB:=(a7.block w.heap.size zo zs).trans cA;have aW:=(a7.block (w.heap.size+1) zo zs).trans bU.out;have ca:=dK aW;have vc:=EQ aW;have vf:=gh aW;clear a7
 go_wp2_with (at_builtin;go_must (refine U0 _ rfl _ _ 225 rfl w.heap.size 232 i0 (.agg #[xd .u8 0,xj ⟨#[]⟩,xd xh 0]) 3 32 underlying225 bF bI bJ aA rfl zd _ 0 [] rfl ?c0 (TU (w4.heap.size+1) 0) 1 1 [xd .u8 (gR v.k),xj v.s,xd xh v.p] rfl rfl ?c1 ?c2 ?c3 ?c4 ?c5 ?_))
 case c0=>exact XG
 case c1=>
  intro j u hj
  match j,hj with
  |0,hj=>simp at hj;subst hj;simp[Addr.add]
  |1,hj=>simp at hj;subst hj;simp[Addr.add]
  |2,hj=>simp at hj;subst hj;simp[Addr.add]
  |j+3,hj=>simp at hj
 case c2=>intro u hu;simp at hu;rcases hu with rfl|rfl|rfl<;>rfl
 case c3=>decide
 case c4=>omega
 case c5=>simp;omega
 intro v5 w5 bG aB _;obtain⟨_,h5|⟨g5,aj,bX,cM,av⟩⟩:=bG
 .exact absurd h5.2 zp
 subst cM;have cv:Hid (w5.ownsRow w.heap.size 232 3 (xa (TT g5) 1 aj) 1 (iP [v])):=⟨rfl,Rj ⟨g5,aj,bX,rfl,av⟩⟩;have ak:w4.grownBy w5 none:=(gL (gL (U4 _ _))).trans aB;have bQ:=cJ.later ⟨ak.os,ak.tape,ak.output,ak.size,λk hk=>ak.block k hk zp⟩;have cr:=cq.trans (ak.but (some pb));have cC:=(ak.block w.heap.size zo zp).trans cB;have aX:=(ak.block (w.heap.size+1) ca zp).trans aW;have hz5':w.heap.size+1<w5.heap.size:=dK aX;have hg5ge:w.heap.size<=g5:=av.1;have hg5ne:g5≠w.heap.size+1:=by grind[gQ]
 have hg5ne':g5≠w.heap.size:=by grind[gQ]
 have hg5p:g5≠pb:=zo;clear vc vf ak aB av;have vc:=EQ aX;have vf:=gh aX;obtain⟨y,r1,hy⟩:=jc bQ.lt;have HY:=fy hy;clear hy;obtain⟨b6,b5⟩:∃b,b=(!b4&&y.k==20):=⟨_,rfl⟩;obtain⟨j6,aF⟩:∃j,j=if (!b4&&y.k==20)=true then j4+1 else j4:=⟨_,rfl⟩;have aU:=fy b5;have cu:=fy aF;clear b5 aF
 go_wp2_with (go_at_call 247;refine(DH (bQ.setOther _ _ _ zo zo) HY.out rfl zp zp aU.out cu.out).mono ?_)
 rintro e w6 ⟨rfl,aS,aQ⟩;have bN:=(gD cr (b:=w.heap.size+1) zo _ _).trans aQ;have bR:=(aQ.block w.heap.size (by simp[Ri];omega) zs).trans ((XE zp).trans cC);have bB:Hid (w6.heap[w.heap.size+1]?=some (xi #[xd xh 0,xd .u8 (gR t.k),xj t.s,xd xh t.p,xa (TT g5) 1 aj,xd xh 0,xk none] 235 (0,0))):=
  (aQ.block (w.heap.size+1) za zs).trans ((gj aX _ _).trans rfl)
 have bO:=gy (gy cv.out (gp _ _ _ _) (by simp[Value.ownBlock];omega)) aQ (by simp[Value.ownBlock];omega);have hz6':=dK bB.out;clear vc vf;clear aQ;cases b6 with
 |false=>
  have aF:j6=j4:=by grind[gQ]
  subst aF
  go_wp2_with (go_at_call 201;refine(jH aS HY.out).mono ?_)
  rintro e wx ⟨rfl,U⟩;simp only[ki];have aM:=aS.later U;have aH:=bN.trans (gE U _);have aN:=(U.block w.heap.size zo).trans bR;have ai:=(U.block (w.heap.size+1) zo).trans bB.out;have aJ:=gq bO U;have cd:=dK ai;clear U;have vc:=EQ ai;have vf:=gh ai;obtain⟨jy,ay⟩:∃j,j=if (!b4&&y.k==19)=true then j6+1 else j6:=⟨_,rfl⟩;obtain⟨by',hby⟩:∃b,b= !(!b4&&y.k==19):=⟨_,rfl⟩;have HJY:=fy ay;have HBY:=fy hby;clear ay hby
  go_wp2_with (go_at_call 245;refine(nE (aM.setOther _ _ _ zo zo) HY.out rfl zp zp HJY.out HBY.out).mono ?_)
  rintro e wy ⟨rfl,aT,ae⟩;have aI:=(gD aH (b:=w.heap.size+1) zo _ _).trans ae;have aw:=(ae.block w.heap.size (by simp[Ri];omega) zs).trans ((XE zp).trans aN);have ax:Hid (wy.heap[w.heap.size+1]?=some (xi #[xd xh 0,xd .u8 (gR t.k),xj t.s,xd xh t.p,xa (TT g5) 1 aj,xd xh y.p,xk none] 235 (0,0))):=
   (ae.block (w.heap.size+1) za zs).trans ((gj ai _ _).trans rfl)
  have aK:=gy (gy aJ (gp _ (w.heap.size+1) 5 (xd xh y.p)) (by simp[Value.ownBlock];omega)) ae (by simp[Value.ownBlock];omega);have cg:=dK ax.out;clear vc vf ae;have vc:=EQ ax.out;have rc:=EQ aw;have rf:=gh aw;go_wp2_with fail;refine py (v:=jV 0 (gR t.k) t.s t.p (TT g5) 1 aj y.p none) ?_ rfl ?_
  .exact zm74
  have aR:=oi aI w.heap.size (XH) (xd xh 0) (xd .u8 (gR t.k)) (xj t.s) (xd xh t.p) (xa (TT g5) 1 aj) (xd xh y.p) (xk none);have hps:=aT.set7 w.heap.size zo zo (xd xh 0) (xd .u8 (gR t.k)) (xj t.s) (xd xh t.p) (xa (TT g5) 1 aj) (xd xh y.p) (xk none);have b':=gy aK (CA wy w.heap.size (xd xh 0) (xd .u8 (gR t.k)) (xj t.s) (xd xh t.p) (xa (TT g5) 1 aj) (xd xh y.p) (xk none)) (by simp[Value.ownBlock];omega);refine⟨aR,_,_,_,_,_,_,_,_,_,rfl,?_⟩;have cL:=Dl HT.out bm.out bn.out bl.out bf.out HY.out aU.out;cases h19:(!b4&&y.k==19) with
  |true=>
   have hj':jy=j6+1:=by rw[HJY.out,h19];rfl
   have hb':by'=false:=by rw[HBY.out,h19];rfl
   subst hj' hb';rw[cL.1 h19];refine⟨⟨rfl,?_⟩,j6+1,rfl,hps⟩
   grind[im]
  |false=>
   grind[gQ]
 |true=>
  have aF:j6=j4+1:=by grind[gQ]
  subst aF;obtain⟨z,r2,hz⟩:=jc aS.lt;have b3:b4=false:=by have:=aU.out;simp_all
  subst b3;have HZ:=fy hz;have HRR:=fy (Dp HT.out bm.out bn.out bl.out bf.out HY.out aU.out hz);clear hz
  go_wp2_with (go_at_call 201;refine(jH aS HZ.out).mono ?_)
  rintro e w7 ⟨rfl,aE⟩;simp only[ki];have an:=aS.later aE;have bg:=bN.trans (gE aE _);have bu:=(aE.block w.heap.size zo).trans bR;have aC:=(aE.block (w.heap.size+1) zo).trans bB.out;have bP:=gq bO aE;have hz7':=dK aC;clear aE;have vc:=EQ aC;have vf:=gh aC;by_cases hzk:z.k=2\/z.k=3
  .by_cases hzz:z.k=2
   .have e1:(gR z.k !=110)=false:=by rw[qg];simp_all
    clear hzz;have HZK:=fy hzk;obtain⟨z2,r3,aA⟩:=(by have:=an.ends;rw[HZ.out] at this;exact this.more zo:∃z2 r3,r2=z2::r3);subst aA;clear hzk;obtain⟨c0,c1,c2⟩:=an.cells;have cf:=gh an.blk 1;have cp:=dK an.blk;have cl:=an.lt
    go_wp2_with (at_builtin;go_must (refine U0 _ rfl _ _ 225 rfl w.heap.size 232 i0 (.agg #[xd .u8 0,xj ⟨#[]⟩,xd xh 0]) 3 32 underlying225 bF bI bJ aA rfl zd _ 1 (iP [v]) rfl ?c0 (TU (w7.heap.size+1) 0) 1 1 [xd .u8 (gR z.k),xj z.s,xd xh z.p] rfl rfl ?c1 ?c2 ?c3 ?c4 ?c5 ?_))
    case c0=>exact((gy bP (gp _ pb 1 (xd xh (((j4+1:Nat):Int)+1))) (by simp[Value.ownBlock];omega)).alloc _).alloc _
    case c1=>
     intro j u hj
     match j,hj with
     |0,hj=>simp at hj;subst hj;exact(EQ (gu zp) 0).trans rfl
     |1,hj=>simp at hj;subst hj;exact(EQ (gu zp) 1).trans rfl
     |2,hj=>simp at hj;subst hj;exact(EQ (gu zp) 2).trans rfl
     |j+3,hj=>trivial
    case c2=>intro u hu;simp at hu;rcases hu with rfl|rfl|rfl<;>rfl
    case c3=>decide
    case c4=>omega
    case c5=>simp;omega
    intro v9 w9 az J _;obtain⟨_,h9|⟨g9,I,aP,bH,ad⟩⟩:=az
    .exact absurd h9.2 zp
    subst bH;have bo:Hid (w9.ownsRow w.heap.size 232 3 (xa (TT g9) 2 I) 2 (iP [v,z])):=⟨rfl,Rj ⟨g9,I,aP,rfl,ad⟩⟩;have bt:=(((an.setI HZ.out).alloc _).alloc _).grown J (by simp[Value.ownBlock];omega) (by simp[Value.ownBlock];omega);have bh:=(gL (gL (bg.trans (gp _ pb 1 (xd xh (((j4+1:Nat):Int)+1)))))).andThen J (λj hj=>by left;simp[Value.ownBlock] at hj;omega);have bw:=(J.block w.heap.size zs (by simp[Value.ownBlock];omega)).trans ((XD zs).trans ((XD zs).trans ((XE zs).trans bu)));have ar:=(J.block (w.heap.size+1) zs (by simp[Value.ownBlock];omega)).trans ((XD zs).trans ((XD zs).trans ((XE zs).trans aC)));have cb:=dK ar;have bD:=ad.1;have bE:g9≠w.heap.size+1:=by grind[gQ]
    have ba:g9≠w.heap.size:=by grind[gQ]
    clear vc vf J ad c0 c1 c2 cf cp;have vc:=EQ ar;have vf:=gh ar;go_wp2_with fail;have aL:=bt.setOther (w.heap.size+1) 4 (xa (TT g9) 2 I) zo zo;have bj:=gD bh (b:=w.heap.size+1) zo 4 (xa (TT g9) 2 I);have bA:=(Ug w9 (TU (w.heap.size+1) 4) (xa (TT g9) 2 I) w.heap.size zp).trans bw;have aO:=(gj ar 4 (xa (TT g9) 2 I)).trans rfl;have bq:=gy bo.out (gp w9 (w.heap.size+1) 4 (xa (TT g9) 2 I)) (by simp[Value.ownBlock];omega);clear vc vf;generalize w9.setCell (TU (w.heap.size+1) 4) (xa (TT g9) 2 I)=wa at *;have cc:=dK aO;have au:=fy (Hx HZ.out);refine(jH aL au.out).mono ?_;rintro e wx ⟨rfl,U⟩;simp only[ki];have aM:=aL.later U;have aH:=bj.trans (gE U _);have aN:=(U.block w.heap.size zo).trans bA;have ai:=(U.block (w.heap.size+1) zo).trans aO;have aJ:=gq bq U;have cd:=dK ai;clear U;have vc:=EQ ai;have vf:=gh ai;obtain⟨jy,ay⟩:∃j,j=if (!false&&z2.k==19)=true then (j4+1+1)+1 else (j4+1+1):=⟨_,rfl⟩;obtain⟨by',hby⟩:∃b,b= !(!false&&z2.k==19):=⟨_,rfl⟩;have HJY:=fy ay;have HBY:=fy hby;clear ay hby
    go_wp2_with (go_at_call 245;refine(nE (aM.setOther _ _ _ zo zo) au.out rfl zp zp HJY.out HBY.out).mono ?_)
    rintro e wy ⟨rfl,aT,ae⟩;have aI:=(gD aH (b:=w.heap.size+1) zo _ _).trans ae;have aw:=(ae.block w.heap.size (by simp[Ri];omega) zs).trans ((XE zp).trans aN);have ax:Hid (wy.heap[w.heap.size+1]?=some (xi #[xd xh 0,xd .u8 (gR t.k),xj t.s,xd xh t.p,xa (TT g9) 2 I,xd xh z2.p,xk none] 235 (0,0))):=
     (ae.block (w.heap.size+1) (by simp[Ri];omega) zs).trans ((gj ai _ _).trans rfl)
    have aK:=gy (gy aJ (gp _ (w.heap.size+1) 5 (xd xh z2.p)) (by simp[Value.ownBlock];omega)) ae (by simp[Value.ownBlock];omega);have cg:=dK ax.out;clear vc vf ae;have vc:=EQ ax.out;have rc:=EQ aw;have rf:=gh aw;go_wp2_with fail;refine py (v:=jV 0 (gR t.k) t.s t.p (TT g9) 2 I z2.p none) ?_ rfl ?_
    .exact zm74
    have aR:=oi aI w.heap.size (XH) (xd xh 0) (xd .u8 (gR t.k)) (xj t.s) (xd xh t.p) (xa (TT g9) 2 I) (xd xh z2.p) (xk none);have hps:=aT.set7 w.heap.size zo zo (xd xh 0) (xd .u8 (gR t.k)) (xj t.s) (xd xh t.p) (xa (TT g9) 2 I) (xd xh z2.p) (xk none);have b':=gy aK (CA wy w.heap.size (xd xh 0) (xd .u8 (gR t.k)) (xj t.s) (xd xh t.p) (xa (TT g9) 2 I) (xd xh z2.p) (xk none)) (by simp[Value.ownBlock];omega);refine⟨aR,_,_,_,_,_,_,_,_,_,rfl,?_⟩;have hz2k:gF (L.drop (j4+1+1))=z2.k:=by rw[au.out];rfl
    have hz2p:ig (L.drop (j4+1+1))=z2.p:=by rw[au.out];rfl
    cases h19:(!false&&z2.k==19) with
    |true=>
     exact zm72
    |false=>
     grind[gQ]
   have e1:(gR z.k !=110)=true:=by rw[qg];simp_all
   have e2:(gR z.k !=100)=false:=by
    rw[Jq];simp_all
   clear hzz;have HZK:=fy hzk;obtain⟨z2,r3,aA⟩:=(by have:=an.ends;rw[HZ.out] at this;exact this.more zo:∃z2 r3,r2=z2::r3);subst aA;clear hzk;obtain⟨c0,c1,c2⟩:=an.cells;have cf:=gh an.blk 1;have cp:=dK an.blk;have cl:=an.lt
   go_wp2_with (at_builtin;go_must (refine U0 _ rfl _ _ 225 rfl w.heap.size 232 i0 (.agg #[xd .u8 0,xj ⟨#[]⟩,xd xh 0]) 3 32 underlying225 bF bI bJ aA rfl zd _ 1 (iP [v]) rfl ?c0 (TU (w7.heap.size+1) 0) 1 1 [xd .u8 (gR z.k),xj z.s,xd xh z.p] rfl rfl ?c1 ?c2 ?c3 ?c4 ?c5 ?_))
   case c0=>exact((gy bP (gp _ pb 1 (xd xh (((j4+1:Nat):Int)+1))) (by simp[Value.ownBlock];omega)).alloc _).alloc _
   case c1=>
    intro j u hj
    match j,hj with
    |0,hj=>simp at hj;subst hj;exact(EQ (gu zp) 0).trans rfl
    |1,hj=>simp at hj;subst hj;exact(EQ (gu zp) 1).trans rfl
    |2,hj=>simp at hj;subst hj;exact(EQ (gu zp) 2).trans rfl
    |j+3,hj=>trivial
   case c2=>intro u hu;simp at hu;rcases hu with rfl|rfl|rfl<;>rfl
   case c3=>decide
   case c4=>omega
   case c5=>simp;omega
   intro v9 w9 az J _;obtain⟨_,h9|⟨g9,I,aP,bH,ad⟩⟩:=az
   .exact absurd h9.2 zp
   subst bH;have bo:Hid (w9.ownsRow w.heap.size 232 3 (xa (TT g9) 2 I) 2 (iP [v,z])):=⟨rfl,Rj ⟨g9,I,aP,rfl,ad⟩⟩;have bt:=(((an.setI HZ.out).alloc _).alloc _).grown J (by simp[Value.ownBlock];omega) (by simp[Value.ownBlock];omega);have bh:=(gL (gL (bg.trans (gp _ pb 1 (xd xh (((j4+1:Nat):Int)+1)))))).andThen J (λj hj=>by left;simp[Value.ownBlock] at hj;omega);have bw:=(J.block w.heap.size zs (by simp[Value.ownBlock];omega)).trans ((XD zs).trans ((XD zs).trans ((XE zs).trans bu)));have ar:=(J.block (w.heap.size+1) zs (by simp[Value.ownBlock];omega)).trans ((XD zs).trans ((XD zs).trans ((XE zs).trans aC)));have cb:=dK ar;have bD:=ad.1;have bE:g9≠w.heap.size+1:=by grind[gQ]
   have ba:g9≠w.heap.size:=by grind[gQ]
   clear vc vf J ad c0 c1 c2 cf cp;have vc:=EQ ar;have vf:=gh ar;go_wp2_with fail;have aL:=bt.setOther (w.heap.size+1) 4 (xa (TT g9) 2 I) zo zo;have bj:=gD bh (b:=w.heap.size+1) zo 4 (xa (TT g9) 2 I);have bA:=(Ug w9 (TU (w.heap.size+1) 4) (xa (TT g9) 2 I) w.heap.size zp).trans bw;have aO:=(gj ar 4 (xa (TT g9) 2 I)).trans rfl;have bq:=gy bo.out (gp w9 (w.heap.size+1) 4 (xa (TT g9) 2 I)) (by simp[Value.ownBlock];omega);clear vc vf;generalize w9.setCell (TU (w.heap.size+1) 4) (xa (TT g9) 2 I)=wa at *;have cc:=dK aO;have au:=fy (Hx HZ.out);refine(jH aL au.out).mono ?_;rintro e wx ⟨rfl,U⟩;simp only[ki];have aM:=aL.later U;have aH:=bj.trans (gE U _);have aN:=(U.block w.heap.size zo).trans bA;have ai:=(U.block (w.heap.size+1) zo).trans aO;have aJ:=gq bq U;have cd:=dK ai;clear U;have vc:=EQ ai;have vf:=gh ai;obtain⟨jy,ay⟩:∃j,j=if (!false&&z2.k==19)=true then (j4+1+1)+1 else (j4+1+1):=⟨_,rfl⟩;obtain⟨by',hby⟩:∃b,b= !(!false&&z2.k==19):=⟨_,rfl⟩;have HJY:=fy ay;have HBY:=fy hby;clear ay hby
   go_wp2_with (go_at_call 245;refine(nE (aM.setOther _ _ _ zo zo) au.out rfl zp zp HJY.out HBY.out).mono ?_)
   rintro e wy ⟨rfl,aT,ae⟩;have aI:=(gD aH (b:=w.heap.size+1) zo _ _).trans ae;have aw:=(ae.block w.heap.size (by simp[Ri];omega) zs).trans ((XE zp).trans aN);have ax:Hid (wy.heap[w.heap.size+1]?=some (xi #[xd xh 0,xd .u8 (gR t.k),xj t.s,xd xh t.p,xa (TT g9) 2 I,xd xh z2.p,xk none] 235 (0,0))):=
    (ae.block (w.heap.size+1) (by simp[Ri];omega) zs).trans ((gj ai _ _).trans rfl)
   have aK:=gy (gy aJ (gp _ (w.heap.size+1) 5 (xd xh z2.p)) (by simp[Value.ownBlock];omega)) ae (by simp[Value.ownBlock];omega);have cg:=dK ax.out;clear vc vf ae;have vc:=EQ ax.out;have rc:=EQ aw;have rf:=gh aw;go_wp2_with fail;refine py (v:=jV 0 (gR t.k) t.s t.p (TT g9) 2 I z2.p none) ?_ rfl ?_
   .exact zm74
   have aR:=oi aI w.heap.size (XH) (xd xh 0) (xd .u8 (gR t.k)) (xj t.s) (xd xh t.p) (xa (TT g9) 2 I) (xd xh z2.p) (xk none);have hps:=aT.set7 w.heap.size zo zo (xd xh 0) (xd .u8 (gR t.k)) (xj t.s) (xd xh t.p) (xa (TT g9) 2 I) (xd xh z2.p) (xk none);have b':=gy aK (CA wy w.heap.size (xd xh 0) (xd .u8 (gR t.k)) (xj t.s) (xd xh t.p) (xa (TT g9) 2 I) (xd xh z2.p) (xk none)) (by simp[Value.ownBlock];omega);refine⟨aR,_,_,_,_,_,_,_,_,_,rfl,?_⟩;have hz2k:gF (L.drop (j4+1+1))=z2.k:=by rw[au.out];rfl
   have hz2p:ig (L.drop (j4+1+1))=z2.p:=by rw[au.out];rfl
   cases h19:(!false&&z2.k==19) with
   |true=>
    exact zm72
   |false=>
    grind[gQ]
  have e1:(gR z.k !=110)=true:=by rw[qg];simp;omega
  have e2:(gR z.k !=100)=true:=by rw[Jq];simp;omega
  have HZK:=fy hzk;clear hzk
  go_wp2_with (go_at_call 280;refine(re (an.alloc _)).mono ?_)
  rintro e w8 ⟨rfl,cK,a8⟩;have ct:=(gL bg).trans a8;have bS:=(a8.block w.heap.size zs zs).trans ((XD zo).trans bu);have bV:=(a8.block (w.heap.size+1) zs zs).trans ((XD zo).trans aC);have hz8':w.heap.size+1<w8.heap.size:=dK bV;clear vc vf a8;have vc:=EQ bV;have rc:=EQ bS;have rf:=gh bS;go_wp2_with fail;refine py (v:=jV 0 (gR t.k) t.s t.p (TT g5) 1 aj 0 none) ?_ rfl ?_
  .exact zm74
  rw[HRR.out.1 HZK.out];exact⟨oi ct w.heap.size (XH) _ _ _ _ _ _ _,_,_,_,_,_,_,_,_,_,rfl,_,rfl,cK.set7 w.heap.size zo zo _ _ _ _ _ _ _⟩
end Go.Proofs.YtidakhhekofkoaaGreatDoor
