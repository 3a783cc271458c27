import Derived.Test.YtidakhhekofkoaaGreatDoorT11
set_option linter.all false
set_option maxHeartbeats 60000000
set_option maxRecDepth 100000
namespace Go.Proofs.YtidakhhekofkoaaGreatDoor
attribute [local go_sem] TT TU TV XL
attribute [local simp] TT TU TV XL
open Go.Proofs.Tryz
open Go.RowKit Go.Deep
open Value renaming int->xd,string->xj,pointer->xk,bool->xn
open IntKind renaming i64->xh
open Obj renaming cells->xi
open Ending renaming returned->xm
variable{W wr w':Uc}{b B a e p:Nat}{y pe:Bool}{V L:T7}{x:Ub}
def Ke{w:Uc}{nb:Nat}(B:Nat)(L:List Nd)(T:T8)(hN:S0 w nb B L T)(hg:RY L)(hL:L.length<=1000)(P:T7)(pe:Bool)(a:Nat)(ha:a<=1000)(hP:P.length=L.length):
  Calls prog 207 #[xk (some ⟨nb,0,none⟩),.agg #[xj (gK P),xn pe],xd xh ((a:Nat))] w λe w'=>
   e=xm (.agg #[xj (gK (km P true (!pe) (a:Nat) L)),xn false])/\XL w w':=by
 have HG:=fy hg;have HX0:Hid (AX w (((w.alloc (xi #[xj (gK P),xn pe] 302)).alloc (xi #[xj ⟨#[]⟩,xn false] 302)).alloc (xi (Array.replicate L.length (xd .u8 0)) 5)) P pe (iE (km P true (!pe) (a:Nat) L) 0)):=by
  exact zm58
 have aj:Hid ((km P true (!pe) (a:Nat) L).length=L.length):=mF _ _ _ _ _;have aJ:=fy (λ(k:Nat)(d:Nd)(h1:L[k]?=some d)(h2:d.a<k)(h3:d.b<k)=>@Fi P true (!pe) (a:Nat) L k d h1 h2 h3);have aR:=λW:Uc=>qM W L.length zo
 obtain⟨p0,c0,p1,c1,p2,c2,p3,c3,p4,c4,J,aD,_⟩:=hN.ex;have aH:=fy J;have aI:=fy aD;have b0:=EQ J 0;have l0:=dK J;clear hN hg J aD;have au:=fy hP;clear hP;generalize hVV:km P true (!pe) (a:Nat) L=V at *;clear hVV;go_in;go_wp2_with fail;generalize ((w.alloc (xi #[xj (gK P),xn pe] 302)).alloc (xi #[xj ⟨#[]⟩,xn false] 302)).alloc (xi (Array.replicate L.length (xd .u8 0)) 5)=W0 at *;clear aR b0
 go_loopw [8] (λx wr=>∃k:Nat,k<=L.length/\x=xd xh k/\Hid (AX w wr P pe (iE V k))) (λx _=>L.length-(intOf x).toNat)
 .exact zm122
 obtain⟨k,hk,rfl,HX⟩:=hrel;have I:=HX.out.bel;have J:=(I.block nb l0).trans aH.out;have b0:=EQ J 0;have b1:=EQ J 1;have b2:=EQ J 2;have b3:=EQ J 3;have l0:=Uw l0 I.size;have x0:wr.cell? ⟨w.heap.size,0,none⟩=some (xj (gK P)):=EQ HX.out.box 0;have x1:wr.cell? ⟨w.heap.size,1,none⟩=some (xn pe):=EQ HX.out.box 1;have lx:=dK HX.out.box;rcases zc k L.length with⟨hlt,hkn⟩|⟨hlt,hkn⟩
 .have hd:L[k]?=some L[k]:=Uq hlt;have an:=HG.out k L[k] hd;have aa:=aJ.out k L[k] hd;obtain⟨g0,g1,g2,g3,rfl,rfl,rfl,rfl,h0,h1,h2,h3,e0,e1,e2,e3⟩:=aI.out k L[k] hd;have e0:=(Fd I _ _ h0).trans e0;have e1:=(Fd I _ _ h1).trans e1;have e2:=(Fd I _ _ h2).trans e2;have e3:=(Fd I _ _ h3).trans e3;have h0:=Uw h0 I.size;have h1:=Uw h1 I.size;have h2:=Uw h2 I.size;have h3:=Uw h3 I.size;have lv:=dK HX.out.blk;have vf:=gh HX.out.blk k;have ad:Hid (∀j,j<k->∃y:Bool,V[j]?=some y/\wr.cell? ⟨w.heap.size+2,j,none⟩=some (xd .u8 (if y=true then 1 else 0))):=λj hj=>HX.out.bits aj.out hk hj
  obtain⟨z0,vc⟩:=HX.out.slot aj.out hlt;clear J I hd;generalize L[k]=d at *;obtain⟨U,da,db,dt⟩:=d;replace an:(U<=3/\da= -1/\db= -1)\/(4<=U/\U<=8/\(∃a:Nat,da=(a:Int)/\a<k)/\db= -1)\/(9<=U/\U<=12/\(∃a:Nat,da=(a:Int)/\a<k)/\∃b:Nat,db=(b:Int)/\b<k):=an;dsimp only at aa e0 e1 e2 e3;have aq:k<P.length:=by rw[au.out];exact hlt
  have aQ:k<(gK P).size:=by rw[lN];exact aq
  have hksi:(k:Int)<((gK P).size:Int):=zo;have hx:=oL aQ (Uq aq:P[k]?=some P[k]);rw[lF (Uq aq)] at aa;generalize P[k]=x at *;rcases an with⟨hk3,rfl,rfl⟩|⟨hk4,hk8,⟨ka,rfl,hka⟩,rfl⟩|⟨hk9,hk12,⟨ka,rfl,hka⟩,kb,rfl,hkb⟩
  .have HBK:=fy (aa zo zo);clear aa ad;have ag:U=0\/U=1\/U=2\/U=3:=zo;rcases ag with rfl|rfl|rfl|rfl
   .by_cases hyd:((a:Nat):Int)=dt
    .rw[UH hyd.symm] at HBK;subst hyd;exact zm2
    rw[Uy (λe=>hyd e.symm)] at HBK;exact zm2
   all_goals exact zm3
  .obtain⟨u,hu,cu⟩:=ad.out ka hka;have HBK:=fy (aa zo zo);rw[lF hu] at HBK;have aA:(ka:Int)<(L.length:Int):=zo;have az:ka<L.length:=zo;have ai:ka<P.length:=by rw[au.out];omega
   have aB:ka<(gK P).size:=by rw[lN];exact ai
   have hkasi:(ka:Int)<((gK P).size:Int):=zo;have hua:=oL aB (Uq ai:P[ka]?=some P[ka]);rw[lF (Uq ai)] at HBK;generalize P[ka]=ua at *;clear aa ad hu;have ag:U=4\/U=5\/U=6\/U=7\/U=8:=zo;rcases ag with rfl|rfl|rfl|rfl|rfl
   .cases u
    all_goals exact zm3
   .cases pe
    .cases ua
     all_goals exact zm3
    exact zm2
   .cases pe
    .cases ua
     all_goals exact zm3
    exact zm2
   .cases u
    .cases x
     all_goals exact zm3
    exact zm2
   cases u
   .exact zm2
   cases x
   all_goals exact zm3
  obtain⟨u,hu,cu⟩:=ad.out ka hka;have HBK:=fy (aa zo zo);rw[lF hu] at HBK;have aA:(ka:Int)<(L.length:Int):=zo;have az:ka<L.length:=zo;obtain⟨v,hv,cv⟩:=ad.out kb hkb;rw[lF hv] at HBK;have hkbi:(kb:Int)<(L.length:Int):=zo;clear aa ad hu hv;have ag:U=9\/U=10\/U=11\/U=12:=zo;rcases ag with rfl|rfl|rfl|rfl
  .cases v
   .cases u
    .exact zm2
    cases x
    all_goals exact zm3
   exact zm2
  .cases u
   .exact zm2
   cases v
   all_goals exact zm3
  .cases u
   .cases v
    all_goals exact zm3
   exact zm2
  cases u
  .exact zm2
  cases v
  all_goals exact zm3
 have aC:k=V.length:=by rw[aj.out];omega
 rw[aC,nK] at HX;clear aC;have hcv:=td HX.out.blk aj.out;have rc0:wr.cell? ⟨w.heap.size+1,0,none⟩=some (xj ⟨#[]⟩):=EQ HX.out.res 0;have rc1:wr.cell? ⟨w.heap.size+1,1,none⟩=some (xn false):=EQ HX.out.res 1;have rf0:=gh HX.out.res 0;have rf1:=gh HX.out.res 1;have rl:=dK HX.out.res;have ak:=gj (gj HX.out.res 0 (xj (gK V))) 1 (xn false);have ay:=(HX.out.bel.setCell (p:=⟨w.heap.size+1,0,none⟩) (by show _<=w.heap.size+1;omega) (xj (gK V))).setCell (p:=⟨w.heap.size+1,1,none⟩) (by show _<=w.heap.size+1;omega) (xn false);have ar:=fy ak;have hneg:decide ((a:Int)<0)=false:=Uy zo;have aG:=fy ay;clear ak ay;go_wp2_with fail;generalize (wr.setCell ⟨w.heap.size+1,0,none⟩ (xj (gK V))).setCell ⟨w.heap.size+1,1,none⟩ (xn false)=wf at *;have aO:=EQ ar.out;refine py (v:=.agg #[xj (gK V),xn false]) (by simp[results,results207,go_sem,aO]) rfl ?_;exact⟨rfl,aG.out⟩
end Go.Proofs.YtidakhhekofkoaaGreatDoor
