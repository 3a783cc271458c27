import Derived.Test.YtidakhhekofkoaaGreatDoorT11
set_option linter.all false
set_option maxHeartbeats 60000000
set_option maxRecDepth 100000
namespace Go.Proofs.YtidakhhekofkoaaGreatDoor
attribute [local go_sem] TT TU TV XL
attribute [local simp] TT TU TV XL
open Go.Proofs.Tryz
open Go.RowKit Go.Deep
open Value renaming int->xd,string->xj,pointer->xk,bool->xn
open IntKind renaming i64->xh
open Obj renaming cells->xi
open Ending renaming returned->xm
variable{W wr w':Uc}{b B a e p:Nat}{y pe:Bool}{V L:T7}{x:Ub}
def Ih(w:Uc){nb:Nat}(B:Nat)(L:List Nd)(T:T8)(hN:S0 w nb B L T)(hg:RY L)(hL:L.length<=1000)(P:T7)(pe:Bool):
  Calls prog 207 #[xk (some ⟨nb,0,none⟩),.agg #[xj (gK P),xn pe],xd xh (-1)] w λe w'=>
   e=xm (.agg #[xj (gK (km P false false (-1) L)),xn true])/\XL w w':=by
 have HX0:Hid (AX w (((w.alloc (xi #[xj (gK P),xn pe] 302)).alloc (xi #[xj ⟨#[]⟩,xn false] 302)).alloc (xi (Array.replicate L.length (xd .u8 0)) 5)) P pe (iE (km P false false (-1) L) 0)):=by
  exact zm58
 have ag:Hid ((km P false false (-1) L).length=L.length):=mF _ _ _ _ _;have aC:=fy (λ(k:Nat)(d:Nd)(h1:L[k]?=some d)(h2:d.a<k)(h3:d.b<k)=>@Fi P false false (-1) L k d h1 h2 h3);have aK:=λW:Uc=>qM W L.length zo
 obtain⟨p0,c0,p1,c1,p2,c2,p3,c3,p4,c4,J,ax,_⟩:=hN.ex;have aA:=J;have aB:=fy ax;have b0:=EQ J 0;have l0:=dK J;clear hN J ax;generalize hVV:km P false false (-1) L=V at *;clear hVV;go_in;go_wp2_with fail;generalize ((w.alloc (xi #[xj (gK P),xn pe] 302)).alloc (xi #[xj ⟨#[]⟩,xn false] 302)).alloc (xi (Array.replicate L.length (xd .u8 0)) 5)=W0 at *;clear aK b0
 go_loopw [8] (λx wr=>∃k:Nat,k<=L.length/\x=xd xh k/\Hid (AX w wr P pe (iE V k))) (λx _=>L.length-(intOf x).toNat)
 .exact zm122
 obtain⟨k,hk,rfl,HX⟩:=hrel;have I:=HX.out.bel;have J:=(I.block nb l0).trans aA;have b0:=EQ J 0;have b1:=EQ J 1;have b2:=EQ J 2;have b3:=EQ J 3;have l0:=Uw l0 I.size;have x0:wr.cell? ⟨w.heap.size,0,none⟩=some (xj (gK P)):=EQ HX.out.box 0;have x1:wr.cell? ⟨w.heap.size,1,none⟩=some (xn pe):=EQ HX.out.box 1;have lx:=dK HX.out.box;rcases zc k L.length with⟨hlt,hkn⟩|⟨hlt,hkn⟩
 .have hd:L[k]?=some L[k]:=Uq hlt;have ai:=hg k L[k] hd;have aa:=aC.out k L[k] hd;obtain⟨g0,g1,g2,g3,rfl,rfl,rfl,rfl,h0,h1,h2,h3,e0,e1,e2,e3⟩:=aB.out k L[k] hd;have e0:=(Fd I _ _ h0).trans e0;have e1:=(Fd I _ _ h1).trans e1;have e2:=(Fd I _ _ h2).trans e2;have e3:=(Fd I _ _ h3).trans e3;have h0:=Uw h0 I.size;have h1:=Uw h1 I.size;have h2:=Uw h2 I.size;have h3:=Uw h3 I.size;have lv:=dK HX.out.blk;have vf:=gh HX.out.blk k;have ad:Hid (∀j,j<k->∃y:Bool,V[j]?=some y/\wr.cell? ⟨w.heap.size+2,j,none⟩=some (xd .u8 (if y=true then 1 else 0))):=λj hj=>HX.out.bits ag.out hk hj
  obtain⟨z0,vc⟩:=HX.out.slot ag.out hlt;clear J I hd;generalize L[k]=d at *;obtain⟨U,da,db,dt⟩:=d;replace ai:(U<=3/\da= -1/\db= -1)\/(4<=U/\U<=8/\(∃a:Nat,da=(a:Int)/\a<k)/\db= -1)\/(9<=U/\U<=12/\(∃a:Nat,da=(a:Int)/\a<k)/\∃b:Nat,db=(b:Int)/\b<k):=ai;dsimp only at aa e0 e1 e2 e3;rcases ai with⟨hk3,rfl,rfl⟩|⟨hk4,hk8,⟨ka,rfl,hka⟩,rfl⟩|⟨hk9,hk12,⟨ka,rfl,hka⟩,kb,rfl,hkb⟩
  .have HBK:=fy (aa zo zo);clear aa ad;have ae:U=0\/U=1\/U=2\/U=3:=zo;rcases ae with rfl|rfl|rfl|rfl
   .by_cases hyd:(-1:Int)=dt
    .rw[UH hyd.symm] at HBK;subst hyd;exact zm2
    rw[Uy (λe=>hyd e.symm)] at HBK;exact zm2
   all_goals exact zm3
  .obtain⟨u,hu,cu⟩:=ad.out ka hka;have HBK:=fy (aa zo zo);rw[lF hu] at HBK;have av:(ka:Int)<(L.length:Int):=zo;have au:ka<L.length:=zo;clear aa ad hu;have ae:U=4\/U=5\/U=6\/U=7\/U=8:=zo;rcases ae with rfl|rfl|rfl|rfl|rfl
   .cases u<;>(as_aux_lemma=>((first|have HX2:=AX.bit1 HX HBK|have HX2:=AX.bit0 HX HBK);clear HBK HX;simp[iI] at e0;(try simp only[UC,reduceIte] at cu);(try simp only[UC,reduceIte] at cv);(try simp only[UC,reduceIte] at hua);(try simp only[UC,reduceIte] at hx);go_wp2;go_roundw;(case rel=>exact⟨k+1,zo,by go_num,HX2⟩);(case measure=>simp[intOf];omega)))
   all_goals exact zm3
  obtain⟨u,hu,cu⟩:=ad.out ka hka;have HBK:=fy (aa zo zo);rw[lF hu] at HBK;have av:(ka:Int)<(L.length:Int):=zo;have au:ka<L.length:=zo;obtain⟨v,hv,cv⟩:=ad.out kb hkb;rw[lF hv] at HBK;have hkbi:(kb:Int)<(L.length:Int):=zo;clear aa ad hu hv;have ae:U=9\/U=10\/U=11\/U=12:=zo;rcases ae with rfl|rfl|rfl|rfl
  .exact zm2
  all_goals (cases u<;>cases v<;>(as_aux_lemma=>((first|have HX2:=AX.bit1 HX HBK|have HX2:=AX.bit0 HX HBK);clear HBK HX;simp[iI] at e0;(try simp only[UC,reduceIte] at cu);(try simp only[UC,reduceIte] at cv);(try simp only[UC,reduceIte] at hua);(try simp only[UC,reduceIte] at hx);go_wp2;go_roundw;(case rel=>exact⟨k+1,zo,by go_num,HX2⟩);(case measure=>simp[intOf];omega))))
 have aw:k=V.length:=by rw[ag.out];omega
 rw[aw,nK] at HX;clear aw;have hcv:=td HX.out.blk ag.out;have rc0:wr.cell? ⟨w.heap.size+1,0,none⟩=some (xj ⟨#[]⟩):=EQ HX.out.res 0;have rc1:wr.cell? ⟨w.heap.size+1,1,none⟩=some (xn false):=EQ HX.out.res 1;have rf0:=gh HX.out.res 0;have rf1:=gh HX.out.res 1;have rl:=dK HX.out.res;have ar:=gj (gj HX.out.res 0 (xj (gK V))) 1 (xn true);have aJ:=(HX.out.bel.setCell (p:=⟨w.heap.size+1,0,none⟩) (by show _<=w.heap.size+1;omega) (xj (gK V))).setCell (p:=⟨w.heap.size+1,1,none⟩) (by show _<=w.heap.size+1;omega) (xn true);go_wp2_with fail;generalize (wr.setCell ⟨w.heap.size+1,0,none⟩ (xj (gK V))).setCell ⟨w.heap.size+1,1,none⟩ (xn true)=wf at *;have aH:=EQ ar;refine py (v:=.agg #[xj (gK V),xn true]) (by simp[results,results207,go_sem,aH]) rfl ?_;exact⟨rfl,aJ⟩
end Go.Proofs.YtidakhhekofkoaaGreatDoor
