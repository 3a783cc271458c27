import Derived.Test.YtidakhhekofkoaaGreatDoorT17
set_option linter.all false
set_option maxHeartbeats 60000000
set_option maxRecDepth 100000
namespace Go.Proofs.YtidakhhekofkoaaGreatDoor
open Go.Proofs.Tryz
open Go.RowKit Go.Deep
open Value renaming slice -> xa, int -> xd, string -> xj, pointer -> xk, bool -> xn
open IntKind renaming i64 -> xh
open Obj renaming cells -> xi
open Ending renaming returned -> xm
open Nat renaming lt_of_lt_of_le -> Mr, zero_le -> MJ
open List renaming getElem?_eq_getElem -> Ms, length_append -> Mt, ext_getElem -> Mu, getElem?_append_right -> Mw, range -> Mx, append_assoc -> My, getElem_map -> Mz, mem_append_right -> MC, replicate -> MD, getElem?_take_of_lt -> ME, getElem_set -> MF, cons_append -> MG, length_cons -> MH, length_set -> MI, mem_append_left -> MK, getElem_range -> MM, length_take -> MP, getElem_mem -> MQ, append_nil -> MT, length_map -> MU
open Go.RowKit.Below renaming heap_setCell -> ML
open Lib renaming TabIs -> MN, pow10Tab -> MO
open Option renaming getD_some -> MR
variable {V b:List Bool} {w wr W W' w':World} {nb B n A x a i N c base cap g':Nat} {L:List Nd} {m:Nat × Nat} {pe:Bool} {t:Tb} {rb ro rc:Nat->Nat} {D:DataW Unit} {v X v':Value} {σ τ:Type} {p:Bool × List Bool} {o:Option Addr} {q:List Nat}
theorem Et(w:World)(nb B:Nat)(L:List Nd)(T:List Int)(hN:NSx w nb B L T)(hg:AllGood L)(hL:L.length<=1000)(P:List Bool)(pe:Bool):
  Calls prog 207 #[xk (some ⟨nb,0,none⟩),.agg #[xj (gH P),xn pe],xd xh (-1)] w fun e w'=>
   e=xm (.agg #[xj (gH (j7 P false false (-1) L)),xn true])/\Below w.heap.size w w':=by
 have HG:=fa hg;have HX0:Hid (AX w (((w.alloc (xi #[xj (gH P),xn pe] 302)).alloc (xi #[xj ⟨#[]⟩,xn false] 302)).alloc (xi (Array.replicate L.length (xd .u8 0)) 5)) P pe (iu (j7 P false false (-1) L) 0)):=by
  exact zm57
 have ad:Hid ((j7 P false false (-1) L).length=L.length):=lM _ _ _ _ _;have aC:=fa (fun (k:Nat) (d:Nd) (h1:L[k]? =some d) (h2:d.a<k) (h3:d.b<k)=> @CV P false false (-1) L k d h1 h2 h3);have aJ:=fun W:World=>pH W L.length zo
 obtain⟨p0,c0,p1,c1,p2,c2,p3,c3,p4,c4,J,aw,_⟩:=hN.ex;have aA:=fa J;have aB:=fa aw;have b0:=cell_of_blk J 0;have l0:=fh J;clear hN hg J aw;generalize hVV:j7 P false false (-1) L=V at *;clear hVV;go_in;go_wp2_with fail;generalize ((w.alloc (xi #[xj (gH P),xn pe] 302)).alloc (xi #[xj ⟨#[]⟩,xn false] 302)).alloc (xi (Array.replicate L.length (xd .u8 0)) 5)=W0 at *;clear aJ b0
 go_loopw [8] (fun x wr=> ∃k:Nat,k<=L.length/\x=xd xh k/\Hid (AX w wr P pe (iu V k))) (fun x _=>L.length - (intOf x).toNat)
 ·exact zm129
 obtain⟨k,hk,rfl,HX⟩:=hrel;have I:=HX.out.bel;have J:=(I.block nb l0).trans aA.out;have b0:=cell_of_blk J 0;have b1:=cell_of_blk J 1;have b2:=cell_of_blk J 2;have b3:=cell_of_blk J 3;have l0:=Mr l0 I.size;have x0:wr.cell? ⟨w.heap.size,0,none⟩=some (xj (gH P)):=cell_of_blk HX.out.box 0;have x1:wr.cell? ⟨w.heap.size,1,none⟩=some (xn pe):=cell_of_blk HX.out.box 1;have lx:=fh HX.out.box;rcases zc k L.length with⟨hlt,hkn⟩|⟨hlt,hkn⟩
 ·have hd:L[k]? =some L[k]:=Ms hlt;have ag:=HG.out k L[k] hd;have R:=aC.out k L[k] hd;obtain⟨g0,g1,g2,g3,rfl,rfl,rfl,rfl,h0,h1,h2,h3,e0,e1,e2,e3⟩:=aB.out k L[k] hd;have e0:=(bcell3 I _ _ h0).trans e0;have e1:=(bcell3 I _ _ h1).trans e1;have e2:=(bcell3 I _ _ h2).trans e2;have e3:=(bcell3 I _ _ h3).trans e3;have h0:=Mr h0 I.size;have h1:=Mr h1 I.size;have h2:=Mr h2 I.size;have h3:=Mr h3 I.size;have lv:=fh HX.out.blk;have vf:=fi HX.out.blk k;have U:Hid (∀j,j<k-> ∃y:Bool,V[j]? =some y/\wr.cell? ⟨w.heap.size+2,j,none⟩=some (xd .u8 (if y=true then 1 else 0))):=fun j hj=>HX.out.bits ad.out hk hj
  obtain⟨z0,vc⟩:=HX.out.slot ad.out hlt;clear J I hd;generalize L[k]=d at *;obtain⟨dk,da,db,dt⟩:=d;replace ag:(dk<=3/\da= -1/\db= -1)\/(4<=dk/\dk<=8/\(∃a:Nat,da=(a:Int)/\a<k)/\db= -1)\/(9<=dk/\dk<=12/\(∃a:Nat,da=(a:Int)/\a<k)/\ ∃b:Nat,db=(b:Int)/\b<k):=ag;dsimp only at R e0 e1 e2 e3;rcases ag with⟨hk3,rfl,rfl⟩|⟨hk4,hk8,⟨ka,rfl,hka⟩,rfl⟩|⟨hk9,hk12,⟨ka,rfl,hka⟩,kb,rfl,hkb⟩
  ·have HBK:=fa (R zo zo);clear R U;have aa:dk=0\/dk=1\/dk=2\/dk=3:=zo;rcases aa with rfl|rfl|rfl|rfl
   ·by_cases hyd:(-1:Int)=dt
    ·rw[decide_eq_true hyd.symm] at HBK;subst hyd;exact zm1
    rw[decide_eq_false (fun e=>hyd e.symm)] at HBK;exact zm1
   all_goals exact zm1
  ·obtain⟨u,hu,cu⟩:=U.out ka hka;have HBK:=fa (R zo zo);rw[kW hu] at HBK;have au:(ka:Int)<(L.length:Int):=zo;have ar:ka<L.length:=zo;clear R U hu;have aa:dk=4\/dk=5\/dk=6\/dk=7\/dk=8:=zo;rcases aa with rfl|rfl|rfl|rfl|rfl
   ·cases u<;>exact zm1
   all_goals exact zm1
  obtain⟨u,hu,cu⟩:=U.out ka hka;have HBK:=fa (R zo zo);rw[kW hu] at HBK;have au:(ka:Int)<(L.length:Int):=zo;have ar:ka<L.length:=zo;obtain⟨v,hv,cv⟩:=U.out kb hkb;rw[kW hv] at HBK;have hkbi:(kb:Int)<(L.length:Int):=zo;clear R U hu hv;have aa:dk=9\/dk=10\/dk=11\/dk=12:=zo;rcases aa with rfl|rfl|rfl|rfl
  ·exact zm1
  all_goals (cases u<;>cases v<;>exact zm1)
 have av:k=V.length:=by rw[ad.out];omega
 rw[av,mG] at HX;clear av;have hcv:=rL wr L.length HX.out.blk ad.out;have rc0:wr.cell? ⟨w.heap.size+1,0,none⟩=some (xj ⟨#[]⟩):=cell_of_blk HX.out.res 0;have rc1:wr.cell? ⟨w.heap.size+1,1,none⟩=some (xn false):=cell_of_blk HX.out.res 1;have rf0:=fi HX.out.res 0;have rf1:=fi HX.out.res 1;have rl:=fh HX.out.res;have ae:=fj (fj HX.out.res 0 (xj (gH V))) 1 (xn true);have aq:=(HX.out.bel.setCell (p:=⟨w.heap.size+1,0,none⟩) (by show _<=w.heap.size+1;omega) (xj (gH V))).setCell (p:=⟨w.heap.size+1,1,none⟩) (by show _<=w.heap.size+1;omega) (xn true);have aj:=fa ae;have az:=fa aq;clear ae aq;go_wp2_with fail;generalize (wr.setCell ⟨w.heap.size+1,0,none⟩ (xj (gH V))).setCell ⟨w.heap.size+1,1,none⟩ (xn true)=wf at *;have aH:=cell_of_blk aj.out;refine bodyPost_ret (v:= .agg #[xj (gH V),xn true]) (by simp[results,results207,go_sem,aH]) rfl ?_;exact⟨rfl,az.out⟩
end Go.Proofs.YtidakhhekofkoaaGreatDoor
