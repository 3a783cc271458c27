import Derived.Test.YtidakhhekofkoaaGreatDoorT17
set_option linter.all false
set_option maxHeartbeats 60000000
set_option maxRecDepth 100000
namespace Go.Proofs.YtidakhhekofkoaaGreatDoor
open Go.Proofs.Tryz
open Go.RowKit Go.Deep
open Value renaming slice -> xa, int -> xd, string -> xj, pointer -> xk, bool -> xn
open IntKind renaming i64 -> xh
open Obj renaming cells -> xi
open Ending renaming returned -> xm
open Nat renaming lt_of_lt_of_le -> Mr, zero_le -> MJ
open List renaming getElem?_eq_getElem -> Ms, length_append -> Mt, ext_getElem -> Mu, getElem?_append_right -> Mw, range -> Mx, append_assoc -> My, getElem_map -> Mz, mem_append_right -> MC, replicate -> MD, getElem?_take_of_lt -> ME, getElem_set -> MF, cons_append -> MG, length_cons -> MH, length_set -> MI, mem_append_left -> MK, getElem_range -> MM, length_take -> MP, getElem_mem -> MQ, append_nil -> MT, length_map -> MU
open Go.RowKit.Below renaming heap_setCell -> ML
open Lib renaming TabIs -> MN, pow10Tab -> MO
open Option renaming getD_some -> MR
variable {V b:List Bool} {w wr W W' w':World} {nb B n A x a i N c base cap g':Nat} {L:List Nd} {m:Nat × Nat} {pe:Bool} {t:Tb} {rb ro rc:Nat->Nat} {D:DataW Unit} {v X v':Value} {σ τ:Type} {p:Bool × List Bool} {o:Option Addr} {q:List Nat}
theorem Gk(w:World)(nb B:Nat)(L:List Nd)(T:List Int)(hN:NSx w nb B L T)(hg:AllGood L)(hL:L.length<=1000)(P:List Bool)(pe:Bool)(a:Nat)(ha:a<=1000)(hP:P.length=L.length):
  Calls prog 207 #[xk (some ⟨nb,0,none⟩),.agg #[xj (gH P),xn pe],xd xh ((a:Nat))] w fun e w'=>
   e=xm (.agg #[xj (gH (j7 P true (!pe) (a:Nat) L)),xn false])/\Below w.heap.size w w':=by
 have HG:=fa hg;have HX0:Hid (AX w (((w.alloc (xi #[xj (gH P),xn pe] 302)).alloc (xi #[xj ⟨#[]⟩,xn false] 302)).alloc (xi (Array.replicate L.length (xd .u8 0)) 5)) P pe (iu (j7 P true (!pe) (a:Nat) L) 0)):=by
  exact zm57
 have ag:Hid ((j7 P true (!pe) (a:Nat) L).length=L.length):=lM _ _ _ _ _;have aG:=fa (fun (k:Nat) (d:Nd) (h1:L[k]? =some d) (h2:d.a<k) (h3:d.b<k)=> @CV P true (!pe) (a:Nat) L k d h1 h2 h3);have aO:=fun W:World=>pH W L.length zo
 obtain⟨p0,c0,p1,c1,p2,c2,p3,c3,p4,c4,J,aA,_⟩:=hN.ex;have aE:=fa J;have aF:=fa aA;have b0:=cell_of_blk J 0;have l0:=fh J;clear hN hg J aA;have ao:=fa hP;clear hP;generalize hVV:j7 P true (!pe) (a:Nat) L=V at *;clear hVV;go_in;go_wp2_with fail;generalize ((w.alloc (xi #[xj (gH P),xn pe] 302)).alloc (xi #[xj ⟨#[]⟩,xn false] 302)).alloc (xi (Array.replicate L.length (xd .u8 0)) 5)=W0 at *;clear aO b0
 go_loopw [8] (fun x wr=> ∃k:Nat,k<=L.length/\x=xd xh k/\Hid (AX w wr P pe (iu V k))) (fun x _=>L.length - (intOf x).toNat)
 ·exact zm129
 obtain⟨k,hk,rfl,HX⟩:=hrel;have I:=HX.out.bel;have J:=(I.block nb l0).trans aE.out;have b0:=cell_of_blk J 0;have b1:=cell_of_blk J 1;have b2:=cell_of_blk J 2;have b3:=cell_of_blk J 3;have l0:=Mr l0 I.size;have x0:wr.cell? ⟨w.heap.size,0,none⟩=some (xj (gH P)):=cell_of_blk HX.out.box 0;have x1:wr.cell? ⟨w.heap.size,1,none⟩=some (xn pe):=cell_of_blk HX.out.box 1;have lx:=fh HX.out.box;rcases zc k L.length with⟨hlt,hkn⟩|⟨hlt,hkn⟩
 ·have hd:L[k]? =some L[k]:=Ms hlt;have aj:=HG.out k L[k] hd;have R:=aG.out k L[k] hd;obtain⟨g0,g1,g2,g3,rfl,rfl,rfl,rfl,h0,h1,h2,h3,e0,e1,e2,e3⟩:=aF.out k L[k] hd;have e0:=(bcell3 I _ _ h0).trans e0;have e1:=(bcell3 I _ _ h1).trans e1;have e2:=(bcell3 I _ _ h2).trans e2;have e3:=(bcell3 I _ _ h3).trans e3;have h0:=Mr h0 I.size;have h1:=Mr h1 I.size;have h2:=Mr h2 I.size;have h3:=Mr h3 I.size;have lv:=fh HX.out.blk;have vf:=fi HX.out.blk k;have U:Hid (∀j,j<k-> ∃y:Bool,V[j]? =some y/\wr.cell? ⟨w.heap.size+2,j,none⟩=some (xd .u8 (if y=true then 1 else 0))):=fun j hj=>HX.out.bits ag.out hk hj
  obtain⟨z0,vc⟩:=HX.out.slot ag.out hlt;clear J I hd;generalize L[k]=d at *;obtain⟨dk,da,db,dt⟩:=d;replace aj:(dk<=3/\da= -1/\db= -1)\/(4<=dk/\dk<=8/\(∃a:Nat,da=(a:Int)/\a<k)/\db= -1)\/(9<=dk/\dk<=12/\(∃a:Nat,da=(a:Int)/\a<k)/\ ∃b:Nat,db=(b:Int)/\b<k):=aj;dsimp only at R e0 e1 e2 e3;have ak:k<P.length:=by rw[ao.out];exact hlt
  have aN:k<(gH P).size:=by rw[k9];exact ak
  have hksi:(k:Int)<((gH P).size:Int):=zo;have hx:=nH aN (Ms ak:P[k]? =some P[k]);rw[kW (Ms ak)] at R;generalize P[k]=x at *;rcases aj with⟨hk3,rfl,rfl⟩|⟨hk4,hk8,⟨ka,rfl,hka⟩,rfl⟩|⟨hk9,hk12,⟨ka,rfl,hka⟩,kb,rfl,hkb⟩
  ·have HBK:=fa (R zo zo);clear R U;have ad:dk=0\/dk=1\/dk=2\/dk=3:=zo;rcases ad with rfl|rfl|rfl|rfl
   ·by_cases hyd:((a:Nat):Int)=dt
    ·rw[decide_eq_true hyd.symm] at HBK;subst hyd;exact zm1
    rw[decide_eq_false (fun e=>hyd e.symm)] at HBK;exact zm1
   all_goals exact zm1
  ·obtain⟨u,hu,cu⟩:=U.out ka hka;have HBK:=fa (R zo zo);rw[kW hu] at HBK;have ax:(ka:Int)<(L.length:Int):=zo;have aw:ka<L.length:=zo;have ae:ka<P.length:=by rw[ao.out];omega
   have ay:ka<(gH P).size:=by rw[k9];exact ae
   have hkasi:(ka:Int)<((gH P).size:Int):=zo;have hua:=nH ay (Ms ae:P[ka]? =some P[ka]);rw[kW (Ms ae)] at HBK;generalize P[ka]=ua at *;clear R U hu;have ad:dk=4\/dk=5\/dk=6\/dk=7\/dk=8:=zo;rcases ad with rfl|rfl|rfl|rfl|rfl
   ·cases u;all_goals exact zm1
   ·cases pe
    ·cases ua;all_goals exact zm1
    exact zm1
   ·cases pe
    ·cases ua;all_goals exact zm1
    exact zm1
   ·cases u
    ·cases x;all_goals exact zm1
    exact zm1
   cases u
   ·exact zm1
   cases x;all_goals exact zm1
  obtain⟨u,hu,cu⟩:=U.out ka hka;have HBK:=fa (R zo zo);rw[kW hu] at HBK;have ax:(ka:Int)<(L.length:Int):=zo;have aw:ka<L.length:=zo;obtain⟨v,hv,cv⟩:=U.out kb hkb;rw[kW hv] at HBK;have hkbi:(kb:Int)<(L.length:Int):=zo;clear R U hu hv;have ad:dk=9\/dk=10\/dk=11\/dk=12:=zo;rcases ad with rfl|rfl|rfl|rfl
  ·cases v
   ·cases u
    ·exact zm1
    cases x;all_goals exact zm1
   exact zm1
  ·cases u
   ·exact zm1
   cases v;all_goals exact zm1
  ·cases u
   ·cases v;all_goals exact zm1
   exact zm1
  cases u
  ·exact zm1
  cases v;all_goals exact zm1
 have az:k=V.length:=by rw[ag.out];omega
 rw[az,mG] at HX;clear az;have hcv:=rL wr L.length HX.out.blk ag.out;have rc0:wr.cell? ⟨w.heap.size+1,0,none⟩=some (xj ⟨#[]⟩):=cell_of_blk HX.out.res 0;have rc1:wr.cell? ⟨w.heap.size+1,1,none⟩=some (xn false):=cell_of_blk HX.out.res 1;have rf0:=fi HX.out.res 0;have rf1:=fi HX.out.res 1;have rl:=fh HX.out.res;have ai:=fj (fj HX.out.res 0 (xj (gH V))) 1 (xn false);have av:=(HX.out.bel.setCell (p:=⟨w.heap.size+1,0,none⟩) (by show _<=w.heap.size+1;omega) (xj (gH V))).setCell (p:=⟨w.heap.size+1,1,none⟩) (by show _<=w.heap.size+1;omega) (xn false);have an:=fa ai;have hneg:decide ((a:Int)<0)=false:=decide_eq_false zo;have aD:=fa av;clear ai av;go_wp2_with fail;generalize (wr.setCell ⟨w.heap.size+1,0,none⟩ (xj (gH V))).setCell ⟨w.heap.size+1,1,none⟩ (xn false)=wf at *;have aL:=cell_of_blk an.out;refine bodyPost_ret (v:= .agg #[xj (gH V),xn false]) (by simp[results,results207,go_sem,aL]) rfl ?_;exact⟨rfl,aD.out⟩
end Go.Proofs.YtidakhhekofkoaaGreatDoor
