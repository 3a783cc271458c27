import Derived.Test.YtidakhhekofkoaaGreatDoorT20
import Derived.Test.YtidakhhekofkoaaGreatDoorT18
set_option linter.all false
set_option maxRecDepth 100000
set_option maxHeartbeats 16000000
namespace Go.Proofs.YtidakhhekofkoaaGreatDoor
open Go.Proofs.Tryz
open Go.RowKit Go.Deep
open Value renaming slice -> xa, int -> xd, string -> xj, pointer -> xk, bool -> xn
open IntKind renaming i64 -> xh
open Obj renaming cells -> xi
open Ending renaming returned -> xm
open List renaming getElem?_eq_getElem -> Mr, length_map -> Mt, range -> My, getElem?_map -> Mz, take_of_length_le -> MC, drop_eq_getElem_cons -> ME, take_add_one -> MG, getElem_mem -> ML, length_take -> MM, mem_of_getElem? -> MN, length_append -> MO, map_append -> MP
open World renaming cell?_setCell_far -> Ms, cell?_alloc_lt -> Mx, ownsRow_nil -> MH, setCell -> MJ
open Nat renaming lt_of_lt_of_le -> Mu, zero_le -> Mw, le_refl -> MD, min_eq_left -> MI, le_trans -> MK
open Go.RowKit.Below renaming refl -> MF
variable {zq:Prop}
variable {V W V0 W' w w':World} {tb n g' i f N sb lc hc j sc base fuel:Nat} {v v' F' X' A F X:Value} {xs rv' rv cs:List Value} {q fl' fl:List Nat} {b:List Bool} {nx' nx:List (List Nat)} {lo ho so:Option Addr} {c:Array Value} {m x:Nat × Nat} {p:Bool × List Bool} {ms:List (List Bool)} {e:Ending} {al:List Tk} {rs:List Rl} {o:Option Tb} {t:TypeId} {laid:List (String × DataW Unit)} {tr:List Int}
theorem zm63(h:zq:=by
 subst hxy;have HK2:Hid (l.take (k+1)=m.take (k+1)):=by
  show _=_;rw[List.take_add_one,List.take_add_one,HX.out,HY.out,HK.out]
 go_wp2;go_quiet (fail);go_wp2
 go_roundw
 ·exact⟨k+1,zo,zf,HB.out.trans (((jA _ _).mono HB.out.size)),HK2⟩
 simp[intOf];omega
 ):zq:=h
theorem zm80(h:zq:=by
 have HE:Hid (l=m):=by
  have:=HK.out;rw[List.take_of_length_le (by rw[HL.out];omega),List.take_of_length_le (by rw[HN.out];omega)] at this;exact this
 go_wp2;go_ret;exact⟨TellsB.yes HE.out,HB.out⟩
 ):zq:=h
theorem zm108(h:zq:=by
 have hi:¬ (l.length:Int)=(m.length:Int):=zo;have HNE:Hid (¬ l=m):=fun e=>hlm (by rw[e])
 clear hlm;go_in;go_wp2;go_ret;exact⟨TellsB.no HNE.out,Below.refl _ _⟩
 ):zq:=h
theorem zm145(h:zq:=by
 clear HY HKT;go_wp2;go_quiet (fail);go_wp2
 go_roundw
 ·exact⟨j+1,zo,zf,fa (HY2.out nq)⟩
 simp[intOf];omega
 ):zq:=h
theorem zm160(h:zq:=by
 go_wp2;go_quiet (fail);go_wp2;go_ret;exact⟨TellsB.no HNE.out,HB.out.trans (((jA _ _).mono HB.out.size))⟩
 ):zq:=h
def jX(b:List Bool):Nat:=if (b[0]?).getD false=true then 1 else 0
theorem Jk(b:List Bool):jN b=jX b+if b.any id=true then 2 else 0:=rfl
theorem I5(hg:V.grownBy W (some tb)){b:Nat}(o:Nat)(J:b<V.heap.size)(I:b≠tb):W.cell? ⟨b,o,none⟩=V.cell? ⟨b,o,none⟩:=by
 have e:=hg.block b J (fun e=>I (Option.some.inj e));unfold World.cell?;simp_all
structure BlT (V W:World) (tb:Nat) (so:Option Addr) (sc:Nat) (ms:List (List Bool)) (A F X:Value) (fl:List Nat) (nx:List (List Nat)) (rv:List Value):Prop where
 blk:W.heap[tb]? =some (xi #[A,F,X] 36 (0,0))
 htb:tb<V.heap.size
 st:W.ownsRow V.heap.size 9 1 (xa so ms.length sc) ms.length (lN ms)
 tab:TbV W V.heap.size (xa none 0 0) F X ⟨[],fl,nx⟩ rv
 gr:V.grownBy W (some tb)
section
variable {V W W' : World} {tb : Nat} {so : Option Addr} {sc : Nat} {ms : List (List Bool)} {A F X : Value} {fl : List Nat} {nx : List (List Nat)} {rv : List Value}
theorem BlT.later(h:BlT V W tb so sc ms A F X fl nx rv)(I:Below W.heap.size W W'):BlT V W' tb so sc ms A F X fl nx rv:=
 ⟨(I.block _ (fh h.blk)).trans h.blk,h.htb,fL h.st I,h.tab.later I,h.gr.trans (gC I _)⟩
theorem BlT.own(h:BlT V W tb so sc ms A F X fl nx rv){e z:Nat}(U:W.ownsRow V.heap.size e z v n xs)(hg:W.grownBy W' v.ownBlock)(he:e≠36):W'.heap[tb]? =some (xi #[A,F,X] 36 (0,0))/\V.grownBy W' (some tb):=by
 have R:=fun k I=>(gG U k I).1
 refine⟨(hg.block _ (fh h.blk) (fun e=> ?_)).trans h.blk,⟨hg.os.trans h.gr.os,hg.tape.trans h.gr.tape,hg.output.trans h.gr.output,MK h.gr.size hg.size,fun k I J=>(hg.block k (Mu I h.gr.size) (fun e=> ?_)).trans (h.gr.block k I J)⟩⟩
 ·have:=R _ e.symm;have:=h.htb;omega
 have:=R _ e.symm;omega
theorem BlT.set(h:BlT V W tb so sc ms A F X fl nx rv)(R:RwU W V.heap.size F rv v q){g cap:Nat}(ho:W'.ownsRow V.heap.size 9 1 (xa (some ⟨g,0,none⟩) (ms.length+1) cap) (ms.length+1) (lN ms++[xj (gH b)]))(hg:W.grownBy W' (xa so ms.length sc).ownBlock):
  BlT V W' tb (some ⟨g,0,none⟩) cap (ms++[b]) A F X fl nx rv/\RwU W' V.heap.size F rv v q:=by
 obtain⟨U,h2⟩:=h.own h.st hg zp;refine⟨⟨U,h.htb, ?_,h.tab.grow hg fun k I=>⟨fun e=>(by cases e),ie h.tab.fl h.st zp k I,ie h.tab.nx h.st zp k I,fun u J=> ?_⟩,h2⟩,R.grow hg (ie R.own h.st zp)⟩
 ·have e:lN (ms++[b])=lN ms++[xj (gH b)]:=by rw[Bs];rfl
  rw[e,MO];exact ho
 obtain⟨r,hr⟩:=h.tab.row_at J;exact ie hr h.st zp k I
theorem BlT.num(h:BlT V W tb so sc ms A F X fl nx rv)(J:RwU W V.heap.size F rv v q){x:Nat}(ho:W'.ownsRow V.heap.size 3 1 v' (q.length+1) (gU q++[xd xh (x:Int)]))(hg:W.grownBy W' v.ownBlock)(R:v'.ownBlock=some g')(I:v.ownBlock=some g'\/W.heap.size<=g'):
  BlT V W' tb so sc ms A F X fl nx rv/\RwU W' V.heap.size F rv v' (q++[x]):=by
 obtain⟨U,h2⟩:=h.own J.own hg zp;obtain⟨t1,u1⟩:=h.tab.num J ho hg R I;exact⟨⟨U,h.htb,gE h.st hg (ie h.st J.own zp),t1,h2⟩,u1⟩
theorem BlT.put{A' x:Value}(J:W.heap[tb]? =some (xi #[A,F,X] 36 (0,0)))(htb:tb<V.heap.size)(I:W.ownsRow V.heap.size 9 1 (xa so ms.length sc) ms.length (lN ms))(ht:TbV W V.heap.size (xa none 0 0) F' X' ⟨[],fl',nx'⟩ rv')(U:V.grownBy W (some tb))(hc:(#[A,F,X]:Array Value).setIfInBounds i x= #[A',F',X']):
  BlT V (W.setCell ⟨tb,i,none⟩ x) tb so sc ms A' F' X' fl' nx' rv':=by
 refine⟨?_,htb,gE I (fK W tb i x) fun b R e=> ?_,ht.cellO J zp i x,U.trans (fK W tb i x)⟩
 ·have:=fj J i x;simp_all
 cases R;exact gp I e J zp
theorem BlT.row(h:BlT V W tb so sc ms A F X fl nx rv)(R:RwU W V.heap.size F rv v q)(ho:W'.ownsRow V.heap.size 33 1 X' (nx.length+1) (rv++[v]))(hg:W.grownBy W' X.ownBlock):BlT V (W'.setCell ⟨tb,2,none⟩ X') tb so sc ms A F X' fl (nx++[q]) (rv++[v]):=by
 obtain⟨I,J⟩:=h.own h.tab.nx hg zp;exact BlT.put I h.htb (gE h.st hg (ie h.st h.tab.nx zp)) (h.tab.row R ho hg) J rfl
theorem BlT.flag(h:BlT V W tb so sc ms A F X fl nx rv)(ho:W'.ownsRow V.heap.size 3 1 F' (fl.length+1) (gU fl++[xd xh (f:Int)]))(hg:W.grownBy W' F.ownBlock)(I:F'.ownBlock=some g')(J:F.ownBlock=some g'\/W.heap.size<=g'):BlT V (W'.setCell ⟨tb,1,none⟩ F') tb so sc ms A F' X (fl++[f]) nx rv:=by
 obtain⟨R,U⟩:=h.own h.tab.fl hg zp;exact BlT.put R h.htb (gE h.st hg (ie h.st h.tab.fl zp)) (h.tab.flag ho hg I J) U rfl
theorem BlT.fset{fb c:Nat}(h:BlT V W tb so sc ms A (xa (some ⟨fb,0,none⟩) N c) X fl nx rv)(R:fl.length=N)(i x:Nat):BlT V (W.setCell ⟨fb,i,none⟩ (xd xh (x:Int))) tb so sc ms A (xa (some ⟨fb,0,none⟩) N c) X (fl.set i x) nx rv:=by
 have hg:=fK W fb i (xd xh (x:Int));obtain⟨I,J⟩:=h.own h.tab.fl hg zp;exact⟨I,h.htb,gE h.st hg fun b U=>ie h.st h.tab.fl zp b U,h.tab.fset R i x,J⟩
end
theorem PtP.at_{l:List (Bool × List Bool)}{tw:List (List Nat)}(h:PtP V0 V N sb lo lc l ho hc rv tw)(J:V.heap[tb]? =some (xi c 36 m))(hg:V.grownBy W (some tb)):LD W lo l/\RwS W ho (tw.map zI):=by
 refine⟨Fy (gE h.pl hg fun b I e=> ?_),(h.tab.other hg fun b I c' m'=> ?_).rws rfl⟩
 ·cases I;exact gp h.pl e J zp
 simp_all
theorem Du{T:List Int}{t:Int}(h:T[j]? =some t):mg (T.take (j+1)) p=(mg (T.take j) p&&kh p.2 t):=by
 unfold mg;rw[MG,h,Option.toList_some,List.all_append];simp
structure BW (V W:World) (b:List Bool):Prop where
 blk:W.heap[V.heap.size]? =some (xi (o7 b) 5 (0,0))
 bel:Below V.heap.size V W
theorem BW.set(h:BW V W b)(k:Nat)(x:Bool){z:Int}(I:((nk x).toNat:Int)=z):BW V (W.setCell ⟨V.heap.size,k,none⟩ (xd .u8 z)) (b.set k x):=by
 subst I;refine⟨?_,h.bel.setCell (p:=⟨V.heap.size,k,none⟩) (MD _) _⟩;exact zm106
theorem BW.later(h:BW V W b)(I:Below W.heap.size W W'):BW V W' b:=
 ⟨(I.block _ (fh h.blk)).trans h.blk,h.bel.trans (I.mono h.bel.size)⟩
theorem BW.start(V:World)(n:Nat):BW V (V.alloc (xi (Array.replicate n (xd .u8 0)) 5)) (List.replicate n false):=by
 refine⟨?_,gz⟩;rw[sT];exact ft _ _
theorem BW.slot(h:BW V W b){k:Nat}(I:k<b.length):(∃z,W.cell? ⟨V.heap.size,k,none⟩=some z)/\W.frozen? ⟨V.heap.size,k,none⟩=false/\V.heap.size<W.heap.size:=
 ⟨⟨_,(cell_of_blk h.blk k).trans (oh (Mr I))⟩,fi h.blk k,fh h.blk⟩
theorem BlT.full(h:BlT V W tb so sc ms A F X fl nx rv)(I:base<=V.heap.size){names:List ByteArray}(R:V.ownsRow base 9 1 A names.length (jK names))(ht:V.heap[tb]? =some (xi c 36 m)):TbV W base A F X ⟨names,fl,nx⟩ rv:=
 ⟨gE R h.gr fun b J e=>by cases J;exact gp R e ht zp,ig h.tab.fl I,ig h.tab.nx I,fun j r hr=>by
  obtain⟨v,U,h2⟩:=h.tab.rows j r hr;exact⟨v,U,ig h2 I⟩,h.tab.rf,h.tab.rr⟩
def nz(ms:List (List Bool))(i:Nat):List Nat:=(ms.take i).map jN++(ms.drop i).map jX
theorem GS(ms:List (List Bool)):nz ms 0=ms.map jX:=zf
theorem Jn(h:ms.length<=i):nz ms i=ms.map jN:=by unfold nz;rw[MC h,List.drop_of_length_le h];simp
theorem xQ(ms:List (List Bool))(i:Nat):(nz ms i).length=ms.length:=by unfold nz;simp;omega
theorem oE(h:ms[i]? =some b):nz ms i=(ms.take i).map jN++(jX b::(ms.drop (i+1)).map jX)/\nz ms (i+1)=(ms.take i).map jN++(jN b::(ms.drop (i+1)).map jX):=by
 have hi:=(List.getElem?_eq_some_iff.1 h).1;have e:ms.drop i=b::ms.drop (i+1):=by
  rw[ME hi];simp_all
 constructor
 ·unfold nz;simp_all
 unfold nz;rw[MG,h,MP,List.append_assoc];rfl
theorem KE(h:ms[i]? =some b):(nz ms i)[i]? =some (jX b):=by
 have hi:=(List.getElem?_eq_some_iff.1 h).1;rw[(oE h).1,List.getElem?_append_right zs];simp[MI (Nat.le_of_lt hi)]
theorem GR(h:ms[i]? =some b):nz ms (i+1)=(nz ms i).set i (jN b):=by
 have hi:=(List.getElem?_eq_some_iff.1 h).1;rw[(oE h).1,(oE h).2,List.set_append_right _ _ zs];simp[MI (Nat.le_of_lt hi)]
theorem GQ(h:ms[i]? =some b)(he:jN b=jX b):nz ms (i+1)=nz ms i:=by
 rw[(oE h).1,(oE h).2,he]
theorem Jj(b:List Bool):jX b%2=1↔(b[0]?).getD false=true:=by
 unfold jX;cases (b[0]?).getD false<;>decide
theorem KD(b:List Bool):jX b<=1:=by unfold jX;split<;>omega
theorem Ei(al:List Tk)(rs:List Rl)(hM:MGood al rs)(h6:al.length<=6)(o1:Option Addr)(n1 k1:Nat)(o2:Option Addr)(n2 k2:Nat)(ha:ActsAre w o1 n1 k1 al)(hr:RowR w o2 n2 k2 rs):
  Calls prog 142 #[.agg #[xa o1 n1 k1,xa o2 n2 k2]] w fun e w'=> ∃o,qv al rs o/\oZ okB w o w' e:=by
 have hB:Below w.heap.size w ((w.alloc (xi #[xa o1 n1 k1,xa o2 n2 k2] 228)).alloc (xi #[xa none 0 0,xa none 0 0,xa none 0 0] 36)):=gz.alloc zp _;have dD:=fa (BP vR o1 n1 k1 o2 n2 k2 al rs ((KT.below hB).acts ha) (hr.later hB) hM.alen hM.rlen hM.call hM.fg (by have:=hM.nodes;omega));have cM:Hid (((w.alloc (xi #[xa o1 n1 k1,xa o2 n2 k2] 228)).alloc (xi #[xa none 0 0,xa none 0 0,xa none 0 0] 36)).heap[w.heap.size]? =some (xi #[xa o1 n1 k1,xa o2 n2 k2] 228 (0,0))):=(Below.heap_alloc _ _ _ zp).trans (ft _ _);have cQ:Hid (((w.alloc (xi #[xa o1 n1 k1,xa o2 n2 k2] 228)).alloc (xi #[xa none 0 0,xa none 0 0,xa none 0 0] 36)).heap[w.heap.size+1]? =some (xi #[xa none 0 0,xa none 0 0,xa none 0 0] 36 (0,0))):=fk _ _ _ zp;have dm:=fa ((KT.below hB).acts ha);have bN:=ha.len;have HB:=fa hB;have HM:=fa hM;have eF:1<=al.length:=by
  cases hc:al with
  |nil=>exact absurd hc hM.ne
  |cons _ _=>simp
 subst bN;clear ha hr hB hM;go_in;go_wp2_with fail;refine dD.mono ?_;generalize ((w.alloc (xi #[xa o1 al.length k1,xa o2 n2 k2] 228)).alloc (xi #[xa none 0 0,xa none 0 0,xa none 0 0] 36))=W0 at *;rintro e w1 ⟨nb,B,rfl,bN,hn2,eE,bI⟩;have eg:=iz w1 (xi #[xa none 0 0,xa none 0 0,xa none 0 0] 36);have hmb:=(bI.block _ (fh cM)).trans cM;have aw:=fa hmb;have cG:=fa ((KT.below bI).acts dm);have a6:=fa ((bI.block _ (fh cQ)).trans cQ);have bx:=fa eE;have dp:=fa (HB.trans (bI.mono HB.size));have cr:=fa (ft w1 (xi #[xa none 0 0,xa none 0 0,xa none 0 0] 36));have dv:=fa eg;clear hmb eE bI eg dD cM dm cQ HB;go_wp2_with fail;generalize w1.alloc (xi #[xa none 0 0,xa none 0 0,xa none 0 0] 36)=W1 at *
 go_loopw [6] (fun x wr=> ∃(k:Nat) (ao:Option Addr) (ac:Nat),k<=al.length/\x=xd xh k/\Hid (wr.heap[w1.heap.size]? =some (xi #[xa ao k ac,xa none 0 0,xa none 0 0] 36 (0,0)))/\Hid (wr.ownsRow w1.heap.size 9 1 (xa ao k ac) k (jK ((al.map (·.s)).take k)))/\Hid (Below w1.heap.size w1 wr)) (fun x _=>al.length - (intOf x).toNat)
 ·exact⟨0,none,0,Mw _,rfl,cr,MH _ _ _ _,dv⟩
 obtain⟨k,ao,ac,hk,rfl,aL,bz,J⟩:=hrel;have hmb:=(J.block _ (fh aw)).trans aw;have aO:=cell_of_blk hmb 0;have au:=fh hmb;have bn:=cell_of_blk aL 0;have cg:=fi aL 0;have ch:=fh aL;clear hmb;rcases zc k al.length with⟨hlt,hkn⟩|⟨hlt,hkn⟩
 ·obtain⟨ag,fZ,d',_,_,eR,_⟩:=((KT.below J).acts cG).tok (i:=k) (t:=al[k]) (r:=al.drop (k+1)) (ME hlt);subst fZ;obtain⟨fJ,eJ,fO,_,_,eS,_⟩:=cG.tok (i:=k) (t:=al[k]) (r:=al.drop (k+1)) (ME hlt);have dZ:ag=fJ:=za;subst dZ;clear eJ;have fX:=fh aw;have eD:=cell_of_blk aw 0;have bA:Hid ((al.map (·.s)).take (k+1)=(al.map (·.s)).take k++[al[k].s]):=by
   show _=_;rw[MG,Mz,Mr hlt];rfl
  generalize al[k].s=s at *;go_wp2_with fail;have an:Below wr.heap.size wr (wr.alloc (xi #[xj s] 9)).drew:=gz.drew;have bU:=MK J.size an.size;refine wp_region_held_drew (S:=fun w'=>w'.cell? ⟨w.heap.size,0,none⟩=some (xa (some ⟨ag,0,none⟩) al.length k1)/\w'.cell? ⟨ag,k * 3+1,none⟩=some (xj s)) zk ?_ (fun I=> ?_)
  ·trivial
  apply zt1 0 (xk (some ⟨w1.heap.size,0,none⟩)) I;apply zt1 2 (xk (some ⟨w.heap.size,0,none⟩)) I;apply zt1 3 (xa (some ⟨ag,0,none⟩) al.length k1) I;apply zt1 4 (xd xh (k:Int)) I;apply zt1 5 (xk (some ⟨ag,k * 3,none⟩)) I;apply zt1 6 (xk (some ⟨ag,k * 3+1,none⟩)) I;apply zt1 7 (xj s) I;refine zrH2 1 8 (fun K R=> ?ra) fun K R=> ?rb
  case' ra=>(go_simp;refine R _ _ I (fun I=> ?_);clear R K;apply zrH 8;intro K R;go_simp;refine R _ _ ⟨(Mx _ _ _ au).trans aO,(Mx _ _ _ d').trans eR⟩ (fun I=> ?_);clear R K)
  case' rb=>(go_simp;refine R _ _ ⟨(Mx _ _ _ au).trans aO,(Mx _ _ _ d').trans eR⟩ (fun I=> ?_);clear R K;apply zrH 1;intro K R;go_simp;refine R _ _ I (fun I=> ?_);clear R K)
  all_goals (
   apply zrH 9;intro K R;refine DY zf _ _ 25 zf w1.heap.size 9 AK rfl underlying25 (v:= xa ao k ac) (n:=k) (xs:=jK ((al.map (·.s)).take k)) zf (H:=wr.heap.size) (xj s) zf rfl (fL bz.out an) (ft wr _) zo bU ?_;intro g4 ak w4 av aq a';have U:=aq;have c9:=fL bz.out an;have cb:=(J.out.trans (an.mono J.out.size)).grown U (MK J.out.size an.size) (fun b hb=>(gG c9 b hb).1);have aE:=(U.block _ (Mu ch an.size) (fun e=>gp c9 e.symm ((an.block _ ch).trans aL.out) zp)).trans ((an.block _ ch).trans aL.out);have df:=cell_of_blk aE 0;have dh:=fi aE 0;have di:=fh aE;have dJ:Hid ((w4.setCell ⟨w1.heap.size,0,none⟩ (xa (some ⟨g4,0,none⟩) (k+1) ak)).heap[w1.heap.size]? =some (xi #[xa (some ⟨g4,0,none⟩) (k+1) ak,xa none 0 0,xa none 0 0] 36 (0,0))):=fj aE 0 _;have dF:Hid ((w4.setCell ⟨w1.heap.size,0,none⟩ (xa (some ⟨g4,0,none⟩) (k+1) ak)).ownsRow w1.heap.size 9 1 (xa (some ⟨g4,0,none⟩) (k+1) ak) (k+1) (jK ((al.map (·.s)).take (k+1)))):=by
    have e:jK ((al.map (·.s)).take (k+1))=jK ((al.map (·.s)).take k)++[xj s]:=by rw[bA.out];unfold jK;simp
    show World.ownsRow _ _ _ _ _ _ _;rw[e];exact gE av (fK _ _ _ _) fun b hb e=>by cases hb;exact gp av e aE zp
   have dw:=fa (cb.setCell (p:=⟨w1.heap.size,0,none⟩) (MD _) (xa (some ⟨g4,0,none⟩) (k+1) ak));have eC:=(bcell3 cb w.heap.size 0 fX).trans eD;have dX:=(bcell3 cb ag (k * 3+1) fO).trans eS;refine R _ _ ⟨eC,dX⟩ (fun I=> ?_);clear R K;clear av aq a' U cb aE c9 bn cg;apply zt1 10 (xk (some ⟨w1.heap.size,0,none⟩)) I;apply zrH 11;intro K R;go_simp;refine R _ _ ⟨(Ms _ _ _ _ (by show w1.heap.size≠w.heap.size;omega)).trans I.1,(Ms _ _ _ _ (by show w1.heap.size≠ag;omega)).trans I.2⟩ (fun I=> ?_);clear R K;refine wpAnyH_done zk ?_ _;clear I;clear df dh di an bU eC dX;go_wp2
   go_roundw
   case rel=>exact⟨k+1,some ⟨g4,0,none⟩,ak,zo,zf,dJ,dF,dw⟩
   case measure=>simp[intOf];omega
   )
 have bj:k=al.length:=zo;subst bj;have cx:(al.map (·.s)).take al.length=al.map (·.s):=by rw[MC zp]
 rw[cx] at bz;have fw:=fa (ti vR al rs ([],[]) HM.fg (fun k d h=>by simp at h));have fD:Hid (∀t∈(iF al rs ([],[])).2,0<=t/\t<((iF al rs ([],[])).1.length:Int)):=fa (fun t h=>⟨uI vR al rs ([],[]) HM.fg (fun t h=>zv) t h,yQ al rs ([],[]) (fun t h=>zv) t h⟩);have fY:(iF al rs ([],[])).1.length<=16:=by rw[(qe al rs ([],[])).1];have:=HM.nodes;simp_all
 have hTl:(iF al rs ([],[])).2.length<=10000:=by rw[(qe al rs ([],[])).2];have:=HM.rlen;simp;omega
 have dy:Hid (∀o,CmpR (rq (iF al rs ([],[])).1) (nP (iF al rs ([],[])).1) (mg (iF al rs ([],[])).2) (al.map (·.s)) o->qv al rs o):=fun o h=>h
 have dH:=fa (DI wr nb B (bx.later J) fw fY al.length h6);generalize (iF al rs ([],[])).1=L at *;generalize (iF al rs ([],[])).2=T at *;clear cx bn cg;go_wp2_with fail;refine dH.mono ?_;rintro e w3 ⟨N,sb,rv0,l,tw,lo,lc,ho,hc,rfl,aD,bQ,hlf⟩;have aC:=J.trans (bQ.bel.mono J.size);have ck:=fa aC;have aB:=fa ((bQ.bel.block _ (fh aL)).trans aL);have cp:=fa (fL bz bQ.bel);have bw:=fa ((aC.block _ (fh aw)).trans aw);have cq:=fa ((aC.block _ (fh a6)).trans a6);have dE:=fa (bx.later aC);have dG:=fa bQ;have HBFS:=fa aD;have bc:=fh bw;have cD:=fh aB;have hmtb:=fh aw;have hrtb:=fh a6;have aY:=fa (dp.trans (aC.mono dp.size));have cF:=aD.len;have bB:=fa cF;have fE:=fa (D8 aD);have dB:=fa (pq aD);have hl1:1<=l.length:=by have:=(List.getElem?_eq_some_iff.1 aD.first).1;omega
 have fV:=fun W:World=>pH W l.length zo
 clear bQ aD aC dH J aL bz aO au ch bx aw a6 cG dv cr cF;generalize hKe:l.map (mg T)=K0 at *;have b5:=fa hKe;have cX:K0.length=l.length:=by rw[<-hKe,Mt]
 have HX0:Hid (BW w3 (w3.alloc (xi (Array.replicate l.length (xd .u8 0)) 5)) (iu K0 0)):=by
  show BW _ _ _;rw[mW,cX];exact BW.start w3 l.length
 have aT:=fa cX;clear hKe cX;go_wp2_with fail;generalize w3.alloc (xi (Array.replicate l.length (xd .u8 0)) 5)=W3 at *;clear fV
 go_loopw [10] (fun x wr=> ∃k:Nat,k<=l.length/\x=xd xh k/\Hid (BW w3 wr (iu K0 k))) (fun x _=>l.length - (intOf x).toNat)
 ·exact zm129
 obtain⟨k,hk,rfl,HX⟩:=hrel;rcases zc k l.length with⟨hlt,hkn⟩|⟨hlt,hkn⟩
 ·have fA:=fa (Mr hlt);have fx:Hid (K0[k]? =some (mg T l[k])):=by show _=_;rw[<-b5.out,Mz,Mr hlt];rfl
  have aV:=dB _ (ML hlt);obtain⟨⟨z0,vc⟩,vf,lv⟩:=HX.slot (k:=k) (by rw[mH (by rw[aT.out];omega),aT];omega);have fG:Hid (BW w3 (wr.setCell ⟨w3.heap.size,k,none⟩ (xd .u8 1)) ((iu K0 k).set k (mg (T.take 0) l[k]))):=HX.set k true rfl;clear HX;generalize l[k]=p at *;go_wp2_with fail;clear vc vf lv;generalize wr.setCell ⟨w3.heap.size,k,none⟩ (xd .u8 1)=W4 at *
  rename World=>wR
  go_loopw [11] (fun x wr=> ∃j:Nat,j<=T.length/\x=xd xh j/\Hid (BW w3 wr ((iu K0 k).set k (mg (T.take j) p)))) (fun x _=>T.length - (intOf x).toNat)
  ·exact⟨0,Mw _,rfl,fG⟩
  obtain⟨j,hj,rfl,HY⟩:=hrel;obtain⟨p0,c0,p1,c1,p2,c2,p3,c3,p4,c4,cd,_,aX⟩:=(dE.later HY.bel).ex;have b4:=cell_of_blk cd 4;have l4:=fh cd;rcases zc j T.length with⟨hjl,hjn⟩|⟨hjl,hjn⟩
  ·obtain⟨g4,rfl,hg4,gd⟩:=aX j T[j] (Mr hjl);obtain⟨pg,rfl,hpg,hp1,_⟩:=(dG.at_ aB (gC HY.bel _)).1 k p fA;obtain⟨gb,eW⟩:=fD _ (ML hjl);have HKT:=fa (Du (p:=p) (Mr hjl));obtain⟨tt,eZ⟩: ∃tt:Nat,T[j]=(tt:Int):=⟨T[j].toNat,zo⟩;rw[eZ] at gd eW HKT;have cE:tt<p.2.length:=zo;have e0:tt<(gH p.2).size:=by rw[k9];omega
   have httsi:(tt:Int)<((gH p.2).size:Int):=zo;have hx:=nH e0 (Mr cE:p.2[tt]? =some p.2[tt]);rw[kW (Mr cE)] at HKT;obtain⟨⟨z0,vc⟩,vf,lv⟩:=HY.slot (k:=k) (by rw[List.length_set,mH (by rw[aT.out];omega),aT];omega);generalize p.2[tt]=x at *;clear aX cd eZ gb eW;cases x with
   |true=>
    have HY2:Hid (∀n,BW w3 (wr.drewN n) ((iu K0 k).set k (mg (T.take (j+1)) p))):=fun n=>by rw[HKT.out,Bool.and_true];exact HY.later (jA wr n)
    simp only[if_true] at hx;have gf:decide (((gH p.2)[tt].toNat:Int)=0)=false:=za;exact zm145
   |false=>
    have HY2:Hid (∀n,BW w3 ((wr.drewN n).setCell ⟨w3.heap.size,k,none⟩ (xd .u8 0)) ((iu K0 k).set k (mg (T.take (j+1)) p))):=fun n=>by
     have h1:=(HY.later (jA wr n)).set k false (z:=0) rfl;rw[List.set_set] at h1;rw[HKT.out,Bool.and_false];exact h1
    have e6:=fun n=>(bcell3 (jA wr n) w3.heap.size k lv).trans vc
    have e8:=fun n=>(Kt (jA wr n) w3.heap.size k lv).trans vf
    have gf:decide (((gH p.2)[tt].toNat:Int)=0)=true:=za;exact zm145
  have HY2:Hid (BW w3 wr (iu K0 (k+1))):=by
   show BW _ _ _;have h1:=HY.out;rw[MC zo] at h1;rw[lX fx.out];exact h1
  clear aX cd HY;go_wp2
  go_roundw
  ·exact⟨k+1,zo,zf,HY2⟩
  simp[intOf];omega
 have bj:k=K0.length:=by rw[aT.out];omega
 rw[bj,mG] at HX;clear bj;have cc:=rL wr l.length HX.blk aT;have c5:Below w3.heap.size w3 (wr.alloc (xi #[xj (gH K0)] 9)):=HX.bel.alloc HX.bel.size _;have dt:Hid (BlT w3 (wr.alloc (xi #[xj (gH K0)] 9)) w1.heap.size (some ⟨wr.heap.size,0,none⟩) 1 [K0] (xa ao al.length ac) (xa none 0 0) (xa none 0 0) [] [] []):=
  ⟨(c5.block _ cD).trans aB,cD,⟨rfl,Or.inr ⟨wr.heap.size,1,_,rfl,HX.bel.size,ft _ _,MD _,zd,rfl,rfl⟩⟩,⟨MH _ _ _ _,MH _ _ _ _,MH _ _ _ _,fun j r hr=>zv,fun v hv=>zv,List.Pairwise.nil⟩,gC c5 _⟩
 clear c5 HX;go_wp2_with fail;generalize wr.alloc (xi #[xj (gH K0)] 9)=W5 at *;have hmkb:=fun W:World=>pH W l.length zo
 generalize wr.heap.size=s0b at *;clear cc
 go_loopw [12,13] (fun y x wr=> ∃(k:Nat) (so:Option Addr) (sc:Nat) (ms:List (List Bool)) (fo:Option Addr) (fc:Nat) (xo:Option Addr) (xc:Nat) (rows:List (List Nat)) (rv:List Value),y=xa so ms.length sc/\x=xd xh k/\Hid (BlT w3 wr w1.heap.size so sc ms (xa ao al.length ac) (xa fo k fc) (xa xo k xc) ((ms.take k).map jX) rows rv)/\Hid (Bfs (setB tw) (My al.length) K0 k ms rows)/\ms.length<=100/\Hid (jU (setB tw) (My al.length) 100 102 0 [K0] []=jU (setB tw) (My al.length) 100 (102 - k) k ms rows)) (fun _ x _=>101 - (intOf x).toNat)
 ·exact⟨0,some ⟨s0b,0,none⟩,1,[K0],none,0,none,0,[],[],rfl,rfl,dt,Bfs.start _ _ _,zp,rfl⟩
 obtain⟨k,so,sc,ms,fo,fc,xo,xc,rows,rv,rfl,rfl,ay,aJ,fW,HEQ⟩:=hrel;have hkm:=aJ.le;have dI:=fa (aJ.len);have aN:=ay.gr;have aO:=(I5 aN 0 bc zo).trans (cell_of_blk bw 0);have au:=Mu bc aN.size;clear aN;rcases zc k ms.length with⟨hlt,hkn⟩|⟨hlt,hkn⟩
 ·have HX:=fa (Mr hlt);have cz:=Bv aJ (by rw[aT.out,bB.out]) _ (ML hlt);have cl:=fa cz;have fF:=fa (RwU.start wr w3.heap.size (xa fo k fc) rv);generalize ms[k]=bs at *;clear cz;go_wp2_with fail;clear aO au
  rename World=>wR
  go_loopw [12,14,15] (fun y v x wr=> ∃(j:Nat) (so:Option Addr) (sc:Nat) (M:List (List Bool)) (q:List Nat) (vo:Option Addr) (vc:Nat),j<=al.length/\y=xa so M.length sc/\v=xa vo j vc/\x=xd xh j/\Hid (BlT w3 wr w1.heap.size so sc M (xa ao al.length ac) (xa fo k fc) (xa xo k xc) ((ms.take k).map jX) rows rv)/\Hid (RwU wr w3.heap.size (xa fo k fc) rv (xa vo j vc) q)/\Hid (jh (setB tw) bs (My j) ms=(M,q))) (fun _ _ x _=>al.length - (intOf x).toNat)
  ·exact⟨0,so,sc,ms,[],none,0,Mw _,rfl,rfl,rfl,ay,fF,rfl⟩
  obtain⟨j,e4,bW,M,q,vo,vc,hj,rfl,rfl,rfl,ar,HU,HRN⟩:=hrel;have bT:=nF (setB tw) bs (My j) ms;rw[HRN.out] at bT;obtain⟨⟨xs,dR,dd⟩,f',_,_⟩:=bT;have hMle:M.length<=ms.length+j:=by
   have:=rB (setB tw) bs (My j) ms;exact zm138
  have b7:Hid (q.length=j):=by show _=_;simp_all
  have cO:Hid (M=ms++xs):=dR;have c8:k<M.length:=by rw[cO.out,MO];omega
  have cU:Hid (M[k]? =some bs):=by show _=_;rw[cO.out];exact oG HX
  have aN:=ar.gr;have aO:=(I5 aN 0 bc zo).trans (cell_of_blk bw 0);have au:=Mu bc aN.size;have eT:=aN.size;clear dR dd f' aN;rcases zc j al.length with⟨hjl,hjn⟩|⟨hjl,hjn⟩
  ·have bS:(setB tw bs j).length=l.length:=by unfold setB;rw[Mt];trivial
   have fH:Hid (BW wr (wr.alloc (xi (Array.replicate l.length (xd .u8 0)) 5)) (iu (setB tw bs j) 0)):=by
    show BW _ _ _;rw[mW,bS];exact BW.start wr l.length
   have a8:Hid (jh (setB tw) bs (My (j+1)) ms=((jr M (setB tw bs j)).1,q++[(jr M (setB tw bs j)).2])):=by
    exact zm124
   have fB:Hid (∀(i:Nat) (r:List Nat) (x:Nat) (y:Bool),tw[i]? =some r->r[j]? =some x->bs[x]? =some y->(setB tw bs j)[i]? =some y):=fun i r x y h1 h2 h3=>by
    unfold setB;simp_all
   have a7:=fa bS;generalize setB tw bs j=s2 at *;clear bS;go_wp2_with fail;clear aO au;generalize wr.alloc (xi (Array.replicate l.length (xd .u8 0)) 5)=W6 at *;generalize wr=wS at *
   go_loopw [17] (fun x wr=> ∃i:Nat,i<=l.length/\x=xd xh i/\Hid (BW wS wr (iu s2 i))) (fun x _=>l.length - (intOf x).toNat)
   ·exact⟨0,Mw _,rfl,fH⟩
   obtain⟨i,hi,rfl,HY⟩:=hrel;rcases zc i l.length with⟨hil,hin⟩|⟨hil,hin⟩
   ·have hit:i<tw.length:=by rw[bB.out];omega
    have hiti:(i:Int)<(tw.length:Int):=zo;have az:=HY.bel;obtain⟨pb,bl,aV,aP⟩:=hD ar.st c8;have bd:wr.cell? ⟨pb,k,none⟩=some (xj (gH bs)):=(bcell3 az _ _ aV).trans (aP.trans (by unfold lN;rw[Mz,cU.out];rfl));have hpl2:=Mu aV az.size;obtain⟨rr,c'⟩: ∃rr,tw[i]? =some rr:=⟨_,Mr hit⟩;obtain⟨bR,eQ⟩:=fE rr (MN c');obtain⟨tg,to_,ro,rc,fT,eX,bn,cB⟩:=(dG.at_ aB ar.gr).2 i (zI rr) za;have e3:(zI rr).length=al.length:=by unfold zI;simp_all
    rw[e3] at bn;obtain⟨x,hx⟩: ∃x,rr[j]? =some x:=⟨_,Mr zo⟩;have hxl:=eQ x (MN hx);obtain⟨rg,r0,ga,eP,eN⟩:=cB j (x:Int) (by unfold zI;simp_all);have htc2:=(bcell3 az _ _ eX).trans bn;have hrc2:=(bcell3 az _ _ eP).trans eN;have htg2:=Mu eX az.size;have hrg2:=Mu eP az.size;have e1:x<bs.length:=by rw[cl.out];omega
    have dd:x<(gH bs).size:=by rw[k9];omega
    have hxsi:(x:Int)<((gH bs).size:Int):=zo;have bg:=nH dd (Mr e1:bs[x]? =some bs[x]);have cm:=fa (fB i rr x bs[x] c' hx (Mr e1));obtain⟨⟨z0,vc⟩,vf,lv⟩:=HY.slot (k:=i) (by rw[mH (by rw[a7.out];omega),a7];omega);have HY2:Hid (∀n,BW wS ((wr.drewN n).setCell ⟨wS.heap.size,i,none⟩ (xd .u8 ((gH bs)[x].toNat:Int))) (iu s2 (i+1))):=fun n=>by
     rw[lX cm.out];exact(HY.later (jA wr n)).set i bs[x] (by rw[bg,pP])
    have fI:Hid (∀W,Below wr.heap.size wr W->BW wS (W.setCell ⟨wS.heap.size,i,none⟩ (xd .u8 ((gH bs)[x].toNat:Int))) (iu s2 (i+1))):=fun W hW=>by
     rw[lX cm.out];exact(HY.later hW).set i bs[x] (by rw[bg,pP])
    have eG:wS.heap.size≠pb:=zo;have eH:wS.heap.size≠tg:=zo;have eI:wS.heap.size≠rg:=zo;subst bl fT ga;clear aP bn eN cB c' hx az bg HY2 eQ bR e3;go_wp2_with fail;refine wp_region_held_drew (S:=fun w'=>w'.cell? ⟨pb,k,none⟩=some (xj (gH bs))/\w'.cell? ⟨tg,to_+i,none⟩=some (xa (some ⟨rg,r0,none⟩) al.length rc)/\w'.cell? ⟨rg,r0+j,none⟩=some (xd xh (x:Int))) zk ?_ (fun I=> ?_)
    ·simp_all
    apply zt1 0 (xa (some ⟨wS.heap.size,0,none⟩) l.length l.length) I;apply zt1 1 (xd xh (i:Int)) I;apply zt1 2 (xa (some ⟨pb,0,none⟩) M.length bW) I;apply zt1 3 (xd xh (k:Int)) I;apply zt1 4 (xk (some ⟨pb,k,none⟩)) I;apply zt1 5 (xj (gH bs)) I;apply zt1 6 (xa (some ⟨tg,to_,none⟩) tw.length hc) I;apply zt1 7 (xd xh (i:Int)) I;apply zt1 8 (xk (some ⟨tg,to_+i,none⟩)) I;apply zt1 9 (xa (some ⟨rg,r0,none⟩) al.length rc) I;apply zt1 10 (xd xh (j:Int)) I;apply zt1 11 (xk (some ⟨rg,r0+j,none⟩)) I;apply zt1 12 (xd xh (x:Int)) I;apply zt1 13 (xd .u8 ((gH bs)[x].toNat:Int)) I;apply zt1 14 (xk (some ⟨wS.heap.size,i,none⟩)) I;apply zrH 15;intro K R;have e6:=vc;have e8:=vf;go_simp;refine R _ _ ⟨(Ms _ _ _ _ eG).trans I.1,(Ms _ _ _ _ eH).trans I.2.1,(Ms _ _ _ _ eI).trans I.2.2⟩ (fun I=> ?_);clear R K;refine wpAnyH_done zk ?_ _;clear I e6 e8;go_wp2
    go_roundw
    ·exact⟨i+1,zo,zf,fa (fI wr.drew ((MF _ _).drew))⟩
    simp[intOf];omega
   have ez:i=s2.length:=by rw[a7.out];omega
   rw[ez,mG] at HY;clear ez;have bt:=fa (ar.later HY.bel);have b9:=fa (HU.later HY.bel);have dz:=fa (fun W hW=>rL W l.length (HY.later hW).blk a7);have hMc:M.length<=106:=zo;have fu:=fa (MF wr.heap.size wr);clear HY ar HU;go_wp2_with fail;generalize wr=w6 at *
   go_loopw [18,19] (fun z x wr=> ∃(m:Nat) (zz:Int),m<=M.length/\z=xd xh zz/\x=xd xh m/\Hid (Below w6.heap.size w6 wr)/\Hid ((zz= -1/\iX s2 (M.take m) 0=none)\/ ∃a:Nat,zz=(a:Int)/\iX s2 M 0=some a)) (fun _ x _=>M.length - (intOf x).toNat)
   ·exact⟨0, -1,Mw _,rfl,rfl,fu,fa (Or.inl ⟨rfl,rfl⟩)⟩
   obtain⟨m,zz,hmM,rfl,rfl,J,HF⟩:=hrel;have cc:=fun n=>dz _ (J.trans ((jA wr n).mono J.size))
   have cA:=dz wr J;rcases HF.out with⟨rfl,hfn⟩|⟨a,rfl,hfa⟩
   ·rcases zc m M.length with⟨au,hmn⟩|⟨au,hmn⟩
    ·obtain⟨pb,bl,aV,aP⟩:=hD (bt.later J).st au;have bd:wr.cell? ⟨pb,m,none⟩=some (xj (gH M[m])):=aP.trans (by unfold lN;simp_all);have fN:=Mr au;have bA:Hid (M.take (m+1)=M.take m++[M[m]]):=by show _=_;simp
     have cN:Hid (M=M.take m++(M[m]::M.drop (m+1))):=by show _=_;simp
     have b3:=fa hfn;subst bl;clear aP fN hfn HF;generalize M[m]=mm at *;by_cases he:mm=s2
     ·have hbe:((gH mm).toList==(gH s2).toList)=true:=za;have cJ:Hid (iX s2 M 0=some m):=by
       show _=_;rw[cN.out,ph,b3.out,he];simp only[iX,if_true,Option.map_some,MM];simp_all
      have fP:gH mm=gH s2:=by rw[he]
      clear he b3 bA cN;go_wp2;go_quiet (fail);go_wp2
      go_roundw
      ·exact⟨m+1,(m:Int),zo,rfl,zf,fa (J.trans ((jA wr nq).mono J.size)),fa (Or.inr ⟨m,rfl,cJ⟩)⟩
      simp[intOf];omega
     have eF:=ve (fun e=>he (Bu e));have cJ:Hid (iX s2 (M.take (m+1)) 0=none):=by
      show _=_;rw[bA.out,ph,b3.out];simp[iX,he]
     have fP:=fun e=>he (Bu e)
     clear he b3 bA cN;go_wp2;go_quiet (fail);go_wp2
     go_roundw
     ·exact⟨m+1, -1,zo,rfl,zf,fa (J.trans ((jA wr nq).mono J.size)),fa (Or.inl ⟨rfl,cJ⟩)⟩
     simp[intOf];omega
    have ej:iX s2 M 0=none:=by rw[MC zo] at hfn;omega
    rw[tq ej] at a8;have aA:=fa (bt.later J);have bf:=fa (b9.later J);have bV:=aA.gr.size;clear ej hfn HF bt b9 J cc
    go_wp2_with (at_builtin;go_must (refine rJ rfl _ _ 25 rfl _ w3.heap.size 9 AK rfl underlying25 (v:= xa e4 M.length bW) (n:=M.length) (xs:=lN M) rfl (xj (gH s2)) rfl rfl aA.st zo bV (by first|rfl|simp[MJ]) ?_))
    intro g9 dN w9 eK ey ed;have aj:=iz wr (xi #[xj (gH s2)] 9);obtain⟨cW,dW⟩:=(aA.later aj).set (bf.later aj) eK ey;have dx:=fa cW;have cS:=fa dW;have eU:=cW.gr.size;clear eK ey ed aj cW dW aA bf cA
    go_wp2_with (at_builtin;go_must (refine rJ rfl _ _ 33 rfl _ w3.heap.size 3 mX rfl underlying33 (n:=j) (xs:=gU q) rfl (xd xh (M.length:Int)) rfl rfl ?b0 zo eU (by first|rfl|simp[MJ]) ?_))
    case b0=>have h1:=cS.own;rw[b7.out] at h1;exact h1
    intro gA bC wA bO bL aM;have aj:=iz w9 (xi #[xd xh (M.length:Int)] 3);obtain⟨bF,bG⟩:=(dx.later aj).num (cS.later aj) (x:=M.length) (by rw[b7.out];exact bO) bL rfl (aM.imp id (fun h=>zs));have cI:=fa bF;have cT:=fa bG;have hlM:(M++[s2]).length=M.length+1:=zp;clear bO bL aM aj bF bG dx cS;go_wp2
    go_roundw
    ·exact⟨j+1,some ⟨g9,0,none⟩,dN,M++[s2],q++[M.length],some ⟨gA,0,none⟩,bC,zo,zp,rfl,zf,cI,cT,a8⟩
    simp[intOf];omega
   rw[tu hfa] at a8;have aA:=fa (bt.later J);have bf:=fa (b9.later J);have bV:=aA.gr.size;have haM:a<M.length:=by have:=(List.getElem?_eq_some_iff.1 (rQ hfa).2).1;omega
   have ha0:¬ ((a:Int)<0):=zo;clear hfa HF bt b9 J cc cA;by_cases au:(m:Int)<(M.length:Int)
   all_goals (
    go_wp2_with (at_builtin;go_must (refine rJ rfl _ _ 33 rfl _ w3.heap.size 3 mX rfl underlying33 (v:= xa vo j vc) (n:=j) (xs:=gU q) rfl (xd xh (a:Int)) rfl rfl (by have h1:=bf.own;rw[b7.out] at h1;exact h1) zo bV (by first|rfl|simp[MJ]) ?_))
    intro gA bC wA bO bL aM;have aj:=iz wr (xi #[xd xh (a:Int)] 3);obtain⟨bF,bG⟩:=(aA.later aj).num (bf.later aj) (x:=a) (by rw[b7.out];exact bO) bL rfl (aM.imp id (fun h=>zs));have cI:=fa bF;have cT:=fa bG;clear bO bL aM aj bF bG aA bf;go_wp2
    go_roundw
    case rel=>exact⟨j+1,e4,bW,M,q++[a],some ⟨gA,0,none⟩,bC,zo,rfl,rfl,zf,cI,cT,a8⟩
    case measure=>simp[intOf];omega)
  have fU:j=al.length:=zo;subst fU;obtain⟨n2,hn2⟩: ∃n2,102 - k=n2+1:=⟨101 - k,zo⟩;rcases zc 100 M.length with⟨hbig,hbi⟩|⟨hbig,hbi⟩
  ·have cP:Hid (jU (setB tw) (My al.length) 100 102 0 [K0] []=none):=by
    show _=_;rw[HEQ.out,hn2];exact Ah HX (by rw[HRN.out];omega)
   have ae:=fa ((ar.gr.block (w.heap.size+1) zo (fun e=>za)).trans cq);have bu:=fa (aY.grown ar.gr aY.size (fun b hb=>by cases hb;omega));have gh:=cell_of_blk ae;have gi:=fi ae;have gj:=fh ae;clear hn2 ar HU;go_wp2_with fail;change bodyPost _ _ _ _ _ (iV wr (w.heap.size+1) (xa none 0 0) (xa none 0 0) (xa none 0 0));have bK:=iZ ae (xa none 0 0) (xa none 0 0) (xa none 0 0);have cZ:=iR bu (show w.heap.size<=w.heap.size+1 from zo) (xa none 0 0) (xa none 0 0) (xa none 0 0);generalize iV wr (w.heap.size+1) (xa none 0 0) (xa none 0 0) (xa none 0 0)=wf at *;have cV:=cell_of_blk bK;refine bodyPost_ret (v:= .tuple #[.agg #[xa none 0 0,xa none 0 0,xa none 0 0],xn false]) (by simp[results,results142,go_sem,cV]) rfl ?_;refine⟨none,dy _ ⟨l,tw, ?_, ?_⟩,cZ,rfl⟩
   ·exact zm163
   rw[Mt,b5.out,cP.out];rfl
  have dA:Hid (jU (setB tw) (My al.length) 100 102 0 [K0] []=jU (setB tw) (My al.length) 100 (102 - (k+1)) (k+1) M (rows++[q])):=by
   exact zm162
  have du:Hid (Bfs (setB tw) (My al.length) K0 (k+1) M (rows++[q])):=by
   have:=aJ.step HX;rw[HRN.out] at this;exact this
  have fy:Hid ((M.take (k+1)).map jX=(ms.take k).map jX++[jX bs]):=by
   show _=_;rw[cO.out,List.take_append_of_le_length zo,MG,HX.out,MP];rfl
  have cy:1<=bs.length:=by rw[cl.out,bB.out];omega
  have fM:0<(gH bs).size:=by rw[k9];omega
  have h0si:(0:Int)<((gH bs).size:Int):=zo;have ei:((gH bs)[0].toNat:Int)=(jX bs:Int):=by
   rw[nH fM (Mr cy:bs[0]? =some bs[0])];unfold jX;rw[Mr cy];simp only[Option.getD_some]
   split<;>rfl
  have fv:=fa ei;have hbd0:(gH bs)[0].toNat<=255:=by have:=(gH bs)[0].toNat_lt;omega
  have hwr0:IntKind.i64.wrap ((gH bs)[0].toNat:Int)=((gH bs)[0].toNat:Int):=by rw[IntKind.wrap_i64];omega
  have cj:=cell_of_blk ar.blk 2;have gm:=fh ar.blk;clear hn2 ei
  go_wp2_with (at_builtin;go_must (refine rJ rfl _ _ 34 rfl _ w3.heap.size 33 qX rfl underlying34 (v:= xa xo k xc) (n:=k) (xs:=rv) rfl (xa vo al.length vc) rfl rfl (by have h1:wr.ownsRow w3.heap.size 33 1 (xa xo k xc) rows.length rv:=ar.tab.nx;rw[dI.out] at h1;exact h1) zo eT (by first|rfl|simp[MJ]) ?_))
  intro gN bD wN eL c7 ee;have aj:=iz wr (xi #[xa vo al.length vc] 33);have b':=ar.later aj;have aS:=fa (b'.row (HU.later aj) (X':= xa (some ⟨gN,0,none⟩) (k+1) bD) (by rw[dI.out];exact eL) c7);have aH:=(b'.own b'.tab.nx c7 zp).1;have gk:=cell_of_blk aH 2;have gl:=fi aH 2;have gn:=fh aH;clear eL c7 ee aj b' aH cj gm ar HU aO au;go_wp2_with fail;generalize wN.setCell ⟨w1.heap.size,2,none⟩ (xa (some ⟨gN,0,none⟩) (k+1) bD)=wQ at *;clear gk gl gn;have fz:Hid (wQ.ownsRow w3.heap.size 3 1 (xa fo k fc) k (gU ((ms.take k).map jX))):=by
   have h1:=aS.tab.fl;rw[Mt,MM,MI zo] at h1;exact h1
  obtain⟨pb,bl,aV,aP⟩:=hD aS.st c8;have hpb3:=(gG aS.st pb (by rw[bl];rfl)).1;have bd:wQ.cell? ⟨pb,k,none⟩=some (xj (gH bs)):=aP.trans (by unfold lN;rw[Mz,cU.out];rfl);have tc:=cell_of_blk aS.blk;have tl:=fh aS.blk;have eV:=aS.gr.size;subst bl;clear aP;have an:Below wQ.heap.size wQ (wQ.alloc (xi #[xd xh ((gH bs)[0].toNat:Int)] 3)).drew:=gz.drew;have bU:=MK eV an.size;refine wp_region_held_drew (S:=fun w'=>w'.cell? ⟨pb,k,none⟩=some (xj (gH bs))) zk ?_ (fun I=> ?_)
  ·simp_all
  apply zt1 0 (xk (some ⟨w1.heap.size,1,none⟩)) I;apply zt1 2 (xa (some ⟨pb,0,none⟩) M.length bW) I;apply zt1 3 (xd xh (k:Int)) I;apply zt1 4 (xk (some ⟨pb,k,none⟩)) I;apply zt1 5 (xj (gH bs)) I;apply zt1 6 (xd .u8 ((gH bs)[0].toNat:Int)) I;apply zt1 7 (xd xh ((gH bs)[0].toNat:Int)) I;refine zrH2 1 8 (fun K R=> ?raq) fun K R=> ?rbq
  case' raq=>(go_simp;refine R _ _ I (fun I=> ?_);clear R K;apply zrH 8;intro K R;go_simp;refine R _ _ ((Mx _ _ _ aV).trans bd) (fun I=> ?_);clear R K)
  case' rbq=>(go_simp;refine R _ _ ((Mx _ _ _ aV).trans bd) (fun I=> ?_);clear R K;apply zrH 1;intro K R;go_simp;refine R _ _ I (fun I=> ?_);clear R K)
  all_goals (
   apply zrH 9;intro K R;refine DY zf _ _ 33 zf w3.heap.size 3 mX rfl underlying33 (v:= xa fo k fc) (n:=k) (xs:=gU ((ms.take k).map jX)) zf (H:=wQ.heap.size) (xd xh ((gH bs)[0].toNat:Int)) zf rfl (fL fz an) (ft wQ _) zo bU ?_;intro g4 ak w4 av aq a';have U:=aq;have aU:=aS.later an;have aG:=(aU.own aU.tab.fl U zp).1;have df:=cell_of_blk aG 1;have dh:=fi aG 1;have di:=fh aG;have cC:=gE aU.st U (ie aU.st aU.tab.fl zp);obtain⟨pb',eM,_,eh⟩:=hD cC c8;cases eM;have dU:w4.cell? ⟨pb,k,none⟩=some (xj (gH bs)):=eh.trans (by unfold lN;rw[Mz,cU.out];rfl);have dr:=fa (aU.flag (F':= xa (some ⟨g4,0,none⟩) (k+1) ak) (f:=jX bs) (by rw[<-fv.out,Mt,MM,MI zo];exact av) U rfl a');rw[<-fy.out] at dr;refine R _ _ dU (fun I=> ?_);clear R K;clear av aq a' U aU aG cC eh dU tc tl;apply zt1 10 (xk (some ⟨w1.heap.size,1,none⟩)) I;apply zrH 11;intro K R;go_simp;refine R _ _ ((Ms _ _ _ _ (by show w1.heap.size≠pb;omega)).trans I) (fun I=> ?_);clear R K;refine wpAnyH_done zk ?_ _;clear I;clear df dh di an bU;go_wp2
   go_roundw
   case rel=>exact⟨k+1,some ⟨pb,0,none⟩,bW,M,some ⟨g4,0,none⟩,ak,some ⟨gN,0,none⟩,bD,rows++[q],rv++[xa vo al.length vc],rfl,zf,dr,du,zo,dA⟩
   case measure=>simp[intOf];omega
   )
 have cn:Hid (k=ms.length):=by show _=_;omega
 have e5:=cell_of_blk ay.blk 0;have de:=cell_of_blk ay.blk 1;have cj:=cell_of_blk ay.blk 2;have tl:=fh ay.blk;go_wp2_with fail;clear e5 de cj tl hkn;have bj:=cn.out;clear cn;have cR:Hid (jU (setB tw) (My al.length) 100 102 0 [K0] []=some (ms,rows)):=by
  exact zm152
 have eY:ms.take k=ms:=MC zo;rw[eY] at ay;subst bj;have bN:1<=ms.length:=by have:=(List.getElem?_eq_some_iff.1 aJ.first).1;omega
 have bR:=aJ.len;have b8:=fa (D8 aJ);have dK:=fa (ay.full (base:=w1.heap.size) (names:=al.map (·.s)) ck.size (by rw[Mt];exact cp) aB);have fC:Hid (ShT ⟨al.map (·.s),ms.map jX,rows⟩ al.length ms.length):=⟨zp,bR,zp,eF,h6,bN,fW,fun r hr=>⟨(b8 r hr).1,fun x hx=>by rw[<-bR];exact(b8 r hr).2 x hx⟩⟩;obtain⟨dV, -⟩:=dK.read ⟨zs,by show rows.length<=1000;omega,zs,fun r hr=>by rw[(b8.out r hr).1];omega⟩;obtain⟨fb,f0,gg,n0,rb,ro,rc,ew,e2,R⟩:=FV dV fC;have eu:wr.ownsRow w3.heap.size 3 1 (xa fo ms.length fc) ms.length (gU (ms.map jX)):=by
  have h1:=ay.tab.fl;rw[Mt] at h1;exact h1
 obtain⟨fg,fS, -, -⟩:=hD eu bN;have b6:Hid (∀(i:Nat) (b:List Bool),ms[i]? =some b->(Lives ⟨al.map (·.s),ms.map jX,rows⟩ i↔true∈b)):=fun i b hb=>
  yL (t:=⟨al.map (·.s),ms.map jX,rows⟩) HBFS (by rw[b5.out];exact aJ) (fun i b hb=>⟨jX b,za,Jj b⟩) hb
 have cL:=fa (vO wr _ al.length ms.length ao al.length ac fb f0 gg n0 fc xc rb ro rc R);rw[<-ew,<-e2] at cL;clear eY dV R eu ew e2 HEQ bR;subst fS;refine cL.mono ?_;rintro e w7 ⟨LL,rfl,dY,eA,eB,ef⟩;have aA:Hid (BlT w3 w7 w1.heap.size so sc ms (xa ao al.length ac) (xa (some ⟨fg,0,none⟩) ms.length fc) (xa xo ms.length xc) (nz ms 0) rows rv):=by
  show BlT _ _ _ _ _ _ _ _ _ _ _ _;rw[GS];exact ay.later ef
 have fp:=fa dY;have cK:=fa eA;have dC:=fa eB;clear dY eA eB ef cL ay dK;go_wp2_with fail;generalize wr.heap.size+1=ab at *
 go_loopw [21] (fun x wr=> ∃i:Nat,i<=ms.length/\x=xd xh i/\Hid (BlT w3 wr w1.heap.size so sc ms (xa ao al.length ac) (xa (some ⟨fg,0,none⟩) ms.length fc) (xa xo ms.length xc) (nz ms i) rows rv)/\Hid (wr.heap[ab]? =some (xi (lJ LL) 4 (0,0)))) (fun x _=>ms.length - (intOf x).toNat)
 ·exact⟨0,Mw _,rfl,aA,fp⟩
 obtain⟨i,hi,rfl,ai,br⟩:=hrel;have de:=cell_of_blk ai.blk 1;have tl:=fh ai.blk;rcases zc i ms.length with⟨hil,hin⟩|⟨hil,hin⟩
 ·have bh:=Mr hil;have ca:LL[i]? =some (LL[i]'(by rw[cK.out];omega)):=Mr _;have hac:=(cell_of_blk br i).trans (pQ LL i _ ca);have ea:=fh br;have ba:=(dC i).trans (b6 i _ bh);have bM:lv LL i=LL[i]'(by rw[cK.out];omega):=by unfold lv;rw[ca];rfl
  rw[bM] at ba;have bP:(ms[i]).any id=true↔true∈ms[i]:=by
   simp
  have aI:=GR bh;have aW:=fun h=>GQ bh h
  have bg:=KE bh;have hle:=KD ms[i];have dQ:=Jk ms[i];generalize LL[i]'(by rw[cK.out];omega)=x at *;generalize ms[i]=bm at *;have aK:Hid (wr.ownsRow w3.heap.size 3 1 (xa (some ⟨fg,0,none⟩) ms.length fc) ms.length (gU (nz ms i))):=by
   have h1:=ai.tab.fl;rw[xQ] at h1;exact h1
  obtain⟨fg',fQ,hfl8,c6⟩:=hD aK hil;cases fQ;have eo:wr.cell? ⟨fg,i,none⟩=some (xd xh (jX bm:Int)):=c6.trans (by unfold gU;simp_all);obtain⟨fcs,bJ⟩:=ja aK (b:=fg) rfl;have fR:=fi bJ i;have hfg3:=(gG aK fg rfl).1;have ek:fg≠ab:=fun e=>by
   simp_all
  cases x with
  |true=>
   have bH:=bP.2 (ba.1 rfl);have bE:jN bm=jX bm+2:=za;have cH:Hid (∀n,BlT w3 ((wr.drewN n).setCell ⟨fg,i,none⟩ (xd xh ((jX bm:Int)+2))) w1.heap.size so sc ms (xa ao al.length ac) (xa (some ⟨fg,0,none⟩) ms.length fc) (xa xo ms.length xc) (nz ms (i+1)) rows rv):=fun n=>by
    rw[aI,bE];exact(ai.later (jA wr n)).fset (xQ ms i) i (jX bm+2)
   have dq:Hid (∀W,Below wr.heap.size wr W->BlT w3 (W.setCell ⟨fg,i,none⟩ (xd xh ((jX bm:Int)+2))) w1.heap.size so sc ms (xa ao al.length ac) (xa (some ⟨fg,0,none⟩) ms.length fc) (xa xo ms.length xc) (nz ms (i+1)) rows rv):=fun W hW=>by
    rw[aI,bE];exact(ai.later hW).fset (xQ ms i) i (jX bm+2)
   have fm:Hid (∀W,Below wr.heap.size wr W->(W.setCell ⟨fg,i,none⟩ (xd xh ((jX bm:Int)+2))).heap[ab]? =some (xi (lJ LL) 4 (0,0))):=fun W hW=>(Below.heap_setCell _ _ _ _ (fun e=>ek e.symm)).trans ((hW.block _ ea).trans br)
   have hwr9:IntKind.i64.wrap ((jX bm:Int)+2)=(jX bm:Int)+2:=by rw[IntKind.wrap_i64];omega
   clear cH dQ bE bH bP ba aI aW bg bh ca bM aK c6 bJ ai br;go_wp2_with fail;refine wp_region_held_drew (S:=fun w'=>w'.cell? ⟨w1.heap.size,1,none⟩=some (xa (some ⟨fg,0,none⟩) ms.length fc)) zk ?_ (fun I=> ?_)
   ·exact de
   apply zt1 0 (xk (some ⟨w1.heap.size,1,none⟩)) I;apply zt1 1 (xa (some ⟨fg,0,none⟩) ms.length fc) I;apply zt1 2 (xd xh (i:Int)) I;apply zt1 3 (xk (some ⟨w1.heap.size,1,none⟩)) I;apply zt1 4 (xa (some ⟨fg,0,none⟩) ms.length fc) I;apply zt1 5 (xd xh (i:Int)) I;apply zt1 6 (xk (some ⟨fg,i,none⟩)) I;apply zrH 7;intro K R;have ep:=eo;have er:=fR;go_simp;refine R _ _ I (fun I=> ?_);clear R K;apply zt1 8 (xd xh ((jX bm:Int)+2)) I;apply zt1 9 (xk (some ⟨fg,i,none⟩)) I;apply zrH 10;intro K R;go_simp;refine R _ _ ((Ms _ _ _ _ (by show fg≠w1.heap.size;omega)).trans I) (fun I=> ?_);clear R K;refine wpAnyH_done zk ?_ _;clear I ep er;go_wp2
   go_roundw
   ·exact⟨i+1,zo,zf,fa (dq wr.drew ((MF _ _).drew)),fa (fm wr.drew ((MF _ _).drew))⟩
   simp[intOf];omega
  |false=>
   have bH:¬ bm.any id=true:=fun h=>za
   have cH:Hid (BlT w3 wr w1.heap.size so sc ms (xa ao al.length ac) (xa (some ⟨fg,0,none⟩) ms.length fc) (xa xo ms.length xc) (nz ms (i+1)) rows rv):=by
    show BlT _ _ _ _ _ _ _ _ _ _ _ _;rw[aW za];exact ai
   clear dQ bH bP ba aI aW bg bh ca bM aK c6 bJ ai;go_wp2
   go_roundw
   ·exact⟨i+1,zo,zf,cH,br⟩
   simp[intOf];omega
 rw[Jn zo] at ai;have ae:=fa ((ai.gr.block (w.heap.size+1) zo (fun e=>za)).trans cq);have bu:=fa (aY.grown ai.gr aY.size (fun b hb=>by cases hb;omega));have dL:=fa (((ai.full (base:=w1.heap.size) (names:=al.map (·.s)) ck.size (by rw[Mt];exact cp) aB).toW (fun r hr=>by rw[(b8.out r hr).1];omega)).mono (base':=w.heap.size) zo);have gh:=cell_of_blk ae;have gi:=fi ae;have gj:=fh ae;have e5:=cell_of_blk ai.blk 0;have cj:=cell_of_blk ai.blk 2;clear ai;go_wp2_with fail;change bodyPost _ _ _ _ _ (iV wr (w.heap.size+1) (xa ao al.length ac) (xa (some ⟨fg,0,none⟩) ms.length fc) (xa xo ms.length xc));have bK:=iZ ae (xa ao al.length ac) (xa (some ⟨fg,0,none⟩) ms.length fc) (xa xo ms.length xc);have cZ:=iR bu (show w.heap.size<=w.heap.size+1 from zo) (xa ao al.length ac) (xa (some ⟨fg,0,none⟩) ms.length fc) (xa xo ms.length xc);have cg:=nw ae dL (A':= xa ao al.length ac) (F':= xa (some ⟨fg,0,none⟩) ms.length fc) (X':= xa xo ms.length xc);generalize iV wr (w.heap.size+1) (xa ao al.length ac) (xa (some ⟨fg,0,none⟩) ms.length fc) (xa xo ms.length xc)=wf at *;have cV:=cell_of_blk bK;refine bodyPost_ret (v:= .tuple #[.agg #[xa ao al.length ac,xa (some ⟨fg,0,none⟩) ms.length fc,xa xo ms.length xc],xn true]) (by simp[results,results142,go_sem,cV]) rfl ?_;refine⟨some ⟨al.map (·.s),ms.map jN,rows⟩,dy _ ⟨l,tw, ?_, ?_⟩,cZ,_,_,_,rv,rfl,cg⟩
 ·exact zm163
 rw[Mt,b5.out,cR.out];rfl
def CmpQ(s:ByteArray)(w w':World)(e:Ending):Prop:=
 match iy s with
 | .error x=>Below w.heap.size w w'/\e=xm (.tuple #[.agg #[xa none 0 0,xa none 0 0,xa none 0 0],xd xh x.2])
 | .ok (al,rs)=> ∃o,qv al rs o/\oZ Fj w o w' e
theorem CmpQ.err{s:ByteArray}(h:iy s= .error x)(I:Below w.heap.size w w')(he:e=xm (.tuple #[.agg #[xa none 0 0,xa none 0 0,xa none 0 0],xd xh x.2])):CmpQ s w w' e:=by
 unfold CmpQ;rw[h];exact⟨I,he⟩
theorem CmpQ.ok{s:ByteArray}(h:iy s= .ok (al,rs))(ho:qv al rs o)(I:oZ Fj w o w' e):CmpQ s w w' e:=by
 unfold CmpQ;rw[h];exact⟨o,ho,I⟩
theorem sJ(s:ByteArray)(w:World):Calls prog 97 #[xj s] w fun e w'=>CmpQ s w w' e:=by
 have aB:=fa (iz w (xi #[xa none 0 0,xa none 0 0,xa none 0 0] 36));have aH:=fa (Gg s (w.alloc (xi #[xa none 0 0,xa none 0 0,xa none 0 0] 36)));have ax:=fa (ft w (xi #[xa none 0 0,xa none 0 0,xa none 0 0] 36));go_in;go_wp2_with fail;refine aH.mono ?_;generalize w.alloc (xi #[xa none 0 0,xa none 0 0,xa none 0 0] 36)=W at *;rintro e w1 ⟨av,hm⟩;have U:=(av.block _ (fh ax)).trans ax;have ar:=fa (aB.trans (av.mono aB.size));cases hr:iy s with
 |error x=>
  rw[hr] at hm;have az:=oM hr;have HX:=fa hr;obtain⟨xp,xe⟩:=x;replace az:xe≠0:=az;have hne':¬ ((xe:Nat):Int)=0:=zo;subst hm;have R:=iz w1 (xi #[xa none 0 0,xa none 0 0] 228);have ae:=fa ((R.block _ (fh U)).trans U);have ag:=fa (ar.trans (R.mono ar.size));have rc:=cell_of_blk ae;have rf:=fi ae;clear hr av az R U;go_wp2_with fail;change bodyPost _ _ _ _ _ (iV (w1.alloc (xi #[xa none 0 0,xa none 0 0] 228)) w.heap.size (xa none 0 0) (xa none 0 0) (xa none 0 0));have aa:=iZ ae (xa none 0 0) (xa none 0 0) (xa none 0 0);have an:=iR ag (MD _) (xa none 0 0) (xa none 0 0) (xa none 0 0);generalize iV (w1.alloc (xi #[xa none 0 0,xa none 0 0] 228)) w.heap.size (xa none 0 0) (xa none 0 0) (xa none 0 0)=wf at *;have aj:=cell_of_blk aa;refine bodyPost_ret (v:= .tuple #[.agg #[xa none 0 0,xa none 0 0,xa none 0 0],xd xh xe]) (by simp[results,results97,go_sem,aj]) rfl ?_;exact CmpQ.err HX an rfl
 |ok m=>
  obtain⟨al,rs⟩:=m;rw[hr] at hm;obtain⟨o1,n1,k1,o2,n2,k2,rfl,aD,aE⟩:=hm;have hg:=pw hr;have h6:al.length<=6:=by have:=(ug hr).n6;simp_all
  have aq:=iz w1 (xi #[xa o1 n1 k1,xa o2 n2 k2] 228);have HT:=fa (Ei al rs hg h6 o1 n1 k1 o2 n2 k2 ((KT.below aq).acts aD) (aE.later aq));have ag:=fa (ar.trans (aq.mono ar.size));have ae:=fa ((aq.block _ (fh U)).trans U);have HX:=fa hr;clear hr aD aE hg aq av U;go_wp2_with fail;refine HT.mono ?_;generalize w1.alloc (xi #[xa o1 n1 k1,xa o2 n2 k2] 228)=w2 at *;rintro e w3 ⟨o,ho,aw,hm⟩;have HO:=fa ho;have J:=(aw.block _ (fh ae)).trans ae;have au:=fa (ag.trans (aw.mono ag.size));have aL:=ag.size;cases o with
  |none=>
   have aJ:e=xm (.tuple #[.agg #[xa none 0 0,xa none 0 0,xa none 0 0],xn false]):=hm;subst aJ;have R:=iz w3 (xi #[xa none 0 0,xa none 0 0,xa none 0 0] 36);have I:=fa ((R.block _ (fh J)).trans J);have ay:=fa (au.trans (R.mono au.size));have rc:=cell_of_blk I;have rf:=fi I;have rl:=fh I;clear hm ho aw J R;go_wp2_with fail;change bodyPost _ _ _ _ _ (iV (w3.alloc (xi #[xa none 0 0,xa none 0 0,xa none 0 0] 36)) w.heap.size (xa none 0 0) (xa none 0 0) (xa none 0 0));have aa:=iZ I (xa none 0 0) (xa none 0 0) (xa none 0 0);have an:=iR ay (MD _) (xa none 0 0) (xa none 0 0) (xa none 0 0);generalize iV (w3.alloc (xi #[xa none 0 0,xa none 0 0,xa none 0 0] 36)) w.heap.size (xa none 0 0) (xa none 0 0) (xa none 0 0)=wf at *;have aj:=cell_of_blk aa;refine bodyPost_ret (v:= .tuple #[.agg #[xa none 0 0,xa none 0 0,xa none 0 0],xd xh 5]) (by simp[results,results97,go_sem,aj]) rfl ?_;exact CmpQ.ok HX HO ⟨an,rfl⟩
  |some t=>
   obtain⟨A,F,X,rv,he,ad⟩:=hm;obtain⟨ao,ac,rfl⟩:=iw ad.acts;obtain⟨fo,fc,rfl⟩:=iw ad.fl;obtain⟨no,nc,rfl⟩:=iw ad.nx;have aI:e=xm (.tuple #[.agg #[xa ao t.acts.length ac,xa fo t.fl.length fc,xa no t.nx.length nc],xn true]):=he;subst aI;clear he;have R:=iz w3 (xi #[xa ao t.acts.length ac,xa fo t.fl.length fc,xa no t.nx.length nc] 36);have I:=fa ((R.block _ (fh J)).trans J);have ay:=fa (au.trans (R.mono au.size));have aC:=fa ((ad.later R).mono aL);have hbx:=ft w3 (xi #[xa ao t.acts.length ac,xa fo t.fl.length fc,xa no t.nx.length nc] 36);have rc:=cell_of_blk I;have rf:=fi I;have rl:=fh I;clear ho aw J R ad;go_wp2_with fail;change bodyPost _ _ _ _ _ (iV (w3.alloc (xi #[xa ao t.acts.length ac,xa fo t.fl.length fc,xa no t.nx.length nc] 36)) w.heap.size (xa ao t.acts.length ac) (xa fo t.fl.length fc) (xa no t.nx.length nc));have aa:=iZ I (xa ao t.acts.length ac) (xa fo t.fl.length fc) (xa no t.nx.length nc);have an:=iR ay (MD _) (xa ao t.acts.length ac) (xa fo t.fl.length fc) (xa no t.nx.length nc);have aK:=nw I aC (A':= xa ao t.acts.length ac) (F':= xa fo t.fl.length fc) (X':= xa no t.nx.length nc);generalize iV (w3.alloc (xi #[xa ao t.acts.length ac,xa fo t.fl.length fc,xa no t.nx.length nc] 36)) w.heap.size (xa ao t.acts.length ac) (xa fo t.fl.length fc) (xa no t.nx.length nc)=wf at *;have aj:=cell_of_blk aa;refine bodyPost_ret (v:= .tuple #[.agg #[xa ao t.acts.length ac,xa fo t.fl.length fc,xa no t.nx.length nc],xd xh 0]) (by simp[results,results97,go_sem,aj]) rfl ?_;exact CmpQ.ok HX HO ⟨an,_,_,_,rv,rfl,aK⟩
theorem zP(w:World)(U bo:Option Addr)(ac bc:Nat)(l m:List ByteArray)(R:TxS w U l)(h2:TxS w bo m)(hl:l.length<=10000000000000)(hm:m.length<=10000000000000):
  Calls prog 61 #[xa U l.length ac,xa bo m.length bc] w fun e w'=>TellsB (l=m) e/\Below w.heap.size w w':=by
 have H1:=fa R;have H2:=fa h2;clear R h2;by_cases hlm:l.length=m.length
 ·generalize hn:m.length=n at *;have HN:=fa hn;have HL:=fa hlm;rw[hlm];clear hn hlm hl;go_in;go_wp2
  go_loopw [5] (fun x wr=> ∃k:Nat,k<=n/\x=xd xh k/\Hid (Below w.heap.size w wr)/\Hid (l.take k=m.take k)) (fun x _=>n - (intOf x).toNat)
  ·exact⟨0,Mw _,rfl,MF _ _,rfl⟩
  obtain⟨k,hk,rfl,HB,HK⟩:=hrel;rcases zc k n with⟨hlt,hkn⟩|⟨hlt,hkn⟩
  ·have I:k<l.length:=by rw[HL.out];omega
   have J:k<m.length:=by rw[HN.out];omega
   obtain⟨b,off,rfl,hb,hc⟩:=H1.later HB k l[k] (Mr I);obtain⟨b2,off2,rfl,hb2,hc2⟩:=H2.later HB k m[k] (Mr J);have HX:=fa (Mr I);have HY:=fa (Mr J);generalize l[k]=x at *;generalize m[k]=y at *;by_cases hxy:x=y
   ·exact zm63
   have HNE:Hid (¬ l=m):=fun e=>by
    have R:=HX.out;rw[e,HY.out] at R;simp_all
   have hne:(x.toList==y.toList)=false:=beq_eq_false_iff_ne.2 fun e=>hxy (by
    apply mw;rw[ByteArray.toList_eq,ByteArray.toList_eq] at e;omega)
   clear hxy;exact zm160
  exact zm80
 exact zm108
theorem uB{s:ByteArray}(h:iy s= .ok (al,rs)){t:Tb}(hc:qv al rs (some t)):RightT t:=by
 obtain⟨e,l,tw,m,I⟩:=CmpR.some hc;exact I.right (by rw[e];exact ug h)
theorem CmpQ.two{s:ByteArray}(h:CmpQ s w w' e):(∃x:Nat,x≠0/\e=xm (.tuple #[.agg #[xa none 0 0,xa none 0 0,xa none 0 0],xd xh x])/\Below w.heap.size w w')\/ ∃t,DecT t w w' e:=by
 unfold CmpQ at h;cases hr:iy s with
 |error x=>
  rw[hr] at h;exact Or.inl ⟨x.2,oM hr,h.2,h.1⟩
 |ok m=>
  obtain⟨al,rs⟩:=m;rw[hr] at h;obtain⟨o,ho,I⟩:=h;cases o with
  |none=>exact Or.inl ⟨5,zp,I.2,I.1⟩
  |some t=>exact Or.inr ⟨t,DecT.of rfl (uB hr ho) I⟩
theorem Ek(I J no:Option Addr)(ac fc nc:Nat){na nf nn:Nat}(t:Tb)(hI:TbI w I J no ac t.z)(R:na=t.acts.length)(U:nf=t.fl.length)(aa:nn=t.nx.length):
  Calls prog 102 #[.agg #[xa I na ac,xa J nf fc,xa no nn nc]] w fun e w'=>(∃(b:ByteArray) (x:Int),e=xm (.tuple #[xj b,xd xh x])/\b.size<=1000)/\Below w.heap.size w w':=by
 have e1:t.z.fl.length=nf:=by rw[U];exact lG _
 have e2:t.z.nx.length=nn:=by rw[aa];unfold Tb.z;simp
 have e3:t.z.acts.length=na:=by rw[R];rfl
 have:=qH w I J no ac fc nc t.z hI;rw[e1,e2,e3] at this;refine this.mono ?_;rintro e w' ⟨⟨u,hu,hR,he⟩|⟨hn,he⟩,hb⟩
 ·exact⟨⟨_,_,he,by show(iC u).toArray.size<=1000;rw[List.size_toArray];exact hR.few⟩,hb⟩
 exact⟨⟨_,_,he,Mw _⟩,hb⟩
def LK(w w':World)(e:Ending):Prop:=(∃b:ByteArray,e=xm (xj b)/\b.size<=1000)/\Below w.heap.size w w'
theorem BY(s:ByteArray)(w:World):Calls prog 57 #[xj s] w fun e w'=>LK w w' e:=by
 have HC:=fa (sJ s w);go_in;go_wp2_with fail;refine HC.mono ?_;clear HC;rintro e w1 hc;rcases hc.two with⟨x,hx,rfl,hb⟩|⟨t,ao,fo,no,ac,fc,nc,rv,rfl,hT,hR,hb⟩
 ·have hxi:¬ (x:Int)=0:=zo;have U:=fa (hb.trans (((MF w1.heap.size w1).alloc (MD _) (xi #[xa none 0 0,xa none 0 0,xa none 0 0] 36)).mono hb.size));clear hb hc hx;go_wp2;go_ret;exact⟨⟨_,rfl,Mw _⟩,U⟩
 have I:=iz w1 (xi #[xa ao t.acts.length ac,xa fo t.fl.length fc,xa no t.nx.length nc] 36);have U:=fa (hb.trans (I.mono hb.size));have HE:=fa (Ek ao fo no ac fc nc t ((hT.later I).read hR.small).1 rfl rfl rfl);clear hb hc hT hR I;generalize t.acts.length=na at *;generalize t.fl.length=nf at *;generalize t.nx.length=nn at *;go_wp2_with fail;refine HE.mono ?_;rintro e w2 ⟨⟨b,x,rfl,R⟩,J⟩;have aa:=fa (U.trans (J.mono U.size));have ad:=fa R;clear J HE R;go_wp2;go_ret;exact⟨⟨b,rfl,ad⟩,aa⟩
open Go.ChangeShapes Go.WideShapes Go.ChangeAt
section
variable {H : Type} {enc : TypeId × Value -> H}
end
theorem Dt{sp:Nat->Bool}{held:Bool}{l:List Int}{p:List MemPlace}
  (J:prog.underlying t=some (.array n 345))(hct:prog.cellsOf t=n)
  (h:DataW.trod (fun _=>()) prog w base sp held fuel t cs=some (.agg (l.map fun x=> .lit (.int .u64 x)),p)):cs=l.flatMap fun x=>[xd .u64 x]:=by
 obtain⟨h1,h2,I⟩:=sR J (show prog.cellsOf 345=1 from zk) zo h;refine chunks (k:=1) _ (fun _=>rfl) l cs za (fun i x R=> ?_);obtain⟨f,q,hf⟩:=I i (.lit (.int .u64 x)) (by simp[R]);obtain⟨s,e1,e2,_⟩:=DataW.trod_int underlying345 hf;simp_all
theorem K8(h:laidMet prog laid W)(x:String × DataW Unit)(hx:x∈laid)(hn:x.1= "internal/strconv.uint64pow10")(R:x.2= .agg (Lib.pow10Tab.map fun x=> .lit (.int .u64 x))):Lib.TabIs prog W "internal/strconv.uint64pow10" .u64 Lib.pow10Tab:=by
 obtain⟨ps,U,_⟩:=h;obtain⟨g,t,cs,fuel,p,hg,ht,J,I⟩:=pW U x hx;rw[hn] at hg J;obtain rfl:=Option.some.inj (vJ.symm.trans hg);obtain rfl:=Option.some.inj ((show(prog.globals[4]?).map (·.type)=some 370 from zk).symm.trans ht);rw[R] at I;have e:=Dt underlying370 zk I;unfold Lib.TabIs;rw[J]
 congr 1
 rw[<-Array.toList_inj,e];rfl
theorem KF:(prog.info? 3).map (·.size)=some 1:=zk
structure LentI (w:World) (g:Nat) (tr:List Int):Prop where
 blk: ∃cur,w.heap[g]? =some (xi cur 3 (0,0))/\cur.size=tr.length+8/\(∀(j:Nat) (x:Int),tr[j]? =some x->cur[j]? =some (xd xh x))/\ ∀(j:Nat),tr.length<=j->j<tr.length+8->cur[j]? =some (xd xh 77)
theorem LentI.lt{g:Nat}(h:LentI w g tr):g<w.heap.size:=by
 obtain⟨cur,I,_⟩:=h.blk;exact fh I
theorem LentI.ins{g:Nat}(h:LentI w g tr):InS w (some ⟨g,0,none⟩) tr:=by
 exact zm144
def vq(tr:List Int):List Value:=tr.map fun x=> xd xh x
theorem pV(tr:List Int):(vq tr).length=tr.length:=by simp[vq]
theorem Jw{x:Int}(h:tr[j]? =some x):(vq tr)[j]? =some (xd xh x):=by rw[vq,Mz,h];rfl
theorem G7(h:(vq tr)[j]? =some v): ∃x,tr[j]? =some x/\v=xd xh x:=by
 rw[vq,Mz] at h;cases hx:tr[j]? with
 |none=>simp_all
 |some x=>simp_all
theorem vZ(w:World)(I:Addr)(n c:Nat):(binOp .eql 33 (xa (some I) n c) (xa none 0 0)).run prog w= .ok (xn false) w:=Lib.run_eql_slice_some_nil w _ _ _ underlying33
theorem qV(w:World):(binOp .eql 33 (xa none 0 0) (xa none 0 0)).run prog w= .ok (xn true) w:=Lib.run_eql_slice_nil_nil w _ _ underlying33
theorem AP(w:World)(tr:List Int)(ad:Addr)(c:Nat)(hT:InS w (some ad) tr)(hn:tr.length<=8796093021952):
  Calls prog 183 #[xa (some ad) tr.length c] w fun e w'=> ∃g,e=xm (xa (some ⟨g,0,none⟩) tr.length (tr.length+8))/\w.heap.size<=g/\LentI w' g tr/\Below w.heap.size w w':=by
 have HT:=fa hT;clear hT;obtain⟨i0,aw,ay,az,aA⟩:=info_parts mX;have he:=fun W:World=>vZ W ad tr.length c
 go_in
 go_wp2_with (at_make;go_must (refine wpList_make_full _ rfl _ _ 33 rfl w.heap.size 3 i0 (xd xh 0) 1 underlying33 aw ay az xh xh _ _ (tr.length+8) rfl rfl (by first|rfl|omega) (by first|rfl|omega) (by rw[aA];omega) (by unfold maxLen;omega) (MD _) ?_))
 intro w1 hown1 I;have ak: ∃cur,w1.heap[w.heap.size]? =some (xi cur 3 (0,0))/\cur.size=tr.length+8:=by
  exact zm103
 obtain⟨ai,an,R⟩:=ak;have ae:Hid (Below w.heap.size w w1):=⟨I.os,I.tape,I.output,I.size,fun b hb=>I.block b hb (fun e=>by cases e)⟩;have U:=fa an;have J:=fa R;clear hown1 I an R;have aa: ∃w2,(Builtin.copy_ #[33,33] 3 #[xa (some ⟨w.heap.size,0,none⟩) (tr.length+8) (tr.length+8),xa (some ad) tr.length c]).run prog w1= .ok (xd xh (tr.length:Int)) w2/\Below w.heap.size w w2/\ ∃cur,w2.heap[w.heap.size]? =some (xi cur 3 (0,0))/\cur.size=tr.length+8/\ ∀(j:Nat) (x:Int),tr[j]? =some x->cur[j]? =some (xd xh x):=by
  have hsz:=J.out;have hr:=run_copy_row (P:=prog) w1 33 33 3 3 w.heap.size 0 (tr.length+8) (tr.length+8) ad tr.length c ai 3 (vq tr) underlying33 KF U (by rw[pV];simp)
   (fun j v hv=>by
    obtain⟨x,hx,rfl⟩:=G7 hv;obtain⟨b,off,h1,h2,h3⟩:=HT.later ae j x hx;cases h1;rw[Addr.add_lit];omega) (by rw[pV];omega) (fun v hv=>by
    obtain⟨x,_,rfl⟩:=List.mem_map.1 hv;rfl)
  refine⟨_,hr.trans (by rw[pV];rfl),below_setRow ae (MD _) _,_,setRow_heap w1 w.heap.size _ _ _ _ U, ?_,fun j x hx=> ?_⟩
  ·simp[pV];omega
  have hj:j<tr.length:=by
   exact zm109
  simp only[List.take_zero,List.nil_append,List.getElem?_toArray];rw[List.getElem?_append_left (by rw[pV];omega)];exact Jw hx
 obtain⟨w2,hrun,aj,cur2,ao,hcs2,aq⟩:=aa;have HB2:=fa aj;have HC2:=fa ao;have HV2:=fa aq;clear U J aj ao aq;go_wp2
 go_loopw [5] (fun x wr=> ∃(i:Nat) (cur:Array Value),tr.length<=i/\i<=tr.length+8/\x=xd xh i/\Hid (wr.heap[w.heap.size]? =some (xi cur 3 (0,0)))/\cur.size=tr.length+8/\Hid (∀(j:Nat) (x:Int),tr[j]? =some x->cur[j]? =some (xd xh x))/\Hid (∀(j:Nat),tr.length<=j->j<i->cur[j]? =some (xd xh 77))/\Hid (Below w.heap.size w wr)) (fun x _=>tr.length+8 - (intOf x).toNat)
 ·exact zm168
 obtain⟨i,cur,hi1,hi2,rfl,HC,hcs,HV,HY,HB⟩:=hrel;by_cases hil:i<tr.length+8
 ·have hin:(i:Int)<(tr.length:Int)+8:=zo;have cc:=(cell_of_blk HC i).trans (Array.getElem?_eq_getElem zo);have cf:=fi HC i;generalize cur[i]=old at *;go_wp2
  go_roundw
  ·refine⟨i+1,cur.setIfInBounds i (xd xh 77),zo,zo,zf,fj HC i _,za,fa (fun j x hx=> ?_),fa (fun j h1 h2=> ?_),HB.grown (fK _ _ _ _) HB.size (fun b hb=>za)⟩
   ·have hj:j<tr.length:=by
     exact zm109
    rw[Array.getElem?_setIfInBounds_ne zo];exact HV j x hx
   exact zm164
  simp[intOf];omega
 exact zm104
theorem LentI.owns{g:Nat}(h:LentI w g tr)(hn:tr.length+8<=maxLen): ∃xs,w.ownsRow 0 3 1 (xa (some ⟨g,0,none⟩) (tr.length+8) (tr.length+8)) (tr.length+8) xs:=by
 exact zm105
def Jb(w:World)(lb:Nat)(dk:Value)(M:Nat)(to_:Option Addr)(tn tc:Nat)(tx rx wt et wb eb:Value)(C:List Value)(B0:Nat)(l:Value)(w':World)(e:Ending):Prop:=
 e=xm (xn true)/\uc w lb dk M to_ tn tc tx rx wt et wb eb C B0 l w' (xm (.tuple #[]))
theorem zW(w:World)(lb:Nat)(dk:Value)(M:Nat)(to_:Option Addr)(tn tc:Nat)(tx rx wt et wb eb:Value)(C:List Value)(U g:Nat)(tr:List Int)(ad:Addr)(c:Nat)
  (hL:mh w lb dk M tx (xa to_ tn tc) rx wt et wb eb)(hC:w.ownsRow U 123 5 (xa to_ tn tc) tn C)(I:U<=w.heap.size)(hl:LentI w g tr)(hT:InS w (some ad) tr)
  (hn:tr.length<=8796093021952)(J:(tn+1) * 104<=140737488355328)(hM:M<=4611686018427387904):
  Calls prog 184 #[xk (some ⟨lb,0,none⟩),xa (some ⟨g,0,none⟩) tr.length (tr.length+8),xa (some ad) tr.length c] w fun e w'=>Jb w lb dk M to_ tn tc tx rx wt et wb eb C U (xa (some ⟨g,0,none⟩) (tr.length+8) (tr.length+8)) w' e:=by
 obtain⟨xs,R⟩:=hl.owns (by unfold maxLen;omega);have HMK:=fa (p9 w lb dk M to_ tn tc tx rx wt et wb eb C U 0 (some ⟨g,0,none⟩) (tr.length+8) (tr.length+8) xs hL hC I R (Mw _) zo J hM);have aa:=fa hl;have HT:=fa hT;have he:=fun W:World=>vZ W ad tr.length c
 clear hL hC hl hT R I J hM;go_in;go_wp2
 go_loopw [9,10] (fun ok x wr=> ∃i:Nat,i<=tr.length+8/\ok=xn true/\x=xd xh i/\Hid (w=wr)) (fun _ x _=>tr.length+8 - (intOf x).toNat)
 ·exact zm68
 obtain⟨i,hi,rfl,rfl,HW⟩:=hrel;have hw:=HW.out;subst hw;clear HW;by_cases hil:i<tr.length+8
 ·have hin:(i:Int)<(tr.length:Int)+8:=zo;obtain⟨cur,h1,h2,h3,h4⟩:=aa.blk;rcases zc i tr.length with⟨hit,hic⟩|⟨hit,hic⟩
  ·obtain⟨b,off,ag,hb2,hb3⟩:=HT i tr[i] (Mr hit);have hc:=(cell_of_blk h1 i).trans (h3 i tr[i] (Mr hit));cases ag;generalize tr[i]=x at *;exact zm53
  have hc:=(cell_of_blk h1 i).trans (h4 i zo hil);exact zm53
 exact zm96
theorem ow{l:Value}{m:Int}(h:AllM w l (xd xh m) 3):
  Calls prog 68 #[l,xd xh m] w fun e w'=>e=xm (xn true)/\w'=w:=by
 obtain⟨o,n,c,rfl,hn,h⟩:=h;have H:=fa h;clear h;exact zm32
theorem Bq(w:World)(U bo:Option Addr)(ac bc:Nat)(l m:List Int)(R:InS w U l)(h2:InS w bo m)(hl:l.length<=10000000000000)(hm:m.length<=10000000000000):
  Calls prog 111 #[xa U l.length ac,xa bo m.length bc] w fun e w'=>TellsB (l=m) e/\Below w.heap.size w w':=by
 have H1:=fa R;have H2:=fa h2;clear R h2;by_cases hlm:l.length=m.length
 ·generalize hn:m.length=n at *;have HN:=fa hn;have HL:=fa hlm;rw[hlm];clear hn hlm hl;go_in;go_wp2
  go_loopw [5] (fun x wr=> ∃k:Nat,k<=n/\x=xd xh k/\Hid (Below w.heap.size w wr)/\Hid (l.take k=m.take k)) (fun x _=>n - (intOf x).toNat)
  ·exact⟨0,Mw _,rfl,MF _ _,rfl⟩
  obtain⟨k,hk,rfl,HB,HK⟩:=hrel;rcases zc k n with⟨hlt,hkn⟩|⟨hlt,hkn⟩
  ·have I:k<l.length:=by rw[HL.out];omega
   have J:k<m.length:=by rw[HN.out];omega
   obtain⟨b,off,rfl,hb,hc⟩:=H1.later HB k l[k] (Mr I);obtain⟨b2,off2,rfl,hb2,hc2⟩:=H2.later HB k m[k] (Mr J);have HX:=fa (Mr I);have HY:=fa (Mr J);generalize l[k]=x at *;generalize m[k]=y at *;by_cases hxy:x=y
   ·exact zm63
   have HNE:Hid (¬ l=m):=fun e=>by
    have R:=HX.out;rw[e,HY.out] at R;simp_all
   exact zm160
  exact zm80
 exact zm108
end Go.Proofs.YtidakhhekofkoaaGreatDoor
