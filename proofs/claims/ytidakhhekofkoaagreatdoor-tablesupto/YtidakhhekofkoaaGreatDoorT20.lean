import Derived.Test.YtidakhhekofkoaaGreatDoorT19
import Derived.Test.YtidakhhekofkoaaGreatDoorT25
import Derived.Test.YtidakhhekofkoaaGreatDoorT26
set_option linter.all false
set_option maxHeartbeats 16000000
set_option maxRecDepth 100000
namespace Go.Proofs.YtidakhhekofkoaaGreatDoor
open Go.Proofs.Tryz
open Go.RowKit Go.Deep
open Value renaming slice -> xa, int -> xd, string -> xj, pointer -> xk, bool -> xn
open IntKind renaming i64 -> xh
open Obj renaming cells -> xi
open Ending renaming returned -> xm
open List renaming getElem?_eq_getElem -> Mr, length_append -> Ms, take_of_length_le -> Mt, take_add_one -> Mu, getElem_mem -> Mw, mem_of_getElem? -> My, length_cons -> Mz, range -> MF, not_mem_nil -> MG, length_map -> MH, drop_eq_getElem_cons -> MI, cons_append -> MK, take_append_drop -> ML, length_nil -> MM, getElem?_append_right -> MN, getElem?_append_left -> MO, length_take -> MP, getElem?_take_of_lt -> MQ, append_assoc -> MV, size_toArray -> MX
open Nat renaming zero_le -> Mx, le_refl -> ME, add_mul -> MR
open Lib renaming wpList_append_byte -> MC
open World renaming ownsRow_nil -> MD, setCell -> MJ, ownsRow -> MT
open Go.RowKit.Below renaming heap_setCell -> MU, heap_alloc -> MY
open Int renaming toNat -> MZ
variable {zq:Prop}
variable {V W w wr:World} {p:Bool × List Bool} {L:List Nd} {F r fl q:List Nat} {y a:ByteArray} {t t':Tb} {A n i j x f c g':Nat} {ac:List ByteArray} {nx:List (List Nat)} {v A' F' X' v':Value} {xs rv':List Value}
theorem zm14(h:zq:=by
 go_wp2_with fail;have hfin:=iZ HRS.out (xa none 0 0) (xa none 0 0) (xa none 0 0);have hbf:=iR HB.out (Nat.le_refl _) (xa none 0 0) (xa none 0 0) (xa none 0 0);change bodyPost _ _ _ _ _ (iV wr w.heap.size (xa none 0 0) (xa none 0 0) (xa none 0 0));generalize iV wr w.heap.size (xa none 0 0) (xa none 0 0) (xa none 0 0)=wf at *;have fcc:=cell_of_blk hfin;refine bodyPost_ret (v:= .tuple #[.agg #[xa none 0 0,xa none 0 0,xa none 0 0],xd xh 6]) (by simp[results,results145,go_sem,fcc]) rfl ?_;exact⟨none,HFAIL.out,hbf,rfl⟩
 ):zq:=h
theorem zm24(h:zq:=by
 have fcc:=cell_of_blk hfin;refine bodyPost_ret (v:= .tuple #[.agg #[xa none 0 0,xa none 0 0,xa none 0 0],xd xh 6]) (by simp[results,results145,go_sem,fcc]) rfl ?_;exact⟨none,HFAIL.out,hbf,rfl⟩
 ):zq:=h
theorem zm39(h:zq:=by
 go_in;go_wp2_with fail;refine bodyPost_ret (v:= xn false) (by simp[results,results146,go_sem]) rfl ?_;exact⟨TellsB.no HN.out,H0.out.bel⟩
 ):zq:=h
theorem zm41(h:zq:=by
 go_wp2_with fail;refine bodyPost_ret (v:= xn false) (by simp[results,results146,go_sem]) rfl ?_;exact⟨TellsB.no HN.out,H1.out.bel⟩
 ):zq:=h
theorem zm44(h:zq:=by
 go_wp2;go_quiet (fail);go_wp2_with fail;refine bodyPost_ret (v:= xn false) (by simp[results,results146,go_sem]) rfl ?_;exact⟨TellsB.no HN.out,(H2.out.later (jA _ _)).bel⟩
 ):zq:=h
theorem zm59(h:zq:=by
 have HLK2:Hid (∀i,i<k2+1->(2<=oc t i↔Lives t i)):=fun i hi=>by
  by_cases e:i=k2
  ·subst e;rw[HFE.out];simp_all
  exact HLK.out i zo
 clear hlv hiff;go_wp2;go_quiet (fail);go_wp2
 go_roundw
 ·exact⟨k2+1,zo,zf,HB6.out.trans ((jA _ _).mono HB6.out.size),HLK2⟩
 simp[intOf];omega
 ):zq:=h
theorem zm81(h:zq:=by
 clear hlv hiff;go_wp2;go_quiet (fail);go_wp2_with fail;refine bodyPost_ret (v:= xn false) (by simp[results,results146,go_sem]) rfl ?_;exact⟨TellsB.no HN.out,(H6.out.later (jA _ _)).bel⟩
 ):zq:=h
theorem zm126(h:zq:=by
 go_wp2_with fail;refine bodyPost_ret (v:= xn false) (by simp[results,results146,go_sem]) rfl ?_;exact⟨TellsB.no HN.out,H3.out.bel⟩
 ):zq:=h
theorem Tryz.infoPt:(prog.info? 302).map (fun i=>(i.zero,i.size,i.bytes))=some (some (.agg #[xj ⟨#[]⟩,xn false]),2,24):=zk
def Mg(L:List Nd)(n:Nat)(w w':World)(e:Ending):Prop:=
 ∃N sb rv l tw lo lc ho hc,e=xm (.tuple #[xa lo l.length lc,xa ho tw.length hc])/\Bfs (nP L) (MF n) (rq L) l.length l tw/\PtP w w' N sb lo lc l ho hc rv tw/\l.length<=131072
theorem PtP.first{N pb sb:Nat}(hb:Below V.heap.size V W)(J:V.heap.size<=pb)(R:V.heap.size<=sb)(hp:W.heap[pb]? =some (xi #[xj (gH p.2),xn p.1] 302 (0,0)))(hs:W.heap[sb]? =some (xi (Array.replicate N (xd xh 0)) 3 (0,0)))(hN:N<=maxLen):
  PtP V (W.setCell ⟨sb,iT p,none⟩ (xd xh 1)) N sb (some ⟨pb,0,none⟩) 1 [p] none 0 [] []:=by
 have I:PtP V W N sb none 0 [] none 0 [] []:=by
  refine⟨MD _ _ _ _,⟨MD _ _ _ _, ?_,MD _ _ _ _,fun j r hr=>zv,fun v hv=>zv,List.Pairwise.nil⟩,hb⟩;show W.ownsRow _ _ 1 _ (oW N []).length (gU (oW N []));rw[pM,JX];refine⟨by unfold gU;simp,Or.inr ⟨sb,N,_,rfl,R,hs,ME _,hN,zp, ?_⟩⟩;unfold gU;simp
 have U:W.ownsRow V.heap.size 302 2 (xa (some ⟨pb,0,none⟩) (([]:List (Bool × List Bool)).length+1) 1) (([]:List (Bool × List Bool)).length+1) (od []++[xj (gH p.2),xn p.1]):=
  ⟨rfl,Or.inr ⟨pb,1,_,rfl,J,hp,ME _,zd,rfl,rfl⟩⟩
 exact(I.more (RwU.start _ _ _ _) zf U (gC (Below.refl _ _) _) rfl).1
theorem DI(w:World)(nb B:Nat){T:List Int}(hN:NSx w nb B L T)(hg:AllGood L)(hL:L.length<=16)(n:Nat)(hn:n<=6):
  Calls prog 181 #[xk (some ⟨nb,0,none⟩),xd xh n] w fun e w'=>Mg L n w w' e:=by
 obtain⟨N,hNa,hNb⟩: ∃N,N<=131072/\131072<=N:=⟨131072,zo,zo⟩;have bH: ∀W:World,(Instr.makeSlice 33 (xd xh 131072) (xd xh 131072)).run prog W= .ok (xa (some ⟨W.heap.size,0,none⟩) N N) (W.alloc (xi (Array.replicate N (xd xh 0)) 3)):=fun W=>by
  have h:=A4 W N zo;have e:(N:Int)=131072:=zo;simp_all
 have aT:=fa (Et w nb B L T hN hg zo [] false);have HN:=fa hN;have HG:=fa hg;obtain⟨i0,hi0,hz0,hz1,hz2⟩:=info_parts mX;obtain⟨r0,hr0,hrz0,hrz1,hrz2⟩:=info_parts qX;obtain⟨q0,bI,bl,bm,bn⟩:=info_parts Tryz.infoPt;clear hN hg;go_in;go_wp2_with fail;refine aT.mono ?_;rintro e w1 ⟨rfl,av⟩;have bz:Hid ((true,j7 [] false false (-1) L)=rq L):=rfl;generalize hP0:j7 [] false false (-1) L=P0 at *;have hP0l:P0.length=L.length:=by rw[<-hP0];exact lM ..
 have HC:=fa (fun W:World=>Ap W P0 true zo);clear hP0 aT;go_wp2_with fail;have I:Below w1.heap.size w1 ((w1.alloc (xi #[xj (gH P0),xn true] 302)).alloc (xi (Array.replicate N (xd xh 0)) 3)):=gz.alloc zp _;have aj:((w1.alloc (xi #[xj (gH P0),xn true] 302)).alloc (xi (Array.replicate N (xd xh 0)) 3)).heap[w1.heap.size]? =some (xi #[xj (gH P0),xn true] 302 (0,0)):=(MY _ _ _ zp).trans (ft _ _);have hsb:((w1.alloc (xi #[xj (gH P0),xn true] 302)).alloc (xi (Array.replicate N (xd xh 0)) 3)).heap[w1.heap.size+1]? =some (xi (Array.replicate N (xd xh 0)) 3 (0,0)):=fk _ _ _ zp;refine(HC _).mono ?_;generalize ((w1.alloc (xi #[xj (gH P0),xn true] 302)).alloc (xi (Array.replicate N (xd xh 0)) 3))=W2 at *;rintro e w2 ⟨rfl,aC⟩;have aE:iT (true,P0)<N:=by have:=vi (true,P0) (n:=16) za;omega
 have ak:=(aC.block _ (fh hsb)).trans hsb;have aG:=av.trans ((I.trans (aC.mono I.size)).mono av.size);have bA:=fa (PtP.first (V:=w) (W:=w2) (p:=(true,P0)) aG av.size (by have:=av.size;omega) ((aC.block _ (fh aj)).trans aj) ak (by unfold maxLen;omega));have aW:Hid (Bfs (nP L) (MF n) (rq L) 0 [(true,P0)] []):=by show Bfs _ _ _ _ _ _;rw[bz.out];exact Bfs.start _ _ _
 have sc:w2.cell? ⟨w1.heap.size+1,iT (true,P0),none⟩=some (xd xh 0):=by rw[cell_of_blk ak];simp_all
 have sf:=fi ak (iT (true,P0));have aH:((iT (true,P0):Nat):Int)<(N:Int):=zo;generalize iT (true,P0)=c0 at *;clear aj hsb ak I aC aG HC bH;generalize hsbe:w1.heap.size+1=sb at *;generalize hpbe:w1.heap.size=pb at *;clear hsbe hpbe av;go_wp2_with fail;generalize w2.setCell ⟨sb,c0,none⟩ (xd xh 1)=W3 at *;clear sc sf aE aH
 go_loopw [6,8,9] (fun y z x wr=> ∃(k:Nat) (lo:Option Addr) (lc:Nat) (l:List (Bool × List Bool)) (ho:Option Addr) (hc:Nat) (rv:List Value) (tw:List (List Nat)),y=xa lo l.length lc/\z=xa ho k hc/\x=xd xh k/\Hid (PtP w wr N sb lo lc l ho hc rv tw)/\Hid (Bfs (nP L) (MF n) (rq L) k l tw)) (fun _ _ x _=>131073 - (intOf x).toNat)
 ·exact⟨0,some ⟨pb,0,none⟩,1,[(true,P0)],none,0,[],[],rfl,rfl,rfl,bA,aW⟩
 obtain⟨k,lo,lc,l,ho,hc,rv,tw,rfl,rfl,rfl,HP,ai⟩:=hrel;have bf:=wL hL ai;have hkl:=ai.le;have aB:=fa (ai.len);rcases zc k l.length with⟨hlt,hkn⟩|⟨hlt,hkn⟩
 ·have HX:=fa (Mr hlt);have aQ:=pq ai _ (Mw hlt);have bB:=fa (RwU.start wr w.heap.size (xa (some ⟨sb,0,none⟩) N N) rv);have aY:=fa (pq ai);generalize l[k]=pp at *;obtain⟨pe,P⟩:=pp;replace aQ:P.length=L.length:=aQ;go_wp2_with fail
  rename World=>wR
  go_loopw [6,10,11] (fun y v x wr=> ∃(j:Nat) (lo:Option Addr) (lc:Nat) (M:List (Bool × List Bool)) (q:List Nat) (vo:Option Addr) (vc:Nat),j<=n/\y=xa lo M.length lc/\v=xa vo j vc/\x=xd xh j/\Hid (PtP w wr N sb lo lc M ho hc rv tw)/\Hid (RwU wr w.heap.size (xa (some ⟨sb,0,none⟩) N N) rv (xa vo j vc) q)/\Hid (jh (nP L) (pe,P) (MF j) l=(M,q))) (fun _ _ x _=>n - (intOf x).toNat)
  ·exact⟨0,lo,lc,l,[],none,0,Mx _,rfl,rfl,rfl,HP,bB,rfl⟩
  obtain⟨j,bJ,bo,M,q,vo,vc,hj,rfl,rfl,rfl,R,HU,HRN⟩:=hrel;have ay:=nF (nP L) (pe,P) (MF j) l;rw[HRN.out] at ay;obtain⟨⟨xs,aq,aR⟩,bj,_,_⟩:=ay;have hMle:M.length<=l.length+j:=by
   have:=rB (nP L) (pe,P) (MF j) l;exact zm138
  have ax:q.length=j:=za;have aA:=fa ax;have hkM:k<M.length:=by
   have:M=l++xs:=aq;rw[this,Ms];omega
  have aL:M[k]? =some (pe,P):=by
   have:M=l++xs:=aq;rw[this];exact oG HX
  have bx:Hid (∀p∈M,p.2.length=L.length):=fun p hp=>by
   have:M=l++xs:=aq;rw[this] at hp;rcases List.mem_append.1 hp with h|h
   ·exact aY p h
   obtain⟨a,_,rfl⟩:=aR p h;exact lM ..
  rcases zc j n with⟨hjl,hjn⟩|⟨hjl,hjn⟩
  ·have hkMi:(k:Int)<(M.length:Int):=zo;obtain⟨g,bg,bF,bD,bE⟩:=Fy R.pl k _ aL;subst bg;have aU:=fa (Gk wr nb B L T (HN.later R.bel) HG zo P pe j zo aQ);have aa:Hid (jh (nP L) (pe,P) (MF (j+1)) l=((jr M (nP L (pe,P) j)).1,q++[(jr M (nP L (pe,P) j)).2])):=by
    exact zm124
   have aV:Hid (nP L (pe,P) j=(false,j7 P true (!pe) (j:Nat) L)):=rfl;have ba:(j7 P true (!pe) (j:Nat) L).length=L.length:=lM ..;clear bj ax aq aR aL;generalize j7 P true (!pe) (j:Nat) L=P2 at *;rw[aV.out] at aa;clear aV;go_wp2_with fail;refine aU.mono ?_;rintro e w5 ⟨rfl,aM⟩;have a6:=fa (R.later aM);have a7:=fa (HU.later aM);clear aM aU R HU bF bD bE;have aX:=fa (fun W:World=>Ap W P2 false zo);go_wp2_with fail;have aN:=iz w5 (xi #[xj (gH P2),xn false] 302);have aj:=ft w5 (xi #[xj (gH P2),xn false] 302);refine(aX _).mono ?_;rintro e w6 ⟨rfl,aD⟩;have U:=fa ((a6.later aN).later aD);have ao:=fa ((a7.later aN).later aD);have aw:=(aD.block _ (fh aj)).trans aj;have pc0:=cell_of_blk aw 0;have pc1:=cell_of_blk aw 1;have aE:iT (false,P2)<N:=by have:=vi (false,P2) (n:=16) za;omega
   have aH:((iT (false,P2):Nat):Int)<(N:Int):=zo;obtain⟨sc,sl,sf⟩:=I8 U.tab aE;have hV6:=U.bel.size;clear aN aj aD aw a6 a7 aX;rcases JY (l:=M) (p:=(false,P2)) (fun q hq=>(bx q hq).trans ba.symm) with⟨h0,hf,hnum⟩|⟨i,hi,hs,hnum⟩
   ·rw[hnum] at aa;rw[h0] at sc;have bq:w6.cell? ⟨sb,iT (false,P2),none⟩=some (xd xh 0):=sc;have HF:=fa hf;clear hnum h0 sc hf
    go_wp2_with (at_builtin;go_must (refine wpList_append_lies _ rfl _ _ 298 rfl w.heap.size 302 q0 (.agg #[xj ⟨#[]⟩,xn false]) 2 24 underlying298 bI bl bm bn rfl zd _ M.length (od M) rfl ?c0 ⟨w6.heap.size,0,none⟩ 1 1 [xj (gH P2),xn false] rfl rfl ?c1 ?c2 zd ?c3 ?c4 ?c5 (w6.heap.size+1) ?c6 ?_))
    case c0=>exact U.pl.alloc _
    case c1=>exact World.news_of_block (ft _ _)
    case c2=>intro u hu;simp at hu;rcases hu with rfl|rfl<;>rfl
    case c3=>unfold maxLen;omega
    case c4=>omega
    case c5=>simp;omega
    case c6=>simp
    intro g8 a8 w8 bh aO _ _;have I:=iz w6 (xi #[xj (gH P2),xn false] 302);have aP:=U.later I;obtain⟨sc8,sl8,sf8⟩:=I8 (aP.tabL aO) aE;obtain⟨bc,bd⟩:=aP.more (ao.later I) (p:=(false,P2)) HF bh aO (z:=(M.length:Int)+1) zo;have aI:=fa bc;have aJ:=fa bd;generalize iT (false,P2)=c at *;clear bh aO I aP bc bd U ao bq sl sf HF
    go_wp2_with (at_builtin;go_must (refine rJ rfl _ _ 33 rfl _ w.heap.size 3 mX rfl underlying33 (n:=j) (xs:=gU q) rfl (xd xh (M.length:Int)) rfl rfl ?x0 zo aI.bel.size (by first|rfl|simp[MJ]) ?_))
    case x0=>have:=aJ.own;rw[aA.out] at this;exact this
    intro g9 ad w9 ag ae J;have hwA:(w8.setCell ⟨sb,c,none⟩ (xd xh ((M.length:Int)+1))).heap.size=w8.heap.size:=zp;generalize w8.setCell ⟨sb,c,none⟩ (xd xh ((M.length:Int)+1))=wA at *;have I:=iz wA (xi #[xd xh (M.length:Int)] 3);obtain⟨ar,au⟩:=(aI.later I).num (aJ.later I) (x:=M.length) (by rw[aA.out];exact ag) ae rfl (J.imp id (fun h=>zs));have an:=fa ar;have aK:=fa au;have hlM:(M++[(false,P2)]).length=M.length+1:=zp;clear ag ae J I ar au aI aJ;go_wp2
    go_roundw
    ·exact⟨j+1,some ⟨g8,0,none⟩,a8,M++[(false,P2)],q++[M.length],some ⟨g9,0,none⟩,ad,zo,zp,rfl,zf,an,aK,aa⟩
    simp[intOf];omega
   rw[hnum] at aa;rw[hs] at sc;have bq:w6.cell? ⟨sb,iT (false,P2),none⟩=some (xd xh ((i:Int)+1)):=sc;generalize iT (false,P2)=c at *;clear hnum hs sc
   go_wp2_with (at_builtin;go_must (refine rJ rfl _ _ 33 rfl _ w.heap.size 3 mX rfl underlying33 (n:=j) (xs:=gU q) rfl (xd xh (i:Int)) rfl rfl ?y0 zo U.bel.size (by first|rfl|simp[MJ]) ?_))
   case y0=>have:=ao.own;rw[aA.out] at this;exact this
   intro g9 ad w9 ag ae J;have I:=iz w6 (xi #[xd xh (i:Int)] 3);obtain⟨ar,au⟩:=(U.later I).num (ao.later I) (x:=i) (by rw[aA.out];exact ag) ae rfl (J.imp id (fun h=>zs));have an:=fa ar;have aK:=fa au;clear ag ae J I ar au U ao;go_wp2
   go_roundw
   ·exact⟨j+1,_,bo,M,q++[i],some ⟨g9,0,none⟩,ad,zo,rfl,rfl,zf,an,aK,aa⟩
   simp[intOf];omega
  have bG:j=n:=zo;subst bG;have aF:Hid (Bfs (nP L) (MF j) (rq L) (k+1) M (tw++[q])):=by
   have:=ai.step HX;rw[HRN.out] at this;exact this
  have hfew2:=wL hL aF;clear bj ax aq aR aL
  go_wp2_with (at_builtin;go_must (refine rJ rfl _ _ 34 rfl _ w.heap.size 33 qX rfl underlying34 (n:=k) (xs:=rv) rfl (xa vo j vc) rfl rfl ?z0 zo R.bel.size (by first|rfl|simp[MJ]) ?_))
  case z0=>have h1:=R.tab.nx;rw[aB.out] at h1;exact h1
  intro g9 ad w9 ag ae J;have I:=iz wr (xi #[xa vo j vc] 33);have an:=fa ((R.later I).row (HU.later I) (by rw[aB.out];exact ag) (by rw[aB.out];exact ae));clear ag ae J I R HU;go_wp2
  go_roundw
  ·exact⟨k+1,bJ,bo,M,some ⟨g9,0,none⟩,ad,_,tw++[q],rfl,rfl,zf,an,aF⟩
  simp[intOf];omega
 have bw:Hid (k=l.length):=by show _=_;omega
 go_wp2_with fail;refine bodyPost_ret (v:= .tuple #[xa lo l.length lc,xa ho k hc]) (by simp[results,results181,go_sem]) rfl ?_;exact⟨N,sb,rv,l,tw,lo,lc,ho,hc,by rw[aB.out],bw▸ai.out,HP,bf⟩
structure RsB (w wr:World) (g:Nat) (T:Array Value) (F:List Nat):Prop where
 b0:wr.heap[w.heap.size]? =some (xi T 36 (0,0))
 fr:wr.heap[g]? =some (xi (gU F).toArray 3 (0,0))
 bel:Below w.heap.size w wr
 hg:w.heap.size<g
theorem RsB.put{g:Nat}{T:Array Value}(h:RsB w wr g T F)(k x:Nat):RsB w (wr.setCell ⟨g,k,none⟩ (xd xh (x:Int))) g T (F.set k x):=by
 have hg:=h.hg;refine⟨(MU _ _ _ _ (by show w.heap.size≠g;omega)).trans h.b0, ?_,h.bel.setCell (by show w.heap.size<=g;omega) _,hg⟩;have:=fj h.fr k (xd xh (x:Int));rw[List.setIfInBounds_toArray] at this;have e:(gU F).set k (xd xh (x:Int))=gU (F.set k x):=by unfold gU;simp
 simp_all
theorem RsB.at{g:Nat}{T:Array Value}(h:RsB w wr g T F){k:Nat}(hk:k<F.length):wr.cell? ⟨g,k,none⟩=some (xd xh (KC F k:Int)):=by
 rw[cell_of_blk h.fr,List.getElem?_toArray];unfold gU KC;simp_all
theorem ve{x:ByteArray}(h:x≠y):(x.toList==y.toList)=false:=beq_eq_false_iff_ne.2 fun e=>h (by
 apply mw;rw[ByteArray.toList_eq,ByteArray.toList_eq] at e;omega)
def vw(z:Tz):Tb:=⟨z.acts,z.fl.map MZ,z.nx.map fun r=>r.map MZ⟩
structure Kq (z:Tz):Prop where
 fl: ∀f∈z.fl,0<=f/\f<=3
 rs: ∀r∈z.nx,r.length=z.acts.length/\ ∀x∈r,0<=x/\x<(z.nx.length:Int)
theorem KN{z:Tz}(h:Kq z):(vw z).z=z:=by
 refine Tz.ext' rfl (uw fun x I=>(h.fl x I).1) ?_;show(z.nx.map fun r=>r.map MZ).map zI=z.nx;rw[List.map_map]
 conv=>rhs;rw[<-List.map_id z.nx]
 exact List.map_congr_left fun r hr=>uw fun x I=>((h.rs r hr).2 x I).1
theorem JG{z:Tz}(h:Kq z)(I:1<=z.acts.length)(J:z.acts.length<=6)(R:1<=z.nx.length)(hn:z.nx.length<=100)(hf:z.fl.length=z.nx.length):ShT (vw z) z.acts.length z.nx.length:=by
 refine⟨rfl,by unfold vw;simp,by unfold vw;simp[hf],I,J,R,hn,fun r hr=> ?_⟩;have U:=hr;obtain⟨q,hq,rfl⟩:=List.mem_map.1 U;obtain⟨h1,h2⟩:=h.rs q hq;simp_all
theorem FV{ao fo no:Option Addr}{ac:Nat}(h:TbI W ao fo no ac t.z)(U:ShT t A n):
  ∃fb f0 nb n0 rb ro rc,fo=some ⟨fb,f0,none⟩/\no=some ⟨nb,n0,none⟩/\TbK W t A n fb f0 nb n0 rb ro rc:=by
 have hA:=U.A1;have hn:=U.n1;have hnl:=U.hn;have hfl:=U.hf;have ag: ∀i,i<n->t.z.fl[i]? =some (oc t i:Int):=fun i hi=>by
  show(zI t.fl)[i]? =_;unfold zI oc;simp_all
 have ai: ∀i,i<n-> ∃r,t.nx[i]? =some r/\r.length=A/\t.z.nx[i]? =some (zI r):=fun i hi=>by
  have ad:i<t.nx.length:=zo;refine⟨t.nx[i],Mr ad,(U.rs _ (Mw ad)).1, ?_⟩;show(t.nx.map zI)[i]? =_;simp_all
 obtain⟨fb,f0,rfl,aa,_⟩:=h.fl 0 _ (ag 0 zo);obtain⟨r0,_,_,an⟩:=ai 0 zo;obtain⟨nb,n0,_,_,rfl,ae,_,_⟩:=h.nx 0 _ an;have I: ∀i,∃p:Nat × Nat × Nat,i<n->W.cell? ⟨nb,n0+i,none⟩=some (xa (some ⟨p.1,p.2.1,none⟩) A p.2.2)/\p.1<W.heap.size/\ ∀a,a<A->W.cell? ⟨p.1,p.2.1+a,none⟩=some (xd xh (rm t i a:Int)):=fun i=>by
  by_cases hi:i<n
  ·obtain⟨r,h1,h2,h3⟩:=ai i hi;obtain⟨b,off,ro,rc,e1,_,e3,e4⟩:=h.nx i _ h3;cases e1;have J: ∀a,a<A->(zI r)[a]? =some (rm t i a:Int):=fun a ha=>by
    unfold zI rm;simp_all
   obtain⟨qb,q0,rfl,ak,_⟩:=e4 0 _ (J 0 zo);refine⟨(qb,q0,rc),fun _=>⟨?_,ak,fun a ha=> ?_⟩⟩
   ·rw[e3];have:(zI r).length=A:=by unfold zI;simp_all
    rw[this]
   obtain⟨b',off',e5,_,e6⟩:=e4 a _ (J a ha);simp_all
  exact⟨(0,0,0),fun h=>absurd h hi⟩
 have R:=fun i=>Classical.choose_spec (I i)
 refine⟨fb,f0,nb,n0,fun i=>(Classical.choose (I i)).1,fun i=>(Classical.choose (I i)).2.1,fun i=>(Classical.choose (I i)).2.2,rfl,rfl,⟨U,fun i hi=> ?_,fun i hi=>(R i hi).1,fun i a hi ha=>(R i hi).2.2 a ha,aa,ae,fun i hi=>(R i hi).2.1⟩⟩;obtain⟨b,off,e1,_,e3⟩:=h.fl i _ (ag i hi);simp_all
structure NmI (l:List ByteArray) (i:Nat):Prop where
 nm: ∀a∈l.take i,oe a
 nd:(l.take i).Nodup
theorem NmI.next{l:List ByteArray}{s:ByteArray}(h:NmI l i)(hs:l[i]? =some s)(hn:oe s)(hd:s∉l.take i):NmI l (i+1):=by
 have e:l.take (i+1)=l.take i++[s]:=by rw[Mu,hs];rfl
 refine⟨fun a I=> ?_, ?_⟩
 ·rw[e] at I;rcases List.mem_append.1 I with I|I
  ·exact h.nm a I
  rw[List.mem_singleton.1 I];exact hn
 rw[e,List.nodup_append];exact⟨h.nd,zp,fun x hx y hy e=>by
  simp_all⟩
theorem vQ(w:World)(ao fo no:Option Addr)(ac fc nc:Nat)(z:Tz)(hI:TbI w ao fo no ac z):
  Calls prog 146 #[.agg #[xa ao z.acts.length ac,xa fo z.fl.length fc,xa no z.nx.length nc]] w fun e w'=>TellsB (iS z) e/\Below w.heap.size w w':=by
 have H0:=fa (OnB.start w #[xa ao z.acts.length ac,xa fo z.fl.length fc,xa no z.nx.length nc]);have HI:=fa hI;have HZ:=fa (yZ z);have b4:=hI.al;have b5:=hI.fll;have b6:=hI.nxl;clear hI;have c0:=cell_of_blk H0.b0 0;have c1:=cell_of_blk H0.b0 1;have c2:=cell_of_blk H0.b0 2;have l0:=fh H0.b0;by_cases hA1:1<=z.acts.length
 case neg=>
  have HN:Hid (¬ iS z):=fun h=>hA1 (HZ.1 h).1.n1
  have bd:(z.acts.length:Int)<1:=zo;exact zm39
 have bd:¬ (z.acts.length:Int)<1:=zo;by_cases hA6:z.acts.length<=6
 case neg=>
  have HN:Hid (¬ iS z):=fun h=>hA6 (HZ.1 h).1.n6
  have bf:6<(z.acts.length:Int):=zo;exact zm39
 have bf:¬ 6<(z.acts.length:Int):=zo;by_cases hn1:1<=z.fl.length
 case neg=>
  have HN:Hid (¬ iS z):=fun h=>hn1 (by have h2:=(HZ.1 h).2.1;rw[h2.fl];exact h2.n1)
  have bg:(z.fl.length:Int)<1:=zo;exact zm39
 have bg:¬ (z.fl.length:Int)<1:=zo;by_cases hn100:z.fl.length<=100
 case neg=>
  have HN:Hid (¬ iS z):=fun h=>hn100 (by have h2:=(HZ.1 h).2.1;rw[h2.fl];exact h2.n100)
  have bh:100<(z.fl.length:Int):=zo;exact zm39
 have bh:¬ 100<(z.fl.length:Int):=zo;by_cases hfn:z.nx.length=z.fl.length
 case neg=>
  have HN:Hid (¬ iS z):=fun h=>hfn ((HZ.1 h).2.1).fl.symm
  have hi5:¬ (z.nx.length:Int)=(z.fl.length:Int):=zo;exact zm39
 rw[hfn] at c2 H0|-;have R:=fa hfn;clear hfn b6;obtain⟨n,hn⟩: ∃n,z.fl.length=n:=⟨_,rfl⟩;obtain⟨A,hA⟩: ∃A,z.acts.length=A:=⟨_,rfl⟩;rw[hn,hA] at H0 c0 c1 c2|-;rw[hn] at hn1 hn100 b5 bg bh R;rw[hA] at hA1 hA6 b4 bd bf;have aw:=fa hn;have U:=fa hA;clear hn hA;go_in;go_wp2_with fail;clear c0 c1 c2 l0;generalize w.alloc (xi #[xa ao A ac,xa fo n fc,xa no n nc] 36)=W0 at *
 go_loopw [4] (fun x wr=> ∃i:Nat,i<=A/\x=xd xh i/\Hid (OnB w wr #[xa ao A ac,xa fo n fc,xa no n nc])/\Hid (NmI z.acts i)) (fun x _=>A - (intOf x).toNat)
 ·exact⟨0,Mx _,rfl,H0,⟨fun a ha=>by simp at ha,zp⟩⟩
 obtain⟨i,hi,rfl,H1,HM⟩:=hrel;have c0:=cell_of_blk H1.b0 0;have l0:=fh H1.b0;rcases zc i A with⟨an,hin⟩|⟨an,hin⟩
 ·have bj:i<z.acts.length:=by rw[U.out];omega
  obtain⟨b,off,rfl,a',a8⟩:=(HI.later H1.bel).acts i z.acts[i] (Mr bj);have HX:=fa (Mr bj:z.acts[i]? =some z.acts[i]);generalize z.acts[i]=s at *;have I:Hid (iS z->oe s/\s∉z.acts.take i):=fun h=>by
   have h1:=(HZ.1 h).1;refine⟨h1.nm s (My HX),fun hm=> ?_⟩;obtain⟨j,hj⟩:=List.mem_iff_getElem?.1 hm;have bY:j<i:=by have:=(List.getElem?_eq_some_iff.1 hj).1;rw[MP] at this;omega
   rw[MQ bY] at hj;have:=(List.getElem?_inj (show j<z.acts.length from zo) h1.nd).1 (hj.trans HX.symm);omega
  have ae:=fa (vK s wr);by_cases hs1:1<=s.size
  case neg=>
   have HN:Hid (¬ iS z):=fun h=>hs1 ((I h).1).n1
   have bW:(s.size:Int)<1:=zo;go_wp2_with fail;refine ae.mono ?_;rintro e w' ⟨rfl,J⟩;subst J;exact zm41
  have bW:¬ (s.size:Int)<1:=zo;by_cases hs8:s.size<=8
  case neg=>
   have HN:Hid (¬ iS z):=fun h=>hs8 ((I h).1).n8
   have bX:8<(s.size:Int):=zo;go_wp2_with fail;refine ae.mono ?_;rintro e w' ⟨rfl,J⟩;subst J;exact zm41
  have bX:¬ 8<(s.size:Int):=zo;cases hwd:isWord s.data.toList with
  |true=>
   have HN:Hid (¬ iS z):=fun h=>by have:=((I h).1).wd;simp_all
   rw[hwd] at ae;clear hwd;go_wp2_with fail;refine ae.mono ?_;rintro e w' ⟨rfl,J⟩;subst J;exact zm41
  |false=>
   rw[hwd] at ae;have bO:=fa hwd;clear hwd;go_wp2_with fail;refine ae.mono ?_;rintro e w' ⟨rfl,J⟩;subst J;clear ae;go_wp2_with fail
   rename World=>wR
   go_loopw [7] (fun x wr=> ∃k:Nat,k<=s.size/\x=xd xh k/\Hid (wr=wR)/\Hid (∀j (h:j<s.size),j<k->isLet s[j]=true)) (fun x _=>s.size - (intOf x).toNat)
   ·exact⟨0,Mx _,rfl,rfl,fun j _ h=>absurd h (Nat.not_lt_zero j)⟩
   obtain⟨k,hk,rfl,aa,aR⟩:=hrel;have av:=aa.out;subst av;clear aa;rcases zc k s.size with⟨hks,hki⟩|⟨hks,hki⟩
   ·have aj:=fa (nU s[k] wr);cases hlt:isLet s[k] with
    |true=>
     rw[hlt] at aj;have bD:Hid (∀j (h:j<s.size),j<k+1->isLet s[j]=true):=fun j h hj=>by
      by_cases e:j=k
      ·simp_all
      exact aR j h zo
     clear hlt;go_wp2_with fail;refine aj.mono ?_;rintro e w' ⟨rfl,J⟩;subst J;clear aj;go_wp2
     go_roundw
     ·exact⟨k+1,zo,zf,trivial,bD⟩
     simp[intOf];omega
    |false=>
     rw[hlt] at aj;have HN:Hid (¬ iS z):=fun h=>by
      have h1:=((I h).1).lt s[k] (by
       show s.data[k]∈s.data.toList;simp)
      simp_all
     clear hlt;go_wp2_with fail;refine aj.mono ?_;rintro e w' ⟨rfl,J⟩;subst J;clear aj;exact zm41
   have bJ:Hid (oe s):=⟨hs1,hs8,fun c hc=>by
    obtain⟨j,hj,rfl⟩:=List.getElem_of_mem hc;have bV:j<s.size:=zv;have:=aR j bV zo;trivial,bO⟩
   go_wp2_with fail
   rename World=>wQ
   go_loopw [9] (fun x wr=> ∃k:Nat,k<=i/\x=xd xh k/\Hid (wr=wQ)/\Hid (s∉z.acts.take k)) (fun x _=>i - (intOf x).toNat)
   ·exact⟨0,Mx _,rfl,rfl,fun h=>MG h⟩
   obtain⟨k,hk,rfl,aa,bI⟩:=hrel;have av:=aa.out;subst av;clear aa;rcases zc k i with⟨hks,hki⟩|⟨hks,hki⟩
   ·have hkA:(k:Int)<(A:Int):=zo;have bn:k<z.acts.length:=zo;obtain⟨b2,bu,e2,ai,ag⟩:=(HI.later H1.bel).acts k z.acts[k] (Mr bn);cases e2;have aU:=fa (Mr bn:z.acts[k]? =some z.acts[k]);generalize z.acts[k]=s2 at *;by_cases he:s2=s
    ·have HN:Hid (¬ iS z):=fun h=>(I h).2 (by
      refine My (i:=k) ?_;rw[MQ hks,aU.out,he])
     subst he;exact zm41
    have hne:=ve he;have aS:Hid (s∉z.acts.take (k+1)):=by
     show ¬ _;rw[Mu,aU.out,List.mem_append];rintro (h|h)
     ·trivial
     simp_all
    clear he;go_wp2
    go_roundw
    ·exact⟨k+1,zo,zf,trivial,aS⟩
    simp[intOf];omega
   have bZ:i=k:=zo;subst bZ;have bH:=fa (HM.next HX bJ bI);go_wp2
   go_roundw
   ·exact⟨i+1,zo,zf,H1,bH⟩
   simp[intOf];omega
 have bz:Hid (mT z.acts):=by
  have h1:=HM.out;have h2:z.acts.take i=z.acts:=Mt (by rw[U.out];omega);exact⟨by rw[U.out];omega,by rw[U.out];omega,fun a ha=>h1.nm a za,by have:=h1.nd;simp_all⟩
 go_wp2_with fail;clear c0 l0 HM
 rename World=>wR
 go_loopw [10] (fun x wr=> ∃k:Nat,k<=n/\x=xd xh k/\Hid (OnB w wr #[xa ao A ac,xa fo n fc,xa no n nc])/\Hid ((∀f∈z.fl.take k,0<=f/\f<=3)/\ ∀r∈z.nx.take k,r.length=z.acts.length/\ ∀x∈r,0<=x/\x<(z.nx.length:Int))) (fun x _=>n - (intOf x).toNat)
 ·exact⟨0,Mx _,rfl,H1,⟨fun f hf=>(MG hf).elim,fun r hr=>(MG hr).elim⟩⟩
 obtain⟨k,hk,rfl,H2,HS⟩:=hrel;rcases zc k n with⟨hkn,hki⟩|⟨hkn,hki⟩
 ·have bo:k<z.fl.length:=by rw[aw.out];omega
  have aM:k<z.nx.length:=by rw[R.out];omega
  have ad:=HI.later H2.bel;obtain⟨b,off,rfl,a',a8⟩:=ad.fl k z.fl[k] (Mr bo);obtain⟨b2,bu,ro,rc,rfl,ai,ag,bq⟩:=ad.nx k z.nx[k] (Mr aM);have b7:=ad.rl z.nx[k] (Mw aM);have aV:=fa (Mr bo:z.fl[k]? =some z.fl[k]);have aW:=fa (Mr aM:z.nx[k]? =some z.nx[k]);generalize z.fl[k]=f at *;generalize z.nx[k]=r at *;have c0:=cell_of_blk H2.b0 0;have c1:=cell_of_blk H2.b0 1;have c2:=cell_of_blk H2.b0 2;have l0:=fh H2.b0;have I:Hid (iS z->(0<=f/\f<=3)/\r.length=A/\ ∀x∈r,0<=x/\x<(n:Int)):=fun h=>by
   obtain⟨_,h2,h3⟩:=HZ.1 h;obtain⟨h4,h5,_⟩:=h3 k f aV;obtain⟨h6,h7⟩:=h2.rs r (My aW);refine⟨⟨h4,h5⟩,by rw[h6];trivial,fun x hx=> ?_⟩;have:=sj.1 (List.all_eq_true.1 h7 x hx);rw[R.out] at this;omega
  have bL:=fa bq;clear ad bq;by_cases hf0:0<=f
  case neg=>
   have HN:Hid (¬ iS z):=fun h=>hf0 (I h).1.1
   have hf0':f<0:=zo;exact zm44
  have hd0:decide (f<0)=false:=decide_eq_false zo;by_cases aL:f<=3
  case neg=>
   have HN:Hid (¬ iS z):=fun h=>aL (I h).1.2
   have bU:decide (3<f)=true:=decide_eq_true zo;exact zm44
  have bU:decide (3<f)=false:=decide_eq_false zo;by_cases hrA:r.length=A
  case neg=>
   have HN:Hid (¬ iS z):=fun h=>hrA (I h).2.1
   have hdr:((r.length:Int) !=(A:Int))=true:=by rw[bne_iff_ne];omega
   exact zm44
  rw[hrA] at ag b7;have aD:=fa hrA;clear hrA;go_wp2;go_quiet (fail);have ar:=jA wr nq;have H3:=fa (H2.later ar);have bA:=fa ((bcell3 ar _ _ ai).trans ag);have bK:=fa (bL.later ar);have hbl3:=Nat.lt_of_lt_of_le ai ar.size;clear ar a8 a' ag ai c0 c1 c2 l0;generalize hwd:wr.drewN nq=wd at *;clear hwd;go_wp2
  go_loopw [11] (fun x wr=> ∃a:Nat,a<=A/\x=xd xh a/\Hid (wr=wd)/\Hid (∀y∈r.take a,0<=y/\y<(n:Int))) (fun x _=>A - (intOf x).toNat)
  ·exact⟨0,Mx _,rfl,rfl,fun y hy=>(MG hy).elim⟩
  obtain⟨a,ha,rfl,aa,HY⟩:=hrel;have av:=aa.out;clear aa;subst av;have c0:=cell_of_blk H3.b0 0;have c2:=cell_of_blk H3.b0 2;have l0:=fh H3.b0;rcases zc a A with⟨haA,han⟩|⟨haA,han⟩
  ·have a7:a<r.length:=by rw[aD.out];omega
   obtain⟨b3,off3,rfl,hbl4,hbc4⟩:=bK a r[a] (Mr a7);have aF:=fa (Mr a7:r[a]? =some r[a]);generalize r[a]=y at *;have hbc3:=bA.out;by_cases hy0:0<=y
   case neg=>
    have HN:Hid (¬ iS z):=fun h=>hy0 ((I h).2.2 y (My aF)).1
    have br:y<0:=zo;exact zm126
   have br:¬ y<0:=zo;by_cases hyn:y<(n:Int)
   case neg=>
    have HN:Hid (¬ iS z):=fun h=>hyn ((I h).2.2 y (My aF)).2
    have bt:(n:Int)<=y:=zo;exact zm126
   have bt:¬ (n:Int)<=y:=zo;have bQ:Hid (∀y∈r.take (a+1),0<=y/\y<(n:Int)):=fun q hq=>by
    rw[Mu,aF.out] at hq;rcases List.mem_append.1 hq with h|h
    ·exact HY q h
    simp_all
   go_wp2
   go_roundw
   ·exact⟨a+1,zo,zf,trivial,bQ⟩
   simp[intOf];omega
  have bN:Hid ((∀f∈z.fl.take (k+1),0<=f/\f<=3)/\ ∀r∈z.nx.take (k+1),r.length=z.acts.length/\ ∀x∈r,0<=x/\x<(z.nx.length:Int)):=by
   refine⟨fun q hq=> ?_,fun q hq=> ?_⟩
   ·rw[Mu,aV.out] at hq;rcases List.mem_append.1 hq with h|h
    ·exact HS.1 q h
    simp_all
   rw[Mu,aW.out] at hq;rcases List.mem_append.1 hq with h|h
   ·exact HS.2 q h
   have:q=r:=za;rw[this];refine⟨aD.trans U.symm,fun x hx=> ?_⟩;have h1:=HY.out;rw[Mt (by rw[aD.out];omega)] at h1;rw[R.out];simp_all
  go_wp2
  go_roundw
  ·exact⟨k+1,zo,zf,H3,bN⟩
  simp[intOf];omega
 have aE:Hid (Kq z):=by
  have h1:=HS.out;rw[Mt (by rw[aw.out];omega),Mt (by rw[R.out];omega)] at h1;exact⟨h1.1,h1.2⟩
 have aN:=KN aE;have ay:=JG aE (by rw[U.out];omega) (by rw[U.out];omega) (by rw[R.out];omega) (by rw[R.out];omega) (by rw[aw.out,R.out]);rw[U.out,R.out] at ay;have ad:=HI.later H2.bel;rw[<-aN] at ad;obtain⟨fb,f0,nb,n0,rb,ro,rc,rfl,rfl,hK⟩:=FV ad ay;have HK:=fa hK;have aH:=fa aN;have aT:=fa ay;have aL:Hid (∀i,i<n->oc (vw z) i<=3):=fun i hi=>by
  have an:i<z.fl.length:=by rw[aw.out];omega
  have h1:=aE.fl z.fl[i] (Mw an);unfold oc vw;simp_all
 clear aN ay ad hK;generalize vw z=t at *;have c0:=cell_of_blk H2.b0 0;have c1:=cell_of_blk H2.b0 1;have c2:=cell_of_blk H2.b0 2;have l0:=fh H2.b0;go_wp2_with fail;refine(vO wr t A n ao A ac fb f0 nb n0 fc nc rb ro rc HK).mono ?_;clear c0 c1 c2 l0;rintro e w5 ⟨L,rfl,aB,aY,a6,aK⟩;have H5:=fa (H2.later aK);have bC:=fa (HK.later aK);have aQ:=fa aB;have bF:=fa a6;have bE:=fa aY;clear aB aY a6 aK HK;generalize wr.heap.size=g at *;go_wp2
 go_loopw [13] (fun x wq=> ∃k:Nat,k<=n/\x=xd xh k/\Hid (Below w5.heap.size w5 wq)/\Hid (∀i,i<k->(2<=oc t i↔Lives t i))) (fun x _=>n - (intOf x).toNat)
 ·exact⟨0,Mx _,rfl,Below.refl _ _,fun i hi=>absurd hi (Nat.not_lt_zero i)⟩
 obtain⟨k2,hk2,rfl,HB6,HLK⟩:=hrel;have H6:=fa (H5.later HB6);have aP:=fa (bC.later HB6);have aq:=(HB6.block _ (fh aQ)).trans aQ;rcases zc k2 n with⟨hkl,hki2⟩|⟨hkl,hki2⟩
 ·have c1:=cell_of_blk H6.b0 1;have l0:=fh H6.b0;have hfl:=aP.fla k2 hkl;have hlf:=aP.lf;have ba:wr.cell? ⟨g+1,k2,none⟩=some (xn (lv L k2)):=by
   rw[cell_of_blk aq];have bm:k2<L.length:=by rw[bE.out];omega
   unfold lv;rw[Mr bm];exact pQ L k2 L[k2] (Mr bm)
  have hlg:=fh aq;have hiff:=bF k2;have I:Hid (iS z->(2<=oc t k2↔Lives t k2)):=fun h=>by
   rw[<-aH.out,sd] at h;have hk3:k2<t.fl.length:=by rw[aT.hf];omega
   exact h.alive k2 (oc t k2) (by unfold oc;simp_all)
  clear aq;generalize hfe:oc t k2=f at *;have HFE:=fa hfe;clear hfe;cases hlv:lv L k2 with
  |true=>
   rw[hlv] at ba;have au:=hiff.1 hlv;by_cases hf2:2<=f
   ·have bc:2<=(f:Int):=zo;exact zm59
   have bT:decide ((2:Int)<=(f:Int))=false:=decide_eq_false zo;have HN:Hid (¬ iS z):=fun h=>hf2 ((I h).2 au)
   exact zm81
  |false=>
   rw[hlv] at ba;have au:¬ Lives t k2:=fun h=>za
   by_cases hf2:2<=f
   ·have bc:2<=(f:Int):=zo;have HN:Hid (¬ iS z):=fun h=>au ((I h).1 hf2)
    exact zm81
   have bT:decide ((2:Int)<=(f:Int))=false:=decide_eq_false zo;exact zm59
 have HY:Hid (iS z):=by
  show iS z;rw[<-aH.out,sd];have hs:=aT.out;have bS:t.acts=z.acts:=by have:=aH.out;exact congrArg Tz.acts this
  refine⟨by rw[bS];exact bz,by rw[hs.hn];omega,by rw[hs.hn];omega,by rw[hs.hf,hs.hn],fun r hr=> ?_,fun f hf=> ?_,fun i f hi=> ?_⟩
  ·rw[hs.hA,hs.hn];exact hs.rs r hr
  ·obtain⟨i,hi⟩:=List.mem_iff_getElem?.1 hf;have an:i<n:=by have:=(List.getElem?_eq_some_iff.1 hi).1;rw[hs.hf] at this;omega
   have:=aL i an;unfold oc at this;simp_all
  have an:i<n:=by have:=(List.getElem?_eq_some_iff.1 hi).1;rw[hs.hf] at this;omega
  have:=HLK i zo;unfold oc at this;simp_all
 go_wp2_with fail;refine bodyPost_ret (v:= xn true) (by simp[results,results146,go_sem]) rfl ?_;exact⟨TellsB.yes HY,H6.bel⟩
theorem Ex(a b:ByteArray):(a++b).data.toList=a.data.toList++b.data.toList:=zp
def mK(t:Tb)(k j:Nat)(a:ByteArray):List UInt8:=jM t k++[u8 a.size]++a.data.toList.take j
theorem DK(t:Tb)(k:Nat)(a:ByteArray):mK t k 0 a=jM t k++[u8 a.size]:=by unfold mK;simp
theorem DJ(t:Tb)(k:Nat)(h:j<a.size):mK t k (j+1) a=mK t k j a++[u8 a[j].toNat]:=by
 unfold mK;have hg:a.data.toList[j]? =some a[j]:=by rw[Array.getElem?_toList];exact Array.getElem?_eq_getElem h
 have e:u8 a[j].toNat=a[j]:=by unfold u8;simp
 rw[Mu,hg,e,<-MV];rfl
theorem Ft{k:Nat}(h:t.acts[k]? =some a)(hj:a.size<=j):mK t k j a=jM t (k+1):=by
 unfold mK;rw[yV h,Mt zv]
theorem Hx(h:RightT t)(k j:Nat)(ha:a.size<=8):(mK t k j a).length<=70:=by
 have:=uq h k;have h2:a.data.toList.length=a.size:=zf;unfold mK;simp only[Ms,Mz,MM,MP];omega
def mL(t:Tb)(k j f:Nat)(r:List Nat):List UInt8:=jC t k++[u8 f]++(r.take j).map u8
theorem DM(t:Tb)(k f:Nat)(r:List Nat):mL t k 0 f r=jC t k++[u8 f]:=by unfold mL;simp
theorem DL(t:Tb)(k f:Nat)(h:r[j]? =some x):mL t k (j+1) f r=mL t k j f r++[u8 x]:=by
 unfold mL;rw[Mu,h];simp
theorem Fv(J:t.fl.length=t.nx.length){k:Nat}(hf:t.fl[k]? =some f)(h:t.nx[k]? =some r)(I:r.length<=j):mL t k j f r=jC t (k+1):=by
 unfold mL;rw[tB J hf h,Mt I]
theorem Hy(h:RightT t)(k j f:Nat)(hr:r.length<=6):(mL t k j f r).length<=1000:=by
 have:=xW h k;unfold mL;simp only[Ms,Mz,MM,MP,MH];omega
theorem pt(t:Tb):jC t 0=jM t t.acts.length++[u8 t.nx.length]:=by unfold jC;simp[iQ]
theorem Gr(I:World)(t:Tb)(na:Nat)(J:na=t.acts.length)(h6:na<=6):Bf I.heap.size I (I.alloc (xi #[xd .u8 83,xd .u8 1,xd .u8 (na:Int)] 5)) (xa (some ⟨I.heap.size,0,none⟩) 3 3) (jM t 0):=by
 have e:jM t 0=[83,1,u8 na]:=by unfold jM;rw[J];rfl
 rw[e];refine⟨⟨zf,.inr ⟨I.heap.size,3,_,(0,0),rfl,ME _,fk _ _ _ zp,Mx _,ME _,zd,rfl, ?_⟩⟩, ?_,zp⟩
 ·exact zm148
 exact gz
theorem zm(w:World)(ao fo no:Option Addr)(ac fc nc na nf:Nat)(t:Tb)(hI:TbI w ao fo no ac t.z)(hR:RightT t)(aS:na=t.acts.length)(aB:nf=t.fl.length):
  Calls prog 102 #[.agg #[xa ao na ac,xa fo nf fc,xa no nf nc]] w fun e w'=>e=xm (.tuple #[xj ⟨(iC t).toArray⟩,xd xh 0])/\Below w.heap.size w w':=by
 obtain⟨i0,ar,au,aj,ak⟩:=info_parts Tryz.infoU8;have aT:=aB.trans hR.fl;have hB:=iz w (xi #[xa ao na ac,xa fo nf fc,xa no nf nc] 36);have ai:=fa (ft w (xi #[xa ao na ac,xa fo nf fc,xa no nf nc] 36));have e1:t.z.fl.length=nf:=by rw[aB];exact lG _
 have e2:t.z.nx.length=nf:=by rw[aT];unfold Tb.z;simp
 have e3:t.z.acts.length=na:=by rw[aS];rfl
 have aH:=fa (vQ (w.alloc (xi #[xa ao na ac,xa fo nf fc,xa no nf nc] 36)) ao fo no ac fc nc t.z (hI.later hB));rw[e1,e2,e3] at aH;have HI:=fa hI;have HR:=fa hR;have HB:=fa hB;have bj:na<=6:=by have:=hR.acts.n6;omega
 have hnf6:nf<=100:=by have:=hR.n100;omega
 have aF:=fa aS;have bC:=fa aB;have aG:=fa aT;clear hI hB hR aS aB aT e1 e2 e3;have c0:=cell_of_blk ai 0;have c1:=cell_of_blk ai 1;have c2:=cell_of_blk ai 2;go_in;go_wp2_with fail;refine aH.mono ?_;clear aH c0 c1 c2;rintro e w1 ⟨⟨b,rfl,a'⟩,ad⟩;have bO:=a'.2 ((sd t).2 HR);subst bO;clear a';generalize w.alloc (xi #[xa ao na ac,xa fo nf fc,xa no nf nc] 36)=W at *;have J:=fa ((ad.block _ (fh ai)).trans ai);have aE:=fa (HB.trans (ad.mono HB.size));have aw:=fa (HI.later aE);clear ad HB ai HI;have c0:=cell_of_blk J 0;have l0:=fh J;have aV:=fa (Gr w1 t na aF bj);go_wp2_with fail;clear c0 l0
 go_loopw [5,6] (fun bv x wr=> ∃k:Nat,k<=na/\x=xd xh k/\Hid (Bf w1.heap.size w1 wr bv (jM t k))) (fun _ x _=>na - (intOf x).toNat)
 ·exact⟨0,Mx _,rfl,aV⟩
 obtain⟨k,hk,rfl,R⟩:=hrel;have hbel:=R.2.1;have hpl:=uq HR k;have I:=(hbel.block _ (fh J)).trans J;have c0:=cell_of_blk I 0;have c1:=cell_of_blk I 1;clear I;rcases zc k na with⟨hlt,hkn⟩|⟨hlt,hkn⟩
 ·have aA:k<t.acts.length:=by have:=aF.out;omega
  obtain⟨b,off,rfl,hb,az⟩:=(aw.later hbel).acts k t.acts[k] (Mr aA);have HX:=fa (Mr aA:t.acts[k]? =some t.acts[k]);have bK:=(HR.acts.nm _ (Mw aA)).n8;have bd:b<w1.heap.size:=by
   obtain⟨b',aD,e1,hb',_⟩:=aw.acts k t.acts[k] (Mr aA);simp_all
  generalize t.acts[k]=a at *;have bz:=fa ((bcell3 hbel _ _ bd).symm.trans az);clear hbel
  go_wp2_with (at_builtin;go_must (refine MC rfl _ _ 51 rfl w1.heap.size 5 i0 underlying51 ar au aj ak _ (jM t k).length (jH (jM t k)) rfl w1 wr (a.size:Int) ?c0 rfl ?c1 ?_))
  case c0=>exact R
  case c1=>omega
  intro v1 w2 ad;have an:=fa (Bf.byte (n:=a.size) (r:=mK t k 0 a) zo ad zp (DK t k a));clear ad c0 c1 hb az;go_wp2_with fail
  rename World=>wR
  go_loopw [5,7] (fun bv x wr=> ∃j:Nat,j<=a.size/\x=xd xh j/\Hid (Bf w1.heap.size w1 wr bv (mK t k j a))) (fun _ x _=>a.size - (intOf x).toNat)
  ·exact⟨0,Mx _,rfl,an⟩
  obtain⟨j,hj,rfl,U⟩:=hrel;have hbel:=U.2.1;have I:=(hbel.block _ (fh J)).trans J;have c0:=cell_of_blk I 0;have az:=(bcell3 hbel _ _ bd).trans bz;clear I hbel;rcases zc j a.size with⟨hjl,hjn⟩|⟨hjl,hjn⟩
  ·have bR:=Hx HR k j bK;have aJ:=fa (DJ t k hjl);have hc8:=a[j].toNat_lt;generalize hP:mK t k j a=P at *;clear hP
   go_wp2_with (at_builtin;go_must (refine MC rfl _ _ 51 rfl w1.heap.size 5 i0 underlying51 ar au aj ak _ (P).length (jH (P)) rfl w1 wr (a[j].toNat:Int) ?d0 rfl ?d1 ?_))
   case d0=>exact U
   case d1=>omega
   intro v3 w3 ag;have HBF3:=fa (Bf.byte (n:=a[j].toNat) (r:=mK t k (j+1) a) zo ag zp aJ);clear ag;go_wp2
   go_roundw
   ·exact⟨j+1,zo,zf,HBF3⟩
   simp[intOf];omega
  rw[Ft HX.out zo] at U;go_wp2
  go_roundw
  ·exact⟨k+1,zo,zf,U⟩
  simp[intOf];omega
 have aQ:k=t.acts.length:=by have:=aF.out;omega
 subst aQ;clear hbel
 go_wp2_with (at_builtin;go_must (refine MC rfl _ _ 51 rfl w1.heap.size 5 i0 underlying51 ar au aj ak _ (jM t t.acts.length).length (jH (jM t t.acts.length)) rfl w1 wr (nf:Int) ?g0 rfl ?g1 ?_))
 case g0=>exact R
 case g1=>omega
 intro v1 w2 ad;have an:=fa (Bf.byte (n:=nf) (r:=jC t 0) zo ad zp (by rw[pt,aG.out]));clear ad c0 c1 R;go_wp2_with fail
 rename World=>wR
 go_loopw [5,8] (fun bv x wr=> ∃k:Nat,k<=nf/\x=xd xh k/\Hid (Bf w1.heap.size w1 wr bv (jC t k))) (fun _ x _=>nf - (intOf x).toNat)
 ·exact⟨0,Mx _,rfl,an⟩
 obtain⟨k,hk2,rfl,R⟩:=hrel;have hbel:=R.2.1;have bl:=xW HR k;have I:=(hbel.block _ (fh J)).trans J;have c1:=cell_of_blk I 1;clear I;rcases zc k nf with⟨hlt,hkn2⟩|⟨hlt,hkn2⟩
 ·have aR:k<t.fl.length:=by have:=bC.out;omega
  have bh:k<t.nx.length:=by have:=aG.out;omega
  have bq:t.z.fl[k]? =some (t.fl[k]:Int):=by
   show(zI t.fl)[k]? =_;exact zZ (Mr aR)
  have br:t.z.nx[k]? =some (zI t.nx[k]):=by
   show(t.nx.map zI)[k]? =_;simp_all
  obtain⟨b,off,rfl,bM,ba⟩:=aw.fl k _ bq;obtain⟨b2,off2,ro,rc,rfl,bN,ay,bo⟩:=aw.nx k _ br;have bH:=fa (Mr aR:t.fl[k]? =some t.fl[k]);have bI:=fa (Mr bh:t.nx[k]? =some t.nx[k]);have hf3:=HR.fs t.fl[k] (Mw aR);have bm:=HR.rs t.nx[k] (Mw bh);have bP:=(bcell3 hbel _ _ bM).trans ba;rw[lG] at ay;generalize t.fl[k]=f at *;generalize t.nx[k]=r at *;have aX:=fa ay;have bE:=fa bo;have bD:=fa bm;have aU:r.length=na:=zo;rw[aU] at aX;have aY:=fa aU;have bn:r.length<=6:=zo;clear hbel ba ay bo bm aU bq br
  go_wp2_with (at_builtin;go_must (refine MC rfl _ _ 51 rfl w1.heap.size 5 i0 underlying51 ar au aj ak _ (jC t k).length (jH (jC t k)) rfl w1 wr (f:Int) ?m0 rfl ?m1 ?_))
  case m0=>exact R
  case m1=>omega
  intro v2 w3 ag;have U:=fa (Bf.byte (n:=f) (r:=mL t k 0 f r) zo ag zp (DM t k f r));clear ag c1 bP R;go_wp2_with fail
  rename World=>wS
  go_loopw [5,9] (fun bv x wr=> ∃j:Nat,j<=na/\x=xd xh j/\Hid (Bf w1.heap.size w1 wr bv (mL t k j f r))) (fun _ x _=>na - (intOf x).toNat)
  ·exact⟨0,Mx _,rfl,U⟩
  obtain⟨j,hj,rfl,HBF3⟩:=hrel;have hbel:=HBF3.2.1;have I:=(hbel.block _ (fh J)).trans J;have c0:=cell_of_blk I 0;have c2:=cell_of_blk I 2;have ay:=(bcell3 hbel _ _ bN).trans aX;clear I;rcases zc j na with⟨hjl,hjn⟩|⟨hjl,hjn⟩
  ·have aP:j<r.length:=by rw[aY.out];omega
   obtain⟨b3,off3,rfl,ag,bc⟩:=bE j (r[j]:Nat) (zZ (Mr aP));have bS:r[j]<256:=by have:=bD.2 r[j] (Mw aP);have:=HR.n100;omega
   have az:=(bcell3 hbel _ _ ag).trans bc;have aJ:=fa (DL t k f (Mr aP:r[j]? =some r[j]));have bR:=Hy HR k j f bn;generalize r[j]=y at *;clear hbel bc;generalize hP:mL t k j f r=P at *;clear hP
   go_wp2_with (at_builtin;go_must (refine MC rfl _ _ 51 rfl w1.heap.size 5 i0 underlying51 ar au aj ak _ (P).length (jH (P)) rfl w1 wr (y:Int) ?p0 rfl ?p1 ?_))
   case p0=>exact HBF3
   case p1=>omega
   intro v4 w4 a8;have aW:=fa (Bf.byte (n:=y) (r:=mL t k (j+1) f r) bS a8 zp aJ);clear a8;go_wp2
   go_roundw
   ·exact⟨j+1,zo,zf,aW⟩
   simp[intOf];omega
  rw[Fv HR.fl bH.out bI.out (by rw[aY.out];omega)] at HBF3;exact zm185
 have aQ:k=t.nx.length:=by have:=aG.out;omega
 subst aQ;rw[Be t HR.fl] at R bl;have bB:Hid (iC t=iA t++lP (iA t)):=rfl;obtain⟨g,c,hv,aO,hg⟩:=Bf.slice R (by unfold iA;simp);subst hv;have bf:=run_convert_bytes_back (P:=prog) wr 51 9 5 ⟨g,0,none⟩ c (iA t) underlying51 underlying5 underlying9 (fun j hj=>by
  obtain⟨b',aD,e1,_,e3⟩:=aO j (iA t)[j] (Mr hj);cases e1;rw[Addr.add_lit];omega)
 have aI:=fa (Gh wr ⟨(iA t).toArray⟩ (by show(iA t).toArray.size<=_;rw[MX];omega));have bF:Hid ((⟨(iA t).toArray⟩:ByteArray).data.toList=iA t):=fa rfl;rw[show(⟨(iA t).toArray⟩:ByteArray).data.toList=iA t from rfl] at aI;have bG:Hid ((⟨(lP (iA t)).toArray⟩:ByteArray).data.toList=lP (iA t)):=fa rfl;have aj:(⟨(iA t).toArray⟩:ByteArray).size<=900:=zv;have ak:(⟨(lP (iA t)).toArray⟩:ByteArray).size<=2:=by show(lP (iA t)).toArray.size<=_;rw[MX];exact ME 2
 have aC:=fun (w5:World) (hb:Below wr.heap.size wr w5)=>run_convert_bytes_back (P:=prog) w5 51 9 5 ⟨g,0,none⟩ c (iA t) underlying51 underlying5 underlying9 (fun j hj=>by
  obtain⟨b',aD,e1,h2,e3⟩:=aO j (iA t)[j] (Mr hj);cases e1;rw[Addr.add_lit];exact(bcell3 hb _ _ h2).trans e3)
 have bA:=fa aC;clear aO aC;generalize (⟨(iA t).toArray⟩:ByteArray)=s1 at *;generalize (⟨(lP (iA t)).toArray⟩:ByteArray)=s2 at *;go_wp2_with fail;refine aI.mono ?_;clear aI bf c1;rintro e w5 ⟨rfl,aN⟩;have bf:=bA w5 aN;have bx:=fa (aE.trans ((hbel.trans (aN.mono hbel.size)).mono aE.size));have hsz:s1.size+s2.size<=1000:=zo;clear aN hbel;go_wp2_with fail;refine bodyPost_ret (v:= .tuple #[xj (s1++s2),xd xh 0]) (by simp[results,results102,go_sem]) rfl ?_;have bQ:s1++s2=(⟨(iC t).toArray⟩:ByteArray):=by
  apply mw;rw[Ex,bF.out,bG.out,bB.out]
 exact⟨by rw[bQ],bx⟩
theorem qH(w:World)(J R no:Option Addr)(ac fc nc:Nat)(z:Tz)(hI:TbI w J R no ac z):
  Calls prog 102 #[.agg #[xa J z.acts.length ac,xa R z.fl.length fc,xa no z.nx.length nc]] w fun e w'=>EncP z e/\Below w.heap.size w w':=by
 by_cases hz:iS z
 ·obtain⟨t,rfl,hR⟩:=hz;have e1:t.z.fl.length=t.fl.length:=lG _;have e2:t.z.nx.length=t.fl.length:=by unfold Tb.z;simp[hR.fl]
  have e3:t.z.acts.length=t.acts.length:=rfl;have h:=zm w J R no ac fc nc t.acts.length t.fl.length t hI hR rfl rfl;rw[e1,e2,e3];exact h.mono fun e w' ⟨he,hb⟩=>⟨Or.inl ⟨t,rfl,hR,he⟩,hb⟩
 have hB:=iz w (xi #[xa J z.acts.length ac,xa R z.fl.length fc,xa no z.nx.length nc] 36);have I:=fa (ft w (xi #[xa J z.acts.length ac,xa R z.fl.length fc,xa no z.nx.length nc] 36));have U:=fa (vQ _ J R no ac fc nc z (hI.later hB));have HB:=fa hB;have HZ:=fa hz;clear hI hB hz;have c0:=cell_of_blk I 0;have c1:=cell_of_blk I 1;have c2:=cell_of_blk I 2;go_in;go_wp2_with fail;refine U.mono ?_;clear U c0 c1 c2;rintro e w1 ⟨⟨b,rfl,ad⟩,aa⟩;have aj:b=false:=by
  cases b with
  |false=>rfl
  |true=>exact absurd (ad.1 rfl) HZ
 subst aj;have ae:=fa (HB.trans (aa.mono HB.size));clear ad aa;go_wp2_with fail;refine bodyPost_ret (v:= .tuple #[xj ⟨#[]⟩,xd xh 6]) (by simp[results,results102,go_sem]) rfl ?_;exact⟨Or.inr ⟨HZ,rfl⟩,ae⟩
def Mm(cs:List Cs):List Value:=cs.flatMap fun c=>[xj c.id,xd xh (c.st:Int),xd xh (c.ev:Int)]
def LC(rd:Nat)(lo:Option Addr)(k:Nat):Prop:=k=rd\/lo=some ⟨k,0,none⟩
structure Md (w:World) (base rd:Nat) (t:Tb) (cs:List Cs) (A n ab a0 fb f0 nb n0 ac fc nc:Nat) (rb ro rc:Nat->Nat) (lo:Option Addr) (lc:Nat):Prop where
 blk:w.heap[rd]? =some (xi #[xa (some ⟨ab,a0,none⟩) A ac,xa (some ⟨fb,f0,none⟩) n fc,xa (some ⟨nb,n0,none⟩) n nc,xa lo cs.length lc] 245 (0,0))
 tb:LF w t A n ab a0 fb f0 nb n0 rb ro rc
 ls:w.ownsRow base 247 3 (xa lo cs.length lc) cs.length (Mm cs)
 nd:(cs.map (·.id)).Nodup
 st: ∀c∈cs,c.st<n
 few:cs.length<=8
 sep: ∀k,LC rd lo k->k≠ab/\k≠fb/\k≠nb/\ ∀i,i<n->k≠rb i
theorem yj: ∀(l m:List ByteArray),jl (l++m)=jl l++jl m
 |[],m=>rfl
 |a::l,m=>by rw[MK,jl,yj l m,jl];simp
theorem zb: ∀(fs I:List Nat) (l m:List (List Nat)),fs.length=l.length->iQ (fs++I) (l++m)=iQ fs l++iQ I m
 |[],I,[],m,_=>zf
 |[],_,_::_,_,h=>zv
 |_::_,_,[],_,h=>zv
 |f::fs,I,r::l,m,h=>by rw[MK,MK,iQ,zb fs I l m za,iQ];simp
def jE(l:List ByteArray):Nat:=3+(jl l).length
theorem Gq(l:List ByteArray)(a:ByteArray):jE (l++[a])=jE l+1+a.size:=by
 unfold jE;rw[rH,Ms,Ms,size_data];exact zm167
theorem GI(t:Tb)(i:Nat): ∃rest,iC t=(83::1::u8 t.acts.length::jl (t.acts.take i))++(jl (t.acts.drop i)++rest)/\rest=u8 t.nx.length::iQ t.fl t.nx++lP (iA t):=by
 refine⟨_, ?_,rfl⟩;have e:jl t.acts=jl (t.acts.take i)++jl (t.acts.drop i):=by rw[<-yj,ML]
 unfold iC;generalize lP (iA t)=q;unfold iA;simp_all
theorem Jz(t:Tb)(i:Nat):(83::1::u8 t.acts.length::jl (t.acts.take i)).length=jE (t.acts.take i):=by
 unfold jE;simp only[Mz];omega
theorem GJ(h:t.acts[i]? =some a):
  (iC t)[jE (t.acts.take i)]? =some (u8 a.size)/\((iC t).drop (jE (t.acts.take i)+1)).take a.size=a.data.toList/\jE (t.acts.take i)+1+a.size<(iC t).length:=by
 obtain⟨rest,I,h2⟩:=GI t i;have hi:=(List.getElem?_eq_some_iff.1 h).1;have R:t.acts.drop i=a::t.acts.drop (i+1):=by
  rw[MI hi];simp_all
 rw[R,jl] at I;have J:=Jz t i;have hr:1<=rest.length:=za;refine⟨?_, ?_, ?_⟩
 ·rw[I,MN zo,J,Nat.sub_self];rfl
 ·rw[I,<-J,List.drop_append,List.drop_of_length_le zo,List.nil_append];simp
 rw[I,Ms,J];simp only[Ms,Mz,size_data];omega
theorem Bg(t:Tb):(jC t 0).length=jE t.acts+1:=by
 rw[pt];unfold jM jE;rw[List.take_length];simp only[Ms,Mz,MM]
theorem tH(A:Nat): ∀(fs:List Nat) (l:List (List Nat)),fs.length=l.length->(∀r∈l,r.length=A)->(iQ fs l).length=l.length * (1+A)
 |[],[],_,_=>by simp[iQ]
 |[],_::_,h,_=>zv
 |_::_,[],h,_=>zv
 |f::fs,r::l,h,hr=>by
  rw[iQ,Mz,Ms,MH,tH A fs l za (fun q I=>hr q (List.mem_cons_of_mem _ I)),hr r (List.mem_cons_self ..),Mz,MR];omega
theorem Au(hf:t.fl.length=t.nx.length)(k:Nat):iC t=jC t k++(iQ (t.fl.drop k) (t.nx.drop k)++lP (iA t)):=by
 have e:iQ t.fl t.nx=iQ (t.fl.take k) (t.nx.take k)++iQ (t.fl.drop k) (t.nx.drop k):=by
  rw[<-zb _ _ _ _ (by simp[hf]),ML,ML]
 unfold iC;generalize lP (iA t)=q;unfold iA jC jM;simp_all
theorem EI(hf:t.fl.length=t.nx.length){k:Nat}(h1:t.fl[k]? =some f)(h2:t.nx[k]? =some r):
  (iC t)[(jC t k).length]? =some (u8 f)/\ ∀j x,r[j]? =some x->(iC t)[(jC t k).length+1+j]? =some (u8 x):=by
 have I:=(List.getElem?_eq_some_iff.1 h1).1;have J:=(List.getElem?_eq_some_iff.1 h2).1;have U:t.fl.drop k=f::t.fl.drop (k+1):=by
  rw[MI I];simp_all
 have e2:t.nx.drop k=r::t.nx.drop (k+1):=by
  rw[MI J];simp_all
 have e:=Au hf k;rw[U,e2,iQ] at e;constructor
 ·simp_all
 intro j x R;have hj:=(List.getElem?_eq_some_iff.1 R).1;rw[e,MN zo,show(jC t k).length+1+j - (jC t k).length=j+1 from zo,MK,List.getElem?_cons_succ,MV,MO za,List.getElem?_map,R];rfl
theorem EH(I:RightT t):(iC t)[jE t.acts]? =some (u8 t.nx.length)/\jE t.acts+1+t.nx.length * (1+t.acts.length)<(iC t).length:=by
 have e:=Au I.fl 0;rw[List.drop_zero,List.drop_zero] at e;have J:=Bg t;constructor
 ·rw[e,MO zo,pt];have h3:(jM t t.acts.length).length=jE t.acts:=by rw[pt,Ms] at J;simp_all
  simp_all
 rw[e,Ms,Ms,J,tH t.acts.length _ _ I.fl (fun r hr=>(I.rs r hr).1)];have:(lP (iA t)).length=2:=rfl;omega
theorem Ji(t:Tb):(iC t)[2]? =some (u8 t.acts.length):=rfl
theorem Fu(J:RightT t){k:Nat}(R:t.fl[k]? =some f)(I:t.nx[k]? =some r):(jC t (k+1)).length=(jC t k).length+1+t.acts.length:=by
 rw[tB J.fl R I];simp only[Ms,Mz,MM,MH];rw[(J.rs r (My I)).1]
theorem LV(s:ByteArray)(i j:Nat):(s.extract i j).data.toList=(s.data.toList.drop i).take (j - i):=by
 simp
theorem xV(I:RightT t): ∀{k:Nat},k<=t.nx.length->(jC t k).length=jE t.acts+1+k * (1+t.acts.length)
 |0,_=>by rw[Bg];simp
 |k+1,h=>by
  have J:k<t.fl.length:=by rw[I.fl];omega
  rw[Fu I (Mr J) (Mr h),xV I zo,MR];omega
section
variable {s : ByteArray}
def Dn(s:ByteArray)(i:Nat)(ac:List ByteArray):Prop:= ∀t,RightT t->iC t=s.data.toList->ac=t.acts.take i
theorem Dn.start(s:ByteArray):Dn s 0 []:=fun t _ _=>zf
theorem Je(hc: ∀h:2<s.size,s[2].toNat=c): ∀t,RightT t->iC t=s.data.toList->t.acts.length=c:=fun t J he=>by
 have I:=Ji t;have hl:=J.many;rw[he] at I hl;have R:2<s.size:=by rw[<-size_data];omega
 have U:s.data.toList[2]? =some s[2]:=by
  rw[Mr zo];rfl
 rw[U] at I;have h4:=hc R;rw[Option.some.inj I,ku (by have:=J.acts.n6;omega)] at h4;omega
theorem DS{k:Nat}(h:k<s.size):s.data.toList[k]? =some s[k]:=by
 rw[Mr zv];rfl
theorem Dn.inside(h:Dn s i ac)(hi:i<c)(ht:RightT t)(he:iC t=s.data.toList)(hl:t.acts.length=c): ∃a,t.acts[i]? =some a/\ac=t.acts.take i/\(∃hk:jE ac<s.size,s[jE ac].toNat=a.size)/\jE ac+1+a.size<s.size/\(s.extract (jE ac+1) (jE ac+1+a.size))=a:=by
 have I:i<t.acts.length:=zo;have J:=h t ht he;obtain⟨R,h2,U⟩:=GJ (Mr I);rw[he,<-J] at R h2 U;rw[size_data] at U;have hk:jE ac<s.size:=zo;rw[DS hk] at R;have h8:=(ht.acts.nm _ (Mw I)).n8;refine⟨_,Mr I,J,⟨hk,by rw[Option.some.inj R,ku zo]⟩,U, ?_⟩;apply mw;simp_all
theorem Dn.next(h:Dn s i ac)(hi:i<c)(hc: ∀t,RightT t->iC t=s.data.toList->t.acts.length=c)(hk:jE ac<s.size)(hn:s[jE ac].toNat=n):Dn s (i+1) (ac++[s.extract (jE ac+1) (jE ac+1+n)]):=fun t I he=>by
 obtain⟨a,J,R,⟨_,U⟩,_,h5⟩:=h.inside hi I he (hc t I he);rw[U] at hn;rw[<-hn,h5,Mu,J,<-R];rfl
theorem Dn.fail(h:Dn s i ac)(hi:i<c)(hc: ∀t,RightT t->iC t=s.data.toList->t.acts.length=c)(I: ∀J:jE ac<s.size,s.size<jE ac+1+s[jE ac].toNat):DecR s.data.toList none:=fun t R he=>by
 obtain⟨a,h1,h2,⟨J,h3⟩,h4,h5⟩:=h.inside hi R he (hc t R he);have:=I J;omega
theorem Gp(h:jE ac+1+n<=s.size):jE (ac++[s.extract (jE ac+1) (jE ac+1+n)])=jE ac+1+n:=by
 rw[Gq,ByteArray.size_extract];omega
theorem yw(h:Dn s c ac)(hc: ∀t,RightT t->iC t=s.data.toList->t.acts.length=c)(ht:RightT t)(he:iC t=s.data.toList):ac=t.acts/\(∃U:jE ac<s.size,s[jE ac].toNat=t.nx.length)/\jE ac+1+t.nx.length * (1+ac.length)<s.size:=by
 have I:ac=t.acts:=by rw[h t ht he,Mt za]
 obtain⟨J,R⟩:=EH ht;rw[he,<-I] at J R;rw[size_data] at R;have U:jE ac<s.size:=zo;rw[DS U] at J;exact⟨I,⟨U,by rw[Option.some.inj J,ku (by have:=ht.n100;omega)]⟩,R⟩
theorem qU(h:Dn s c ac)(hc: ∀t,RightT t->iC t=s.data.toList->t.acts.length=c)(I: ∀J:jE ac<s.size,s.size<jE ac+1+s[jE ac].toNat * (1+ac.length)):DecR s.data.toList none:=fun t U he=>by
 obtain⟨_,⟨J,R⟩,h2⟩:=yw h hc U he;have:=I J;rw[R] at this;omega
def Ds(s:ByteArray)(ac:List ByteArray)(n i:Nat)(fl:List Nat)(nx:List (List Nat)):Prop:= ∀t,RightT t->iC t=s.data.toList->ac=t.acts/\t.nx.length=n/\fl=t.fl.take i/\nx=t.nx.take i
theorem Ds.start(h:Dn s c ac)(hc: ∀t,RightT t->iC t=s.data.toList->t.acts.length=c)(hn: ∀I:jE ac<s.size,s[jE ac].toNat=n):Ds s ac n 0 [] []:=fun t U he=>by
 obtain⟨J,⟨I,R⟩,_⟩:=yw h hc U he;exact⟨J,by rw[<-R];exact hn I,zf,zf⟩
theorem Ds.at_(h:Ds s ac n i fl nx)(hi:i<n)(J:RightT t)(he:iC t=s.data.toList): ∃f r,t.fl[i]? =some f/\t.nx[i]? =some r/\r.length=ac.length/\s.data.toList[jE ac+1+i * (1+ac.length)]? =some (u8 f)/\f<=3/\ ∀j x,r[j]? =some x->s.data.toList[jE ac+1+i * (1+ac.length)+1+j]? =some (u8 x)/\x<256:=by
 obtain⟨U,h2,_,_⟩:=h t J he;have I:i<t.nx.length:=zo;have R:i<t.fl.length:=by rw[J.fl];omega
 obtain⟨k1,k2⟩:=EI J.fl (Mr R) (Mr I);rw[he,xV J (Nat.le_of_lt I),<-U] at k1;have hr:=J.rs _ (Mw I);refine⟨_,_,Mr R,Mr I,za,k1,J.fs _ (Mw R),fun j x hx=>⟨?_, ?_⟩⟩
 ·have:=k2 j x hx;rw[he,xV J (Nat.le_of_lt I),<-U] at this;omega
 have:=hr.2 x (My hx);have:=J.n100;omega
def Dr(s:ByteArray)(ac:List ByteArray)(i a f:Nat)(q:List Nat):Prop:= ∀t,RightT t->iC t=s.data.toList->t.fl[i]? =some f/\ ∃r,t.nx[i]? =some r/\q=r.take a
theorem Dr.start(h:Ds s ac n i fl nx)(hi:i<n){p:Nat}(U:p=jE ac+1+i * (1+ac.length))(R:p<s.size):Dr s ac i 0 s[p].toNat []:=fun t ht he=>by
 subst U;obtain⟨f,r,h1,J,_,I,h5,_⟩:=h.at_ hi ht he;rw[DS R] at I;exact⟨by rw[Option.some.inj I,ku zo];omega,r,J,zf⟩
theorem Dr.next{a:Nat}(h:Ds s ac n i fl nx)(hi:i<n)(hd:Dr s ac i a f q)(ha:a<ac.length){p:Nat}(hp:p=jE ac+1+i * (1+ac.length)+1+a)(hk:p<s.size):Dr s ac i (a+1) f (q++[s[p].toNat]):=fun t U he=>by
 subst hp;obtain⟨f',r,h1,R,h3,_,_,h6⟩:=h.at_ hi U he;obtain⟨k1,r',k2,k3⟩:=hd t U he;rw[R] at k2;cases k2;have I:a<r.length:=zo;obtain⟨J,e2⟩:=h6 a r[a] (Mr I);rw[DS hk] at J;refine⟨k1,r,R, ?_⟩;rw[Mu,Mr I,k3,Option.some.inj J,ku e2];rfl
theorem Ds.next(h:Ds s ac n i fl nx)(hi:i<n)(hd:Dr s ac i ac.length f q):Ds s ac n (i+1) (fl++[f]) (nx++[q]):=fun t I he=>by
 obtain⟨J,R,U,h4⟩:=h t I he;obtain⟨k1,r,k2,k3⟩:=hd t I he;have hr:=(I.rs r (My k2)).1;refine⟨J,R,by rw[Mu,k1,U];rfl, ?_⟩;have e:r.take ac.length=r:=Mt za;rw[Mu,k2,h4,k3,e];rfl
theorem Ds.done(h:Ds s ac n n fl nx): ∀t,RightT t->iC t=s.data.toList->t=⟨ac,fl,nx⟩:=fun t I he=>by
 obtain⟨h1,J,R,U⟩:=h t I he;rw[Mt (by rw[I.fl,J];simp)] at R;rw[Mt zo] at U;simp_all
end
structure DcP (w W:World) (tb:Nat) (A F X:Value) (t:Tb) (rv:List Value):Prop where
 res:W.heap[w.heap.size]? =some (xi #[xa none 0 0,xa none 0 0,xa none 0 0] 36 (0,0))
 blk:W.heap[tb]? =some (xi #[A,F,X] 36 (0,0))
 htb:w.heap.size<tb
 tab:TbV W w.heap.size A F X t rv
 bel:Below w.heap.size w W
section
variable {w W W' : World} {tb : Nat} {A F X : Value} {t : Tb} {rv : List Value}
theorem DcP.later(h:DcP w W tb A F X t rv)(I:Below W.heap.size W W'):DcP w W' tb A F X t rv:=
 ⟨(I.block _ (fh h.res)).trans h.res,(I.block _ (fh h.blk)).trans h.blk,h.htb,h.tab.later I,h.bel.trans (I.mono h.bel.size)⟩
theorem DcP.own(h:DcP w W tb A F X t rv){e z:Nat}(U:W.ownsRow w.heap.size e z v n xs)(hg:W.grownBy W' v.ownBlock)(he:e≠36)(ht:TbV W' w.heap.size A' F' X' t' rv')(i:Nat)(x:Value)(hc:(#[A,F,X]:Array Value).setIfInBounds i x= #[A',F',X']):DcP w (W'.setCell ⟨tb,i,none⟩ x) tb A' F' X' t' rv':=by
 have h1:=(hg.block _ (fh h.res) (fun I=>gp U I.symm h.res (fun J=>he J.symm))).trans h.res;have h2:=(hg.block _ (fh h.blk) (fun I=>gp U I.symm h.blk (fun J=>he J.symm))).trans h.blk;have R:=h.bel.grown hg h.bel.size (fun b R=>(gG U b R).1);have htb:=h.htb;refine⟨(MU _ _ _ _ (by show w.heap.size≠tb;omega)).trans h1, ?_,htb,ht.cellO h2 zp i x,R.setCell (p:=⟨tb,i,none⟩) (by show _<=tb;omega) _⟩;have:=fj h2 i x;simp_all
theorem DcP.act(h:DcP w W tb A F X t rv){s:ByteArray}(ho:W'.ownsRow w.heap.size 9 1 A' (t.acts.length+1) (jK t.acts++[xj s]))(hg:W.grownBy W' A.ownBlock):DcP w (W'.setCell ⟨tb,0,none⟩ A') tb A' F X ⟨t.acts++[s],t.fl,t.nx⟩ rv:=
 h.own h.tab.acts hg zp (h.tab.act ho hg) 0 A' rfl
theorem DcP.flag(h:DcP w W tb A F X t rv)(ho:W'.ownsRow w.heap.size 3 1 F' (t.fl.length+1) (gU t.fl++[xd xh (f:Int)]))(hg:W.grownBy W' F.ownBlock)(I:F'.ownBlock=some g')(J:F.ownBlock=some g'\/W.heap.size<=g'):DcP w (W'.setCell ⟨tb,1,none⟩ F') tb A F' X ⟨t.acts,t.fl++[f],t.nx⟩ rv:=
 h.own h.tab.fl hg zp (h.tab.flag ho hg I J) 1 F' rfl
theorem DcP.row(h:DcP w W tb A F X t rv)(I:RwU W w.heap.size F rv v q)(ho:W'.ownsRow w.heap.size 33 1 X' (t.nx.length+1) (rv++[v]))(hg:W.grownBy W' X.ownBlock):DcP w (W'.setCell ⟨tb,2,none⟩ X') tb A F X' ⟨t.acts,t.fl,t.nx++[q]⟩ (rv++[v]):=
 h.own h.tab.nx hg zp (h.tab.row I ho hg) 2 X' rfl
theorem DcP.num(h:DcP w W tb A F X t rv)(I:RwU W w.heap.size F rv v q)(ho:W'.ownsRow w.heap.size 3 1 v' (q.length+1) (gU q++[xd xh (x:Int)]))(hg:W.grownBy W' v.ownBlock)(U:v'.ownBlock=some g')(R:v.ownBlock=some g'\/W.heap.size<=g'):
  DcP w W' tb A F X t rv/\RwU W' w.heap.size F rv v' (q++[x]):=by
 obtain⟨t1,u1⟩:=h.tab.num I ho hg U R;exact⟨⟨(hg.block _ (fh h.res) (fun J=>gp I.own J.symm h.res zp)).trans h.res,(hg.block _ (fh h.blk) (fun J=>gp I.own J.symm h.blk zp)).trans h.blk,h.htb,t1,h.bel.grown hg h.bel.size (fun b hb=>(gG I.own b hb).1)⟩,u1⟩
end
theorem Ej(w:World)(I J no:Option Addr)(R ac nf fc nn nc:Nat)(z:Tz)(hI:TbI w I J no ac z)(U:z.acts.length=R)(h2:z.fl.length=nf)(h3:z.nx.length=nn):
  Calls prog 102 #[.agg #[xa I R ac,xa J nf fc,xa no nn nc]] w fun e w'=>EncP z e/\Below w.heap.size w w':=by
 subst U h2 h3;exact qH w I J no ac fc nc z hI
theorem BN(w:World)(b:ByteArray):
  Calls prog 145 #[xj b] w fun e w'=> ∃o,DecR b.data.toList o/\oZ KP w o w' e:=by
 have aq:=iz w (xi #[xa none 0 0,xa none 0 0,xa none 0 0] 36);have bn:=fa aq;have bz:=fa (ft w (xi #[xa none 0 0,xa none 0 0,xa none 0 0] 36));clear aq;by_cases hbad:1000<b.size\/b.size<3
 ·have HFAIL:Hid (DecR b.data.toList none):=fun t ht he=>by
   have h1:=ht.few;have h2:=ht.many;rw[he,size_data] at h1 h2;omega
  have bd:(1000<(b.size:Int))\/¬ (1000<(b.size:Int))/\(b.size:Int)<3:=zo;clear hbad;go_in;rcases bd with hd|⟨hd,h3⟩
  all_goals (
   go_wp2_with fail;generalize w.alloc (xi #[xa none 0 0,xa none 0 0,xa none 0 0] 36)=wr at *;have fcc:=cell_of_blk bz;refine bodyPost_ret (v:= .tuple #[.agg #[xa none 0 0,xa none 0 0,xa none 0 0],xd xh 6]) (by simp[results,results145,go_sem,fcc]) rfl ?_;exact⟨none,HFAIL,bn,rfl⟩)
 have h1000:¬ 1000<(b.size:Int):=zo;have h3:¬ (b.size:Int)<3:=zo;have h2s:2<b.size:=zo;have h2i:(2:Int)<(b.size:Int):=zo;have hbl:b.size<=1000:=zo;have aV:DcP w ((w.alloc (xi #[xa none 0 0,xa none 0 0,xa none 0 0] 36)).alloc (xi #[xa none 0 0,xa none 0 0,xa none 0 0] 36)) (w.heap.size+1) (xa none 0 0) (xa none 0 0) (xa none 0 0) ⟨[],[],[]⟩ []:=
  ⟨(MY _ _ _ zp).trans (ft _ _),fk _ _ _ zp,zo,⟨MD _ _ _ _,MD _ _ _ _,MD _ _ _ _,fun j r hr=>zv,fun v hv=>zv,List.Pairwise.nil⟩,gz.alloc zp _⟩
 have bo:=fa aV;have HC:=fa (Je (s:=b) (c:=b[2].toNat) (fun _=>rfl));have hcl:b[2].toNat<=255:=by have:=b[2].toNat_lt;omega
 clear hbad aV bn bz;go_in;go_wp2_with fail;generalize ((w.alloc (xi #[xa none 0 0,xa none 0 0,xa none 0 0] 36)).alloc (xi #[xa none 0 0,xa none 0 0,xa none 0 0] 36))=W0 at *
 go_loopw [5,6] (fun y x wr=> ∃(i p:Nat) (ao:Option Addr) (ac:Nat) (l:List ByteArray),y=xd xh p/\x=xd xh i/\i<=b[2].toNat/\p<=b.size/\Hid (DcP w wr (w.heap.size+1) (xa ao i ac) (xa none 0 0) (xa none 0 0) ⟨l,[],[]⟩ [])/\Hid (l.length=i)/\Hid (Dn b i l)/\Hid (p=jE l)) (fun _ x _=>b[2].toNat - (intOf x).toNat)
 ·exact⟨0,3,none,0,[],rfl,rfl,Mx _,zo,bo,rfl,Dn.start b,rfl⟩
 obtain⟨i,p,ao,ac,l,rfl,rfl,hic,hpb,HD,HL,aC,HP⟩:=hrel;have tc:=cell_of_blk HD.blk;have tl:=fh HD.blk;by_cases hlt:i<b[2].toNat
 ·have cj:(i:Int)<(b[2].toNat:Int):=zo;by_cases hp:p<b.size
  ·have bg:¬ (b.size:Int)<=(p:Int):=zo;have cm:(p:Int)<(b.size:Int):=zo;have bF:b[p].toNat<=255:=by have:=b[p].toNat_lt;omega
   by_cases hn:p+1+b[p].toNat<=b.size
   ·have bf:¬ (b.size:Int)<(p:Int)+1+(b[p].toNat:Int):=zo;have b3:Hid (wr.ownsRow w.heap.size 9 1 (xa ao i ac) i (jK l)):=by
     have h1:=HD.tab.acts;rw[HL.out] at h1;exact h1
    have aR:Hid (Dn b (i+1) (l++[b.extract (p+1) (p+1+b[p].toNat)])):=by
     have aa:=HP.out;subst aa;exact aC.next hlt HC hp rfl
    have bx:Hid (p+1+b[p].toNat=jE (l++[b.extract (p+1) (p+1+b[p].toNat)])):=by
     have aa:=HP.out;subst aa;exact(Gp hn).symm
    obtain⟨x,hx⟩: ∃x,b.extract (p+1) (p+1+b[p].toNat)=x:=⟨_,rfl⟩;rw[hx] at aR bx;have bK:IntKind.i64.wrap ((p:Int)+1)=(p:Int)+1:=by rw[IntKind.wrap_i64];omega
    have hs0:(0:Int)<=(p:Int)+1+(b[p].toNat:Int):=zo;have hs1:(0:Int)<=(p:Int)+1:=zo;have hs2:(p:Int)+1<=(p:Int)+1+(b[p].toNat:Int):=zo;have hs3:((p:Int)+1+(b[p].toNat:Int)).toNat=p+1+b[p].toNat:=zo;have aX:IntKind.i64.wrap ((p:Int)+1+(b[p].toNat:Int))=(p:Int)+1+(b[p].toNat:Int):=by rw[IntKind.wrap_i64];omega
    go_wp2_with fail;have au:Below wr.heap.size wr (wr.alloc (xi #[xj x] 9)).drew:=gz.drew;have aL:=Nat.le_trans HD.bel.size au.size;refine wp_region_held_drew (S:=fun _=>True) zk ?_ (fun I=> ?_)
    ·simp
    apply zt1 0 (xk (some ⟨w.heap.size+1,0,none⟩)) I;apply zt1 2 (xj b) I;apply zt1 3 (xd xh (p:Int)) I;apply zt5 4 (xd xh ((p:Int)+1)) I;apply zt1 5 (xd xh (p:Int)) I;apply zt5 6 (xd xh ((p:Int)+1)) I;apply zt1 7 (xd xh (b[p].toNat:Int)) I;apply zt5 8 (xd xh ((p:Int)+1+b[p].toNat)) I;apply zt5 9 (xj x) I;refine zrH2 1 10 (fun K U=> ?ra) fun K U=> ?rb
    case' ra=>(go_simp;refine U _ _ I (fun I=> ?_);clear U K;apply zrH 10;intro K U;go_simp;refine U _ _ trivial (fun I=> ?_);clear U K)
    case' rb=>(go_simp;refine U _ _ trivial (fun I=> ?_);clear U K;apply zrH 1;intro K U;go_simp;refine U _ _ I (fun I=> ?_);clear U K)
    all_goals (
     apply zrH 11;intro K U;refine DY zf _ _ 25 zf w.heap.size 9 AK rfl underlying25 (v:= xa ao i ac) (n:=i) (xs:=jK l) zf (H:=wr.heap.size) (xj x) zf rfl (fL b3 au) (ft wr _) zo aL ?_;intro g4 ae w4 an ag ay;have R:=ag;have J:=HD.later au;have ad:=(R.block _ (fh J.blk) (fun e=>gp J.tab.acts e.symm J.blk zp)).trans J.blk;have bh:=cell_of_blk ad 0;have bj:=fi ad 0;have a7:=fa (J.act (A':= xa (some ⟨g4,0,none⟩) (i+1) ae) (s:=x) (by show MT _ _ _ _ _ (l.length+1) _;rw[HL.out];exact an) R);refine U _ _ trivial (fun I=> ?_);clear U K;clear an ag ay R J ad tc tl;apply zt1 12 (xk (some ⟨w.heap.size+1,0,none⟩)) I;apply zrH 13;intro K U;go_simp;refine U _ _ trivial (fun I=> ?_);clear U K;refine wpAnyH_done zk ?_ _;clear I;clear bh bj au aL;go_wp2
     go_roundw
     case rel=>exact⟨i+1,p+1+b[p].toNat,some ⟨g4,0,none⟩,ae,l++[x],zf,zf,zo,hn,a7,by show _=_;rw[Ms,HL.out];rfl,aR,bx⟩
     case measure=>simp[intOf];omega
     )
   have bf:(b.size:Int)<(p:Int)+1+(b[p].toNat:Int):=zo;have HFAIL:Hid (DecR b.data.toList none):=by
    have aa:=HP.out;subst aa;exact aC.fail hlt HC (fun _=>zo)
   have HB:=fa HD.bel;have HRS:=fa HD.res;have rc:=cell_of_blk HRS;have rf:=fi HRS;exact zm14
  have bg:(b.size:Int)<=(p:Int):=zo;have HFAIL:Hid (DecR b.data.toList none):=by
   have aa:=HP.out;subst aa;exact aC.fail hlt HC (fun h=>absurd h hp)
  have HB:=fa HD.bel;have HRS:=fa HD.res;have rc:=cell_of_blk HRS;have rf:=fi HRS;exact zm14
 have cj:¬ (i:Int)<(b[2].toNat:Int):=zo;have bH:i=b[2].toNat:=zo;have a6:Hid (∀t,RightT t->iC t=b.data.toList->t.acts.length=i):=by show ∀t,_;rw[bH];trivial
 have hi255:i<=255:=zo;clear bH HC;have HB:=fa HD.bel;have HRS:=fa HD.res;have rc:=cell_of_blk HRS;have rf:=fi HRS;by_cases hp:p<b.size
 ·have bg:decide ((b.size:Int)<=(p:Int))=false:=decide_eq_false zo;have cm:(p:Int)<(b.size:Int):=zo;have bF:b[p].toNat<=255:=by have:=b[p].toNat_lt;omega
  have hmul:b[p].toNat * (1+i)<=255 * 256:=Nat.mul_le_mul bF zo;have ck:(b[p].toNat:Int) * (1+(i:Int))=((b[p].toNat * (1+i):Nat):Int):=zf;have HM:Hid (∀k,k<b[p].toNat->k * (1+i)+(1+i)<=b[p].toNat * (1+i)):=fun k hk=>by
   have:=Nat.mul_le_mul_right (1+i) (show k+1<=b[p].toNat from hk);rw[MR,Nat.one_mul] at this;omega
  have a8:=fa (fun h=>qU aC a6 h);have bX:Hid (Ds b l b[p].toNat 0 [] []):=by
   have aa:=HP.out;subst aa;exact Ds.start aC a6 (fun _=>rfl)
  generalize hme:b[p].toNat * (1+i)=m at *;have hwr0:IntKind.i64.wrap (b[p].toNat:Int)=(b[p].toNat:Int):=by rw[IntKind.wrap_i64];omega
  have cl:¬ b.size<=p:=zo;have bK:IntKind.i64.wrap ((p:Int)+1)=(p:Int)+1:=by rw[IntKind.wrap_i64];omega
  have aX:IntKind.i64.wrap (1+(i:Int))=1+(i:Int):=by rw[IntKind.wrap_i64];omega
  have bL:IntKind.i64.wrap (m:Int)=(m:Int):=by rw[IntKind.wrap_i64];omega
  have bM:IntKind.i64.wrap ((p:Int)+1+(m:Int))=(p:Int)+1+(m:Int):=by rw[IntKind.wrap_i64];omega
  have bY:=fa hme;clear hme;by_cases hn:p+1+m<=b.size
  ·have bf:decide ((b.size:Int)<(p:Int)+1+(m:Int))=false:=decide_eq_false zo;clear a8;go_wp2;go_quiet (fail);go_wp2_with fail;have bW:=fa (HD.later (jA wr nq));generalize wr.drewN nq=wd at *;clear rc rf tc tl HB HRS HD aX bL bM ck;have bZ:Hid (([]:List Nat).length=0/\([]:List (List Nat)).length=0/\ ∀q∈([]:List (List Nat)),q.length=i):=⟨rfl,rfl,fun q hq=>(MG hq).elim⟩
   rename World=>w0'
   go_loopw [5,9] (fun y x wr=> ∃(k r:Nat) (fo:Option Addr) (fc:Nat) (xo:Option Addr) (xc:Nat) (fl:List Nat) (nx:List (List Nat)) (rv:List Value),y=xd xh r/\x=xd xh k/\k<=b[p].toNat/\Hid (r=p+1+k * (1+i))/\Hid (DcP w wr (w.heap.size+1) (xa ao i ac) (xa fo k fc) (xa xo k xc) ⟨l,fl,nx⟩ rv)/\Hid (fl.length=k/\nx.length=k/\ ∀q∈nx,q.length=i)/\Hid (Ds b l b[p].toNat k fl nx)) (fun _ x _=>b[p].toNat - (intOf x).toNat)
   ·exact⟨0,p+1,none,0,none,0,[],[],[],zf,rfl,Mx _,by show _=_;omega,bW,bZ,bX⟩
   obtain⟨k,r,fo,fc,xo,xc,fl,nx,rv,rfl,rfl,hkn',HR,ak,ai,aw⟩:=hrel;by_cases hkl:k<b[p].toNat
   ·have ch:(k:Int)<(b[p].toNat:Int):=zo;have hrb:r+1+i<=b.size:=by have h1:=HR.out;have h2:=HM k hkl;omega
    have cq:r<b.size:=zo;have hri:(r:Int)<(b.size:Int):=zo;have hbr:b[r].toNat<=255:=by have:=b[r].toNat_lt;omega
    have hwr5:IntKind.i64.wrap (b[r].toNat:Int)=(b[r].toNat:Int):=by rw[IntKind.wrap_i64];omega
    have br:Hid (Dr b l k 0 b[r].toNat []):=by
     refine Dr.start aw hkl ?_ cq;rw[HL.out,<-HP.out];trivial
    have b4:Hid (wr.ownsRow w.heap.size 3 1 (xa fo k fc) k (gU fl)):=by
     have h1:=ak.tab.fl;rw[ai.1] at h1;exact h1
    have tc:=cell_of_blk ak.blk;have tl:=fh ak.blk;go_wp2_with fail;have au:Below wr.heap.size wr (wr.alloc (xi #[xd xh (b[r].toNat:Int)] 3)).drew:=gz.drew;have aL:=Nat.le_trans ak.bel.size au.size;refine wp_region_held_drew (S:=fun _=>True) zk ?_ (fun I=> ?_)
    ·simp
    apply zt1 0 (xk (some ⟨w.heap.size+1,1,none⟩)) I;apply zt1 2 (xj b) I;apply zt1 3 (xd xh (r:Int)) I;apply zt5 4 (xd .u8 (b[r].toNat:Int)) I;apply zt5 5 (xd xh (b[r].toNat:Int)) I;refine zrH2 1 6 (fun K U=> ?rax) fun K U=> ?rbx
    case' rax=>(go_simp;refine U _ _ I (fun I=> ?_);clear U K;apply zrH 6;intro K U;go_simp;refine U _ _ trivial (fun I=> ?_);clear U K)
    case' rbx=>(go_simp;refine U _ _ trivial (fun I=> ?_);clear U K;apply zrH 1;intro K U;go_simp;refine U _ _ I (fun I=> ?_);clear U K)
    all_goals (
     apply zrH 7;intro K U;refine DY zf _ _ 33 zf w.heap.size 3 mX rfl underlying33 (v:= xa fo k fc) (n:=k) (xs:=gU fl) zf (H:=wr.heap.size) (xd xh (b[r].toNat:Int)) zf rfl (fL b4 au) (ft wr _) zo aL ?_;intro g4 ae w4 an ag ay;have R:=ag;have J:=ak.later au;have ad:=(R.block _ (fh J.blk) (fun e=>gp J.tab.fl e.symm J.blk zp)).trans J.blk;have bh:=cell_of_blk ad 1;have bj:=fi ad 1;have a7:=fa (J.flag (F':= xa (some ⟨g4,0,none⟩) (k+1) ae) (f:=b[r].toNat) (by show MT _ _ _ _ _ (fl.length+1) _;rw[ai.1];exact an) R rfl ay);refine U _ _ trivial (fun I=> ?_);clear U K;clear an ag ay R J ad tc tl;apply zt5 8 (xk (some ⟨w.heap.size+1,1,none⟩)) I;apply zrH 9;intro K U;go_simp;refine U _ _ trivial (fun I=> ?_);clear U K;refine wpAnyH_done zk ?_ _;clear bh bj au aL I;go_wp2_with fail;generalize w4.setCell ⟨w.heap.size+1,1,none⟩ (xa (some ⟨g4,0,none⟩) (k+1) ae)=w5 at *;generalize b[r].toNat=f at *;have b':=fa (RwU.start w5 w.heap.size (xa (some ⟨g4,0,none⟩) (k+1) ae) rv)
     rename World=>w6'
     go_loopw [5,10,11] (fun y v x wr=> ∃(a:Nat) (vo:Option Addr) (vc:Nat) (q:List Nat),y=xd xh ((r+1+a:Nat))/\v=xa vo a vc/\x=xd xh a/\a<=i/\Hid (DcP w wr (w.heap.size+1) (xa ao i ac) (xa (some ⟨g4,0,none⟩) (k+1) ae) (xa xo k xc) ⟨l,fl++[f],nx⟩ rv)/\Hid (RwU wr w.heap.size (xa (some ⟨g4,0,none⟩) (k+1) ae) rv (xa vo a vc) q)/\Hid (q.length=a)/\Hid (Dr b l k a f q)) (fun _ _ x _=>i - (intOf x).toNat)
     case atStart=>exact⟨0,none,0,[],zf,rfl,rfl,Mx _,a7,b',rfl,br⟩
     case round=>
      obtain⟨a,vo,vc,q,rfl,rfl,rfl,hai,ar,HU,HQ,bq⟩:=hrel;have bQ:=cell_of_blk ar.blk 0;rcases zc a i with⟨hal,han⟩|⟨hal,han⟩
      ·have cn:r+1+a<b.size:=zo;have hpli:((r+1+a:Nat):Int)<(b.size:Int):=zo;have hbp:b[r+1+a].toNat<=255:=by have:=b[r+1+a].toNat_lt;omega
       have bt:Hid (Dr b l k (a+1) f (q++[b[r+1+a].toNat])):=by
        refine Dr.next aw hkl bq (by rw[HL.out];omega) ?_ cn;rw[HL.out,<-HP.out,<-HR.out]
       have hwr6:IntKind.i64.wrap (b[r+1+a].toNat:Int)=(b[r+1+a].toNat:Int):=by rw[IntKind.wrap_i64];omega
       generalize aa:r+1+a=pp at *;have hpb2:pp<=1000:=zo;have b6:=fa aa;clear aa
       go_wp2_with (at_builtin;go_must (refine rJ rfl _ _ 33 rfl _ w.heap.size 3 mX rfl underlying33 (n:=a) (xs:=gU q) rfl (xd xh (b[pp].toNat:Int)) rfl rfl ?y0 zo ar.bel.size (by first|rfl|simp[MJ]) ?_))
       case y0=>have h1:=HU.own;rw[HQ.out] at h1;exact h1
       intro g9 ax w9 aK aE az;have aq:=iz wr (xi #[xd xh (b[pp].toNat:Int)] 3);obtain⟨bC,bD⟩:=(ar.later aq).num (HU.later aq) (x:=b[pp].toNat) (by rw[HQ.out];exact aK) aE rfl (az.imp id (fun h=>zs));have a':=fa bC;have ca:=fa bD;clear aK aE az aq bC bD ar HU bQ;go_wp2
       go_roundw
       ·exact⟨a+1,some ⟨g9,0,none⟩,ax,q++[b[pp].toNat],by rw[show r+1+(a+1)=pp+1 from by have:=b6.out;omega];rfl,rfl,zf,zo,a',ca,by show _=_;rw[Ms,HQ.out];rfl,bt⟩
       simp[intOf];omega
      ·have cb:a=i:=zo;subst cb;have bu:=fa (Ds.next aw hkl (by rw[HL.out];exact bq));have hnk:k<=255:=zo;have ct:=cell_of_blk ar.blk 2
       go_wp2_with (at_builtin;go_must (refine rJ rfl _ _ 34 rfl _ w.heap.size 33 qX rfl underlying34 (n:=k) (xs:=rv) rfl (xa vo a vc) rfl rfl ?z0 zo ar.bel.size (by first|rfl|simp[MJ]) ?_))
       case z0=>have h1:=ar.tab.nx;rw[ai.2.1] at h1;exact h1
       intro g9 ax w9 aK aE az;have aq:=iz wr (xi #[xa vo a vc] 33);have J:=ar.later aq;have a':=fa (J.row (HU.later aq) (X':= xa (some ⟨g9,0,none⟩) (k+1) ax) (by show MT _ _ _ _ _ (nx.length+1) _;rw[ai.2.1];exact aK) aE);have av:=(aE.block _ (fh J.blk) (fun e=>gp J.tab.nx e.symm J.blk zp)).trans J.blk;have tc9:=cell_of_blk av 2;have tf9:=fi av 2;have bw:Hid ((fl++[f]).length=k+1/\(nx++[q]).length=k+1/\ ∀q'∈nx++[q],q'.length=a):=by
        refine⟨by rw[Ms,ai.1];rfl,by rw[Ms,ai.2.1];rfl,fun q' cp=> ?_⟩;rcases List.mem_append.1 cp with h|h
        ·exact ai.2.2 q' h
        rw[List.mem_singleton.1 h];exact HQ
       have b8:Hid (r+1+a=p+1+(k+1) * (1+a)):=by show _=_;rw[MR,Nat.one_mul];have:=HR.out;omega
       clear aK aE az aq J av ar HU bQ ct;go_wp2
       go_roundw
       ·exact⟨k+1,r+1+a,some ⟨g4,0,none⟩,ae,some ⟨g9,0,none⟩,ax,fl++[f],nx++[q],rv++[xa vo a vc],rfl,zf,zo,b8,a',bw,bu⟩
       case measure=>simp[intOf];omega
     )
   have ch:¬ (k:Int)<(b[p].toNat:Int):=zo;have aF:Hid (∀t,RightT t->iC t=b.data.toList->t=⟨l,fl,nx⟩):=by
    have cg:k=b[p].toNat:=zo;have h1:=aw.out;rw[<-cg] at h1;exact h1.done
   have aU:=fa (ak.tab.read ⟨by show l.length<=1000;rw[HL.out];omega,by show nx.length<=1000;rw[ai.2.1];omega,by show fl.length<=1000;rw[ai.1];omega,fun q hq=>by rw[ai.2.2 q hq];omega⟩);have aT:=fa (Ej wr ao fo xo i ac k fc k xc (⟨l,fl,nx⟩:Tb).z aU.1 HL (by show(zI fl).length=k;unfold zI;rw[MH];exact ai.1) (by show(nx.map zI).length=k;rw[MH];exact ai.2.1));have bN:=cell_of_blk ak.blk 0;have bO:=cell_of_blk ak.blk 1;have bP:=cell_of_blk ak.blk 2;go_wp2_with fail;refine aT.mono ?_;rintro e w7 ⟨bG,bE⟩;have aB:=fa (ak.later bE);have HB:=fa aB.bel;have HRS:=fa aB.res;have rc:=cell_of_blk HRS;have rf:=fi HRS;clear aT aU ak bN bO bP bE
   rename World=>wr
   rcases bG with⟨t,hz,hRt,rfl⟩|⟨hnr,rfl⟩
   ·have bJ:=(Tb.z_inj hz).symm;obtain⟨eb,bc⟩: ∃eb:ByteArray,eb=⟨(iC t).toArray⟩:=⟨_,rfl⟩;have aW:eb.data.toList=iC t:=by rw[bc]
    rw[<-bc];have ba:=fa bJ;have bA:=fa hRt;have aS:=fa aW;clear bJ hRt aW bc hz;by_cases heq:eb=b
    ·have cc:(eb.toList==b.toList)=true:=za;have b5:Hid (DecR b.data.toList (some ⟨l,fl,nx⟩)):=by
      rw[<-ba.out];exact⟨bA,by rw[<-aS.out,heq]⟩
     have cd:1<=i:=by
      have h1:=bA.acts.n1;rw[ba.out] at h1;have h2:=h1;rw[HL.out] at h2;omega
     have b9:=fa (aB.tab.toW (fun q hq=>by rw[ai.2.2 q hq];omega));have bN:=cell_of_blk aB.blk 0;have bO:=cell_of_blk aB.blk 1;have bP:=cell_of_blk aB.blk 2;clear heq cd;go_wp2_with fail;have hfin:=iZ HRS (xa ao i ac) (xa fo k fc) (xa xo k xc);have hbf:=iR HB (ME _) (xa ao i ac) (xa fo k fc) (xa xo k xc);have cr:=nw HRS b9 (A':= xa ao i ac) (F':= xa fo k fc) (X':= xa xo k xc);change bodyPost _ _ _ _ _ (iV wr w.heap.size (xa ao i ac) (xa fo k fc) (xa xo k xc));generalize iV wr w.heap.size (xa ao i ac) (xa fo k fc) (xa xo k xc)=wf at *;have fcc:=cell_of_blk hfin;refine bodyPost_ret (v:= .tuple #[.agg #[xa ao i ac,xa fo k fc,xa xo k xc],xd xh 0]) (by simp[results,results145,go_sem,fcc]) rfl ?_;exact⟨some ⟨l,fl,nx⟩,b5,hbf,_,_,_,rv,rfl,cr⟩
    have cc:=ve heq;have HFAIL:=fa (fun t' aQ aJ=>by
     have h1:=aF t' aQ aJ;rw[<-ba.out] at h1;rw[h1,<-aS.out] at aJ;exact heq (mw aJ))
    exact zm14
   have HFAIL:=fa (fun t' aQ aJ=>by
    have h1:=aF t' aQ aJ;exact hnr ⟨t',by rw[h1],aQ⟩)
   exact zm14
  have bf:decide ((b.size:Int)<(p:Int)+1+(m:Int))=true:=decide_eq_true zo;have hn2:(b.size:Int)<(p:Int)+1+(m:Int):=zo;have HFAIL:Hid (DecR b.data.toList none):=by
   refine a8 (fun hk=> ?_);have aa:=HP.out;subst aa;rw[HL.out,bY.out];omega
  clear a8;go_wp2;go_quiet (fail);go_wp2_with fail;have aH:=fa (((jA wr nq).block _ (fh HRS)).trans HRS);have aY:=fa (HB.trans ((jA wr nq).mono HB.size));generalize wr.drewN nq=wd at *;have hfin:=iZ aH (xa none 0 0) (xa none 0 0) (xa none 0 0);have hbf:=iR aY (ME _) (xa none 0 0) (xa none 0 0) (xa none 0 0);change bodyPost _ _ _ _ _ (iV wd w.heap.size (xa none 0 0) (xa none 0 0) (xa none 0 0));generalize iV wd w.heap.size (xa none 0 0) (xa none 0 0) (xa none 0 0)=wf at *;exact zm24
 have bg:decide ((b.size:Int)<=(p:Int))=true:=decide_eq_true zo;have cl:b.size<=p:=zo;have HFAIL:Hid (DecR b.data.toList none):=by
  have aa:=HP.out;subst aa;exact qU aC a6 (fun h=>absurd h hp)
 go_wp2;go_quiet (fail);go_wp2_with fail;have aH:=fa (((jA wr nq).block _ (fh HRS)).trans HRS);have aY:=fa (HB.trans ((jA wr nq).mono HB.size));generalize wr.drewN nq=wd at *;have hfin:=iZ aH (xa none 0 0) (xa none 0 0) (xa none 0 0);have hbf:=iR aY (ME _) (xa none 0 0) (xa none 0 0) (xa none 0 0);change bodyPost _ _ _ _ _ (iV wd w.heap.size (xa none 0 0) (xa none 0 0) (xa none 0 0));generalize iV wd w.heap.size (xa none 0 0) (xa none 0 0) (xa none 0 0)=wf at *;exact zm24
end Go.Proofs.YtidakhhekofkoaaGreatDoor
