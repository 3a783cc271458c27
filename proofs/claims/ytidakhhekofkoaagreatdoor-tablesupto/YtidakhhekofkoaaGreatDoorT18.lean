import Derived.Test.YtidakhhekofkoaaGreatDoorT16
set_option linter.all false
set_option maxHeartbeats 4000000
set_option maxRecDepth 100000
namespace Go.Proofs.YtidakhhekofkoaaGreatDoor
open Go.Proofs.Tryz
open Go.RowKit Go.Deep
open Value renaming slice -> xa, int -> xd, string -> xj, pointer -> xk, bool -> xn
open IntKind renaming i64 -> xh
open Obj renaming cells -> xi
open Ending renaming returned -> xm
open World renaming cell?_alloc_lt -> Mr
open Nat renaming le_refl -> Ms, lt_of_lt_of_le -> My
open Go.RowKit.Below renaming refl -> Mt, heap_alloc -> Mw
open List renaming replicate -> Mu, getElem?_eq_getElem -> Mx
variable {zq:Prop}
variable {cap N lb M tc B0 base n lc g1 cap1 g2 cap2 g3 cap3 g8 cap8 mb:Nat} {mv dk tx wt et wb eb:Value} {cs tmps:Array Value} {m:Nat × Nat} {w W4 q8:World} {to_ lo:Option Addr} {C:List Value} {bo:Obj}
theorem zm10(h:zq:=by
 intro g8 cap8 q8 hown8 hgrow8 hat8 _;have hwa:Below W4.heap.size W4 (W4.drew.alloc (xi #[xd xh (-((M:Int)+1)),xa lo n lc,xa (some ⟨g1,0,none⟩) (n+1) cap1,xa (some ⟨g2,0,none⟩) (n+2) cap2,xa (some ⟨g3,0,none⟩) (n+3) cap3] 120)):=((Below.refl _ _).drew).alloc (Nat.le_refl _) _;have hbk8:=(hgrow8.block bb (Nat.lt_of_lt_of_le hbb4 hwa.size) (fun e=>hbt e.symm)).trans ((hwa.block bb hbb4).trans HB4.out);have hlw8:=(hgrow8.block lb (Nat.lt_of_lt_of_le hlb4 hwa.size) (fun e=>gp HMX3.out.bk e.symm HMX3.out.lw zp)).trans ((hwa.block lb hlb4).trans HMX3.out.lw);refine hK.out _ _ ⟨(cell_of_blk hbk8 0).trans rfl,(cell_of_blk hbk8 1).trans rfl,(cell_of_blk hbk8 2).trans rfl,(cell_of_blk hbk8 3).trans rfl,(cell_of_blk hbk8 4).trans rfl⟩ (fun hHeld=> ?_);clear hK K;have HO8:=fa hown8;have HG8:=fa hgrow8;have HBK8:=fa hbk8;have HLW8:=fa hlw8;have HWA:=fa hwa;have c8:=cell_of_blk hlw8;have f8:=fi hlw8;have hll8:=fh hlw8;have HAT8:=fa hat8;clear hown8 hgrow8 hbk8 hlw8 hwa hat8;apply zt1 8 (xk (some ⟨lb,0,none⟩)) hHeld;apply zt1 9 (xk (some ⟨lb,4,none⟩)) hHeld;apply zrH 10;intro K hK;go_simp;refine hK.out _ _ ⟨(cell_of_blk ((Below.heap_setCell _ _ _ _ (by show bb≠lb;omega)).trans HBK8.out) 0).trans rfl,(cell_of_blk ((Below.heap_setCell _ _ _ _ (by show bb≠lb;omega)).trans HBK8.out) 1).trans rfl,(cell_of_blk ((Below.heap_setCell _ _ _ _ (by show bb≠lb;omega)).trans HBK8.out) 2).trans rfl,(cell_of_blk ((Below.heap_setCell _ _ _ _ (by show bb≠lb;omega)).trans HBK8.out) 3).trans rfl,(cell_of_blk ((Below.heap_setCell _ _ _ _ (by show bb≠lb;omega)).trans HBK8.out) 4).trans rfl⟩ (fun hHeld=> ?_);clear hK K;refine wpAnyH_done zk ?_ _;clear hHeld;exact Fb HMX3.out HWA.out HO8.out HG8.out HLW8.out HAX13.out HAX23.out HAX33.out zo HMB.out HNW1.out HNW2.out HNW3.out HAT8.out
 ):zq:=h
theorem zm12(h:zq:=by
 intro g8 cap8 q8 hown8 hgrow8 hat8 _;have hwa:Below W4.heap.size W4 (W4.drew.alloc (xi #[xd xh z,xa lo n lc,xa (some ⟨g1,0,none⟩) (n+1) cap1,xa (some ⟨g2,0,none⟩) (n+2) cap2,xa (some ⟨g3,0,none⟩) (n+3) cap3] 123)):=((Below.refl _ _).drew).alloc (Nat.le_refl _) _;have hbk8:=(hgrow8.block bb (Nat.lt_of_lt_of_le hbb4 hwa.size) (fun e=>hbt e.symm)).trans ((hwa.block bb hbb4).trans HB4.out);have hlw8:=(hgrow8.block lb (Nat.lt_of_lt_of_le hlb4 hwa.size) (fun e=>gp HMX3.out.bk e.symm HMX3.out.lw zp)).trans ((hwa.block lb hlb4).trans HMX3.out.lw);refine hK.out _ _ ⟨(cell_of_blk hbk8 0).trans rfl,(cell_of_blk hbk8 1).trans rfl,(cell_of_blk hbk8 2).trans rfl,(cell_of_blk hbk8 3).trans rfl,(cell_of_blk hbk8 4).trans rfl⟩ (fun hHeld=> ?_);clear hK K;have HO8:=fa hown8;have HG8:=fa hgrow8;have HBK8:=fa hbk8;have HLW8:=fa hlw8;have HWA:=fa hwa;have c8:=cell_of_blk hlw8;have f8:=fi hlw8;have hll8:=fh hlw8;have HAT8:=fa hat8;clear hown8 hgrow8 hbk8 hlw8 hwa hat8;apply zt1 8 (xk (some ⟨lb,0,none⟩)) hHeld;apply zt1 9 (xk (some ⟨lb,3,none⟩)) hHeld;apply zrH 10;intro K hK;go_simp;refine hK.out _ _ ⟨(cell_of_blk ((Below.heap_setCell _ _ _ _ (by show bb≠lb;omega)).trans HBK8.out) 0).trans rfl,(cell_of_blk ((Below.heap_setCell _ _ _ _ (by show bb≠lb;omega)).trans HBK8.out) 1).trans rfl,(cell_of_blk ((Below.heap_setCell _ _ _ _ (by show bb≠lb;omega)).trans HBK8.out) 2).trans rfl,(cell_of_blk ((Below.heap_setCell _ _ _ _ (by show bb≠lb;omega)).trans HBK8.out) 3).trans rfl,(cell_of_blk ((Below.heap_setCell _ _ _ _ (by show bb≠lb;omega)).trans HBK8.out) 4).trans rfl⟩ (fun hHeld=> ?_);clear hK K;refine wpAnyH_done zk ?_ _;clear hHeld;exact Fa HMX3.out HWA.out HO8.out HG8.out HLW8.out HAX13.out HAX23.out HAX33.out HMK.out zo HNW1.out HNW2.out HNW3.out HAT8.out
 ):zq:=h
structure MSI (w W:World) (lb:Nat) (dk:Value) (M:Nat) (to_:Option Addr) (tn tc:Nat) (tx rx wt et wb eb:Value) (C:List Value) (B0 base:Nat) (l:Value) (n:Nat) (ys:List Value):Prop where
 lw:mh W lb dk M tx (xa to_ tn tc) rx wt et wb eb
 bk:W.ownsRow B0 123 5 (xa to_ tn tc) tn C
 ls:W.ownsRow base 3 1 l n ys
 fr:vM lb l (xa to_ tn tc) w W
section
variable {w W W' : World} {lb : Nat} {dk : Value} {M : Nat} {to_ : Option Addr} {tn tc : Nat} {tx rx wt et wb eb : Value} {C : List Value} {B0 base : Nat} {l : Value} {n : Nat} {ys : List Value}
theorem MSI.later(h:MSI w W lb dk M to_ tn tc tx rx wt et wb eb C B0 base l n ys)(I:Below W.heap.size W W'):MSI w W' lb dk M to_ tn tc tx rx wt et wb eb C B0 base l n ys:=
 ⟨(I.block _ (fh h.lw)).trans h.lw,fL h.bk I,fL h.ls I,⟨I.os.trans h.fr.os,I.tape.trans h.fr.tape,I.output.trans h.fr.output,Nat.le_trans h.fr.size I.size,fun k J R U h4=>(I.block k (My J h.fr.size)).trans (h.fr.block k J R U h4)⟩⟩
theorem MSI.setM(h:MSI w W lb dk M to_ tn tc tx rx wt et wb eb C B0 base l n ys)(z:Int)(I:Nat)(hz:z=(I:Int)):MSI w (W.setCell ⟨lb,1,none⟩ (xd xh z)) lb dk I to_ tn tc tx rx wt et wb eb C B0 base l n ys:=by
 exact zm34
theorem MSI.setL{g:Nat}(h:MSI w W lb dk M to_ tn tc tx rx wt et wb eb C B0 base (xa (some ⟨g,0,none⟩) n cap) n ys)(i:Nat)(v:Value):MSI w (W.setCell ⟨g,i,none⟩ v) lb dk M to_ tn tc tx rx wt et wb eb C B0 base (xa (some ⟨g,0,none⟩) n cap) n (ys.set i v):=by
 have hbl: ∃cur,W.heap[g]? =some (xi cur 3 (0,0)):=by
  exact zm116
 exact zm29
theorem MSI.mkd(h:MSI w W lb dk M to_ tn tc tx rx wt et wb eb C B0 base l n (Mu n mv))(hm:MkF l mv N 3 W W')(hN:n<=N):MSI w W' lb dk M to_ tn tc tx rx wt et wb eb C B0 base l n (Mu n mv):=by
 exact zm20
theorem MSI.setB{c ty:Nat}(h:MSI w W lb dk M to_ tn tc tx rx wt et wb eb C B0 base l n ys)(hc:W.heap[c]? =some (xi cs ty m))(hw:w.heap.size<=c)(h1:ty≠71)(h2:ty≠3)(h3:(xa to_ tn tc).ownBlock≠some c)(o:Nat)(v:Value):MSI w (W.setCell ⟨c,o,none⟩ v) lb dk M to_ tn tc tx rx wt et wb eb C B0 base l n ys:=by
 exact zm31
end
theorem Tryz.infoIB:(prog.info? 123).map (fun i=>(i.zero,i.size,i.bytes))=some (some (.agg #[xd xh 0,xa none 0 0,xa none 0 0,xa none 0 0,xa none 0 0]),5,104):=zk
def uc(w:World)(lb:Nat)(dk:Value)(M:Nat)(to_:Option Addr)(tn tc:Nat)(tx rx wt et wb eb:Value)(C:List Value)(B0:Nat)(l:Value)(w':World)(e:Ending):Prop:=
 e=xm (.tuple #[])/\ ∃to' tc' G1 G2 G3,mh w' lb dk (M+1) tx (xa to' (tn+1) tc') rx wt et wb eb/\w'.ownsRow B0 123 5 (xa to' (tn+1) tc') (tn+1) (C++[xd xh (-((M:Int)+1)),l,G1,G2,G3])/\
  AllM w' l (xd xh (-((M:Int)+1))) 3/\AllM w' G1 (xd xh (-((M:Int)+1))) 3/\AllM w' G2 (xd xh (-((M:Int)+1))) 3/\AllM w' G3 (xd xh (-((M:Int)+1))) 3/\kO w l G1/\kO w l G2/\kO w l G3/\kO w (xa to_ tn tc) (xa to' (tn+1) tc')/\vM lb l (xa to_ tn tc) w w'
theorem Fa{tn:Nat}{rx:Value}{z:Int} 
  (hMS:MSI w W4 lb dk (M+1) to_ tn tc tx rx wt et wb eb C B0 base (xa lo n lc) n (Mu n (xd xh z)))(hwa:Below W4.heap.size W4 (W4.drew.alloc bo))
  (ho:q8.ownsRow B0 123 5 (xa (some ⟨g8,0,none⟩) (tn+1) cap8) (tn+1) (C++[xd xh z,xa lo n lc,xa (some ⟨g1,0,none⟩) (n+1) cap1,xa (some ⟨g2,0,none⟩) (n+2) cap2,xa (some ⟨g3,0,none⟩) (n+3) cap3]))(hg:(W4.drew.alloc bo).grownBy q8 (xa to_ tn tc).ownBlock)(I:mh q8 lb dk (M+1) tx (xa to_ tn tc) rx wt et wb eb)
  (h1:AFt W4 g1 (n+1) (xd xh z) 3)(h2:AFt W4 g2 (n+2) (xd xh z) 3)(h3:AFt W4 g3 (n+3) (xd xh z) 3)(J:z= -((M:Int)+1))(hn:n+3<=10000000000000)(k1:kO w (xa lo n lc) (xa (some ⟨g1,0,none⟩) (n+1) cap1))(k2:kO w (xa lo n lc) (xa (some ⟨g2,0,none⟩) (n+2) cap2))(k3:kO w (xa lo n lc) (xa (some ⟨g3,0,none⟩) (n+3) cap3))(k8:(xa to_ tn tc).ownBlock=some g8\/g8=W4.heap.size+1):
  bodyPost prog Tryz.f64 (fun e w'=>uc w lb dk M to_ tn tc tx rx wt et wb eb C B0 (xa lo n lc) w' e) Exit.normal {tmps:=tmps,defers:=[]} (q8.setCell ⟨lb,3,none⟩ (xa (some ⟨g8,0,none⟩) (tn+1) cap8)):=by
 subst J;have aft: ∀{b q:Nat},AFt W4 b q (xd xh (-((M:Int)+1))) 3->AFt (q8.setCell ⟨lb,3,none⟩ (xa (some ⟨g8,0,none⟩) (tn+1) cap8)) b q (xd xh (-((M:Int)+1))) 3:=fun h=>((h.later hwa).grown (fL hMS.bk hwa) hg zp).set I zp
 have hal:AllM (q8.setCell ⟨lb,3,none⟩ (xa (some ⟨g8,0,none⟩) (tn+1) cap8)) (xa lo n lc) (xd xh (-((M:Int)+1))) 3:=by
  exact zm37
 have hfr:vM lb (xa lo n lc) (xa to_ tn tc) w (q8.setCell ⟨lb,3,none⟩ (xa (some ⟨g8,0,none⟩) (tn+1) cap8)):=by
  exact zm30
 have hO:=gq ho (fK q8 lb 3 (xa (some ⟨g8,0,none⟩) (tn+1) cap8)) (Or.inr (fun e=>gp ho e I zp));have hLW:mh (q8.setCell ⟨lb,3,none⟩ (xa (some ⟨g8,0,none⟩) (tn+1) cap8)) lb dk (M+1) tx (xa (some ⟨g8,0,none⟩) (tn+1) cap8) rx wt et wb eb:=fj I 3 _;exact zm88
theorem p9(w:World)(lb:Nat)(dk:Value)(M:Nat)(to_:Option Addr)(tn tc:Nat)(tx rx wt et wb eb:Value)(C:List Value)(B0 base:Nat)(lo:Option Addr)(n lc:Nat)(xs:List Value)
  (hL:mh w lb dk M tx (xa to_ tn tc) rx wt et wb eb)(hC:w.ownsRow B0 123 5 (xa to_ tn tc) tn C)(hB0:B0<=w.heap.size)(hl:w.ownsRow base 3 1 (xa lo n lc) n xs)(hbase:base<=w.heap.size)
  (hn:n+3<=8796093022208)(htn:(tn+1) * 104<=140737488355328)(hM:M<=4611686018427387904):
  Calls prog 64 #[xk (some ⟨lb,0,none⟩),xa lo n lc] w fun e w'=>uc w lb dk M to_ tn tc tx rx wt et wb eb C B0 (xa lo n lc) w' e:=by
 obtain⟨i0,aV,aX,aY,a6⟩:=info_parts mX;obtain⟨j0,ba,bg,bh,bj⟩:=info_parts Tryz.infoIB;have bc:=cell_of_blk hL;have bf:=fi hL;have hlt:=fh hL;have aO:Hid (MSI w w lb dk M to_ tn tc tx rx wt et wb eb C B0 base (xa lo n lc) n xs):=⟨hL,hC,hl,⟨rfl,rfl,rfl,Ms _,fun k _ _ _ _=>rfl⟩⟩;have HMS2:=fa (aO.setM ((M:Int)+1) (M+1) zo);clear hL hC hl;go_in;go_wp2_with fail;generalize w.setCell ⟨lb,1,none⟩ (xd xh ((M:Int)+1))=w1 at *;have hw1s:=HMS2.fr.size;obtain⟨z,hz⟩: ∃z,z= -((M:Int)+1):=⟨_,rfl⟩;rw[<-hz];have HMK:=fa hz;clear hz bc bf aO
 go_loopw [5] (fun x wr=> ∃(i:Nat) (ys:List Value),i<=n/\x=xd xh i/\Hid (MSI w wr lb dk (M+1) to_ tn tc tx rx wt et wb eb C B0 base (xa lo n lc) n ys)/\Hid (∀j,j<i->ys[j]? =some (xd xh z))) (fun x _=>n - (intOf x).toNat)
 ·exact zm140
 obtain⟨i,ys,hi,rfl,HMS,HY⟩:=hrel;rcases zc i n with⟨hin,hin'⟩|⟨hin,hin'⟩
 ·obtain⟨g,bx,hg,aI⟩:=hD HMS.ls hin;subst bx;have hyl:ys.length=n:=by have:=HMS.ls.1;omega
  have hcell':=aI.trans (Mx zo);have hfz:wr.frozen? ⟨g,i,none⟩=false:=by
   exact zm73
  have a8:=fa (HMS.setL i (xd xh z));generalize ys[i]=old at *;clear aI;go_wp2
  go_roundw
  ·refine⟨i+1,ys.set i (xd xh z),zo,zf,a8,fa (fun j hj=> ?_)⟩;exact zm102
  simp[intOf];omega
 have bz:ys=Mu n (xd xh z):=by
  exact zm51
 subst bz;have a7:=fa ((Mt wr.heap.size wr).alloc (Ms _) (xi #[xd xh z,xa lo n lc,xa none 0 0,xa none 0 0,xa none 0 0] 123));have aP:=fa (HMS.later a7);have aF:=fa (ft wr (xi #[xd xh z,xa lo n lc,xa none 0 0,xa none 0 0,xa none 0 0] 123));have hbt:(xa to_ tn tc).ownBlock≠some wr.heap.size:=fun e=>by have:=(gG HMS.bk _ e).2;omega
 have aW:=HMS.fr.size;clear HY HMS2;have ao:=fa (aP.later ((Mt _ _).alloc (Ms _) (xi #[xd xh z] 3)));have aj:=fa ((Mw (wr.alloc (xi #[xd xh z,xa lo n lc,xa none 0 0,xa none 0 0,xa none 0 0] 123)) (xi #[xd xh z] 3) _ (fh aF)).trans aF)
 go_wp2_with (at_builtin;go_must (refine jf rfl 33 rfl base 3 i0 (xd xh 0) 8 underlying33 aV aX aY a6 rfl (xa lo n lc) n (xd xh z) rfl ?c10 ⟨wr.heap.size+1,0,none⟩ 1 1 rfl ?c11 rfl zd ?c13 ?c14 ?c15 ?_))
 case c10=>exact ao.ls
 try case c11=>
  intro j hj
  match j,hj with
  |0,hj=>exact cell_of_blk (fk _ _ _ (by first|rfl|simp[World.setCell])) 0
  |j+1,hj=>omega
 case c13=>unfold maxLen;omega
 case c14=>omega
 case c15=>omega
 intro g1 cap1 q1 ae aJ aS;have aL:=fa (ao.mkd aJ zo);have R:=fa ((aJ.block _ (fh aj) (fun e=>gp ao.ls e aj zp)).trans aj);have aw:Hid (AFt q1 g1 (n+1) (xd xh z) 3):=⟨AF.of_owns ae,by
  obtain⟨_,⟨hv,_⟩|⟨g',cap',cur,hv,_,hrow,_⟩⟩:=ae
  ·cases hv
  cases hv;exact⟨_,_,hrow⟩⟩
 have hbq1:=fh R;have bn:=cell_of_blk R;have bt:=fi R;have aQ:=fa (aL.setB R aW zp zp hbt 2 (xa (some ⟨g1,0,none⟩) (n+1) cap1));have aG:Hid (_=some (xi #[xd xh z,xa lo n lc,xa (some ⟨g1,0,none⟩) (n+1) cap1,xa none 0 0,xa none 0 0] 123 (0,0))):=fj R 2 (xa (some ⟨g1,0,none⟩) (n+1) cap1);have aC:=fa (aw.set (o:=2) (u:=(xa (some ⟨g1,0,none⟩) (n+1) cap1)) R zp);have U:=fa (aQ.later ((Mt _ _).alloc (Ms _) (xi #[xd xh z,xd xh z] 3)));have ak:=fa ((Mw _ (xi #[xd xh z,xd xh z] 3) _ (fh aG)).trans aG);have ar:=fa (aC.later ((Mt _ _).alloc (Ms _) (xi #[xd xh z,xd xh z] 3)));have HNW1:Hid (kO w (xa lo n lc) (xa (some ⟨g1,0,none⟩) (n+1) cap1)):=⟨g1,_,_,rfl,aS.imp id (fun e=>zo)⟩;clear ae aJ aS
 go_wp2_with (at_builtin;go_must (refine jf rfl 33 rfl base 3 i0 (xd xh 0) 8 underlying33 aV aX aY a6 rfl (xa lo n lc) n (xd xh z) rfl ?c20 ⟨q1.heap.size,0,none⟩ 2 2 rfl ?c21 rfl zd ?c23 ?c24 ?c25 ?_))
 case c20=>exact U.ls
 try case c21=>
  intro j hj
  match j,hj with
  |0,hj=>exact cell_of_blk (fk _ _ _ zp) 0
  |1,hj=>exact cell_of_blk (fk _ _ _ zp) 1
  |j+2,hj=>omega
 case c23=>unfold maxLen;omega
 case c24=>omega
 case c25=>have:=U.fr.size;omega
 intro g2 cap2 q2 ag aq aT;have aM:=fa (U.mkd aq zo);have J:=fa ((aq.block _ (fh ak) (fun e=>gp U.ls e ak zp)).trans ak);have az:Hid (AFt q2 g2 (n+2) (xd xh z) 3):=⟨AF.of_owns ag,by
  obtain⟨_,⟨hv,_⟩|⟨g',cap',cur,hv,_,hrow,_⟩⟩:=ag
  ·cases hv
  cases hv;exact⟨_,_,hrow⟩⟩
 have ax:=fa (ar.mk aq zo);have hbq2:=fh J;have bq:=cell_of_blk J;have bu:=fi J;have aR:=fa (aM.setB J aW zp zp hbt 3 (xa (some ⟨g2,0,none⟩) (n+2) cap2));have aH:Hid (_=some (xi #[xd xh z,xa lo n lc,xa (some ⟨g1,0,none⟩) (n+1) cap1,xa (some ⟨g2,0,none⟩) (n+2) cap2,xa none 0 0] 123 (0,0))):=fj J 3 (xa (some ⟨g2,0,none⟩) (n+2) cap2);have aD:=fa (ax.set (o:=3) (u:=(xa (some ⟨g2,0,none⟩) (n+2) cap2)) J zp);have aE:=fa (az.set (o:=3) (u:=(xa (some ⟨g2,0,none⟩) (n+2) cap2)) J zp);have aa:=fa (aR.later ((Mt _ _).alloc (Ms _) (xi #[xd xh z,xd xh z,xd xh z] 3)));have an:=fa ((Mw _ (xi #[xd xh z,xd xh z,xd xh z] 3) _ (fh aH)).trans aH);have au:=fa (aD.later ((Mt _ _).alloc (Ms _) (xi #[xd xh z,xd xh z,xd xh z] 3)));have av:=fa (aE.later ((Mt _ _).alloc (Ms _) (xi #[xd xh z,xd xh z,xd xh z] 3)));have HNW2:Hid (kO w (xa lo n lc) (xa (some ⟨g2,0,none⟩) (n+2) cap2)):=⟨g2,_,_,rfl,aT.imp id (fun e=>zo)⟩;clear ag aq aT;clear bn bt
 go_wp2_with (at_builtin;go_must (refine jf rfl 33 rfl base 3 i0 (xd xh 0) 8 underlying33 aV aX aY a6 rfl (xa lo n lc) n (xd xh z) rfl ?c30 ⟨q2.heap.size,0,none⟩ 3 3 rfl ?c31 rfl zd ?c33 ?c34 ?c35 ?_))
 case c30=>exact aa.ls
 try case c31=>
  intro j hj
  match j,hj with
  |0,hj=>exact cell_of_blk (fk _ _ _ zp) 0
  |1,hj=>exact cell_of_blk (fk _ _ _ zp) 1
  |2,hj=>exact cell_of_blk (fk _ _ _ zp) 2
  |j+3,hj=>omega
 case c33=>unfold maxLen;omega
 case c34=>omega
 case c35=>have:=aa.fr.size;omega
 intro g3 cap3 q3 ai ad aU;have aN:=fa (aa.mkd ad zo);have I:=fa ((ad.block _ (fh an) (fun e=>gp aa.ls e an zp)).trans an);have aB:Hid (AFt q3 g3 (n+3) (xd xh z) 3):=⟨AF.of_owns ai,by
  obtain⟨_,⟨hv,_⟩|⟨g',cap',cur,hv,_,hrow,_⟩⟩:=ai
  ·cases hv
  cases hv;exact⟨_,_,hrow⟩⟩
 have ay:=fa (au.mk ad zo);have aA:=fa (av.mk ad zo);have hbq3:=fh I;have br:=cell_of_blk I;have bw:=fi I;have HMX3:=fa (aN.setB I aW zp zp hbt 4 (xa (some ⟨g3,0,none⟩) (n+3) cap3));have aK:Hid (_=some (xi #[xd xh z,xa lo n lc,xa (some ⟨g1,0,none⟩) (n+1) cap1,xa (some ⟨g2,0,none⟩) (n+2) cap2,xa (some ⟨g3,0,none⟩) (n+3) cap3] 123 (0,0))):=fj I 4 (xa (some ⟨g3,0,none⟩) (n+3) cap3);have HAX13:=fa (ay.set (o:=4) (u:=(xa (some ⟨g3,0,none⟩) (n+3) cap3)) I zp);have HAX23:=fa (aA.set (o:=4) (u:=(xa (some ⟨g3,0,none⟩) (n+3) cap3)) I zp);have HAX33:=fa (aB.set (o:=4) (u:=(xa (some ⟨g3,0,none⟩) (n+3) cap3)) I zp);have HNW3:Hid (kO w (xa lo n lc) (xa (some ⟨g3,0,none⟩) (n+3) cap3)):=⟨g3,_,_,rfl,aU.imp id (fun e=>zo)⟩;clear ai ad aU;clear bq bu;go_wp2_with fail;generalize (q3.setCell ⟨wr.heap.size,4,none⟩ (xa (some ⟨g3,0,none⟩) (n+3) cap3))=W4 at *;have HB4:=aK;clear br bw aL aM aN R J I aw ax az ay aA aB aC aD aE ar au av ao U aa aj ak an aQ aR aG aH aK aP aF a7;have hlb4:=fh HMX3.lw;have hbb4:=fh HB4;have hw4:=HMX3.fr.size;have hne:lb≠wr.heap.size:=fun e=>by
  exact zm115
 have lc2:W4.cell? ⟨lb,3,none⟩=some (xa to_ tn tc):=(cell_of_blk HMX3.lw 3).trans rfl;have b0:W4.cell? ⟨wr.heap.size,0,none⟩=some (xd xh z):=(cell_of_blk HB4 0).trans rfl;have b1:W4.cell? ⟨wr.heap.size,1,none⟩=some (xa lo n lc):=(cell_of_blk HB4 1).trans rfl;have b2:W4.cell? ⟨wr.heap.size,2,none⟩=some (xa (some ⟨g1,0,none⟩) (n+1) cap1):=(cell_of_blk HB4 2).trans rfl;have b3:W4.cell? ⟨wr.heap.size,3,none⟩=some (xa (some ⟨g2,0,none⟩) (n+2) cap2):=(cell_of_blk HB4 3).trans rfl;have b4:W4.cell? ⟨wr.heap.size,4,none⟩=some (xa (some ⟨g3,0,none⟩) (n+3) cap3):=(cell_of_blk HB4 4).trans rfl;generalize hBB:wr.heap.size=bb at *;clear hBB;refine wp_region_held_drew (S:=fun w'=>w'.cell? ⟨bb,0,none⟩=some (xd xh z)/\w'.cell? ⟨bb,1,none⟩=some (xa lo n lc)/\w'.cell? ⟨bb,2,none⟩=some (xa (some ⟨g1,0,none⟩) (n+1) cap1)/\w'.cell? ⟨bb,3,none⟩=some (xa (some ⟨g2,0,none⟩) (n+2) cap2)/\w'.cell? ⟨bb,4,none⟩=some (xa (some ⟨g3,0,none⟩) (n+3) cap3)) zk ?_ (fun hHeld=> ?_)
 ·simp_all
 apply zt1 0 (xk (some ⟨lb,0,none⟩)) hHeld;apply zt1 1 (xk (some ⟨lb,0,none⟩)) hHeld;apply zt1 2 (xk (some ⟨lb,0,none⟩)) hHeld;apply zt1 3 (xk (some ⟨lb,3,none⟩)) hHeld;apply zt1 5 (.agg #[xd xh z,xa lo n lc,xa (some ⟨g1,0,none⟩) (n+1) cap1,xa (some ⟨g2,0,none⟩) (n+2) cap2,xa (some ⟨g3,0,none⟩) (n+3) cap3]) hHeld;refine zrH2 4 6 (fun K hK=> ?_) fun K hK=> ?_
 ·go_simp;refine hK _ _ ⟨b0,b1,b2,b3,b4⟩ (fun hHeld=> ?_);clear hK K;apply zrH 6;intro K hK;go_simp;refine hK _ _ ⟨(Mr _ _ _ zo).trans b0,(Mr _ _ _ zo).trans b1,(Mr _ _ _ zo).trans b2,(Mr _ _ _ zo).trans b3,(Mr _ _ _ zo).trans b4⟩ (fun hHeld=> ?_);clear hK K;apply zrH 7;intro K hK;refine step_append_lies _ zf _ _ 66 zf B0 123 j0 (.agg #[xd xh 0,xa none 0 0,xa none 0 0,xa none 0 0,xa none 0 0]) 5 104 underlying66 ba bg bh bj rfl zp (xa to_ tn tc) tn C zf ?d0x ⟨W4.heap.size,0,none⟩ 1 1 [xd xh z,xa lo n lc,xa (some ⟨g1,0,none⟩) (n+1) cap1,xa (some ⟨g2,0,none⟩) (n+2) cap2,xa (some ⟨g3,0,none⟩) (n+3) cap3] zf rfl ?d1x ?d2x zp ?d3x ?d4x ?d5x (W4.heap.size+1) zp ?_
  case d0x=>exact fL HMX3.bk (((Mt _ _).drew).alloc (Ms _) _)
  case d1x=>
   intro j u hj
   match j,hj with
   |0,hj=>simp at hj;subst hj;exact cell_of_blk (fk _ _ _ rfl) 0
   |1,hj=>simp at hj;subst hj;exact cell_of_blk (fk _ _ _ rfl) 1
   |2,hj=>simp at hj;subst hj;exact cell_of_blk (fk _ _ _ rfl) 2
   |3,hj=>simp at hj;subst hj;exact cell_of_blk (fk _ _ _ rfl) 3
   |4,hj=>simp at hj;subst hj;exact cell_of_blk (fk _ _ _ rfl) 4
   |j+5,hj=>trivial
  case d2x=>intro u hu;simp at hu;rcases hu with rfl|rfl|rfl|rfl|rfl<;>rfl
  case d3x=>unfold maxLen;omega
  case d4x=>omega
  case d5x=>simp;omega
  exact zm12
 go_simp;refine hK _ _ ⟨(Mr _ _ _ zo).trans b0,(Mr _ _ _ zo).trans b1,(Mr _ _ _ zo).trans b2,(Mr _ _ _ zo).trans b3,(Mr _ _ _ zo).trans b4⟩ (fun hHeld=> ?_);clear hK K;apply zrH 4;intro K hK;go_simp;refine hK _ _ ⟨(Mr _ _ _ zo).trans b0,(Mr _ _ _ zo).trans b1,(Mr _ _ _ zo).trans b2,(Mr _ _ _ zo).trans b3,(Mr _ _ _ zo).trans b4⟩ (fun hHeld=> ?_);clear hK K;apply zrH 7;intro K hK;refine step_append_lies _ zf _ _ 66 zf B0 123 j0 (.agg #[xd xh 0,xa none 0 0,xa none 0 0,xa none 0 0,xa none 0 0]) 5 104 underlying66 ba bg bh bj rfl zp (xa to_ tn tc) tn C zf ?d0y ⟨W4.heap.size,0,none⟩ 1 1 [xd xh z,xa lo n lc,xa (some ⟨g1,0,none⟩) (n+1) cap1,xa (some ⟨g2,0,none⟩) (n+2) cap2,xa (some ⟨g3,0,none⟩) (n+3) cap3] zf rfl ?d1y ?d2y zp ?d3y ?d4y ?d5y (W4.heap.size+1) zp ?_
 case d0y=>exact fL HMX3.bk (((Mt _ _).drew).alloc (Ms _) _)
 case d1y=>
  intro j u hj
  match j,hj with
  |0,hj=>simp at hj;subst hj;exact cell_of_blk (fk _ _ _ rfl) 0
  |1,hj=>simp at hj;subst hj;exact cell_of_blk (fk _ _ _ rfl) 1
  |2,hj=>simp at hj;subst hj;exact cell_of_blk (fk _ _ _ rfl) 2
  |3,hj=>simp at hj;subst hj;exact cell_of_blk (fk _ _ _ rfl) 3
  |4,hj=>simp at hj;subst hj;exact cell_of_blk (fk _ _ _ rfl) 4
  |j+5,hj=>trivial
 case d2y=>intro u hu;simp at hu;rcases hu with rfl|rfl|rfl|rfl|rfl<;>rfl
 case d3y=>unfold maxLen;omega
 case d4y=>omega
 case d5y=>simp;omega
 exact zm12
structure MSR (w W:World) (lb:Nat) (dk:Value) (M:Nat) (to_:Option Addr) (tn tc:Nat) (tx ix wt et wb eb:Value) (C:List Value) (B0 base:Nat) (l:Value) (n:Nat) (ys:List Value):Prop where
 lw:mh W lb dk M tx ix (xa to_ tn tc) wt et wb eb
 bk:W.ownsRow B0 120 5 (xa to_ tn tc) tn C
 ls:W.ownsRow base 33 1 l n ys
 fr:vM lb l (xa to_ tn tc) w W
section
variable {w W W' : World} {lb : Nat} {dk : Value} {M : Nat} {to_ : Option Addr} {tn tc : Nat} {tx ix wt et wb eb : Value} {C : List Value} {B0 base : Nat} {l : Value} {n : Nat} {ys : List Value}
theorem MSR.later(h:MSR w W lb dk M to_ tn tc tx ix wt et wb eb C B0 base l n ys)(I:Below W.heap.size W W'):MSR w W' lb dk M to_ tn tc tx ix wt et wb eb C B0 base l n ys:=
 ⟨(I.block _ (fh h.lw)).trans h.lw,fL h.bk I,fL h.ls I,⟨I.os.trans h.fr.os,I.tape.trans h.fr.tape,I.output.trans h.fr.output,Nat.le_trans h.fr.size I.size,fun k J R U h4=>(I.block k (My J h.fr.size)).trans (h.fr.block k J R U h4)⟩⟩
theorem MSR.setM(h:MSR w W lb dk M to_ tn tc tx ix wt et wb eb C B0 base l n ys)(z:Int)(I:Nat)(hz:z=(I:Int)):MSR w (W.setCell ⟨lb,1,none⟩ (xd xh z)) lb dk I to_ tn tc tx ix wt et wb eb C B0 base l n ys:=by
 exact zm34
theorem MSR.setL{g:Nat}(h:MSR w W lb dk M to_ tn tc tx ix wt et wb eb C B0 base (xa (some ⟨g,0,none⟩) n cap) n ys)(i:Nat)(v:Value):MSR w (W.setCell ⟨g,i,none⟩ v) lb dk M to_ tn tc tx ix wt et wb eb C B0 base (xa (some ⟨g,0,none⟩) n cap) n (ys.set i v):=by
 have hbl: ∃cur,W.heap[g]? =some (xi cur 33 (0,0)):=by
  exact zm116
 exact zm29
theorem MSR.mkd(h:MSR w W lb dk M to_ tn tc tx ix wt et wb eb C B0 base l n (Mu n mv))(hm:MkF l mv N 33 W W')(hN:n<=N):MSR w W' lb dk M to_ tn tc tx ix wt et wb eb C B0 base l n (Mu n mv):=by
 exact zm20
theorem MSR.setB{c ty:Nat}(h:MSR w W lb dk M to_ tn tc tx ix wt et wb eb C B0 base l n ys)(hc:W.heap[c]? =some (xi cs ty m))(hw:w.heap.size<=c)(h1:ty≠71)(h2:ty≠33)(h3:(xa to_ tn tc).ownBlock≠some c)(o:Nat)(v:Value):MSR w (W.setCell ⟨c,o,none⟩ v) lb dk M to_ tn tc tx ix wt et wb eb C B0 base l n ys:=by
 exact zm31
end
theorem Tryz.infoRB:(prog.info? 120).map (fun i=>(i.zero,i.size,i.bytes))=some (some (.agg #[xd xh 0,xa none 0 0,xa none 0 0,xa none 0 0,xa none 0 0]),5,104):=zk
def xK(w:World)(lb:Nat)(dk:Value)(M:Nat)(to_:Option Addr)(tn tc:Nat)(tx ix wt et wb eb:Value)(C:List Value)(B0:Nat)(l:Value)(w':World)(e:Ending):Prop:=
 e=xm (.tuple #[])/\ ∃to' tc' G1 G2 G3 mb,mb=w.heap.size - 1/\mh w' lb dk (M+1) tx ix (xa to' (tn+1) tc') wt et wb eb/\w'.ownsRow B0 120 5 (xa to' (tn+1) tc') (tn+1) (C++[xd xh (-((M:Int)+1)),l,G1,G2,G3])/\
  AllM w' l (xa (some ⟨mb,0,none⟩) 1 1) 33/\AllM w' G1 (xa (some ⟨mb,0,none⟩) 1 1) 33/\AllM w' G2 (xa (some ⟨mb,0,none⟩) 1 1) 33/\AllM w' G3 (xa (some ⟨mb,0,none⟩) 1 1) 33/\kO w l G1/\kO w l G2/\kO w l G3/\kO w (xa to_ tn tc) (xa to' (tn+1) tc')/\vM lb l (xa to_ tn tc) w w'
theorem Fb{tn:Nat}{ix:Value} 
  (hMS:MSR w W4 lb dk (M+1) to_ tn tc tx ix wt et wb eb C B0 base (xa lo n lc) n (Mu n (xa (some ⟨mb,0,none⟩) 1 1)))(hwa:Below W4.heap.size W4 (W4.drew.alloc bo))
  (ho:q8.ownsRow B0 120 5 (xa (some ⟨g8,0,none⟩) (tn+1) cap8) (tn+1) (C++[xd xh (-((M:Int)+1)),xa lo n lc,xa (some ⟨g1,0,none⟩) (n+1) cap1,xa (some ⟨g2,0,none⟩) (n+2) cap2,xa (some ⟨g3,0,none⟩) (n+3) cap3]))(hg:(W4.drew.alloc bo).grownBy q8 (xa to_ tn tc).ownBlock)(U:mh q8 lb dk (M+1) tx ix (xa to_ tn tc) wt et wb eb)
  (h1:AFt W4 g1 (n+1) (xa (some ⟨mb,0,none⟩) 1 1) 33)(h2:AFt W4 g2 (n+2) (xa (some ⟨mb,0,none⟩) 1 1) 33)(h3:AFt W4 g3 (n+3) (xa (some ⟨mb,0,none⟩) 1 1) 33)(hn:n+3<=10000000000000)(aa:mb=w.heap.size - 1)(k1:kO w (xa lo n lc) (xa (some ⟨g1,0,none⟩) (n+1) cap1))(k2:kO w (xa lo n lc) (xa (some ⟨g2,0,none⟩) (n+2) cap2))(k3:kO w (xa lo n lc) (xa (some ⟨g3,0,none⟩) (n+3) cap3))(k8:(xa to_ tn tc).ownBlock=some g8\/g8=W4.heap.size+1):
  bodyPost prog Tryz.f65 (fun e w'=>xK w lb dk M to_ tn tc tx ix wt et wb eb C B0 (xa lo n lc) w' e) Exit.normal {tmps:=tmps,defers:=[]} (q8.setCell ⟨lb,4,none⟩ (xa (some ⟨g8,0,none⟩) (tn+1) cap8)):=by
 have aft: ∀{b q:Nat},AFt W4 b q (xa (some ⟨mb,0,none⟩) 1 1) 33->AFt (q8.setCell ⟨lb,4,none⟩ (xa (some ⟨g8,0,none⟩) (tn+1) cap8)) b q (xa (some ⟨mb,0,none⟩) 1 1) 33:=fun h=>((h.later hwa).grown (fL hMS.bk hwa) hg zp).set U zp
 have J:AllM (q8.setCell ⟨lb,4,none⟩ (xa (some ⟨g8,0,none⟩) (tn+1) cap8)) (xa lo n lc) (xa (some ⟨mb,0,none⟩) 1 1) 33:=by
  exact zm37
 have R:vM lb (xa lo n lc) (xa to_ tn tc) w (q8.setCell ⟨lb,4,none⟩ (xa (some ⟨g8,0,none⟩) (tn+1) cap8)):=by
  exact zm30
 have hO:=gq ho (fK q8 lb 4 (xa (some ⟨g8,0,none⟩) (tn+1) cap8)) (Or.inr (fun e=>gp ho e U zp));have I:mh (q8.setCell ⟨lb,4,none⟩ (xa (some ⟨g8,0,none⟩) (tn+1) cap8)) lb dk (M+1) tx ix (xa (some ⟨g8,0,none⟩) (tn+1) cap8) wt et wb eb:=fj U 4 _;go_end0;exact⟨rfl,_,_,_,_,_,mb,aa,I,hO,J,(aft h1).allM zo,(aft h2).allM zo,(aft h3).allM zo,k1,k2,k3,⟨_,_,_,rfl,k8.imp id (fun e=>by have:=hMS.fr.size;omega)⟩,R⟩
theorem te(w:World)(lb:Nat)(dk:Value)(M:Nat)(to_:Option Addr)(tn tc:Nat)(tx ix wt et wb eb:Value)(C:List Value)(B0 base:Nat)(lo:Option Addr)(n lc:Nat)(xs:List Value)
  (hL:mh w lb dk M tx ix (xa to_ tn tc) wt et wb eb)(hC:w.ownsRow B0 120 5 (xa to_ tn tc) tn C)(hB0:B0<=w.heap.size)(hl:w.ownsRow base 33 1 (xa lo n lc) n xs)(hbase:base<=w.heap.size)
  (hn:n+3<=5000000000000)(htn:(tn+1) * 104<=140737488355328)(hM:M<=4611686018427387904):
  Calls prog 65 #[xk (some ⟨lb,0,none⟩),xa lo n lc] w fun e w'=>xK ((w.setCell ⟨lb,1,none⟩ (xd xh ((M:Int)+1))).alloc (xi #[xd xh (-((M:Int)+1))] 3)) lb dk M to_ tn tc tx ix wt et wb eb C B0 (xa lo n lc) w' e:=by
 obtain⟨i0,aW,aY,a6,a7⟩:=info_parts qX;obtain⟨j0,bd,bl,bm,bn⟩:=info_parts Tryz.infoRB;have bc:=cell_of_blk hL;have bf:=fi hL;have hlt:=fh hL;have hx:=((show MSR w w lb dk M to_ tn tc tx ix wt et wb eb C B0 base (xa lo n lc) n xs from⟨hL,hC,hl,⟨rfl,rfl,rfl,Ms _,fun k _ _ _ _=>rfl⟩⟩).setM ((M:Int)+1) (M+1) zo).later ((Mt _ _).alloc (Ms _) (xi #[xd xh (-((M:Int)+1))] 3));have bg:((w.setCell ⟨lb,1,none⟩ (xd xh ((M:Int)+1))).alloc (xi #[xd xh (-((M:Int)+1))] 3)).heap.size=w.heap.size+1:=zp;obtain⟨wA,aV⟩: ∃wA,wA=(w.setCell ⟨lb,1,none⟩ (xd xh ((M:Int)+1))).alloc (xi #[xd xh (-((M:Int)+1))] 3):=⟨_,rfl⟩;rw[<-aV] at hx bg|-;have HMS2:Hid (MSR wA wA lb dk (M+1) to_ tn tc tx ix wt et wb eb C B0 base (xa lo n lc) n xs):=⟨hx.lw,hx.bk,hx.ls,⟨rfl,rfl,rfl,Ms _,fun k _ _ _ _=>rfl⟩⟩;have hwA:w.heap.size<=wA.heap.size:=zo;obtain⟨mb,hmb⟩: ∃mb,mb=w.heap.size:=⟨_,rfl⟩;have HMB:Hid (mb=wA.heap.size - 1):=by show _=_;omega
 have HWA:=fa aV;clear hL hC hl hx bg aV;go_in;go_wp2_with fail;rw[<-HWA.out,<-hmb];clear hmb bc bf HWA
 go_loopw [5] (fun x wr=> ∃(i:Nat) (ys:List Value),i<=n/\x=xd xh i/\Hid (MSR wA wr lb dk (M+1) to_ tn tc tx ix wt et wb eb C B0 base (xa lo n lc) n ys)/\Hid (∀j,j<i->ys[j]? =some (xa (some ⟨mb,0,none⟩) 1 1))) (fun x _=>n - (intOf x).toNat)
 ·exact zm140
 obtain⟨i,ys,hi,rfl,HMS,HY⟩:=hrel;rcases zc i n with⟨hin,hin'⟩|⟨hin,hin'⟩
 ·obtain⟨g,bB,hg,aI⟩:=hD HMS.ls hin;subst bB;have hyl:ys.length=n:=by have:=HMS.ls.1;omega
  have hcell':=aI.trans (Mx zo);have hfz:wr.frozen? ⟨g,i,none⟩=false:=by
   exact zm73
  have a':=fa (HMS.setL i (xa (some ⟨mb,0,none⟩) 1 1));generalize ys[i]=old at *;clear aI;go_wp2
  go_roundw
  ·refine⟨i+1,ys.set i (xa (some ⟨mb,0,none⟩) 1 1),zo,zf,a',fa (fun j hj=> ?_)⟩;exact zm102
  simp[intOf];omega
 have bC:ys=Mu n (xa (some ⟨mb,0,none⟩) 1 1):=by
  exact zm51
 subst bC;have bcr:=(cell_of_blk HMS.lw 1).trans zf;have hlr:=fh HMS.lw;have a8:=fa ((Mt wr.heap.size wr).alloc (Ms _) (xi #[xd xh (-((M:Int)+1)),xa lo n lc,xa none 0 0,xa none 0 0,xa none 0 0] 120));have aP:=fa (HMS.later a8);have aF:=fa (ft wr (xi #[xd xh (-((M:Int)+1)),xa lo n lc,xa none 0 0,xa none 0 0,xa none 0 0] 120));have hbt:(xa to_ tn tc).ownBlock≠some wr.heap.size:=fun e=>by have:=(gG HMS.bk _ e).2;omega
 have aX:=HMS.fr.size;clear HY HMS2;have ao:=fa (aP.later ((Mt _ _).alloc (Ms _) (xi #[xa (some ⟨mb,0,none⟩) 1 1] 33)));have aj:=fa ((Mw (wr.alloc (xi #[xd xh (-((M:Int)+1)),xa lo n lc,xa none 0 0,xa none 0 0,xa none 0 0] 120)) (xi #[xa (some ⟨mb,0,none⟩) 1 1] 33) _ (fh aF)).trans aF)
 go_wp2_with (at_builtin;go_must (refine jf rfl 34 rfl base 33 i0 (xa none 0 0) 24 underlying34 aW aY a6 a7 rfl (xa lo n lc) n (xa (some ⟨mb,0,none⟩) 1 1) rfl ?c10 ⟨wr.heap.size+1,0,none⟩ 1 1 rfl ?c11 rfl zd ?c13 ?c14 ?c15 ?_))
 case c10=>exact ao.ls
 try case c11=>
  intro j hj
  match j,hj with
  |0,hj=>exact cell_of_blk (fk _ _ _ (by first|rfl|simp[World.setCell])) 0
  |j+1,hj=>omega
 case c13=>unfold maxLen;omega
 case c14=>omega
 case c15=>omega
 intro g1 cap1 q1 ae aJ aS;have aM:=fa (ao.mkd aJ zo);have R:=fa ((aJ.block _ (fh aj) (fun e=>gp ao.ls e aj zp)).trans aj);have aw:Hid (AFt q1 g1 (n+1) (xa (some ⟨mb,0,none⟩) 1 1) 33):=⟨AF.of_owns ae,by
  obtain⟨_,⟨hv,_⟩|⟨g',cap',cur,hv,_,hrow,_⟩⟩:=ae
  ·cases hv
  cases hv;exact⟨_,_,hrow⟩⟩
 have hbq1:=fh R;have bt:=cell_of_blk R;have bx:=fi R;have aQ:=fa (aM.setB R aX zp zp hbt 2 (xa (some ⟨g1,0,none⟩) (n+1) cap1));have aG:Hid (_=some (xi #[xd xh (-((M:Int)+1)),xa lo n lc,xa (some ⟨g1,0,none⟩) (n+1) cap1,xa none 0 0,xa none 0 0] 120 (0,0))):=fj R 2 (xa (some ⟨g1,0,none⟩) (n+1) cap1);have aC:=fa (aw.set (o:=2) (u:=(xa (some ⟨g1,0,none⟩) (n+1) cap1)) R zp);have U:=fa (aQ.later ((Mt _ _).alloc (Ms _) (xi #[xa (some ⟨mb,0,none⟩) 1 1,xa (some ⟨mb,0,none⟩) 1 1] 33)));have ak:=fa ((Mw _ (xi #[xa (some ⟨mb,0,none⟩) 1 1,xa (some ⟨mb,0,none⟩) 1 1] 33) _ (fh aG)).trans aG);have ar:=fa (aC.later ((Mt _ _).alloc (Ms _) (xi #[xa (some ⟨mb,0,none⟩) 1 1,xa (some ⟨mb,0,none⟩) 1 1] 33)));have HNW1:Hid (kO wA (xa lo n lc) (xa (some ⟨g1,0,none⟩) (n+1) cap1)):=⟨g1,_,_,rfl,aS.imp id (fun e=>zo)⟩;clear ae aJ aS
 go_wp2_with (at_builtin;go_must (refine jf rfl 34 rfl base 33 i0 (xa none 0 0) 24 underlying34 aW aY a6 a7 rfl (xa lo n lc) n (xa (some ⟨mb,0,none⟩) 1 1) rfl ?c20 ⟨q1.heap.size,0,none⟩ 2 2 rfl ?c21 rfl zd ?c23 ?c24 ?c25 ?_))
 case c20=>exact U.ls
 try case c21=>
  intro j hj
  match j,hj with
  |0,hj=>exact cell_of_blk (fk _ _ _ zp) 0
  |1,hj=>exact cell_of_blk (fk _ _ _ zp) 1
  |j+2,hj=>omega
 case c23=>unfold maxLen;omega
 case c24=>omega
 case c25=>have:=U.fr.size;omega
 intro g2 cap2 q2 ag aq aT;have aN:=fa (U.mkd aq zo);have J:=fa ((aq.block _ (fh ak) (fun e=>gp U.ls e ak zp)).trans ak);have az:Hid (AFt q2 g2 (n+2) (xa (some ⟨mb,0,none⟩) 1 1) 33):=⟨AF.of_owns ag,by
  obtain⟨_,⟨hv,_⟩|⟨g',cap',cur,hv,_,hrow,_⟩⟩:=ag
  ·cases hv
  cases hv;exact⟨_,_,hrow⟩⟩
 have ax:=fa (ar.mk aq zo);have hbq2:=fh J;have bu:=cell_of_blk J;have bz:=fi J;have aR:=fa (aN.setB J aX zp zp hbt 3 (xa (some ⟨g2,0,none⟩) (n+2) cap2));have aH:Hid (_=some (xi #[xd xh (-((M:Int)+1)),xa lo n lc,xa (some ⟨g1,0,none⟩) (n+1) cap1,xa (some ⟨g2,0,none⟩) (n+2) cap2,xa none 0 0] 120 (0,0))):=fj J 3 (xa (some ⟨g2,0,none⟩) (n+2) cap2);have aD:=fa (ax.set (o:=3) (u:=(xa (some ⟨g2,0,none⟩) (n+2) cap2)) J zp);have aE:=fa (az.set (o:=3) (u:=(xa (some ⟨g2,0,none⟩) (n+2) cap2)) J zp);have aa:=fa (aR.later ((Mt _ _).alloc (Ms _) (xi #[xa (some ⟨mb,0,none⟩) 1 1,xa (some ⟨mb,0,none⟩) 1 1,xa (some ⟨mb,0,none⟩) 1 1] 33)));have an:=fa ((Mw _ (xi #[xa (some ⟨mb,0,none⟩) 1 1,xa (some ⟨mb,0,none⟩) 1 1,xa (some ⟨mb,0,none⟩) 1 1] 33) _ (fh aH)).trans aH);have au:=fa (aD.later ((Mt _ _).alloc (Ms _) (xi #[xa (some ⟨mb,0,none⟩) 1 1,xa (some ⟨mb,0,none⟩) 1 1,xa (some ⟨mb,0,none⟩) 1 1] 33)));have av:=fa (aE.later ((Mt _ _).alloc (Ms _) (xi #[xa (some ⟨mb,0,none⟩) 1 1,xa (some ⟨mb,0,none⟩) 1 1,xa (some ⟨mb,0,none⟩) 1 1] 33)));have HNW2:Hid (kO wA (xa lo n lc) (xa (some ⟨g2,0,none⟩) (n+2) cap2)):=⟨g2,_,_,rfl,aT.imp id (fun e=>zo)⟩;clear ag aq aT;clear bt bx
 go_wp2_with (at_builtin;go_must (refine jf rfl 34 rfl base 33 i0 (xa none 0 0) 24 underlying34 aW aY a6 a7 rfl (xa lo n lc) n (xa (some ⟨mb,0,none⟩) 1 1) rfl ?c30 ⟨q2.heap.size,0,none⟩ 3 3 rfl ?c31 rfl zd ?c33 ?c34 ?c35 ?_))
 case c30=>exact aa.ls
 try case c31=>
  intro j hj
  match j,hj with
  |0,hj=>exact cell_of_blk (fk _ _ _ zp) 0
  |1,hj=>exact cell_of_blk (fk _ _ _ zp) 1
  |2,hj=>exact cell_of_blk (fk _ _ _ zp) 2
  |j+3,hj=>omega
 case c33=>unfold maxLen;omega
 case c34=>omega
 case c35=>have:=aa.fr.size;omega
 intro g3 cap3 q3 ai ad aU;have aO:=fa (aa.mkd ad zo);have I:=fa ((ad.block _ (fh an) (fun e=>gp aa.ls e an zp)).trans an);have aB:Hid (AFt q3 g3 (n+3) (xa (some ⟨mb,0,none⟩) 1 1) 33):=⟨AF.of_owns ai,by
  obtain⟨_,⟨hv,_⟩|⟨g',cap',cur,hv,_,hrow,_⟩⟩:=ai
  ·cases hv
  cases hv;exact⟨_,_,hrow⟩⟩
 have ay:=fa (au.mk ad zo);have aA:=fa (av.mk ad zo);have hbq3:=fh I;have bw:=cell_of_blk I;have bA:=fi I;have HMX3:=fa (aO.setB I aX zp zp hbt 4 (xa (some ⟨g3,0,none⟩) (n+3) cap3));have aL:Hid (_=some (xi #[xd xh (-((M:Int)+1)),xa lo n lc,xa (some ⟨g1,0,none⟩) (n+1) cap1,xa (some ⟨g2,0,none⟩) (n+2) cap2,xa (some ⟨g3,0,none⟩) (n+3) cap3] 120 (0,0))):=fj I 4 (xa (some ⟨g3,0,none⟩) (n+3) cap3);have HAX13:=fa (ay.set (o:=4) (u:=(xa (some ⟨g3,0,none⟩) (n+3) cap3)) I zp);have HAX23:=fa (aA.set (o:=4) (u:=(xa (some ⟨g3,0,none⟩) (n+3) cap3)) I zp);have HAX33:=fa (aB.set (o:=4) (u:=(xa (some ⟨g3,0,none⟩) (n+3) cap3)) I zp);have HNW3:Hid (kO wA (xa lo n lc) (xa (some ⟨g3,0,none⟩) (n+3) cap3)):=⟨g3,_,_,rfl,aU.imp id (fun e=>zo)⟩;clear ai ad aU;clear bu bz;go_wp2_with fail;generalize (q3.setCell ⟨wr.heap.size,4,none⟩ (xa (some ⟨g3,0,none⟩) (n+3) cap3))=W4 at *;have HB4:=aL;clear bw bA aM aN aO R J I aw ax az ay aA aB aC aD aE ar au av ao U aa aj ak an aQ aR aG aH aL aP aF a8;have hlb4:=fh HMX3.lw;have hbb4:=fh HB4;have hw4:=HMX3.fr.size;have hne:lb≠wr.heap.size:=fun e=>by
  exact zm115
 have lc2:W4.cell? ⟨lb,4,none⟩=some (xa to_ tn tc):=(cell_of_blk HMX3.lw 4).trans rfl;have b0:W4.cell? ⟨wr.heap.size,0,none⟩=some (xd xh (-((M:Int)+1))):=(cell_of_blk HB4 0).trans rfl;have b1:W4.cell? ⟨wr.heap.size,1,none⟩=some (xa lo n lc):=(cell_of_blk HB4 1).trans rfl;have b2:W4.cell? ⟨wr.heap.size,2,none⟩=some (xa (some ⟨g1,0,none⟩) (n+1) cap1):=(cell_of_blk HB4 2).trans rfl;have b3:W4.cell? ⟨wr.heap.size,3,none⟩=some (xa (some ⟨g2,0,none⟩) (n+2) cap2):=(cell_of_blk HB4 3).trans rfl;have b4:W4.cell? ⟨wr.heap.size,4,none⟩=some (xa (some ⟨g3,0,none⟩) (n+3) cap3):=(cell_of_blk HB4 4).trans rfl;generalize hBB:wr.heap.size=bb at *;clear hBB;refine wp_region_held_drew (S:=fun w'=>w'.cell? ⟨bb,0,none⟩=some (xd xh (-((M:Int)+1)))/\w'.cell? ⟨bb,1,none⟩=some (xa lo n lc)/\w'.cell? ⟨bb,2,none⟩=some (xa (some ⟨g1,0,none⟩) (n+1) cap1)/\w'.cell? ⟨bb,3,none⟩=some (xa (some ⟨g2,0,none⟩) (n+2) cap2)/\w'.cell? ⟨bb,4,none⟩=some (xa (some ⟨g3,0,none⟩) (n+3) cap3)) zk ?_ (fun hHeld=> ?_)
 ·simp_all
 apply zt1 0 (xk (some ⟨lb,0,none⟩)) hHeld;apply zt1 1 (xk (some ⟨lb,0,none⟩)) hHeld;apply zt1 2 (xk (some ⟨lb,0,none⟩)) hHeld;apply zt1 3 (xk (some ⟨lb,4,none⟩)) hHeld;apply zt1 5 (.agg #[xd xh (-((M:Int)+1)),xa lo n lc,xa (some ⟨g1,0,none⟩) (n+1) cap1,xa (some ⟨g2,0,none⟩) (n+2) cap2,xa (some ⟨g3,0,none⟩) (n+3) cap3]) hHeld;refine zrH2 4 6 (fun K hK=> ?_) fun K hK=> ?_
 ·go_simp;refine hK _ _ ⟨b0,b1,b2,b3,b4⟩ (fun hHeld=> ?_);clear hK K;apply zrH 6;intro K hK;go_simp;refine hK _ _ ⟨(Mr _ _ _ zo).trans b0,(Mr _ _ _ zo).trans b1,(Mr _ _ _ zo).trans b2,(Mr _ _ _ zo).trans b3,(Mr _ _ _ zo).trans b4⟩ (fun hHeld=> ?_);clear hK K;apply zrH 7;intro K hK;refine step_append_lies _ zf _ _ 67 zf B0 120 j0 (.agg #[xd xh 0,xa none 0 0,xa none 0 0,xa none 0 0,xa none 0 0]) 5 104 underlying67 bd bl bm bn rfl zp (xa to_ tn tc) tn C zf ?d0x ⟨W4.heap.size,0,none⟩ 1 1 [xd xh (-((M:Int)+1)),xa lo n lc,xa (some ⟨g1,0,none⟩) (n+1) cap1,xa (some ⟨g2,0,none⟩) (n+2) cap2,xa (some ⟨g3,0,none⟩) (n+3) cap3] zf rfl ?d1x ?d2x zp ?d3x ?d4x ?d5x (W4.heap.size+1) zp ?_
  case d0x=>exact fL HMX3.bk (((Mt _ _).drew).alloc (Ms _) _)
  case d1x=>
   intro j u hj
   match j,hj with
   |0,hj=>simp at hj;subst hj;exact cell_of_blk (fk _ _ _ rfl) 0
   |1,hj=>simp at hj;subst hj;exact cell_of_blk (fk _ _ _ rfl) 1
   |2,hj=>simp at hj;subst hj;exact cell_of_blk (fk _ _ _ rfl) 2
   |3,hj=>simp at hj;subst hj;exact cell_of_blk (fk _ _ _ rfl) 3
   |4,hj=>simp at hj;subst hj;exact cell_of_blk (fk _ _ _ rfl) 4
   |j+5,hj=>trivial
  case d2x=>intro u hu;simp at hu;rcases hu with rfl|rfl|rfl|rfl|rfl<;>rfl
  case d3x=>unfold maxLen;omega
  case d4x=>omega
  case d5x=>simp;omega
  exact zm10
 go_simp;refine hK _ _ ⟨(Mr _ _ _ zo).trans b0,(Mr _ _ _ zo).trans b1,(Mr _ _ _ zo).trans b2,(Mr _ _ _ zo).trans b3,(Mr _ _ _ zo).trans b4⟩ (fun hHeld=> ?_);clear hK K;apply zrH 4;intro K hK;go_simp;refine hK _ _ ⟨(Mr _ _ _ zo).trans b0,(Mr _ _ _ zo).trans b1,(Mr _ _ _ zo).trans b2,(Mr _ _ _ zo).trans b3,(Mr _ _ _ zo).trans b4⟩ (fun hHeld=> ?_);clear hK K;apply zrH 7;intro K hK;refine step_append_lies _ zf _ _ 67 zf B0 120 j0 (.agg #[xd xh 0,xa none 0 0,xa none 0 0,xa none 0 0,xa none 0 0]) 5 104 underlying67 bd bl bm bn rfl zp (xa to_ tn tc) tn C zf ?d0y ⟨W4.heap.size,0,none⟩ 1 1 [xd xh (-((M:Int)+1)),xa lo n lc,xa (some ⟨g1,0,none⟩) (n+1) cap1,xa (some ⟨g2,0,none⟩) (n+2) cap2,xa (some ⟨g3,0,none⟩) (n+3) cap3] zf rfl ?d1y ?d2y zp ?d3y ?d4y ?d5y (W4.heap.size+1) zp ?_
 case d0y=>exact fL HMX3.bk (((Mt _ _).drew).alloc (Ms _) _)
 case d1y=>
  intro j u hj
  match j,hj with
  |0,hj=>simp at hj;subst hj;exact cell_of_blk (fk _ _ _ rfl) 0
  |1,hj=>simp at hj;subst hj;exact cell_of_blk (fk _ _ _ rfl) 1
  |2,hj=>simp at hj;subst hj;exact cell_of_blk (fk _ _ _ rfl) 2
  |3,hj=>simp at hj;subst hj;exact cell_of_blk (fk _ _ _ rfl) 3
  |4,hj=>simp at hj;subst hj;exact cell_of_blk (fk _ _ _ rfl) 4
  |j+5,hj=>trivial
 case d2y=>intro u hu;simp at hu;rcases hu with rfl|rfl|rfl|rfl|rfl<;>rfl
 case d3y=>unfold maxLen;omega
 case d4y=>omega
 case d5y=>simp;omega
 exact zm10
end Go.Proofs.YtidakhhekofkoaaGreatDoor
