import Derived.Test.YtidakhhekofkoaaGreatDoorT14
import Derived.Shelf.Strings.OnBuilder
import Derived.Lib.IndexAny
import Derived.Test.YtidakhhekofkoaaGreatDoorCards
import Derived.Test.YtidakhhekofkoaaGreatDoorTie
import Derived.ProofKit
import Derived.OpenShut
import Derived.Deep.DeepHandedRow
import Derived.Deep.Strs
import Derived.Lib.AppendIntMem
import Derived.Lib.ItoaLen
set_option linter.all false
set_option maxRecDepth 100000
set_option maxHeartbeats 4000000
namespace Go.Proofs.YtidakhhekofkoaaGreatDoor
open Go.Proofs.Tryz
open Go.RowKit Go.Deep
open Value renaming slice -> xa, int -> xd, string -> xj, pointer -> xk, bool -> xn
open IntKind renaming i64 -> xh
open Obj renaming cells -> xi
open Ending renaming returned -> xm
open World renaming cell?_alloc_lt -> Mr
open List renaming getElem?_eq_getElem -> Ms, replicate -> My, getElem?_append_right -> MD, getElem?_append_left -> ME, getElem_mem -> MF, length_map -> MH, take_of_length_le -> MJ, getElem?_eq_none -> MK, replicate_succ -> ML, mem_singleton -> MN, getElem?_map -> MR, take_add_one -> MT, length_take -> MU
open Go.RowKit.Below renaming heap_setCell -> Mt, heap_alloc -> Mw, refl -> Mx
open Nat renaming le_refl -> Mu, zero_le -> Mz, lt_or_ge -> MO, eq_zero_or_pos -> MP, lt_of_lt_of_le -> MQ
open Lib renaming itoa -> MC, pow10Tab -> MG, TabIs -> MI
open Or renaming inr -> MM, inl -> MX
open Option renaming getD_some -> MV
variable {zq:Prop}
variable {w w' w0 W W' wr W4 q8:World} {n h base c lc cap fuel e q N lb M B0:Nat} {cs xs C:List Value} {al:List Tk} {Q:Tk->Prop} {r:Rl} {d u v y mv dk:Value} {x:Bool} {b:List Bool} {m:Nat × Nat} {o a lo to_:Option Addr} {rs:List Rl} {t:TypeId} {ds:List (DataW Unit)} {p:List MemPlace} {α:Type} {laid:List (String × DataW Unit)} {bo:Obj} {tmps:Array Value} {tr:List ByteArray}
theorem zm13(h:zq:=by
 intro g8 cap8 q8 hown8 hgrow8 hat8 _;have hwa:Below W4.heap.size W4 (W4.drew.alloc (xi #[xj mk,xa lo n lc,xa (some ⟨g1,0,none⟩) (n+1) cap1,xa (some ⟨g2,0,none⟩) (n+2) cap2,xa (some ⟨g3,0,none⟩) (n+3) cap3] 118)):=((Below.refl _ _).drew).alloc (Nat.le_refl _) _;have hbk8:=(hgrow8.block bb (Nat.lt_of_lt_of_le hbb4 hwa.size) (fun e=>hbt e.symm)).trans ((hwa.block bb hbb4).trans HB4.out);have hlw8:=(hgrow8.block lb (Nat.lt_of_lt_of_le hlb4 hwa.size) (fun e=>gp HMX3.out.bk e.symm HMX3.out.lw zp)).trans ((hwa.block lb hlb4).trans HMX3.out.lw);refine hK.out _ _ ⟨(cell_of_blk hbk8 0).trans rfl,(cell_of_blk hbk8 1).trans rfl,(cell_of_blk hbk8 2).trans rfl,(cell_of_blk hbk8 3).trans rfl,(cell_of_blk hbk8 4).trans rfl⟩ (fun hHeld=> ?_);clear hK K;have HO8:=fa hown8;have HG8:=fa hgrow8;have HBK8:=fa hbk8;have HLW8:=fa hlw8;have HWA:=fa hwa;have c8:=cell_of_blk hlw8;have f8:=fi hlw8;have hll8:=fh hlw8;have HAT8:=fa hat8;clear hown8 hgrow8 hbk8 hlw8 hwa hat8;apply zt1 8 (xk (some ⟨lb,0,none⟩)) hHeld;apply zt1 9 (xk (some ⟨lb,2,none⟩)) hHeld;apply zrH 10;intro K hK;go_simp;refine hK.out _ _ ⟨(cell_of_blk ((Below.heap_setCell _ _ _ _ (by show bb≠lb;omega)).trans HBK8.out) 0).trans rfl,(cell_of_blk ((Below.heap_setCell _ _ _ _ (by show bb≠lb;omega)).trans HBK8.out) 1).trans rfl,(cell_of_blk ((Below.heap_setCell _ _ _ _ (by show bb≠lb;omega)).trans HBK8.out) 2).trans rfl,(cell_of_blk ((Below.heap_setCell _ _ _ _ (by show bb≠lb;omega)).trans HBK8.out) 3).trans rfl,(cell_of_blk ((Below.heap_setCell _ _ _ _ (by show bb≠lb;omega)).trans HBK8.out) 4).trans rfl⟩ (fun hHeld=> ?_);clear hK K;refine wpAnyH_done zk ?_ _;clear hHeld;exact Hi HMX3.out HWA.out HO8.out HG8.out HLW8.out HAX13.out HAX23.out HAX33.out HMK.out zo HNW1.out HNW2.out HNW3.out HAT8.out
 ):zq:=h
theorem zm20(h:zq:=by
 have hlb:=hm.block lb (fh h.lw) (fun e=>gp h.ls e h.lw zp);refine⟨hlb.trans h.lw, ?_,hm.keeps h.ls hN,⟨hm.os.trans h.fr.os,hm.tape.trans h.fr.tape,hm.output.trans h.fr.output,Nat.le_trans h.fr.size hm.size,fun k h1 h2 h3 h4=>(hm.block k (Nat.lt_of_lt_of_le h1 h.fr.size) h3).trans (h.fr.block k h1 h2 h3 h4)⟩⟩;obtain⟨hlen,⟨hv,hn0⟩|⟨g,cap,cur,hv,hg,hrow,hrest⟩⟩:=h.bk
 ·exact⟨hlen,Or.inl ⟨hv,hn0⟩⟩
 refine⟨hlen,Or.inr ⟨g,cap,cur,hv,hg, ?_,hrest⟩⟩;exact(hm.block g (fh hrow) (fun e=>gp h.ls e hrow zp)).trans hrow
 ):zq:=h
theorem zm29(h:zq:=by
 obtain⟨cur,hcur⟩:=hbl;have hne:g≠lb:=by
  rintro rfl;have:=h.lw;unfold mh at this;simp_all
 refine⟨(Below.heap_setCell _ _ _ _ (by show lb≠g;omega)).trans h.lw,gq h.bk (fK _ _ _ _) (Or.inr (fun e=>gp h.bk e hcur zp)),Hs h.ls i v,⟨h.fr.os,h.fr.tape,h.fr.output,by simpa [World.setCell] using h.fr.size,fun k h1 h2 h3 h4=>(Below.heap_setCell _ _ _ _ ?_).trans (h.fr.block k h1 h2 h3 h4)⟩⟩;show k≠g;rintro rfl;trivial
 ):zq:=h
theorem zm30(h:zq:=by
 have f:=hMS.fr;refine⟨hg.os.trans (hwa.os.trans f.os),hg.tape.trans (hwa.tape.trans f.tape),hg.output.trans (hwa.output.trans f.output), ?_,fun k k1 k2 k3 k4=> ?_⟩
 ·have:=f.size;have:=hg.size;simp[World.setCell] at *;omega
 refine(Below.heap_setCell _ _ _ _ zo).trans ?_;have hk4:=Nat.lt_of_lt_of_le k1 f.size;exact(hg.block k (Nat.lt_of_lt_of_le hk4 hwa.size) (fun e=>k4 e.symm)).trans ((hwa.block k hk4).trans (f.block k k1 k2 k3 k4))
 ):zq:=h
theorem zm31(h:zq:=by
 have hne:lb≠c:=by
  rintro rfl;have:=h.lw;unfold mh at this;simp_all
 refine⟨(Below.heap_setCell _ _ _ _ zo).trans h.lw,gq h.bk (fK _ _ _ _) (Or.inr h3),gq h.ls (fK _ _ _ _) (Or.inr (fun e=>gp h.ls e hc h2)),⟨h.fr.os,h.fr.tape,h.fr.output,by simpa [World.setCell] using h.fr.size,fun k k1 k2 k3 k4=>(Below.heap_setCell _ _ _ _ (by show k≠c;omega)).trans (h.fr.block k k1 k2 k3 k4)⟩⟩
 ):zq:=h
theorem zm34(h:zq:=by
 subst hz;refine⟨fj h.lw 1 _,gq h.bk (fK _ _ _ _) (Or.inr (fun e=>gp h.bk e h.lw zp)),gq h.ls (fK _ _ _ _) (Or.inr (fun e=>gp h.ls e h.lw zp)),⟨h.fr.os,h.fr.tape,h.fr.output,by simpa [World.setCell] using h.fr.size,fun k h1 h2 h3 h4=>(Below.heap_setCell _ _ _ _ zo).trans (h.fr.block k h1 h2 h3 h4)⟩⟩
 ):zq:=h
theorem zm37(h:zq:=by
 rcases Nat.eq_zero_or_pos n with h0|h0
 ·subst h0;exact⟨_,_,_,rfl,zo,fun i hi=>zo⟩
 obtain⟨g,cap,hv,_⟩:=wJ hMS.ls h0;cases hv;refine(aft ⟨AF.of_owns hMS.ls, ?_⟩).allM zo;obtain⟨_,⟨hv2,_⟩|⟨g',cap',cur,hv2,_,hrow,_⟩⟩:=hMS.ls
 ·cases hv2
 cases hv2;exact⟨_,_,hrow⟩
 ):zq:=h
theorem zm51(h:zq:=by
 have hyl:ys.length=n:=by have:=HMS.out.ls.1;omega
 apply List.ext_getElem?;intro j;rw[List.getElem?_replicate]
 split
 ·rename_i hj;exact HY.out j zo
 simp_all
 ):zq:=h
theorem zm53(h:zq:=by
 clear h1 h2 h3 h4;go_wp2
 go_roundw
 ·exact⟨i+1,zo,zp,by go_num,trivial⟩
 simp[intOf];omega
 ):zq:=h
theorem zm64(h:zq:=by
 obtain⟨hl,⟨hv,_⟩|⟨g',cap',cur,hv,hg,hrow,hle,hcap,hcs,htake⟩⟩:=h
 ·cases hv
 cases hv;refine⟨by simp[hl],Or.inr ⟨g,cap,cur.setIfInBounds i v,rfl,hg,fj hrow i v,hle,hcap,za, ?_⟩⟩;rw[Array.toList_setIfInBounds,List.take_set,htake]
 ):zq:=h
theorem zm73(h:zq:=by
 obtain⟨_,⟨hv,_⟩|⟨g',cap',cur,hv,_,hrow,_⟩⟩:=HMS.out.ls
 ·omega
 cases hv;exact fi hrow i
 ):zq:=h
theorem zm88(h:zq:=by
 go_end0;exact⟨rfl,_,_,_,_,_,hLW,hO,hal,(aft h1).allM zo,(aft h2).allM zo,(aft h3).allM zo,k1,k2,k3,⟨_,_,_,rfl,k8.imp id (fun e=>by have:=hMS.fr.size;omega)⟩,hfr⟩
 ):zq:=h
theorem zm96(h:zq:=by
 have hin:¬ (i:Int)<(tr.length:Int)+8:=zo
 go_wp2_with (refine HMK.out.mono ?_)
 intro e w2 hp;have hpe:=hp.1;subst hpe;have HP:=fa hp;clear hp;go_wp2;go_ret;exact⟨rfl,HP.out⟩
 ):zq:=h
theorem zm102(h:zq:=by
 by_cases e:j=i
 ·simp_all
 rw[List.getElem?_set_ne zo];exact HY.out j zo
 ):zq:=h
theorem zm105(h:zq:=by
 obtain⟨cur,h1,h2,_⟩:=h.blk;exact⟨cur.toList,by simp[h2],Or.inr ⟨g,_,cur,rfl,Nat.zero_le _,h1,Nat.le_refl _,hn,zo,List.take_of_length_le (by simp[h2])⟩⟩
 ):zq:=h
theorem zm106(h:zq:=by
 have:=fj h.blk k (xd .u8 ((nk x).toNat:Int));rw[Gt] at this;exact this
 ):zq:=h
theorem zm115(h:zq:=by
 have h1:=HMX3.out.lw;have h2:=HB4.out;unfold mh at h1;rw[<-e,h1] at h2;cases h2
 ):zq:=h
theorem zm116(h:zq:=by
 obtain⟨_,⟨hv,_⟩|⟨g',cap',cur,hv,hg,hrow,_⟩⟩:=h.ls
 ·cases hv
 simp_all
 ):zq:=h
theorem zm125(h:zq:=by
 go_wp2;go_ret;exact⟨by rw[HF.out];rfl,rfl⟩
 ):zq:=h
theorem zm128(h:zq:=by
 refine⟨?_,(Below.heap_alloc _ _ _ zp).trans (ft _ _),gz.alloc zp _⟩;rw[sT];exact fk _ _ _ zp
 ):zq:=h
theorem zm129(h:zq:=by
 exact⟨0,Nat.zero_le _,rfl,HX0⟩
 ):zq:=h
theorem zm140(h:zq:=by
 exact⟨0,xs,Nat.zero_le _,rfl,HMS2,fa (fun j hj=>zo)⟩
 ):zq:=h
theorem C1{no:Option Addr}{nn nc:Nat}(h:w.ownsRow 0 144 3 (xa no nn nc) n cs):nn=n/\(n≠0-> ∃g,no=some ⟨g,0,none⟩/\n<=nc/\nc<=maxLen/\ ∃cur,w.heap[g]? =some (xi cur 144 (0,0))/\cur.toList.take (n * 3)=cs):=by
 exact zm118
theorem uJ: ∀(l:List Rl) (r:Rl),ib (l++[r])=ib l+gF (gL r)
 |[],r=>by simp[ib]
 |x::l,r=>by rw[List.cons_append,ib,ib,uJ l r];omega
theorem DB(w:World)(rs:List Rl)(a1:Option Addr)(a2 a3:Nat)(m1:Option Addr)(m2 m3:Nat)(cells:List Value)(hr:w.ownsRow 0 144 3 (xa m1 m2 m3) rs.length cells)(hp:BuP w rs cells)(hrs:rs.length<=401)(ar: ∀r∈rs,gF (gL r)<=100000):
  Calls prog 72 #[.agg #[xa a1 a2 a3,xa m1 m2 m3]] w fun e w'=>e=xm (xd xh (ib rs))/\Below w.heap.size w w':=by
 obtain⟨aB,J⟩:=C1 hr;have hn2a:m2<=rs.length:=zo;have hn2b:rs.length<=m2:=zo;have ai:=fa J;have HP:=fa hp;have aj:=fa ar;clear hr hp aB J ar;go_in;go_wp2
 go_loopw [3,9] (fun v i wr=> ∃k:Nat,i=xd xh (k:Int)/\v=xd xh (ib (rs.take k))/\k<=rs.length/\Below w.heap.size w wr) (fun _ i _=>rs.length - (intOf i).toNat)
 ·exact⟨0,rfl,rfl,Mz _,gz⟩
 obtain⟨k,rfl,rfl,hkk,I⟩:=hrel;by_cases hlt:k<rs.length
 ·obtain⟨r,rr,ht⟩: ∃r rr,rs.drop k=r::rr:=by
   cases hd:rs.drop k with
   |nil=>have:=congrArg List.length hd;simp at this;omega
   |cons r rr=>simp
  obtain⟨g,aC,hle,ak,cur,ad,R⟩:=ai zo;unfold maxLen at ak;have aq:=fh ad;obtain⟨wd,ao,an,ac,p,g0,g1,g2,g3⟩:=HP.at k ht;have U:=(I.block _ aq).trans ad;have d0:=(cell_of_blk U (k * 3)).trans (jL (k:=k * 3) (o:=0) R zo g0);have d1:=(cell_of_blk U (k * 3+1)).trans (jL R zo g1);have d2:=(cell_of_blk U (k * 3+2)).trans (jL R zo g2);have au:=I.size;subst aC;have aw:=fa (g3.keep (KB.below (w:=w) (w':=wr.alloc (xi #[xj wd,xa ao an ac,xk p] 144)) (I.alloc au _))).1;have aa:r∈rs:=List.mem_of_mem_drop (by rw[ht];exact List.mem_cons_self);have aD:=aj r aa;have hs2:ib (rs.take k)<=40100000:=by
   have h1:=qC 100000 (rs.take k) (fun x hx=>aj.out x (List.mem_of_mem_take hx));have h2:(rs.take k).length<=401:=by rw[MU];omega
   omega
  have ay:=fa (uJ (rs.take k) r);have ax:=fa (nK ht);have aA:(k:Int)<(m2:Int):=zo;have ag:=fa I;clear I ht ad R U cur g0 g1 g2 g3 aa;go_wp2_with fail;refine(tj (gL r) _ p aw.out aD).mono ?_;rintro e w2 ⟨rfl,n,rfl⟩;generalize hT:ib (rs.take k)=T at *;generalize hZ:gF (gL r)=Z at *;go_wp2
  go_roundw
  ·exact⟨k+1,zf,by rw[ax.out,ay.out];rfl,zo,(ag.out.alloc au _).trans ((jA _ n).mono zs)⟩
  simp[intOf];omega
 have az:rs.length<=k:=zo;have aA:¬ (k:Int)<(m2:Int):=zo;rw[MJ az];go_wp2;go_ret;trivial
theorem Kx{m:Nat}(hQ: ∀t,Q t->qI t)(hg:RlGood Q m r)(hc:r.call=true)(h:l9 al r=[]):C8 r:=by
 rcases hg with⟨_,_,_,_,x,hx,hxk,hargs⟩|⟨h1,_⟩
 ·unfold l9 at h;obtain⟨_,h2⟩:=List.append_eq_nil_iff.1 h;obtain⟨h3,h4⟩:=List.append_eq_nil_iff.1 h2;obtain⟨J,h6⟩:=List.append_eq_nil_iff.1 h4;have hn:gR r.word.s.toList<=11:=by
   simp_all
  have hlen:¬ r.args.length<(ir (gR r.word.s.toList)).length:=by
   simp_all
  have I: ∀{ks:List UInt8} {t:Tk} {l:List Tk},fArgs al ks (t::l)=[]->iq ks t=false/\fArgs al ks.tail l=[]:=by
   intro ks t l he;rw[fArgs,qK] at he;simp_all
  rcases tP hn with⟨ht,hk⟩|⟨ht,hk⟩|⟨ht,hk⟩
  ·rcases hargs with ha|⟨y,hy,hyk,ha⟩
   ·exact MX ⟨hk,x,ha,hxk⟩
   rw[ha,ht] at J;have:=I (I J).2;exact absurd this.1 (by simp[iq])
  ·rcases hargs with ha|⟨y,hy,hyk,ha⟩
   ·exact zm131
   rw[ha,ht] at J;have R:=(I (I J).2).1;rcases hyk with hyk|hyk
   ·simp[iq,hyk] at R
   obtain⟨c,U,aa,ad⟩:=vY (hQ y hy) hyk;exact MM (MX ⟨hk,x,y,ha,hxk,hyk,c,U,aa,ad⟩)
  rcases hargs with ha|⟨y,hy,hyk,ha⟩
  ·exact zm131
  rw[ha,ht] at J;have R:=(I (I J).2).1;rcases hyk with hyk|hyk
  ·exact MM (MM ⟨⟨hk,hn⟩,x,y,ha,hxk,hyk⟩)
  simp[iq,hyk] at R
 rw[h1] at hc;cases hc
theorem EW{m:Nat}(J: ∀t,Q t->qI t)(hg:RlGood Q m r):Ae r:=by
 intro hc;rcases hg with⟨_,_,_,_,x,hx,hxk,hargs⟩|⟨h1,_⟩
 ·rcases hargs with ha|⟨y,hy,hyk,ha⟩
  ·rw[ha];refine⟨fun t I=> ?_,zp,zp⟩;rw[MN] at I;subst I;exact MX hxk
  rw[ha];refine⟨fun t I=> ?_,zp,zp⟩;rcases List.mem_cons.1 I with rfl|I
  ·exact MX hxk
  rw[MN] at I;subst I;rcases hyk with hyk|hyk
  ·exact MX hyk
  exact MM ⟨hyk,vY (J _ hy) hyk⟩
 simp_all
theorem GW{m:Nat}(hg:RlGood Q m r):Af r:=by
 intro hc;rcases hg with⟨_,_,_,h,_⟩|⟨h1,_⟩
 ·omega
 simp_all
def RdP(s:ByteArray)(w w':World)(e:Ending):Prop:=
 Below w.heap.size w w'/\match iy s with
 | .error x=>e=xm (.tuple #[.agg #[xa none 0 0,xa none 0 0],.agg #[xd xh x.1,xd xh x.2]])
 | .ok (al,rs)=> ∃a1 a2 a3 m1 m2 m3 cells,e=xm (.tuple #[.agg #[xa a1 a2 a3,xa m1 m2 m3],.agg #[xd xh 0,xd xh 0]])/\w'.ownsRow 0 9 1 (xa a1 a2 a3) al.length (kE al)/\w'.ownsRow 0 144 3 (xa m1 m2 m3) rs.length cells/\BuP w' rs cells
theorem RdP.err{s:ByteArray}{e:Ending}{x:Nat × Nat}(I:Below w.heap.size w w')(h:iy s= .error x)(he:e=xm (.tuple #[.agg #[xa none 0 0,xa none 0 0],.agg #[xd xh x.1,xd xh x.2]])):RdP s w w' e:=by
 refine⟨I, ?_⟩;rw[h];exact he
theorem Jq{m:Nat}(hg:RlGood vS m r): ∀t∈r.args,t.s.size<=400:=by
 rcases hg with⟨_,_,_,_,x,hx,_,ha|⟨y,hy,_,ha⟩⟩|⟨_,_,_,ha⟩
 ·rw[ha];intro t I;rcases List.mem_singleton.1 I with rfl;exact hx.2
 ·rw[ha];intro t I;rcases List.mem_cons.1 I with rfl|I
  ·exact hx.2
  rcases List.mem_singleton.1 I with rfl;exact hy.2
 simp_all
def qL(w:World)(h:Nat)(u v x y:Value):World:=(((w.setCell ⟨h,0,none⟩ u).setCell ⟨h,1,none⟩ v).setCell ⟨h+1,0,none⟩ x).setCell ⟨h+1,1,none⟩ y
theorem r9{a b c:Value}(u v x y:Value)(R:w.heap[h]? =some (xi #[a,b] 78 (0,0)))(U:w.heap[h+1]? =some (xi #[c,d] 80 (0,0))):
  (qL w h u v x y).heap[h]? =some (xi #[u,v] 78 (0,0))/\(qL w h u v x y).heap[h+1]? =some (xi #[x,y] 80 (0,0)):=by
 have I:=fj (fj R 0 u) 1 v;have J:((w.setCell ⟨h,0,none⟩ u).setCell ⟨h,1,none⟩ v).heap[h+1]? =some (xi #[c,d] 80 (0,0)):=(Mt _ _ _ _ zp).trans ((Mt _ _ _ _ zp).trans U);refine⟨?_,fj (fj J 0 x) 1 y⟩;exact(Mt _ _ _ _ zp).trans ((Mt _ _ _ _ zp).trans I)
theorem wT(w:World)(h:Nat)(u v x y:Value){b:Nat}(I:b≠h)(J:b≠h+1):(qL w h u v x y).heap[b]? =w.heap[b]? :=
 (Mt _ _ _ _ J).trans ((Mt _ _ _ _ J).trans ((Mt _ _ _ _ I).trans (Mt _ _ _ _ I)))
theorem mM{x:Value}(J:Below w0.heap.size w0 w)(I:w0.heap.size<=h):Below w0.heap.size w0 (qL w h u v x y):=
 (((J.setCell (p:=⟨h,0,none⟩) I _).setCell (p:=⟨h,1,none⟩) I _).setCell (p:=⟨h+1,0,none⟩) (by show _<=h+1;omega) _).setCell (p:=⟨h+1,1,none⟩) (by show _<=h+1;omega) _
theorem CW{a b c:Value}(J:w.heap[h]? =some (xi #[a,b] 78 (0,0)))(h2:w.heap[h+1]? =some (xi #[c,d] 80 (0,0))){x:Value}:KB w (qL w h u v x y):=by
 intro k cc ty m I ht;rw[wT]
 ·omega
 ·rintro rfl;rw[J] at I;injection I with I;injection I with _ e _;subst e;omega
 rintro rfl;simp_all
theorem Fz{a b c:Value}(h1:w.heap[h]? =some (xi #[a,b] 78 (0,0)))(h2:w.heap[h+1]? =some (xi #[c,d] 80 (0,0))){x:Value}{t:Value}(ho:w.ownsRow 0 144 3 t n xs):(qL w h u v x y).ownsRow 0 144 3 t n xs:=by
 obtain⟨J,I⟩:=ho;refine⟨J, ?_⟩;rcases I with I|⟨g,cap,cur,hv,hg,hh,r⟩
 ·simp_all
 refine MM ⟨g,cap,cur,hv,hg, ?_,r⟩;rw[wT]
 ·omega
 ·rintro rfl;simp_all
 rintro rfl;simp_all
theorem H8(s:ByteArray)(hG:GV w):Calls prog 39 #[xj s] w fun e w'=>RdP s w w' e:=by
 have aF:Below w.heap.size w ((w.alloc (xi #[xa none 0 0,xa none 0 0] 78)).alloc (xi #[xd xh 0,xd xh 0] 80)):=gz.alloc zp _;have bg:((w.alloc (xi #[xa none 0 0,xa none 0 0] 78)).alloc (xi #[xd xh 0,xd xh 0] 80)).heap[w.heap.size]? =some (xi #[xa none 0 0,xa none 0 0] 78 (0,0)):=(Mw _ _ _ zp).trans (ft _ _);have bd:((w.alloc (xi #[xa none 0 0,xa none 0 0] 78)).alloc (xi #[xd xh 0,xd xh 0] 80)).heap[w.heap.size+1]? =some (xi #[xd xh 0,xd xh 0] 80 (0,0)):=fk _ _ _ zp;have aO:=fa aF;have ax:=fa bg;have ar:=fa bd;have bu:=fa (hG.later aF);by_cases hs:400<s.size
 ·have HL:Hid (iy s= .error (0,1)):=by show _=_;unfold iy;simp_all
  have b9:(400:Int)<(s.size:Int):=zo;clear aF bg bd hs hG;go_in;go_wp2;refine bodyPost_ret (v:= .tuple #[.agg #[xa none 0 0,xa none 0 0],.agg #[xd xh 0,xd xh 1]]) (by simp[results,results39,go_sem]) rfl ?_;exact RdP.err (gz.alloc zp _) HL rfl
 have HL:Hid (iy s=tE s.size (gW (jg s (s.size+1) 0))):=by show _=_;unfold iy;rw[if_neg hs]
 have b':s.size<=400:=zo;have b9:¬ (400:Int)<(s.size:Int):=zo;have bH:(jg s (s.size+1) 0).length<=401:=by have:=pX s (s.size+1) 0 (Mz _);omega
 have aT:=fa bH;have HQ:Hid (∀t∈jg s (s.size+1) 0,vS t):=fun t ht=>⟨q9 s _ _ t ht,by have:=pj s _ 0 (Mz _) t ht;omega⟩
 have b5:=fa (CM s (s.size+1) 0 (Mz _)).2;have bB:=fa (fun W hW=>Fp s W b' hW);generalize jg s (s.size+1) 0=L at *;clear aF bg bd hs hG bH;go_in
 go_wp2_with (refine(bB _ bu).mono ?_)
 rintro e w1 ⟨J,o1,n1,k1,o2,n2,k2,⟨al,rs,cells,q,rfl,ai,bE,bK,bI⟩|⟨q,rfl,ai⟩⟩
 ·have hg:=mJ vS L al rs ai HQ;have bG:al.length<=401:=by have:=aT.out;omega
  have bj:rs.length<=401:=by have:=aT.out;omega
  have b6:=fa (fun t ht=>(hg.1 t ht).1.2);have an:=fa (fun r hr=>(hg.2.2.2.1 r hr).mono aT);have bD:=fa (IF ai b5 (fun r hr=>GW (an r hr)));have aw:Hid (iy s=tE s.size (.ok (al,rs))):=by show _=_;rw[HL.out,ai]
  rw[show Hid (iy s=tE s.size (.ok (al,rs)))=Hid (iy s=if (meets (0,0) (jW al rs)).2≠0 then .error (meets (0,0) (jW al rs)) else if 16<ib rs then .error (s.size,4) else .ok (al,rs)) from rfl] at aw;have ag:=(J.block _ (fh ax.out)).trans ax.out;have I:=(J.block _ (fh ar.out)).trans ar.out;have bQ:=fh I;have ao:=iz w1 (xi #[xa o1 n1 k1,xa o2 n2 k2] 128);have ak:=fa ((aO.out.trans (J.mono zs)).alloc zo (xi #[xa o1 n1 k1,xa o2 n2 k2] 128));have aU:=fa ((ao.block _ zo).trans ag);have aP:=fa ((ao.block _ bQ).trans I);have aK:=fa (fL bE ao);have a7:=fa (fL bK ao);have aX:=fa (bI.keep (KQ.below ao));have bM:(w1.alloc (xi #[xa o1 n1 k1,xa o2 n2 k2] 128)).heap[w1.heap.size]? =some (xi #[xa o1 n1 k1,xa o2 n2 k2] 128 (0,0)):=ft _ _;have ba:=fa bM;clear ai hg ag I J bE bK bI bM ao ax ar aO bu bB HL;go_wp2_with fail;generalize w1.alloc (xi #[xa o1 n1 k1,xa o2 n2 k2] 128)=w2 at *;refine(ED w2 al rs o1 n1 k1 o2 n2 k2 cells aK.out a7.out aX.out (fun r hr=>EW (fun t h=>h.1) (an.out r hr)) bG bj).mono ?_;rintro e w3 ⟨rfl,R⟩;rw[bD.out];generalize hZ:meets (0,0) (jW al rs)=z at *;have HZ:=fa hZ;have aq:=fa (ak.out.trans (R.mono ak.out.size));have aG:=(R.block _ (fh aU.out)).trans aU.out;have az:=(R.block _ (fh aP.out)).trans aP.out;have bl:=(R.block _ (fh ba.out)).trans ba.out;have bx:=fa aG;have bt:=fa az;have aL:=fa (fL aK.out R);have a8:=fa (fL a7.out R);have aY:=fa (aX.out.keep (KQ.below R));have ca:=fh az;have cb:w.heap.size<w3.heap.size:=zo;have hz5:=fh bl;have aj:=cell_of_blk aG;have aa:=cell_of_blk az;have rf:=fi aG;have ff:=fi az;have sc:=cell_of_blk bl;clear hZ R aG az bl aU aP ba aK a7 aX ak bD;by_cases hx:z.2=0
  ·have bN:((z.2:Nat):Int)=0:=zo;have aB:Hid (iy s=if 16<ib rs then .error (s.size,4) else .ok (al,rs)):=by show _=_;rw[aw.out,if_neg zo]
   have aS:=fa (r4 (oy al rs) (by rw[HZ.out];exact hx));have bV:=fa (fun r hr hc=>Kx (fun t h=>h.1) (an r hr) hc ((mI (List.append_eq_nil_iff.1 aS).2 r hr).2 hc));have bz:=fa (fun r hr hc=>xN (fun t h=>h.1) (an r hr) hc ((mI (List.append_eq_nil_iff.1 aS).2 r hr).2 hc));have bZ:Hid (∀r∈rs,gF (gL r)<=100000):=fun r hr=>by have:=xt (an r hr) (bz r hr);omega
   clear aS aw hx HZ bz;have ad:=iz w3 (xi #[xd xh z.1,xd xh 0] 80);have bm:=fa (fL aL.out ad);have bC:=fa (fL a8.out ad);have bA:=fa (aY.out.keep (KQ.below ad));have aM:=fa (aq.out.trans (ad.mono aq.out.size));have aV:=fa ((ad.block _ cb).trans bx.out);have aQ:=fa ((ad.block _ ca).trans bt.out);clear ad aL a8 aY aq;go_wp2_with fail;refine(Ew al rs o1 n1 k1 o2 n2 k2 cells bm.out bC.out bA.out bV.out bG bj b6.out (fun r hr=>Jq (an.out r hr))).mono ?_;rintro e w5 ⟨aE,a1,a2,a3,m1,m2,m3,cs,rfl,bF,bL,bJ⟩;have bh:=(aE.block _ (fh aV.out)).trans aV.out;have bf:=(aE.block _ (fh aQ.out)).trans aQ.out;have bq:=fa (aM.out.trans (aE.mono aM.out.size));have ae:=iz w5 (xi #[xa a1 a2 a3,xa m1 m2 m3] 78);have bn:=fa (fL bF ae);have a':=fa (fL bL ae);have a6:=fa (bJ.keep (KB.below ae));have aN:=fa (bq.out.trans (ae.mono bq.out.size));have aW:=fa ((ae.block _ (fh bh)).trans bh);have aR:=fa ((ae.block _ (fh bf)).trans bf);have bO:(w5.alloc (xi #[xa a1 a2 a3,xa m1 m2 m3] 78)).heap[w5.heap.size]? =some (xi #[xa a1 a2 a3,xa m1 m2 m3] 78 (0,0)):=ft _ _;have bc:=fa bO;clear aj aa rf ff sc aE bF bL bJ bh bf ae bO bm bC bA aM aV aQ;go_wp2_with fail;generalize w5.alloc (xi #[xa a1 a2 a3,xa m1 m2 m3] 78)=w6 at *;refine(DB w6 rs a1 a2 a3 m1 m2 m3 cs a'.out a6.out bj bZ.out).mono ?_;rintro e w7 ⟨rfl,U⟩;have bU:=fa (fL bn.out U);have b4:=fa (fL a'.out U);have b3:=fa (a6.out.keep (KB.below U));have br:=fa (aN.out.trans (U.mono aN.out.size));have aH:=(U.block _ (fh aW.out)).trans aW.out;have aA:=(U.block _ (fh aR.out)).trans aR.out;have bP:=(U.block _ (fh bc.out)).trans bc.out;have ay:=fa aH;have au:=fa aA;have hz7:=fh aA;have aj:=cell_of_blk aH;have aa:=cell_of_blk aA;have rf:=fi aH;have ff:=fi aA;have xc:=cell_of_blk bP;clear U aH aA bP bn a' a6 aN aW aR bc;generalize hN:ib rs=n at *;clear hN;by_cases hx:16<n
   ·have bN:(16:Int)<(n:Int):=zo;have av:Hid (iy s= .error (s.size,4)):=by show _=_;rw[aB.out,if_pos hx]
    clear xc aB;go_wp2;clear aj aa;obtain⟨f1,f2⟩:=r9 (xa none 0 0) (xa none 0 0) (xd xh s.size) (xd xh 4) ay au;have rc:=cell_of_blk f1;have fc:=cell_of_blk f2;unfold qL at rc fc;refine bodyPost_ret (v:= .tuple #[.agg #[xa none 0 0,xa none 0 0],.agg #[xd xh s.size,xd xh 4]]) (by simp[results,results39,go_sem,rc,fc]) rfl ?_;exact RdP.err (mM br (Mu _)) av rfl
   have av:Hid (iy s= .ok (al,rs)):=by show _=_;rw[aB.out,if_neg hx]
   clear aB;go_wp2;clear aj aa xc;obtain⟨f1,f2⟩:=r9 (xa a1 a2 a3) (xa m1 m2 m3) (xd xh 0) (xd xh 0) ay au;have rc:=cell_of_blk f1;have fc:=cell_of_blk f2;unfold qL at rc fc;refine bodyPost_ret (v:= .tuple #[.agg #[xa a1 a2 a3,xa m1 m2 m3],.agg #[xd xh 0,xd xh 0]]) (by simp[results,results39,go_sem,rc,fc]) rfl ?_;refine⟨mM br (Mu _), ?_⟩;rw[av.out];refine⟨a1,a2,a3,m1,m2,m3,cs,rfl, ?_, ?_, ?_⟩
   ·exact(CW ay au).owns bU
   ·exact Fz ay au b4
   exact b3.keep (CW ay au)
  have bN:¬ ((z.2:Nat):Int)=0:=zo;have av:Hid (iy s= .error z):=by show _=_;rw[aw.out,if_pos hx]
  clear aw hx aL a8 aY sc;go_wp2
  go_region
  go_wp2;clear aj aa;obtain⟨f1,f2⟩:=r9 (xa none 0 0) (xa none 0 0) (xd xh z.1) (xd xh z.2) bx bt;have rc:=fun o=>cell_of_blk ((Mw _ (xi #[xd xh z.1,xd xh z.2] 80) _ (fh f1)).trans f1) o
  have fc:=fun o=>cell_of_blk ((Mw _ (xi #[xd xh z.1,xd xh z.2] 80) _ (fh f2)).trans f2) o
  unfold qL at rc fc;refine bodyPost_ret (v:= .tuple #[.agg #[xa none 0 0,xa none 0 0],.agg #[xd xh z.1,xd xh z.2]]) (by simp[results,results39,go_sem,rc,fc]) rfl ?_;exact RdP.err ((mM aq (Mu _)).alloc (mM aq (Mu _)).size _).drew av rfl
 have bX:Hid (iy s= .error (q,2)):=by show _=_;rw[HL.out,ai];rfl
 have ag:=(J.block _ (fh ax)).trans ax;have I:=(J.block _ (fh ar)).trans ar;have ak:=fa (aO.trans (J.mono zs));have bQ:=fh I;have hz0:w.heap.size<w1.heap.size:=zo;have bY:=fa ag;have bW:=fa I;have rf:=fi ag;have ff:=fi I;have aj:=cell_of_blk ag;have aa:=cell_of_blk I;clear ag I J ai;go_wp2;clear aj aa;obtain⟨f1,f2⟩:=r9 (xa none 0 0) (xa none 0 0) (xd xh q) (xd xh 2) bY bW;have rc:=fun o=>cell_of_blk ((Mw _ (xi #[xa o1 n1 k1,xa o2 n2 k2] 128) _ (fh f1)).trans f1) o
 have fc:=fun o=>cell_of_blk ((Mw _ (xi #[xa o1 n1 k1,xa o2 n2 k2] 128) _ (fh f2)).trans f2) o
 unfold qL at rc fc;refine bodyPost_ret (v:= .tuple #[.agg #[xa none 0 0,xa none 0 0],.agg #[xd xh q,xd xh 2]]) (by simp[results,results39,go_sem,rc,fc]) rfl ?_;exact RdP.err ((mM ak (Mu _)).alloc (mM ak (Mu _)).size _) bX rfl
def nk(x:Bool):UInt8:=if x=true then 1 else 0
theorem pP(x:Bool):((nk x).toNat:Int)=if x=true then 1 else 0:=by cases x<;>rfl
def gH(b:List Bool):ByteArray:=⟨(b.map nk).toArray⟩
theorem nI(b:List Bool):(gH b).data.toList=b.map nk:=zf
theorem k9(b:List Bool):(gH b).size=b.length:=by rw[<-size_data,nI,MH]
theorem Ai{y:Bool}(h:nk x=nk y):x=y:=by cases x<;>cases y<;>first|rfl|trivial
theorem Bu{a:List Bool}(h:gH a=gH b):a=b:=by
 have:=congrArg (fun s=>s.data.toList) h;simp only[nI] at this;exact(List.map_inj_right (fun _ _ e=>Ai e)).1 this
theorem nH{k:Nat}(hk:k<(gH b).size)(h:b[k]? =some x):((gH b)[k].toNat:Int)=if x=true then 1 else 0:=by
 have e:(gH b).data.toList[k]? =some (gH b)[k]:=by
  rw[Ms zv];rfl
 rw[nI,MR,h] at e;have I:=Option.some.inj e;rw[<-I,pP]
theorem DU(b:List Bool)(k:Nat)(x:Bool)(h:b[k]? =some x)(w:World):
  Calls prog 129 #[xj (gH b),xd xh (k:Int)] w fun e w'=>e=xm (xn x)/\w'=w:=by
 have J:k<(gH b).size:=by rw[k9];exact(List.getElem?_eq_some_iff.1 h).1
 have I:=fa (nH J h);generalize gH b=s at *;go_in;go_wp2;go_ret;refine⟨jG ?_,rfl⟩;rw[I.out];cases x<;>decide
theorem Ie(b:List Bool):decide (0<=Lib.indexByte (gH b).data.toList 1)=b.any id:=by
 rw[<-Lib.contains_iff_indexByte,nI]
 induction b with
 |nil=>rfl
 |cons x r ih=>
  rw[List.map_cons,List.contains_cons,ih,List.any_cons];cases x<;>rfl
theorem Bt(b:List Bool)(w:World):
  Calls prog 130 #[xj (gH b)] w fun e w'=>e=xm (xn (!b.any id))/\w'=w:=by
 have I:=fa (Tryz.strings_Contains_one (gH b) 1 w);rw[Ie] at I;generalize gH b=s at *;go_in;go_wp2_with fail;refine I.out.mono ?_;rintro e w1 ⟨rfl,hw⟩;have J:=hw.symm;clear hw;subst J;go_wp2;go_ret;simp
theorem EV(b:List Bool)(hb:b≠[])(w:World):
  Calls prog 84 #[xj (gH b)] w fun e w'=>e=xm (xd xh (jN b:Nat))/\w'=w:=by
 obtain⟨x,R⟩: ∃x,b[0]? =some x:=by
  cases b with
  |nil=>trivial
  |cons x r=>simp
 have HF:Hid (jN b=(if x=true then 1 else 0)+(if b.any id=true then 2 else 0)):=by
  show _=_;unfold jN;simp_all
 have HH:=fa (DU b 0 x R w);have J:=fa (Bt b w);generalize gH b=s at *;generalize b.any id=y at *;clear R hb;go_in;go_wp2_with fail;refine HH.out.mono ?_;rintro e U ⟨rfl,hw⟩;have I:=hw.symm;clear hw;subst I;cases x with
 |true=>
  go_wp2_with fail;refine J.out.mono ?_;rintro e U ⟨rfl,hw⟩;have I:=hw.symm;clear hw;subst I;cases y with
  |true=>
   exact zm125
  |false=>
   exact zm125
 |false=>
  go_wp2_with fail;refine J.out.mono ?_;rintro e U ⟨rfl,hw⟩;have I:=hw.symm;clear hw;subst I;cases y with
  |true=>
   exact zm125
  |false=>
   exact zm125
def o7(b:List Bool):Array Value:=(b.map fun x=>xd .u8 ((nk x).toNat:Int)).toArray
theorem oh{k:Nat}(h:b[k]? =some x):(o7 b)[k]? =some (xd .u8 ((nk x).toNat:Int)):=by
 unfold o7;simp_all
theorem Gt(b:List Bool)(k:Nat)(x:Bool):(o7 b).setIfInBounds k (xd .u8 ((nk x).toNat:Int))=o7 (b.set k x):=by
 unfold o7;simp
theorem sT(n:Nat):o7 (My n false)=Array.replicate n (xd .u8 0):=by unfold o7;simp[nk]
theorem yr(w:World){g:Nat}(n:Nat){ty:Nat}(h:w.heap[g]? =some (xi (o7 b) ty m))(hn:b.length=n):
  (convert 51 151 (xa (some ⟨g,0,none⟩) n n)).run prog w= .ok (xj (gH b)) w:=by
 have:=run_convert_bytes_back (P:=prog) w 51 151 5 ⟨g,0,none⟩ n (b.map nk) underlying51 underlying5 underlying151 (fun j J=>by
  have I:j<b.length:=by simpa using J
  rw[Addr.add_lit,Nat.zero_add,cell_of_blk h,oh (Ms I)];simp)
 rw[MH,hn] at this;exact this
def iu(b:List Bool)(k:Nat):List Bool:=b.take k++My (b.length - k) false
theorem mH{k:Nat}(hk:k<=b.length):(iu b k).length=b.length:=by unfold iu;simp;omega
theorem mG(b:List Bool):iu b b.length=b:=by unfold iu;simp
theorem mW(b:List Bool):iu b 0=My b.length false:=zf
theorem lX{k:Nat}(h:b[k]? =some x):iu b (k+1)=(iu b k).set k x:=by
 have hk:=(List.getElem?_eq_some_iff.1 h).1;unfold iu;rw[MT,h];obtain⟨m,hm⟩: ∃m,b.length - k=m+1:=⟨b.length - k - 1,zo⟩;rw[hm,show b.length - (k+1)=m from zo];have I:(b.take k).length=k:=by rw[MU];omega
 rw[List.set_append_right _ _ zo,I,Nat.sub_self,ML,List.set_cons_zero];simp
theorem uA{k:Nat}(h:b[k]? =some false):iu b (k+1)=iu b k:=by
 have hk:=(List.getElem?_eq_some_iff.1 h).1;unfold iu;rw[MT,h];obtain⟨m,hm⟩: ∃m,b.length - k=m+1:=⟨b.length - k - 1,zo⟩;rw[hm,show b.length - (k+1)=m from zo,ML];simp
theorem Tryz.infoPF:(prog.info? 142).map (fun i=>(i.zero,i.size,i.bytes))=some (some (xk none),1,8):=zk
def tC(ps:List (Option Addr)):List Value:=ps.map fun p=> xk p
theorem Fx(ps:List (Option Addr))(p:Option Addr):tC (ps++[p])=tC ps++[xk p]:=by simp[tC]
theorem FpS.of{ps:List (Option Addr)}(hn:n=ps.length)(h:w.ownsRow base 142 1 (xa o n c) n (tC ps)):FpS w o ps:=by
 subst hn;intro j p hp;have U:j<ps.length:=by
  rcases MO j ps.length with h|h
  ·omega
  simp_all
 obtain⟨g,I,J,R⟩:=hD h U;exact⟨g,I,J,R.trans (by rw[tC,MR,hp];rfl)⟩
structure MW (w W:World) (lo:Option Addr) (k lc:Nat) (ps:List (Option Addr)) (rs:List Rl):Prop where
 rb:W.heap[w.heap.size+1]? =some (xi #[xa none 0 0,xd .u32 0] 149 (0,0))
 own:W.ownsRow (w.heap.size+2) 142 1 (xa lo k lc) k (tC ps)
 ps:PsG w rs ps
 bel:Below w.heap.size w W
theorem PsG.snoc{ps:List (Option Addr)}{p:Option Addr}(h:PsG w rs ps)(U:IsG w (gL r) p):PsG w (rs++[r]) (ps++[p]):=by
 refine⟨by simp[h.1],fun j r' p' I J=> ?_⟩;rcases MO j rs.length with hj|hj
 ·rw[ME hj] at I;rw[ME (by rw[<-h.1];omega)] at J;exact h.2 j r' p' I J
 rw[MD hj] at I;rw[MD (by rw[<-h.1];omega)] at J;have R:j - rs.length=0:=by
  rcases MP (j - rs.length) with h|h
  ·omega
  rw[MK zs] at I;cases I
 rw[R] at I;rw[<-h.1,R] at J;cases I;cases J;exact U
theorem StS.set{S:List Sp}{i ty:Nat}{k:Nat}{z:Value}(h:StS w o S)(hc:w.heap[c]? =some (xi #[xa a n k,y] ty m)):StS (w.setCell ⟨c,i,none⟩ z) o S:=by
 intro j d J;obtain⟨g,h1,h2,I,h4,h5,h6⟩:=h j d J;have hne:g≠c:=by
  rintro rfl;rw[cell_of_blk hc] at I;rcases MP j with rfl|hj
  ·simp_all
  rw[Array.getElem?_eq_none (by show 2<=j * 4;omega)] at I;cases I
 have e: ∀x,(w.setCell ⟨c,i,none⟩ z).cell? ⟨g,x,none⟩=w.cell? ⟨g,x,none⟩:=by
  intro x;have:=Mt w ⟨c,i,none⟩ z g zo;unfold World.cell?;simp_all
 simp_all
theorem MW.later{k:Nat}{ps:List (Option Addr)}(h:MW w W lo k lc ps rs)(I:Below W.heap.size W W'):MW w W' lo k lc ps rs:=
 ⟨(I.block _ (fh h.rb)).trans h.rb,fL h.own I,h.ps,h.bel.trans (I.mono h.bel.size)⟩
theorem MW.app{k:Nat}{ps:List (Option Addr)}(h:MW w W lo k lc ps rs){p:Option Addr}(J:PsG w (rs++[r]) (ps++[p])){g:Nat}(ho:W'.ownsRow (w.heap.size+2) 142 1 (xa (some ⟨g,0,none⟩) (k+1) cap) (k+1) (tC ps++[xk p]))(hg:W.grownBy W' (xa lo k lc).ownBlock):MW w W' (some ⟨g,0,none⟩) (k+1) cap (ps++[p]) (rs++[r]):=
 ⟨(hg.block _ (fh h.rb) (fun e=>gp h.own e.symm h.rb zp)).trans h.rb,by rw[Fx];exact ho,J,h.bel.grown hg h.bel.size (fun b I=>by have:=(gG h.own b I).1;omega)⟩
theorem El(rs:List Rl)(a1:Option Addr)(a2 a3:Nat)(m1:Option Addr)(m2 m3:Nat)(cells:List Value)(hr:w.ownsRow 0 144 3 (xa m1 m2 m3) rs.length cells)(hp:BuP w rs cells)(hn:ib rs<=16)(aV:rs.length<=401)(aB: ∀r∈rs,gL r≠ .nil):
  Calls prog 78 #[.agg #[xa a1 a2 a3,xa m1 m2 m3]] w fun e w'=>Em rs w w' e:=by
 obtain⟨i0,aP,a6,a7,a8⟩:=info_parts Tryz.infoPF;obtain⟨aT,R⟩:=C1 hr;have hn2a:m2<=rs.length:=zo;have hn2b:rs.length<=m2:=zo;have av:=fa R;have HP:=fa hp;have aH:=fa aB;clear hr hp aT R aB;have aF:Hid (MW w ((w.alloc (xi #[xa a1 a2 a3,xa m1 m2 m3] 78)).alloc (xi #[xa none 0 0,xd .u32 0] 149)) none 0 0 [] []):=
  ⟨fk _ _ _ zp,World.ownsRow_nil _ _ _ _,⟨rfl,fun j r p h=>by simp at h⟩,gz.alloc zp _⟩
 go_in;go_wp2_with fail;generalize ((w.alloc (xi #[xa a1 a2 a3,xa m1 m2 m3] 78)).alloc (xi #[xa none 0 0,xd .u32 0] 149))=W0 at *
 go_loopw [3,9] (fun lv x wr=> ∃(k:Nat) (lo:Option Addr) (lc:Nat) (ps:List (Option Addr)),k<=rs.length/\lv=xa lo k lc/\x=xd xh k/\Hid (MW w wr lo k lc ps (rs.take k))) (fun _ x _=>rs.length - (intOf x).toNat)
 ·exact⟨0,none,0,[],Mz _,rfl,rfl,aF⟩
 obtain⟨k,lo,lc,ps,hk,rfl,rfl,I⟩:=hrel;have hwsz:=I.bel.size;have hrlt:=fh I.rb;by_cases hlt:k<rs.length
 ·obtain⟨r,rr,ht⟩: ∃r rr,rs.drop k=r::rr:=by
   cases hd:rs.drop k with
   |nil=>have:=congrArg List.length hd;simp at this;omega
   |cons r rr=>simp
  obtain⟨g,aU,hle,ax,cur,ai,U⟩:=av zo;unfold maxLen at ax;have aA:=fh ai;obtain⟨wd,ao,an,ac,p,g0,g1,g2,g3⟩:=HP.at k ht;have aa:=(I.bel.block _ aA).trans ai;have d0:=(cell_of_blk aa (k * 3)).trans (jL (k:=k * 3) (o:=0) U zo g0);have d1:=(cell_of_blk aa (k * 3+1)).trans (jL U zo g1);have d2:=(cell_of_blk aa (k * 3+2)).trans (jL U zo g2);subst aU;have aL:=fa (nK ht);have aJ:=fa (I.ps.snoc g3.1);have aS:(k:Int)<(m2:Int):=zo;have ar:=fa (I.later (((Mx wr.heap.size wr).alloc (Mu _) (xi #[xj wd,xa ao an ac,xk p] 144)).alloc zp (xi #[xk p] 142)));clear ht ai U aa cur g0 g1 g2 g3
  go_wp2_with (at_builtin;go_must (refine wpList_append_lies _ rfl _ _ 212 rfl (w.heap.size+2) 142 i0 (xk none) 1 8 underlying212 aP a6 a7 a8 rfl zd _ k (tC ps) rfl ?c0 ⟨wr.heap.size+1,0,none⟩ 1 1 [xk p] rfl rfl ?c1 ?c2 zd ?c3 ?c4 ?c5 (wr.heap.size+2) ?c6 ?_))
  case c0=>exact ar.out.own
  case c1=>
   intro j u hj
   match j,hj with
   |0,hj=>simp at hj;subst hj;exact cell_of_blk (fk _ _ _ zp) 0
   |j+1,hj=>simp at hj
  case c2=>intro u hu;simp at hu;subst hu;rfl
  case c3=>unfold maxLen;omega
  case c4=>omega
  case c5=>simp;omega
  case c6=>simp
  intro g8 aw q8 ad J _ _;have aG:=fa (ar.out.app aJ.out ad J);clear ad J;go_wp2
  go_roundw
  ·exact⟨k+1,some ⟨g8,0,none⟩,aw,ps++[p],zo,rfl,zf,by rw[aL.out];exact aG⟩
  simp[intOf];omega
 have aS:¬ (k:Int)<(m2:Int):=zo;have aQ:rs.take k=rs:=MJ zo;rw[aQ] at I;have aR:k=rs.length:=zo;subst aR;have aE:=fa (FpS.of I.ps.1 I.own);have aI:=fa (BO wr rs ps lo lc aE (I.ps.later I.bel) hn aV aH)
 go_wp2_with (refine aI.mono ?_)
 rintro e w5 ⟨so,sc,rfl,aC,ag⟩;have hrb:=(ag.block _ (fh I.rb)).trans I.rb;have rc:=cell_of_blk hrb;have rf:=fi hrb;have aq:=fa (I.bel.trans (ag.mono I.bel.size));have aK:=fa aC;have au:=fa hrb;clear ag aC hrb;go_wp2;have ay:=fj au 0 (xa so (gD rs []).length sc);have az:=fj ay 1 (xd .u32 ((gY rs [] 0:Nat):Int));have aW:StS (w5.setCell ⟨w.heap.size+1,0,none⟩ (xa so (gD rs []).length sc)) so (gD rs []):=aK.set au;have aX:StS ((w5.setCell ⟨w.heap.size+1,0,none⟩ (xa so (gD rs []).length sc)).setCell ⟨w.heap.size+1,1,none⟩ (xd .u32 ((gY rs [] 0:Nat):Int))) so (gD rs []):=aW.set (a:=so) (n:=(gD rs []).length) (k:=sc) (y:= xd .u32 0) ay;have aO:Below w.heap.size w ((w5.setCell ⟨w.heap.size+1,0,none⟩ (xa so (gD rs []).length sc)).setCell ⟨w.heap.size+1,1,none⟩ (xd .u32 ((gY rs [] 0:Nat):Int))):=by
  have h1:=aq.grown (fK w5 (w.heap.size+1) 0 (xa so (gD rs []).length sc)) aq.size (fun b hb=>by cases hb;omega);exact h1.grown (fK _ _ _ _) h1.size (fun b hb=>by cases hb;omega)
 generalize ((w5.setCell ⟨w.heap.size+1,0,none⟩ (xa so (gD rs []).length sc)).setCell ⟨w.heap.size+1,1,none⟩ (xd .u32 ((gY rs [] 0:Nat):Int)))=wf at *;have aj:=az;have fc:=cell_of_blk aj;refine bodyPost_ret (v:= .agg #[xa so (gD rs []).length sc,xd .u32 ((gY rs [] 0:Nat):Int)]) (by simp[results,results78,go_sem,fc]) rfl ?_;exact⟨so,sc,rfl,aX,aO⟩
open Go.ChangeShapes Go.WideShapes Go.ChangeAt
theorem L':ownKnob prog.godebug=none:=zk
theorem G9:laidOutB prog=true:=zk
theorem qS:prog.cellsOf 74=7:=zk
theorem Am:prog.cellsOf 3=1:=zk
theorem pR:prog.cellsOf 9=1:=zk
theorem EB:prog.cellsOf 25=1:=zk
theorem Ez:prog.cellsOf 33=1:=zk
theorem EC:prog.cellsOf 34=1:=zk
section
variable {H : Type} {enc : TypeId × Value -> H}
theorem tL{sp:Nat->Bool}{held:Bool}{e:TypeId}{x:DataW H × List MemPlace}(I:prog.underlying t=some (.slice e))(h:DataW.trod enc prog w base sp held fuel t cs=some x):
  ∃a n k,cs=[xa a n k]:=by
 rcases DataW.trod_slice I h with⟨h0,_⟩|⟨a,len,cap,_,_,_,_,h0,_⟩
 ·simp_all
 simp_all
theorem JM{sp:Nat->Bool}{held:Bool}{x:DataW H × List MemPlace}(h:DataW.trod enc prog w base sp held fuel 74 cs=some x):
  ∃(kd oa:Int) (os ot:ByteArray) (l1:Option Addr) (l2 l3:Nat) (J:Option Addr) (R U:Nat) (m1:Option Addr) (m2 m3:Nat),cs=[xd xh kd,xd xh oa,xj os,xj ot,xa l1 l2 l3,xa J R U,xa m1 m2 m3]:=by
 obtain⟨xs,n,_,_,hl,I,hf⟩:=DataW.trod_struct underlying74 h;rw[qS] at hl
 match cs,hl with
 |[c0,c1,c2,c3,c4,c5,c6],_=>
 have h7:=I
 match xs,h7 with
 |[y0,y1,y2,y3,y4,y5,y6],_=>
 have t0:=hf 0 _ rfl;have t1:=hf 1 _ rfl;have t2:=hf 2 _ rfl;have t3:=hf 3 _ rfl;have t4:=hf 4 _ rfl;have t5:=hf 5 _ rfl;have t6:=hf 6 _ rfl;simp[Am,pR,EB,Ez,EC] at t0 t1 t2 t3 t4 t5 t6;obtain⟨kd,e0,_⟩:=DataW.trod_int underlying3 t0;obtain⟨oa,e1,_⟩:=DataW.trod_int underlying3 t1;obtain⟨os,e2,_⟩:=DataW.trod_string underlying9 t2;obtain⟨ot,e3,_⟩:=DataW.trod_string underlying9 t3;obtain⟨l1,l2,l3,e4⟩:=tL underlying25 t4;obtain⟨J,R,U,e5⟩:=tL underlying33 t5;obtain⟨m1,m2,m3,e6⟩:=tL underlying34 t6;simp_all
end
/-! What the row's list of variables gives. -/
theorem pW{P:Program}: ∀{l:List (String × DataW Unit)} {ps:List MemPlace},DataW.LaidVars P w l ps-> ∀x∈l,∃g t cs fuel p,P.globalNamed x.1=some g/\(P.globals[g]?).map (·.type)=some t/\w.var? P x.1=some cs/\DataW.trod (fun _=>()) P w 0 (fun _=>true) false fuel t cs.toList=some (x.2,p)
 |[],_,_,x,hx=>(List.not_mem_nil hx).elim
 |(n,d)::r,ps,⟨g,t,cs,fuel,p,q,h1,h2,h3,h4,h5,_⟩,x,hx=>by
  rcases List.mem_cons.1 hx with rfl|hx
  ·exact⟨g,t,cs,fuel,p,h1,h2,h3,h4⟩
  exact pW h5 x hx
theorem ya{P:Program}{n:String}{g:Nat}{cs:Array Value}(hg:P.globalNamed n=some g)(h:w.var? P n=some cs): ∃t m,w.heap[g]? =some (xi cs t m):=by
 unfold World.var? at h;rw[hg] at h;simp only[Option.bind_some] at h
 split at h
 ·simp_all
 cases h
theorem sR{P:Program}{sp:Nat->Bool}{held:Bool}{e:TypeId}{k:Nat} 
  (ht:P.underlying t=some (.array n e))(J:P.cellsOf e=k)(R:P.cellsOf t=n * k)
  (h:DataW.trod (fun _=>()) P w base sp held fuel t cs=some (.agg ds,p)):
  cs.length=n * k/\ds.length=n/\ ∀i d,ds[i]? =some d-> ∃f q,DataW.trod (fun _=>()) P w base sp held f e ((cs.drop (i * k)).take k)=some (d,q):=by
 cases fuel with
 |zero=>trivial
 |succ fuel=>
  simp only[DataW.trod,ht,J,R] at h
  split at h
  ·rename_i hl
   obtain⟨xs,hm,hx⟩:=Option.map_eq_some_iff.1 h;have I:xs.map (·.1)=ds:=by
    simp_all
   have aa:xs.length=n:=by simpa using Lib.mapM_length hm
   refine⟨zo,by rw[<-I];simpa using aa,fun i d U=> ?_⟩;have hi:i<n:=by
    rcases MO i n with h|h
    ·omega
    rw[MK (by rw[<-I];simp;omega)] at U;cases U
   obtain⟨b,hb,hf⟩:=Lib.mapM_at hm i i (by simp[hi]);have h2:(xs.map (·.1))[i]? =some b.1:=by simp[hb]
   rw[I,U] at h2;cases h2;exact⟨_,b.2,hf⟩
  cases h
theorem chunks{k:Nat}(F:α->List Value)(J: ∀x,(F x).length=k): ∀(l:List α) (cs:List Value),cs.length=l.length * k->(∀i x,l[i]? =some x->(cs.drop (i * k)).take k=F x)->cs=l.flatMap F
 |[],cs,hl,_=>za
 |x::r,cs,hl,h=>by
  have I:=h 0 x rfl;simp at I;have hr:=chunks F J r (cs.drop k) (by simp at hl|-;rw[hl,Nat.succ_mul];omega) (fun i y hy=>by
   have:=h (i+1) y zv;rw[List.drop_drop];rw[Nat.succ_mul,Nat.add_comm] at this;omega)
  rw[List.flatMap_cons,<-hr,<-I,List.take_append_drop]
theorem DZ{sp:Nat->Bool}{held:Bool}{l:List (List UInt8)} 
  (J:prog.underlying t=some (.array n 9))(hct:prog.cellsOf t=n)
  (h:DataW.trod (fun _=>()) prog w base sp held fuel t cs=some (.agg (l.map fun x=> .lit (.string x)),p)):cs=l.flatMap fun x=>[xj ⟨x.toArray⟩]:=by
 obtain⟨h1,h2,I⟩:=sR J pR zo h;refine chunks (k:=1) _ (fun _=>rfl) l cs za (fun i x R=> ?_);obtain⟨f,q,hf⟩:=I i (.lit (.string x)) (by simp[R]);obtain⟨s,e1,e2,_⟩:=DataW.trod_string underlying9 hf;simp_all
theorem uK{sp:Nat->Bool}{held:Bool}{l:List (List UInt8 × Int)} 
  (ht:prog.underlying t=some (.array n 309))(R:prog.cellsOf t=n * 2)(I:prog.cellsOf 309=2)
  (h:DataW.trod (fun _=>()) prog w base sp held fuel t cs=some (.agg (l.map fun x=> .agg [.lit (.string x.1),.lit (.int xh x.2)]),p)):cs=l.flatMap fun x=>[xj ⟨x.1.toArray⟩,xd xh x.2]:=by
 obtain⟨h1,h2,h3⟩:=sR ht I R h;refine chunks (k:=2) _ (fun _=>rfl) l cs za (fun i x hx=> ?_);obtain⟨f,q,hf⟩:=h3 i (.agg [.lit (.string x.1),.lit (.int xh x.2)]) (by simp[hx]);obtain⟨y0,y1,m,hy,J,U,t1⟩:=trod_struct2 underlying309 hf;rw[I] at J;generalize (cs.drop (i * 2)).take 2=c at *
 match c,J with
 |[c0,c1],_=>
 simp[pR,show prog.cellsOf 199=1 from zk] at U t1;obtain⟨s,e0,e2,_⟩:=DataW.trod_string underlying9 U;obtain⟨z,e1,e3,_⟩:=DataW.trod_int underlying199 t1;simp_all
def Lb:List (List UInt8 × Int):=[([97,99,116,115],4),([114,117,108,101],5),([116,114,117,101],6),([102,97,108,115,101],7),([101,110,100],8)]
def JW:List (List UInt8 × Int):=[([88],9),([78],10),([70],11),([71],12),([85],13),([45,62],14),([124],15),([38],16),([33],17),([40],18),([41],19),([44],20),([59],21)]
def Jp:List (List UInt8):=[[],[116,114,117,101],[102,97,108,115,101],[101,110,100],[33],[88],[78],[70],[71],[85],[38],[124],[45,62]]
def mh(w:World)(lb:Nat)(dk:Value)(M:Nat)(tx ix rx wt et wb eb:Value):Prop:=w.heap[lb]? =some (xi #[dk,xd xh (M:Int),tx,ix,rx,wt,et,wb,eb] 71 (0,0))
theorem Hs{g:Nat}(h:w.ownsRow base e 1 (xa (some ⟨g,0,none⟩) n cap) n xs)(i:Nat)(v:Value):(w.setCell ⟨g,i,none⟩ v).ownsRow base e 1 (xa (some ⟨g,0,none⟩) n cap) n (xs.set i v):=by
 exact zm64
def AFt(w:World)(b q:Nat)(v:Value)(e:Nat):Prop:=AF w b q v/\TyAt w b e
theorem AFt.same{b:Nat}(h:AFt w b q v e)(I:w'.heap[b]? =w.heap[b]?):AFt w' b q v e:=by
 refine⟨fun i hi=> ?_, ?_⟩
 ·have:=h.1 i hi;unfold World.cell? at this|-;simp_all
 obtain⟨c,m,hc⟩:=h.2;exact⟨c,m,I.trans hc⟩
theorem AFt.lt{b:Nat}(h:AFt w b q v e):b<w.heap.size:=by obtain⟨c,m,hc⟩:=h.2;exact fh hc
theorem AFt.later{b:Nat}(h:AFt w b q v e)(I:Below w.heap.size w w'):AFt w' b q v e:=h.same (I.block _ h.lt)
theorem AFt.mk{b:Nat}{l:Value}(h:AFt w b q v e)(hm:MkF l v N e w w')(I:q<=N):AFt w' b q v e:=⟨hm.af b q h.lt I h.1,hm.ty b h.2⟩
theorem AFt.set{b ty o:Nat}{cs:Array Value}(h:AFt w b q v e)(hc:w.heap[c]? =some (xi cs ty m))(hne:ty≠e):AFt (w.setCell ⟨c,o,none⟩ u) b q v e:=by
 refine h.same (Mt _ _ _ _ ?_);show b≠c;rintro rfl;obtain⟨c',m',h'⟩:=h.2;simp_all
theorem AFt.grown{b J size:Nat}{r:Value}(h:AFt w b q v e)(ho:w.ownsRow base J size r n xs)(hg:w.grownBy w' r.ownBlock)(I:e≠J):AFt w' b q v e:=by
 refine h.same (hg.block b h.lt (fun R=> ?_));obtain⟨c,m,hc⟩:=h.2;exact gp ho R.symm hc I
theorem AFt.allM{b:Nat}(h:AFt w b q v e)(I:q<=10000000000000):AllM w (xa (some ⟨b,0,none⟩) q c) v e:=⟨_,_,_,rfl,I,fun i hi=>⟨b,rfl,h.2,h.1 i hi⟩⟩
structure vM (lb:Nat) (l tx:Value) (w w':World):Prop where
 os:w'.os=w.os
 tape:w'.tape=w.tape
 output:w'.output=w.output
 size:w.heap.size<=w'.heap.size
 block: ∀k,k<w.heap.size->k≠lb->l.ownBlock≠some k->tx.ownBlock≠some k->w'.heap[k]? =w.heap[k]?
structure MS (w W:World) (lb:Nat) (dk:Value) (M:Nat) (to_:Option Addr) (tn tc:Nat) (ix rx wt et wb eb:Value) (C:List Value) (B0 base:Nat) (l:Value) (n:Nat) (ys:List Value):Prop where
 lw:mh W lb dk M (xa to_ tn tc) ix rx wt et wb eb
 bk:W.ownsRow B0 118 5 (xa to_ tn tc) tn C
 ls:W.ownsRow base 9 1 l n ys
 fr:vM lb l (xa to_ tn tc) w W
section
variable {w W W' : World} {lb : Nat} {dk : Value} {M : Nat} {to_ : Option Addr} {tn tc : Nat} {ix rx wt et wb eb : Value} {C : List Value} {B0 base : Nat} {l : Value} {n : Nat} {ys : List Value}
theorem MS.later(h:MS w W lb dk M to_ tn tc ix rx wt et wb eb C B0 base l n ys)(I:Below W.heap.size W W'):MS w W' lb dk M to_ tn tc ix rx wt et wb eb C B0 base l n ys:=
 ⟨(I.block _ (fh h.lw)).trans h.lw,fL h.bk I,fL h.ls I,⟨I.os.trans h.fr.os,I.tape.trans h.fr.tape,I.output.trans h.fr.output,Nat.le_trans h.fr.size I.size,fun k J R U h4=>(I.block k (MQ J h.fr.size)).trans (h.fr.block k J R U h4)⟩⟩
theorem MS.setM(h:MS w W lb dk M to_ tn tc ix rx wt et wb eb C B0 base l n ys)(z:Int)(I:Nat)(hz:z=(I:Int)):MS w (W.setCell ⟨lb,1,none⟩ (xd xh z)) lb dk I to_ tn tc ix rx wt et wb eb C B0 base l n ys:=by
 exact zm34
theorem MS.setL{g:Nat}(h:MS w W lb dk M to_ tn tc ix rx wt et wb eb C B0 base (xa (some ⟨g,0,none⟩) n cap) n ys)(i:Nat)(v:Value):MS w (W.setCell ⟨g,i,none⟩ v) lb dk M to_ tn tc ix rx wt et wb eb C B0 base (xa (some ⟨g,0,none⟩) n cap) n (ys.set i v):=by
 have hbl: ∃cur,W.heap[g]? =some (xi cur 9 (0,0)):=by
  exact zm116
 exact zm29
theorem MS.mkd(h:MS w W lb dk M to_ tn tc ix rx wt et wb eb C B0 base l n (My n mv))(hm:MkF l mv N 9 W W')(hN:n<=N):MS w W' lb dk M to_ tn tc ix rx wt et wb eb C B0 base l n (My n mv):=by
 exact zm20
theorem MS.setB{ty:Nat}{cs:Array Value}(h:MS w W lb dk M to_ tn tc ix rx wt et wb eb C B0 base l n ys)(hc:W.heap[c]? =some (xi cs ty m))(hw:w.heap.size<=c)(h1:ty≠71)(h2:ty≠9)(h3:(xa to_ tn tc).ownBlock≠some c)(o:Nat)(v:Value):MS w (W.setCell ⟨c,o,none⟩ v) lb dk M to_ tn tc ix rx wt et wb eb C B0 base l n ys:=by
 exact zm31
end
def sB(M:Nat):ByteArray:=⟨#[109,97,114,107,32]⟩++⟨(MC (M:Int)).toArray⟩
theorem Tryz.infoU8p:(prog.info? 5).map (fun i=>(i.zero,i.size,i.bytes))=some (some (xd .u8 0),1,1):=zk
theorem pH(w:World)(n:Nat)(hn:n<=10000000000):(Instr.makeSlice 51 (xd xh (n:Int)) (xd xh (n:Int))).run prog w= .ok (xa (some ⟨w.heap.size,0,none⟩) n n) (w.alloc (xi (Array.replicate n (xd .u8 0)) 5)):=by
 obtain⟨U,I,J,R,hz2⟩:=info_parts Tryz.infoU8p;exact p6 (P:=prog) w 51 5 U (xd .u8 0) underlying51 I J R rfl zo n hn
def PlS(w:World)(o:Option Addr)(l:List Nat):Prop:= ∀(j:Nat) (x:Nat),l[j]? =some x-> ∃b off,o=some ⟨b,off,none⟩/\b<w.heap.size/\w.cell? ⟨b,off+j,none⟩=some (xd .u32 (x:Int))
theorem PlS.later{l:List Nat}(h:PlS w o l)(J:Below w.heap.size w w'):PlS w' o l:=fun j x hx=>by
 obtain⟨b,off,R,I,U⟩:=h j x hx;exact⟨b,off,R,MQ I J.size,(bcell3 J _ _ I).trans U⟩
structure BX (w wr:World) (T:Array Value) (ty:Nat) (b:List Bool):Prop where
 blk:wr.heap[w.heap.size+1]? =some (xi (o7 b) 5 (0,0))
 box:wr.heap[w.heap.size]? =some (xi T ty (0,0))
 bel:Below w.heap.size w wr
theorem BX.later{T:Array Value}{ty:Nat}(h:BX w wr T ty b)(I:Below wr.heap.size wr w'):BX w w' T ty b:=
 ⟨(I.block _ (fh h.blk)).trans h.blk,(I.block _ (fh h.box)).trans h.box,h.bel.trans (I.mono h.bel.size)⟩
theorem BX.set{T:Array Value}{ty:Nat}(h:BX w wr T ty b)(k:Nat)(x:Bool):BX w (wr.setCell ⟨w.heap.size+1,k,none⟩ (xd .u8 ((nk x).toNat:Int))) T ty (b.set k x):=by
 refine⟨?_, ?_, ?_⟩
 ·exact zm106
 ·exact zm155
 exact zm142
theorem B7(w:World)(so:Option Addr)(n sc wh:Nat)(l:List Nat)(po:Option Addr)(pc:Nat)(hP:PlS w po l)(az:wh<4294967296)(hl:l.length<=1000000)(I: ∀p∈l,p<4294967296):
  Calls prog 128 #[.agg #[xa so n sc,xd .u32 (wh:Int)],xa po l.length pc] w fun e w'=>e=xm (xj (gH (l.map (keepP wh))))/\Below w.heap.size w w':=by
 have HP:=fa hP;have au:=fa I;have ar:=fa (fun W p h=>BL W so n sc wh p az h);have HX0:Hid (BX w ((w.alloc (xi #[xa so n sc,xd .u32 (wh:Int)] 149)).alloc (xi (Array.replicate l.length (xd .u8 0)) 5)) #[xa so n sc,xd .u32 (wh:Int)] 149 (iu (l.map (keepP wh)) 0)):=by
  rw[mW,MH];exact zm128
 have aj:(l.map (keepP wh)).length=l.length:=zp;have U:=fa aj;have hmk:=fun W:World=>pH W l.length zo
 go_in;go_wp2;generalize (w.alloc (xi #[xa so n sc,xd .u32 (wh:Int)] 149)).alloc (xi (Array.replicate l.length (xd .u8 0)) 5)=W0 at *
 go_loopw [13] (fun x wr=> ∃k:Nat,k<=l.length/\x=xd xh k/\Hid (BX w wr #[xa so n sc,xd .u32 (wh:Int)] 149 (iu (l.map (keepP wh)) k))) (fun x _=>l.length - (intOf x).toNat)
 ·exact zm129
 obtain⟨k,hk,rfl,HX⟩:=hrel;rcases zc k l.length with⟨I,hkn⟩|⟨I,hkn⟩
 ·obtain⟨pb,off,rfl,hpb,hpc⟩:=HP.later HX.bel k l[k] (Ms I);have ao:=au l[k] (MF I);have ai:(l.map (keepP wh))[k]? =some (keepP wh l[k]):=za;have ad:=fa ai;generalize l[k]=p at *;have aw:=cell_of_blk HX.box 0;have ax:=cell_of_blk HX.box 1
  go_wp2_with (refine(ar _ p ao).mono ?_)
  rintro e w1 ⟨rfl,ag⟩;have J:=fa (HX.later ag);have an:(p&&&wh==wh)=keepP wh p:=rfl;rw[an];generalize keepP wh p=y at *;cases y with
  |false=>
   rw[<-uA ad.out] at J;go_wp2
   go_roundw
   ·exact⟨k+1,zo,zf,J⟩
   simp[intOf];omega
  |true=>
   have gf:=fi J.blk k;have ay:(iu (l.map (keepP wh)) k).length=l.length:=by rw[mH za,U.out]
   obtain⟨y0,aq⟩: ∃y,(iu (l.map (keepP wh)) k)[k]? =some y:=⟨_,Ms zo⟩;have gc:=(cell_of_blk J.blk k).trans (oh aq);have ae:=fa (J.set k true);rw[<-lX ad.out] at ae;go_wp2
   go_roundw
   ·exact⟨k+1,zo,zf,ae⟩
   simp[intOf];omega
 have ak:k=(l.map (keepP wh)).length:=by rw[U.out];omega
 rw[ak,mG] at HX;clear ak;have hcv:=yr wr l.length HX.out.blk U.out;generalize hR:gH (l.map (keepP wh))=R at *;have av:=fa hR;clear hR;go_wp2;go_ret;exact⟨by rw[av.out];rfl,HX.out.bel⟩
theorem Dj(w:World)(ro:Option Addr)(rc:Nat)(tw:List (List Nat))(ks:ByteArray)(bs:List Bool)(a:Nat)(hT:RwS w ro (tw.map zI))(hl:tw.length<=1000000)(hr: ∀r∈tw,a<r.length/\ ∀x∈r,x<bs.length):
  Calls prog 83 #[.agg #[xa ro tw.length rc,xj ks],xj (gH bs),xd xh (a:Int)] w fun e w'=>e=xm (xj (gH (setB tw bs a)))/\Below w.heap.size w w':=by
 have HT:=fa hT;have HR:=fa hr;have ad:(setB tw bs a).length=tw.length:=by unfold setB;simp
 have I:=fa ad;have HX0:Hid (BX w ((w.alloc (xi #[xa ro tw.length rc,xj ks] 153)).alloc (xi (Array.replicate tw.length (xd .u8 0)) 5)) #[xa ro tw.length rc,xj ks] 153 (iu (setB tw bs a) 0)):=by
  rw[mW,ad];exact zm128
 have hmk:=fun W:World=>pH W tw.length zo
 go_in;go_wp2;generalize (w.alloc (xi #[xa ro tw.length rc,xj ks] 153)).alloc (xi (Array.replicate tw.length (xd .u8 0)) 5)=W0 at *
 go_loopw [17] (fun x wr=> ∃k:Nat,k<=tw.length/\x=xd xh k/\Hid (BX w wr #[xa ro tw.length rc,xj ks] 153 (iu (setB tw bs a) k))) (fun x _=>tw.length - (intOf x).toNat)
 ·exact zm129
 obtain⟨k,hk,rfl,U⟩:=hrel;rcases zc k tw.length with⟨hlt,hkn⟩|⟨hlt,hkn⟩
 ·have ak:(tw.map zI)[k]? =some (zI tw[k]):=za;obtain⟨pb,off,qo,qc,rfl,hpb,ax,hq⟩:=HT.later U.bel k (zI tw[k]) ak;obtain⟨ae,ao⟩:=HR tw[k] (MF hlt);have J:(setB tw bs a)[k]? =some ((bs[(tw[k][a]?).getD 0]?).getD false):=by unfold setB;simp_all
  rw[Ms ae,MV] at J;have an:=ao tw[k][a] (MF ae);rw[Ms an,MV] at J;obtain⟨qb,qoff,rfl,hqb,hqc⟩:=hq a (tw[k][a]:Nat) (by unfold zI;simp_all);have ar:(zI tw[k]).length=tw[k].length:=by unfold zI;simp
  rw[ar] at ax;have ai:=Ms an;have ay:tw[k][a]<(gH bs).size:=by rw[k9];omega
  have au:=fa J;have hral:(a:Int)<(tw[k].length:Int):=zo;have ag:=nH ay ai;generalize bs[tw[k][a]]=y at *;generalize tw[k][a]=x at *;generalize tw[k].length=rl at *;rw[<-pP] at ag;have gf:=fi U.blk k;have aw:(iu (setB tw bs a) k).length=tw.length:=by rw[mH (by rw[I.out];omega),I]
  obtain⟨y0,aq⟩: ∃y,(iu (setB tw bs a) k)[k]? =some y:=⟨_,Ms zo⟩;have gc:=(cell_of_blk U.blk k).trans (oh aq);have aa:=fa (U.set k y);rw[<-lX au.out] at aa;generalize gH bs=sb at *;go_wp2
  go_roundw
  ·exact⟨k+1,zo,zf,by first|exact aa|(rw[ag];exact aa)⟩
  simp[intOf];omega
 have aj:k=(setB tw bs a).length:=by rw[I.out];omega
 rw[aj,mG] at U;clear aj;have hcv:=yr wr tw.length U.out.blk I.out;generalize hR:gH (setB tw bs a)=R at *;have av:=fa hR;clear hR;go_wp2;go_ret;exact⟨by rw[av.out];rfl,U.out.bel⟩
theorem xz:prog.cellsOf 309=2:=zk
theorem Lm(h:laidMet prog laid W)(U xw xs:String × DataW Unit)(hf:U∈laid)(hw:xw∈laid)(hs:xs∈laid)
  (gf:prog.globalNamed U.1=some 0)(gw:prog.globalNamed xw.1=some 2)(gs:prog.globalNamed xs.1=some 1)
  (df:U.2= .agg (Jp.map fun x=> .lit (.string x)))(dw:xw.2= .agg (Lb.map fun x=> .agg [.lit (.string x.1),.lit (.int xh x.2)]))(ds:xs.2= .agg (JW.map fun x=> .agg [.lit (.string x.1),.lit (.int xh x.2)])):GVF W:=by
 obtain⟨ps,hl,_⟩:=h;refine⟨?_, ?_, ?_⟩
 ·obtain⟨g,t,cs,fuel,p,hg,J,R,I⟩:=pW hl U hf;obtain rfl:=Option.some.inj (gf.symm.trans hg);obtain rfl:=Option.some.inj ((show(prog.globals[0]?).map (·.type)=some 273 from zk).symm.trans J);rw[df] at I;have e:=DZ underlying273 zk I;obtain⟨t',m',hb⟩:=ya hg R;have e2:cs=CE:=by rw[<-Array.toList_inj,e];rfl
  simp_all
 ·obtain⟨g,t,cs,fuel,p,hg,J,R,I⟩:=pW hl xw hw;obtain rfl:=Option.some.inj (gw.symm.trans hg);obtain rfl:=Option.some.inj ((show(prog.globals[2]?).map (·.type)=some 321 from zk).symm.trans J);rw[dw] at I;have e:=uK underlying321 zk xz I;obtain⟨t',m',hb⟩:=ya hg R;have e2:cs=oY:=by rw[<-Array.toList_inj,e];rfl
  simp_all
 obtain⟨g,t,cs,fuel,p,hg,J,R,I⟩:=pW hl xs hs;obtain rfl:=Option.some.inj (gs.symm.trans hg);obtain rfl:=Option.some.inj ((show(prog.globals[1]?).map (·.type)=some 310 from zk).symm.trans J);rw[ds] at I;have e:=uK underlying310 zk xz I;obtain⟨t',m',hb⟩:=ya hg R;have e2:cs=rC:=by rw[<-Array.toList_inj,e];rfl
 simp_all
def Ky:DataW Unit->List Value
 | .lit l=>[l.value]
 | .agg xs=>xs.flatMap fun x=>match x with
  | .lit l=>[l.value]
  | .agg ys=>ys.flatMap fun y=>match y with
   | .lit l=>[l.value]
   |_=>[]
  |_=>[]
 |_=>[]
def L6(P:Program)(h:Array Obj)(x:String × DataW Unit):Array Obj:=
 match P.globalNamed x.1 with
 |some g=>h.modify g fun
  | xi _ t frozen=> xi (Ky x.2).toArray t frozen
  |o=>o
 |none=>h
theorem Tryz.infoTB:(prog.info? 118).map (fun i=>(i.zero,i.size,i.bytes))=some (some (.agg #[xj ⟨#[]⟩,xa none 0 0,xa none 0 0,xa none 0 0,xa none 0 0]),5,112):=zk
theorem vJ:prog.globalNamed "internal/strconv.uint64pow10" =some 4:=zk
theorem BE(h:MI prog w "internal/strconv.uint64pow10" .u64 MG)(e:w'.heap[4]? =w.heap[4]?):MI prog w' "internal/strconv.uint64pow10" .u64 MG:=by
 unfold MI World.var? at h|-;rw[vJ] at h|-;simp_all
def kO(w:World)(l G:Value):Prop:= ∃g m c,G=xa (some ⟨g,0,none⟩) (m+1) c/\(l.ownBlock=some g\/w.heap.size<=g)
def vP(w:World)(lb:Nat)(dk:Value)(M:Nat)(to_:Option Addr)(tn tc:Nat)(ix rx wt et wb eb:Value)(C:List Value)(B0:Nat)(l:Value)(w':World)(e:Ending):Prop:=
 e=xm (.tuple #[])/\ ∃to' tc' G1 G2 G3,mh w' lb dk (M+1) (xa to' (tn+1) tc') ix rx wt et wb eb/\w'.ownsRow B0 118 5 (xa to' (tn+1) tc') (tn+1) (C++[xj (sB (M+1)),l,G1,G2,G3])/\
  AllM w' l (xj (sB (M+1))) 9/\AllM w' G1 (xj (sB (M+1))) 9/\AllM w' G2 (xj (sB (M+1))) 9/\AllM w' G3 (xj (sB (M+1))) 9/\kO w l G1/\kO w l G2/\kO w l G3/\kO w (xa to_ tn tc) (xa to' (tn+1) tc')/\vM lb l (xa to_ tn tc) w w'
theorem Hi{tn tc:Nat}{ix rx wt et wb eb:Value}{g1 R g2 U g3 aa J I:Nat}{mk:ByteArray} 
  (hMS:MS w W4 lb dk (M+1) to_ tn tc ix rx wt et wb eb C B0 base (xa lo n lc) n (My n (xj mk)))(hwa:Below W4.heap.size W4 (W4.drew.alloc bo))
  (ho:q8.ownsRow B0 118 5 (xa (some ⟨J,0,none⟩) (tn+1) I) (tn+1) (C++[xj mk,xa lo n lc,xa (some ⟨g1,0,none⟩) (n+1) R,xa (some ⟨g2,0,none⟩) (n+2) U,xa (some ⟨g3,0,none⟩) (n+3) aa]))(hg:(W4.drew.alloc bo).grownBy q8 (xa to_ tn tc).ownBlock)(hl:mh q8 lb dk (M+1) (xa to_ tn tc) ix rx wt et wb eb)
  (h1:AFt W4 g1 (n+1) (xj mk) 9)(h2:AFt W4 g2 (n+2) (xj mk) 9)(h3:AFt W4 g3 (n+3) (xj mk) 9)(ae:mk=sB (M+1))(hn:n+3<=10000000000000)(k1:kO w (xa lo n lc) (xa (some ⟨g1,0,none⟩) (n+1) R))(k2:kO w (xa lo n lc) (xa (some ⟨g2,0,none⟩) (n+2) U))(k3:kO w (xa lo n lc) (xa (some ⟨g3,0,none⟩) (n+3) aa))(k8:(xa to_ tn tc).ownBlock=some J\/J=W4.heap.size+1):
  bodyPost prog Tryz.f63 (fun e w'=>vP w lb dk M to_ tn tc ix rx wt et wb eb C B0 (xa lo n lc) w' e) Exit.normal {tmps:=tmps,defers:=[]} (q8.setCell ⟨lb,2,none⟩ (xa (some ⟨J,0,none⟩) (tn+1) I)):=by
 subst ae;have aft: ∀{b q:Nat},AFt W4 b q (xj (sB (M+1))) 9->AFt (q8.setCell ⟨lb,2,none⟩ (xa (some ⟨J,0,none⟩) (tn+1) I)) b q (xj (sB (M+1))) 9:=fun h=>((h.later hwa).grown (fL hMS.bk hwa) hg zp).set hl zp
 have hal:AllM (q8.setCell ⟨lb,2,none⟩ (xa (some ⟨J,0,none⟩) (tn+1) I)) (xa lo n lc) (xj (sB (M+1))) 9:=by
  exact zm37
 have hfr:vM lb (xa lo n lc) (xa to_ tn tc) w (q8.setCell ⟨lb,2,none⟩ (xa (some ⟨J,0,none⟩) (tn+1) I)):=by
  exact zm30
 have hO:=gq ho (fK q8 lb 2 (xa (some ⟨J,0,none⟩) (tn+1) I)) (MM (fun e=>gp ho e hl zp));have hLW:mh (q8.setCell ⟨lb,2,none⟩ (xa (some ⟨J,0,none⟩) (tn+1) I)) lb dk (M+1) (xa (some ⟨J,0,none⟩) (tn+1) I) ix rx wt et wb eb:=fj hl 2 _;exact zm88
theorem sA(w:World)(lb:Nat)(dk:Value)(M:Nat)(to_:Option Addr)(tn tc:Nat)(ix rx wt et wb eb:Value)(C:List Value)(B0 base:Nat)(lo:Option Addr)(n lc:Nat)(xs:List Value)
  (hL:mh w lb dk M (xa to_ tn tc) ix rx wt et wb eb)(hC:w.ownsRow B0 118 5 (xa to_ tn tc) tn C)(hB0:B0<=w.heap.size)(hl:w.ownsRow base 9 1 (xa lo n lc) n xs)(hbase:base<=w.heap.size)
  (hn:n+3<=8796093022208)(htn:(tn+1) * 112<=140737488355328)(hM:M<=4611686018427387904)(aX:MI prog w "internal/strconv.uint64pow10" .u64 MG)(hlbg:lb≠4):
  Calls prog 63 #[xk (some ⟨lb,0,none⟩),xa lo n lc] w fun e w'=>vP w lb dk M to_ tn tc ix rx wt et wb eb C B0 (xa lo n lc) w' e:=by
 obtain⟨i0,a6,a8,a',ba⟩:=info_parts infoStr;obtain⟨j0,bl,br,bt,bu⟩:=info_parts Tryz.infoTB;have bc:=cell_of_blk hL;have bf:=fi hL;have hlt:=fh hL;have aO:Hid (MS w w lb dk M to_ tn tc ix rx wt et wb eb C B0 base (xa lo n lc) n xs):=⟨hL,hC,hl,⟨rfl,rfl,rfl,Mu _,fun k _ _ _ _=>rfl⟩⟩;have aP:=fa (aO.out.setM ((M:Int)+1) (M+1) zo);have aT:=fa (BE aX (Mt w ⟨lb,1,none⟩ (xd xh ((M:Int)+1)) 4 (by show _≠lb;omega)));clear hL hC hl aX;go_in;go_wp2_with fail;refine(Tryz.strconv_Itoa ((M:Int)+1) zo zo _ aT.out).mono ?_;rintro e w1 ⟨rfl,k1,bI,bq⟩;have aY:Below _ _ w1:=bq▸Lib.below_grow _ _ (Mu _) k1 bI
 have HMS2:=fa (aP.later aY);have bg:Hid ((MC ((M:Int)+1))=MC ((M+1:Nat):Int)):=by show _=_;rfl
 have bm:=aY.size;clear bq aY aP bc bf;have hits:¬ 9223372036854775807<5+(⟨(MC ((M:Int)+1)).toArray⟩:ByteArray).size:=by
  have:=Lib.itoa_length_le ((M:Int)+1) zo zo;show ¬ 9223372036854775807<5+(MC ((M:Int)+1)).toArray.size;simp;omega
 have HMK:Hid ((⟨#[109,97,114,107,32]⟩:ByteArray)++⟨(MC ((M:Int)+1)).toArray⟩=sB (M+1)):=by
  show _=_;rfl
 generalize hIT:(⟨(MC ((M:Int)+1)).toArray⟩:ByteArray)=it at *;clear hIT bg;have hw1s:=HMS2.out.fr.size;clear bm aO aT;go_wp2_with fail;generalize hmk:(⟨#[109,97,114,107,32]⟩:ByteArray)++it=mk at *;clear hmk
 go_loopw [5] (fun x wr=> ∃(i:Nat) (ys:List Value),i<=n/\x=xd xh i/\Hid (MS w wr lb dk (M+1) to_ tn tc ix rx wt et wb eb C B0 base (xa lo n lc) n ys)/\Hid (∀j,j<i->ys[j]? =some (xj mk))) (fun x _=>n - (intOf x).toNat)
 ·exact zm140
 obtain⟨i,ys,hi,rfl,HMS,HY⟩:=hrel;rcases zc i n with⟨hin,hin'⟩|⟨hin,hin'⟩
 ·obtain⟨g,bF,hg,aI⟩:=hD HMS.ls hin;subst bF;have hyl:ys.length=n:=by have:=HMS.ls.1;omega
  have hcell':=aI.trans (Ms zo);have hfz:wr.frozen? ⟨g,i,none⟩=false:=by
   exact zm73
  have bh:=fa (HMS.setL i (xj mk));generalize ys[i]=old at *;clear aI;go_wp2
  go_roundw
  ·refine⟨i+1,ys.set i (xj mk),zo,zf,bh,fa (fun j hj=> ?_)⟩;exact zm102
  simp[intOf];omega
 have bG:ys=My n (xj mk):=by
  exact zm51
 subst bG;have bd:=fa ((Mx wr.heap.size wr).alloc (Mu _) (xi #[xj mk,xa lo n lc,xa none 0 0,xa none 0 0,xa none 0 0] 118));have aQ:=fa (HMS.later bd);have aF:=fa (ft wr (xi #[xj mk,xa lo n lc,xa none 0 0,xa none 0 0,xa none 0 0] 118));have hbt:(xa to_ tn tc).ownBlock≠some wr.heap.size:=fun e=>by have:=(gG HMS.bk _ e).2;omega
 have a7:=HMS.fr.size;clear HY HMS2;have ao:=fa (aQ.later ((Mx _ _).alloc (Mu _) (xi #[xj mk] 9)));have aj:=fa ((Mw (wr.alloc (xi #[xj mk,xa lo n lc,xa none 0 0,xa none 0 0,xa none 0 0] 118)) (xi #[xj mk] 9) _ (fh aF)).trans aF)
 go_wp2_with (at_builtin;go_must (refine jf rfl 25 rfl base 9 i0 (xj ⟨#[]⟩) 16 underlying25 a6 a8 a' ba rfl (xa lo n lc) n (xj mk) rfl ?c10 ⟨wr.heap.size+1,0,none⟩ 1 1 rfl ?c11 rfl zd ?c13 ?c14 ?c15 ?_))
 case c10=>exact ao.ls
 try case c11=>
  intro j hj
  match j,hj with
  |0,hj=>exact cell_of_blk (fk _ _ _ (by first|rfl|simp[World.setCell])) 0
  |j+1,hj=>omega
 case c13=>unfold maxLen;omega
 case c14=>omega
 case c15=>omega
 intro g1 cap1 q1 ae aJ aU;have aL:=fa (ao.mkd aJ zo);have R:=fa ((aJ.block _ (fh aj) (fun e=>gp ao.ls e aj zp)).trans aj);have aw:Hid (AFt q1 g1 (n+1) (xj mk) 9):=⟨AF.of_owns ae,by
  obtain⟨_,⟨hv,_⟩|⟨g',cap',cur,hv,_,hrow,_⟩⟩:=ae
  ·cases hv
  cases hv;exact⟨_,_,hrow⟩⟩
 have hbq1:=fh R;have bz:=cell_of_blk R;have bC:=fi R;have aR:=fa (aL.setB R a7 zp zp hbt 2 (xa (some ⟨g1,0,none⟩) (n+1) cap1));have aG:Hid (_=some (xi #[xj mk,xa lo n lc,xa (some ⟨g1,0,none⟩) (n+1) cap1,xa none 0 0,xa none 0 0] 118 (0,0))):=fj R 2 (xa (some ⟨g1,0,none⟩) (n+1) cap1);have aC:=fa (aw.set (o:=2) (u:=(xa (some ⟨g1,0,none⟩) (n+1) cap1)) R zp);have U:=fa (aR.later ((Mx _ _).alloc (Mu _) (xi #[xj mk,xj mk] 9)));have ak:=fa ((Mw _ (xi #[xj mk,xj mk] 9) _ (fh aG)).trans aG);have ar:=fa (aC.later ((Mx _ _).alloc (Mu _) (xi #[xj mk,xj mk] 9)));have HNW1:Hid (kO w (xa lo n lc) (xa (some ⟨g1,0,none⟩) (n+1) cap1)):=⟨g1,_,_,rfl,aU.imp id (fun e=>zo)⟩;clear ae aJ aU
 go_wp2_with (at_builtin;go_must (refine jf rfl 25 rfl base 9 i0 (xj ⟨#[]⟩) 16 underlying25 a6 a8 a' ba rfl (xa lo n lc) n (xj mk) rfl ?c20 ⟨q1.heap.size,0,none⟩ 2 2 rfl ?c21 rfl zd ?c23 ?c24 ?c25 ?_))
 case c20=>exact U.ls
 try case c21=>
  intro j hj
  match j,hj with
  |0,hj=>exact cell_of_blk (fk _ _ _ zp) 0
  |1,hj=>exact cell_of_blk (fk _ _ _ zp) 1
  |j+2,hj=>omega
 case c23=>unfold maxLen;omega
 case c24=>omega
 case c25=>have:=U.fr.size;omega
 intro g2 cap2 q2 ag aq aV;have aM:=fa (U.mkd aq zo);have J:=fa ((aq.block _ (fh ak) (fun e=>gp U.ls e ak zp)).trans ak);have az:Hid (AFt q2 g2 (n+2) (xj mk) 9):=⟨AF.of_owns ag,by
  obtain⟨_,⟨hv,_⟩|⟨g',cap',cur,hv,_,hrow,_⟩⟩:=ag
  ·cases hv
  cases hv;exact⟨_,_,hrow⟩⟩
 have ax:=fa (ar.mk aq zo);have hbq2:=fh J;have bA:=cell_of_blk J;have bD:=fi J;have aS:=fa (aM.setB J a7 zp zp hbt 3 (xa (some ⟨g2,0,none⟩) (n+2) cap2));have aH:Hid (_=some (xi #[xj mk,xa lo n lc,xa (some ⟨g1,0,none⟩) (n+1) cap1,xa (some ⟨g2,0,none⟩) (n+2) cap2,xa none 0 0] 118 (0,0))):=fj J 3 (xa (some ⟨g2,0,none⟩) (n+2) cap2);have aD:=fa (ax.set (o:=3) (u:=(xa (some ⟨g2,0,none⟩) (n+2) cap2)) J zp);have aE:=fa (az.set (o:=3) (u:=(xa (some ⟨g2,0,none⟩) (n+2) cap2)) J zp);have aa:=fa (aS.later ((Mx _ _).alloc (Mu _) (xi #[xj mk,xj mk,xj mk] 9)));have an:=fa ((Mw _ (xi #[xj mk,xj mk,xj mk] 9) _ (fh aH)).trans aH);have au:=fa (aD.later ((Mx _ _).alloc (Mu _) (xi #[xj mk,xj mk,xj mk] 9)));have av:=fa (aE.later ((Mx _ _).alloc (Mu _) (xi #[xj mk,xj mk,xj mk] 9)));have HNW2:Hid (kO w (xa lo n lc) (xa (some ⟨g2,0,none⟩) (n+2) cap2)):=⟨g2,_,_,rfl,aV.imp id (fun e=>zo)⟩;clear ag aq aV;clear bz bC
 go_wp2_with (at_builtin;go_must (refine jf rfl 25 rfl base 9 i0 (xj ⟨#[]⟩) 16 underlying25 a6 a8 a' ba rfl (xa lo n lc) n (xj mk) rfl ?c30 ⟨q2.heap.size,0,none⟩ 3 3 rfl ?c31 rfl zd ?c33 ?c34 ?c35 ?_))
 case c30=>exact aa.ls
 try case c31=>
  intro j hj
  match j,hj with
  |0,hj=>exact cell_of_blk (fk _ _ _ zp) 0
  |1,hj=>exact cell_of_blk (fk _ _ _ zp) 1
  |2,hj=>exact cell_of_blk (fk _ _ _ zp) 2
  |j+3,hj=>omega
 case c33=>unfold maxLen;omega
 case c34=>omega
 case c35=>have:=aa.fr.size;omega
 intro g3 cap3 q3 ai ad aW;have aN:=fa (aa.mkd ad zo);have I:=fa ((ad.block _ (fh an) (fun e=>gp aa.ls e an zp)).trans an);have aB:Hid (AFt q3 g3 (n+3) (xj mk) 9):=⟨AF.of_owns ai,by
  obtain⟨_,⟨hv,_⟩|⟨g',cap',cur,hv,_,hrow,_⟩⟩:=ai
  ·cases hv
  cases hv;exact⟨_,_,hrow⟩⟩
 have ay:=fa (au.mk ad zo);have aA:=fa (av.mk ad zo);have hbq3:=fh I;have bB:=cell_of_blk I;have bE:=fi I;have HMX3:=fa (aN.setB I a7 zp zp hbt 4 (xa (some ⟨g3,0,none⟩) (n+3) cap3));have aK:Hid (_=some (xi #[xj mk,xa lo n lc,xa (some ⟨g1,0,none⟩) (n+1) cap1,xa (some ⟨g2,0,none⟩) (n+2) cap2,xa (some ⟨g3,0,none⟩) (n+3) cap3] 118 (0,0))):=fj I 4 (xa (some ⟨g3,0,none⟩) (n+3) cap3);have HAX13:=fa (ay.set (o:=4) (u:=(xa (some ⟨g3,0,none⟩) (n+3) cap3)) I zp);have HAX23:=fa (aA.set (o:=4) (u:=(xa (some ⟨g3,0,none⟩) (n+3) cap3)) I zp);have HAX33:=fa (aB.set (o:=4) (u:=(xa (some ⟨g3,0,none⟩) (n+3) cap3)) I zp);have HNW3:Hid (kO w (xa lo n lc) (xa (some ⟨g3,0,none⟩) (n+3) cap3)):=⟨g3,_,_,rfl,aW.imp id (fun e=>zo)⟩;clear ai ad aW;clear bA bD;go_wp2;generalize (q3.setCell ⟨wr.heap.size,4,none⟩ (xa (some ⟨g3,0,none⟩) (n+3) cap3))=W4 at *;have HB4:=aK;clear bB bE aL aM aN R J I aw ax az ay aA aB aC aD aE ar au av ao U aa aj ak an aR aS aG aH aK aQ aF bd;have hlb4:=fh HMX3.lw;have hbb4:=fh HB4;have hw4:=HMX3.fr.size;have hne:lb≠wr.heap.size:=fun e=>by
  exact zm115
 have lc2:W4.cell? ⟨lb,2,none⟩=some (xa to_ tn tc):=(cell_of_blk HMX3.lw 2).trans rfl;have b0:W4.cell? ⟨wr.heap.size,0,none⟩=some (xj mk):=(cell_of_blk HB4 0).trans rfl;have b1:W4.cell? ⟨wr.heap.size,1,none⟩=some (xa lo n lc):=(cell_of_blk HB4 1).trans rfl;have b2:W4.cell? ⟨wr.heap.size,2,none⟩=some (xa (some ⟨g1,0,none⟩) (n+1) cap1):=(cell_of_blk HB4 2).trans rfl;have b3:W4.cell? ⟨wr.heap.size,3,none⟩=some (xa (some ⟨g2,0,none⟩) (n+2) cap2):=(cell_of_blk HB4 3).trans rfl;have b4:W4.cell? ⟨wr.heap.size,4,none⟩=some (xa (some ⟨g3,0,none⟩) (n+3) cap3):=(cell_of_blk HB4 4).trans rfl;generalize hBB:wr.heap.size=bb at *;clear hBB;refine wp_region_held_drew (S:=fun w'=>w'.cell? ⟨bb,0,none⟩=some (xj mk)/\w'.cell? ⟨bb,1,none⟩=some (xa lo n lc)/\w'.cell? ⟨bb,2,none⟩=some (xa (some ⟨g1,0,none⟩) (n+1) cap1)/\w'.cell? ⟨bb,3,none⟩=some (xa (some ⟨g2,0,none⟩) (n+2) cap2)/\w'.cell? ⟨bb,4,none⟩=some (xa (some ⟨g3,0,none⟩) (n+3) cap3)) zk ?_ (fun hHeld=> ?_)
 ·simp_all
 apply zt1 0 (xk (some ⟨lb,0,none⟩)) hHeld;apply zt1 1 (xk (some ⟨lb,0,none⟩)) hHeld;apply zt1 2 (xk (some ⟨lb,0,none⟩)) hHeld;apply zt1 3 (xk (some ⟨lb,2,none⟩)) hHeld;apply zt1 5 (.agg #[xj mk,xa lo n lc,xa (some ⟨g1,0,none⟩) (n+1) cap1,xa (some ⟨g2,0,none⟩) (n+2) cap2,xa (some ⟨g3,0,none⟩) (n+3) cap3]) hHeld;refine zrH2 4 6 (fun K hK=> ?_) fun K hK=> ?_
 ·go_simp;refine hK _ _ ⟨b0,b1,b2,b3,b4⟩ (fun hHeld=> ?_);clear hK K;apply zrH 6;intro K hK;go_simp;refine hK _ _ ⟨(Mr _ _ _ zo).trans b0,(Mr _ _ _ zo).trans b1,(Mr _ _ _ zo).trans b2,(Mr _ _ _ zo).trans b3,(Mr _ _ _ zo).trans b4⟩ (fun hHeld=> ?_);clear hK K;apply zrH 7;intro K hK;refine step_append_lies _ zf _ _ 65 zf B0 118 j0 (.agg #[xj ⟨#[]⟩,xa none 0 0,xa none 0 0,xa none 0 0,xa none 0 0]) 5 112 underlying65 bl br bt bu rfl zp (xa to_ tn tc) tn C zf ?d0x ⟨W4.heap.size,0,none⟩ 1 1 [xj mk,xa lo n lc,xa (some ⟨g1,0,none⟩) (n+1) cap1,xa (some ⟨g2,0,none⟩) (n+2) cap2,xa (some ⟨g3,0,none⟩) (n+3) cap3] zf rfl ?d1x ?d2x zp ?d3x ?d4x ?d5x (W4.heap.size+1) zp ?_
  case d0x=>exact fL HMX3.bk (((Mx _ _).drew).alloc (Mu _) _)
  case d1x=>
   intro j u hj
   match j,hj with
   |0,hj=>simp at hj;subst hj;exact cell_of_blk (fk _ _ _ rfl) 0
   |1,hj=>simp at hj;subst hj;exact cell_of_blk (fk _ _ _ rfl) 1
   |2,hj=>simp at hj;subst hj;exact cell_of_blk (fk _ _ _ rfl) 2
   |3,hj=>simp at hj;subst hj;exact cell_of_blk (fk _ _ _ rfl) 3
   |4,hj=>simp at hj;subst hj;exact cell_of_blk (fk _ _ _ rfl) 4
   |j+5,hj=>trivial
  case d2x=>intro u hu;simp at hu;rcases hu with rfl|rfl|rfl|rfl|rfl<;>rfl
  case d3x=>unfold maxLen;omega
  case d4x=>omega
  case d5x=>simp;omega
  exact zm13
 go_simp;refine hK _ _ ⟨(Mr _ _ _ zo).trans b0,(Mr _ _ _ zo).trans b1,(Mr _ _ _ zo).trans b2,(Mr _ _ _ zo).trans b3,(Mr _ _ _ zo).trans b4⟩ (fun hHeld=> ?_);clear hK K;apply zrH 4;intro K hK;go_simp;refine hK _ _ ⟨(Mr _ _ _ zo).trans b0,(Mr _ _ _ zo).trans b1,(Mr _ _ _ zo).trans b2,(Mr _ _ _ zo).trans b3,(Mr _ _ _ zo).trans b4⟩ (fun hHeld=> ?_);clear hK K;apply zrH 7;intro K hK;refine step_append_lies _ zf _ _ 65 zf B0 118 j0 (.agg #[xj ⟨#[]⟩,xa none 0 0,xa none 0 0,xa none 0 0,xa none 0 0]) 5 112 underlying65 bl br bt bu rfl zp (xa to_ tn tc) tn C zf ?d0y ⟨W4.heap.size,0,none⟩ 1 1 [xj mk,xa lo n lc,xa (some ⟨g1,0,none⟩) (n+1) cap1,xa (some ⟨g2,0,none⟩) (n+2) cap2,xa (some ⟨g3,0,none⟩) (n+3) cap3] zf rfl ?d1y ?d2y zp ?d3y ?d4y ?d5y (W4.heap.size+1) zp ?_
 case d0y=>exact fL HMX3.bk (((Mx _ _).drew).alloc (Mu _) _)
 case d1y=>
  intro j u hj
  match j,hj with
  |0,hj=>simp at hj;subst hj;exact cell_of_blk (fk _ _ _ rfl) 0
  |1,hj=>simp at hj;subst hj;exact cell_of_blk (fk _ _ _ rfl) 1
  |2,hj=>simp at hj;subst hj;exact cell_of_blk (fk _ _ _ rfl) 2
  |3,hj=>simp at hj;subst hj;exact cell_of_blk (fk _ _ _ rfl) 3
  |4,hj=>simp at hj;subst hj;exact cell_of_blk (fk _ _ _ rfl) 4
  |j+5,hj=>trivial
 case d2y=>intro u hu;simp at hu;rcases hu with rfl|rfl|rfl|rfl|rfl<;>rfl
 case d3y=>unfold maxLen;omega
 case d4y=>omega
 case d5y=>simp;omega
 exact zm13
theorem LentB.owns{g:Nat}(h:LentB w g tr)(hn:tr.length+8<=maxLen): ∃xs,w.ownsRow 0 9 1 (xa (some ⟨g,0,none⟩) (tr.length+8) (tr.length+8)) (tr.length+8) xs:=by
 exact zm105
def Kr(w:World)(lb:Nat)(dk:Value)(M:Nat)(to_:Option Addr)(tn tc:Nat)(ix rx wt et wb eb:Value)(C:List Value)(B0:Nat)(l:Value)(w':World)(e:Ending):Prop:=
 e=xm (xn true)/\vP w lb dk M to_ tn tc ix rx wt et wb eb C B0 l w' (xm (.tuple #[]))
theorem yd(w:World)(lb:Nat)(dk:Value)(M:Nat)(to_:Option Addr)(tn tc:Nat)(ix rx wt et wb eb:Value)(C:List Value)(B0 g:Nat)(tr:List ByteArray)(ad:Addr)(c:Nat)
  (hL:mh w lb dk M (xa to_ tn tc) ix rx wt et wb eb)(hC:w.ownsRow B0 118 5 (xa to_ tn tc) tn C)(R:B0<=w.heap.size)(hl:LentB w g tr)(hT:TxS w (some ad) tr)
  (hn:tr.length<=8796093021952)(U:(tn+1) * 112<=140737488355328)(hM:M<=4611686018427387904)(J:MI prog w "internal/strconv.uint64pow10" .u64 MG)(I:lb≠4):
  Calls prog 96 #[xk (some ⟨lb,0,none⟩),xa (some ⟨g,0,none⟩) tr.length (tr.length+8),xa (some ad) tr.length c] w fun e w'=>Kr w lb dk M to_ tn tc ix rx wt et wb eb C B0 (xa (some ⟨g,0,none⟩) (tr.length+8) (tr.length+8)) w' e:=by
 obtain⟨xs,aa⟩:=hl.owns (by unfold maxLen;omega);have HMK:=fa (sA w lb dk M to_ tn tc ix rx wt et wb eb C B0 0 (some ⟨g,0,none⟩) (tr.length+8) (tr.length+8) xs hL hC R aa (Mz _) zo U hM J I);have ae:=fa hl;have HT:=fa hT;have he:=fun W:World=>I4 W ad tr.length c
 go_in;go_wp2
 go_loopw [9,10] (fun ok x wr=> ∃i:Nat,i<=tr.length+8/\ok=xn true/\x=xd xh i/\Hid (w=wr)) (fun _ x _=>tr.length+8 - (intOf x).toNat)
 ·exact zm68
 obtain⟨i,hi,rfl,rfl,HW⟩:=hrel;have hw:=HW.out;subst hw;by_cases hil:i<tr.length+8
 ·have hin:(i:Int)<(tr.length:Int)+8:=zo;obtain⟨cur,h1,h2,h3,h4⟩:=ae.blk;rcases zc i tr.length with⟨hit,hic⟩|⟨hit,hic⟩
  ·obtain⟨b,off,ai,hb2,hb3⟩:=HT i tr[i] (Ms hit);have hc:=(cell_of_blk h1 i).trans (h3 i tr[i] (Ms hit));cases ai;generalize tr[i]=x at *;exact zm53
  have hc:w.cell? ⟨g,i,none⟩=some (xj ⟨#[98,101,121,111,110,100]⟩):=(cell_of_blk h1 i).trans (h4 i zo hil);exact zm53
 exact zm96
end Go.Proofs.YtidakhhekofkoaaGreatDoor
