import Derived.Test.YtidakhhekofkoaaGreatDoorT21
import Derived.Lib.QuietBelow
set_option linter.all false
set_option maxHeartbeats 4000000
set_option maxRecDepth 100000
namespace Go.Proofs.YtidakhhekofkoaaGreatDoor
open Go.Proofs.Tryz
open Go.RowKit Go.Deep Go.Sort
open Value renaming slice -> xa, int -> xd, string -> xj, pointer -> xk, bool -> xn
open IntKind renaming i64 -> xh
open Obj renaming cells -> xi
open Ending renaming returned -> xm
open Or renaming inr -> Mr, inl -> Mu
open List renaming mem_cons_self -> Ms, mem_cons_of_mem -> Mt, pairwise_singleton -> Mw, getElem?_eq_getElem -> Mx, cons_append -> My, length_append -> Mz, mem_append_right -> MC, mem_append_left -> MD, setIfInBounds_toArray -> MG, getElem_cons_succ -> MH, getElem_cons_zero -> MI, length_singleton -> MJ, getElem_toArray -> MK, set_cons_zero -> MN, set_cons_succ -> MO, getElem?_append_right -> MP, getElem?_append_left -> MQ, perm_append_comm -> MT, replicate -> MU, flatMap_append -> MV, map_singleton -> MZ, flatMap_cons -> Na, getElem_mem -> Nc, not_mem_nil -> Nf, length_cons -> Ng, map_append -> Nh
open Nat renaming le_trans -> ME, zero_le -> MF, le_of_eq -> ML, le_refl -> MM, lt_of_lt_of_le -> MX, le_succ -> Nb
open Go.RowKit.Below renaming heap_alloc -> MR, heap_setCell -> MY
open Lib renaming pow10Tab -> M', TabIs -> Ni
variable {zq:Prop}
variable {w w' w0:World} {L tr:List ByteArray} {o q:Option Addr} {v v1 v2 A F:Value} {B lb m c base N' n b B' N:Nat} {y:Th} {x1 x2 rv:List Value} {t:Tb} {X' xs X:List Th} {e:Ending} {cs:Array Value} {bs bs':List Bk}
theorem zm55(h:zq:=by
 refine⟨h,fun k hk=> ?_,fun w' hs hk=> ?_⟩
 ·rcases h with⟨_,hv,_⟩|⟨ad,g,_,hv,hl⟩
  ·rw[hv] at hk;cases hk
  rw[hv] at hk;cases hk;exact hl.lt
 rcases h with h|⟨ad,g,h1,hv,hl⟩
 ·exact Or.inl h
 obtain⟨cur,c1,c2⟩:=hl.blk;exact Or.inr ⟨ad,g,h1,hv,⟨cur,(hk g (by rw[hv];rfl)).trans c1,c2⟩⟩
 ):zq:=h
theorem zm82(h:zq:=by
 exact Or.inl (Or.inr (Or.inr (Or.inr (Or.inl e))))
 ):zq:=h
theorem zm87(h:zq:=by
 subst hb;rintro k (e|e|e|e)
 ·simp_all
 ·cases e;exact k1.imp id (fun e=>⟨e,qR h4⟩)
 ·cases e;exact k2.imp id (fun e=>⟨e,qR h5⟩)
 cases e;exact k3.imp id (fun e=>⟨e,qR h6⟩)
 ):zq:=h
theorem zm100(h:zq:=by
 exact Or.inl (Or.inr (Or.inr (Or.inr (Or.inr (Or.inl e)))))
 ):zq:=h
theorem zm114(h:zq:=by
 exact Or.inl (Or.inr (Or.inr (Or.inl e)))
 ):zq:=h
theorem zm130(h:zq:=by
 rintro e w' ⟨rfl,rfl⟩;exact⟨rfl,a,bs,js,LtK.refl a,hT.drop.more (Nat.le_succ _),fun b hb=>hb,fun b hb=>hb,Or.inl ⟨rfl,rfl,rfl⟩⟩
 ):zq:=h
theorem zm134(h:zq:=by
 show a.M+1=_;rw[h.M,List.length_append,List.length_singleton];omega
 ):zq:=h
theorem zm137(h:zq:=by
 rintro e w' ⟨g,rfl,hg,hL,hb⟩;exact⟨some ⟨g,0,none⟩,_,rfl,Or.inr ⟨ad,g,rfl,rfl,hL⟩,fun k hk=>(by cases hk;omega),hb⟩
 ):zq:=h
theorem zm141(h:zq:=by
 exact Or.inl (Or.inr (Or.inl e))
 ):zq:=h
theorem zm143(h:zq:=by
 have:=h.nb;rw[List.length_append,List.length_singleton];omega
 ):zq:=h
theorem zm151(h:zq:=by
 rw[e1,e2];exact List.perm_middle.symm
 ):zq:=h
theorem zm157(h:zq:=by
 rintro e w' ⟨rfl,rfl⟩;exact⟨none,0,rfl,Or.inl ⟨rfl,rfl,rfl⟩,fun k hk=>(by cases hk),Below.refl _ _⟩
 ):zq:=h
theorem zm161(h:zq:=by
 rcases hbS k hk with e|⟨_,_,_,e⟩
 ·exact Nat.lt_of_lt_of_le (hylt k (hy k e)) hf.size
 exact fh e
 ):zq:=h
theorem ox{l:Value}{m:Int}(mb:Nat)(h:AllM w l (xa (some ⟨mb,0,none⟩) 1 1) 33)(hm:w.heap[mb]? =some (xi #[xd xh m] 3 (0,0))):
  Calls prog 67 #[l,xd xh m] w fun e w'=>e=xm (xn true)/\w'=w:=by
 obtain⟨o,n,c,rfl,hn,h⟩:=h;have H:=fa h;have mc:=(cell_of_blk hm 0).trans rfl;clear h hm;exact zm32
theorem Cm(I J:Option Addr)(ac R n:Nat)(hn:n=L.length)(h1:TxS w I L)(h2:TxS w J L)(U:n<=10000000000000):
  Calls prog 61 #[xa I n ac,xa J n R] w fun e w'=>e=xm (xn true)/\Below w.heap.size w w':=by
 subst hn;refine(zP w I J ac R L L h1 h2 U U).mono ?_;rintro e w' ⟨⟨b,he,hb'⟩,hb⟩;simp_all
theorem xu(w:World)(I J:Option Addr)(ac R n:Nat)(L:List Int)(hn:n=L.length)(h1:InS w I L)(h2:InS w J L)(U:n<=10000000000000):
  Calls prog 111 #[xa I n ac,xa J n R] w fun e w'=>e=xm (xn true)/\Below w.heap.size w w':=by
 subst hn;refine(Bq w I J ac R L L h1 h2 U U).mono ?_;rintro e w' ⟨⟨b,he,hb'⟩,hb⟩;simp_all
structure TbR (w:World) (ao fo no:Option Addr) (z:Tz):Prop where
 acts:TxS w ao z.acts
 fl:InS w fo z.fl
 nx:RwS w no z.nx
theorem RwS.lat{l:List (List Int)}(h:RwS w o l)(I:Below w.heap.size w w'):RwS w' o l:=fun j r hr=>by
 obtain⟨b,off,ro,rc,R,J,U,h4⟩:=h j r hr;exact⟨b,off,ro,rc,R,MX J I.size,(bcell3 I _ _ J).trans U,h4.later I⟩
theorem TbR.later{J R no:Option Addr}{z:Tz}(h:TbR w J R no z)(I:Below w.heap.size w w'):TbR w' J R no z:=⟨h.acts.later I,h.fl.later I,h.nx.lat I⟩
def Mi(z:Tz):Prop:=z.acts.length<=10000000000000/\z.fl.length<=10000000000000/\z.nx.length<=10000000000000/\ ∀r∈z.nx,r.length<=10000000000000
theorem sF(w:World)(ao fo no bo go ho:Option Addr)(ac fc nc bc gc hc I nf nn:Nat)(z:Tz)(h1:TbR w ao fo no z)(h2:TbR w bo go ho z)(hz:Mi z)(ea:I=z.acts.length)(ef:nf=z.fl.length)(en:nn=z.nx.length):
  Calls prog 62 #[.agg #[xa ao I ac,xa fo nf fc,xa no nn nc],.agg #[xa bo I bc,xa go nf gc,xa ho nn hc]] w fun e w'=>e=xm (xn true)/\Below w.heap.size w w':=by
 have R:Below w.heap.size w ((w.alloc (xi #[xa ao I ac,xa fo nf fc,xa no nn nc] 36)).alloc (xi #[xa bo I bc,xa go nf gc,xa ho nn hc] 36)):=gz.alloc zp _;have HP:Hid (((w.alloc (xi #[xa ao I ac,xa fo nf fc,xa no nn nc] 36)).alloc (xi #[xa bo I bc,xa go nf gc,xa ho nn hc] 36)).heap[w.heap.size]? =some (xi #[xa ao I ac,xa fo nf fc,xa no nn nc] 36 (0,0))):=(MR _ _ _ zp).trans (ft _ _);have HO:Hid (((w.alloc (xi #[xa ao I ac,xa fo nf fc,xa no nn nc] 36)).alloc (xi #[xa bo I bc,xa go nf gc,xa ho nn hc] 36)).heap[w.heap.size+1]? =some (xi #[xa bo I bc,xa go nf gc,xa ho nn hc] 36 (0,0))):=fk _ _ _ zp;have aa:=fa (Cm ao bo ac bc I ea (h1.acts.later R) (h2.acts.later R) (ea▸hz.1));have H1:=fa (h1.later R);have H2:=fa (h2.later R);have aB:=fa R;have HZ:=fa hz;have EF:=fa ef;have EN:=fa en;have hnn:=en▸hz.2.2.1
 clear h1 h2 hz ea ef en R;go_in;go_wp2_with fail;refine aa.mono ?_;clear aa;generalize ((w.alloc (xi #[xa ao I ac,xa fo nf fc,xa no nn nc] 36)).alloc (xi #[xa bo I bc,xa go nf gc,xa ho nn hc] 36))=W at *;rintro e w1 ⟨rfl,J⟩;have ag:=fa ((J.block _ (fh HP)).trans HP);have ae:=fa ((J.block _ (fh HO)).trans HO);have p1:=cell_of_blk ag;have o1:=cell_of_blk ae;have aa:=fa (xu w1 fo go fc gc nf _ EF (H1.fl.later J) (H2.fl.later J) (EF▸HZ.2.1));have av:=fa J;clear J;go_wp2_with fail;refine aa.mono ?_;clear aa p1 o1;rintro e w2 ⟨rfl,ai⟩;have ax:=fa ((ai.block _ (fh ag)).trans ag);have aw:=fa ((ai.block _ (fh ae)).trans ae);have aA:=fa (av.trans (ai.mono av.size));have p2:=cell_of_blk ax;have o2:=cell_of_blk aw;clear ai ag ae av;go_wp2
 go_loopw [7] (fun x wr=> ∃k:Nat,k<=nn/\x=xd xh k/\Hid (Below w2.heap.size w2 wr)) (fun x _=>nn - (intOf x).toNat)
 ·exact⟨0,MF _,rfl,Below.refl _ _⟩
 clear p2 o2;obtain⟨k,hk,rfl,U⟩:=hrel;have ad:=aA.trans (U.mono aA.size);have ak:=(U.block _ (fh ax)).trans ax;have aj:=(U.block _ (fh aw)).trans aw;have x2:=(cell_of_blk ak 2).trans rfl;have y2:=(cell_of_blk aj 2).trans rfl;have xl:=fh ak;have yl:=fh aj;rcases zc k nn with⟨hlt,hkn⟩|⟨hlt,hkn⟩
 ·have az:k<(z.nx).length:=by rw[<-EN.out];omega
  obtain⟨b,off,ro,rc,rfl,hb,aF,aD⟩:=H1.nx.lat ad k _ (Mx az);obtain⟨d,of2,so,sc,rfl,hd,aG,aE⟩:=H2.nx.lat ad k _ (Mx az);have aH:=HZ.2.2.2 _ (Nc az);generalize z.nx[k]=row at *;obtain⟨m,hm⟩: ∃m,m=row.length:=⟨_,rfl⟩;rw[<-hm] at aF aG;have aC:=fa (fun d os=>xu (Go.Sort.grow (redrawn wr d) os) ro so rc sc m row hm (aD.later (below_regrown wr d os)) (aE.later (below_regrown wr d os)) (hm▸aH));have k5:=fun d os=>cell_regrown x2 d os
  have k6:=fun d os=>cell_regrown y2 d os
  have kg:=fun d os=>cell_regrown aF d os
  have kq:=fun d os=>cell_regrown aG d os
  clear hm aD aE aH ad ak aj;go_wp2_with fail;refine wp_region_quiet_below zk zk ?_
  repeat (quiet_step (first|(exact Calls.regrown_of (aC _ _))))
  refine wpQuiet_nil ?_;intro w5 aN;obtain⟨⟨dq,aO⟩,au⟩:=aN;have aJ:=fa (U.trans ((by rw[au];exact below_regrown wr dq aO:Below wr.heap.size wr w5).mono U.size));clear au k5 k6 kg kq aC;go_wp2
  go_roundw
  ·exact⟨k+1,zo,zf,aJ⟩
  simp[intOf];omega
 have HFIN:=fa (aB.trans (ad.mono aB.size));clear ad ak aj;go_wp2;go_ret;trivial
structure Pl where
 A:Nat
 n:Nat
 ab:Nat
 a0:Nat
 fb:Nat
 f0:Nat
 nb:Nat
 n0:Nat
 ac:Nat
 fc:Nat
 nc:Nat
 rb:Nat->Nat
 ro:Nat->Nat
 rc:Nat->Nat
def Pl.S(p:Pl)(k:Nat):Prop:=k=p.ab\/k=p.fb\/k=p.nb\/ ∃i,i<p.n/\k=p.rb i
structure Dd where
 t:Tb
 cs:List Cs
 db:Nat
 p:Pl
 mb:Nat
 pb:ByteArray->Nat
 D:DataW Unit
 rd:Nat
 q:Pl
 lo:Option Addr
 lc:Nat
def Dd.dS(d:Dd)(k:Nat):Prop:=k=d.db\/d.p.S k\/Lz d.cs d.mb d.pb k
def Dd.rS(d:Dd)(k:Nat):Prop:=d.q.S k\/LC d.rd d.lo k
def Dd.dP(d:Dd)(w:World):Prop:=Mc w d.db d.t d.cs d.p.A d.p.n d.p.ab d.p.a0 d.p.fb d.p.f0 d.p.nb d.p.n0 d.p.ac d.p.fc d.p.nc d.p.rb d.p.ro d.p.rc d.mb d.pb d.D
def Dd.rP(B:Nat)(d:Dd)(w:World):Prop:=Md w B d.rd d.t d.cs d.q.A d.q.n d.q.ab d.q.a0 d.q.fb d.q.f0 d.q.nb d.q.n0 d.q.ac d.q.fc d.q.nc d.q.rb d.q.ro d.q.rc d.lo d.lc
def Dd.dT(d:Dd):Th:=⟨d.dS,d.dP⟩
def Dd.rT(B:Nat)(d:Dd):Th:=⟨d.rS,d.rP B⟩
def Dd.ts(B:Nat)(d:Dd):List Th:=[d.dT,d.rT B]
theorem AllM.same{l:Value}{e:Nat}(h:AllM w l v e)(hk: ∀k,l.ownBlock=some k->w'.heap[k]? =w.heap[k]?):AllM w' l v e:=by
 obtain⟨o,n,c,I,U,h3⟩:=h;refine⟨o,n,c,I,U,fun i hi=> ?_⟩;obtain⟨b,J,h5,h6⟩:=h3 i hi;have e:=hk b (by rw[I,J];rfl);refine⟨b,J, ?_,(Ey e).trans h6⟩;obtain⟨R,m,hc⟩:=h5;exact⟨R,m,e.trans hc⟩
def kH(b:Bk):Th:=⟨fun k=>b.l.ownBlock=some k\/b.g1.ownBlock=some k\/b.g2.ownBlock=some k\/b.g3.ownBlock=some k,fun w=>Ke w b⟩
theorem Ll{b:Bk}(h:Ke w b)(J: ∀k,(kH b).S k->k<w.heap.size):ThOk w (kH b):=
 ⟨h,J,fun w' hs I=>⟨h.l.same (fun k e=>I k (Mu e)),h.g1.same (fun k e=>I k (Mr (Mu e))),h.g2.same (fun k e=>I k (Mr (Mr (Mu e)))),h.g3.same (fun k e=>I k (Mr (Mr (Mr e))))⟩⟩
structure Wt where
 L:List ByteArray
 lo:Option Addr
 lc:Nat
 ko:Option Addr
 kc:Nat
def Wt.l(x:Wt):Value:= xa x.lo x.L.length x.lc
def Wt.k(x:Wt):Value:= xa x.ko x.L.length x.kc
structure Wt.P (B:Nat) (x:Wt) (w:World):Prop where
 l:w.ownsRow B 9 1 x.l x.L.length (jK x.L)
 k:w.ownsRow B 9 1 x.k x.L.length (jK x.L)
 few:x.L.length<=8
def Mq(B:Nat)(x:Wt):Th:=⟨fun k=>x.l.ownBlock=some k\/x.k.ownBlock=some k,x.P B⟩
structure Lw where
 dO:Option Addr
 dn:Nat
 dc:Nat
 M:Nat
 tO:Option Addr
 tn:Nat
 tc:Nat
 wO:Option Addr
 wn:Nat
 wc:Nat
 eO:Option Addr
 en:Nat
 ec:Nat
 pv:List Value
 bv:List Value
 wv:List Value
 ev:List Value
structure Lw.P (B lb:Nat) (a:Lw) (w:World):Prop where
 lw:mh w lb (xa a.dO a.dn a.dc) a.M (xa a.tO a.tn a.tc) (xa none 0 0) (xa none 0 0) (xa a.wO a.wn a.wc) (xa a.eO a.en a.ec) (xa none 0 0) (xa none 0 0)
 dk:w.ownsRow B 112 2 (xa a.dO a.dn a.dc) a.dn a.pv
 tx:w.ownsRow B 118 5 (xa a.tO a.tn a.tc) a.tn a.bv
 wt:w.ownsRow B 25 1 (xa a.wO a.wn a.wc) a.wn a.wv
 et:w.ownsRow B 25 1 (xa a.eO a.en a.ec) a.en a.ev
 ne: ∀k,(xa a.wO a.wn a.wc).ownBlock=some k->(xa a.eO a.en a.ec).ownBlock≠some k
def Lw.S(lb:Nat)(a:Lw)(k:Nat):Prop:=k=lb\/(xa a.dO a.dn a.dc).ownBlock=some k\/(xa a.tO a.tn a.tc).ownBlock=some k\/(xa a.wO a.wn a.wc).ownBlock=some k\/(xa a.eO a.en a.ec).ownBlock=some k
def Lw.T(B lb:Nat)(a:Lw):Th:=⟨a.S lb,a.P B lb⟩
theorem Lw.ok{a:Lw}(h:a.P B lb w):ThOk w (a.T B lb):=by
 refine⟨h,fun k I=> ?_,fun w' hs I=> ?_⟩
 ·rcases I with rfl|e|e|e|e
  ·exact fh h.lw
  ·exact(gG h.dk k e).2
  ·exact(gG h.tx k e).2
  ·exact(gG h.wt k e).2
  exact(gG h.et k e).2
 exact⟨(I _ (Mu rfl)).trans h.lw,jb h.dk (fun k e=>I k (Mr (Mu e))),jb h.tx (fun k e=>I k (Mr (Mr (Mu e)))),jb h.wt (fun k e=>I k (Mr (Mr (Mr (Mu e))))),jb h.et (fun k e=>I k (Mr (Mr (Mr (Mr e))))),h.ne⟩
def Mo(ds:List Dd):List Value:=ds.flatMap fun d=>[xk (some ⟨d.db,0,none⟩),xk (some ⟨d.rd,0,none⟩)]
def LO(N:Nat)(cs:List Cs):Prop:= ∀c∈cs,c.ev<=N/\c.id.size<=140737488355328
structure LI (B lb:Nat) (X:List Th) (w0 w:World) (N:Nat) (a:Lw) (ds:List Dd) (bs:List Bk) (ws:List Wt):Prop where
 th:Ths B w (a.T B lb::(X++(ds.flatMap (Dd.ts B)++(bs.map kH++ws.map (Mq B)))))
 bel:Below B w0 w
 lo:B=w0.heap.size
 pv:a.pv=Mo ds
 bv:a.bv=nt bs
 M:a.M=a.tn
 nd:ds.length<=N
 nb:bs.length+ws.length<=2 * N
 evs: ∀d∈ds,LO N d.cs
section
variable {B lb : Nat} {X : List Th} {w0 w w' : World} {N : Nat} {a : Lw} {ds : List Dd} {bs : List Bk} {ws : List Wt}
theorem LI.hB(h:LI B lb X w0 w N a ds bs ws):B<=w.heap.size:=by have:=h.bel.size;have:=h.lo;omega
theorem LI.drop(h:LI B lb (y::X) w0 w N a ds bs ws):LI B lb X w0 w N a ds bs ws:=by
 have t:=h.th.perm (List.Perm.swap y (a.T B lb) _);exact⟨⟨fun x I=>t.ok x (Mt _ I),(List.pairwise_cons.1 t.ap).2,fun x I=>t.lo x (Mt _ I)⟩,h.bel,h.lo,h.pv,h.bv,h.M,h.nd,h.nb,h.evs⟩
def KX(B:Nat)(v:Value)(L:List ByteArray):Th:=⟨fun k=>v.ownBlock=some k,fun w=>w.ownsRow B 9 1 v L.length (jK L)⟩
theorem Lu(h:w.ownsRow B 9 1 v L.length (jK L)):ThOk w (KX B v L):=⟨h,fun k I=>(gG h k I).2,fun w' hs I=>jb h I⟩
end
section
variable {B lb : Nat} {X : List Th} {w0 w w1 w2 w' : World} {N : Nat} {a a' : Lw} {ds l r : List Dd} {d : Dd} {bs : List Bk} {ws : List Wt} {cs' : List Cs} {pb' : ByteArray -> Nat} {D' : DataW Unit} {lo' : Option Addr} {lc' : Nat}
theorem kU{b1 b2 U e2 z1 z2 n1 n2:Nat}(h1:w.ownsRow b1 U z1 v1 n1 x1)(h2:w.ownsRow b2 e2 z2 v2 n2 x2)(J:U≠e2){k:Nat}(k1:v1.ownBlock=some k):v2.ownBlock≠some k:=fun k2=>by
 obtain⟨_,⟨R,_⟩|⟨g,cap,cur,R,hg,I,_⟩⟩:=h1
 ·rw[R] at k1;cases k1
 rw[R] at k1;have e:g=k:=Option.some.inj k1;rw[e] at I;exact gp h2 k2 I J
theorem qR{g e:Nat}(h:AllM w (xa (some ⟨g,0,none⟩) (m+1) c) v e):TyAt w g e:=by
 obtain⟨o,n,c',I,_,J⟩:=h;cases I;obtain⟨b,R,U,_⟩:=J 0 (Nat.succ_pos m);cases R;exact U
end
structure Ik where
 m:Int
 l:Value
 g1:Value
 g2:Value
 g3:Value
variable {js:List Ik}
structure Rk where
 m:Int
 mb:Nat
 l:Value
 g1:Value
 g2:Value
 g3:Value
variable {rs:List Rk}
def s7(b:Ik):List Value:=[xd xh b.m,b.l,b.g1,b.g2,b.g3]
def uL(b:Rk):List Value:=[xd xh b.m,b.l,b.g1,b.g2,b.g3]
def All4(w:World)(v:Value)(e:Nat)(l g1 g2 g3:Value):Prop:=AllM w l v e/\AllM w g1 v e/\AllM w g2 v e/\AllM w g3 v e
def Kf(l g1 g2 g3:Value)(k:Nat):Prop:=l.ownBlock=some k\/g1.ownBlock=some k\/g2.ownBlock=some k\/g3.ownBlock=some k
theorem All4.same{e:Nat}{l g1 g2 g3:Value}(h:All4 w v e l g1 g2 g3)(I: ∀k,Kf l g1 g2 g3 k->w'.heap[k]? =w.heap[k]?):All4 w' v e l g1 g2 g3:=
 ⟨h.1.same (fun k e=>I k (Mu e)),h.2.1.same (fun k e=>I k (Mr (Mu e))),h.2.2.1.same (fun k e=>I k (Mr (Mr (Mu e)))),h.2.2.2.same (fun k e=>I k (Mr (Mr (Mr e))))⟩
def kP(b:Ik):Th:=⟨Kf b.l b.g1 b.g2 b.g3,fun w=>All4 w (xd xh b.m) 3 b.l b.g1 b.g2 b.g3⟩
def kM(b:Rk):Th:=⟨fun k=>k=b.mb\/Kf b.l b.g1 b.g2 b.g3 k,fun w=>w.heap[b.mb]? =some (xi #[xd xh b.m] 3 (0,0))/\All4 w (xa (some ⟨b.mb,0,none⟩) 1 1) 33 b.l b.g1 b.g2 b.g3⟩
theorem Ln{b:Ik}(h:All4 w (xd xh b.m) 3 b.l b.g1 b.g2 b.g3)(J: ∀k,(kP b).S k->k<w.heap.size):ThOk w (kP b):=⟨h,J,fun w' hs I=>h.same I⟩
theorem Ls{b:Rk}(h:(kM b).P w)(J: ∀k,(kM b).S k->k<w.heap.size):ThOk w (kM b):=⟨h,J,fun w' hs I=>⟨(I _ (Mu rfl)).trans h.1,h.2.same (fun k e=>I k (Mr e))⟩⟩
def C0(v:Value)(L:List Value):Th:=⟨fun k=>v.ownBlock=some k,fun w=>w.ownsRow 0 3 1 v L.length L⟩
def KW(v:Value)(L:List Value):Th:=⟨fun k=>v.ownBlock=some k,fun w=>w.ownsRow 0 33 1 v L.length L⟩
structure Lt where
 M:Nat
 tO:Option Addr
 tn:Nat
 tc:Nat
 iO:Option Addr
 im:Nat
 ic:Nat
 rO:Option Addr
 rn:Nat
 rc:Nat
 wO:Option Addr
 wn:Nat
 wc:Nat
 eO:Option Addr
 en:Nat
 ec:Nat
 bv:List Value
 iv:List Value
 rv:List Value
 wv:List Value
 ev:List Value
variable {a:Lt}
structure Lt.P (lb:Nat) (a:Lt) (w:World):Prop where
 lw:mh w lb (xa none 0 0) a.M (xa a.tO a.tn a.tc) (xa a.iO a.im a.ic) (xa a.rO a.rn a.rc) (xa none 0 0) (xa none 0 0) (xa a.wO a.wn a.wc) (xa a.eO a.en a.ec)
 tx:w.ownsRow 0 118 5 (xa a.tO a.tn a.tc) a.tn a.bv
 ix:w.ownsRow 0 123 5 (xa a.iO a.im a.ic) a.im a.iv
 rx:w.ownsRow 0 120 5 (xa a.rO a.rn a.rc) a.rn a.rv
 wt:w.ownsRow 0 36 3 (xa a.wO a.wn a.wc) a.wn a.wv
 et:w.ownsRow 0 36 3 (xa a.eO a.en a.ec) a.en a.ev
 ne: ∀k,(xa a.wO a.wn a.wc).ownBlock=some k->(xa a.eO a.en a.ec).ownBlock≠some k
def Lt.S(lb:Nat)(a:Lt)(k:Nat):Prop:=k=lb\/(xa a.tO a.tn a.tc).ownBlock=some k\/(xa a.iO a.im a.ic).ownBlock=some k\/(xa a.rO a.rn a.rc).ownBlock=some k\/(xa a.wO a.wn a.wc).ownBlock=some k\/(xa a.eO a.en a.ec).ownBlock=some k
def Lt.T(lb:Nat)(a:Lt):Th:=⟨a.S lb,a.P lb⟩
theorem Lt.ok(h:a.P lb w):ThOk w (a.T lb):=by
 refine⟨h,fun k I=> ?_,fun w' hs I=> ?_⟩
 ·rcases I with rfl|e|e|e|e|e
  ·exact fh h.lw
  ·exact(gG h.tx k e).2
  ·exact(gG h.ix k e).2
  ·exact(gG h.rx k e).2
  ·exact(gG h.wt k e).2
  exact(gG h.et k e).2
 exact⟨(I _ (Mu rfl)).trans h.lw,jb h.tx (fun k e=>I k (Mr (Mu e))),jb h.ix (fun k e=>I k (Mr (Mr (Mu e)))),jb h.rx (fun k e=>I k (Mr (Mr (Mr (Mu e))))),jb h.wt (fun k e=>I k (Mr (Mr (Mr (Mr (Mu e)))))),jb h.et (fun k e=>I k (Mr (Mr (Mr (Mr (Mr e)))))),h.ne⟩
structure Wb where
 t:Tb
 A:Value
 F:Value
 X:Value
 rv:List Value
variable {x:Wb} {ws us:List Wb}
def iU(x:Wb):Th:=⟨fun k=>x.A.ownBlock=some k\/x.F.ownBlock=some k\/x.X.ownBlock=some k\/ ∃v∈x.rv,v.ownBlock=some k,fun w=>TbW w 0 x.A x.F x.X x.t x.rv⟩
theorem TbW.low{X:Value}(h:TbW w base A F X t rv):TbW w 0 A F X t rv:=
 ⟨ig h.acts (MF _),ig h.fl (MF _),ig h.nx (MF _),fun j r hr=>by obtain⟨g,c,I,J⟩:=h.rows j r hr;exact⟨g,c,I,ig J (MF _)⟩,h.rf,h.rr⟩
theorem TbW.row_of{X:Value}(h:TbW w base A F X t rv)(hv:v∈rv): ∃r c,r∈t.nx/\(∃g,v=xa (some ⟨g,0,none⟩) r.length c)/\w.ownsRow base 3 1 v r.length (gU r):=by
 obtain⟨j,R⟩:=List.mem_iff_getElem?.1 hv;have I:j<t.nx.length:=by have:=(List.getElem?_eq_some_iff.1 R).1;have:=h.rl;omega
 obtain⟨g,c,J,U⟩:=h.rows j _ (Mx I);rw[R] at J;cases J;exact⟨_,c,Nc I,⟨g,rfl⟩,U⟩
theorem Lx(h:TbW w 0 x.A x.F x.X x.t x.rv):ThOk w (iU x):=by
 refine⟨h,fun k I=> ?_,fun w' hs I=>⟨jb h.acts (fun k e=>I k (Mu e)),jb h.fl (fun k e=>I k (Mr (Mu e))),jb h.nx (fun k e=>I k (Mr (Mr (Mu e)))),fun j r hr=> ?_,h.rf,h.rr⟩⟩
 ·rcases I with e|e|e|⟨v,hv,e⟩
  ·exact(gG h.acts k e).2
  ·exact(gG h.fl k e).2
  ·exact(gG h.nx k e).2
  obtain⟨r,c,_,_,J⟩:=h.row_of hv;exact(gG J k e).2
 obtain⟨g,c,R,J⟩:=h.rows j r hr;exact⟨g,c,R,jb J (fun k e=>I k (Mr (Mr (Mr ⟨_,List.mem_of_getElem? R,e⟩))))⟩
theorem K9(h:TbW w base x.A x.F x.X x.t x.rv){k:Nat}(J:(iU x).S k):base<=k:=by
 rcases J with e|e|e|⟨v,hv,e⟩
 ·exact(gG h.acts k e).1
 ·exact(gG h.fl k e).1
 ·exact(gG h.nx k e).1
 obtain⟨r,c,_,_,I⟩:=h.row_of hv;exact(gG I k e).1
def qu(l:List Wb):List Value:=l.flatMap fun x=>[x.A,x.F,x.X]
structure LT (lb:Nat) (X:List Th) (w0 w:World) (N:Nat) (a:Lt) (bs:List Bk) (js:List Ik) (rs:List Rk) (ws us:List Wb):Prop where
 th:Ths lb w (a.T lb::(X++(bs.map kH++(js.map kP++(rs.map kM++(ws.map iU++us.map iU))))))
 bel:Below lb w0 w
 lo:lb=w0.heap.size
 bv:a.bv=nt bs
 iv:a.iv=js.flatMap s7
 rv:a.rv=rs.flatMap uL
 M:a.M=bs.length+js.length+rs.length
 nb:bs.length+js.length+rs.length<=N
 rt:(∀x∈ws,RightT x.t)/\ ∀x∈us,RightT x.t
section
variable {lb : Nat} {X : List Th} {w0 w w' : World} {N : Nat} {a a' : Lt} {bs : List Bk} {js : List Ik} {rs : List Rk} {ws us : List Wb} {y : Th}
theorem LT.hB(h:LT lb X w0 w N a bs js rs ws us):lb<=w.heap.size:=by have:=h.bel.size;have:=h.lo;omega
theorem LT.law(h:LT lb X w0 w N a bs js rs ws us):a.P lb w:=(h.th.ok _ (Ms ..)).p
theorem LT.later(h:LT lb X w0 w N a bs js rs ws us)(I:Below w.heap.size w w'):LT lb X w0 w' N a bs js rs ws us:=⟨h.th.later I,h.bel.trans (I.mono h.hB),h.lo,h.bv,h.iv,h.rv,h.M,h.nb,h.rt⟩
theorem LT.more(h:LT lb X w0 w N a bs js rs ws us)(hn:N<=N'):LT lb X w0 w N' a bs js rs ws us:=⟨h.th,h.bel,h.lo,h.bv,h.iv,h.rv,h.M,ME h.nb hn,h.rt⟩
theorem LT.keep(h:LT lb X w0 w N a bs js rs ws us){x:Th}(I:x∈X):ThOk w x:=h.th.ok x (Mt _ (MD _ I))
theorem LT.hold(h:LT lb X w0 w N a bs js rs ws us)(I:Below w.heap.size w w')(R:ThOk w' y)(hn: ∀k,y.S k->w.heap.size<=k):LT lb (y::X) w0 w' N a bs js rs ws us:=
 ⟨(Ths.add (new:=[y]) h.th I (fun x J=>by rw[List.mem_singleton.1 J];exact R) (Mw _ _) (fun x J k hk=>za) h.hB).perm (List.Perm.swap _ _ _),(h.later I).bel,h.lo,h.bv,h.iv,h.rv,h.M,h.nb,h.rt⟩
theorem LT.drop(h:LT lb (y::X) w0 w N a bs js rs ws us):LT lb X w0 w N a bs js rs ws us:=by
 have t:=h.th.perm (List.Perm.swap y (a.T lb) _);exact⟨⟨fun x I=>t.ok x (Mt _ I),(List.pairwise_cons.1 t.ap).2,fun x I=>t.lo x (Mt _ I)⟩,h.bel,h.lo,h.bv,h.iv,h.rv,h.M,h.nb,h.rt⟩
theorem LT.permX(h:LT lb X w0 w N a bs js rs ws us)(I:X.Perm X'):LT lb X' w0 w N a bs js rs ws us:=⟨h.th.perm (List.Perm.cons _ (I.append_right _)),h.bel,h.lo,h.bv,h.iv,h.rv,h.M,h.nb,h.rt⟩
theorem LT.book(h:LT lb (y::X) w0 w N a bs js rs ws us)(J:FrD (fun k=>a.S lb k\/y.S k) w w')(hP:a'.P lb w')(hs: ∀k,a'.S lb k->a.S lb k\/w.heap.size<=k){z:Th}(hz:ThOk w' z)(ad: ∀k,z.S k->y.S k\/w.heap.size<=k)(ag: ∀k,w.heap.size<=k->z.S k->¬ a'.S lb k):
  Ths lb w' (a'.T lb::z::(X++(bs.map kH++(js.map kP++(rs.map kM++(ws.map iU++us.map iU))))))/\Below lb w w':=by
 have ht:=h.th;have U:=(List.pairwise_cons.1 ht.ap).1 y (Ms ..);have R:FrD (fun k=> ∃x∈[a.T lb,y],x.S k) w w':=⟨J.os,J.tape,J.output,J.size,fun k hk hn=>J.block k hk (fun e=>e.elim (fun e=>hn ⟨_,Ms ..,e⟩) (fun e=>hn ⟨_,Mt _ (Ms ..),e⟩))⟩;refine⟨Ths.turn (new:=[a'.T lb,z]) ht R (fun x I=> ?_) (List.pairwise_pair.2 fun k k1 k2=> ?_) (fun x I k hk=> ?_) h.hB,Ths.bel ht R h.hB⟩
 ·rcases List.mem_cons.1 I with rfl|I
  ·exact Lt.ok hP
  rw[List.mem_singleton.1 I];exact hz
 ·rcases ad k k2 with e|e
  ·rcases hs k k1 with f|f
   ·exact U k f e
   have:=(h.keep (Ms ..)).lt k e;omega
  exact ag k e k2 k1
 rcases List.mem_cons.1 I with rfl|I
 ·exact(hs k hk).imp (fun e=>⟨_,Ms ..,e⟩) id
 rw[List.mem_singleton.1 I] at hk;exact(ad k hk).imp (fun e=>⟨_,Mt _ (Ms ..),e⟩) id
theorem LT.markT(h:LT lb (y::X) w0 w N a bs js rs ws us)(hy: ∀k,v.ownBlock=some k->y.S k)
  (hp:vP w lb (xa none 0 0) a.M a.tO a.tn a.tc (xa a.iO a.im a.ic) (xa a.rO a.rn a.rc) (xa none 0 0) (xa none 0 0) (xa a.wO a.wn a.wc) (xa a.eO a.en a.ec) a.bv 0 v w' e): ∃ak I b,b.l=v/\LT lb X w0 w' (N+1) {a with M:=a.M+1,tO:=ak,tn:=a.tn+1,tc:=I,bv:=nt (bs++[b])} (bs++[b]) js rs ws us:=by
 obtain⟨_,to',I,G1,G2,G3,h1,h2,h3,h4,h5,h6,⟨g1,m1,c1,rfl,k1⟩,⟨g2,m2,c2,rfl,k2⟩,⟨g3,m3,c3,rfl,k3⟩,⟨g8,m8,c8,e8,k8⟩,hf⟩:=hp;injection e8 with e8a e8b e8c
 subst e8a;subst e8c;clear e8b m8;have J:=h.law;have hylt:=(h.keep (Ms ..)).lt;have U:=(List.pairwise_cons.1 h.th.ap).1 y (Ms ..);have kp: ∀{e z n:Nat} {u:Value} {xs:List Value},w.ownsRow 0 e z u n xs->e≠71->e≠118->(∀k,u.ownBlock=some k->a.S lb k)->w'.ownsRow 0 e z u n xs:=fun ho n1 n2 aj=>jb ho (fun k hk=>hf.block k (gG ho k hk).2 (fun e=>by subst e;exact gp ho hk J.lw (fun e=>n1 e.symm)) (fun e=>U k (aj k hk) (hy k e)) (kU ho J.tx n2 hk))
 obtain⟨b,hb⟩: ∃b,b=(⟨sB (a.M+1),v,xa (some ⟨g1,0,none⟩) (m1+1) c1,xa (some ⟨g2,0,none⟩) (m2+1) c2,xa (some ⟨g3,0,none⟩) (m3+1) c3⟩:Bk):=⟨_,rfl⟩;have ai:a.bv++[xj (sB (a.M+1)),v,xa (some ⟨g1,0,none⟩) (m1+1) c1,xa (some ⟨g2,0,none⟩) (m2+1) c2,xa (some ⟨g3,0,none⟩) (m3+1) c3]=nt (bs++[b]):=by rw[Ev,h.bv,hb]
 rw[ai] at h2;have R:Lt.P lb {a with M:=a.M+1,tO:=some ⟨g8,0,none⟩,tn:=a.tn+1,tc:=I,bv:=nt (bs++[b])} w':=⟨h1,h2,kp J.ix zp zp (fun k e=>Mr (Mr (Mu e))),kp J.rx zp zp (fun k e=>Mr (Mr (Mr (Mu e)))),kp J.wt zp zp (fun k e=>Mr (Mr (Mr (Mr (Mu e))))),kp J.et zp zp (fun k e=>Mr (Mr (Mr (Mr (Mr e))))),J.ne⟩;have hbS: ∀k,(kH b).S k->(v.ownBlock=some k)\/(w.heap.size<=k/\TyAt w' k 9):=by
  exact zm87
 have ag: ∀k,(kH b).S k->k<w'.heap.size:=fun k hk=>by
  exact zm161
 have ae: ∀k,Lt.S lb {a with M:=a.M+1,tO:=some ⟨g8,0,none⟩,tn:=a.tn+1,tc:=I,bv:=nt (bs++[b])} k->a.S lb k\/w.heap.size<=k:=fun k hk=>by
  rcases hk with e|e|e|e|e|e
  ·exact Mu (Mu e)
  ·have e':=Option.some.inj e;exact k8.imp (fun z=>Mr (Mu (e'▸z))) (fun z=>e'▸z)
  ·exact zm114
  ·exact zm82
  ·exact zm100
  exact Mu (Mr (Mr (Mr (Mr (Mr (e))))))
 obtain⟨t2,tb⟩:=h.book (a':={a with M:=a.M+1,tO:=some ⟨g8,0,none⟩,tn:=a.tn+1,tc:=I,bv:=nt (bs++[b])}) (z:=kH b) ⟨hf.os,hf.tape,hf.output,hf.size,fun k hk hn=>hf.block k hk (fun e=>hn (Mu (Mu e))) (fun e=>hn (Mr (hy k e))) (fun e=>hn (Mu (Mr (Mu e))))⟩ R ae (Ll (b:=b) (by subst hb;exact⟨h3,h4,h5,h6⟩) ag) (fun k hk=>(hbS k hk).imp (hy k) And.left) (fun k hk hz ha=>by
  rcases hbS k hz with e|⟨_,_,_,ety⟩
  ·have:=hylt k (hy k e);omega
  rcases ha with e|e|e|e|e|e
  ·have:=fh J.lw;omega
  ·exact gp R.tx e ety zp
  ·exact gp R.ix e ety zp
  ·exact gp R.rx e ety zp
  ·exact gp R.wt e ety zp
  exact gp R.et e ety zp)
 refine⟨some ⟨g8,0,none⟩,I,b,by rw[hb], ?_,h.bel.trans tb,h.lo,rfl,h.iv,h.rv, ?_, ?_,h.rt⟩
 ·refine t2.perm (List.Perm.cons _ ?_);have e1:X++((bs++[b]).map kH++(js.map kP++(rs.map kM++(ws.map iU++us.map iU))))=(X++bs.map kH)++kH b::(js.map kP++(rs.map kM++(ws.map iU++us.map iU))):=zp;have e2:X++(bs.map kH++(js.map kP++(rs.map kM++(ws.map iU++us.map iU))))=(X++bs.map kH)++(js.map kP++(rs.map kM++(ws.map iU++us.map iU))):=zp;exact zm151
 ·exact zm134
 exact zm143
theorem LT.markI(h:LT lb (y::X) w0 w N a bs js rs ws us)(hy: ∀k,v.ownBlock=some k->y.S k)
  (hp:uc w lb (xa none 0 0) a.M a.iO a.im a.ic (xa a.tO a.tn a.tc) (xa a.rO a.rn a.rc) (xa none 0 0) (xa none 0 0) (xa a.wO a.wn a.wc) (xa a.eO a.en a.ec) a.iv 0 v w' e): ∃ak I b,b.l=v/\LT lb X w0 w' (N+1) {a with M:=a.M+1,iO:=ak,im:=a.im+1,ic:=I,iv:=(js++[b]).flatMap s7} bs (js++[b]) rs ws us:=by
 obtain⟨_,to',I,G1,G2,G3,h1,h2,h3,h4,h5,h6,⟨g1,m1,c1,rfl,k1⟩,⟨g2,m2,c2,rfl,k2⟩,⟨g3,m3,c3,rfl,k3⟩,⟨g8,m8,c8,e8,k8⟩,hf⟩:=hp;injection e8 with e8a e8b e8c
 subst e8a;subst e8c;clear e8b m8;have J:=h.law;have hylt:=(h.keep (Ms ..)).lt;have U:=(List.pairwise_cons.1 h.th.ap).1 y (Ms ..);have kp: ∀{e z n:Nat} {u:Value} {xs:List Value},w.ownsRow 0 e z u n xs->e≠71->e≠123->(∀k,u.ownBlock=some k->a.S lb k)->w'.ownsRow 0 e z u n xs:=fun ho n1 n2 aj=>jb ho (fun k hk=>hf.block k (gG ho k hk).2 (fun e=>by subst e;exact gp ho hk J.lw (fun e=>n1 e.symm)) (fun e=>U k (aj k hk) (hy k e)) (kU ho J.ix n2 hk))
 obtain⟨b,hb⟩: ∃b,b=(⟨-((a.M:Int)+1),v,xa (some ⟨g1,0,none⟩) (m1+1) c1,xa (some ⟨g2,0,none⟩) (m2+1) c2,xa (some ⟨g3,0,none⟩) (m3+1) c3⟩:Ik):=⟨_,rfl⟩;have ai:a.iv++[xd xh (-((a.M:Int)+1)),v,xa (some ⟨g1,0,none⟩) (m1+1) c1,xa (some ⟨g2,0,none⟩) (m2+1) c2,xa (some ⟨g3,0,none⟩) (m3+1) c3]=(js++[b]).flatMap s7:=by rw[MV,<-h.iv,hb];rfl
 rw[ai] at h2;have R:Lt.P lb {a with M:=a.M+1,iO:=some ⟨g8,0,none⟩,im:=a.im+1,ic:=I,iv:=(js++[b]).flatMap s7} w':=⟨h1,kp J.tx zp zp (fun k e=>Mr (Mu e)),h2,kp J.rx zp zp (fun k e=>Mr (Mr (Mr (Mu e)))),kp J.wt zp zp (fun k e=>Mr (Mr (Mr (Mr (Mu e))))),kp J.et zp zp (fun k e=>Mr (Mr (Mr (Mr (Mr e))))),J.ne⟩;have hbS: ∀k,(kP b).S k->(v.ownBlock=some k)\/(w.heap.size<=k/\TyAt w' k 3):=by
  exact zm87
 have ag: ∀k,(kP b).S k->k<w'.heap.size:=fun k hk=>by
  exact zm161
 have ae: ∀k,Lt.S lb {a with M:=a.M+1,iO:=some ⟨g8,0,none⟩,im:=a.im+1,ic:=I,iv:=(js++[b]).flatMap s7} k->a.S lb k\/w.heap.size<=k:=fun k hk=>by
  rcases hk with e|e|e|e|e|e
  ·exact Mu (Mu e)
  ·exact zm141
  ·have e':=Option.some.inj e;exact k8.imp (fun z=>Mr (Mr (Mu (e'▸z)))) (fun z=>e'▸z)
  ·exact zm82
  ·exact zm100
  exact Mu (Mr (Mr (Mr (Mr (Mr (e))))))
 obtain⟨t2,tb⟩:=h.book (a':={a with M:=a.M+1,iO:=some ⟨g8,0,none⟩,im:=a.im+1,ic:=I,iv:=(js++[b]).flatMap s7}) (z:=kP b) ⟨hf.os,hf.tape,hf.output,hf.size,fun k hk hn=>hf.block k hk (fun e=>hn (Mu (Mu e))) (fun e=>hn (Mr (hy k e))) (fun e=>hn (Mu (Mr (Mr (Mu e)))))⟩ R ae (Ln (b:=b) (by subst hb;exact⟨h3,h4,h5,h6⟩) ag) (fun k hk=>(hbS k hk).imp (hy k) And.left) (fun k hk hz ha=>by
  rcases hbS k hz with e|⟨_,_,_,ety⟩
  ·have:=hylt k (hy k e);omega
  rcases ha with e|e|e|e|e|e
  ·have:=fh J.lw;omega
  ·exact gp R.tx e ety zp
  ·exact gp R.ix e ety zp
  ·exact gp R.rx e ety zp
  ·exact gp R.wt e ety zp
  exact gp R.et e ety zp)
 refine⟨some ⟨g8,0,none⟩,I,b,by rw[hb], ?_,h.bel.trans tb,h.lo,h.bv,rfl,h.rv, ?_, ?_,h.rt⟩
 ·refine t2.perm (List.Perm.cons _ ?_);have e1:X++(bs.map kH++((js++[b]).map kP++(rs.map kM++(ws.map iU++us.map iU))))=(X++(bs.map kH++js.map kP))++kP b::(rs.map kM++(ws.map iU++us.map iU)):=zp;have e2:X++(bs.map kH++(js.map kP++(rs.map kM++(ws.map iU++us.map iU))))=(X++(bs.map kH++js.map kP))++(rs.map kM++(ws.map iU++us.map iU)):=zp;exact zm151
 ·exact zm134
 exact zm143
theorem LT.markR(h:LT lb (y::X) w0 w N a bs js rs ws us)(hy: ∀k,v.ownBlock=some k->y.S k)
  (hp:xK ((w.setCell ⟨lb,1,none⟩ (xd xh ((a.M:Int)+1))).alloc (xi #[xd xh (-((a.M:Int)+1))] 3)) lb (xa none 0 0) a.M a.rO a.rn a.rc (xa a.tO a.tn a.tc) (xa a.iO a.im a.ic) (xa none 0 0) (xa none 0 0) (xa a.wO a.wn a.wc) (xa a.eO a.en a.ec) a.rv 0 v w' e):
  ∃ay J b,b.l=v/\b.mb=w.heap.size/\LT lb X w0 w' (N+1) {a with M:=a.M+1,rO:=ay,rn:=a.rn+1,rc:=J,rv:=(rs++[b]).flatMap uL} bs js (rs++[b]) ws us:=by
 obtain⟨_,to',J,G1,G2,G3,mb,hmb,h1,h2,h3,h4,h5,h6,⟨g1,m1,c1,rfl,k1⟩,⟨g2,m2,c2,rfl,k2⟩,⟨g3,m3,c3,rfl,k3⟩,⟨g8,m8,c8,e8,k8⟩,hf⟩:=hp;injection e8 with e8a e8b e8c
 subst e8a;subst e8c;clear e8b m8;have U:=h.law;have ax:(((w.setCell ⟨lb,1,none⟩ (xd xh ((a.M:Int)+1))).alloc (xi #[xd xh (-((a.M:Int)+1))] 3))).heap.size=w.heap.size+1:=zp;rw[ax] at hmb k1 k2 k3 k8;have an:mb=w.heap.size:=zo;subst an;clear hmb;have R:=(h.keep (Ms ..)).lt;have hllt:=fh U.lw;have aj:=(List.pairwise_cons.1 h.th.ap).1 y (Ms ..);have hA: ∀k,k<w.heap.size->k≠lb->(((w.setCell ⟨lb,1,none⟩ (xd xh ((a.M:Int)+1))).alloc (xi #[xd xh (-((a.M:Int)+1))] 3))).heap[k]? =w.heap[k]? :=fun k I hne=>(MR _ _ _ za).trans (MY _ _ _ _ zo)
 have ak :=fun k I e1 e2 e3=>(hf.block k zo e1 e2 e3).trans (hA k I e1)
 have ao:w'.heap[w.heap.size]? =some (xi #[xd xh (-((a.M:Int)+1))] 3 (0,0)):=(hf.block _ zp zo (fun e=>by have:=R _ (hy _ e);omega) (fun e=>by have:=(gG U.rx _ e).2;omega)).trans (fk _ _ _ zp);have hsz2:w.heap.size+1<=w'.heap.size:=by have:=hf.size;omega
 have kp: ∀{e z n:Nat} {u:Value} {xs:List Value},w.ownsRow 0 e z u n xs->e≠71->e≠120->(∀k,u.ownBlock=some k->a.S lb k)->w'.ownsRow 0 e z u n xs:=fun ho n1 n2 aw=>jb ho (fun k I=>ak k (gG ho k I).2 (fun e=>by subst e;exact gp ho I U.lw (fun e=>n1 e.symm)) (fun e=>aj k (aw k I) (hy k e)) (kU ho U.rx n2 I))
 obtain⟨b,hb⟩: ∃b,b=(⟨-((a.M:Int)+1),w.heap.size,v,xa (some ⟨g1,0,none⟩) (m1+1) c1,xa (some ⟨g2,0,none⟩) (m2+1) c2,xa (some ⟨g3,0,none⟩) (m3+1) c3⟩:Rk):=⟨_,rfl⟩;have av:a.rv++[xd xh (-((a.M:Int)+1)),v,xa (some ⟨g1,0,none⟩) (m1+1) c1,xa (some ⟨g2,0,none⟩) (m2+1) c2,xa (some ⟨g3,0,none⟩) (m3+1) c3]=(rs++[b]).flatMap uL:=by rw[MV,<-h.rv,hb];rfl
 rw[av] at h2;have hP:Lt.P lb {a with M:=a.M+1,rO:=some ⟨g8,0,none⟩,rn:=a.rn+1,rc:=J,rv:=(rs++[b]).flatMap uL} w':=⟨h1,kp U.tx zp zp (fun k e=>Mr (Mu e)),kp U.ix zp zp (fun k e=>Mr (Mr (Mu e))),h2,kp U.wt zp zp (fun k e=>Mr (Mr (Mr (Mr (Mu e))))),kp U.et zp zp (fun k e=>Mr (Mr (Mr (Mr (Mr e))))),U.ne⟩;have aa: ∀k,(kM b).S k->(v.ownBlock=some k)\/(w.heap.size<=k/\ ∃ty,TyAt w' k ty/\(ty=33\/ty=3)):=by
  subst hb;rintro k (e|e|e|e|e)
  ·cases e;exact Mr ⟨MM _,_,⟨_,_,ao⟩,Mr rfl⟩
  ·simp_all
  ·cases e;exact k1.imp id (fun e=>⟨ME (Nb _) e,_,qR h4,Mu rfl⟩)
  ·cases e;exact k2.imp id (fun e=>⟨ME (Nb _) e,_,qR h5,Mu rfl⟩)
  cases e;exact k3.imp id (fun e=>⟨ME (Nb _) e,_,qR h6,Mu rfl⟩)
 have au: ∀k,(kM b).S k->k<w'.heap.size:=fun k I=>by
  rcases aa k I with e|⟨_,_,⟨_,_,e⟩,_⟩
  ·have:=R k (hy k e);omega
  exact fh e
 have ar: ∀k,Lt.S lb {a with M:=a.M+1,rO:=some ⟨g8,0,none⟩,rn:=a.rn+1,rc:=J,rv:=(rs++[b]).flatMap uL} k->a.S lb k\/w.heap.size<=k:=fun k I=>by
  rcases I with e|e|e|e|e|e
  ·exact Mu (Mu e)
  ·exact zm141
  ·exact zm114
  ·have e':g8=k:=Option.some.inj e;exact k8.imp (fun z=>Mr (Mr (Mr (Mu (e'▸z))))) (fun z=>zo)
  ·exact zm100
  exact Mu (Mr (Mr (Mr (Mr (Mr e)))))
 obtain⟨t2,tb⟩:=h.book (a':={a with M:=a.M+1,rO:=some ⟨g8,0,none⟩,rn:=a.rn+1,rc:=J,rv:=(rs++[b]).flatMap uL}) (z:=kM b) ⟨hf.os,hf.tape,hf.output,zo,fun k I hn=>ak k I (fun e=>hn (Mu (Mu e))) (fun e=>hn (Mr (hy k e))) (fun e=>hn (Mu (Mr (Mr (Mr (Mu e))))))⟩ hP ar (Ls (b:=b) (by subst hb;exact⟨ao,h3,h4,h5,h6⟩) au) (fun k I=>(aa k I).imp (hy k) And.left) (fun k I hz ha=>by
  rcases aa k hz with e|⟨_,ty,⟨_,_,ety⟩,ht⟩
  ·have:=R k (hy k e);omega
  rcases ha with e|e|e|e|e|e
  ·omega
  ·exact gp hP.tx e ety zo
  ·exact gp hP.ix e ety zo
  ·exact gp hP.rx e ety zo
  ·exact gp hP.wt e ety zo
  exact gp hP.et e ety zo)
 refine⟨some ⟨g8,0,none⟩,J,b,by rw[hb],by rw[hb], ?_,h.bel.trans tb,h.lo,h.bv,h.iv,rfl, ?_, ?_,h.rt⟩
 ·refine t2.perm (List.Perm.cons _ ?_);have e1:X++(bs.map kH++(js.map kP++((rs++[b]).map kM++(ws.map iU++us.map iU))))=(X++(bs.map kH++(js.map kP++rs.map kM)))++kM b::(ws.map iU++us.map iU):=zp;have e2:X++(bs.map kH++(js.map kP++(rs.map kM++(ws.map iU++us.map iU))))=(X++(bs.map kH++(js.map kP++rs.map kM)))++(ws.map iU++us.map iU):=zp;exact zm151
 ·exact zm134
 exact zm143
end
def LsT(w:World)(o:Option Addr)(n c:Nat)(tr:List ByteArray):Prop:=(o=none/\n=0/\c=0/\tr=[])\/ ∃ad,o=some ad/\n=tr.length/\TxS w (some ad) tr/\tr.length<=1100000
theorem LsT.later(h:LsT w o n c tr)(hb:Below w.heap.size w w'):LsT w' o n c tr:=h.imp id (fun⟨I,J,R,U,h4⟩=>⟨I,J,R,U.later hb,h4⟩)
def LnT(w:World)(o:Option Addr)(v:Value)(tr:List ByteArray):Prop:=(o=none/\v=xa none 0 0/\tr=[])\/ ∃ad g,o=some ad/\v=xa (some ⟨g,0,none⟩) tr.length (tr.length+8)/\LentB w g tr
def nB(o:Option Addr)(v:Value)(tr:List ByteArray):Th:=⟨fun k=>v.ownBlock=some k,fun w=>LnT w o v tr⟩
theorem E9(h:LnT w o v tr):ThOk w (nB o v tr):=by
 exact zm55
theorem yH(o:Option Addr)(n c:Nat)(tr:List ByteArray)(h:LsT w o n c tr):
  Calls prog 94 #[xa o n c] w fun e w'=> ∃q m,e=xm (xa q n m)/\LnT w' o (xa q n m) tr/\(∀k,(xa q n m).ownBlock=some k->w.heap.size<=k)/\Below w.heap.size w w':=by
 rcases h with⟨rfl,rfl,rfl,rfl⟩|⟨ad,rfl,rfl,hT,hl⟩
 ·refine(zF w).mono ?_;exact zm157
 refine(zE w tr ad c hT zo).mono ?_;exact zm137
def LsI(w:World)(o:Option Addr)(n c:Nat)(tr:List Int):Prop:=(o=none/\n=0/\c=0/\tr=[])\/ ∃ad,o=some ad/\n=tr.length/\InS w (some ad) tr/\tr.length<=1100000
theorem LsI.later{tr:List Int}(h:LsI w o n c tr)(hb:Below w.heap.size w w'):LsI w' o n c tr:=h.imp id (fun⟨I,J,R,U,h4⟩=>⟨I,J,R,U.later hb,h4⟩)
def LnI(w:World)(o:Option Addr)(v:Value)(tr:List Int):Prop:=(o=none/\v=xa none 0 0/\tr=[])\/ ∃ad g,o=some ad/\v=xa (some ⟨g,0,none⟩) tr.length (tr.length+8)/\LentI w g tr
def lS(o:Option Addr)(v:Value)(tr:List Int):Th:=⟨fun k=>v.ownBlock=some k,fun w=>LnI w o v tr⟩
theorem wC{tr:List Int}(h:LnI w o v tr):ThOk w (lS o v tr):=by
 exact zm55
theorem AQ(w:World):Calls prog 183 #[xa none 0 0] w fun e w'=>e=xm (xa none 0 0)/\w'=w:=by
 have he:=fun W:World=>qV W
 go_in;go_wp2;go_ret;simp
theorem zX(w:World)(lb:Nat)(o:Value):Calls prog 184 #[xk (some ⟨lb,0,none⟩),o,xa none 0 0] w fun e w'=>e=xm (xn true)/\w'=w:=by
 have he:=fun W:World=>qV W
 go_in;go_wp2;go_ret;simp
theorem qz(w:World)(o:Option Addr)(n c:Nat)(tr:List Int)(h:LsI w o n c tr):
  Calls prog 183 #[xa o n c] w fun e w'=> ∃q m,e=xm (xa q n m)/\LnI w' o (xa q n m) tr/\(∀k,(xa q n m).ownBlock=some k->w.heap.size<=k)/\Below w.heap.size w w':=by
 rcases h with⟨rfl,rfl,rfl,rfl⟩|⟨ad,rfl,rfl,hT,hl⟩
 ·refine(AQ w).mono ?_;exact zm157
 refine(AP w tr ad c hT zo).mono ?_;exact zm137
def LsR(w:World)(o:Option Addr)(n c:Nat)(rs:List (List Int)):Prop:=(o=none/\n=0/\c=0/\rs=[])\/ ∃b off sp,o=some ⟨b,off,sp⟩/\n=rs.length/\rs.length<=1100000/\ ∀j r,rs[j]? =some r->sp=none/\b<w.heap.size/\ ∃ro rn rc,w.cell? ⟨b,off+j,none⟩=some (xa ro rn rc)/\LsI w ro rn rc r
theorem LsR.later{rs:List (List Int)}(h:LsR w o n c rs)(I:Below w.heap.size w w'):LsR w' o n c rs:=
 h.imp id (fun⟨b,off,sp,J,R,U,h4⟩=>⟨b,off,sp,J,R,U,fun j r hr=>by
  obtain⟨k0,k1,ro,rn,rc,k2,k3⟩:=h4 j r hr;exact⟨k0,MX k1 I.size,ro,rn,rc,(bcell3 I _ _ k1).trans k2,k3.later I⟩⟩)
def iB(b ty:Nat)(cs:Array Value):Th:=⟨fun k=>k=b,fun w=>w.heap[b]? =some (xi cs ty (0,0))⟩
theorem lA{ty:Nat}(h:w.heap[b]? =some (xi cs ty (0,0))):ThOk w (iB b ty cs):=⟨h,fun k I=>(show k=b from I)▸fh h,fun w' hs I=>(I b rfl).trans h⟩
structure Rq where
 o:Option Addr
 v:Value
 r:List Int
def oS(x:Rq):Th:=lS x.o x.v x.r
def qW(b:Nat):Th:=iB b 3 #[xd xh 77]
structure sL (w:World) (nb noff nn:Nat) (rs:List (List Int)) (xs:List Rq) (cur:Array Value) (i:Nat):Prop where
 len:xs.length=i
 sz:cur.size=nn+8
 at_: ∀j x,xs[j]? =some x->cur[j]? =some x.v/\rs[j]? =some x.r/\ ∃rn rc,w.cell? ⟨nb,noff+j,none⟩=some (xa x.o rn rc)
structure xJ (nn:Nat) (hs:List Nat) (cur:Array Value) (k:Nat):Prop where
 len:hs.length+nn=k
 at_: ∀j b,hs[j]? =some b->cur[nn+j]? =some (xa (some ⟨b,0,none⟩) 1 1)
def LqP(w:World)(ao fo no:Option Addr)(na nf nn:Nat)(acts:List ByteArray)(fl:List Int)(rs:List (List Int))(w':World)(e:Ending):Prop:=
 Below w.heap.size w w'/\ ∃qa ma qf mf,(no=none/\rs=[]/\e=xm (.agg #[xa qa na ma,xa qf nf mf,xa none 0 0])/\Ths w.heap.size w' [nB ao (xa qa na ma) acts,lS fo (xa qf nf mf) fl])\/
  ∃nb noff sp g xs hs cur,no=some ⟨nb,noff,sp⟩/\e=xm (.agg #[xa qa na ma,xa qf nf mf,xa (some ⟨g,0,none⟩) nn (nn+8)])/\sL w nb noff nn rs xs cur nn/\xJ nn hs cur (nn+8)/\
   Ths w.heap.size w' (iB g 33 cur::(nB ao (xa qa na ma) acts::lS fo (xa qf nf mf) fl::(xs.map oS++hs.map qW)))
theorem Ths.far(h:Ths B w xs)(hb:b<B)(hg:w.grownBy w' (some b)):Ths B w' xs:=
 ⟨fun x I=>(h.ok x I).same hg.size (fun k J=>hg.block k ((h.ok x I).lt k J) (fun e=>by have:=h.lo x I k J;have:=Option.some.inj e;omega)),h.ap,h.lo⟩
theorem Ths.lower(h:Ths B w xs)(I:B'<=B):Ths B' w xs:=⟨h.ok,h.ap,fun x R k J=>ME I (h.lo x R k J)⟩
theorem Ths.rest{x:Th}(h:Ths B w (x::xs)):Ths B w xs:=⟨fun y I=>h.ok y (Mt _ I),(List.pairwise_cons.1 h.ap).2,fun y I=>h.lo y (Mt _ I)⟩
theorem EJ(w:World)(I:Addr)(n c:Nat):(binOp .eql 34 (xa (some I) n c) (xa none 0 0)).run prog w= .ok (xn false) w:=Lib.run_eql_slice_some_nil w _ _ _ underlying34
theorem xO(w:World):(binOp .eql 34 (xa none 0 0) (xa none 0 0)).run prog w= .ok (xn true) w:=Lib.run_eql_slice_nil_nil w _ _ underlying34
theorem sv(w:World)(lb:Nat)(ao fo no:Option Addr)(R nf nn ac fc nc:Nat)(acts:List ByteArray)(fl:List Int)(rs:List (List Int))(hA:LsT w ao R ac acts)(hF:LsI w fo nf fc fl)(hR:LsR w no nn nc rs):
  Calls prog 143 #[xk (some ⟨lb,0,none⟩),.agg #[xa ao R ac,xa fo nf fc,xa no nn nc]] w fun e w'=>LqP w ao fo no R nf nn acts fl rs w' e:=by
 have bf:Below w.heap.size w ((w.alloc (xi #[xa ao R ac,xa fo nf fc,xa no nn nc] 36)).alloc (xi #[xa none 0 0,xa none 0 0,xa none 0 0] 36)):=gz.alloc zp _;have aC:Hid (((w.alloc (xi #[xa ao R ac,xa fo nf fc,xa no nn nc] 36)).alloc (xi #[xa none 0 0,xa none 0 0,xa none 0 0] 36)).heap[w.heap.size]? =some (xi #[xa ao R ac,xa fo nf fc,xa no nn nc] 36 (0,0))):=(MR _ _ _ zp).trans (ft _ _);have aD:Hid (((w.alloc (xi #[xa ao R ac,xa fo nf fc,xa no nn nc] 36)).alloc (xi #[xa none 0 0,xa none 0 0,xa none 0 0] 36)).heap[w.heap.size+1]? =some (xi #[xa none 0 0,xa none 0 0,xa none 0 0] 36 (0,0))):=fk _ _ _ zp;have HA:=fa (hA.later bf);have HF:=fa (hF.later bf);have cb:=fa hR;have aK:=fa bf;clear hA hF hR bf;go_in;go_wp2_with fail;generalize ((w.alloc (xi #[xa ao R ac,xa fo nf fc,xa no nn nc] 36)).alloc (xi #[xa none 0 0,xa none 0 0,xa none 0 0] 36))=W at *;have x0:W.cell? ⟨w.heap.size,0,none⟩=some (xa ao R ac):=(cell_of_blk aC 0).trans rfl;have x1:W.cell? ⟨w.heap.size,1,none⟩=some (xa fo nf fc):=(cell_of_blk aC 1).trans rfl;have xl:=fh aC;have bP:Ths W.heap.size W []:=⟨fun x J=>(Nf J).elim,List.Pairwise.nil,fun x J=>(Nf J).elim⟩;refine wp_region_held_drew (S:=fun w'=>Below W.heap.size W w') zk ?_ (fun I=> ?_)
 ·exact(Below.refl _ _).drew
 apply zt6 0 (xk (some ⟨w.heap.size,0,none⟩)) I;apply zt7 1 (xa ao R ac) I;apply zt6 3 (xk (some ⟨w.heap.size,1,none⟩)) I;apply zt8 4 (xa fo nf fc) I;refine zrH2 2 7 (fun K hK=> ?ra) fun K hK=> ?rb
 case' ra=>(go_simp;refine(yH ao R ac acts (HA.later I)).mono ?_;rintro e wA ⟨qa,ma,rfl,hA,aQ,aE⟩;have aS:=I.trans (aE.mono I.size);have a8:=Ths.add (new:=[nB ao (xa qa R ma) acts]) (bP.later I) aE (fun x J=>by rw[List.mem_singleton.1 J];exact E9 hA) (Mw _ _) (fun x J k hk=>by rw[List.mem_singleton.1 J] at hk;exact aQ k hk) I.size;clear hA aQ aE;refine hK _ _ aS (fun I=> ?_);clear hK K aS;refine zrH2 5 7 (fun K hK=> ?rc) fun K hK=> ?rd)
 case' rc=>(go_simp;refine(qz _ fo nf fc fl (HF.later I)).mono ?_;rintro e wF ⟨qf,U,rfl,hF,az,au⟩;have aA:=I.trans (au.mono I.size);have ai:=Ths.add (new:=[lS fo (xa qf nf U) fl]) a8 au (fun x J=>by rw[List.mem_singleton.1 J];exact wC hF) (Mw _ _) (fun x J k hk=>by rw[List.mem_singleton.1 J] at hk;exact az k hk) I.size;clear hF az au;refine hK _ _ aA (fun I=> ?_);clear hK K aA;refine wpAnyH_take (i:=6) (v:= .agg #[xa qa R ma,xa qf nf U,xa none 0 0]) rfl zk zk zk (fun _ _ _ h=>h) (Mu ⟨zk,fun w hw=>by go_simp⟩) I ?_;try simp only[Act.put,MG,MN,MO,MK,MH,MI];apply zrH 7;intro K hK;go_simp;have aB:=ft (wF) (xi #[xa none 0 0,xa none 0 0,xa none 0 0] 36);have aF:Below (wF).heap.size (wF) ((wF).alloc (xi #[xa none 0 0,xa none 0 0,xa none 0 0] 36)):=gz;have ax:=I.trans (aF.mono I.size);have ak:=Ths.add (new:=[iB (wF).heap.size 36 #[xa none 0 0,xa none 0 0,xa none 0 0]]) ai aF (fun x J=>by rw[List.mem_singleton.1 J];exact lA aB) (Mw _ _) (fun x J k hk=>by rw[List.mem_singleton.1 J] at hk;exact ML hk.symm) I.size;obtain⟨p,hp⟩: ∃p,p=(wF).heap.size:=⟨_,rfl⟩;rw[<-hp] at ak|-;generalize (wF).alloc (xi #[xa none 0 0,xa none 0 0,xa none 0 0] 36)=wP at *;clear aB aF hp;refine hK _ _ ax (fun I=> ?_);clear hK K ax;have hT:Ths W.heap.size wP [nB ao (xa qa R ma) acts,lS fo (xa qf nf U) fl,iB p 36 #[xa none 0 0,xa none 0 0,xa none 0 0]]:=(by first|exact ak|exact ak.perm (List.Perm.swap _ _ _)|exact ak.perm (List.Perm.cons _ (List.Perm.swap _ _ _))|exact ak.perm ((List.Perm.swap _ _ _).trans (List.Perm.cons _ (List.Perm.swap _ _ _)))|exact ak.perm ((List.Perm.cons _ (List.Perm.swap _ _ _)).trans (List.Perm.swap _ _ _))|exact ak.perm (((List.Perm.swap _ _ _).trans (List.Perm.cons _ (List.Perm.swap _ _ _))).trans (List.Perm.swap _ _ _)));clear ak;generalize wP=wX at *)
 case' rd=>(go_simp;have aB:=ft (wA) (xi #[xa none 0 0,xa none 0 0,xa none 0 0] 36);have aF:Below (wA).heap.size (wA) ((wA).alloc (xi #[xa none 0 0,xa none 0 0,xa none 0 0] 36)):=gz;have ax:=I.trans (aF.mono I.size);have ak:=Ths.add (new:=[iB (wA).heap.size 36 #[xa none 0 0,xa none 0 0,xa none 0 0]]) a8 aF (fun x J=>by rw[List.mem_singleton.1 J];exact lA aB) (Mw _ _) (fun x J k hk=>by rw[List.mem_singleton.1 J] at hk;exact ML hk.symm) I.size;obtain⟨p,hp⟩: ∃p,p=(wA).heap.size:=⟨_,rfl⟩;rw[<-hp] at ak|-;generalize (wA).alloc (xi #[xa none 0 0,xa none 0 0,xa none 0 0] 36)=wP at *;clear aB aF hp;refine hK _ _ ax (fun I=> ?_);clear hK K ax;apply zrH 5;intro K hK;go_simp;refine(qz _ fo nf fc fl (HF.later I)).mono ?_;rintro e wF ⟨qf,U,rfl,hF,az,au⟩;have aA:=I.trans (au.mono I.size);have ai:=Ths.add (new:=[lS fo (xa qf nf U) fl]) ak au (fun x J=>by rw[List.mem_singleton.1 J];exact wC hF) (Mw _ _) (fun x J k hk=>by rw[List.mem_singleton.1 J] at hk;exact az k hk) I.size;clear hF az au;refine hK _ _ aA (fun I=> ?_);clear hK K aA;refine wpAnyH_take (i:=6) (v:= .agg #[xa qa R ma,xa qf nf U,xa none 0 0]) rfl zk zk zk (fun _ _ _ h=>h) (Mu ⟨zk,fun w hw=>by go_simp⟩) I ?_;try simp only[Act.put,MG,MN,MO,MK,MH,MI];have hT:Ths W.heap.size wF [nB ao (xa qa R ma) acts,lS fo (xa qf nf U) fl,iB p 36 #[xa none 0 0,xa none 0 0,xa none 0 0]]:=(by first|exact ai|exact ai.perm (List.Perm.swap _ _ _)|exact ai.perm (List.Perm.cons _ (List.Perm.swap _ _ _))|exact ai.perm ((List.Perm.swap _ _ _).trans (List.Perm.cons _ (List.Perm.swap _ _ _)))|exact ai.perm ((List.Perm.cons _ (List.Perm.swap _ _ _)).trans (List.Perm.swap _ _ _))|exact ai.perm (((List.Perm.swap _ _ _).trans (List.Perm.cons _ (List.Perm.swap _ _ _))).trans (List.Perm.swap _ _ _)));clear ai;generalize wF=wX at *)
 case' rb=>(go_simp;have aB:((W.alloc (xi #[xa none 0 0,xa none 0 0,xa none 0 0] 36)).drew).heap[W.heap.size]? =some (xi #[xa none 0 0,xa none 0 0,xa none 0 0] 36 (0,0)):=ft W _;have ax:Below W.heap.size W ((W.alloc (xi #[xa none 0 0,xa none 0 0,xa none 0 0] 36)).drew):=gz.drew;have ak:=Ths.add (new:=[iB W.heap.size 36 #[xa none 0 0,xa none 0 0,xa none 0 0]]) bP ax (fun x J=>by rw[List.mem_singleton.1 J];exact lA aB) (Mw _ _) (fun x J k hk=>by rw[List.mem_singleton.1 J] at hk;exact ML hk.symm) (MM _);obtain⟨p,hp⟩: ∃p,p=W.heap.size:=⟨_,rfl⟩;replace ak:Ths W.heap.size ((W.alloc (xi #[xa none 0 0,xa none 0 0,xa none 0 0] 36)).drew) ([iB p 36 #[xa none 0 0,xa none 0 0,xa none 0 0]]++[]):=(by rw[hp];exact ak);rw[<-hp];generalize ((W.alloc (xi #[xa none 0 0,xa none 0 0,xa none 0 0] 36)).drew)=wP at *;clear aB hp;refine hK _ _ ax (fun I=> ?_);clear hK K ax;apply zrH 2;intro K hK;go_simp;refine(yH ao R ac acts (HA.later I)).mono ?_;rintro e wA ⟨qa,ma,rfl,hA,aQ,aE⟩;have aS:=I.trans (aE.mono I.size);have a8:=Ths.add (new:=[nB ao (xa qa R ma) acts]) ak aE (fun x J=>by rw[List.mem_singleton.1 J];exact E9 hA) (Mw _ _) (fun x J k hk=>by rw[List.mem_singleton.1 J] at hk;exact aQ k hk) I.size;clear hA aQ aE;refine hK _ _ aS (fun I=> ?_);clear hK K aS;apply zrH 5;intro K hK;go_simp;refine(qz _ fo nf fc fl (HF.later I)).mono ?_;rintro e wF ⟨qf,U,rfl,hF,az,au⟩;have aA:=I.trans (au.mono I.size);have ai:=Ths.add (new:=[lS fo (xa qf nf U) fl]) a8 au (fun x J=>by rw[List.mem_singleton.1 J];exact wC hF) (Mw _ _) (fun x J k hk=>by rw[List.mem_singleton.1 J] at hk;exact az k hk) I.size;clear hF az au;refine hK _ _ aA (fun I=> ?_);clear hK K aA;refine wpAnyH_take (i:=6) (v:= .agg #[xa qa R ma,xa qf nf U,xa none 0 0]) rfl zk zk zk (fun _ _ _ h=>h) (Mu ⟨zk,fun w hw=>by go_simp⟩) I ?_;try simp only[Act.put,MG,MN,MO,MK,MH,MI];have hT:Ths W.heap.size wF [nB ao (xa qa R ma) acts,lS fo (xa qf nf U) fl,iB p 36 #[xa none 0 0,xa none 0 0,xa none 0 0]]:=(by first|exact ai|exact ai.perm (List.Perm.swap _ _ _)|exact ai.perm (List.Perm.cons _ (List.Perm.swap _ _ _))|exact ai.perm ((List.Perm.swap _ _ _).trans (List.Perm.cons _ (List.Perm.swap _ _ _)))|exact ai.perm ((List.Perm.cons _ (List.Perm.swap _ _ _)).trans (List.Perm.swap _ _ _))|exact ai.perm (((List.Perm.swap _ _ _).trans (List.Perm.cons _ (List.Perm.swap _ _ _))).trans (List.Perm.swap _ _ _)));clear ai;generalize wF=wX at *)
 all_goals (
  have bg:wX.heap[p]? =some (xi #[xa none 0 0,xa none 0 0,xa none 0 0] 36 (0,0)):=(hT.ok (iB p 36 #[xa none 0 0,xa none 0 0,xa none 0 0]) (Mt _ (Mt _ (Ms ..)))).p;have pc:=cell_of_blk bg;have pf:=fi bg;apply zrH 8;intro K hK;go_simp;have cm:=hT.lo (iB p 36 #[xa none 0 0,xa none 0 0,xa none 0 0]) (Mt _ (Mt _ (Ms ..))) p rfl;have aw:(((wX.setCell ⟨p,0,none⟩ (xa qa R ma)).setCell ⟨p,1,none⟩ (xa qf nf U)).setCell ⟨p,2,none⟩ (xa none 0 0)).heap[p]? =some (xi #[xa qa R ma,xa qf nf U,xa none 0 0] 36 (0,0)):=iZ bg (xa qa R ma) (xa qf nf U) (xa none 0 0);have bA:wX.grownBy (((wX.setCell ⟨p,0,none⟩ (xa qa R ma)).setCell ⟨p,1,none⟩ (xa qf nf U)).setCell ⟨p,2,none⟩ (xa none 0 0)) (some p):=mN wX p (xa qa R ma) (xa qf nf U) (xa none 0 0);have aT:=I.grown bA I.size (fun k hk=>za);have bR:=Ths.turn1 (hT.perm ((List.Perm.cons _ (List.Perm.swap _ _ _)).trans (List.Perm.swap _ _ _))) (FrD.grown bA rfl) (lA aw) (fun k hk=>Mu hk) I.size;refine hK _ _ aT (fun I=> ?_);clear hK K I;refine wpAnyH_done zk ?_ _;clear aw bA hT bg pc pf;generalize (((wX.setCell ⟨p,0,none⟩ (xa qa R ma)).setCell ⟨p,1,none⟩ (xa qf nf U)).setCell ⟨p,2,none⟩ (xa none 0 0))=wY at *;have a7:=fa bR;have aX:=fa aT;have q0:=(aT.block _ (fh aC)).trans aC;have y2:wY.cell? ⟨w.heap.size,2,none⟩=some (xa no nn nc):=(cell_of_blk q0 2).trans rfl;have bn:=fa q0;have aY:=fa ((aT.block _ (fh aD)).trans aD);clear bR aT q0 x0 x1 xl;have aw:wY.heap[p]? =some (xi #[xa qa R ma,xa qf nf U,xa none 0 0] 36 (0,0)):=(a7.ok (iB p 36 #[xa qa R ma,xa qf nf U,xa none 0 0]) (Ms ..)).p;have pc:=cell_of_blk aw;have pl:=fh aw;rcases cb.out with⟨rfl,rfl,rfl,rfl⟩|⟨nb,noff,sp,rfl,hnn,hn11,hrow⟩
  ·have he:=fun V:World=>xO V
   have r1:=cell_of_blk aY;have cv:=fi aY;have rl:=fh aY;go_wp2_with fail;have aV:=mN wY (w.heap.size+1) (xa qa R ma) (xa qf nf U) (xa none 0 0);have bx:=iZ aY (xa qa R ma) (xa qf nf U) (xa none 0 0);change bodyPost _ _ _ _ _ (iV wY (w.heap.size+1) (xa qa R ma) (xa qf nf U) (xa none 0 0));generalize iV wY (w.heap.size+1) (xa qa R ma) (xa qf nf U) (xa none 0 0)=wf at *;have bq:=cell_of_blk bx;refine bodyPost_ret (v:= .agg #[xa qa R ma,xa qf nf U,xa none 0 0]) (by simp[results,results143,go_sem,bq]) rfl ?_;have aH:=aK.size;have bD:=fh aD;refine⟨(aK.trans (aX.mono aH)).grown aV (ME aH aX.size) (fun k hk=>by cases hk;omega),qa,ma,qf,U,Mu ⟨rfl,rfl,rfl,((a7.rest).far bD aV).lower aH⟩⟩
  ·obtain⟨i0,cl,cq,cr,ct⟩:=info_parts qX;have he:=fun V:World=>EJ V ⟨nb,noff,sp⟩ nn nc
   have bM:=fa hrow;have b':=fa hnn;have hn12:nn<=1100000:=zo;have bZ:=aX.size;clear hrow hnn hn11
   go_wp2_with (at_make;go_must (refine wpList_make_full _ rfl _ _ 34 rfl wY.heap.size 33 i0 (xa none 0 0) 1 underlying34 cl cq cr xh xh _ _ (nn+8) rfl rfl (by first|rfl|omega) (by first|rfl|omega) (by rw[ct];omega) (by unfold maxLen;omega) (MM _) ?_))
   intro w1 hown1 aj;have bS: ∃cur,w1.heap[wY.heap.size]? =some (xi cur 33 (0,0))/\cur.size=nn+8:=by
    exact zm103
   obtain⟨aI,bT,bj⟩:=bS;have bc:Below wY.heap.size wY w1:=⟨aj.os,aj.tape,aj.output,aj.size,fun b hb=>aj.block b hb (fun e=>by cases e)⟩;have bo:Hid (Ths W.heap.size w1 (iB wY.heap.size 33 aI::nB ao (xa qa R ma) acts::lS fo (xa qf nf U) fl::iB p 36 #[xa qa R ma,xa qf nf U,xa none 0 0]::([]:List Rq).map oS)):=(Ths.add (new:=[iB wY.heap.size 33 aI]) a7 bc (fun x J=>by rw[List.mem_singleton.1 J];exact lA bT) (Mw _ _) (fun x J k hk=>by rw[List.mem_singleton.1 J] at hk;exact ML hk.symm) bZ).perm (List.Perm.cons _ ((List.Perm.swap _ _ _).trans (List.Perm.cons _ (List.Perm.swap _ _ _))));have b6:=fa (aX.trans (bc.mono bZ));obtain⟨g,hg⟩: ∃g,g=wY.heap.size:=⟨_,rfl⟩;rw[<-hg] at bo|-;have HQ01:=fa ((bc.block _ (fh bn)).trans bn);have bK:Hid (sL w nb noff nn rs [] aI 0):=⟨rfl,bj,fun j x J=>zv⟩;clear hown1 aj bT bj bc aw pc pl y2 hg bn a7;go_wp2
   go_loopw [8] (fun x wr=> ∃(i:Nat) (xs:List Rq) (cur:Array Value),i<=nn/\x=xd xh i/\Hid (Ths W.heap.size wr (iB g 33 cur::nB ao (xa qa R ma) acts::lS fo (xa qf nf U) fl::iB p 36 #[xa qa R ma,xa qf nf U,xa none 0 0]::xs.map oS))/\Hid (sL w nb noff nn rs xs cur i)/\Hid (Below W.heap.size W wr)) (fun x _=>nn - (intOf x).toNat)
   case atStart=>exact⟨0,[],aI,MF _,rfl,bo,bK,b6⟩
   case round=>
    clear bo bK;obtain⟨i,xs,cur,hi,rfl,HT,ay,HB⟩:=hrel;have q0:=(HB.block _ (fh aC)).trans aC;have y2:wr.cell? ⟨w.heap.size,2,none⟩=some (xa (some ⟨nb,noff,sp⟩) nn nc):=(cell_of_blk q0 2).trans rfl;clear q0;rcases zc i nn with⟨hlt,bB⟩|⟨hlt,bB⟩
    ·have bV:i<rs.length:=by rw[<-b'.out];omega
     obtain⟨cp,bY,ro,rn,rc,aG,bX⟩:=bM i _ (Mx bV);subst cp;have bu:=aK.trans (HB.mono aK.size);have yc:=(bcell3 bu _ _ bY).trans aG;have bJ:=fa (qz wr ro rn rc _ (bX.later bu));have cc:=fa (Mx bV);generalize rs[i]=r at *;have b7:=fa aG;clear aG bX bu bY;go_wp2_with fail;refine bJ.mono ?_;rintro e wI ⟨q,m,rfl,hL,bO,bd⟩;have aN:=HB.size;have ba:=Ths.add (new:=[oS ⟨ro,xa q rn m,r⟩]) HT bd (fun x J=>by rw[List.mem_singleton.1 J];exact wC hL) (Mw _ _) (fun x J k hk=>by rw[List.mem_singleton.1 J] at hk;exact bO k hk) aN;have av:wI.heap[g]? =some (xi cur 33 (0,0)):=(ba.ok (iB g 33 cur) (Mt _ (Ms ..))).p;have ck:=ba.lo (iB g 33 cur) (Mt _ (Ms ..)) g rfl;have bz:=ay.sz;have gc:=(cell_of_blk av i).trans (Array.getElem?_eq_getElem zo);have gf:=fi av i;have br:=HB.trans (bd.mono aN);have cd:Hid (Ths W.heap.size (wI.setCell ⟨g,i,none⟩ (xa q rn m)) (iB g 33 (cur.setIfInBounds i (xa q rn m))::nB ao (xa qa R ma) acts::lS fo (xa qf nf U) fl::iB p 36 #[xa qa R ma,xa qf nf U,xa none 0 0]::(xs++[(⟨ro,xa q rn m,r⟩:Rq)]).map oS)):=by
      refine(Ths.turn1 (ba.perm (List.Perm.swap _ _ _)) (FrD.grown (fK wI g i (xa q rn m)) rfl) (lA (fj av i (xa q rn m))) (fun k hk=>Mu hk) (ME aN bd.size)).perm (List.Perm.cons _ ?_);rw[Nh,MZ,<-My,<-My,<-My];exact MT (l₁:=[oS ⟨ro,xa q rn m,r⟩])
     have aP:Hid (sL w nb noff nn rs (xs++[(⟨ro,xa q rn m,r⟩:Rq)]) (cur.setIfInBounds i (xa q rn m)) (i+1)):=by
      have hq:=ay.out;refine⟨by rw[Mz,hq.len];rfl,za,fun j x J=> ?_⟩;rcases Nat.lt_or_ge j i with hj|hj
      ·rw[MQ (by rw[hq.len];omega)] at J;obtain⟨h1,h2⟩:=hq.at_ j x J;exact⟨by rw[Array.getElem?_setIfInBounds_ne zo];omega,h2⟩
      have aW:=(List.getElem?_eq_some_iff.1 J).1;rw[Mz,hq.len,MJ] at aW;have bC:j=i:=zo;subst bC;rw[MP (by rw[hq.len];simp),hq.len,Nat.sub_self] at J;cases J;exact⟨Array.getElem?_setIfInBounds_self_of_lt zo,cc,rn,rc,b7⟩
     have bm:Hid (Below W.heap.size W (wI.setCell ⟨g,i,none⟩ (xa q rn m))):=br.grown (fK _ _ _ _) br.size (fun b hb=>za);generalize cur[i]=old at *;clear ba av hL bO bd br y2 yc bJ bz;go_wp2
     go_roundw
     ·exact⟨i+1,_,_,zo,zf,cd,aP,bm⟩
     simp[intOf];omega
    have bU:i=nn:=zo;have bL:=bU▸ay
    have bN:Hid (Ths W.heap.size wr (iB g 33 cur::nB ao (xa qa R ma) acts::lS fo (xa qf nf U) fl::iB p 36 #[xa qa R ma,xa qf nf U,xa none 0 0]::(xs.map oS++([]:List Nat).map qW))):=by show Ths _ _ _;rw[List.map_nil,List.append_nil];exact HT
    have aL:Hid (xJ nn [] cur nn):=⟨zp,fun j b hb=>zv⟩;clear y2 hlt hi bU ay HT;go_wp2_with fail;generalize wr=wS at *
    go_loopw [9] (fun x wr=> ∃(k:Nat) (hs:List Nat) (cur:Array Value),nn<=k/\k<=nn+8/\x=xd xh k/\Hid (Ths W.heap.size wr (iB g 33 cur::nB ao (xa qa R ma) acts::lS fo (xa qf nf U) fl::iB p 36 #[xa qa R ma,xa qf nf U,xa none 0 0]::(xs.map oS++hs.map qW)))/\Hid (sL w nb noff nn rs xs cur nn)/\Hid (xJ nn hs cur k)/\Hid (Below W.heap.size W wr)) (fun x _=>nn+8 - (intOf x).toNat)
    ·exact⟨nn,[],cur,MM _,zo,rfl,bN,bL,aL,HB⟩
    clear bN bL aL HB;obtain⟨k,hs,cur,hk0,hk1,rfl,HT,ay,aL,HB⟩:=hrel;have av:wr.heap[g]? =some (xi cur 33 (0,0)):=(HT.ok (iB g 33 cur) (Ms ..)).p;have ck:=HT.lo (iB g 33 cur) (Ms ..) g rfl;have gl:=fh av;by_cases hlt:k<nn+8
    ·have bB:(k:Int)<(nn:Int)+8:=zo;have bz:=ay.sz;have gc:=(cell_of_blk av k).trans (Array.getElem?_eq_getElem zo);have gf:=fi av k;have bE:(wr.setCell ⟨g,k,none⟩ (xa (some ⟨wr.heap.size,0,none⟩) 1 1)).heap.size=wr.heap.size:=zp;have aN:=HB.size;have bQ:=Ths.turn1 HT (FrD.grown (fK wr g k (xa (some ⟨wr.heap.size,0,none⟩) 1 1)) rfl) (lA (fj av k (xa (some ⟨wr.heap.size,0,none⟩) 1 1))) (fun k hk=>Mu hk) aN;have bw:Below (wr.setCell ⟨g,k,none⟩ (xa (some ⟨wr.heap.size,0,none⟩) 1 1)).heap.size (wr.setCell ⟨g,k,none⟩ (xa (some ⟨wr.heap.size,0,none⟩) 1 1)) ((wr.setCell ⟨g,k,none⟩ (xa (some ⟨wr.heap.size,0,none⟩) 1 1)).alloc (xi #[xd xh 77] 3)):=gz;have cg:Hid (Ths W.heap.size ((wr.setCell ⟨g,k,none⟩ (xa (some ⟨wr.heap.size,0,none⟩) 1 1)).alloc (xi #[xd xh 77] 3)) (iB g 33 (cur.setIfInBounds k (xa (some ⟨wr.heap.size,0,none⟩) 1 1))::nB ao (xa qa R ma) acts::lS fo (xa qf nf U) fl::iB p 36 #[xa qa R ma,xa qf nf U,xa none 0 0]::(xs.map oS++(hs++[wr.heap.size]).map qW))):=by
      refine(Ths.add (new:=[qW wr.heap.size]) bQ bw (fun x J=>by rw[List.mem_singleton.1 J];exact lA (fk _ _ _ bE.symm)) (Mw _ _) (fun x J k hk=>by rw[List.mem_singleton.1 J] at hk;rw[bE];exact ML hk.symm) zo).perm ?_;rw[Nh,MZ,<-List.append_assoc,<-My,<-My,<-My,<-My];exact MT (l₁:=[qW wr.heap.size])
     have aP:Hid (sL w nb noff nn rs xs (cur.setIfInBounds k (xa (some ⟨wr.heap.size,0,none⟩) 1 1)) nn):=by
      have hq:=ay.out;refine⟨hq.len,za,fun j x J=> ?_⟩;obtain⟨h1,h2⟩:=hq.at_ j x J;have aW:=(List.getElem?_eq_some_iff.1 J).1;rw[hq.len] at aW;exact⟨by rw[Array.getElem?_setIfInBounds_ne zo];omega,h2⟩
     have bI:Hid (xJ nn (hs++[wr.heap.size]) (cur.setIfInBounds k (xa (some ⟨wr.heap.size,0,none⟩) 1 1)) (k+1)):=by
      have hq:=aL.out;have hln:=hq.len;refine⟨by rw[Mz,MJ];omega,fun j b hb=> ?_⟩;rcases Nat.lt_or_ge j hs.length with hj|hj
      ·rw[MQ hj] at hb;rw[Array.getElem?_setIfInBounds_ne zo];exact hq.at_ j b hb
      have aW:=(List.getElem?_eq_some_iff.1 hb).1;rw[Mz,MJ] at aW;have bC:j=hs.length:=zo;subst bC;rw[MP (MM _),Nat.sub_self] at hb;cases hb;rw[show nn+hs.length=k from zo];simp_all
     have bt:Below W.heap.size W (wr.setCell ⟨g,k,none⟩ (xa (some ⟨wr.heap.size,0,none⟩) 1 1)):=HB.grown (fK _ _ _ _) aN (fun b hb=>za);have bm:=fa (bt.trans (bw.mono bt.size));generalize cur[k]=old at *;clear bQ bw bt bE av bz;go_wp2
     go_roundw
     ·exact⟨k+1,_,_,zo,zo,zf,cg,aP,bI,bm⟩
     simp[intOf];omega
    have bB:¬ (k:Int)<(nn:Int)+8:=zo;have bW:k=nn+8:=zo;have b9:=bW▸aL
    have aw:wr.heap[p]? =some (xi #[xa qa R ma,xa qf nf U,xa none 0 0] 36 (0,0)):=(HT.ok (iB p 36 #[xa qa R ma,xa qf nf U,xa none 0 0]) (Mt _ (Mt _ (Mt _ (Ms ..))))).p;have pc:=cell_of_blk aw;have pf:=fi aw;have q1:=(HB.block _ (fh aD)).trans aD;have r1:=cell_of_blk q1;have cv:=fi q1;have hpW:=cm;have hn8:(nn:Int)<=(nn:Int)+8:=zo;have cn:p≠w.heap.size+1:=by have:=fh aD;omega
    have s0: ∀o,(wr.setCell ⟨p,2,none⟩ (xa (some ⟨g,0,none⟩) nn (nn+8))).cell? ⟨w.heap.size+1,o,none⟩=wr.cell? ⟨w.heap.size+1,o,none⟩:=fun o=>World.cell?_setCell_far _ _ _ _ cn
    have q2:=(MY wr ⟨p,2,none⟩ (xa (some ⟨g,0,none⟩) nn (nn+8)) (w.heap.size+1) (by show w.heap.size+1≠p;omega)).trans q1;have ch:=fa (Ths.turn1 (HT.perm (List.perm_middle (l₁:=[iB g 33 cur,nB ao (xa qa R ma) acts,lS fo (xa qf nf U) fl]))) (FrD.grown (fK wr p 2 (xa (some ⟨g,0,none⟩) nn (nn+8))) rfl) (lA (fj aw 2 (xa (some ⟨g,0,none⟩) nn (nn+8)))) (fun k hk=>Mu hk) HB.size).rest;have bH:Hid (Below W.heap.size W (wr.setCell ⟨p,2,none⟩ (xa (some ⟨g,0,none⟩) nn (nn+8)))):=HB.grown (fK _ _ _ _) HB.size (fun b hb=>za);have ca:=fa q2;clear aL bW hlt q2;go_wp2_with fail;have aV:=mN (wr.setCell ⟨p,2,none⟩ (xa (some ⟨g,0,none⟩) nn (nn+8))) (w.heap.size+1) (xa qa R ma) (xa qf nf U) (xa (some ⟨g,0,none⟩) nn (nn+8));have bx:=iZ ca (xa qa R ma) (xa qf nf U) (xa (some ⟨g,0,none⟩) nn (nn+8));change bodyPost _ _ _ _ _ (iV (wr.setCell ⟨p,2,none⟩ (xa (some ⟨g,0,none⟩) nn (nn+8))) (w.heap.size+1) (xa qa R ma) (xa qf nf U) (xa (some ⟨g,0,none⟩) nn (nn+8)));generalize iV (wr.setCell ⟨p,2,none⟩ (xa (some ⟨g,0,none⟩) nn (nn+8))) (w.heap.size+1) (xa qa R ma) (xa qf nf U) (xa (some ⟨g,0,none⟩) nn (nn+8))=wf at *;have bq:=cell_of_blk bx;refine bodyPost_ret (v:= .agg #[xa qa R ma,xa qf nf U,xa (some ⟨g,0,none⟩) nn (nn+8)]) (by simp[results,results143,go_sem,bq]) rfl ?_;have aH:=aK.size;have bD:=fh aD;exact⟨(aK.trans (bH.mono aH)).grown aV (ME aH bH.size) (fun k hk=>by cases hk;omega),qa,ma,qf,U,Mr ⟨nb,noff,sp,g,xs,hs,cur,rfl,rfl,ay,b9,(ch.far bD aV).lower aH⟩⟩)
section
variable {lb : Nat} {X : List Th} {w0 w w' : World} {N : Nat} {a : Lt} {bs : List Bk} {js : List Ik} {rs : List Rk} {ws us : List Wb}
theorem Ju(l:List Ik):(l.flatMap s7).length=l.length * 5:=by
 induction l with
 |nil=>rfl
 |cons d r ih=>rw[Na,Mz,ih];show 5+_=_;rw[Ng];omega
theorem JU(l:List Rk):(l.flatMap uL).length=l.length * 5:=by
 induction l with
 |nil=>rfl
 |cons d r ih=>rw[Na,Mz,ih];show 5+_=_;rw[Ng];omega
theorem LT.tn(h:LT lb X w0 w N a bs js rs ws us):a.tn=bs.length/\a.im=js.length/\a.rn=rs.length:=by
 have I:=h.law.tx.1;have J:=h.law.ix.1;have R:=h.law.rx.1;rw[h.bv,Gu] at I;rw[h.iv,Ju] at J;rw[h.rv,JU] at R;omega
theorem LT.small(h:LT lb X w0 w N a bs js rs ws us)(hN:N<=1000000000):a.M<=1000000000/\a.tn<=1000000000/\a.im<=1000000000/\a.rn<=1000000000:=by
 have h1:=h.tn;have h2:=h.nb;have h3:=h.M;omega
theorem LT.tab(h:LT lb X w0 w N a bs js rs ws us)(I:Ni prog w0 "internal/strconv.uint64pow10" .u64 M'):Ni prog w "internal/strconv.uint64pow10" .u64 M':=FQ I (h.lo▸h.bel)
end
def LtK(a a':Lt):Prop:=a'.wO=a.wO/\a'.wn=a.wn/\a'.wc=a.wc/\a'.eO=a.eO/\a'.en=a.en/\a'.ec=a.ec/\a'.wv=a.wv/\a'.ev=a.ev
theorem LtK.refl(a:Lt):LtK a a:=⟨rfl,rfl,rfl,rfl,rfl,rfl,rfl,rfl⟩
theorem LtK.trans{b c:Lt}(h:LtK a b)(I:LtK b c):LtK a c:=⟨I.1.trans h.1,I.2.1.trans h.2.1,I.2.2.1.trans h.2.2.1,I.2.2.2.1.trans h.2.2.2.1,I.2.2.2.2.1.trans h.2.2.2.2.1,I.2.2.2.2.2.1.trans h.2.2.2.2.2.1,I.2.2.2.2.2.2.1.trans h.2.2.2.2.2.2.1,I.2.2.2.2.2.2.2.trans h.2.2.2.2.2.2.2⟩
def ReT(bs:List Bk)(q:Option Addr)(n m:Nat):Prop:=(q=none/\n=0/\m=0)\/ ∃b g,b∈bs/\q=some ⟨g,0,none⟩/\m=n+8/\b.l=xa (some ⟨g,0,none⟩) (n+8) (n+8)/\n<=1100000
theorem ReT.mono(h:ReT bs q n m)(R: ∀b∈bs,b∈bs'):ReT bs' q n m:=h.imp id (fun⟨b,g,I,J⟩=>⟨b,g,R b I,J⟩)
theorem ReT.read(J:LT lb X w0 w N a bs js rs ws us)(h:ReT bs q n m): ∃tr,LsT w q n m tr:=by
 rcases h with⟨rfl,rfl,rfl⟩|⟨b,g,hb,rfl,rfl,hl,h8⟩
 ·exact⟨[],Mu ⟨rfl,rfl,rfl,rfl⟩⟩
 have I:=(J.th.ok (kH b) (Mt _ (MC _ (MD _ (List.mem_map.2 ⟨b,hb,rfl⟩))))).p;exact⟨MU n b.mr,Mr ⟨_,rfl,zp,AllM.txs (hl▸I.l) zo,za⟩⟩
def Mk(lb:Nat)(X:List Th)(w0:World)(N:Nat)(a:Lt)(bs:List Bk)(js:List Ik)(rs:List Rk)(ws us:List Wb)(q:Option Addr)(n m:Nat)(w':World)(e:Ending):Prop:=
 e=xm (xn true)/\ ∃a' bs' js',LtK a a'/\LT lb X w0 w' (N+1) a' bs' js' rs ws us/\(∀b∈bs,b∈bs')/\(∀b∈js,b∈js')/\ReT bs' q n m
theorem Ec(lb:Nat)(w0:World)(N:Nat)(a:Lt)(bs:List Bk)(js:List Ik)(rs:List Rk)(ws us:List Wb)(o q:Option Addr)(n c m:Nat)(tr:List ByteArray)(hT:LT lb (nB o (xa q n m) tr::X) w0 w N a bs js rs ws us)(hR:LsT w o n c tr)(hN:N<=1000000000)(I:Ni prog w0 "internal/strconv.uint64pow10" .u64 M')(J:lb≠4):
  Calls prog 96 #[xk (some ⟨lb,0,none⟩),xa q n m,xa o n c] w fun e w'=>Mk lb X w0 N a bs js rs ws us q n m w' e:=by
 have hs:=hT.small hN;rcases (hT.keep (Ms ..)).p with⟨rfl,hv,rfl⟩|⟨ad,g,rfl,hv,hL⟩
 ·rcases hR with⟨_,rfl,rfl,_⟩|⟨ad,hd,_⟩
  ·cases hv;refine(ye w lb (xa none 0 0)).mono ?_;exact zm130
  cases hd
 rcases hR with⟨hd,_⟩|⟨ad',hd,rfl,hTx,hlen⟩
 ·cases hd
 cases hd;cases hv;refine(yd w lb (xa none 0 0) a.M a.tO a.tn a.tc (xa a.iO a.im a.ic) (xa a.rO a.rn a.rc) (xa none 0 0) (xa none 0 0) (xa a.wO a.wn a.wc) (xa a.eO a.en a.ec) a.bv 0 g tr ad c hT.law.lw hT.law.tx (MF _) hL hTx zo zo zo (hT.tab I) J).mono ?_;rintro e w' ⟨rfl,hp⟩;obtain⟨tO',tc',b,U,R⟩:=hT.markT (v:= xa (some ⟨g,0,none⟩) (tr.length+8) (tr.length+8)) (fun k hk=>hk) hp;refine⟨rfl,_,_,_, ?_,R,fun b hb=>MD _ hb,fun b hb=>hb,Mr ⟨b,g,MC _ (List.mem_singleton.2 rfl),rfl,rfl,U,hlen⟩⟩;exact⟨rfl,rfl,rfl,rfl,rfl,rfl,rfl,rfl⟩
theorem AllM.ins{g:Nat}{m:Int}(h:AllM w (xa (some ⟨g,0,none⟩) N c) (xd xh m) 3)(hn:n<=N):InS w (some ⟨g,0,none⟩) (MU n m):=by
 exact zm66
def ReI(bs:List Ik)(q:Option Addr)(n m:Nat):Prop:=(q=none/\n=0/\m=0)\/ ∃b g,b∈bs/\q=some ⟨g,0,none⟩/\m=n+8/\b.l=xa (some ⟨g,0,none⟩) (n+8) (n+8)/\n<=1100000
theorem ReI.mono{bs bs':List Ik}(h:ReI bs q n m)(R: ∀b∈bs,b∈bs'):ReI bs' q n m:=h.imp id (fun⟨b,g,I,J⟩=>⟨b,g,R b I,J⟩)
theorem ReI.read(J:LT lb X w0 w N a bs js rs ws us)(h:ReI js q n m): ∃tr,LsI w q n m tr:=by
 rcases h with⟨rfl,rfl,rfl⟩|⟨b,g,hb,rfl,rfl,hl,h8⟩
 ·exact⟨[],Mu ⟨rfl,rfl,rfl,rfl⟩⟩
 have I:=(J.th.ok (kP b) (Mt _ (MC _ (MC _ (MD _ (List.mem_map.2 ⟨b,hb,rfl⟩)))))).p;exact⟨MU n b.m,Mr ⟨_,rfl,zp,AllM.ins (hl▸I.1) zo,za⟩⟩
def Mj(lb:Nat)(X:List Th)(w0:World)(N:Nat)(a:Lt)(bs:List Bk)(js:List Ik)(rs:List Rk)(ws us:List Wb)(q:Option Addr)(n m:Nat)(w':World)(e:Ending):Prop:=
 e=xm (xn true)/\ ∃a' bs' js',LtK a a'/\LT lb X w0 w' (N+1) a' bs' js' rs ws us/\(∀b∈bs,b∈bs')/\(∀b∈js,b∈js')/\ReI js' q n m
theorem xF(lb:Nat)(w0 w:World)(N:Nat)(a:Lt)(bs:List Bk)(js:List Ik)(rs:List Rk)(ws us:List Wb)(o q:Option Addr)(n c m:Nat)(tr:List Int)(hT:LT lb (lS o (xa q n m) tr::X) w0 w N a bs js rs ws us)(R:LsI w o n c tr)(U:N<=1000000000):
  Calls prog 184 #[xk (some ⟨lb,0,none⟩),xa q n m,xa o n c] w fun e w'=>Mj lb X w0 N a bs js rs ws us q n m w' e:=by
 have hs:=hT.small U;rcases (hT.keep (Ms ..)).p with⟨rfl,hv,rfl⟩|⟨ad,g,rfl,hv,hL⟩
 ·rcases R with⟨_,rfl,rfl,_⟩|⟨ad,hd,_⟩
  ·cases hv;refine(zX w lb (xa none 0 0)).mono ?_;exact zm130
  cases hd
 rcases R with⟨hd,_⟩|⟨ad',hd,rfl,hTx,hlen⟩
 ·cases hd
 cases hd;cases hv;refine(zW w lb (xa none 0 0) a.M a.iO a.im a.ic (xa a.tO a.tn a.tc) (xa a.rO a.rn a.rc) (xa none 0 0) (xa none 0 0) (xa a.wO a.wn a.wc) (xa a.eO a.en a.ec) a.iv 0 g tr ad c hT.law.lw hT.law.ix (MF _) hL hTx zo zo zo).mono ?_;rintro e w' ⟨rfl,hp⟩;obtain⟨tO',tc',b,J,I⟩:=hT.markI (v:= xa (some ⟨g,0,none⟩) (tr.length+8) (tr.length+8)) (fun k hk=>hk) hp;refine⟨rfl,_,_,_, ?_,I,fun b hb=>hb,fun b hb=>MD _ hb,Mr ⟨b,g,MC _ (List.mem_singleton.2 rfl),rfl,rfl,J,hlen⟩⟩;exact⟨rfl,rfl,rfl,rfl,rfl,rfl,rfl,rfl⟩
end Go.Proofs.YtidakhhekofkoaaGreatDoor
