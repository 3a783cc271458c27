import Derived.Test.YtidakhhekofkoaaGreatDoorT17
set_option linter.all false
set_option maxHeartbeats 8000000
set_option maxRecDepth 100000
namespace Go.Proofs.YtidakhhekofkoaaGreatDoor
open Go.Proofs.Tryz
open Go.RowKit Go.Deep Go.Maps
open Value renaming slice -> xa, int -> xd, string -> xj, pointer -> xk, bool -> xn
open IntKind renaming i64 -> xh
open Obj renaming cells -> xi
open Ending renaming returned -> xm
open Nat renaming lt_of_lt_of_le -> Mr, le_trans -> Mw, le_refl -> MC, pow_le_pow_right -> MN, zero_add -> MP
open List renaming range -> Ms, getElem?_eq_getElem -> Mt, setIfInBounds_toArray -> Mu, getElem_cons_succ -> My, getElem_cons_zero -> Mz, getElem_toArray -> MD, set_cons_zero -> ME, set_cons_succ -> MF, length_append -> MH, take_of_length_le -> MI, getElem?_append_left -> MJ, length_map -> MK, getElem?_append_right -> MO, getElem?_map -> MX, getElem_mem -> MZ
open Go.RowKit.Below renaming heap_setCell -> Mx, refl -> MG, heap_alloc -> MQ
open World renaming ownsRow_nil -> ML, cell?_of_block -> MR, setCell -> MT, ownsMap_made -> MV, cell? -> MY
open Or renaming inr -> MM, inl -> MU
variable {zq:Prop}
variable {W W' V W1 W2 w w':World} {b n base H mb bb lc hc p cap g2 j sb sc tb sc':Nat} {D D':DataW Unit} {c:Array Value} {m x:Nat × Nat} {rv xs rv':List Value} {lo ho so so':Option Addr} {r:List Nat} {al:List Tk} {rs:List Rl} {σ π:Type} {ms ms':List (List Bool)} {v A F X:Value} {t:Tb} {s0:List Bool} {rows:List (List Nat)} {e:Ending} {o:Option Tb}
theorem zm71(h:zq:=by
 apply zr 4;intro K hK;go_simp;refine hK _ _ ?_;clear hK K
 try simp only[Act.put,List.setIfInBounds_toArray,List.set_cons_zero,List.set_cons_succ,List.getElem_toArray,List.getElem_cons_succ,List.getElem_cons_zero]
 exact hG
 ):zq:=h
theorem zm124(h:zq:=by
 show _=_;rw[List.range_succ,uM,HRN.out]
 ):zq:=h
theorem zm133(h:zq:=by
 rw[Bj] at this;show _=_;rw[wZ hjl HQL.out rfl];omega
 ):zq:=h
theorem zm138(h:zq:=by
 rw[HRN.out,List.length_range] at this;omega
 ):zq:=h
theorem zm152(h:zq:=by
 show _=_;obtain⟨n2,hn2⟩: ∃n2,102 - k=n2+1:=⟨101 - k,zo⟩;rw[HEQ.out,hn2];exact Jd zo
 ):zq:=h
theorem zm162(h:zq:=by
 show _=_;rw[HEQ.out,hn2,Gs HX.out (by rw[HRN.out];exact hbig),HRN.out,show 102 - (k+1)=n2 from zo]
 ):zq:=h
theorem zm163(h:zq:=by
 rw[List.length_map];exact HBFS.out
 ):zq:=h
theorem zm170(h:zq:=by
 have e:jJ [] al.length 0=List.replicate al.length 0:=zf;rw[e,y9];exact ft _ _
 ):zq:=h
theorem CH(s:Nat):WideAt.IsKeyLit (su s):=trivial
def ry(l:List Nat):List Value:=l.map fun p:Nat=>xd .u32 (p:Int)
theorem JP(l r:List Nat):ry (l++r)=ry l++ry r:=by unfold ry;simp
def RwV(W:World)(base H:Nat)(rv:List Value)(tw:List (List Nat)):Prop:=
 ∀(j:Nat) (r:List Nat),tw[j]? =some r-> ∃g,rv[j]? =some (xa (some ⟨g,0,none⟩) r.length r.length)/\base<=g/\g<H/\W.heap[g]? =some (xi (kR r) 3 (0,0))
structure RbP (V W:World) (mb bb:Nat) (lo:Option Addr) (lc:Nat) (l:List Nat) (D:DataW Unit) (ho:Option Addr) (hc:Nat) (rv:List Value) (tw:List (List Nat)) (H:Nat):Prop where
 blk:W.heap[bb]? =some (xi #[xa ho tw.length hc,xj ⟨#[]⟩] 153 (0,0))
 hbb:V.heap.size<=bb
 pl:W.ownsRow V.heap.size 147 1 (xa lo l.length lc) l.length (ry l)
 mp:W.ownsMap prog 147 (plainElem prog 3) mb l.length D
 hmb:V.heap.size<=mb
 num:NumM su D l
 ah:W.ownsRow V.heap.size 33 1 (xa ho tw.length hc) tw.length rv
 rows:RwV W V.heap.size H rv tw
 hH:H<=W.heap.size
 bel:Below V.heap.size V W
theorem p8(h:W.ownsMap prog 147 (plainElem prog 3) b n D){ty:Nat}{k:Nat}(hk:W.heap[k]? =some (xi c ty m)):k≠b:=by
 rintro rfl;obtain⟨es,clock,h1,_⟩:=h;simp_all
theorem RwV.keep{tw:List (List Nat)}(h:RwV W base H rv tw)(hk: ∀g c,g<H->W.heap[g]? =some (xi c 3 (0,0))->W'.heap[g]? =W.heap[g]?):RwV W' base H rv tw:=fun j r hr=>by
 obtain⟨g,h1,h2,h3,h4⟩:=h j r hr;simp_all
theorem RbP.later{l:List Nat}{tw:List (List Nat)}(h:RbP V W mb bb lo lc l D ho hc rv tw H)(I:Below W.heap.size W W'):RbP V W' mb bb lo lc l D ho hc rv tw H:=
 ⟨(I.block _ (fh h.blk)).trans h.blk,h.hbb,fL h.pl I,h.mp.kept (gC I none) zp,h.hmb,h.num,fL h.ah I,h.rows.keep (fun g c _ hg=>I.block g (fh hg)),Mw h.hH I.size,h.bel.trans (I.mono h.bel.size)⟩
theorem RbP.mapped{l:List Nat}{tw:List (List Nat)}(h:RbP V W mb bb lo lc l D ho hc rv tw H)(hg:W.grownBy W' (some mb)):
  W'.heap[bb]? =some (xi #[xa ho tw.length hc,xj ⟨#[]⟩] 153 (0,0))/\W'.ownsRow V.heap.size 147 1 (xa lo l.length lc) l.length (ry l)/\W'.ownsRow V.heap.size 33 1 (xa ho tw.length hc) tw.length rv/\RwV W' V.heap.size H rv tw/\H<=W'.heap.size/\Below V.heap.size V W':=by
 have I: ∀{c:Array Value} {ty:Nat} {m:Nat × Nat} {k:Nat},W.heap[k]? =some (xi c ty m)->some k≠some mb:=fun hk e=>p8 h.mp hk (Option.some.inj e)
 refine⟨(hg.block _ (fh h.blk) (I h.blk)).trans h.blk,gE h.pl hg ?_,gE h.ah hg ?_,h.rows.keep (fun g c _ U=>hg.block g (fh U) (I U)),Mw h.hH hg.size,h.bel.grown hg h.bel.size (fun b R=>by cases R;exact h.hmb)⟩
 ·intro b R e;obtain⟨c,J⟩:=ja h.pl e;exact I J R.symm
 intro b R e;obtain⟨c,J⟩:=ja h.ah e;exact I J R.symm
theorem RbP.place{W3:World}{l:List Nat}{tw:List (List Nat)}(h:RbP V W mb bb lo lc l D ho hc rv tw H)(hp:iX p l 0=none)
  (hm:W1.ownsMap prog 147 (plainElem prog 3) mb (l.length+1) (D.put (su p) (.lit (.int xh (l.length:Nat)))))(ao:W.grownBy W1 (some mb))(I:Below W1.heap.size W1 W2){g:Nat}
  (ar:W3.ownsRow V.heap.size 147 1 (xa (some ⟨g,0,none⟩) (l.length+1) cap) (l.length+1) (ry l++[xd .u32 (p:Int)]))(J:W2.grownBy W3 (xa lo l.length lc).ownBlock):
  RbP V W3 mb bb (some ⟨g,0,none⟩) cap (l++[p]) (D.put (su p) (.lit (.int xh (l.length:Nat)))) ho hc rv tw H:=by
 obtain⟨k1,k2,k3,k4,k5,k6⟩:=h.mapped ao;have aa:=(I.block _ (fh k1)).trans k1;have ad:=fL k2 I;have ai:=fL k3 I;have au:=k4.keep (fun g c _ hg=>I.block g (fh hg));have ag:=hm.kept (gC I none) zp;have aj:=k6.trans (I.mono k6.size);have U: ∀{c:Array Value} {ty k:Nat},W2.heap[k]? =some (xi c ty (0,0))->ty≠147->some k≠(xa lo l.length lc).ownBlock:=fun hk aq e=>gp ad e.symm hk aq
 refine⟨(J.block _ (fh aa) (U aa zp)).trans aa,h.hbb, ?_, ?_,h.hmb,h.num.put CH CG hp, ?_, ?_, ?_, ?_⟩
 ·have e:ry (l++[p])=ry l++[xd .u32 (p:Int)]:=by rw[JP];rfl
  rw[e,MH];exact ar
 ·rw[MH];refine ag.kept J (fun e=> ?_);obtain⟨c,R⟩:=ja ad e.symm;exact p8 ag R rfl
 ·exact gE ai J (fun b hb e=>by obtain⟨c,R⟩:=ja ai e;exact U R zp hb.symm)
 ·exact au.keep (fun g c _ ae=>J.block g (fh ae) (U ae zp))
 ·exact Mw k5 (Mw I.size J.size)
 exact aj.grown J aj.size (fun b hb=>(gG ad b hb).1)
theorem RbP.cell{l:List Nat}{tw:List (List Nat)}(h:RbP V W mb bb lo lc l D ho hc rv tw H){g:Nat}(hgH:H<=g)(hgV:V.heap.size<=g)(J:W.heap[g]? =some (xi c 3 (0,0)))(i:Nat)(v:Value):RbP V (W.setCell ⟨g,i,none⟩ v) mb bb lo lc l D ho hc rv tw H:=by
 have hg:=fK W g i v;have R: ∀{c:Array Value} {ty k:Nat},W.heap[k]? =some (xi c ty (0,0))->ty≠3->some k≠some g:=fun hk hne e=>by
  simp_all
 refine⟨(hg.block _ (fh h.blk) (R h.blk zp)).trans h.blk,h.hbb,gE h.pl hg ?_,h.mp.kept hg (fun e=>p8 h.mp J (Option.some.inj e).symm),h.hmb,h.num,gE h.ah hg ?_, ?_, ?_, ?_⟩
 ·intro b hb e;obtain⟨U,I⟩:=ja h.pl e;simp_all
 ·intro b hb e;obtain⟨U,I⟩:=ja h.ah e;simp_all
 ·exact h.rows.keep (fun k U hkH hk=>hg.block k (fh hk) (fun e=>by cases e;omega))
 ·simpa [MT] using h.hH
 exact h.bel.grown hg h.bel.size (fun b hb=>za)
theorem RbP.row{l:List Nat}{tw:List (List Nat)}(h:RbP V W mb bb lo lc l D ho hc rv tw H){g:Nat}(ay:V.heap.size<=g)(ar:W.heap[g]? =some (xi (kR r) 3 (0,0)))
  (aq:Below W.heap.size W W1)(ax:W2.ownsRow V.heap.size 33 1 (xa (some ⟨g2,0,none⟩) (tw.length+1) cap) (tw.length+1) (rv++[xa (some ⟨g,0,none⟩) r.length r.length]))(I:W1.grownBy W2 (xa ho tw.length hc).ownBlock):
  RbP V (W2.setCell ⟨bb,0,none⟩ (xa (some ⟨g2,0,none⟩) (tw.length+1) cap)) mb bb lo lc l D (some ⟨g2,0,none⟩) cap (rv++[xa (some ⟨g,0,none⟩) r.length r.length]) (tw++[r]) W.heap.size:=by
 have J:=h.later aq;have aa:=(aq.block _ (fh ar)).trans ar;have aA:rv.length=tw.length:=by have:=h.ah.1;omega
 have ag: ∀{c:Array Value} {ty k:Nat},W1.heap[k]? =some (xi c ty (0,0))->ty≠33->some k≠(xa ho tw.length hc).ownBlock:=fun hk aw e=>gp J.ah e.symm hk aw
 have ai:=(I.block _ (fh J.blk) (ag J.blk zp)).trans J.blk;have ak:=gE J.pl I (fun b hb e=>by obtain⟨c,U⟩:=ja J.pl e;exact ag U zp hb.symm);have aj:=J.mp.kept I (fun e=>by obtain⟨c,U⟩:=ja J.ah e.symm;exact p8 J.mp U rfl);have R:=J.bel.grown I J.bel.size (fun b hb=>(gG J.ah b hb).1);have ad:=(I.block _ (fh aa) (ag aa zp)).trans aa;have hs:=fK W2 bb 0 (xa (some ⟨g2,0,none⟩) (tw.length+1) cap);have an: ∀{c:Array Value} {ty k:Nat},W2.heap[k]? =some (xi c ty (0,0))->ty≠153->some k≠some bb:=fun hk aw e=>by
  simp_all
 have ae:=J.rows.keep (fun k c _ hk=>I.block k (fh hk) (ag hk zp));have aB:W.heap.size<=(W2.setCell ⟨bb,0,none⟩ (xa (some ⟨g2,0,none⟩) (tw.length+1) cap)).heap.size:=by
  have:=aq.size;have:=I.size;simp[MT];omega
 refine⟨?_,h.hbb,gE ak hs (fun b hb e=>by obtain⟨c,U⟩:=ja ak e;simp_all),aj.kept hs (fun e=>p8 aj ai (Option.some.inj e).symm),h.hmb,h.num, ?_, ?_,aB,R.grown hs R.size (fun b hb=>by cases hb;exact h.hbb)⟩
 ·have:=fj ai 0 (xa (some ⟨g2,0,none⟩) (tw.length+1) cap);simp_all
 ·rw[MH];exact gE ax hs (fun b hb e=>by obtain⟨c,U⟩:=ja ax e;simp_all)
 intro j q hq;rcases Nat.lt_or_ge j tw.length with hj|hj
 ·rw[MJ hj] at hq;obtain⟨k,k1,k2,k3,k4⟩:=ae j q hq;exact⟨k,by rw[MJ zo];omega,k2,Mr k3 h.hH,(hs.block k (fh k4) (an k4 zp)).trans k4⟩
 rw[MO hj] at hq;have au:j - tw.length=0:=by
  exact zm173
 rw[au] at hq;have az:r=q:=za;subst az;refine⟨g, ?_,ay,fh ar,(hs.block g (fh ad) (an ad zp)).trans ad⟩;rw[MO zo,aA,au];rfl
def Mh(w:World)(al:List Tk)(rs:List Rl)(w':World)(e:Ending):Prop:=
 ∃l tw ro rc,e=xm (.agg #[xa ro tw.length rc,xj (gH (l.map (keepP (gY rs [] 0))))])/\Bfs (mV (gD rs []) al) (Ms al.length) (qD (gD rs [])) l.length l tw/\RwS w' ro (tw.map zI)/\Below w.heap.size w w'/\l.length<=131072
theorem C3(h:j<al.length):(kE al)[j]? =some (xj (oJ al j)):=by
 unfold oJ kE;simp_all
theorem wK(U:MGood al rs){k:Nat}{l:List Nat}{tw:List (List Nat)}(h:Bfs (mV (gD rs []) al) (Ms n) (qD (gD rs [])) k l tw):l.length<=131072/\ ∀p∈l,p<4294967296:=by
 have hn:(gD rs []).length<=16:=by
  rw[mP];simpa using U.nodes
 obtain⟨J,R⟩:=DG h;have I:2^((gD rs []).length+1)<=2^17:=MN zp zo;exact⟨Mw J I,fun p hp=>Mr (R p hp) (Mw I zp)⟩
theorem Tryz.infoRowP:(prog.info? 33).map (fun i=>(i.zero,i.size,i.bytes))=some (some (xa none 0 0),1,24):=zk
theorem Tryz.infoPl:(prog.info? 147).map (fun i=>(i.zero,i.size,i.bytes))=some (some (xd .u32 0),1,4):=zk
theorem JH[DecidableEq σ](l:List σ)(s:σ):(jr l s).1.length<=l.length+1:=by
 unfold jr
 split
 ·simp
 simp
theorem rB[DecidableEq σ](st:σ->Nat->σ)(s:σ): ∀(I:List Nat) (l:List σ),(jh st s I l).1.length<=l.length+I.length
 |[],l=>by simp[jh]
 |a::I,l=>by
  rw[jh];have h1:=rB st s I (jr l (st s a)).1;have h2:=JH l (st s a);simp only[List.length_cons];omega
theorem Ks(I:MGood al rs)(p a:Nat):mV (gD rs []) al p a<4294967296:=by
 have hn:(gD rs []).length<=16:=by rw[mP];simpa using I.nodes
 exact Mr (vm) (Mw (MN zp (show _<=32 from zo)) zp)
theorem RbP.rws{l:List Nat}{tw:List (List Nat)}(h:RbP V W mb bb lo lc l D ho hc rv tw H)(hk: ∀(k:Nat) (c:Array Value) (ty:Nat),W.heap[k]? =some (xi c ty (0,0))->ty=3\/ty=33->W'.heap[k]? =W.heap[k]?):RwS W' ho (tw.map zI):=fun j r hr=>by
 rw[MX] at hr;cases e:tw[j]? with
 |none=>simp_all
 |some q=>
  rw[e] at hr;have hq:=Option.some.inj hr;subst hq;have hj:=(List.getElem?_eq_some_iff.1 e).1;obtain⟨g,h1,h2,h3⟩:=hD h.ah hj;obtain⟨g2,k1,_,_,k4⟩:=h.rows j q e;subst h1;obtain⟨c,J⟩:=ja h.ah (b:=g) rfl;have R:=hk g _ _ J (MM rfl);have I:=(hk g2 _ _ k4 (MU rfl)).trans k4;refine⟨g,0,some ⟨g2,0,none⟩,q.length,rfl, ?_, ?_,fun i x U=> ?_⟩
  ·exact fh (R.trans J)
  ·rw[MP,MR (a:=⟨g,j,none⟩) R,h3,k1];unfold zI;simp
  unfold zI at U;rw[MX] at U;cases e2:q[i]? with
  |none=>simp_all
  |some y=>
   rw[e2] at U;have hy:(y:Int)=x:=Option.some.inj U;exact⟨g2,0,rfl,fh I,by rw[MP,cell_of_blk I,rA e2,hy]⟩
theorem A4(w:World)(n:Nat)(hn:n<=10000000000):(Instr.makeSlice 33 (xd xh (n:Int)) (xd xh (n:Int))).run prog w= .ok (xa (some ⟨w.heap.size,0,none⟩) n n) (w.alloc (xi (Array.replicate n (xd xh 0)) 3)):=by
 obtain⟨U,I,J,R,hz2⟩:=info_parts Tryz.infoI64;exact p6 (P:=prog) w 33 3 U (xd xh 0) underlying33 I J R rfl zo n hn
theorem vB(al:List Tk)(rs:List Rl)(hM:MGood al rs)(a1:Option Addr)(a3:Nat)(m1:Option Addr)(m2 m3:Nat)(cells:List Value)(ha:w.ownsRow 0 9 1 (xa a1 al.length a3) al.length (kE al))(hr:w.ownsRow 0 144 3 (xa m1 m2 m3) rs.length cells)(hp:BuP w rs cells)(h6:al.length<=6):
  Calls prog 80 #[.agg #[xa a1 al.length a3,xa m1 m2 m3]] w fun e w'=>Mh w al rs w' e:=by
 have hB:Below w.heap.size w ((w.alloc (xi #[xa a1 al.length a3,xa m1 m2 m3] 78)).alloc (xi #[xa none 0 0,xj ⟨#[]⟩] 153)):=gz.alloc zp _;have HW:=fa (El rs a1 al.length a3 m1 m2 m3 cells (fL hr hB) (hp.keep (KB.below hB)) hM.nodes hM.rlen (fun r hr=>(hM.fg r hr).ne));have bV:=fa (fL ha hB);have aY:Hid (((w.alloc (xi #[xa a1 al.length a3,xa m1 m2 m3] 78)).alloc (xi #[xa none 0 0,xj ⟨#[]⟩] 153)).heap[w.heap.size]? =some (xi #[xa a1 al.length a3,xa m1 m2 m3] 78 (0,0))):=(MQ _ _ _ zp).trans (ft _ _);have ad:Hid (((w.alloc (xi #[xa a1 al.length a3,xa m1 m2 m3] 78)).alloc (xi #[xa none 0 0,xj ⟨#[]⟩] 153)).heap[w.heap.size+1]? =some (xi #[xa none 0 0,xj ⟨#[]⟩] 153 (0,0))):=fk _ _ _ zp;have HB:=fa hB;have HM:=fa hM;have HG:=fa (Bz hM);have dt:gY rs [] 0<4294967296:=Mr (tX rs [] 0 zp (fun r hr=>(hM.fg r hr).ne)) (Mw (MN zp (show _<=32 by have:=(Bz hM).len;omega)) zp);have hmm:= @run_makeMap prog;obtain⟨i0,dd,du,dv,dw⟩:=info_parts Tryz.infoPl;obtain⟨r0,dr,cD,cE,cF⟩:=info_parts Tryz.infoRowP;clear ha hr hp hB hM;go_in;go_wp2_with fail;refine HW.out.mono ?_;generalize ((w.alloc (xi #[xa a1 al.length a3,xa m1 m2 m3] 78)).alloc (xi #[xa none 0 0,xj ⟨#[]⟩] 153))=W0 at *;rintro e w1 ⟨so,sc,rfl,cG,an⟩;have aA:=iz w1 (xi #[xa so (gD rs []).length sc,xd .u32 ((gY rs [] 0:Nat):Int)] 149);have bz:=fa (HB.out.trans ((an.trans (aA.mono an.size)).mono HB.out.size));have aH:=fa (cG.later aA);have cO:=fa (fL (fL bV.out an) aA);have bC:=fa ((aA.block _ (Mr (fh aY.out) an.size)).trans ((an.block _ (fh aY.out)).trans aY.out));have bD:=fa ((aA.block _ (Mr (fh ad.out) an.size)).trans ((an.block _ (fh ad.out)).trans ad.out));have aj:=fa (ft w1 (xi #[xa so (gD rs []).length sc,xd .u32 ((gY rs [] 0:Nat):Int)] 149));clear cG an aA HW bV aY ad HB;have aX:=fa (fun W h=>C6 W (gD rs []) so sc (gY rs [] 0) h HG.out);go_wp2_with fail;generalize hV:w1.alloc (xi #[xa so (gD rs []).length sc,xd .u32 ((gY rs [] 0:Nat):Int)] 149)=V at *;refine(aX.out V aH.out).mono ?_;rintro e w3 ⟨rfl,ag⟩;have dj:qD (gD rs [])<4294967296:=by
  have:=(wK HM (Bfs.start (mV (gD rs []) al) (Ms al.length) (qD (gD rs [])))).2 (qD (gD rs [])) zp;omega
 have cA:n9 (gD rs []) []=qD (gD rs []):=rfl;rw[cA] at aX|-;have bX:=fa (Bfs.start (mV (gD rs []) al) (Ms al.length) (qD (gD rs [])));generalize hP0:qD (gD rs [])=p0 at *;have b4:=fa hP0;have a':Below w3.heap.size w3 ((w3.alloc (xi #[xd .u32 (p0:Int)] 147)).alloc (.map #[] 0)):=gz.alloc zp _;have aR:=(ag.block _ (fh aj.out)).trans aj.out;have wc:=cell_of_blk aR;have cK:=fh aR;have bj:=fa (aH.out.later (ag.trans (a'.mono ag.size)));clear cA hP0;go_wp2_with fail;refine(aX.out _ bj.out).mono ?_;rintro e w4 ⟨rfl,a8⟩;have bN:w4.ownsMap prog 147 (plainElem (H:=Unit) prog 3) (w3.heap.size+1) 0 (.map []):=by
  have k:=MV (H:=Unit) (w3.alloc (xi #[xd .u32 (p0:Int)] 147)) prog 147 (plainElem prog 3);have e:(w3.alloc (xi #[xd .u32 (p0:Int)] 147)).heap.size=w3.heap.size+1:=zp;rw[e] at k;exact k.kept (gC a8 none) zp
 have aO:w4.ownsRow V.heap.size 147 1 (xa (some ⟨w3.heap.size,0,none⟩) 1 1) 1 (ry [p0]):=by
  refine fL (w:=(w3.alloc (xi #[xd .u32 (p0:Int)] 147)).alloc (.map #[] 0)) ⟨rfl,.inr ⟨w3.heap.size,1,_,rfl,ag.size,(MQ _ _ _ zp).trans (ft _ _),MC _,zd,rfl,rfl⟩⟩ a8
 have av:=(ag.trans (a'.mono ag.size)).trans (a8.mono (Mw ag.size a'.size));obtain⟨w5,cB,cr,bI⟩:=bN.update Dx underlying218 zd (Dw dj) (plainElem_int (a:=0) underlying3 zf);have cJ:=(av.block _ (fh aj)).trans aj;have b5:Hid (RbP V (w5.alloc (xi #[xa none 0 0,xj ⟨#[]⟩] 153)) (w3.heap.size+1) w5.heap.size (some ⟨w3.heap.size,0,none⟩) 1 [p0] ((DataW.map []).put (su p0) (.lit (.int xh ((0:Nat):Int)))) none 0 [] [] w5.heap.size):=by
  have bF:=av.grown bI av.size (fun b hb=>by cases hb;have:=ag.size;omega);have U:=iz w5 (xi #[xa none 0 0,xj ⟨#[]⟩] 153);refine⟨ft _ _,bF.size,fL (gE aO bI (fun b hb e=> ?_)) U,(cr.kept (gC U none) zp),by have:=ag.size;omega,(NumM.nil su).put CH CG rfl,ML _ _ _ _,fun j r hr=>zv,U.size,bF.trans (U.mono bF.size)⟩;obtain⟨c,c'⟩:=ja aO e;exact p8 bN c' (Option.some.inj hb).symm
 clear bN aO av cr bI cJ a' aR ag a8 wc cK bj aX;go_wp2;clear cB;generalize w5.alloc (xi #[xa none 0 0,xj ⟨#[]⟩] 153)=w6 at *;generalize w5.heap.size=bb at *;generalize w3.heap.size+1=mb at *;have hmk:=fun W:World=>A4 W al.length zo
 have aQ:=fh aj
 go_loopw [4,7] (fun pv x wr=> ∃(k:Nat) (lo:Option Addr) (lc:Nat) (l:List Nat) (D:DataW Unit) (ho:Option Addr) (hc:Nat) (rv:List Value) (tw:List (List Nat)) (H:Nat),x=xd xh k/\pv=xa lo l.length lc/\Hid (RbP V wr mb bb lo lc l D ho hc rv tw H)/\Hid (Bfs (mV (gD rs []) al) (Ms al.length) p0 k l tw)) (fun _ x _=>131073 - (intOf x).toNat)
 ·exact⟨0,some ⟨w3.heap.size,0,none⟩,1,[p0],_,none,0,[],[],_,rfl,rfl,b5,bX⟩
 obtain⟨k,lo,lc,l,D,ho,hc,rv,tw,H,rfl,rfl,ad,aC⟩:=hrel;have aL:l.length<=131072/\ ∀p∈l,p<4294967296:=by
  have:=aC.out;rw[<-b4.out] at this;exact wK HM this
 have bH:=aL.1;have bA:=fa aL.2;have hkl:=aC.le;have cH:=aC.len;have cW:=fa cH;clear aL cH;have J:=ad.bel;have cu:wr.cell? ⟨w.heap.size,0,none⟩=some (xa a1 al.length a3):=(bcell3 J _ _ (fh bC)).trans (cell_of_blk bC 0);have cv:=Mr (fh bC) J.size;rcases zc k l.length with⟨hlt,hkn⟩|⟨hlt,hkn⟩
 ·obtain⟨pb,di,cy,dm⟩:=hD ad.pl hlt;have HX:=fa (Mt hlt);have dp:=bA l[k] (MZ hlt);subst di;generalize l[k]=px at *;have cp:(wr.alloc (xi (Array.replicate al.length (xd xh 0)) 3)).heap[wr.heap.size]? =some (xi (kR (jJ [] al.length 0)) 3 (0,0)):=by
   exact zm170
  have b6:=fa (ad.later ((MG _ _).alloc (MC _) (xi (Array.replicate al.length (xd xh 0)) 3)));have ca:=ad.hH;have bE:=ad.bel.size;have cQ:=fa cp;clear cp J dm cy;go_wp2;generalize wr.alloc (xi (Array.replicate al.length (xd xh 0)) 3)=wA at *;generalize wr.heap.size=g at *;clear cu cv bA
  rename World=>wR
  go_loopw [4,36] (fun pv x wq=> ∃(j:Nat) (lo:Option Addr) (lc:Nat) (M:List Nat) (D:DataW Unit) (q:List Nat),j<=al.length/\x=xd xh j/\pv=xa lo M.length lc/\Hid (RbP V wq mb bb lo lc M D ho hc rv tw H)/\Hid (wq.heap[g]? =some (xi (kR (jJ q al.length j)) 3 (0,0)))/\Hid (jh (mV (gD rs []) al) px (Ms j) l=(M,q))) (fun _ x _=>al.length - (intOf x).toNat)
  ·exact⟨0,some ⟨pb,0,none⟩,lc,l,D,[],Nat.zero_le _,rfl,rfl,b6,cQ,rfl⟩
  obtain⟨j,lo,bS,M,D2,q,hj,rfl,rfl,R,bB,HRN⟩:=hrel;have aP:=nF (mV (gD rs []) al) px (Ms j) l;rw[HRN.out] at aP;obtain⟨⟨xs,a6,_⟩,dq,_,_⟩:=aP;have hMle:M.length<=l.length+j:=by
   have:=rB (mV (gD rs []) al) px (Ms j) l;exact zm138
  have bw:q.length=j:=za;have HQL:=fa bw;have df:k<M.length:=by have:=congrArg List.length a6;simp at this;omega
  have cb:M[k]? =some px:=by rw[show M=l++xs from a6,MJ hlt];trivial
  clear dq bw;rcases zc j al.length with⟨hjl,hjn⟩|⟨hjl,hjn⟩
  ·have hkMn:(k:Int)<(M.length:Int):=zo;have J:=R.bel;obtain⟨aU,cq,bu,bt⟩:=hD R.pl df;have cz:wr.cell? ⟨aU,k,none⟩=some (xd .u32 (px:Int)):=bt.trans (by unfold ry;simp_all);obtain⟨ab,cZ,cc,cd⟩:=hD (fL cO J) hjl;have cg:=cd.trans (C3 hjl);have bP:wr.cell? ⟨w1.heap.size,0,none⟩=some (xa so (gD rs []).length sc):=(bcell3 J _ _ aQ).trans (cell_of_blk aj 0);have bQ:wr.cell? ⟨w1.heap.size,1,none⟩=some (xd .u32 ((gY rs [] 0:Nat):Int)):=(bcell3 J _ _ aQ).trans (cell_of_blk aj 1);have aS:=Mr aQ J.size;have aB:=fa (Eh wr.drew (gD rs []) so sc (gY rs [] 0) px (oJ al j) (aH.later (J.trans (((MG wr.heap.size wr).drew).mono J.size))) HG dp);have bO:=Ks HM px j;have ch:kA (gD rs []) true (oJ al j) (px.testBit (gD rs []).length) px=mV (gD rs []) al px j:=rfl;rw[ch] at aB;have au:Hid (jh (mV (gD rs []) al) px (Ms (j+1)) l=((jr M (mV (gD rs []) al px j)).1,q++[(jr M (mV (gD rs []) al px j)).2])):=by
    exact zm124
   subst cZ;subst cq;clear ch bt cd a6 cb J;generalize mV (gD rs []) al px j=p2 at *;generalize oJ al j=ev at *;go_wp2;refine wp_region_held_drew (S:=fun w'=>w'.cell? ⟨w1.heap.size,0,none⟩=some (xa so (gD rs []).length sc)/\w'.cell? ⟨w1.heap.size,1,none⟩=some (xd .u32 ((gY rs [] 0:Nat):Int))/\w'.cell? ⟨aU,k,none⟩=some (xd .u32 (px:Int))) zk ?_ (fun I=> ?_)
   ·simp_all
   apply zt1 0 (.agg #[xa so (gD rs []).length sc,xd .u32 ((gY rs [] 0:Nat):Int)]) I;apply zt1 1 (xa (some ⟨aU,0,none⟩) M.length bS) I;apply zt1 2 (xd xh (k:Int)) I;apply zt1 3 (xk (some ⟨aU,k,none⟩)) I;apply zt1 4 (xd .u32 (px:Int)) I;apply zt1 5 (xj ev) I;apply zrH 6;intro K hK;go_simp;refine aB.mono ?_;rintro e cL ⟨rfl,aI⟩;refine hK _ _ ⟨(bcell3 aI _ _ aS).trans I.1,(bcell3 aI _ _ aS).trans I.2.1,(bcell3 aI _ _ bu).trans I.2.2⟩ (fun I=> ?_);clear hK K;have aJ:Below wr.heap.size wr cL:=((MG _ _).drew).trans aI;have aa:=fa (R.later aJ);have ae:=fa ((aJ.block _ (fh bB)).trans bB);clear aI aJ;apply zt1 7 (xd .u32 (p2:Int)) I;refine wpAnyH_done zk ?_ _;clear I bP bQ cz cg cc bu aS aB;cases hf:iX p2 M 0 with
   |some i=>
    obtain⟨ao,bn⟩:=(aa.num.2 p2).1 i hf;rw[tu hf] at au;have ak:=fa ao;have bg:=fa bn;clear ao bn hf
    go_wp2_with (at_lookup;go_must (refine wpList_lookup_own_ok_int _ rfl _ _ 218 rfl 147 3 xh Dx underlying218 underlying3 (z6) mb M.length D2 rfl aa.mp _ (su p2) rfl (Dw bO) ?_))
    intro c a7 bR;rw[bg.out] at a7;have da:(i:Int)=c:=za;subst da;rw[ak.out];clear a7 bR bg ak;have gf:=fi ae j;have aN:=qE (by rw[HQL.out];simp) hj;obtain⟨y0,aT⟩: ∃y0,(jJ q al.length j)[j]? =some y0:=⟨_,Mt zo⟩;have gc:=(cell_of_blk ae j).trans (rA aT);have aG:=fa (aa.cell ca bE ae j (xd xh (i:Int)));have aD:Hid ((cL.setCell ⟨g,j,none⟩ (xd xh (i:Int))).heap[g]? =some (xi (kR (jJ (q++[i]) al.length (j+1))) 3 (0,0))):=by
     have:=fj ae j (xd xh (i:Int));exact zm133
    clear aT aN;go_wp2
    go_roundw
    ·exact⟨j+1,some ⟨aU,0,none⟩,bS,M,D2,q++[i],zo,zf,rfl,aG,aD,au⟩
    simp[intOf];omega
   |none=>
    have ao:=(aa.num.2 p2).2 hf;rw[tq hf] at au;have ak:=fa ao;have HF:=fa hf;clear ao hf
    go_wp2_with (at_lookup;go_must (refine wpList_lookup_own_ok_int _ rfl _ _ 218 rfl 147 3 xh Dx underlying218 underlying3 (z6) mb M.length D2 rfl aa.mp _ (su p2) rfl (Dw bO) ?_))
    intro c a7 bR;rw[ak.out];clear a7 bR ak;have hMi:(M.length:Int)<=200000:=zo
    go_wp2_with (at_mapUpdate;go_must (refine wpList_mapUpdate_own _ rfl _ _ _ 218 rfl 147 3 Dx underlying218 _ mb M.length D2 rfl aa.mp ?m1 _ _ _ rfl rfl (Dw bO) _ [] (plainElem_int underlying3 ?m2) ?_))
    case m1=>unfold maxLen;omega
    case m2=>exact WalkArith.wf_i64 zo
    intro w7 ct ba;have b3:=fa ct;have bZ:=fa ba;obtain⟨k1,k2,k3,k4,k5,k6⟩:=aa.mapped ba;have aF:=fa k2;have hV7:=k6.size;have bo:=(ba.block _ (fh ae) (fun e=>p8 aa.mp ae (Option.some.inj e))).trans ae;have aE:=fa bo;clear ct ba k1 k2 k3 k4 k5 k6 bo
    go_wp2_with (at_builtin;go_must (refine wpList_append_lies _ rfl _ _ 217 rfl V.heap.size 147 i0 (xd .u32 0) 1 4 underlying217 dd du dv dw rfl zd _ M.length (ry M) rfl ?c0 ⟨w7.heap.size,0,none⟩ 1 1 [xd .u32 (p2:Int)] rfl rfl ?c1 ?c2 zd ?c3 ?c4 ?c5 (w7.heap.size+1) ?c6 ?_))
    case c0=>exact aF.alloc _
    case c1=>
     intro j u hj
     match j,hj with
     |0,hj=>simp at hj;subst hj;exact cell_of_blk (fk _ _ _ zp) 0
     |j+1,hj=>simp at hj
    case c2=>intro u hu;simp at hu;subst hu;rfl
    case c3=>unfold maxLen;omega
    case c4=>omega
    case c5=>simp;omega
    case c6=>simp
    intro g8 b9 w8 cw bJ _ _;have U:=iz w7 (xi #[xd .u32 (p2:Int)] 147);have aG:=fa (aa.place HF b3 bZ U cw bJ);have ay:=(U.block _ (fh aE)).trans aE;have bq:=(bJ.block _ (fh ay) (fun e=>gp (aF.alloc _) e.symm ay zp)).trans ay;have ar:=fa bq;clear cw bJ U ay bq b3 bZ aF aE;have gf:=fi ar j;have aN:=qE (by rw[HQL.out];simp) hj;obtain⟨y0,aT⟩: ∃y0,(jJ q al.length j)[j]? =some y0:=⟨_,Mt zo⟩;have gc:=(cell_of_blk ar j).trans (rA aT);have b7:=fa (aG.cell ca bE ar j (xd xh (M.length:Int)));have aD:Hid ((w8.setCell ⟨g,j,none⟩ (xd xh (M.length:Int))).heap[g]? =some (xi (kR (jJ (q++[M.length]) al.length (j+1))) 3 (0,0))):=by
     have:=fj ar j (xd xh (M.length:Int));exact zm133
    have hlM:(M++[p2]).length=M.length+1:=zp;clear aT aN;go_wp2
    go_roundw
    ·exact⟨j+1,some ⟨g8,0,none⟩,b9,M++[p2],_,q++[M.length],zo,zf,zp,b7,aD,au⟩
    simp[intOf];omega
  have de:j=al.length:=zo;subst de;have bm:jJ q al.length al.length=q:=by unfold jJ;rw[MI (by rw[HQL.out];simp)];simp
  have bL:=bB.out;rw[bm] at bL;have cR:=fa bL;have bW:Hid (Bfs (mV (gD rs []) al) (Ms al.length) p0 (k+1) M (tw++[q])):=by
   have:=aC.step HX;rw[HRN.out] at this;exact this
  have ck:wr.cell? ⟨bb,0,none⟩=some (xa ho tw.length hc):=cell_of_blk R.blk 0;have htwk:tw.length<=200000:=by have:=cW.out;omega
  have hVr:=R.bel.size;clear bm bL a6 cb
  go_wp2_with (at_builtin;go_must (refine wpList_append_lies _ rfl _ _ 34 rfl V.heap.size 33 r0 (xa none 0 0) 1 24 underlying34 dr cD cE cF rfl zd _ tw.length rv rfl ?d0 ⟨wr.heap.size,0,none⟩ 1 1 [xa (some ⟨g,0,none⟩) al.length al.length] rfl rfl ?d1 ?d2 zd ?d3 ?d4 ?d5 (wr.heap.size+1) ?d6 ?_))
  case d0=>exact R.ah.alloc _
  case d2=>rfl
  case d3=>unfold maxLen;omega
  case d4=>omega
  case d5=>omega
  intro g9 b' w9 cx bK _ _;have U:=iz wr (xi #[xa (some ⟨g,0,none⟩) al.length al.length] 33);have aK:=(bK.block bb (fh (R.later U).blk) (fun e=>gp (R.later U).ah e.symm (R.later U).blk zp)).trans (R.later U).blk;have b8:=fa (R.row bE cR U (by rw[HQL.out];exact cx) bK);have hc9:w9.cell? ⟨bb,0,none⟩=some (xa ho tw.length hc):=cell_of_blk aK 0;have hf9:=fi aK 0;have hk1:k<131072:=zo;clear cx bK U aK ck;go_wp2
  go_roundw
  ·exact⟨k+1,lo,bS,M,D2,some ⟨g9,0,none⟩,b',_,tw++[q],_,zf,rfl,b8,bW⟩
  simp[intOf];omega
 have dh:k=l.length:=zo;subst dh;have bP:wr.cell? ⟨w1.heap.size,0,none⟩=some (xa so (gD rs []).length sc):=(bcell3 J _ _ aQ).trans (cell_of_blk aj 0);have bQ:wr.cell? ⟨w1.heap.size,1,none⟩=some (xd .u32 ((gY rs [] 0:Nat):Int)):=(bcell3 J _ _ aQ).trans (cell_of_blk aj 1);have cU:Hid (PlS wr lo l):=fun j x hx=>by
  have hj:=(List.getElem?_eq_some_iff.1 hx).1;obtain⟨b,h1,h2,h3⟩:=hD ad.pl hj;exact⟨b,0,h1,h2,by rw[MP,h3];unfold ry;simp_all⟩
 have cS:=fa (B7 wr so (gD rs []).length sc (gY rs [] 0) l lo lc cU.out dt zo bA.out);clear cu cv J;go_wp2_with fail;refine cS.out.mono ?_;rintro e w8 ⟨rfl,cj⟩;have ai:=fa (ad.out.later cj);generalize hS8:gH (l.map (keepP (gY rs [] 0)))=s8 at *;have cV:=fa hS8;have aw:=ai.out.blk;have ax:=(ai.out.bel.block _ (fh bD.out)).trans bD.out;have bc:=cell_of_blk aw;have bf:=fi aw;have rc:=cell_of_blk ax;have rf:=fi ax;have bY:=fa aw;have bh:=fa ax;have cm:bb≠w.heap.size+1:=by have:=ai.out.hbb;have:=fh bD.out;omega
 have bG:w.heap.size+1≠bb:=fun e=>cm e.symm
 clear hS8 cj aw ax bP bQ;go_wp2;have bM: ∀k,k≠bb->k≠w.heap.size+1->(((w8.setCell ⟨bb,1,none⟩ (xj s8)).setCell ⟨w.heap.size+1,0,none⟩ (xa ho tw.length hc)).setCell ⟨w.heap.size+1,1,none⟩ (xj s8)).heap[k]? =w8.heap[k]? :=fun k h1 h2=>
  (Mx _ _ _ _ h2).trans ((Mx _ _ _ _ h2).trans (Mx _ _ _ _ h1))
 have cn:(((w8.setCell ⟨bb,1,none⟩ (xj s8)).setCell ⟨w.heap.size+1,0,none⟩ (xa ho tw.length hc)).setCell ⟨w.heap.size+1,1,none⟩ (xj s8)).heap[w.heap.size+1]? =some (xi #[xa ho tw.length hc,xj s8] 153 (0,0)):=
  fj (fj ((Mx _ _ _ _ bG).trans bh) 0 _) 1 _
 have c9:Below w.heap.size w (((w8.setCell ⟨bb,1,none⟩ (xj s8)).setCell ⟨w.heap.size+1,0,none⟩ (xa ho tw.length hc)).setCell ⟨w.heap.size+1,1,none⟩ (xj s8)):=by
  have c8:=bz.trans (ai.bel.mono bz.size);have cl:=Mw bz.size ai.hbb;exact((c8.setCell (p:=⟨bb,1,none⟩) cl _).setCell (p:=⟨w.heap.size+1,0,none⟩) zp _).setCell (p:=⟨w.heap.size+1,1,none⟩) zp _
 have cC:=ai.rws (W':=(((w8.setCell ⟨bb,1,none⟩ (xj s8)).setCell ⟨w.heap.size+1,0,none⟩ (xa ho tw.length hc)).setCell ⟨w.heap.size+1,1,none⟩ (xj s8))) (fun k c ty hk cI=>bM k (fun e=>by
   rw[e,bY.out] at hk;injection hk with hk
   injection hk with _ e2 _
   rcases cI with h|h<;>(simp_all)) (fun e=>by
   rw[e,bh.out] at hk;injection hk with hk
   injection hk with _ e2 _
   rcases cI with h|h<;>(simp_all)))
 generalize (((w8.setCell ⟨bb,1,none⟩ (xj s8)).setCell ⟨w.heap.size+1,0,none⟩ (xa ho tw.length hc)).setCell ⟨w.heap.size+1,1,none⟩ (xj s8))=wf at *;have cX:=cell_of_blk cn;refine bodyPost_ret (v:= .agg #[xa ho tw.length hc,xj s8]) (by simp[results,results80,go_sem,cX]) rfl ?_;refine⟨l,tw,ho,hc,by rw[cV.out], ?_,cC,c9,bH⟩;rw[b4.out];exact aC
def lN(ms:List (List Bool)):List Value:=ms.map fun b=>xj (gH b)
theorem Bs(l r:List (List Bool)):lN (l++r)=lN l++lN r:=by unfold lN;simp
structure StB (W:World) (base sb mb:Nat) (so:Option Addr) (sc:Nat) (ms:List (List Bool)) (D:DataW Unit):Prop where
 blk:W.heap[sb]? =some (xi #[xa so ms.length sc,.map (some mb)] 158 (0,0))
 own:W.ownsRow base 151 1 (xa so ms.length sc) ms.length (lN ms)
 mp:W.ownsMap prog 151 (plainElem prog 3) mb ms.length D
 num:NumM uF D ms
 hsb:base<=sb
 hmb:base<=mb
theorem pG(h:W.ownsMap prog 151 (plainElem prog 3) b n D){ty:Nat}{k:Nat}(hk:W.heap[k]? =some (xi c ty m)):k≠b:=by
 rintro rfl;obtain⟨es,clock,h1,_⟩:=h;simp_all
structure FrS (base:Nat) (w w':World):Prop where
 os:w'.os=w.os
 tape:w'.tape=w.tape
 output:w'.output=w.output
 size:w.heap.size<=w'.heap.size
 ty: ∀(k:Nat) (c:Array Value) (ty:Nat) (m:Nat × Nat),w.heap[k]? =some (xi c ty m)->ty≠158->ty≠151->w'.heap[k]? =w.heap[k]?
 low: ∀k,k<base->w'.heap[k]? =w.heap[k]?
theorem FrS.refl(base:Nat)(w:World):FrS base w w:=⟨rfl,rfl,rfl,MC _,fun _ _ _ _ _ _ _=>rfl,fun _ _=>rfl⟩
theorem StB.later(h:StB W base sb mb so sc ms D)(I:Below W.heap.size W W'):StB W' base sb mb so sc ms D:=
 ⟨(I.block _ (fh h.blk)).trans h.blk,fL h.own I,h.mp.kept (gC I none) zp,h.num,h.hsb,h.hmb⟩
theorem StB.other(h:StB W base sb mb so sc ms D){row:Option Nat}(hg:W.grownBy W' row)(I: ∀b,row=some b-> ∃c ty m,W.heap[b]? =some (xi c ty m)/\ty≠158/\ty≠151):StB W' base sb mb so sc ms D:=by
 refine⟨(hg.block _ (fh h.blk) (fun e=> ?_)).trans h.blk,gE h.own hg (fun b U e=> ?_),h.mp.kept hg (fun e=> ?_),h.num,h.hsb,h.hmb⟩
 ·obtain⟨c,ty,m,J,h2,_⟩:=I _ e.symm;rw[h.blk] at J;simp_all
 ·obtain⟨c,ty,m,J,_,R⟩:=I _ U;exact gp h.own e J R
 obtain⟨c,ty,m,J,_,_⟩:=I _ e.symm;exact pG h.mp J rfl
theorem Tryz.infoSet:(prog.info? 151).map (fun i=>(i.zero,i.size,i.bytes))=some (some (xj ⟨#[]⟩),1,16):=zk
theorem Jy(b:List Bool):WideAt.IsKeyLit (uF b):=trivial
def Mf(w:World)(base sb mb:Nat)(ms:List (List Bool))(b:List Bool)(w':World)(e:Ending):Prop:=
 e=xm (xd xh ((jr ms b).2:Nat))/\(∃so' sc' D',StB w' base sb mb so' sc' (jr ms b).1 D')/\FrS base w w'
theorem uQ(w:World)(base sb mb:Nat)(so:Option Addr)(sc:Nat)(ms:List (List Bool))(D:DataW Unit)(b:List Bool)(h:StB w base sb mb so sc ms D)(hb:b.length<=1000000)(hm:ms.length<=1000)(aK:base<=w.heap.size):
  Calls prog 81 #[xk (some ⟨sb,0,none⟩),xj (gH b)] w fun e w'=>Mf w base sb mb ms b w' e:=by
 obtain⟨i0,aX,a6,a7,a8⟩:=info_parts Tryz.infoSet;have U:=fa h;have c0:w.cell? ⟨sb,0,none⟩=some (xa so ms.length sc):=cell_of_blk h.blk 0;have c1:w.cell? ⟨sb,1,none⟩=some (.map (some mb)):=cell_of_blk h.blk 1;have hk:=L5 (b:=b) hb;generalize hsb:gH b=s at *;have aS:=fa hsb;clear h hsb;cases hf:iX b ms 0 with
 |some i=>
  obtain⟨ai,az⟩:=(U.out.num.2 b).1 i hf;have ao:=fa (tu hf);have ae:=fa ai;have aw:=fa az;clear ai az hf;go_in
  go_wp2_with (at_lookup;go_must (refine wpList_lookup_own_ok_int _ rfl _ _ 155 rfl 151 3 xh G' underlying155 underlying3 (z6) mb ms.length D rfl U.out.mp _ (uF b) rfl hk ?_))
  intro c av aF;rw[aw.out] at av;have aW:(i:Int)=c:=za;subst aW;rw[ae.out];clear av aF aw ae;go_wp2;go_ret;refine⟨by rw[ao.out];rfl, ?_,FrS.refl _ _⟩;rw[ao.out];exact⟨_,_,_,U.out⟩
 |none=>
  have ai:=(U.out.num.2 b).2 hf;have ao:=fa (tq hf);have ae:=fa ai;have HF:=fa hf;clear ai hf;go_in
  go_wp2_with (at_lookup;go_must (refine wpList_lookup_own_ok_int _ rfl _ _ 155 rfl 151 3 xh G' underlying155 underlying3 (z6) mb ms.length D rfl U.out.mp _ (uF b) rfl hk ?_))
  intro c av aF;rw[ae.out];clear av aF ae
  go_wp2_with (at_mapUpdate;go_must (refine wpList_mapUpdate_own _ rfl _ _ _ 155 rfl 151 3 G' underlying155 _ mb ms.length D rfl U.mp ?m1 _ _ _ rfl rfl hk _ [] (plainElem_int underlying3 ?m2) ?_))
  case m1=>unfold maxLen;omega
  case m2=>exact WalkArith.wf_i64 zo
  intro w7 aL I;have aa:=(I.block _ (fh U.blk) (fun e=>pG U.mp U.blk (Option.some.inj e))).trans U.blk;have au:=gE U.own I (fun k hk e=>by
   obtain⟨c',aA⟩:=ja U.own e;exact pG U.mp aA (Option.some.inj hk).symm)
  have aR:=fa aL;have aQ:=fa I;have ax:=fa aa;have ay:=fa au;have d0:w7.cell? ⟨sb,0,none⟩=some (xa so ms.length sc):=cell_of_blk aa 0;have hl7:=fh aa;have hs7:=Mw aK I.size;clear aL I aa au c0 c1
  go_wp2_with (at_builtin;go_must (refine wpList_append_lies _ rfl _ _ 156 rfl base 151 i0 (xj ⟨#[]⟩) 1 16 underlying156 aX a6 a7 a8 rfl zd _ ms.length (lN ms) rfl ?c0 ⟨w7.heap.size,0,none⟩ 1 1 [xj s] rfl rfl ?c1 ?c2 zd ?c3 ?c4 ?c5 (w7.heap.size+1) ?c6 ?_))
  case c0=>exact ay.alloc _
  case c1=>
   intro j u hj
   match j,hj with
   |0,hj=>simp at hj;subst hj;exact cell_of_blk (fk _ _ _ zp) 0
   |j+1,hj=>simp at hj
  case c2=>intro u hu;simp at hu;subst hu;rfl
  case c3=>unfold maxLen;omega
  case c4=>omega
  case c5=>simp;omega
  case c6=>simp
  intro g8 ag w8 aC ad _ _;have J:=iz w7 (xi #[xj s] 151);have ak:=(J.block _ (fh ax)).trans ax;have an:=fL ay J;have ar:=aR.kept (gC J none) zp;have aE: ∀{c:Array Value} {ty k:Nat} {m:Nat × Nat},(w7.alloc (xi #[xj s] 151)).heap[k]? =some (xi c ty m)->ty≠151->some k≠(xa so ms.length sc).ownBlock:=fun hk aY e=>gp an e.symm hk aY
  have R:=(ad.block _ (fh ak) (aE ak zp)).trans ak;have aq:=ar.kept ad (fun e=>by
   obtain⟨c',aA⟩:=ja an e.symm;exact pG ar aA rfl)
  have aD:=fK w8 sb 0 (xa (some ⟨g8,0,none⟩) (ms.length+1) ag);have aH:Hid (StB (w8.setCell ⟨sb,0,none⟩ (xa (some ⟨g8,0,none⟩) (ms.length+1) ag)) base sb mb (some ⟨g8,0,none⟩) ag (ms++[b]) (D.put (uF b) (.lit (.int xh (ms.length:Nat))))):=by
   refine⟨?_, ?_, ?_,U.num.put Jy Jx HF,U.hsb,U.hmb⟩
   ·have:=fj R 0 (xa (some ⟨g8,0,none⟩) (ms.length+1) ag);simp_all
   ·have e:lN (ms++[b])=lN ms++[xj s]:=by rw[Bs,<-aS.out];rfl
    rw[e,MH];refine gE aC aD (fun k hk e=> ?_);cases hk;exact gp aC e R zp
   rw[MH];exact aq.kept aD (fun e=>pG aq R (Option.some.inj e).symm)
  have aP:Hid (FrS base w (w8.setCell ⟨sb,0,none⟩ (xa (some ⟨g8,0,none⟩) (ms.length+1) ag))):=by
   have I:=aQ.out;refine⟨ad.os.trans (J.os.trans I.os),ad.tape.trans (J.tape.trans I.tape),ad.output.trans (J.output.trans I.output), ?_,fun k c ty m hk h1 h2=> ?_,fun k hk=> ?_⟩
   ·have:=I.size;have:=J.size;have:=ad.size;simp[MT];omega
   ·have e7:=I.block k (fh hk) (fun e=>pG U.mp hk (Option.some.inj e));have ea:=(J.block k (fh (e7.trans hk))).trans e7;have e8:=(ad.block k (fh (ea.trans hk)) (aE (ea.trans hk) h2)).trans ea;refine(Mx _ _ _ _ ?_).trans e8;rintro rfl;simp_all
   have hks:=U.hsb;have hkm:=U.hmb;have aB:=Mr hk aK;have e7:=I.block k aB (fun e=>by have:=Option.some.inj e;omega);have ea:=(J.block k (Mr aB I.size)).trans e7;have e8:=(ad.block k (Mr aB (Mw I.size J.size)) (fun e=>by have:=(gG an k e.symm).1;omega)).trans ea;exact(Mx _ _ _ _ (by show k≠sb;omega)).trans e8
  have e0:w8.cell? ⟨sb,0,none⟩=some (xa so ms.length sc):=cell_of_blk R 0;have ef:=fi R 0;clear aC ad J ak an ar aE R aq aD;go_wp2;go_ret;refine⟨by rw[ao.out];rfl, ?_,aP⟩;rw[ao.out];exact⟨_,_,_,aH⟩
theorem nD{e size:Nat}(h:w.ownsRow base e size v n xs)(I: ∀b c,v.ownBlock=some b->w.heap[b]? =some (xi c e (0,0))->w'.heap[b]? =w.heap[b]?):w'.ownsRow base e size v n xs:=by
 refine⟨h.1, ?_⟩;rcases h.2 with h2|⟨g,cap,cur,hv,hg,hh,r⟩
 ·simp_all
 exact MM ⟨g,cap,cur,hv,hg,(I g cur (by rw[hv];rfl) hh).trans hh,r⟩
theorem TbW.keepTy(h:TbW w base A F X t rv)(J: ∀(k:Nat) (c:Array Value) (ty:Nat),w.heap[k]? =some (xi c ty (0,0))->ty=9\/ty=3\/ty=33->w'.heap[k]? =w.heap[k]?):TbW w' base A F X t rv:=by
 refine⟨nD h.acts (fun b c _ I=>J b c _ I (MU rfl)),nD h.fl (fun b c _ I=>J b c _ I (MM (MU rfl))),nD h.nx (fun b c _ I=>J b c _ I (MM (MM rfl))),fun j r hr=> ?_,h.rf,h.rr⟩;obtain⟨g,c,R,U⟩:=h.rows j r hr;exact⟨g,c,R,nD U (fun b c _ I=>J b c _ I (MM (MU rfl)))⟩
theorem TbW.cell(h:TbW w base A F X t rv){g:Nat}(hg:w.heap[g]? =some (xi c 3 (0,0)))(hF:F.ownBlock≠some g)(hV: ∀v∈rv,v.ownBlock≠some g)(i:Nat)(v:Value):TbW (w.setCell ⟨g,i,none⟩ v) base A F X t rv:=by
 have key: ∀b,b≠g->(w.setCell ⟨g,i,none⟩ v).heap[b]? =w.heap[b]? :=fun b I=>Mx _ _ _ _ I
 have J: ∀{b ty:Nat} {U:Array Value},w.heap[b]? =some (xi U ty (0,0))->ty≠3->b≠g:=fun {b ty U} I hne e=>by
  simp_all
 refine⟨nD h.acts (fun b c _ I=>key b (J I zp)),nD h.fl (fun b c e I=>key b (fun R=>hF (R▸e))),nD h.nx (fun b c _ I=>key b (J I zp)),fun j r hr=> ?_,h.rf,h.rr⟩;obtain⟨g2,c2,h1,h2⟩:=h.rows j r hr;exact⟨g2,c2,h1,nD h2 (fun b c e I=>key b (fun R=>hV _ (List.mem_of_getElem? h1) (R▸e)))⟩
theorem TbW.lt(h:TbW w base A F X t rv){g:Nat}(hg:w.heap.size<=g):F.ownBlock≠some g/\ ∀v∈rv,v.ownBlock≠some g:=by
 refine⟨fun e=> ?_,fun v hv e=> ?_⟩
 ·have:=(gG h.fl g e).2;omega
 obtain⟨j,R⟩:=List.mem_iff_getElem?.1 hv;have I:j<t.nx.length:=by have:=(List.getElem?_eq_some_iff.1 R).1;have:=h.rl;omega
 obtain⟨g2,c,J,U⟩:=h.rows j _ (Mt I);rw[R] at J;cases J;have:=(gG U g e).2;omega
structure CT (V W:World) (sb mb tb:Nat) (so:Option Addr) (sc:Nat) (ms:List (List Bool)) (D:DataW Unit) (A F X:Value) (t:Tb) (rv:List Value):Prop where
 st:StB W V.heap.size sb mb so sc ms D
 tbk:W.heap[tb]? =some (xi #[A,F,X] 36 (0,0))
 htb:V.heap.size<=tb
 tab:TbW W V.heap.size A F X t rv
 bel:Below V.heap.size V W
theorem CT.later(h:CT V W sb mb tb so sc ms D A F X t rv)(I:Below W.heap.size W W'):CT V W' sb mb tb so sc ms D A F X t rv:=
 ⟨h.st.later I,(I.block _ (fh h.tbk)).trans h.tbk,h.htb,h.tab.later I,h.bel.trans (I.mono h.bel.size)⟩
theorem CT.numbered(h:CT V W sb mb tb so sc ms D A F X t rv)(hs:StB W' V.heap.size sb mb so' sc' ms' D')(hf:FrS V.heap.size W W'):CT V W' sb mb tb so' sc' ms' D' A F X t rv:=
 ⟨hs,(hf.ty _ _ _ _ h.tbk zp zp).trans h.tbk,h.htb,h.tab.keepTy (fun k c ty I hty=>hf.ty k c ty _ I zo zo),
  ⟨hf.os.trans h.bel.os,hf.tape.trans h.bel.tape,hf.output.trans h.bel.output,Mw h.bel.size hf.size,fun k I=>(hf.low k I).trans (h.bel.block k I)⟩⟩
theorem CT.cell(h:CT V W sb mb tb so sc ms D A F X t rv){g:Nat}(hg:W.heap[g]? =some (xi c 3 (0,0)))(J:F.ownBlock≠some g)(R: ∀v∈rv,v.ownBlock≠some g)(hgV:V.heap.size<=g)(i:Nat)(v:Value):CT V (W.setCell ⟨g,i,none⟩ v) sb mb tb so sc ms D A F X t rv:=by
 refine⟨h.st.other (fK W g i v) (fun b I=>by cases I;exact⟨c,_,_,hg,zp,zp⟩),(Mx _ _ _ _ (fun e=> ?_)).trans h.tbk,h.htb,h.tab.cell hg J R i v,h.bel.grown (fK W g i v) h.bel.size (fun b I=>za)⟩;have e':=e;have:=h.tbk;simp_all
theorem CT.grow{A' F' X' Y:Value}{t':Tb}(h:CT V W sb mb tb so sc ms D A F X t rv){e:Nat}(J:W.ownsRow V.heap.size e 1 Y n xs)(hg:W.grownBy W' Y.ownBlock)(he:e=9\/e=3\/e=33)
  (ht:TbW W' V.heap.size A' F' X' t' rv')(i:Nat)(v:Value)(hc:(#[A,F,X]:Array Value).setIfInBounds i v= #[A',F',X']):CT V (W'.setCell ⟨tb,i,none⟩ v) sb mb tb so sc ms D A' F' X' t' rv':=by
 have U:=h.st.other hg (fun b hb=>by
  obtain⟨c,R⟩:=ja J hb;exact⟨c,e,_,R,by rcases he with rfl|rfl|rfl<;>decide,by rcases he with rfl|rfl|rfl<;>decide⟩)
 have hblk:=(hg.block _ (fh h.tbk) (fun e1=>gp J e1.symm h.tbk zo)).trans h.tbk;have I:=h.bel.grown hg h.bel.size (fun b hb=>(gG J b hb).1);refine⟨U.other (fK _ _ _ _) (fun b hb=>by cases hb;exact⟨_,_,_,hblk,zp,zp⟩), ?_,h.htb,ht.other (fK _ _ _ _) (fun b hb c m=> ?_),I.grown (fK _ _ _ _) I.size (fun b hb=>by cases hb;exact h.htb)⟩
 ·have:=fj hblk i v;simp_all
 exact zm154
theorem Tryz.infoIntT:(prog.info? 3).map (fun i=>(i.zero,i.size,i.bytes))=some (some (xd xh 0),1,8):=zk
theorem Bv{tw:List (List Nat)}{acts:List Nat}{k:Nat}(h:Bfs (setB tw) acts s0 k ms rows)(h0:s0.length=tw.length): ∀b∈ms,b.length=tw.length:=fun b J=>by
 obtain⟨j,I⟩:=List.mem_iff_getElem?.1 J;cases j with
 |zero=>
  rw[h.first] at I;simp_all
 |succ j=>
  obtain⟨_,_,_,_,_,a,_,e⟩:=h.met j b I;rw[e];unfold setB;simp
theorem D8[DecidableEq π]{ah:π->Nat->π}{p0:π}{l:List π}{tw:List (List Nat)}(h:Bfs ah (Ms n) p0 l.length l tw): ∀r∈tw,r.length=n/\ ∀x∈r,x<tw.length:=fun r hr=>by
 obtain⟨i,hi⟩:=List.mem_iff_getElem?.1 hr;have htl:=h.len;have I:i<l.length:=by have:=(List.getElem?_eq_some_iff.1 hi).1;omega
 obtain⟨r',U,r2,r3⟩:=h.row i l[i] I (Mt I);rw[hi] at U;cases U;rw[List.length_range] at r2;refine⟨r2,fun x hx=> ?_⟩;obtain⟨q,R⟩:=List.mem_iff_getElem?.1 hx;have J:q<n:=by have:=(List.getElem?_eq_some_iff.1 R).1;omega
 obtain⟨m,m1,m2⟩:=r3 q q (List.getElem?_range J);rw[R] at m1;cases m1;have:=(List.getElem?_eq_some_iff.1 m2).1;omega
theorem Ep(al:List Tk)(rs:List Rl)(hM:MGood al rs)(a1:Option Addr)(a3:Nat)(m1:Option Addr)(m2 m3:Nat)(cells:List Value)(ha:w.ownsRow 0 9 1 (xa a1 al.length a3) al.length (kE al))(hr:w.ownsRow 0 144 3 (xa m1 m2 m3) rs.length cells)(hp:BuP w rs cells)(h6:al.length<=6):
  Calls prog 43 #[.agg #[xa a1 al.length a3,xa m1 m2 m3]] w fun e w'=> ∃o,nN al rs o/\oZ okB w o w' e:=by
 have hB:Below w.heap.size w ((w.alloc (xi #[xa a1 al.length a3,xa m1 m2 m3] 78)).alloc (xi #[xa none 0 0,xa none 0 0,xa none 0 0] 36)):=gz.alloc zp _;have bo:=fa (vB al rs hM a1 a3 m1 m2 m3 cells (fL ha hB) (fL hr hB) (hp.keep (KB.below hB)) h6);have b7:=fa (fL ha hB);have a8:Hid (((w.alloc (xi #[xa a1 al.length a3,xa m1 m2 m3] 78)).alloc (xi #[xa none 0 0,xa none 0 0,xa none 0 0] 36)).heap[w.heap.size]? =some (xi #[xa a1 al.length a3,xa m1 m2 m3] 78 (0,0))):=(MQ _ _ _ zp).trans (ft _ _);have a':Hid (((w.alloc (xi #[xa a1 al.length a3,xa m1 m2 m3] 78)).alloc (xi #[xa none 0 0,xa none 0 0,xa none 0 0] 36)).heap[w.heap.size+1]? =some (xi #[xa none 0 0,xa none 0 0,xa none 0 0] 36 (0,0))):=fk _ _ _ zp;have HB:=fa hB;have HM:=fa hM;have hmm:= @run_makeMap prog;have hne:1<=al.length:=by
  cases hc:al with
  |nil=>exact absurd hc hM.ne
  |cons _ _=>simp
 clear ha hr hp hB hM;go_in;go_wp2_with fail;refine bo.out.mono ?_;generalize ((w.alloc (xi #[xa a1 al.length a3,xa m1 m2 m3] 78)).alloc (xi #[xa none 0 0,xa none 0 0,xa none 0 0] 36))=W0 at *;rintro e w1 ⟨l,tw,ro,rc,rfl,ax,bE,ak,hlf⟩;have aC:=iz w1 (xi #[xa ro tw.length rc,xj (gH (l.map (keepP (gY rs [] 0))))] 153);have aI:=fa (HB.out.trans ((ak.trans (aC.mono ak.size)).mono HB.out.size));have bK:=fa (fL (fL b7.out ak) aC);have aK:=fa ((aC.block _ (Mr (fh a8.out) ak.size)).trans ((ak.block _ (fh a8.out)).trans a8.out));have ba:=fa ((aC.block _ (Mr (fh a'.out) ak.size)).trans ((ak.block _ (fh a'.out)).trans a'.out));have b8:=fa (ft w1 (xi #[xa ro tw.length rc,xj (gH (l.map (keepP (gY rs [] 0))))] 153));have c3:=fa (bE.later aC);have HBFS:=fa ax;have aE:tw.length<=131072:=by have:=ax.len;omega
 have bF:(l.map (keepP (gY rs [] 0))).length=tw.length:=by rw[MK];exact ax.len.symm
 have cq:=fa bF;have cu:=fa (D8 ax);clear ax bE ak aC bF bo b7 a8 a' HB;go_wp2_with fail;generalize hV:w1.alloc (xi #[xa ro tw.length rc,xj (gH (l.map (keepP (gY rs [] 0))))] 153)=V at *;have bS:V.heap.size=w1.heap.size+1:=by rw[<-hV];simp
 have br:Hid (StB ((V.alloc (.map #[] 0)).alloc (xi #[xa none 0 0,.map (some (w1.heap.size+1))] 158)) V.heap.size (w1.heap.size+2) (w1.heap.size+1) none 0 [] (.map [])):=by
  have aU:=MV (H:=Unit) V prog 151 (plainElem prog 3);rw[bS] at aU;exact⟨fk _ _ _ za,ML _ _ _ _,aU.kept (World.grownBy_alloc _ _ none) zp,NumM.nil uF,zo,zo⟩
 have ay:Below V.heap.size V ((V.alloc (.map #[] 0)).alloc (xi #[xa none 0 0,.map (some (w1.heap.size+1))] 158)):=gz.alloc zp _;have cv:=fa bS;have bG:(l.map (keepP (gY rs [] 0))).length<=1000000:=by rw[cq.out];omega
 refine(uQ _ V.heap.size _ _ none 0 [] (.map []) (l.map (keepP (gY rs [] 0))) br.out bG zp ay.size).mono ?_;rintro e w3 ⟨rfl,⟨so,sc,D,cT⟩,aD⟩;have aM:Below V.heap.size V w3:=⟨aD.os.trans ay.os,aD.tape.trans ay.tape,aD.output.trans ay.output,Mw ay.size aD.size,fun k hk=>(aD.low k hk).trans (ay.block k hk)⟩;have bH:StB w3 V.heap.size (w1.heap.size+2) (w1.heap.size+1) so sc [l.map (keepP (gY rs [] 0))] D:=cT;have cr:=fa bH;have a6:=fa aM;have aV:=(aM.block _ (fh aK.out)).trans aK.out;have mc:=cell_of_blk aV;have ml:=fh aV;have HNAM:=fa bK.out;obtain⟨ab,cB,cC,_⟩:=hD (fL bK.out aM) (show 0<al.length from zo);have ca:=fa (Tryz.slices_Clone_string ab 0 al.length a3 (al.map (·.s)) w3 zp zo (fun j hj=>by
  have cG:j<al.length:=za;obtain⟨b',h1,_,h3⟩:=hD (fL bK aM) cG;rw[cB] at h1;cases h1;rw[MP,h3,C3 cG];unfold oJ;simp_all))
 subst cB;clear cT bH aD aM aV ay br bG hV cC bS;go_wp2_with fail;refine ca.out.mono ?_;rintro e w4 ⟨va,rfl,bf,_,bU⟩;obtain⟨ae,ag,rfl⟩:=iw bf;have cJ:(al.map (·.s)).take al.length=al.map (·.s):=by rw[MI zp]
 rw[cJ] at bf;have dp:(al.map (·.s)).length=al.length:=zp;have aw:=iz w4 (xi #[xa ae al.length ag,xa none 0 0,xa none 0 0] 36);have cb:Hid (CT V (w4.alloc (xi #[xa ae al.length ag,xa none 0 0,xa none 0 0] 36)) (w1.heap.size+2) (w1.heap.size+1) w4.heap.size so sc [l.map (keepP (gY rs [] 0))] D (xa ae al.length ag) (xa none 0 0) (xa none 0 0) ⟨al.map (·.s),[],[]⟩ []):=by
  have aN:=a6.trans (bU.mono a6.size);refine⟨(cr.later bU).later aw,ft _ _,aN.size,⟨?_,ML _ _ _ _,ML _ _ _ _,fun j r hr=>zv,fun v hv=>zv,List.Pairwise.nil⟩,aN.trans (aw.mono aN.size)⟩;have:=ig (fL bf aw) a6.size;show World.ownsRow _ _ _ _ _ (al.map (·.s)).length _;rw[dp];exact this
 clear bf bU aw cJ ca cr a6 mc ml;go_wp2_with fail;generalize w4.alloc (xi #[xa ae al.length ag,xa none 0 0,xa none 0 0] 36)=w5 at *;generalize w4.heap.size=tb at *;have hsb:V.heap.size<=w1.heap.size+2:=by have:=cv.out;omega
 have bW:w1.heap.size<V.heap.size:=by have:=cv.out;omega
 generalize hsbe:w1.heap.size+2=sb at *;generalize hmbe:w1.heap.size+1=mb at *;generalize hs0e:l.map (keepP (gY rs [] 0))=s0 at *;generalize hname:al.map (·.s)=names at *;have bq:=fa hs0e;have bN:=fa hname;clear hsbe hmbe hs0e hname;have hmk:=fun W:World=>A4 W al.length zo
 obtain⟨i0,dd,dv,dw,dx⟩:=info_parts Tryz.infoIntT;obtain⟨r0,dq,cQ,cR,cS⟩:=info_parts Tryz.infoRowP
 go_loopw [7] (fun x wr=> ∃(k:Nat) (so:Option Addr) (sc:Nat) (ms:List (List Bool)) (D:DataW Unit) (fo:Option Addr) (fc:Nat) (xo:Option Addr) (xc:Nat) (rows:List (List Nat)) (rv:List Value),x=xd xh k/\Hid (CT V wr sb mb tb so sc ms D (xa ae al.length ag) (xa fo k fc) (xa xo k xc) ⟨names,(ms.take k).map jN,rows⟩ rv)/\Hid (Bfs (setB tw) (Ms al.length) s0 k ms rows)/\ms.length<=100/\Hid (jU (setB tw) (Ms al.length) 100 102 0 [s0] []=jU (setB tw) (Ms al.length) 100 (102 - k) k ms rows)) (fun x _=>101 - (intOf x).toNat)
 ·exact⟨0,so,sc,[s0],D,none,0,none,0,[],[],rfl,cb,Bfs.start _ _ _,zp,rfl⟩
 obtain⟨k,so,sc,ms,D,fo,fc,xo,xc,rows,rv,rfl,ad,a7,hms,HEQ⟩:=hrel;have hkm:=a7.le;have cO:=a7.len;have c2:=fa cO;have I:=ad.bel;have dj:wr.cell? ⟨w.heap.size,0,none⟩=some (xa (some ⟨ab,0,none⟩) al.length a3):=(bcell3 I _ _ (fh aK)).trans (cell_of_blk aK 0);have dm:=Mr (fh aK) I.size;have aW:wr.cell? ⟨sb,0,none⟩=some (xa so ms.length sc):=cell_of_blk ad.st.blk 0;have aX:=fh ad.st.blk;clear cO;rcases zc k ms.length with⟨hlt,hkn⟩|⟨hlt,hkn⟩
 ·obtain⟨pb,di,cL,cM⟩:=hD ad.st.own hlt;have cN:wr.cell? ⟨pb,k,none⟩=some (xj (gH ms[k])):=cM.trans (by unfold lN;simp_all);have HX:=fa (Mt hlt);have bu:=Bv a7 cq _ (MZ hlt);have bj:=fa bu;subst di;generalize ms[k]=bs at *;have cD:(wr.alloc (xi (Array.replicate al.length (xd xh 0)) 3)).heap[wr.heap.size]? =some (xi (kR (jJ [] al.length 0)) 3 (0,0)):=by
   exact zm170
  have cc:=fa (ad.later ((MG _ _).alloc (MC _) (xi (Array.replicate al.length (xd xh 0)) 3)));have cA:=ad.bel.size;obtain⟨cw,cz⟩:=ad.tab.lt (MC wr.heap.size);have cj:=fa cw;have cn:=fa cz;have cZ:=fa cD;clear cD I cM cw cz bu;go_wp2_with fail;clear dj dm aW aX cN cL;generalize wr.alloc (xi (Array.replicate al.length (xd xh 0)) 3)=wA at *;generalize wr.heap.size=g at *
  rename World=>wR
  go_loopw [40] (fun x wq=> ∃(j:Nat) (so:Option Addr) (sc:Nat) (M:List (List Bool)) (D:DataW Unit) (q:List Nat),j<=al.length/\x=xd xh j/\Hid (CT V wq sb mb tb so sc M D (xa ae al.length ag) (xa fo k fc) (xa xo k xc) ⟨names,(ms.take k).map jN,rows⟩ rv)/\Hid (wq.heap[g]? =some (xi (kR (jJ q al.length j)) 3 (0,0)))/\Hid (jh (setB tw) bs (Ms j) ms=(M,q))) (fun x _=>al.length - (intOf x).toNat)
  ·exact⟨0,_,_,ms,D,[],Nat.zero_le _,rfl,cc,cZ,rfl⟩
  obtain⟨j,b5,b4,M,D2,q,hj,rfl,R,bL,HRN⟩:=hrel;have aY:=nF (setB tw) bs (Ms j) ms;rw[HRN.out] at aY;obtain⟨⟨xs,cy,_⟩,az,_,_⟩:=aY;have hMle:M.length<=ms.length+j:=by
   have:=rB (setB tw) bs (Ms j) ms;exact zm138
  have bC:q.length=j:=za;have HQL:=fa bC;have c1:=fa cy;clear az bC cy;rcases zc j al.length with⟨hjl,hjn⟩|⟨hjl,hjn⟩
  ·have I:=R.bel;have c8:wr.cell? ⟨w1.heap.size,0,none⟩=some (xa ro tw.length rc):=(bcell3 I _ _ bW).trans (cell_of_blk b8 0);have ak:wr.cell? ⟨w1.heap.size,1,none⟩=some (xj (gH s0)):=(bcell3 I _ _ bW).trans (cell_of_blk b8 1);have c9:=Mr bW I.size;have bh:=fa (Dj wr ro rc tw (gH s0) bs j (c3.later I) zo (fun r hr=>⟨by rw[(cu.out r hr).1];omega,fun x hx=>by rw[bj.out];exact(cu r hr).2 x hx⟩));have ct:Hid (jh (setB tw) bs (Ms (j+1)) ms=((jr M (setB tw bs j)).1,q++[(jr M (setB tw bs j)).2])):=by
    exact zm124
   have bZ:(setB tw bs j).length<=1000000:=by unfold setB;rw[MK];omega
   clear I;generalize setB tw bs j=b2 at *;go_wp2_with fail;refine bh.mono ?_;rintro e w6 ⟨rfl,bV⟩;have aJ:=fa (R.later bV);have bm:=fa ((bV.block _ (fh bL)).trans bL);clear bV c8 ak c9 bh;go_wp2_with fail;refine(uQ w6 V.heap.size sb mb b5 b4 M D2 b2 aJ.st bZ zo aJ.bel.size).mono ?_;rintro e w7 ⟨rfl,⟨dC,dB,D4,bI⟩,aR⟩;have cd:=fa (aJ.numbered bI aR);have ao:=(aR.ty _ _ _ _ bm zp zp).trans bm;generalize (jr M b2).2=i at *;generalize (jr M b2).1=M4 at *;have cF:=fh ao;have gf:=fi ao j;have cH:=qE (by rw[HQL.out];simp) hj;obtain⟨y0,cV⟩: ∃y0,(jJ q al.length j)[j]? =some y0:=⟨_,Mt zo⟩;have gc:=(cell_of_blk ao j).trans (rA cV);have cg:=fa (cd.cell ao cj cn cA j (xd xh (i:Int)));have cm:Hid ((w7.setCell ⟨g,j,none⟩ (xd xh (i:Int))).heap[g]? =some (xi (kR (jJ (q++[i]) al.length (j+1))) 3 (0,0))):=by
    have:=fj ao j (xd xh (i:Int));exact zm133
   clear cV cH ao bI aR;go_wp2
   go_roundw
   ·exact⟨j+1,dC,dB,M4,D4,q++[i],zo,zf,cg,cm,ct⟩
   simp[intOf];omega
  have de:j=al.length:=zo;subst de;have bt:jJ q al.length al.length=q:=by unfold jJ;rw[MI (by rw[HQL.out];simp)];simp
  have bY:=bL.out;rw[bt] at bY;have bM:=fa bY;have I:=R.bel;have aW:wr.cell? ⟨sb,0,none⟩=some (xa b5 M.length b4):=cell_of_blk R.st.blk 0;have aX:=fh R.st.blk;have J:=(I.block _ (fh ba)).trans ba;obtain⟨n2,hn2⟩: ∃n2,102 - k=n2+1:=⟨101 - k,zo⟩;clear bt bY;rcases zc 100 M.length with⟨hbig,hbi⟩|⟨hbig,hbi⟩
  ·have bO:Hid (jU (setB tw) (Ms al.length) 100 102 0 [s0] []=none):=by
    show _=_;rw[HEQ.out,hn2];exact Ah HX (by rw[HRN.out];omega)
   have aA:=fa J;have aH:=fa I;have dy:=cell_of_blk J;have dz:=fi J;have dA:=fh J;clear I J hn2;go_wp2_with fail;change bodyPost _ _ _ _ _ (iV wr (w.heap.size+1) (xa none 0 0) (xa none 0 0) (xa none 0 0));have aQ:=iZ aA (xa none 0 0) (xa none 0 0) (xa none 0 0);have bX:=iR (aI.trans (aH.mono aI.size)) (show w.heap.size<=w.heap.size+1 from zo) (xa none 0 0) (xa none 0 0) (xa none 0 0);generalize iV wr (w.heap.size+1) (xa none 0 0) (xa none 0 0) (xa none 0 0)=wf at *;have bQ:=cell_of_blk aQ;refine bodyPost_ret (v:= .tuple #[.agg #[xa none 0 0,xa none 0 0,xa none 0 0],xn false]) (by simp[results,results43,go_sem,bQ]) rfl ?_;refine⟨none,⟨l,tw, ?_, ?_⟩,bX,rfl⟩
   ·exact zm163
   rw[MK,bq.out,bO.out];rfl
  have ch:Hid (jU (setB tw) (Ms al.length) 100 102 0 [s0] []=jU (setB tw) (Ms al.length) 100 (102 - (k+1)) (k+1) M (rows++[q])):=by
   exact zm162
  have b9:Hid (Bfs (setB tw) (Ms al.length) s0 (k+1) M (rows++[q])):=by
   have:=a7.step HX;rw[HRN.out] at this;exact this
  have cx:(M.take (k+1)).map jN=(ms.take k).map jN++[jN bs]:=by
   rw[show M=ms++xs from c1.out,List.take_append_of_le_length zo,List.take_add_one,HX.out,List.map_append];rfl
  have c0:=fa cx;have aO:bs≠[]:=fun e=>by
   have h1:=bj.out;have h2:=(List.getElem?_eq_some_iff.1 HBFS.first).1;have h3:=HBFS.len;simp_all
  have ck:=fa (fun W=>EV bs aO W);have hfl3:=EU bs;clear I J hn2 cx aO;go_wp2_with fail;clear aW aX;refine wp_region_any zk ?_;change wpAny _ _ _ _ _ _ _ (World.drew _);apply zt0 0 (xk (some ⟨tb,1,none⟩));apply zt0 2 (xj (gH bs));have aB:=fa (R.later (W':=wr.drew) ((MG _ _).drew));refine(fun hG=> ?main) (?suf:(?G:Prop))
  case main=>
   refine zr2 1 3 (fun K hK=> ?_) fun K hK=> ?_
   ·have aP:MY _ ⟨tb,1,none⟩=some (xa fo k fc):=cell_of_blk aB.tbk 1;have aE:=fh aB.tbk;go_simp;refine hK _ _ ?_;clear hK K
    try simp only[Act.put,Mu,ME,MF,MD,My,Mz]
    clear aP aE;apply zr 3;intro K hK;go_simp;refine(ck _).mono ?_;rintro e w8 ⟨rfl,b3⟩;subst b3;refine hK _ _ ?_;clear hK K
    try simp only[Act.put,Mu,ME,MF,MD,My,Mz]
    exact zm71
   go_simp;refine(ck _).mono ?_;rintro e w8 ⟨rfl,b3⟩;subst b3;refine hK _ _ ?_;clear hK K
   try simp only[Act.put,Mu,ME,MF,MD,My,Mz]
   refine zr2 1 4 (fun K hK=> ?_) fun K hK=> ?_
   ·have aP:MY _ ⟨tb,1,none⟩=some (xa fo k fc):=cell_of_blk aB.tbk 1;have aE:=fh aB.tbk;go_simp;refine hK _ _ ?_;clear hK K
    try simp only[Act.put,Mu,ME,MF,MD,My,Mz]
    clear aP aE;exact zm71
   go_simp;refine hK _ _ ?_;clear hK K
   try simp only[Act.put,Mu,ME,MF,MD,My,Mz]
   apply zr 1;intro K hK;have aP:MY _ ⟨tb,1,none⟩=some (xa fo k fc):=cell_of_blk (R.later ((MG _ _).alloc (MC _) (xi #[xd xh (jN bs:Int)] 3))).tbk 1;have aE:=fh (R.later ((MG _ _).alloc (MC _) (xi #[xd xh (jN bs:Int)] 3))).tbk;go_simp;refine hK _ _ ?_;clear hK K
   try simp only[Act.put,Mu,ME,MF,MD,My,Mz]
   clear aP aE;exact hG
  have cI:((ms.take k).map jN).length=k:=by rw[MK,List.length_take];omega
  have c6:=R.bel.size;apply zr 5;intro K hK;refine step_append_lies _ zf _ _ 33 zf V.heap.size 3 i0 (xd xh 0) 1 8 underlying33 dd dv dw dx rfl zp (xa fo k fc) k (gU ((ms.take k).map jN)) zf ?d0 ⟨wr.heap.size,0,none⟩ 1 1 [xd xh (jN bs:Int)] zf rfl ?d1 ?d2 zp ?d3 ?d4 ?d5 (wr.heap.size+1) ?d6 ?_
  case d0=>have:=aB.tab.fl;simp only[cI] at this;exact this.alloc _
  case d1=>
   intro j u hj
   match j,hj with
   |0,hj=>simp at hj;subst hj;simp[Addr.add]
   |j+1,hj=>simp at hj
  case d2=>intro u hu;simp at hu;subst hu;rfl
  case d3=>unfold maxLen;omega
  case d4=>omega
  case d5=>simp;omega
  case d6=>simp
  intro g5 an bg bB aT bT cF;have aj:=aB.later ((MG _ _).alloc (MC _) (xi #[xd xh (jN bs:Int)] 3));have aa:(wr.drew.alloc (xi #[xd xh (jN bs:Int)] 3)).grownBy bg (xa fo k fc).ownBlock:=aT;have aq:=aj.tab.flag (F':= xa (some ⟨g5,0,none⟩) (k+1) an) (f:=jN bs) (by simp only[cI];exact bB) aa rfl (bT.imp id (fun h=>zs));have U:=(aa.block tb (fh aj.tbk) (fun e=>gp aj.tab.fl e.symm aj.tbk zp)).trans aj.tbk;have au:=fa (aj.grow aj.tab.fl aa (MM (MU rfl)) aq 1 (xa (some ⟨g5,0,none⟩) (k+1) an) rfl);have aS:=((((MG _ _).drew).trans (((MG wr.drew.heap.size wr.drew).alloc (MC _) (xi #[xd xh (jN bs:Int)] 3)).mono (MC _))).block g (fh bM)).trans bM;have cE: ∀v,(xa fo k fc).ownBlock=some v->g≠v:=fun v hv e=>cj (e▸hv)
  have bx:=(aa.block g (fh aS) (fun e=>cE g e.symm rfl)).trans aS;have bA:g≠tb:=fun e=>by
   simp_all
  have bn:=fa ((Mx bg ⟨tb,1,none⟩ (xa (some ⟨g5,0,none⟩) (k+1) an) g bA).trans bx);have bw:(xa (some ⟨g5,0,none⟩) (k+1) an).ownBlock≠some g:=fun e=>by
   have e':g5=g:=Option.some.inj e;rcases bT with h|h
   ·simp_all
   have:=fh bM;omega
  have cl:=fa bw;have c':bg.cell? ⟨tb,1,none⟩=some (xa fo k fc):=cell_of_blk U 1;have da:=fi U 1;have dh:=fh U;refine hK _ _ ?_;clear hK K aj aq U bB aT aa bT cF aS cE bx bA bw
  try simp only[Act.put,Mu,ME,MF,MD,My,Mz]
  apply zt0 6 (xk (some ⟨tb,1,none⟩));apply zr 7;intro K hK;go_simp;refine hK _ _ ?_;clear hK K c' da dh c6;refine wpAny_done zk ?_ _;generalize bg.setCell ⟨tb,1,none⟩ (xa (some ⟨g5,0,none⟩) (k+1) an)=w8 at *;have dt:w8.cell? ⟨tb,2,none⟩=some (xa xo k xc):=cell_of_blk au.tbk 2;have du:=fh au.tbk;have hV8:=au.bel.size;have bD:=c2.out;have cp:=fa bD;clear bD
  go_wp2_with (at_builtin;go_must (refine wpList_append_lies _ rfl _ _ 34 rfl V.heap.size 33 r0 (xa none 0 0) 1 24 underlying34 dq cQ cR cS rfl zp _ k rv rfl ?e0 ⟨w8.heap.size,0,none⟩ 1 1 [xa (some ⟨g,0,none⟩) al.length al.length] rfl rfl ?e1 ?e2 zp ?e3 ?e4 ?e5 (w8.heap.size+1) ?e6 ?_))
  case e0=>have:=au.tab.nx;simp only[cp.out] at this;exact this.alloc _
  case e2=>rfl
  case e3=>unfold maxLen;omega
  case e4=>omega
  case e5=>omega
  intro g9 aL w9 cK bc _ _;have aw:=iz w8 (xi #[xa (some ⟨g,0,none⟩) al.length al.length] 33);have ai:=au.later aw;have bz:=(aw.block _ (fh bn)).trans bn;have az:=HQL.out;have cP:=y8 (base:=V.heap.size) bz cA az zo;have aq:=ai.tab.row (X':= xa (some ⟨g9,0,none⟩) (k+1) aL) (g:=g) (c:=al.length) (r:=q) (by rw[az];exact cP) cl cn (by simp only[cp.out,az];exact cK) bc;rw[az] at aq;have U:=(bc.block tb (fh ai.tbk) (fun e=>gp ai.tab.nx e.symm ai.tbk zp)).trans ai.tbk;have bl:=fa (ai.grow ai.tab.nx bc (MM (MM rfl)) aq 2 (xa (some ⟨g9,0,none⟩) (k+1) aL) rfl);rw[<-c0.out] at bl;have hc9:w9.cell? ⟨tb,2,none⟩=some (xa xo k xc):=cell_of_blk U 2;have hf9:=fi U 2;have hl9:=fh U;have hk99:k<100:=zo;clear cK bc aw ai bz az cP aq U dt du;go_wp2
  go_roundw
  ·exact⟨k+1,b5,b4,M,D2,some ⟨g5,0,none⟩,an,some ⟨g9,0,none⟩,aL,rows++[q],_,zf,bl,b9,zo,ch⟩
  simp[intOf];omega
 have df:k=ms.length:=zo;have bP:Hid (jU (setB tw) (Ms al.length) 100 102 0 [s0] []=some (ms,rows)):=by
  exact zm152
 have cU:ms.take k=ms:=MI zo;rw[cU] at ad;have J:=(I.block _ (fh ba)).trans ba;have aA:=fa J;have aH:=fa I;have dy:=cell_of_blk J;have dz:=fi J;have dA:=fh J;have tc0:wr.cell? ⟨tb,0,none⟩=some (xa ae al.length ag):=cell_of_blk ad.tbk 0;have tc1:wr.cell? ⟨tb,1,none⟩=some (xa fo k fc):=cell_of_blk ad.tbk 1;have tc2:wr.cell? ⟨tb,2,none⟩=some (xa xo k xc):=cell_of_blk ad.tbk 2;have tl:=fh ad.tbk;clear I J df cU;go_wp2_with fail;change bodyPost _ _ _ _ _ (iV wr (w.heap.size+1) (xa ae al.length ag) (xa fo k fc) (xa xo k xc));have aQ:=iZ aA (xa ae al.length ag) (xa fo k fc) (xa xo k xc);have bX:=iR (aI.trans (aH.mono aI.size)) (show w.heap.size<=w.heap.size+1 from zo) (xa ae al.length ag) (xa fo k fc) (xa xo k xc);have dr:=nw aA ad.tab (A':= xa ae al.length ag) (F':= xa fo k fc) (X':= xa xo k xc);generalize iV wr (w.heap.size+1) (xa ae al.length ag) (xa fo k fc) (xa xo k xc)=wf at *;have bQ:=cell_of_blk aQ;refine bodyPost_ret (v:= .tuple #[.agg #[xa ae al.length ag,xa fo k fc,xa xo k xc],xn true]) (by simp[results,results43,go_sem,bQ]) rfl ?_;refine⟨some ⟨names,ms.map jN,rows⟩,⟨l,tw, ?_, ?_⟩,bX,_,_,_,rv,rfl,dr.mono aI.size⟩
 ·exact zm163
 rw[MK,bq.out,bP.out,bN.out];rfl
def Fj:List Value->Value
 |[]=> xd xh 5
 |_=> xd xh 0
def CmpP(s:ByteArray)(w w':World)(e:Ending):Prop:=
 match iy s with
 | .error x=>Below w.heap.size w w'/\e=xm (.tuple #[.agg #[xa none 0 0,xa none 0 0,xa none 0 0],xd xh x.2])
 | .ok (al,rs)=> ∃o,nN al rs o/\oZ Fj w o w' e
theorem CmpP.err{s:ByteArray}(h:iy s= .error x)(I:Below w.heap.size w w')(he:e=xm (.tuple #[.agg #[xa none 0 0,xa none 0 0,xa none 0 0],xd xh x.2])):CmpP s w w' e:=by
 unfold CmpP;rw[h];exact⟨I,he⟩
theorem CmpP.ok{s:ByteArray}(h:iy s= .ok (al,rs))(ho:nN al rs o)(I:oZ Fj w o w' e):CmpP s w w' e:=by
 unfold CmpP;rw[h];exact⟨o,ho,I⟩
theorem BM(s:ByteArray)(w:World)(hG:GV w):
  Calls prog 17 #[xj s] w fun e w'=>CmpP s w w' e:=by
 have aD:=iz w (xi #[xa none 0 0,xa none 0 0,xa none 0 0] 36);have aM:=fa (H8 s (hG.later aD));have aF:=fa aD;have aB:=fa (ft w (xi #[xa none 0 0,xa none 0 0,xa none 0 0] 36));clear hG aD;go_in;go_wp2_with fail;refine aM.out.mono ?_;generalize hW:w.alloc (xi #[xa none 0 0,xa none 0 0,xa none 0 0] 36)=W at *;clear hW;rintro e w1 ⟨az,hm⟩;have aa:=(az.block _ (fh aB.out)).trans aB.out;have ax:=fa (aF.out.trans (az.mono aF.out.size));cases hr:iy s with
 |error x=>
  rw[hr] at hm;have aR:=oM hr;have HX:=fa hr;obtain⟨xp,xe⟩:=x;have hne':¬ ((xe:Nat):Int)=0:=zo;subst hm;have U:Below w1.heap.size w1 ((w1.alloc (xi #[xa none 0 0,xa none 0 0] 78)).alloc (xi #[xd xh xp,xd xh xe] 80)):=gz.alloc zp _;have av:=(U.block _ (fh aa)).trans aa;have ai:=fa av;have an:=fa (ax.trans (U.mono ax.size));have aI:((w1.alloc (xi #[xa none 0 0,xa none 0 0] 78)).alloc (xi #[xd xh xp,xd xh xe] 80)).heap[w1.heap.size+1]? =some (xi #[xd xh xp,xd xh xe] 80 (0,0)):=fk _ _ _ zp;have aG:=fa aI;clear hr az aR U aa av aI;go_wp2;generalize ((w1.alloc (xi #[xa none 0 0,xa none 0 0] 78)).alloc (xi #[xd xh xp,xd xh xe] 80))=w2 at *;have aP:w2.cell? ⟨w1.heap.size+1,1,none⟩=some (xd xh xe):=cell_of_blk aG 1;have rc:=cell_of_blk ai;have rf:=fi ai;refine wp_region_held_drew (S:=fun w'=>w'.cell? ⟨w1.heap.size+1,1,none⟩=some (xd xh xe)) zk ?_ (fun J=> ?_)
  ·trivial
  apply zt5 0 (.agg #[xa none 0 0,xa none 0 0,xa none 0 0]) J;apply zt1 1 (xk (some ⟨w1.heap.size+1,1,none⟩)) J;apply zt5 2 (xd xh xe) J;apply zrH 3;intro K hK;go_simp;have hk:(iV w2 w.heap.size (xa none 0 0) (xa none 0 0) (xa none 0 0)).cell? ⟨w1.heap.size+1,1,none⟩=some (xd xh xe):=by
   have hb:=(mN w2 w.heap.size (xa none 0 0) (xa none 0 0) (xa none 0 0)).block _ (fh aG) (fun e=>by
    simp_all)
   rw[MR (a:=⟨w1.heap.size+1,1,none⟩) hb];exact aP
  refine hK _ _ hk (fun J=> ?_);clear hK K;apply zt1 4 (xd xh xe) J;refine wpAnyH_done zk ?_ _;clear J hk;go_wp2;change bodyPost _ _ _ _ _ (World.drew (iV w2 w.heap.size (xa none 0 0) (xa none 0 0) (xa none 0 0)));have ad:=iZ ai (xa none 0 0) (xa none 0 0) (xa none 0 0);have aj:=iR an (MC _) (xa none 0 0) (xa none 0 0) (xa none 0 0);generalize iV w2 w.heap.size (xa none 0 0) (xa none 0 0) (xa none 0 0)=wf at *;have ar:=cell_of_blk ad;refine bodyPost_ret (v:= .tuple #[.agg #[xa none 0 0,xa none 0 0,xa none 0 0],xd xh xe]) (by simp[results,results17,go_sem,ar]) rfl ?_;exact CmpP.err HX (aj.trans (((MG _ _).drew).mono aj.size)) rfl
 |ok m=>
  obtain⟨al,rs⟩:=m;rw[hr] at hm;obtain⟨a1,a2,a3,m1,m2,m3,cs,rfl,ha,aJ,hp⟩:=hm;obtain⟨_,_,e2⟩:=iw ha;cases e2;have hg:=pw hr;have h6:al.length<=6:=by have:=(ug hr).n6;simp_all
  have ak:Below w1.heap.size w1 ((w1.alloc (xi #[xa a1 al.length a3,xa m1 m2 m3] 78)).alloc (xi #[xd xh 0,xd xh 0] 80)):=gz.alloc zp _;have HT:=fa (Ep al rs hg a1 a3 m1 m2 m3 cs (fL ha ak) (fL aJ ak) (hp.keep (KB.below ak)) h6);have an:=fa (ax.out.trans (ak.mono ax.out.size));have ai:=fa ((ak.block _ (fh aa)).trans aa);have HX:=fa hr;clear hr ha aJ hp hg ak az aa;go_wp2_with fail;refine HT.out.mono ?_;generalize ((w1.alloc (xi #[xa a1 al.length a3,xa m1 m2 m3] 78)).alloc (xi #[xd xh 0,xd xh 0] 80))=w2 at *;rintro e w3 ⟨o,ho,aA,hm⟩;have HO:=fa ho;have R:=(aA.block _ (fh ai.out)).trans ai.out;have ay:=fa (an.out.trans (aA.mono an.out.size));have aT:=an.out.size;cases o with
  |none=>
   have aQ:e=xm (.tuple #[.agg #[xa none 0 0,xa none 0 0,xa none 0 0],xn false]):=hm;subst aQ;have U:=iz w3 (xi #[xa none 0 0,xa none 0 0,xa none 0 0] 36);have I:=fa ((U.block _ (fh R)).trans R);have aC:=fa (ay.trans (U.mono ay.size));have rc:=cell_of_blk I;have rf:=fi I;have rl:=fh I;clear hm ho aA R U;go_wp2;change bodyPost _ _ _ _ _ (iV (w3.alloc (xi #[xa none 0 0,xa none 0 0,xa none 0 0] 36)) w.heap.size (xa none 0 0) (xa none 0 0) (xa none 0 0));have ad:=iZ I (xa none 0 0) (xa none 0 0) (xa none 0 0);have aj:=iR aC (MC _) (xa none 0 0) (xa none 0 0) (xa none 0 0);generalize iV (w3.alloc (xi #[xa none 0 0,xa none 0 0,xa none 0 0] 36)) w.heap.size (xa none 0 0) (xa none 0 0) (xa none 0 0)=wf at *;have ar:=cell_of_blk ad;refine bodyPost_ret (v:= .tuple #[.agg #[xa none 0 0,xa none 0 0,xa none 0 0],xd xh 5]) (by simp[results,results17,go_sem,ar]) rfl ?_;exact CmpP.ok HX HO ⟨aj,rfl⟩
  |some t=>
   obtain⟨A,F,X,rv,he,ae⟩:=hm;obtain⟨ao,ac,rfl⟩:=iw ae.acts;obtain⟨fo,fc,rfl⟩:=iw ae.fl;obtain⟨no,nc,rfl⟩:=iw ae.nx;have aO:e=xm (.tuple #[.agg #[xa ao t.acts.length ac,xa fo t.fl.length fc,xa no t.nx.length nc],xn true]):=he;subst aO;clear he;have U:=iz w3 (xi #[xa ao t.acts.length ac,xa fo t.fl.length fc,xa no t.nx.length nc] 36);have I:=fa ((U.block _ (fh R)).trans R);have aC:=fa (ay.trans (U.mono ay.size));have aH:=fa ((ae.later U).mono aT);have hbx:=ft w3 (xi #[xa ao t.acts.length ac,xa fo t.fl.length fc,xa no t.nx.length nc] 36);have rc:=cell_of_blk I;have rf:=fi I;have rl:=fh I;clear ho aA R U ae;go_wp2;change bodyPost _ _ _ _ _ (iV (w3.alloc (xi #[xa ao t.acts.length ac,xa fo t.fl.length fc,xa no t.nx.length nc] 36)) w.heap.size (xa ao t.acts.length ac) (xa fo t.fl.length fc) (xa no t.nx.length nc));have ad:=iZ I (xa ao t.acts.length ac) (xa fo t.fl.length fc) (xa no t.nx.length nc);have aj:=iR aC (MC _) (xa ao t.acts.length ac) (xa fo t.fl.length fc) (xa no t.nx.length nc);have aS:=nw I aH (A':= xa ao t.acts.length ac) (F':= xa fo t.fl.length fc) (X':= xa no t.nx.length nc);generalize iV (w3.alloc (xi #[xa ao t.acts.length ac,xa fo t.fl.length fc,xa no t.nx.length nc] 36)) w.heap.size (xa ao t.acts.length ac) (xa fo t.fl.length fc) (xa no t.nx.length nc)=wf at *;have ar:=cell_of_blk ad;refine bodyPost_ret (v:= .tuple #[.agg #[xa ao t.acts.length ac,xa fo t.fl.length fc,xa no t.nx.length nc],xd xh 0]) (by simp[results,results17,go_sem,ar]) rfl ?_;exact CmpP.ok HX HO ⟨aj,_,_,_,rv,rfl,aS⟩
open Rt
theorem RightT.small(h:RightT t):t.acts.length<=1000/\t.nx.length<=1000/\t.fl.length<=1000/\ ∀r∈t.nx,r.length<=1000:=by
 have h1:=h.acts.n6;have h2:=h.n100;have h3:=h.fl;exact⟨zo,zo,zo,fun r hr=>by have:=(h.rs r hr).1;omega⟩
def DecT(t:Tb)(w w':World)(e:Ending):Prop:= ∃ao fo no ac fc nc rv,e=xm (.tuple #[.agg #[xa ao t.acts.length ac,xa fo t.fl.length fc,xa no t.nx.length nc],xd xh 0])/\TbW w' w.heap.size (xa ao t.acts.length ac) (xa fo t.fl.length fc) (xa no t.nx.length nc) t rv/\RightT t/\Below w.heap.size w w'
theorem DecT.of{ty:List Value->Value}(J:ty [xn true]=xd xh 0)(hR:RightT t)(h:oZ ty w (some t) w' e):DecT t w w' e:=by
 obtain⟨hb,A,F,X,rv,he,I⟩:=h;obtain⟨R,ac,rfl⟩:=iw I.acts;obtain⟨U,fc,rfl⟩:=iw I.fl;obtain⟨no,nc,rfl⟩:=iw I.nx;rw[J] at he;exact⟨R,U,no,ac,fc,nc,rv,he,I,hR,hb⟩
def LM(s:ByteArray)(w w':World)(e:Ending):Prop:=(∃t,DecT t w w' e)\/ ∃x:Int,x≠0/\e=xm (.tuple #[.agg #[xa none 0 0,xa none 0 0,xa none 0 0],xd xh x])/\Below w.heap.size w w'/\s≠wo
theorem CmpP.cases{s:ByteArray}(h:CmpP s w w' e):LM s w w' e:=by
 obtain⟨al1,rs1,T,J,R⟩:=ES;unfold CmpP at h;cases hr:iy s with
 |error x=>
  rw[hr] at h;have hne:=oM hr;refine MM ⟨(x.2:Int),zo,h.2,h.1,fun e=> ?_⟩;simp_all
 |ok m=>
  obtain⟨al,rs⟩:=m;rw[hr] at h;obtain⟨o,ho,I⟩:=h;cases o with
  |none=>
   refine MM ⟨5,zp,I.2,I.1,fun e=> ?_⟩;rw[e,J] at hr;cases hr;cases EG ho R
  |some t=>exact MU ⟨t,DecT.of rfl (vX hr ho) I⟩
structure ByB (w:World) (b:Nat) (l:List UInt8):Prop where
 ex: ∃(c:Array Value) (ty n:Nat),w.heap[b]? =some (xi c ty (n,n+1))/\l.length<=n/\ ∀(j:Nat) (x:UInt8),l[j]? =some x->c[j]? =some (xd .u8 (x.toNat:Int))
theorem ByB.set{l:List UInt8}(h:ByB w b l)(k:Nat)(d:UInt8):ByB (w.setCell ⟨b,k,none⟩ (xd .u8 (d.toNat:Int))) b (l.set k d):=by
 obtain⟨c,ty,n,J,h2,R⟩:=h.ex;refine⟨_,ty,n,fj J k _,za,fun j x I=> ?_⟩;rw[List.getElem?_set] at I;rw[Array.getElem?_setIfInBounds];by_cases e:k=j
 ·rw[if_pos e] at I|-
  split at I
  ·rename_i hl
   cases I;have hkc:k<c.size:=by
    have:=R k l[k] (Mt zo);exact(Array.getElem?_eq_some_iff.1 this).1
   simp_all
  trivial
 simp_all
end Go.Proofs.YtidakhhekofkoaaGreatDoor
