import Derived.Test.YtidakhhekofkoaaGreatDoorT06
import Derived.Deep.AppendLies
set_option linter.all false
set_option maxHeartbeats 2000000
set_option maxRecDepth 100000
namespace Go.Proofs.YtidakhhekofkoaaGreatDoor
open Go.Proofs.Tryz
open Go.RowKit Go.Deep
open Value renaming slice -> xa, int -> xd, string -> xj, pointer -> xk, bool -> xn
open IntKind renaming i64 -> xh
open Obj renaming cells -> xi
open Ending renaming returned -> xm
open List renaming length_cons -> Mr
open Nat renaming le_refl -> Ms
variable {zq:Prop}
variable {w w' w1 w2:World} {f:Fm} {v:Option Addr} {pb B n cap i q q':Nat} {xs:List Value} {L NM r:List Tk} {bad:Bool} {t:Tk} {x:Rd}
theorem zm6(h:zq:=by
 clear hK K;apply zrH 7;intro K hK;refine step_append_lies _ zf _ _ 125 zf B 201 i0 (.agg #[xd xh 0,xj ⟨#[]⟩,xd xh 0]) 3 32 underlying125 hi hz0 hz1 hz2 rfl zp (xa no nn nc) NM.length (gK NM) zf ?c0 ⟨w1.heap.size+1,0,none⟩ 1 1 [xd xh t.k,xj t.s,xd xh t.p] zf rfl ?c1 ?c2 zp ?c3 ?c4 ?c5 (w1.heap.size+2) zp ?_
 case c0=>exact fL HO.out (gz.alloc zp _).drew
 case c1=>
  intro j u hj
  match j,hj with
  |0,hj=>simp at hj;subst hj;simp[Addr.add]
  |1,hj=>simp at hj;subst hj;simp[Addr.add]
  |2,hj=>simp at hj;subst hj;simp[Addr.add]
  |j+3,hj=>simp at hj
 case c2=>intro u hu;simp at hu;rcases hu with rfl|rfl|rfl<;>rfl
 case c3=>unfold maxLen;omega
 case c4=>omega
 case c5=>simp;omega
 intro g2 cap2 w2 hown2 hgrow hat hlt2;have hbx2:w2.heap[w1.heap.size]? =some (xi #[xd xh t.k,xj t.s,xd xh t.p] 201 (0,0)):=(hgrow.block _ zs (fun e=>hxn e.symm)).trans ((Below.heap_alloc _ _ _ zp).trans (ft _ _));have hpb2:=(hgrow.block pb zs (fun e=>hpn e.symm)).trans ((Below.heap_alloc _ _ _ zs).trans ((Below.heap_alloc _ _ _ hpb).trans H1.out));have hz2:w1.heap.size<w2.heap.size:=fh hbx2;have hzp2:pb<w2.heap.size:=fh hpb2;have hs2:w2.cell? ⟨w1.heap.size,0,none⟩=some (xd xh t.k)/\w2.cell? ⟨w1.heap.size,1,none⟩=some (xj t.s)/\w2.cell? ⟨w1.heap.size,2,none⟩=some (xd xh t.p):=⟨cell_of_blk hbx2 0,cell_of_blk hbx2 1,cell_of_blk hbx2 2⟩;refine hK.out _ _ hs2 (fun hHeld=> ?_);clear hK K bc bf;have bc:=cell_of_blk hpb2;have bf:=fi hpb2;have HX2:=fa hbx2;have HB2:=fa hpb2;have HF2:=fa ((HF1.out.trans (PF.below (pb:=pb) (B:=B) (((Below.refl w1.heap.size w1).alloc (Nat.le_refl _) (xi #[xd xh t.k,xj t.s,xd xh t.p] 201)).alloc zp (xi #[xd xh t.k,xj t.s,xd xh t.p] 201)).drew)).trans (PF.row (fL HO.out (gz.alloc zp _).drew) hgrow));have HOW:=fa hown2;have hrow2: ∃cur,w2.heap[g]? =some (xi cur 201 (0,0))/\cur.toList.take (L.length * 3)=gK L:=by
  obtain⟨cur,h3,h4⟩:=HP1.out.row;exact⟨cur,(hgrow.block g (by have:=fh h3;simp;omega) (by intro e;have:=qh HO.out e.symm;omega)).trans ((Below.heap_alloc _ _ _ (by have:=fh h3;simp;omega)).trans ((Below.heap_alloc _ _ _ (fh h3)).trans h3)),h4⟩
 have HROW:=fa hrow2;have hg2n:g2≠pb:=by
  rintro rfl;rcases hat with e|e
  ·trivial
  omega
 clear hgrow hbx2 hpb2 hown2 hrow2 hs2;apply zt1 8 (xk (some ⟨pb,0,none⟩)) hHeld;apply zt1 9 (xk (some ⟨pb,3,none⟩)) hHeld;apply zrH 10;intro K hK;go_simp;refine hK.out _ _ (by obtain⟨s0,s1,s2⟩:=hHeld;refine⟨?_, ?_, ?_⟩<;>(rw[World.cell?_setCell_far _ _ _ _ (by show pb≠w1.heap.size;omega)];assumption)) (fun hHeld=> ?_);clear hK K;refine wpAnyH_done zk ?_ _;obtain⟨s0,s1,s2⟩:=hHeld;clear bc bf;go_wp2_with fail;refine(mY t.s).mono ?_;rintro e w4 ⟨v,rfl,hv,hb4⟩;have HV:=fa hv;have HB4:=fa hb4;clear hv hb4;go_wp2;go_ret;have hPP3:PP (w2.setCell ⟨pb,3,none⟩ (xa (some ⟨g2,0,none⟩) (NM.length+1) cap2)) pb g cap B L j bad' q' (NM++[t]):=by
  obtain⟨cur,h3,h4⟩:=HROW.out;refine⟨⟨some ⟨g2,0,none⟩,NM.length+1,cap2,fj HB2.out 3 _, ?_⟩,⟨cur,(Below.heap_setCell _ _ _ _ (by show g≠pb;exact HP1.out.ne)).trans h3,h4⟩,HP1.out.le,HP1.out.capLe,HP1.out.len,HP1.out.lt,HP1.out.fe,HP1.out.ok,hgB,hpB,by simp[World.setCell];omega,fun e=>za⟩;rw[lV,List.length_append];exact gq HOW.out (fK _ _ _ _) (Or.inr (by intro e;cases e;trivial))
 have hF3:PF pb B w (w2.setCell ⟨pb,3,none⟩ (xa (some ⟨g2,0,none⟩) (NM.length+1) cap2)):=HF2.out.trans (PF.grown (fK _ _ _ _));exact⟨v,rfl,HV.out t.p,hPP3.later HB4.out,hF3.trans (PF.below HB4.out)⟩
 ):zq:=h
theorem zm25(h:zq:=by
 rintro e w2 ⟨hf,p,rfl,hx⟩;have HF:=fa hf;have HX:=fa hx;clear hf hx;go_wp2;go_ret;exact⟨HF.out,p,rfl,HX.out⟩
 ):zq:=h
theorem zm47(h:zq:=by
 rintro e w4 ⟨v,rfl,hv,hb4⟩;have HB4:=fa hb4;have HV:=fa (hv HG3.out HGB.out);clear hb4 hv;go_wp2_with fail
 go_roundg m
 case measure=>omega
 exact⟨_,rfl,((HFJ.out.trans HF2.out).trans HF3.out).trans (PF.below HB4.out),Or.inl ⟨_,i3,zo,hl3,HV.out,by rw[pF zp,<-List.append_assoc];exact HP3.out.later HB4.out,HX3.out⟩⟩
 ):zq:=h
theorem zm60(h:zq:=by
 rintro e w4 ⟨v,rfl,hv,hb4⟩;have HB4:=fa hb4;have HV:=fa (hv HGA.out HGB.out);clear hb4 hv;go_wp2;go_ret;rw[HX3.out];exact⟨((HF1.out.trans HF2.out).trans HF3.out).trans (PF.below HB4.out),_,rfl,HV.out,i3,HQ3.out,by rw[pF zp,<-List.append_assoc];exact HP3.out.later HB4.out⟩
 ):zq:=h
theorem zm67(h:zq:=by
 rintro e w4 ⟨v,rfl, -,hb4⟩;have HB4:=fa hb4;clear hb4;go_wp2_with fail
 go_roundg m
 case measure=>omega
 exact⟨_,rfl,((HFJ.out.trans HF2.out).trans HF3.out).trans (PF.below HB4.out),Or.inr ⟨q,NM3,HP3.out.later HB4.out,HX3.out⟩⟩
 ):zq:=h
theorem zm86(h:zq:=by
 rintro e w4 ⟨v,rfl, -,hb4⟩;have HB4:=fa hb4;clear hb4;go_wp2;go_ret;rw[HX3.out];exact⟨((HF1.out.trans HF2.out).trans HF3.out).trans (PF.below HB4.out),_,rfl,NM3,HP3.out.later HB4.out⟩
 ):zq:=h
theorem zm91(h:zq:=by
 obtain⟨a,l1⟩:=x;have hlen:=ju _ _ _ _ _ _ hpf;rw[hpf] at hx;obtain⟨hg1,i1,hl1,hp1⟩:=hx;exact Or.inl ⟨a,i1,Nat.le_refl _,by rw[hl1];omega,hg1,hp1,by show _=_;rw[pf,hpf,hl1]⟩
 ):zq:=h
theorem zm166(h:zq:=by
 rintro e w2 ⟨rfl,rfl⟩;go_wp2;go_ret;rw[HX.out];exact⟨HF1.out,_,rfl,HG1.out,i1,rfl,HP1.out⟩
 ):zq:=h
theorem zm171(h:zq:=by
 rintro e w2 ⟨rfl,rfl⟩;go_wp2;go_ret;rw[HX.out];exact⟨HFJ.out,_,rfl,HGA.out,j,rfl,HPJ.out⟩
 ):zq:=h
theorem zm180(h:zq:=by
 rw[hpf] at hx;obtain⟨NM1,hp1⟩:=hx;exact Or.inr ⟨q,NM1,hp1,by show _=_;rw[pf,hpf]⟩
 ):zq:=h
theorem zm183(h:zq:=by
 rintro e w2 ⟨rfl,rfl⟩;go_wp2;go_ret;rw[HXJ.out];exact⟨HFJ.out,_,rfl,NMj,HPJ.out⟩
 ):zq:=h
theorem zm184(h:zq:=by
 rintro e w2 ⟨rfl,rfl⟩;go_wp2;go_ret;rw[HX.out];exact⟨HF1.out,_,rfl,NM1,HP1.out⟩
 ):zq:=h
def IsG(w:World):Fm->Option Addr->Prop
 | .nil,p=>p=none
 | .node _ _ a l r,p=> ∃b pl pr,p=some ⟨b,0,none⟩/\w.heap[b]? =some (xi #[xd xh a.1,xj a.2.1,xk pl,xk pr] 270 (0,0))/\IsG w l pl/\IsG w r pr
theorem IsG.keep(I: ∀(b:Nat) (c:Array Value) (m:Nat × Nat),w.heap[b]? =some (xi c 270 m)->w'.heap[b]? =w.heap[b]?): ∀{f:Fm} {v:Option Addr},IsG w f v->IsG w' f v
 | .nil,_,h=>h
 | .node _ _ _ _ _,_,⟨b,vl,vr,hv,hb,hl,hr'⟩=>⟨b,vl,vr,hv,(I b _ _ hb).trans hb,IsG.keep I hl,IsG.keep I hr'⟩
theorem IsG.later(I:Below w.heap.size w w')(hf:IsG w f v):IsG w' f v:=
 hf.keep (fun b _ _ h=>I.block b (fh h))
theorem kj(k:Nat)(f g:Fm)(I J:Option Addr):
  Calls prog 227 #[xd xh (k:Int),xk I,xk J] w fun e w'=> ∃v,e=xm (xk v)/\(IsG w f I->IsG w g J->IsG w' (two k f g) v)/\Below w.heap.size w w':=by
 go_in;go_wp2;go_ret;have R:=iz w (xi #[xd xh (k:Int),xj ⟨#[]⟩,xk I,xk J] 270);exact⟨_,rfl,fun hf hg=>⟨w.heap.size,I,J,rfl,ft _ _,hf.later R,hg.later R⟩,R⟩
theorem nv(k:Nat)(f:Fm)(I:Option Addr):
  Calls prog 269 #[xd xh (k:Int),xk I] w fun e w'=> ∃v,e=xm (xk v)/\(IsG w f I->IsG w' (one k f) v)/\Below w.heap.size w w':=by
 go_in;go_wp2;go_ret;have J:=iz w (xi #[xd xh (k:Int),xj ⟨#[]⟩,xk I,xk none] 270);exact⟨_,rfl,fun hf=>⟨w.heap.size,I,none,rfl,ft _ _,hf.later J,rfl⟩,J⟩
theorem yF(k:Nat):
  Calls prog 268 #[xd xh (k:Int)] w fun e w'=> ∃v,e=xm (xk v)/\IsG w' (leaf k ByteArray.empty 0) v/\Below w.heap.size w w':=by
 go_in;go_wp2;go_ret;have I:=iz w (xi #[xd xh (k:Int),xj ⟨#[]⟩,xk none,xk none] 270);exact⟨_,rfl,⟨w.heap.size,none,none,rfl,ft _ _,rfl,rfl⟩,I⟩
theorem mY(s:ByteArray):
  Calls prog 162 #[xj s] w fun e w'=> ∃v,e=xm (xk v)/\(∀p,IsG w' (leaf 0 s p) v)/\Below w.heap.size w w':=by
 go_in;go_wp2;go_ret;have I:=iz w (xi #[xd xh 0,xj s,xk none,xk none] 270);exact⟨_,rfl,fun _=>⟨w.heap.size,none,none,rfl,ft _ _,rfl,rfl⟩,I⟩
structure PF (pb B:Nat) (w w':World):Prop where
 os:w'.os=w.os
 tape:w'.tape=w.tape
 output:w'.output=w.output
 size:w.heap.size<=w'.heap.size
 keep: ∀k,k<w.heap.size->k≠pb->(k<B\/¬ TyAt w k 201)->w'.heap[k]? =w.heap[k]?
theorem PF.refl(pb B:Nat)(w:World):PF pb B w w:=⟨rfl,rfl,rfl,Ms _,fun _ _ _ _=>rfl⟩
theorem PF.trans(h:PF pb B w w1)(I:PF pb B w1 w2):PF pb B w w2:=
 ⟨I.os.trans h.os,I.tape.trans h.tape,I.output.trans h.output,Nat.le_trans h.size I.size,fun k J R hc=>by
  have e:=h.keep k J R hc;refine(I.keep k (Nat.lt_of_lt_of_le J h.size) R ?_).trans e;rcases hc with hc|hc
  ·omega
  refine Or.inr ?_;rintro⟨c,m,hh⟩;exact hc ⟨c,m,za⟩⟩
theorem PF.grown(h:w.grownBy w' (some pb)):PF pb B w w':=⟨h.os,h.tape,h.output,h.size,fun k I hp _=>h.block k I za⟩
theorem PF.below(h:Below w.heap.size w w'):PF pb B w w':=PF.grown (gC h _)
theorem qh{base e size:Nat}{v:Value}(h:w.ownsRow base e size v n xs){k:Nat}(I:v.ownBlock=some k):base<=k/\TyAt w k e:=by
 obtain⟨_,J|⟨g,cap,cur,U,hg,R,_⟩⟩:=h
 ·rw[J.1] at I;cases I
 rw[U] at I;cases I;exact⟨hg,cur,_,R⟩
theorem PF.row{v:Value}(I:w.ownsRow B 201 3 v n xs)(h:w.grownBy w' v.ownBlock):PF pb B w w':=
 ⟨h.os,h.tape,h.output,h.size,fun k J _ hc=>h.block k J (by
  intro e;have:=qh I e.symm;rcases hc with hc|hc
  ·omega
  simp_all)⟩
theorem PF.isG{g:Nat}(J:PP w pb g cap B L i bad q NM)(h:PF pb B w w')(hf:IsG w f v):IsG w' f v:=
 hf.keep (fun b c m I=>h.keep b (fh I) (by
  rintro rfl;obtain⟨_,_,_,h1,_⟩:=J.blk;simp_all) (Or.inr (by rintro⟨c',m',h'⟩;simp_all)))
theorem uy(w:World)(pb g cap B:Nat)(L:List Tk)(i:Nat)(NM:List Tk)(t:Tk)(h:PP w pb g cap B L i false 0 NM)(j:Nat)(bad':Bool)(q':Nat)(hj:j<L.length)(hn:bad'=false->NM.length+1<=j)
  (hT:Calls prog 153 #[xk (some ⟨pb,0,none⟩),xd xh 2] w fun e w'=>e=xm (je t)/\Mv w w' pb g cap L.length i false 0 j bad' q'):
  Calls prog 295 #[xk (some ⟨pb,0,none⟩)] w fun e w'=> ∃p,e=xm (xk p)/\IsG w' (leaf 0 t.s t.p) p/\PP w' pb g cap B L j bad' q' (NM++[t])/\PF pb B w w':=by
 obtain⟨i0,hi,hz0,hz1,hz2⟩:=info_parts Tryz.infoTokP;have hnm:NM.length<=401:=by have:=h.nm rfl;have:=h.lt;have:=h.len;omega
 have HP:=fa h;have HT:=fa hT;clear h hT;go_in;go_wp2_with fail;refine HT.mono ?_;rintro e w1 ⟨rfl,hm⟩;have I:=HP.move hm hj (fun e=>by have:=hn e;omega);have R:PF pb B w w1:=PF.grown hm.gr;have HP1:=fa I;have HF1:=fa R;obtain⟨no,nn,nc,U,J⟩:=I.blk;have hpb:=I.pLt;have hBw:=I.hB;have hgB:=I.gB;have hpB:=I.pB;have bc:=cell_of_blk U;have bf:=fi U;have HO:=fa J;have H1:=fa U;have hpn:(xa no nn nc).ownBlock≠some pb:=by intro e;have:=qh J e;omega
 have hxn:(xa no nn nc).ownBlock≠some w1.heap.size:=by intro e;have:=gG J _ e;omega
 clear I R hm J U HT;simp only[je];go_wp2_with fail;refine wp_region_held_drew (S:=fun w'=>w'.cell? ⟨w1.heap.size,0,none⟩=some (xd xh t.k)/\w'.cell? ⟨w1.heap.size,1,none⟩=some (xj t.s)/\w'.cell? ⟨w1.heap.size,2,none⟩=some (xd xh t.p)) zk ?_ (fun hHeld=> ?_)
 ·simp
 apply zt1 0 (xk (some ⟨pb,0,none⟩)) hHeld;apply zt1 1 (xk (some ⟨pb,0,none⟩)) hHeld;apply zt1 2 (xk (some ⟨pb,0,none⟩)) hHeld;apply zt1 3 (xk (some ⟨pb,3,none⟩)) hHeld;apply zt1 5 (.agg #[xd xh t.k,xj t.s,xd xh t.p]) hHeld;refine zrH2 4 6 (fun K hK=> ?_) fun K hK=> ?_
 ·go_simp;refine hK _ _ hHeld (fun hHeld=> ?_);clear hK K;apply zrH 6;intro K hK;go_simp;refine hK _ _ zp (fun hHeld=> ?_);exact zm6
 go_simp;refine hK _ _ zp (fun hHeld=> ?_);clear hK K;apply zrH 4;intro K hK;go_simp;refine hK _ _ hHeld (fun hHeld=> ?_);exact zm6
def ky(L:List Tk)(pb g cap B:Nat)(NM:List Tk)(w w':World)(e:Ending)(x:Rd):Prop:=
 PF pb B w w'/\ ∃p,e=xm (xk p)/\(match x with
  | .ok (f,l)=>IsG w' f p/\ ∃i,PL L i=l/\PP w' pb g cap B L i false 0 (NM++kJ f)
  | .error q=> ∃NM',PP w' pb g cap B L (L.length - 1) true q NM')
def GU(n:Nat):Prop:= ∀(w:World) (pb g cap B:Nat) (L:List Tk) (i:Nat) (NM:List Tk),PP w pb g cap B L i false 0 NM->6 * (PL L i).length+1<=n->
 Calls prog 290 #[xk (some ⟨pb,0,none⟩)] w fun e w'=>ky L pb g cap B NM w w' e (pf n 4 .nil (PL L i))
def GT(n:Nat):Prop:= ∀(w:World) (pb g cap B:Nat) (L:List Tk) (i:Nat) (NM:List Tk),PP w pb g cap B L i false 0 NM->6 * (PL L i).length+2<=n->
 Calls prog 286 #[xk (some ⟨pb,0,none⟩)] w fun e w'=>ky L pb g cap B NM w w' e (pf n 3 .nil (PL L i))
def GA(n:Nat):Prop:= ∀(w:World) (pb g cap B:Nat) (L:List Tk) (i:Nat) (NM:List Tk),PP w pb g cap B L i false 0 NM->6 * (PL L i).length+3<=n->
 Calls prog 264 #[xk (some ⟨pb,0,none⟩)] w fun e w'=>ky L pb g cap B NM w w' e (pf n 2 .nil (PL L i))
def GO(n:Nat):Prop:= ∀(w:World) (pb g cap B:Nat) (L:List Tk) (i:Nat) (NM:List Tk),PP w pb g cap B L i false 0 NM->6 * (PL L i).length+4<=n->
 Calls prog 226 #[xk (some ⟨pb,0,none⟩)] w fun e w'=>ky L pb g cap B NM w w' e (pf n 1 .nil (PL L i))
def GF(n:Nat):Prop:= ∀(w:World) (pb g cap B:Nat) (L:List Tk) (i:Nat) (NM:List Tk),PP w pb g cap B L i false 0 NM->6 * (PL L i).length+5<=n->
 Calls prog 193 #[xk (some ⟨pb,0,none⟩)] w fun e w'=>ky L pb g cap B NM w w' e (pf n 0 .nil (PL L i))
def lF(k:Nat):Rd->Rd
 | .error q=> .error q
 | .ok (a,l)=> .ok (one k a,l)
def Cy:Rd->Rd
 | .error q=> .error q
 | .ok (a,l)=>if gu l=19 then .ok (a,l.tail) else .error (gQ l)
theorem PP.step{g:Nat}(h:PP w pb g cap B L i false 0 NM)(hm:Mv w w' pb g cap L.length i false 0 (i+1) false 0)(I:PL L i=t::r)(hk:2<=t.k):PP w' pb g cap B L (i+1) false 0 NM:=
 h.move hm (h.fe.nextLt I zo) (fun _=>by have:=h.nm rfl;omega)
theorem PP.lost{g:Nat}(h:PP w pb g cap B L i bad q NM)(hm:Mv w w' pb g cap L.length i bad q (L.length - 1) true q'):PP w' pb g cap B L (L.length - 1) true q' NM:=
 h.move hm (by have:=h.lt;omega) (fun e=>by cases e)
theorem tD(k:Nat){g:Nat}(h:PP w pb g cap B L i false 0 NM)(ht:PL L i=t::r)(hk:2<=t.k)(I:k≠0):
  Calls prog 294 #[xk (some ⟨pb,0,none⟩),xd xh (k:Int)] w fun e w'=>ky L pb g cap B NM w w' e (.ok (leaf k ByteArray.empty 0,r)):=by
 have HP:=fa h;have J:=fa ht;have U:=fa I;clear h ht I;go_in;go_wp2_with fail;refine(jc _ _ _ _ _ _ _ _ _ _ _ HP J).mono ?_;rintro e w1 ⟨rfl,rfl⟩;go_wp2_with fail;refine(kG t.k _ _ _ _ _ _ _ _ _ _ _ _ HP J rfl hk).mono ?_;rintro e w2 ⟨rfl,hm⟩;have ad:=fa (HP.step hm J hk);have R:=fa (PF.grown (B:=B) hm.gr);clear hm;simp only[je];go_wp2_with fail;refine(yF k).mono ?_;rintro e w3 ⟨v,rfl,hv,hb⟩;have HV:=fa hv;have HB:=fa hb;clear hv hb;go_wp2;go_ret;exact⟨R.trans (PF.below HB),v,rfl,HV,i+1,iL J hk,by rw[AZ U.out,List.append_nil];exact ad.later HB⟩
theorem lT(n:Nat)(hU:GU n)(k:Nat){g:Nat}(h:PP w pb g cap B L i false 0 NM)(ht:PL L i=t::r)(hk:2<=t.k)(aj:k≠0)(hn:6 * r.length+1<=n):
  Calls prog 292 #[xk (some ⟨pb,0,none⟩),xd xh (k:Int)] w fun e w'=>ky L pb g cap B NM w w' e (lF k (pf n 4 .nil r)):=by
 have HU:=fa hU;have HP:=fa h;have HT:=fa ht;have aq:=fa aj;have hr:=iL ht hk;have HR:=fa hr;clear h ht aj hU hr;go_in;go_wp2_with fail;refine(jc _ _ _ _ _ _ _ _ _ _ _ HP HT).mono ?_;rintro e w1 ⟨rfl,rfl⟩;go_wp2_with fail;refine(kG t.k _ _ _ _ _ _ _ _ _ _ _ _ HP HT rfl hk).mono ?_;rintro e w2 ⟨rfl,hm⟩;have av:=fa (HP.step hm HT hk);have aa:=fa (PF.grown (B:=B) hm.gr);clear hm;simp only[je];go_wp2_with fail;refine(HU _ _ _ _ _ _ _ _ av (by rw[HR.out];omega)).mono ?_;rw[HR.out];rintro e w3 ⟨ag,p3,rfl,an⟩;have ad:=fa ag;have J:=fa an;clear ag an;go_wp2_with fail;cases hpf:pf n 4 .nil r with
 |error q=>
  obtain⟨az,I⟩: ∃ay,PP w3 pb g cap B L (L.length - 1) true q ay:=by have:=J.out;simp_all
  have R:=fa I;have HX:Hid (lF k (pf n 4 .nil r)= .error q):=by show _=_;rw[hpf];rfl
  clear I hpf J;refine(nv k .nil p3).mono ?_;rintro e w4 ⟨v,rfl, -,hb⟩;have U:=fa hb;clear hb;go_wp2;go_ret;rw[HX.out];exact⟨(aa.trans ad).trans (PF.below U),v,rfl,az,R.later U⟩
 |ok x=>
  obtain⟨a,l1⟩:=x;obtain⟨ai,i3,ak,I⟩:IsG w3 a p3/\ ∃i,PL L i=l1/\PP w3 pb g cap B L i false 0 (NM++kJ a):=by have:=J.out;simp_all
  have R:=fa I;have ao:=fa ai;have ar:=fa ak;have HX:Hid (lF k (pf n 4 .nil r)= .ok (one k a,l1)):=by show _=_;rw[hpf];rfl
  clear I hpf J ai ak;refine(nv k a p3).mono ?_;rintro e w4 ⟨v,rfl,hv,hb⟩;have U:=fa hb;have HV:=fa (hv ao);clear hb hv;go_wp2;go_ret;rw[HX.out];exact⟨(aa.trans ad).trans (PF.below U),v,rfl,HV,i3,ar,by rw[CO aq.out];exact R.later U⟩
theorem Ba(n:Nat)(hU:GF n){g:Nat}(h:PP w pb g cap B L i false 0 NM)(ht:PL L i=t::r)(hk:t.k=18)(hn:6 * r.length+5<=n):
  Calls prog 293 #[xk (some ⟨pb,0,none⟩)] w fun e w'=>ky L pb g cap B NM w w' e (Cy (pf n 0 .nil r)):=by
 have HU:=fa hU;have HP:=fa h;have HT:=fa ht;have hr:=iL ht zo;have HR:=fa hr;have HK:=fa hk;clear h ht hU hr hk;go_in;go_wp2_with fail;refine(kG 18 _ _ _ _ _ _ _ _ _ _ _ _ HP HT HK zp).mono ?_;rintro e w2 ⟨rfl,hm⟩;have aA:=fa (HP.step hm HT (by have:=HK.out;omega));have an:=fa (PF.grown (B:=B) hm.gr);clear hm;simp only[je];go_wp2_with fail;refine(HU _ _ _ _ _ _ _ _ aA (by rw[HR.out];omega)).mono ?_;rw[HR.out];rintro e w3 ⟨av,p3,rfl,aw⟩;have ao:=fa av;have ai:=fa aw;clear av aw;go_wp2_with fail;cases hpf:pf n 0 .nil r with
 |error q=>
  obtain⟨aC,I⟩: ∃aB,PP w3 pb g cap B L (L.length - 1) true q aB:=by have:=ai.out;simp_all
  obtain⟨t3,J,aa⟩:=mF I.fe;have R:=fa I;have U:=fa J;have aj:t3.k≠19:=zo;have ar:=fa aj;have HX:Hid (Cy (pf n 0 .nil r)= .error q):=by show _=_;rw[hpf];rfl
  clear I hpf ai J aa aj;refine(qk 19 _ _ _ _ _ _ _ _ _ _ _ _ R U ar).mono ?_;rintro e w4 ⟨rfl,hm⟩;have ag:=fa (R.lost hm);have ad:=fa (PF.grown (B:=B) hm.gr);clear hm;simp only[je];go_wp2;go_ret;rw[HX.out];exact⟨(an.trans ao).trans ad,p3,rfl,aC,ag⟩
 |ok x=>
  obtain⟨a,l1⟩:=x;obtain⟨aq,i3,aD,I⟩:IsG w3 a p3/\ ∃i,PL L i=l1/\PP w3 pb g cap B L i false 0 (NM++kJ a):=by have:=ai.out;simp_all
  subst aD;have R:=fa I;have az:=fa aq;by_cases h19:gu (PL L i3)=19
  ·obtain⟨t3,u3,r3,J,aa⟩:=km (kS I.fe I.lt) zp h19;have HX:Hid (Cy (pf n 0 .nil r)= .ok (a,u3::r3)):=by show _=_;rw[hpf];show(if gu (PL L i3)=19 then (.ok (a,(PL L i3).tail):Rd) else .error (gQ (PL L i3)))=_;simp_all
   have U:=fa J;have ae:=fa aa;clear I hpf ai aq J aa h19;refine(kG 19 _ _ _ _ _ _ _ _ _ _ _ _ R U ae zp).mono ?_;rintro e w4 ⟨rfl,hm⟩;have ag:=fa (R.step hm U (by have:=ae.out;omega));have ad:=fa (PF.grown (B:=B) hm.gr);clear hm;simp only[je];go_wp2;go_ret;rw[HX.out];exact⟨(an.trans ao).trans ad,p3,rfl,ad.isG R az,i3+1,iL U (by have:=ae.out;omega),ag⟩
  obtain⟨t3,r3,J,aa⟩:=lD (kS I.fe I.lt) h19;have HX:Hid (Cy (pf n 0 .nil r)= .error t3.p):=by show _=_;rw[hpf];show(if gu (PL L i3)=19 then (.ok (a,(PL L i3).tail):Rd) else .error (gQ (PL L i3)))=_;rw[if_neg h19,J];rfl
  have U:=fa J;have ae:=fa aa;clear I hpf ai aq J aa h19;refine(qk 19 _ _ _ _ _ _ _ _ _ _ _ _ R U ae).mono ?_;rintro e w4 ⟨rfl,hm⟩;have ag:=fa (R.lost hm);have ad:=fa (PF.grown (B:=B) hm.gr);clear hm;simp only[je];go_wp2;go_ret;rw[HX.out];exact⟨(an.trans ao).trans ad,p3,rfl,_,ag⟩
theorem Ck(n:Nat)(hU:GU n)(hV:GU n):GT (n+1):=by
 intro w pb g cap B L i NM h hn;have HU:=fa hU;have au:=fa hV;have HP:=fa h;clear hU hV h;go_in;go_wp2_with fail;refine(HU _ _ _ _ _ _ _ _ HP zo).mono ?_;rintro e w1 ⟨R,p,rfl,hx⟩;have HF1:=fa R;cases hpf:pf n 4 .nil (PL L i) with
 |error q=>
  have HX:Hid (pf (n+1) 3 .nil (PL L i)= .error q):=by show _=_;rw[pf,hpf]
  rw[hpf] at hx;obtain⟨NM1,I⟩:=hx;obtain⟨t,ht,hk⟩:=mF I.fe;have HP1:=fa I;have HT:=fa ht;have HK:=fa (show t.k≠13 from zo);clear I R ht hpf hk;go_wp2_with fail;refine(lp 13 HP1 HT HK).mono ?_;exact zm184
 |ok x=>
  obtain⟨a,l1⟩:=x;have ad:=ju _ _ _ _ _ _ hpf;rw[hpf] at hx;obtain⟨U,i1,av,I⟩:=hx;subst av;by_cases h13:gu (PL L i1)=13
  ·obtain⟨t,u,r,ht,hk⟩:=km (kS I.fe I.lt) zp h13;have ht2:=iL ht zo;have hX:pf (n+1) 3 .nil (PL L i)=(match pf n 4 .nil (PL L (i1+1)) with| .error q=> .error q| .ok (b,l2)=> .ok (two 9 a b,l2)):=by
    exact zm123
   have HX:=fa hX;have ae:6 * (PL L (i1+1)).length+1<=n:=by rw[ht2];rw[ht] at ad;simp only[Mr] at ad|-;omega
   have HL:=fa ae;have HG1:=fa U;have HP1:=fa I;have HT:=fa ht;have HK:=fa hk;clear I R ht hpf hX h13 hk U ht2 ae;go_wp2_with fail;refine(nE 13 HP1 HT HK zp).mono ?_;rintro e w2 ⟨rfl,hm⟩;have an:=fa (HP1.step hm HT (by have:=HK.out;omega));have HF2:=fa (PF.grown (B:=B) hm.gr);clear hm;go_wp2_with fail;refine(au _ _ _ _ _ _ _ _ an HL).mono ?_;rintro e w3 ⟨ag,p3,rfl,aa⟩;have HGA:=fa (ag.isG an (HF2.isG HP1 HG1));have HF3:=fa ag;clear ag;go_wp2_with fail;cases hpf3:pf n 4 .nil (PL L (i1+1)) with
   |error q=>
    rw[hpf3] at aa;have HX3:Hid (pf (n+1) 3 .nil (PL L i)= .error q):=by show _=_;rw[HX.out,hpf3]
    obtain⟨NM3,J⟩:=aa;have HP3:=fa J;clear J hpf3;refine(kj 9 .nil .nil p p3).mono ?_;exact zm86
   |ok x=>
    obtain⟨b,l2⟩:=x;rw[hpf3] at aa;have HX3:Hid (pf (n+1) 3 .nil (PL L i)= .ok (two 9 a b,l2)):=by show _=_;rw[HX.out,hpf3]
    obtain⟨ao,i3,aq,J⟩:=aa;have HP3:=fa J;have HQ3:=fa aq;have HGB:=fa ao;clear J aq hpf3 ao;refine(kj 9 a b p p3).mono ?_;exact zm60
  obtain⟨t,r,ht,hk⟩:=lD (kS I.fe I.lt) h13;have HX:Hid (pf (n+1) 3 .nil (PL L i)= .ok (a,PL L i1)):=by show _=_;rw[pf,hpf];simp_all
  have HG1:=fa U;have HP1:=fa I;have HT:=fa ht;have HK:=fa hk;clear I R ht hpf h13 hk U;go_wp2_with fail;refine(lp 13 HP1 HT HK).mono ?_;exact zm166
theorem zJ(n:Nat)(hU:GO n)(hV:GF n):GF (n+1):=by
 intro w pb g cap B L i NM h hn;have HU:=fa hU;have au:=fa hV;have HP:=fa h;clear hU hV h;go_in;go_wp2_with fail;refine(HU _ _ _ _ _ _ _ _ HP zo).mono ?_;rintro e w1 ⟨R,p,rfl,hx⟩;have HF1:=fa R;cases hpf:pf n 1 .nil (PL L i) with
 |error q=>
  have HX:Hid (pf (n+1) 0 .nil (PL L i)= .error q):=by show _=_;rw[pf,hpf]
  rw[hpf] at hx;obtain⟨NM1,I⟩:=hx;obtain⟨t,ht,hk⟩:=mF I.fe;have HP1:=fa I;have HT:=fa ht;have HK:=fa (show t.k≠14 from zo);clear I R ht hpf hk;go_wp2_with fail;refine(lp 14 HP1 HT HK).mono ?_;exact zm184
 |ok x=>
  obtain⟨a,l1⟩:=x;have ad:=ju _ _ _ _ _ _ hpf;rw[hpf] at hx;obtain⟨U,i1,av,I⟩:=hx;subst av;by_cases h13:gu (PL L i1)=14
  ·obtain⟨t,u,r,ht,hk⟩:=km (kS I.fe I.lt) zp h13;have ht2:=iL ht zo;have hX:pf (n+1) 0 .nil (PL L i)=(match pf n 0 .nil (PL L (i1+1)) with| .error q=> .error q| .ok (b,l2)=> .ok (two 12 a b,l2)):=by
    exact zm123
   have HX:=fa hX;have ae:6 * (PL L (i1+1)).length+5<=n:=by rw[ht2];rw[ht] at ad;simp only[Mr] at ad|-;omega
   have HL:=fa ae;have HG1:=fa U;have HP1:=fa I;have HT:=fa ht;have HK:=fa hk;clear I R ht hpf hX h13 hk U ht2 ae;go_wp2_with fail;refine(nE 14 HP1 HT HK zp).mono ?_;rintro e w2 ⟨rfl,hm⟩;have an:=fa (HP1.step hm HT (by have:=HK.out;omega));have HF2:=fa (PF.grown (B:=B) hm.gr);clear hm;go_wp2_with fail;refine(au _ _ _ _ _ _ _ _ an HL).mono ?_;rintro e w3 ⟨ag,p3,rfl,aa⟩;have HGA:=fa (ag.isG an (HF2.isG HP1 HG1));have HF3:=fa ag;clear ag;go_wp2_with fail;cases hpf3:pf n 0 .nil (PL L (i1+1)) with
   |error q=>
    rw[hpf3] at aa;have HX3:Hid (pf (n+1) 0 .nil (PL L i)= .error q):=by show _=_;rw[HX.out,hpf3]
    obtain⟨NM3,J⟩:=aa;have HP3:=fa J;clear J hpf3;refine(kj 12 .nil .nil p p3).mono ?_;exact zm86
   |ok x=>
    obtain⟨b,l2⟩:=x;rw[hpf3] at aa;have HX3:Hid (pf (n+1) 0 .nil (PL L i)= .ok (two 12 a b,l2)):=by show _=_;rw[HX.out,hpf3]
    obtain⟨ao,i3,aq,J⟩:=aa;have HP3:=fa J;have HQ3:=fa aq;have HGB:=fa ao;clear J aq hpf3 ao;refine(kj 12 a b p p3).mono ?_;exact zm60
  obtain⟨t,r,ht,hk⟩:=lD (kS I.fe I.lt) h13;have HX:Hid (pf (n+1) 0 .nil (PL L i)= .ok (a,PL L i1)):=by show _=_;rw[pf,hpf];simp_all
  have HG1:=fa U;have HP1:=fa I;have HT:=fa ht;have HK:=fa hk;clear I R ht hpf h13 hk U;go_wp2_with fail;refine(lp 14 HP1 HT HK).mono ?_;exact zm166
theorem Fo(n:Nat)(hU: ∀m,m<=n->GT m):GA (n+1):=by
 intro w pb g cap B L i NM h hn;have HU:=fa hU;have HP:=fa h;clear hU h;go_in;go_wp2_with fail;refine(HU n (Ms _) _ _ _ _ _ _ _ _ HP zo).mono ?_;rintro e w1 ⟨ar,p,rfl,hx⟩;have I: ∃pa,(xk p=xk pa)/\PF pb B w w1/\
   ((∃acc j,n<=n/\6 * (PL L j).length+1<=n/\IsG w1 acc pa/\PP w1 pb g cap B L j false 0 (NM++kJ acc)/\Hid (pf (n+1) 2 .nil (PL L i)=pf n 6 acc (PL L j)))\/(∃q ad,PP w1 pb g cap B L (L.length - 1) true q ad/\Hid (pf (n+1) 2 .nil (PL L i)= .error q))):=by
  refine⟨p,rfl,ar, ?_⟩;cases hpf:pf n 3 .nil (PL L i) with
  |error q=>
   exact zm180
  |ok x=>
   exact zm91
 have HS:=fa I;clear I hx ar;go_wp2
 go_loopg [3] n (fun m v wr=> ∃pa,v=xk pa/\PF pb B w wr/\
   ((∃acc j,m<=n/\6 * (PL L j).length+1<=m/\IsG wr acc pa/\PP wr pb g cap B L j false 0 (NM++kJ acc)/\Hid (pf (n+1) 2 .nil (PL L i)=pf m 6 acc (PL L j)))\/(∃q ad,PP wr pb g cap B L (L.length - 1) true q ad/\Hid (pf (n+1) 2 .nil (PL L i)= .error q))))
 ·trivial
 clear HS;obtain⟨pa,rfl,av,ae⟩:=hrel;have HFJ:=fa av;clear av;rcases ae with⟨acc,j,hm,hmj,hga,hpj,hxj⟩|⟨q,NMj,hpj,hxj⟩
 ·obtain⟨m,rfl⟩: ∃m,gk=m+1:=⟨gk - 1,zo⟩;by_cases h16:gu (PL L j)=16
  ·obtain⟨t,u,r,ht,hk⟩:=km (kS hpj.fe hpj.lt) zp h16;have ht2:=iL ht zo;have HXJ:Hid (pf (n+1) 2 .nil (PL L i)=(match pf m 3 .nil (PL L (j+1)) with| .error q=> .error q| .ok (b,l2)=>pf m 6 (two 10 acc b) l2)):=by
    exact zm93
   have U:6 * (PL L (j+1)).length+2<=m:=by rw[ht2];rw[ht] at hmj;simp only[Mr] at hmj|-;omega
   have HL:=fa U;have HGA:=fa hga;have HPJ:=fa hpj;have HT:=fa ht;have HK:=fa hk;clear hpj ht h16 hk hga ht2 U hxj;go_wp2_with fail;refine(nE 16 HPJ HT HK zp).mono ?_;rintro e w2 ⟨rfl,ak⟩;have aq:=fa (HPJ.step ak HT (by have:=HK.out;omega));have HF2:=fa (PF.grown (B:=B) ak.gr);clear ak;go_wp2_with fail;refine(HU m zo _ _ _ _ _ _ _ _ aq HL).mono ?_;rintro e w3 ⟨ag,p3,rfl,R⟩;have HG3:=fa (ag.isG aq (HF2.isG HPJ HGA));have HF3:=fa ag;clear ag;go_wp2_with fail;cases hpf3:pf m 3 .nil (PL L (j+1)) with
   |error q=>
    rw[hpf3] at R;obtain⟨NM3,J⟩:=R;have HX3:Hid (pf (n+1) 2 .nil (PL L i)= .error q):=by show _=_;rw[HXJ.out,hpf3]
    have HP3:=fa J;clear J hpf3;refine(kj 10 .nil .nil pa p3).mono ?_;exact zm67
   |ok x=>
    obtain⟨b,l2⟩:=x;have aj:=ju _ _ _ _ _ _ hpf3;rw[hpf3] at R;obtain⟨au,i3,hl3,J⟩:=R;subst hl3;have HX3:Hid (pf (n+1) 2 .nil (PL L i)=pf m 6 (two 10 acc b) (PL L i3)):=by show _=_;rw[HXJ.out,hpf3]
    have HP3:=fa J;have HGB:=fa au;have hl3:6 * (PL L i3).length+1<=m:=by have:=HL.out;omega
    clear J hpf3 au aj;refine(kj 10 acc b pa p3).mono ?_;exact zm47
  obtain⟨t,r,ht,hk⟩:=lD (kS hpj.fe hpj.lt) h16;have HX:Hid (pf (n+1) 2 .nil (PL L i)= .ok (acc,PL L j)):=by show _=_;rw[hxj.out,pf];simp only[h16,if_false]
  have HGA:=fa hga;have HPJ:=fa hpj;have HT:=fa ht;have HK:=fa hk;clear hpj ht h16 hk hga hxj;go_wp2_with fail;refine(lp 16 HPJ HT HK).mono ?_;exact zm171
 obtain⟨t,ht,hk⟩:=mF hpj.fe;have HPJ:=fa hpj;have HT:=fa ht;have HK:=fa (show t.k≠16 from zo);have HXJ:=fa hxj;clear hpj ht hxj hk;go_wp2_with fail;refine(lp 16 HPJ HT HK).mono ?_;exact zm183
theorem Hw(n:Nat)(hU: ∀m,m<=n->GA m):GO (n+1):=by
 intro w pb g cap B L i NM h hn;have HU:=fa hU;have HP:=fa h;clear hU h;go_in;go_wp2_with fail;refine(HU n (Ms _) _ _ _ _ _ _ _ _ HP zo).mono ?_;rintro e w1 ⟨ar,p,rfl,hx⟩;have I: ∃pa,(xk p=xk pa)/\PF pb B w w1/\
   ((∃acc j,n<=n/\6 * (PL L j).length+1<=n/\IsG w1 acc pa/\PP w1 pb g cap B L j false 0 (NM++kJ acc)/\Hid (pf (n+1) 1 .nil (PL L i)=pf n 5 acc (PL L j)))\/(∃q ad,PP w1 pb g cap B L (L.length - 1) true q ad/\Hid (pf (n+1) 1 .nil (PL L i)= .error q))):=by
  refine⟨p,rfl,ar, ?_⟩;cases hpf:pf n 2 .nil (PL L i) with
  |error q=>
   exact zm180
  |ok x=>
   exact zm91
 have HS:=fa I;clear I hx ar;go_wp2
 go_loopg [3] n (fun m v wr=> ∃pa,v=xk pa/\PF pb B w wr/\
   ((∃acc j,m<=n/\6 * (PL L j).length+1<=m/\IsG wr acc pa/\PP wr pb g cap B L j false 0 (NM++kJ acc)/\Hid (pf (n+1) 1 .nil (PL L i)=pf m 5 acc (PL L j)))\/(∃q ad,PP wr pb g cap B L (L.length - 1) true q ad/\Hid (pf (n+1) 1 .nil (PL L i)= .error q))))
 ·trivial
 clear HS;obtain⟨pa,rfl,av,ae⟩:=hrel;have HFJ:=fa av;clear av;rcases ae with⟨acc,j,hm,hmj,hga,hpj,hxj⟩|⟨q,NMj,hpj,hxj⟩
 ·obtain⟨m,rfl⟩: ∃m,gk=m+1:=⟨gk - 1,zo⟩;by_cases h16:gu (PL L j)=15
  ·obtain⟨t,u,r,ht,hk⟩:=km (kS hpj.fe hpj.lt) zp h16;have ht2:=iL ht zo;have HXJ:Hid (pf (n+1) 1 .nil (PL L i)=(match pf m 2 .nil (PL L (j+1)) with| .error q=> .error q| .ok (b,l2)=>pf m 5 (two 11 acc b) l2)):=by
    exact zm93
   have U:6 * (PL L (j+1)).length+3<=m:=by rw[ht2];rw[ht] at hmj;simp only[Mr] at hmj|-;omega
   have HL:=fa U;have HGA:=fa hga;have HPJ:=fa hpj;have HT:=fa ht;have HK:=fa hk;clear hpj ht h16 hk hga ht2 U hxj;go_wp2_with fail;refine(nE 15 HPJ HT HK zp).mono ?_;rintro e w2 ⟨rfl,ak⟩;have aq:=fa (HPJ.step ak HT (by have:=HK.out;omega));have HF2:=fa (PF.grown (B:=B) ak.gr);clear ak;go_wp2_with fail;refine(HU m zo _ _ _ _ _ _ _ _ aq HL).mono ?_;rintro e w3 ⟨ag,p3,rfl,R⟩;have HG3:=fa (ag.isG aq (HF2.isG HPJ HGA));have HF3:=fa ag;clear ag;go_wp2_with fail;cases hpf3:pf m 2 .nil (PL L (j+1)) with
   |error q=>
    rw[hpf3] at R;obtain⟨NM3,J⟩:=R;have HX3:Hid (pf (n+1) 1 .nil (PL L i)= .error q):=by show _=_;rw[HXJ.out,hpf3]
    have HP3:=fa J;clear J hpf3;refine(kj 11 .nil .nil pa p3).mono ?_;exact zm67
   |ok x=>
    obtain⟨b,l2⟩:=x;have aj:=ju _ _ _ _ _ _ hpf3;rw[hpf3] at R;obtain⟨au,i3,hl3,J⟩:=R;subst hl3;have HX3:Hid (pf (n+1) 1 .nil (PL L i)=pf m 5 (two 11 acc b) (PL L i3)):=by show _=_;rw[HXJ.out,hpf3]
    have HP3:=fa J;have HGB:=fa au;have hl3:6 * (PL L i3).length+1<=m:=by have:=HL.out;omega
    clear J hpf3 au aj;refine(kj 11 acc b pa p3).mono ?_;exact zm47
  obtain⟨t,r,ht,hk⟩:=lD (kS hpj.fe hpj.lt) h16;have HX:Hid (pf (n+1) 1 .nil (PL L i)= .ok (acc,PL L j)):=by show _=_;rw[hxj.out,pf];simp only[h16,if_false]
  have HGA:=fa hga;have HPJ:=fa hpj;have HT:=fa ht;have HK:=fa hk;clear hpj ht h16 hk hga hxj;go_wp2_with fail;refine(lp 15 HPJ HT HK).mono ?_;exact zm171
 obtain⟨t,ht,hk⟩:=mF hpj.fe;have HPJ:=fa hpj;have HT:=fa ht;have HK:=fa (show t.k≠15 from zo);have HXJ:=fa hxj;clear hpj ht hxj hk;go_wp2_with fail;refine(lp 15 HPJ HT HK).mono ?_;exact zm183
theorem iE{k c:Nat}(h:k≠c):((k:Int)==(c:Int))=false:=zs
theorem mu{k c:Nat}(h:k=c):((k:Int)==(c:Int))=true:=zs
theorem F9(n:Nat)(U:GU n)(w:World)(pb g cap B:Nat)(L:List Tk)(i:Nat)(NM:List Tk)(t:Tk)(r:List Tk)(h:PP w pb g cap B L i false 0 NM)(ht:PL L i=t::r)(I:t.k=17)(hn:6 * r.length+1<=n):
  Calls prog 290 #[xk (some ⟨pb,0,none⟩)] w fun e w'=>ky L pb g cap B NM w w' e (lF 4 (pf n 4 .nil r)):=by
 have J:=fa h;have R:=fa ht;have e17:=mu (c:=17) I;have HK:=fa I;have HU:=fa U;clear h ht I U;go_in;go_wp2_with fail;refine(jc _ _ _ _ _ _ _ _ _ _ _ J R).mono ?_;rintro e w1 ⟨rfl,rfl⟩;go_wp2_with fail;refine(lT n HU 4 J R (by have:=HK.out;omega) zp hn).mono ?_;exact zm25
theorem IT(n:Nat)(U:GU n)(w:World)(pb g cap B:Nat)(L:List Tk)(i:Nat)(NM:List Tk)(t:Tk)(r:List Tk)(h:PP w pb g cap B L i false 0 NM)(ht:PL L i=t::r)(I:t.k=9)(hn:6 * r.length+1<=n):
  Calls prog 290 #[xk (some ⟨pb,0,none⟩)] w fun e w'=>ky L pb g cap B NM w w' e (lF 5 (pf n 4 .nil r)):=by
 have J:=fa h;have R:=fa ht;have e17:((t.k:Int)==17)=false:=iE (c:=17) zo;have e9:=mu (c:=9) I;have HK:=fa I;have HU:=fa U;clear h ht I U;go_in;go_wp2_with fail;refine(jc _ _ _ _ _ _ _ _ _ _ _ J R).mono ?_;rintro e w1 ⟨rfl,rfl⟩;go_wp2_with fail;refine(lT n HU 5 J R (by have:=HK.out;omega) zp hn).mono ?_;exact zm25
theorem F6(n:Nat)(U:GU n)(w:World)(pb g cap B:Nat)(L:List Tk)(i:Nat)(NM:List Tk)(t:Tk)(r:List Tk)(h:PP w pb g cap B L i false 0 NM)(ht:PL L i=t::r)(I:t.k=10)(hn:6 * r.length+1<=n):
  Calls prog 290 #[xk (some ⟨pb,0,none⟩)] w fun e w'=>ky L pb g cap B NM w w' e (lF 6 (pf n 4 .nil r)):=by
 have J:=fa h;have R:=fa ht;have e17:((t.k:Int)==17)=false:=iE (c:=17) zo;have e9:((t.k:Int)==9)=false:=iE (c:=9) zo;have e10:=mu (c:=10) I;have HK:=fa I;have HU:=fa U;clear h ht I U;go_in;go_wp2_with fail;refine(jc _ _ _ _ _ _ _ _ _ _ _ J R).mono ?_;rintro e w1 ⟨rfl,rfl⟩;go_wp2_with fail;refine(lT n HU 6 J R (by have:=HK.out;omega) zp hn).mono ?_;exact zm25
theorem F7(n:Nat)(U:GU n)(w:World)(pb g cap B:Nat)(L:List Tk)(i:Nat)(NM:List Tk)(t:Tk)(r:List Tk)(h:PP w pb g cap B L i false 0 NM)(ht:PL L i=t::r)(I:t.k=11)(hn:6 * r.length+1<=n):
  Calls prog 290 #[xk (some ⟨pb,0,none⟩)] w fun e w'=>ky L pb g cap B NM w w' e (lF 7 (pf n 4 .nil r)):=by
 have J:=fa h;have R:=fa ht;have e17:((t.k:Int)==17)=false:=iE (c:=17) zo;have e9:((t.k:Int)==9)=false:=iE (c:=9) zo;have e10:((t.k:Int)==10)=false:=iE (c:=10) zo;have e11:=mu (c:=11) I;have HK:=fa I;have HU:=fa U;clear h ht I U;go_in;go_wp2_with fail;refine(jc _ _ _ _ _ _ _ _ _ _ _ J R).mono ?_;rintro e w1 ⟨rfl,rfl⟩;go_wp2_with fail;refine(lT n HU 7 J R (by have:=HK.out;omega) zp hn).mono ?_;exact zm25
theorem F8(n:Nat)(U:GU n)(w:World)(pb g cap B:Nat)(L:List Tk)(i:Nat)(NM:List Tk)(t:Tk)(r:List Tk)(h:PP w pb g cap B L i false 0 NM)(ht:PL L i=t::r)(I:t.k=12)(hn:6 * r.length+1<=n):
  Calls prog 290 #[xk (some ⟨pb,0,none⟩)] w fun e w'=>ky L pb g cap B NM w w' e (lF 8 (pf n 4 .nil r)):=by
 have J:=fa h;have R:=fa ht;have e17:((t.k:Int)==17)=false:=iE (c:=17) zo;have e9:((t.k:Int)==9)=false:=iE (c:=9) zo;have e10:((t.k:Int)==10)=false:=iE (c:=10) zo;have e11:((t.k:Int)==11)=false:=iE (c:=11) zo;have e12:=mu (c:=12) I;have HK:=fa I;have HU:=fa U;clear h ht I U;go_in;go_wp2_with fail;refine(jc _ _ _ _ _ _ _ _ _ _ _ J R).mono ?_;rintro e w1 ⟨rfl,rfl⟩;go_wp2_with fail;refine(lT n HU 8 J R (by have:=HK.out;omega) zp hn).mono ?_;exact zm25
theorem Ga(n:Nat)(U:GF n)(w:World)(pb g cap B:Nat)(L:List Tk)(i:Nat)(NM:List Tk)(t:Tk)(r:List Tk)(h:PP w pb g cap B L i false 0 NM)(ht:PL L i=t::r)(I:t.k=18)(hn:6 * r.length+5<=n):
  Calls prog 290 #[xk (some ⟨pb,0,none⟩)] w fun e w'=>ky L pb g cap B NM w w' e (Cy (pf n 0 .nil r)):=by
 have J:=fa h;have R:=fa ht;have e17:((t.k:Int)==17)=false:=iE (c:=17) zo;have e9:((t.k:Int)==9)=false:=iE (c:=9) zo;have e10:((t.k:Int)==10)=false:=iE (c:=10) zo;have e11:((t.k:Int)==11)=false:=iE (c:=11) zo;have e12:((t.k:Int)==12)=false:=iE (c:=12) zo;have e18:=mu (c:=18) I;have HK:=fa I;have HU:=fa U;clear h ht I U;go_in;go_wp2_with fail;refine(jc _ _ _ _ _ _ _ _ _ _ _ J R).mono ?_;rintro e w1 ⟨rfl,rfl⟩;go_wp2_with fail;refine(Ba n HU J R HK hn).mono ?_;exact zm25
theorem IP(w:World)(pb g cap B:Nat)(L:List Tk)(i:Nat)(NM:List Tk)(t:Tk)(r:List Tk)(h:PP w pb g cap B L i false 0 NM)(U:PL L i=t::r)(I:t.k=6):
  Calls prog 290 #[xk (some ⟨pb,0,none⟩)] w fun e w'=>ky L pb g cap B NM w w' e (.ok (leaf 1 ByteArray.empty 0,r)):=by
 have J:=fa h;have R:=fa U;have e17:((t.k:Int)==17)=false:=iE (c:=17) zo;have e9:((t.k:Int)==9)=false:=iE (c:=9) zo;have e10:((t.k:Int)==10)=false:=iE (c:=10) zo;have e11:((t.k:Int)==11)=false:=iE (c:=11) zo;have e12:((t.k:Int)==12)=false:=iE (c:=12) zo;have e18:((t.k:Int)==18)=false:=iE (c:=18) zo;have e6:=mu (c:=6) I;have HK:=fa I;clear h U I;go_in;go_wp2_with fail;refine(jc _ _ _ _ _ _ _ _ _ _ _ J R).mono ?_;rintro e w1 ⟨rfl,rfl⟩;go_wp2_with fail;refine(tD 1 J R (by have:=HK.out;omega) zp).mono ?_;exact zm25
theorem IQ(w:World)(pb g cap B:Nat)(L:List Tk)(i:Nat)(NM:List Tk)(t:Tk)(r:List Tk)(h:PP w pb g cap B L i false 0 NM)(U:PL L i=t::r)(I:t.k=7):
  Calls prog 290 #[xk (some ⟨pb,0,none⟩)] w fun e w'=>ky L pb g cap B NM w w' e (.ok (leaf 2 ByteArray.empty 0,r)):=by
 have J:=fa h;have R:=fa U;have e17:((t.k:Int)==17)=false:=iE (c:=17) zo;have e9:((t.k:Int)==9)=false:=iE (c:=9) zo;have e10:((t.k:Int)==10)=false:=iE (c:=10) zo;have e11:((t.k:Int)==11)=false:=iE (c:=11) zo;have e12:((t.k:Int)==12)=false:=iE (c:=12) zo;have e18:((t.k:Int)==18)=false:=iE (c:=18) zo;have e6:((t.k:Int)==6)=false:=iE (c:=6) zo;have e7:=mu (c:=7) I;have HK:=fa I;clear h U I;go_in;go_wp2_with fail;refine(jc _ _ _ _ _ _ _ _ _ _ _ J R).mono ?_;rintro e w1 ⟨rfl,rfl⟩;go_wp2_with fail;refine(tD 2 J R (by have:=HK.out;omega) zp).mono ?_;exact zm25
theorem IS(w:World)(pb g cap B:Nat)(L:List Tk)(i:Nat)(NM:List Tk)(t:Tk)(r:List Tk)(h:PP w pb g cap B L i false 0 NM)(U:PL L i=t::r)(I:t.k=8):
  Calls prog 290 #[xk (some ⟨pb,0,none⟩)] w fun e w'=>ky L pb g cap B NM w w' e (.ok (leaf 3 ByteArray.empty 0,r)):=by
 have J:=fa h;have R:=fa U;have e17:((t.k:Int)==17)=false:=iE (c:=17) zo;have e9:((t.k:Int)==9)=false:=iE (c:=9) zo;have e10:((t.k:Int)==10)=false:=iE (c:=10) zo;have e11:((t.k:Int)==11)=false:=iE (c:=11) zo;have e12:((t.k:Int)==12)=false:=iE (c:=12) zo;have e18:((t.k:Int)==18)=false:=iE (c:=18) zo;have e6:((t.k:Int)==6)=false:=iE (c:=6) zo;have e7:((t.k:Int)==7)=false:=iE (c:=7) zo;have e8:=mu (c:=8) I;have HK:=fa I;clear h U I;go_in;go_wp2_with fail;refine(jc _ _ _ _ _ _ _ _ _ _ _ J R).mono ?_;rintro e w1 ⟨rfl,rfl⟩;go_wp2_with fail;refine(tD 3 J R (by have:=HK.out;omega) zp).mono ?_;exact zm25
theorem F5(w:World)(pb g cap B:Nat)(L:List Tk)(i:Nat)(NM:List Tk)(t:Tk)(r:List Tk)(h:PP w pb g cap B L i false 0 NM)(R:PL L i=t::r) 
  (hk:t.k≠17/\t.k≠9/\t.k≠10/\t.k≠11/\t.k≠12/\t.k≠18/\t.k≠6/\t.k≠7/\t.k≠8)
  (hx:if t.k=2 then x= .ok (leaf 0 t.s t.p,r) else x= .error t.p):
  Calls prog 290 #[xk (some ⟨pb,0,none⟩)] w fun e w'=>ky L pb g cap B NM w w' e x:=by
 have HP:=fa h;have HT:=fa R;obtain⟨h1,J,h3,h4,h5,h6,h7,h8,h9⟩:=hk;have e17:=iE (c:=17) h1;have e9:=iE (c:=9) J;have e10:=iE (c:=10) h3;have e11:=iE (c:=11) h4;have e12:=iE (c:=12) h5;have e18:=iE (c:=18) h6;have e6:=iE (c:=6) h7;have e7:=iE (c:=7) h8;have e8:=iE (c:=8) h9;clear h1 J h3 h4 h5 h6 h7 h8 h9;have I:Calls prog 295 #[xk (some ⟨pb,0,none⟩)] w fun e w'=>ky L pb g cap B NM w w' e x:=by
  by_cases J:t.k=2
  ·rw[if_pos J] at hx;subst hx;refine(uy w pb g cap B L i NM t h (i+1) false 0 (h.fe.nextLt R zo) (fun _=>by have:=h.nm rfl;omega) (kG 2 _ _ _ _ _ _ _ _ _ _ _ _ h R J zp)).mono ?_;rintro e w1 ⟨p,rfl,hg,U,hf⟩;have e1:(⟨2,t.s,t.p⟩:Tk)=t:=by cases t;simp_all
   exact⟨hf,p,rfl,hg,i+1,iL R zo,by rw[A0,e1];exact U⟩
  rw[if_neg J] at hx;subst hx;refine(uy w pb g cap B L i NM t h (L.length - 1) true t.p (by have:=h.lt;omega) (fun e=>by cases e) (qk 2 _ _ _ _ _ _ _ _ _ _ _ _ h R J)).mono ?_;rintro e w1 ⟨p,rfl,hg,U,hf⟩;exact⟨hf,p,rfl,_,U⟩
 have HA:=fa I;clear I h R hx;go_in;go_wp2_with fail;refine(jc _ _ _ _ _ _ _ _ _ _ _ HP HT).mono ?_;rintro e w1 ⟨rfl,rfl⟩;go_wp2_with fail;refine HA.mono ?_;exact zm25
theorem Cj(n:Nat)(U:GU n)(hF:GF n):GU (n+1):=by
 intro w pb g cap B L i NM h hn;obtain⟨t,r,J⟩:=kT h.fe h.lt;have ae:6 * r.length+5<=n:=by rw[J] at hn;simp only[Mr] at hn;omega
 have R:gu (PL L i)=t.k:=by rw[J];rfl
 have aa:gQ (PL L i)=t.p:=by rw[J];rfl
 have ad:I6 (PL L i)=t.s:=by rw[J];rfl
 have I:(PL L i).tail=r:=za;by_cases h17:t.k=17
 ·have e:pf (n+1) 4 .nil (PL L i)=lF 4 (pf n 4 .nil r):=by
   rw[pf,R,I,h17];rfl
  rw[e];exact F9 n U w pb g cap B L i NM t r h J h17 zo
 by_cases h9:t.k=9
 ·have e:pf (n+1) 4 .nil (PL L i)=lF 5 (pf n 4 .nil r):=by
   rw[pf,R,I,h9];rfl
  rw[e];exact IT n U w pb g cap B L i NM t r h J h9 zo
 by_cases h10:t.k=10
 ·have e:pf (n+1) 4 .nil (PL L i)=lF 6 (pf n 4 .nil r):=by
   rw[pf,R,I,h10];rfl
  rw[e];exact F6 n U w pb g cap B L i NM t r h J h10 zo
 by_cases h11:t.k=11
 ·have e:pf (n+1) 4 .nil (PL L i)=lF 7 (pf n 4 .nil r):=by
   rw[pf,R,I,h11];rfl
  rw[e];exact F7 n U w pb g cap B L i NM t r h J h11 zo
 by_cases h12:t.k=12
 ·have e:pf (n+1) 4 .nil (PL L i)=lF 8 (pf n 4 .nil r):=by
   rw[pf,R,I,h12];rfl
  rw[e];exact F8 n U w pb g cap B L i NM t r h J h12 zo
 by_cases h18:t.k=18
 ·have e:pf (n+1) 4 .nil (PL L i)=Cy (pf n 0 .nil r):=by
   rw[pf,R,I,h18];rfl
  rw[e];exact Ga n hF w pb g cap B L i NM t r h J h18 ae
 by_cases h6:t.k=6
 ·have e:pf (n+1) 4 .nil (PL L i)= .ok (leaf 1 ByteArray.empty 0,r):=by
   rw[pf,R,I,h6];rfl
  rw[e];exact IP w pb g cap B L i NM t r h J h6
 by_cases h7:t.k=7
 ·have e:pf (n+1) 4 .nil (PL L i)= .ok (leaf 2 ByteArray.empty 0,r):=by
   rw[pf,R,I,h7];rfl
  rw[e];exact IQ w pb g cap B L i NM t r h J h7
 by_cases h8:t.k=8
 ·have e:pf (n+1) 4 .nil (PL L i)= .ok (leaf 3 ByteArray.empty 0,r):=by
   rw[pf,R,I,h8];rfl
  rw[e];exact IS w pb g cap B L i NM t r h J h8
 refine F5 w pb g cap B L i NM t r h J ⟨h17,h9,h10,h11,h12,h18,h6,h7,h8⟩ ?_;have ag:lj t.k=0:=by unfold lj;simp_all
 rw[pf,R,I,aa,ad];simp only[ag,ne_eq,not_true_eq_false,if_false,h18,h6,h7,h8,or_self];by_cases h2:t.k=2
 ·simp only[h2,if_true]
 simp only[h2,if_false]
theorem rU: ∀n m,m<=n->GU m/\GT m/\GA m/\GO m/\GF m
 |0,m,hm=>by
  have:m=0:=zo;subst this;exact⟨fun _ _ _ _ _ _ _ _ _ h=>zo,fun _ _ _ _ _ _ _ _ _ h=>zo,fun _ _ _ _ _ _ _ _ _ h=>zo,fun _ _ _ _ _ _ _ _ _ h=>zo,fun _ _ _ _ _ _ _ _ _ h=>zo⟩
 |n+1,m,hm=>by
  by_cases hlt:m<=n
  ·exact rU n m hlt
  have:m=n+1:=zo;subst this;have I:=rU n;have hn:=I n (Ms _);exact⟨Cj n hn.1 hn.2.2.2.2,Ck n hn.1 hn.1,Fo n (fun m hm=>(I m hm).2.1),Hw n (fun m hm=>(I m hm).2.2.1),zJ n hn.2.2.2.1 hn.2.2.2.2⟩
theorem Bb(n:Nat):GF n:=(rU n n (Ms _)).2.2.2.2
end Go.Proofs.YtidakhhekofkoaaGreatDoor
