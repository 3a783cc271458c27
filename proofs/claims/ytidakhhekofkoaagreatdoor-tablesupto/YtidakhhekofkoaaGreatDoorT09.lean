import Derived.Test.YtidakhhekofkoaaGreatDoorT08
set_option linter.all false
set_option maxHeartbeats 8000000
set_option maxRecDepth 100000
namespace Go.Proofs.YtidakhhekofkoaaGreatDoor
open Go.Proofs.Tryz
open Go.RowKit Go.Deep
open Value renaming slice -> xa, int -> xd, string -> xj, pointer -> xk, bool -> xn
open IntKind renaming i64 -> xh
open Obj renaming cells -> xi
open Ending renaming returned -> xm
open Go.RowKit.Below renaming heap_alloc -> Mr, refl -> Mw, heap_setCell -> ME
open Addr renaming add -> Ms
open Or renaming inr -> Mt
open Nat renaming le_refl -> Mu, zero_le -> Mx
open World renaming ownsRow_nil -> My, cell?_alloc_lt -> MC, drew -> MF
open List renaming drop_eq_nil_of_le -> Mz
open Calls renaming quiet_of_same -> MD
variable {zq:Prop}
variable {w w' w1 w2:World} {B cb n:Nat} {L NM A r:List Tk} {t:Tk} {v:Value} {x y m:Nat × Nat} {xs:List Value} {c:Array Value}
theorem zm5(h:zq:=by
 apply zt0 6 (xk (some ⟨w.heap.size+1,1,none⟩));apply zr 7;intro K hK;go_simp;refine hK _ _ ?_;clear hK K;refine wpAny_done zk ?_ _;go_wp2_with fail
 go_roundg (gk - 1)
 case measure=>omega
 have hks:KQ w4 (w4.setCell ⟨w.heap.size+1,1,none⟩ (xa (some ⟨g4,0,none⟩) (rs.length+1) cap4)):=KQ.set HSB4.out zp zp zp _ _;have hkk:=HKQ4.out.trans hks;have hro:=gq HOWN4.out (fK w4 (w.heap.size+1) 1 (xa (some ⟨g4,0,none⟩) (rs.length+1) cap4)) (Or.inr (fun e=>gp HOWN4.out e HSB4.out zp));have hgg:=gy HG4.out (show w.heap.size<=w.heap.size+1 from zo) 1 (xa (some ⟨g4,0,none⟩) (rs.length+1) cap4);have hrb5:=(Below.heap_setCell w4 ⟨w.heap.size+1,1,none⟩ (xa (some ⟨g4,0,none⟩) (rs.length+1) cap4) w.heap.size zp).trans HRB4.out;have hpp5:=fun B j b q NM h=>(HPR.out B j b q NM h).setTy HSB4.out zp zp 1 (xa (some ⟨g4,0,none⟩) (rs.length+1) cap4)
 rcases HX3.out with⟨rl,l1,hx,h21,hrs,B3,j3,NM3,hl3,hp3⟩|⟨rl,l1,hx,h21,B3,NM3,hp3⟩|⟨q3,hx,B3,NM3,hp3⟩
 ·have:=KM H5.out hlr hlm HMR.out hx h21 hl3;refine⟨al,rs++[{rl with pl:=t.p}],j3,false,0,⟨hrb5,⟨o1,n1,k1,some ⟨g4,0,none⟩,rs.length+1,cap4,rs.length+1,_,fj HSB4.out 1 _,hro,fun _=>⟨hkk.owns HACT3.out,zp, ?_⟩⟩,hgg,B3,NM3,hpp5 _ _ _ _ _ hp3⟩,by rw[hmm];exact this⟩;exact RulesP.snoc (r:={rl with pl:=t.p}) (HRU3.out.keep hkk) ((hrs.pl t.p).keep hkk)
 ·exact⟨al,rs,_,_,_,⟨hrb5,⟨o1,n1,k1,some ⟨g4,0,none⟩,rs.length+1,cap4,rs.length+1,_,fj HSB4.out 1 _,hro,fun e=>by cases e⟩,hgg,B3,NM3,hpp5 _ _ _ _ _ hp3⟩,by rw[hmm];exact Ff H5.out HMR.out (Or.inl ⟨rl,l1,hx,h21,rfl⟩)⟩
 exact⟨al,rs,_,_,_,⟨hrb5,⟨o1,n1,k1,some ⟨g4,0,none⟩,rs.length+1,cap4,rs.length+1,_,fj HSB4.out 1 _,hro,fun e=>by cases e⟩,hgg,B3,NM3,hpp5 _ _ _ _ _ hp3⟩,by rw[hmm];exact Ff H5.out HMR.out (Or.inr hx)⟩
 ):zq:=h
theorem zm8(h:zq:=by
 intro K hK;go_simp;refine hK _ _ ?_;clear hK K;apply zr 5;intro K hK;refine step_append_lies _ zf _ _ 125 zf w.heap.size 201 i0 (.agg #[xd xh 0,xj ⟨#[]⟩,xd xh 0]) 3 32 underlying125 hi hz0 hz1 hz2 rfl zp (xa o1 n1 k1) A.length (gK A) zf ?c0 ⟨w3.heap.size,0,none⟩ 1 1 [xd xh v.k,xj v.s,xd xh v.p] zf rfl ?c1 ?c2 zp ?c3 ?c4 ?c5 (w3.heap.size+1) zp ?_
 case c0=>exact HOWN3.out.alloc _
 case c1=>
  intro j u hj
  match j,hj with
  |0,hj=>simp at hj;subst hj;simp[Addr.add]
  |1,hj=>simp at hj;subst hj;simp[Addr.add]
  |2,hj=>simp at hj;subst hj;simp[Addr.add]
  |j+3,hj=>simp at hj
 case c2=>intro u hu;simp at hu;rcases hu with rfl|rfl|rfl<;>rfl
 case c3=>unfold maxLen;omega
 case c4=>omega
 case c5=>simp;omega
 intro g4 cap4 w4 hown4 hgrow4 hat4 hlt4;have hsb4:=(hgrow4.block (w.heap.size+1) zs (fun e=>gp HOWN3.out e.symm HSB3.out zp)).trans ((Below.heap_alloc _ _ _ hsb3l).trans HSB3.out);have hrb4:=(hgrow4.block w.heap.size zs (fun e=>gp HOWN3.out e.symm HRB3.out zp)).trans ((Below.heap_alloc _ _ _ zo).trans HRB3.out);have HG4:=fa hgrow4;have HOWN4:=fa hown4;have HSB4:=fa hsb4;have HRB4:=fa hrb4;unfold kN at hsb4;have bc4:=cell_of_blk hsb4;have bf4:=fi hsb4;refine hK _ _ ?_;clear hK K hgrow4 hown4 hsb4 hrb4 bc3;apply zt0 6 (xk (some ⟨w.heap.size+1,0,none⟩));apply zr 7;intro K hK;go_simp;refine hK _ _ ?_;clear hK K;refine wpAny_done zk ?_ _;go_wp2_with fail
 go_roundg (gk - 1)
 case measure=>omega
 refine⟨A++[v],j2,b2,q2, ?_,HACT2.out⟩;refine⟨(Below.heap_setCell _ _ _ _ zp).trans HRB4.out,⟨some ⟨g4,0,none⟩,A.length+1,cap4,fj HSB4.out 0 _, ?_⟩,(((HM2.out.trans HM3.out).alloc _).row HG4.out (fun k e=>(gG HOWN3.out k e).1) hp0).setNew zo hp0 _ _,hj2⟩;rw[lV,List.length_append];exact gq HOWN4.out (fK _ _ _ _) (Or.inr (fun e=>gp HOWN4.out e HSB4.out zp))
 ):zq:=h
theorem zm9(h:zq:=by
 clear hK K;apply zrH 8;intro K hK;refine step_append_lies _ zf _ _ 25 zf B 9 i0 (xj ⟨#[]⟩) 1 16 underlying25 hi hz0 hz1 hz2 rfl zd (xa bo bn bk) A.length (kE A) zf ?c0 ⟨w3.heap.size,0,none⟩ 1 1 [xj t.s] zf rfl ?c1 ?c2 zd ?c3 ?c4 ?c5 (w3.heap.size+1) zp ?_
 case c0=>exact fL HO3.out gz.drew
 case c1=>
  intro j u hj
  match j,hj with
  |0,hj=>simp at hj;subst hj;simp[Addr.add]
  |j+1,hj=>simp at hj
 case c2=>intro u hu;simp at hu;subst hu;rfl
 case c3=>unfold maxLen;omega
 case c4=>omega
 case c5=>have:=HF3.out.size;simp;omega
 intro g4 cap4 w4 hown4 hgrow4 hat4 hlt4;have hb4:=(hgrow4.block cb zs (fun e=>hnc3 e.symm)).trans ((Below.heap_alloc _ _ _ hcl3).trans HB3.out);have hbx4:=(hgrow4.block w.heap.size zs (fun e=>hnx3 e.symm)).trans ((Below.heap_alloc _ _ _ hxl3).trans HBX3.out);have hf4:CF cb B w w4:=(HF3.out.trans (CF.below ((Below.refl w3.heap.size w3).alloc (Nat.le_refl _) (xi #[xj t.s] 9)).drew)).trans (CF.row (fL HO3.out gz.drew) hgrow4);refine hK.out _ _ (cell_of_blk hbx4 1) (fun hHeld=> ?_);clear hK K bc bf;have bc:=cell_of_blk hb4;have bf:=fi hb4;have hcl4:=fh hb4;have HB4:=fa hb4;have HF4:=fa hf4;have HO4:=fa hown4;clear hb4 hf4 hown4 hgrow4 hbx4;apply zt1 9 (xk (some ⟨cb,0,none⟩)) hHeld;apply zt1 10 (xk (some ⟨cb,0,none⟩)) hHeld;apply zrH 11;intro K hK;go_simp;refine hK.out _ _ (by show(World.setCell _ _ _).cell? _=_;rw[World.cell?_setCell_far _ _ _ _ (by show cb≠w.heap.size;omega)];omega) (fun hHeld=> ?_);clear hK K;refine wpAnyH_done zk ?_ _;clear hHeld bc bf;go_wp2;go_end0;refine⟨rfl,⟨⟨some ⟨g4,0,none⟩,A.length+1,cap4,fj HB4.out 0 _, ?_⟩,hBc⟩,HF4.out.trans (CF.grown (fK _ _ _ _))⟩;rw[zh,List.length_append];exact gq HO4.out (fK _ _ _ _) (Or.inr (fun e=>gp HO4.out e HB4.out zp))
 ):zq:=h
theorem zm11(h:zq:=by
 intro K hK;go_simp;refine hK _ _ ?_;clear hK K;apply zr 5;intro K hK;refine step_append_lies _ zf _ _ 125 zf w.heap.size 201 i0 (.agg #[xd xh 0,xj ⟨#[]⟩,xd xh 0]) 3 32 underlying125 hi hz0 hz1 hz2 rfl zp (xa none 0 0) 0 (gK []) zf ?c0 ⟨w3.heap.size,0,none⟩ 1 1 [xd xh v.k,xj v.s,xd xh v.p] zf rfl ?c1 ?c2 zp ?c3 ?c4 ?c5 (w3.heap.size+1) zp ?_
 case c0=>exact HOWN3.out.alloc _
 case c1=>
  intro j u hj
  match j,hj with
  |0,hj=>simp at hj;subst hj;simp[Addr.add]
  |1,hj=>simp at hj;subst hj;simp[Addr.add]
  |2,hj=>simp at hj;subst hj;simp[Addr.add]
  |j+3,hj=>simp at hj
 case c2=>intro u hu;simp at hu;rcases hu with rfl|rfl|rfl<;>rfl
 case c3=>decide
 case c4=>omega
 case c5=>simp;omega
 intro g4 cap4 w4 hown4 hgrow4 hat4 hlt4;have hsb4:=(hgrow4.block (w.heap.size+1) zs (fun e=>gp HOWN3.out e.symm HSB3.out zp)).trans ((Below.heap_alloc _ _ _ hsb3l).trans HSB3.out);have hrb4:=(hgrow4.block w.heap.size zs (fun e=>gp HOWN3.out e.symm HRB3.out zp)).trans ((Below.heap_alloc _ _ _ zo).trans HRB3.out);have HG4:=fa hgrow4;have HOWN4:=fa hown4;have HSB4:=fa hsb4;have HRB4:=fa hrb4;unfold kN at hsb4;have bc4:=cell_of_blk hsb4;have bf4:=fi hsb4;refine hK _ _ ?_;clear hK K hgrow4 hown4 hsb4 hrb4 bc3;apply zt0 6 (xk (some ⟨w.heap.size+1,0,none⟩));apply zr 7;intro K hK;go_simp;refine hK _ _ ?_;clear hK K;refine wpAny_done zk ?_ _;go_wp2_with fail
 go_meet
 refine⟨?_,HACT.out⟩;exact⟨(Below.heap_setCell _ _ _ _ zp).trans HRB4.out,⟨some ⟨g4,0,none⟩,0+1,cap4,fj HSB4.out 0 _,gq HOWN4.out (fK _ _ _ _) (Or.inr (fun e=>gp HOWN4.out e HSB4.out zp))⟩,(((HM2.out.trans HM3.out).alloc _).row HG4.out (fun k e=>(gG HOWN3.out k e).1) hp0).setNew zo hp0 _ _,hj1⟩
 ):zq:=h
theorem zm85(h:zq:=by
 go_in;go_wp2;go_end0;rw[HT.out];exact⟨rfl,HC.out.told ((fK _ _ _ _).trans (fK _ _ _ _)) (fun _ _ _ h=>fj (fj h 1 _) 2 _),(fK _ _ _ _).trans (fK _ _ _ _)⟩
 ):zq:=h
theorem DH{pb g cap:Nat}(h:PP w pb g cap B L 0 false 0 NM):
  Calls prog 114 #[xk (some ⟨pb,0,none⟩)] w fun e w'=>Kj L pb g cap w w' e:=by
 obtain⟨i0,hi,hz0,hz1,hz2⟩:=info_parts Tryz.infoTokP;obtain⟨m0,bE,aR,aS,aT⟩:=info_parts Tryz.infoRs;have hp0:=h.pLt;have hnm0:=h.nm rfl;have bt:=h.len;obtain⟨t0,r0,bh⟩:=kT h.fe h.lt;obtain⟨j0,b0,q0,bf⟩:=nO (t0.k=4) t0 L.length 0 false 0;have bP:=bf.lt h.fe bh (fun e=>zo);obtain⟨v,r1,hv⟩:=kT h.fe bP;obtain⟨j1,b1,q1,bg⟩:=nO (v.k=2) v L.length j0 b0 q0;have hj1:=bg.lt h.fe hv (fun e=>zo);have HACT:=fa (Df h.fe bt bh bf hv bg);have HP:=fa h;have cg:=fa bh;have cd:=fa bf;have HV:=fa hv;have bJ:=fa bg;have aq:=fa h.fe;clear h bh bf hv bg;go_in;go_wp2_with fail;refine(jO 4 _ pb g cap B L 0 false 0 NM t0 r0 ((HP.alloc _).alloc _) cg zp j0 b0 q0 cd).mono ?_;rintro e W2 ⟨rfl,au⟩;have HM2:=fa ((((Mv.refl w pb g cap L.length 0 false 0).alloc _).alloc _).trans au);have aJ:=fa (HP.move HM2 bP (fun _=>zo));have hsb:=(au.gr.block (w.heap.size+1) zp zs).trans (fk _ _ _ zp);have hrb:=(au.gr.block w.heap.size zs zs).trans ((Mr _ _ _ zp).trans (ft _ _));have ae:=fh hsb;have ak:=fa hsb;have aj:=fa hrb;unfold kN at hsb;have bc:=cell_of_blk hsb;have aa:Hid (W2.ownsRow w.heap.size 201 3 (xa none 0 0) 0 (gK [])):=My _ _ _ _;have av:(xa none 0 0).ownBlock≠some pb:=by intro e;cases e
 clear au hsb hrb;simp only[je]
 go_upto_region 3 with fail
 go_cut [] (fun wc=>MA w wc pb g cap L [v] j1 b1 q1/\qO L ((PL L 0).length - 1) [v] j1 b1 q1)
 case first=>
  refine wp_region_any zk ?_;change wpAny _ _ _ _ _ _ _ (MF _);apply zt0 0 (xk (some ⟨w.heap.size+1,0,none⟩));apply zt0 2 (xk (some ⟨pb,0,none⟩));refine zr2 1 3 (fun K hK=> ?_) fun K hK=> ?_
  ·go_simp;refine hK _ _ ?_;clear hK K;apply zr 3;intro K hK;go_simp
   go_wp2_with (refine(jO 2 _ pb g cap B L j0 b0 q0 NM v r1 (aJ.later (Mw _ _).drew) HV zp j1 b1 q1 bJ).mono ?_;rintro e w3 ⟨rfl,U⟩)
   have HM3:=fa U.from_drew;have I:=(U.gr.block (w.heap.size+1) ae zs).trans ak;have R:=(U.gr.block w.heap.size (by show w.heap.size<W2.heap.size;omega) zs).trans aj;have J:=gq aa U.from_drew.gr (Mt av);have hsb3l:=fh I;have HSB3:=fa I;have HRB3:=fa R;have HOWN3:=fa J;unfold kN at I;clear U I J R bc;simp only[je];apply zr 4;intro K hK;go_simp;refine hK _ _ ?_;clear hK K;apply zr 5;intro K hK;refine step_append_lies _ zf _ _ 125 zf w.heap.size 201 i0 (.agg #[xd xh 0,xj ⟨#[]⟩,xd xh 0]) 3 32 underlying125 hi hz0 hz1 hz2 rfl zp (xa none 0 0) 0 (gK []) zf ?c0 ⟨w3.heap.size,0,none⟩ 1 1 [xd xh v.k,xj v.s,xd xh v.p] zf rfl ?c1 ?c2 zp ?c3 ?c4 ?c5 (w3.heap.size+1) zp ?_
   case c0=>exact HOWN3.alloc _
   case c1=>
    intro j u hj
    match j,hj with
    |0,hj=>simp at hj;subst hj;simp[Ms]
    |1,hj=>simp at hj;subst hj;simp[Ms]
    |2,hj=>simp at hj;subst hj;simp[Ms]
    |j+3,hj=>simp at hj
   case c2=>intro u hu;simp at hu;rcases hu with rfl|rfl|rfl<;>rfl
   case c3=>decide
   case c4=>omega
   case c5=>simp;omega
   intro g4 cap4 w4 hown4 hgrow4 hat4 hlt4;have hsb4:=(hgrow4.block (w.heap.size+1) zs (fun e=>gp HOWN3 e.symm HSB3 zp)).trans ((Mr _ _ _ hsb3l).trans HSB3);have hrb4:=(hgrow4.block w.heap.size zs (fun e=>gp HOWN3 e.symm HRB3 zp)).trans ((Mr _ _ _ zo).trans HRB3);have HG4:=fa hgrow4;have HOWN4:=fa hown4;have HSB4:=fa hsb4;have HRB4:=fa hrb4;unfold kN at hsb4;have bc4:=cell_of_blk hsb4;have bf4:=fi hsb4;refine hK _ _ ?_;clear hK K hgrow4 hown4 hsb4 hrb4;apply zt0 6 (xk (some ⟨w.heap.size+1,0,none⟩));apply zr 7;intro K hK;go_simp;refine hK _ _ ?_;clear hK K;refine wpAny_done zk ?_ _;go_wp2_with fail
   go_meet
   refine⟨?_,HACT⟩;exact⟨(ME _ _ _ _ zp).trans HRB4,⟨some ⟨g4,0,none⟩,0+1,cap4,fj HSB4 0 _,gq HOWN4 (fK _ _ _ _) (Mt (fun e=>gp HOWN4 e HSB4 zp))⟩,(((HM2.trans HM3).alloc _).row HG4 (fun k e=>(gG HOWN3 k e).1) hp0).setNew zo hp0 _ _,hj1⟩
  ·go_simp
   go_wp2_with (refine(jO 2 _ pb g cap B L j0 b0 q0 NM v r1 (aJ.later (Mw _ _).drew) HV zp j1 b1 q1 bJ).mono ?_;rintro e w3 ⟨rfl,U⟩)
   have HM3:=fa U.from_drew;have I:=(U.gr.block (w.heap.size+1) ae zs).trans ak;have R:=(U.gr.block w.heap.size (by show w.heap.size<W2.heap.size;omega) zs).trans aj;have J:=gq aa U.from_drew.gr (Mt av);have hsb3l:=fh I;have HSB3:=fa I;have HRB3:=fa R;have HOWN3:=fa J;unfold kN at I;have bc3:=cell_of_blk I;clear U I J R bc;simp only[je];refine zr2 1 4 (fun K hK=> ?_) fun K hK=> ?_
   ·go_simp;refine hK _ _ ?_;clear hK K;apply zr 4;exact zm11
   go_simp;refine hK _ _ ?_;clear hK K;apply zr 1;exact zm11
 have bl:=fa hcut;clear hcut bc aa av ak aj HM2 aJ ae;go_wp2
 go_loopg [] ((PL L 0).length - 1) (fun m wr=> ∃A j b q,MA w wr pb g cap L A j b q/\qO L m A j b q)
 ·exact⟨_,_,_,_,bl⟩
 clear bl;obtain⟨A,j,b,q,aL,aF⟩:=hrel;obtain⟨y,r2,hy⟩:=kT aq aL.lt;have a7:=fa (HP.move aL.mv aL.lt (fun _=>zo));have ar:=fa aL;have HY:=fa hy;by_cases h20:y.k=20
 ·have br:=aq.nextLt hy zo;obtain⟨v,r3,hv⟩:=kT aq br;obtain⟨j2,b2,q2,aA⟩:=nO (v.k=2) v L.length (j+1) b q;have hj2:=aA.lt aq hv (fun e=>zo);obtain⟨hgk,hA,aQ⟩:=Dg aq aF hy h20 hv aA;have HACT2:=fa aQ;have HV:=fa hv;have aN:=fa aA;have aW:=fa h20;clear aL aF hy h20 hv aA aQ;go_wp2_with fail;refine(nE 20 a7 HY aW zp).mono ?_;rintro e W2 ⟨rfl,au⟩;have HM2:=fa (ar.mv.trans au);have aJ:=fa (HP.move HM2 br (fun _=>zo));obtain⟨o1,n1,k1,ay,ag⟩:=ar.sbx;have hsb:=(au.gr.block (w.heap.size+1) (fh ay) zs).trans ay;have hrb:=(au.gr.block w.heap.size (fh ar.rbx) zs).trans ar.rbx;have av:=qi ag hp0;have aa:=fa (gq ag au.gr (Mt av));have ae:=fh hsb;have ak:=fa hsb;have aj:=fa hrb;unfold kN at hsb;have bc:=cell_of_blk hsb;clear au hsb hrb ay ag
  go_upto_region 5 with fail
  refine wp_region_any zk ?_;change wpAny _ _ _ _ _ _ _ (MF _);apply zt0 0 (xk (some ⟨w.heap.size+1,0,none⟩));apply zt0 2 (xk (some ⟨pb,0,none⟩));refine zr2 1 3 (fun K hK=> ?_) fun K hK=> ?_
  ·go_simp;refine hK _ _ ?_;clear hK K;apply zr 3;intro K hK;go_simp
   go_wp2_with (refine(jO 2 _ pb g cap B L (j+1) b q NM v r3 (aJ.later (Mw _ _).drew) HV zp j2 b2 q2 aN).mono ?_;rintro e w3 ⟨rfl,U⟩)
   have HM3:=fa U.from_drew;have I:=(U.gr.block (w.heap.size+1) ae zs).trans ak;have R:=(U.gr.block w.heap.size (by show w.heap.size<W2.heap.size;omega) zs).trans aj;have J:=gq aa U.from_drew.gr (Mt av);have hsb3l:=fh I;have HSB3:=fa I;have HRB3:=fa R;have HOWN3:=fa J;unfold kN at I;clear U I J R bc;simp only[je];apply zr 4;intro K hK;go_simp;refine hK _ _ ?_;clear hK K;apply zr 5;intro K hK;refine step_append_lies _ zf _ _ 125 zf w.heap.size 201 i0 (.agg #[xd xh 0,xj ⟨#[]⟩,xd xh 0]) 3 32 underlying125 hi hz0 hz1 hz2 rfl zp (xa o1 n1 k1) A.length (gK A) zf ?c0 ⟨w3.heap.size,0,none⟩ 1 1 [xd xh v.k,xj v.s,xd xh v.p] zf rfl ?c1 ?c2 zp ?c3 ?c4 ?c5 (w3.heap.size+1) zp ?_
   case c0=>exact HOWN3.alloc _
   case c1=>
    intro j u hj
    match j,hj with
    |0,hj=>simp at hj;subst hj;simp[Ms]
    |1,hj=>simp at hj;subst hj;simp[Ms]
    |2,hj=>simp at hj;subst hj;simp[Ms]
    |j+3,hj=>simp at hj
   case c2=>intro u hu;simp at hu;rcases hu with rfl|rfl|rfl<;>rfl
   case c3=>unfold maxLen;omega
   case c4=>omega
   case c5=>simp;omega
   intro g4 cap4 w4 hown4 hgrow4 hat4 hlt4;have hsb4:=(hgrow4.block (w.heap.size+1) zs (fun e=>gp HOWN3 e.symm HSB3 zp)).trans ((Mr _ _ _ hsb3l).trans HSB3);have hrb4:=(hgrow4.block w.heap.size zs (fun e=>gp HOWN3 e.symm HRB3 zp)).trans ((Mr _ _ _ zo).trans HRB3);have HG4:=fa hgrow4;have HOWN4:=fa hown4;have HSB4:=fa hsb4;have HRB4:=fa hrb4;unfold kN at hsb4;have bc4:=cell_of_blk hsb4;have bf4:=fi hsb4;refine hK _ _ ?_;clear hK K hgrow4 hown4 hsb4 hrb4;apply zt0 6 (xk (some ⟨w.heap.size+1,0,none⟩));apply zr 7;intro K hK;go_simp;refine hK _ _ ?_;clear hK K;refine wpAny_done zk ?_ _;go_wp2_with fail
   go_roundg (gk - 1)
   case measure=>omega
   refine⟨A++[v],j2,b2,q2, ?_,HACT2⟩;refine⟨(ME _ _ _ _ zp).trans HRB4,⟨some ⟨g4,0,none⟩,A.length+1,cap4,fj HSB4 0 _, ?_⟩,(((HM2.trans HM3).alloc _).row HG4 (fun k e=>(gG HOWN3 k e).1) hp0).setNew zo hp0 _ _,hj2⟩;rw[lV,List.length_append];exact gq HOWN4 (fK _ _ _ _) (Mt (fun e=>gp HOWN4 e HSB4 zp))
  go_simp
  go_wp2_with (refine(jO 2 _ pb g cap B L (j+1) b q NM v r3 (aJ.later (Mw _ _).drew) HV zp j2 b2 q2 aN).mono ?_;rintro e w3 ⟨rfl,U⟩)
  have HM3:=fa U.from_drew;have I:=(U.gr.block (w.heap.size+1) ae zs).trans ak;have R:=(U.gr.block w.heap.size (by show w.heap.size<W2.heap.size;omega) zs).trans aj;have J:=gq aa U.from_drew.gr (Mt av);have hsb3l:=fh I;have HSB3:=fa I;have HRB3:=fa R;have HOWN3:=fa J;unfold kN at I;have bc3:=cell_of_blk I;clear U I J R bc;simp only[je];refine zr2 1 4 (fun K hK=> ?_) fun K hK=> ?_
  ·go_simp;refine hK _ _ ?_;clear hK K;apply zr 4;exact zm8
  go_simp;refine hK _ _ ?_;clear hK K;apply zr 1;exact zm8
 have bm:=fa (Gj aF hy h20);have aW:=fa h20;obtain⟨j2,b2,q2,aA⟩:=nO (y.k=21) y L.length j b q;have hj2:=aA.lt aq hy (fun e=>zo);have bn:=fa (Fe aq bt bm hy aA);have aN:=fa aA;clear aL aF hy h20 aA;go_wp2_with fail;refine(lp 20 a7 HY aW).mono ?_;rintro e w2 ⟨rfl,bX⟩;have ck:=bX.symm;clear bX;subst ck;go_wp2_with fail;refine(jO 21 _ pb g cap B L j b q NM y r2 a7 HY zp j2 b2 q2 aN).mono ?_;rintro e w5 ⟨rfl,aK⟩;have aI:MB w w5 pb g cap L A [] j2 b2 q2:=by
  obtain⟨o1,n1,k1,ay,ag⟩:=ar.sbx;exact⟨(aK.gr.block w.heap.size (fh ar.rbx) zs).trans ar.rbx,⟨o1,n1,k1,none,0,0,0,[],(aK.gr.block (w.heap.size+1) (fh ay) zs).trans ay,My _ _ _ _,fun _=>⟨gq ag aK.gr (Mt (qi ag hp0)),rfl,rfl⟩⟩,ar.mv.gr.trans aK.gr,B,NM,HP.move (ar.mv.trans aK) hj2 (fun _=>zo)⟩
 have bK:=fa aI;clear aI aK;simp only[je];go_wp2
 go_loopg [] (PL L j).length (fun m wr=> ∃al rs j b q,MB w wr pb g cap L al rs j b q/\ud L m al rs j b q)
 ·exact⟨_,_,_,_,_,bK,bn⟩
 clear bK bn ar a7 HY bm aW aN hj2;obtain⟨al,rs,j,b,q,hmb,aG⟩:=hrel;obtain⟨B2,aD,ao⟩:=hmb.pp;obtain⟨t,r,ht⟩:=kT aq ao.lt;have aB:=fa ao;have a8:=fa ht;have aY:=fa hmb.gr;by_cases h5:t.k=5
 ·obtain⟨hb,hq,hrl,m',hmm,hlr,hlm,bR⟩:=Hk aq aG ht h5;subst hb hq;obtain⟨o1,n1,k1,o2,n2,k2,nR,cells,hsb,ax,an⟩:=hmb.sbx;obtain⟨aE,bF,bd⟩:=an rfl;subst bF;have hrb:=hmb.rbx;have av:=qi ax hp0;have bw:=qi aE hp0;have e5:=mu (c:=5) h5;have bu:gk - 1=m':=zo;have aa:=fa ax;have aM:=fa aE;have bI:=fa bd;have HMR:=fa bR;have H5:=fa h5;have ak:=fa hsb;have aj:=fa hrb;have ae:=fh hsb;unfold kN at hsb;have bc:=cell_of_blk hsb;have hmm:=bu;clear hmb aG ao ht h5 ax aE bd bR hsb hrb an bu
  go_wp2_with (refine(jc _ _ _ _ _ _ _ _ _ _ _ aB a8).mono ?_;rintro e W2 ⟨rfl,aP⟩;have bD:=aP.symm;clear aP;subst bD)
  generalize wr=W2 at *;refine wp_region_any zk ?_;change wpAny _ _ _ _ _ _ _ (MF _);apply zt0 0 (xk (some ⟨w.heap.size+1,1,none⟩));apply zt0 2 (xk (some ⟨pb,0,none⟩));refine zr2 1 3 (fun K hK=> ?_) fun K hK=> ?_
  ·go_simp;refine hK _ _ ?_;clear hK K;apply zr 3;intro K hK;go_simp
   go_wp2_with (refine(yW pb g cap B2 L j aD t r (aB.later (Mw _ _).drew) a8 H5).mono ?_;rintro e w3 ⟨az,fp,no,nn,nc,cp,rfl,aU⟩)
   have ad:=mQ az;have aX:=fa ad;have HX3:=fa aU;have I:=(az.block (w.heap.size+1) ae zs).trans ak;have R:=(az.block w.heap.size (by show w.heap.size<W2.heap.size;omega) zs).trans aj;have J:=gq aa ad (Mt av);have HACT3:=fa (gq aM ad (Mt bw));have HRU3:=fa (bI.keep (aB.kq ad));have hsb3l:=fh I;have HSB3:=fa I;have HRB3:=fa R;have HOWN3:=fa J;unfold kN at I;clear az ad I J R bc aU;apply zr 4;intro K hK;go_simp;refine hK _ _ ?_;clear hK K;apply zr 5;intro K hK;refine step_append_lies _ zf _ _ 126 zf w.heap.size 205 m0 (.agg #[xd xh 0,xj ⟨#[]⟩,xd xh 0,xk none,xa none 0 0,xk none]) 6 72 underlying126 bE aR aS aT rfl zp (xa o2 n2 k2) rs.length cells zf ?c0 ⟨w3.heap.size,0,none⟩ 1 1 [xd xh t.k,xj t.s,xd xh t.p,xk fp,xa no nn nc,xk cp] zf rfl ?c1 ?c2 zp ?c3 ?c4 ?c5 (w3.heap.size+1) zp ?_
   case c0=>exact HOWN3.alloc _
   case c1=>
    intro j u hj
    match j,hj with
    |0,hj=>simp at hj;subst hj;simp[Ms]
    |1,hj=>simp at hj;subst hj;simp[Ms]
    |2,hj=>simp at hj;subst hj;simp[Ms]
    |3,hj=>simp at hj;subst hj;simp[Ms]
    |4,hj=>simp at hj;subst hj;simp[Ms]
    |5,hj=>simp at hj;subst hj;simp[Ms]
    |j+6,hj=>trivial
   case c2=>intro u hu;simp at hu;rcases hu with rfl|rfl|rfl|rfl|rfl|rfl<;>rfl
   case c3=>unfold maxLen;omega
   case c4=>omega
   case c5=>simp;omega
   intro g4 cap4 w4 hown4 hgrow4 hat4 hlt4;have hsb4:=(hgrow4.block (w.heap.size+1) zs (fun e=>gp HOWN3 e.symm HSB3 zp)).trans ((Mr _ _ _ hsb3l).trans HSB3);have hrb4:=(hgrow4.block w.heap.size zs (fun e=>gp HOWN3 e.symm HRB3 zp)).trans ((Mr _ _ _ zo).trans HRB3);have ai:=(KQ.below gz).trans (KQ.row (HOWN3.alloc _) hgrow4);have HPR:=fa (fun (B:Nat) (j:Nat) (b:Bool) (q:Nat) (NM:List Tk) (h:PP w3 pb g cap B L j b q NM)=>PP.row' (h.alloc _) (HOWN3.alloc _) hgrow4);have HKQ4:=fa ai;have HG4:=fa (s6 (gI (aY.trans aX) _) hgrow4 (fun k e=>(gG HOWN3 k e).1));have HOWN4:=fa hown4;have HSB4:=fa hsb4;have HRB4:=fa hrb4;unfold kN at hsb4;have bc4:=cell_of_blk hsb4;have bf4:=fi hsb4;refine hK _ _ ?_;clear hK K hgrow4 hown4 hsb4 hrb4 ai;exact zm5
  go_simp
  go_wp2_with (refine(yW pb g cap B2 L j aD t r (aB.later (Mw _ _).drew) a8 H5).mono ?_;rintro e w3 ⟨az,fp,no,nn,nc,cp,rfl,aU⟩)
  have ad:=mQ az;have aX:=fa ad;have HX3:=fa aU;have I:=(az.block (w.heap.size+1) ae zs).trans ak;have R:=(az.block w.heap.size (by show w.heap.size<W2.heap.size;omega) zs).trans aj;have J:=gq aa ad (Mt av);have HACT3:=fa (gq aM ad (Mt bw));have HRU3:=fa (bI.keep (aB.kq ad));have hsb3l:=fh I;have HSB3:=fa I;have HRB3:=fa R;have HOWN3:=fa J;unfold kN at I;have bc3:=cell_of_blk I;clear az ad I J R bc aU;refine zr2 1 4 (fun K hK=> ?_) fun K hK=> ?_
  ·go_simp;refine hK _ _ ?_;clear hK K;apply zr 4;intro K hK;go_simp;refine hK _ _ ?_;clear hK K;apply zr 5;intro K hK;refine step_append_lies _ zf _ _ 126 zf w.heap.size 205 m0 (.agg #[xd xh 0,xj ⟨#[]⟩,xd xh 0,xk none,xa none 0 0,xk none]) 6 72 underlying126 bE aR aS aT rfl zp (xa o2 n2 k2) rs.length cells zf ?c0 ⟨w3.heap.size,0,none⟩ 1 1 [xd xh t.k,xj t.s,xd xh t.p,xk fp,xa no nn nc,xk cp] zf rfl ?c1 ?c2 zp ?c3 ?c4 ?c5 (w3.heap.size+1) zp ?_
   case c0=>exact HOWN3.alloc _
   case c1=>
    intro j u hj
    match j,hj with
    |0,hj=>simp at hj;subst hj;simp[Ms]
    |1,hj=>simp at hj;subst hj;simp[Ms]
    |2,hj=>simp at hj;subst hj;simp[Ms]
    |3,hj=>simp at hj;subst hj;simp[Ms]
    |4,hj=>simp at hj;subst hj;simp[Ms]
    |5,hj=>simp at hj;subst hj;simp[Ms]
    |j+6,hj=>trivial
   case c2=>intro u hu;simp at hu;rcases hu with rfl|rfl|rfl|rfl|rfl|rfl<;>rfl
   case c3=>unfold maxLen;omega
   case c4=>omega
   case c5=>simp;omega
   intro g4 cap4 w4 hown4 hgrow4 hat4 hlt4;have hsb4:=(hgrow4.block (w.heap.size+1) zs (fun e=>gp HOWN3 e.symm HSB3 zp)).trans ((Mr _ _ _ hsb3l).trans HSB3);have hrb4:=(hgrow4.block w.heap.size zs (fun e=>gp HOWN3 e.symm HRB3 zp)).trans ((Mr _ _ _ zo).trans HRB3);have ai:=(KQ.below gz).trans (KQ.row (HOWN3.alloc _) hgrow4);have HPR:=fa (fun (B:Nat) (j:Nat) (b:Bool) (q:Nat) (NM:List Tk) (h:PP w3 pb g cap B L j b q NM)=>PP.row' (h.alloc _) (HOWN3.alloc _) hgrow4);have HKQ4:=fa ai;have HG4:=fa (s6 (gI (aY.trans aX) _) hgrow4 (fun k e=>(gG HOWN3 k e).1));have HOWN4:=fa hown4;have HSB4:=fa hsb4;have HRB4:=fa hrb4;unfold kN at hsb4;have bc4:=cell_of_blk hsb4;have bf4:=fi hsb4;refine hK _ _ ?_;clear hK K hgrow4 hown4 hsb4 hrb4 bc3 ai;exact zm5
  go_simp;refine hK _ _ ?_;clear hK K;apply zr 1;intro K hK;go_simp;refine hK _ _ ?_;clear hK K;apply zr 5;intro K hK;refine step_append_lies _ zf _ _ 126 zf w.heap.size 205 m0 (.agg #[xd xh 0,xj ⟨#[]⟩,xd xh 0,xk none,xa none 0 0,xk none]) 6 72 underlying126 bE aR aS aT rfl zp (xa o2 n2 k2) rs.length cells zf ?c0 ⟨w3.heap.size,0,none⟩ 1 1 [xd xh t.k,xj t.s,xd xh t.p,xk fp,xa no nn nc,xk cp] zf rfl ?c1 ?c2 zp ?c3 ?c4 ?c5 (w3.heap.size+1) zp ?_
  case c0=>exact HOWN3.alloc _
  case c1=>
   intro j u hj
   match j,hj with
   |0,hj=>simp at hj;subst hj;simp[Ms]
   |1,hj=>simp at hj;subst hj;simp[Ms]
   |2,hj=>simp at hj;subst hj;simp[Ms]
   |3,hj=>simp at hj;subst hj;simp[Ms]
   |4,hj=>simp at hj;subst hj;simp[Ms]
   |5,hj=>simp at hj;subst hj;simp[Ms]
   |j+6,hj=>trivial
  case c2=>intro u hu;simp at hu;rcases hu with rfl|rfl|rfl|rfl|rfl|rfl<;>rfl
  case c3=>unfold maxLen;omega
  case c4=>omega
  case c5=>simp;omega
  intro g4 cap4 w4 hown4 hgrow4 hat4 hlt4;have hsb4:=(hgrow4.block (w.heap.size+1) zs (fun e=>gp HOWN3 e.symm HSB3 zp)).trans ((Mr _ _ _ hsb3l).trans HSB3);have hrb4:=(hgrow4.block w.heap.size zs (fun e=>gp HOWN3 e.symm HRB3 zp)).trans ((Mr _ _ _ zo).trans HRB3);have ai:=(KQ.below gz).trans (KQ.row (HOWN3.alloc _) hgrow4);have HPR:=fa (fun (B:Nat) (j:Nat) (b:Bool) (q:Nat) (NM:List Tk) (h:PP w3 pb g cap B L j b q NM)=>PP.row' (h.alloc _) (HOWN3.alloc _) hgrow4);have HKQ4:=fa ai;have HG4:=fa (s6 (gI (aY.trans aX) _) hgrow4 (fun k e=>(gG HOWN3 k e).1));have HOWN4:=fa hown4;have HSB4:=fa hsb4;have HRB4:=fa hrb4;unfold kN at hsb4;have bc4:=cell_of_blk hsb4;have bf4:=fi hsb4;refine hK _ _ ?_;clear hK K hgrow4 hown4 hsb4 hrb4 bc3 ai;exact zm5
 have e5:=iE (c:=5) h5;have bo:=JE aq aG ht h5;obtain⟨j',b',q',hT,ch,bS,bO,bN⟩: ∃j' b' q',(Calls prog 153 #[xk (some ⟨pb,0,none⟩),xd xh 0] wr fun e w'=>e=xm (je t)/\Mv wr w' pb g cap L.length j b q j' b' q')/\j'<L.length/\(b'=false->aD.length<=j')/\(b'=false->b=false/\gW (PL L 0)= .ok (al,rs))/\(b'=true->gW (PL L 0)= .error q'):=by
  rcases bo with⟨h0,hb,hx⟩|⟨h0,hb,hq,hx⟩|⟨h0,hb,hx⟩
  ·exact⟨j,b,q,yX wr pb g cap B2 L j b q aD t r ao ht h0,ao.lt,fun e=>ao.nm e,fun e=>⟨hb,hx⟩,fun e=>by rw[hb] at e;cases e⟩
  ·subst hb hq;exact⟨L.length - 1,true,t.p,qk 0 wr pb g cap B2 L j false 0 aD t r ao ht h0,zo,fun e=>(by cases e),fun e=>(by cases e),fun _=>hx⟩
  exact⟨j,b,q,yX wr pb g cap B2 L j b q aD t r ao ht h0,ao.lt,fun e=>ao.nm e,fun e=>(by rw[hb] at e;cases e),fun _=>hx⟩
 obtain⟨o1,n1,k1,o2,n2,k2,nR,cells,hsb,ax,an⟩:=hmb.sbx;have hrb:=hmb.rbx;have bL:=fa hT;have cc:=fa bS;have ca:=fa bO;have b9:=fa bN;have ak:=fa hsb;have aj:=fa hrb;have aa:=fa ax;have bB:=fa an;clear hmb aG ao ht h5 bo hT bS bO bN hsb hrb ax an
 go_wp2_with (refine(jc _ _ _ _ _ _ _ _ _ _ _ aB a8).mono ?_;rintro e W2 ⟨rfl,aP⟩;have bD:=aP.symm;clear aP;subst bD)
 refine bL.mono ?_;rintro e w6 ⟨rfl,ba⟩;have aH:=(ba.gr.block (w.heap.size+1) (fh ak) zs).trans ak;have aC:=(ba.gr.block w.heap.size (fh aj) zs).trans aj;have a6:=fa ba;have aw:=fa aC;unfold kN at aH aC;have sc:=cell_of_blk aH;have rc:=cell_of_blk aC;have rf:=fi aC;have hsl6:=fh aH;clear ba aH aC bL;simp only[je];go_wp2_with fail;have bq:((w6.setCell ⟨w.heap.size,0,none⟩ (xa o1 n1 k1)).setCell ⟨w.heap.size,1,none⟩ (xa o2 n2 k2)).heap[w.heap.size]? =some (kN o1 n1 k1 o2 n2 k2):=fj (fj aw 0 _) 1 _;unfold kN at bq;have cm:=cell_of_blk bq;clear rc;refine bodyPost_ret (v:= .agg #[xa o1 n1 k1,xa o2 n2 k2]) (by simp[results,results114,go_sem,cm]) rfl ?_;have bU:=aB.move a6 ch cc;have bV:=(bU.setTy aw zp zp 0 (xa o1 n1 k1)).setTy (fj aw 0 (xa o1 n1 k1)) zp zp 1 (xa o2 n2 k2);have bQ:=(aB.kq a6.gr).trans ((KQ.set aw zp zp zp 0 (xa o1 n1 k1)).trans (KQ.set (fj aw 0 (xa o1 n1 k1)) zp zp zp 1 (xa o2 n2 k2)));have bx:=gq aa a6.gr (Mt (qi aa hp0));have bT:=fun e=>gp bx e aw zp
 have bW:=gq (gq bx (fK w6 w.heap.size 0 (xa o1 n1 k1)) (Mt bT)) (fK _ w.heap.size 1 (xa o2 n2 k2)) (Mt bT);refine⟨gy (gy (aY.trans a6.gr) (Mu _) _ _) (Mu _) _ _,o1,n1,k1,o2,n2,k2,b',q',rfl,⟨B2,j',aD,bV⟩, ?_⟩;cases hb':b' with
 |true=>exact Mt ⟨rfl,b9 hb'⟩
 |false=>
  obtain⟨hb,hx⟩:=ca hb';obtain⟨ha,bF,bd⟩:=bB hb;subst bF;exact Or.inl ⟨rfl,al,rs,cells,hx,ig (bQ.owns ha) (Mx _),ig bW (Mx _),bd.keep bQ⟩
def Km(l : List Tk)(w w' : World)(e : Ending) : Prop :=
  Below w.heap.size w w' /\ ∃ o1 n1 k1 o2 n2 k2,
    ((∃ al rs cells q, e =xm (.tuple #[.agg #[xa o1 n1 k1, xa o2 n2 k2], xd xh q, xn true]) /\ gW l = .ok (al, rs) /\ w'.ownsRow 0 201 3 (xa o1 n1 k1) al.length (gK al) /\ w'.ownsRow 0 205 6 (xa o2 n2 k2) rs.length cells /\ RulesP w' rs cells) \/
     (∃ q : Nat, e =xm (.tuple #[.agg #[xa o1 n1 k1, xa o2 n2 k2], xd xh q, xn false]) /\ gW l = .error q))
theorem Fp(s:ByteArray)(w:World)(hs:s.size<=400)(hG:GV w):
  Calls prog 69 #[xj s] w fun e w'=>Km (jg s (s.size+1) 0) w w' e:=by
 have aq:=CI s (s.size+1) 0 (Mx _) zo;have ar:=CJ s (s.size+1) 0 (Mx _);have hlen:=AU s (s.size+1) 0 (Mx _);have ag:=Ar s (s.size+1) 0;have aE:=fa (fun w hG=>Ic s w hs hG);generalize lh s (s.size+1) 0=L at *;rw[<-ag];have aw:cut L=PL L 0:=rfl;rw[aw];clear aw ag;have ak:=fa aq;have aB:=fa ar;have HG:=fa hG;clear aq ar hG;go_in;go_wp2_with fail;refine(aE _ (HG.alloc _)).mono ?_;rintro e w1 ⟨v1,rfl,an,aa⟩;obtain⟨aK,h1|⟨g,cap,cur,aL,aI,J,au,ae,aH,R⟩⟩:=an
 ·exact absurd h1.2 (by intro e;have:=ak.ne;simp_all)
 subst aL;have aJ:=fh J;have aC:Hid (PP (w1.alloc (xi #[xa (some ⟨g,0,none⟩) L.length cap,xn false,xd xh 0,xa none 0 0] 194)) w1.heap.size g cap (w1.heap.size+1) L 0 false 0 []):=by
  have hL:=List.length_pos_iff.2 ak.ne;refine⟨⟨none,0,0, ?_,My _ _ _ _⟩,⟨cur,(Mr _ _ _ aJ).trans J,R⟩,au,ae,zo,hL,ak,fun t ht=> ?_,zo,zo,zp,fun _=>Mu _⟩
  ·rw[ft];simp
  obtain⟨h1,h2,h3⟩:=aB t ht;exact⟨h1,zo,zo⟩
 have aM:w.heap.size<w1.heap.size:=by have:=aa.size;simp at this;omega
 have aD:=fa (show w1.heap[w.heap.size]? =some (kN none 0 0 none 0 0) from(aa.block _ zp).trans (ft _ _));have az:=fa (((Mw w.heap.size w).alloc (Mu _) (kN none 0 0 none 0 0)).trans (aa.mono zp));clear aa J R aH au ae aK aI;go_wp2_with fail;refine(DH aC).mono ?_;rintro e w2 ⟨ad,o1,n1,k1,o2,n2,k2,b,q,rfl,⟨B,j,NM,ao⟩,ax⟩;have aF:=fa ax;have aA:=fa (qJ (az.alloc zo _) ad zo);have I:=(ad.block w.heap.size zs zs).trans ((Mr _ _ _ aM).trans aD);have U:=fa I;have hz2:w1.heap.size<w2.heap.size:=by have:=ad.size;simp at this;omega
 obtain⟨no,nn,nc,aj,_⟩:=ao.blk;have bc:=cell_of_blk aj;have HP2:=fa ao;have aN:w.heap.size<w2.heap.size:=zo;unfold kN at I;have rc:=cell_of_blk I;have rf:=fi I;clear ad ax ao aj I;go_wp2_with fail
 go_region
 go_wp2_with fail;have ai:((w2.setCell ⟨w.heap.size,0,none⟩ (xa o1 n1 k1)).setCell ⟨w.heap.size,1,none⟩ (xa o2 n2 k2)).heap[w.heap.size]? =some (kN o1 n1 k1 o2 n2 k2):=fj (fj U 0 _) 1 _;unfold kN at ai;have aO:=cell_of_blk ai;clear rc;refine bodyPost_ret (v:= .tuple #[.agg #[xa o1 n1 k1,xa o2 n2 k2],xd xh q,xn !b]) (by simp[results,results69,go_sem,aO,aN]) rfl ?_;refine⟨(((aA.setCell (Mu _) _).setCell (Mu _) _).alloc (by simp[World.setCell];omega) _).drew,o1,n1,k1,o2,n2,k2, ?_⟩;have hk:=((KQ.set U zp zp zp 0 (xa o1 n1 k1)).trans (KQ.set (fj U 0 (xa o1 n1 k1)) zp zp zp 1 (xa o2 n2 k2))).trans (KQ.below ((Mw _ _).alloc (Mu _) (xi #[xa o1 n1 k1,xa o2 n2 k2] 128)).drew);rcases aF.out with⟨rfl,al,rs,cells,hx,ha,hr,hru⟩|⟨rfl,hx⟩
 ·have av:=fun e=>gp hr e U zp
  exact Or.inl ⟨al,rs,cells,q,rfl,hx,hk.owns ha,fL (gq (gq hr (fK w2 w.heap.size 0 (xa o1 n1 k1)) (Mt av)) (fK _ w.heap.size 1 (xa o2 n2 k2)) (Mt av)) gz.drew,hru.keep hk⟩
 simp_all
def kE(A:List Tk):List Value:=A.map (fun t=> xj t.s)
theorem zh(A:List Tk)(t:Tk):kE (A++[t])=kE A++[xj t.s]:=by simp[kE]
theorem J0{k:Nat}(h:A.drop k=t::r):(kE A)[k]? =some (xj t.s):=by
 unfold kE;rw[List.getElem?_map];have:A[k]? =some t:=by
  have:=congrArg (fun l=>l[0]?) h;simpa using this
 simp_all
theorem JV(h:w.ownsRow B 9 1 v A.length (kE A)):(v=xa none 0 0/\A=[])\/ ∃g cap,v=xa (some ⟨g,0,none⟩) A.length cap/\g<w.heap.size/\A.length<=cap/\cap<=maxLen/\ ∀k t r,A.drop k=t::r->w.cell? ⟨g,k,none⟩=some (xj t.s):=by
 obtain⟨_,h2|⟨g,cap,cur,hv,_,hh,U,J,_,I⟩⟩:=h
 ·simp_all
 refine Mt ⟨g,cap,hv,fh hh,U,J,fun k t r R=> ?_⟩;have hj:k<A.length:=by
  rcases Nat.lt_or_ge k A.length with h|h
  ·omega
  rw[Mz h] at R;cases R
 have:=J0 R;rw[<-I,List.getElem?_take,if_pos zo] at this;rw[cell_of_blk hh,<-Array.getElem?_toList];omega
theorem Js{s:ByteArray}{k:Nat}(h:A.drop k=t::r):iH (A.drop k) s=if t.s.toList=s.toList then true else iH (A.drop (k+1)) s:=by
 rw[h,nT h,iH]
theorem EY(A:List Tk)(s:ByteArray)(v:Value)(B:Nat)(w:World)(h:w.ownsRow B 9 1 v A.length (kE A)):
  Calls prog 123 #[v,xj s] w fun e w'=> ∃z:Int,e=xm (xd xh z)/\decide (0<=z)=iH A s/\w'=w:=by
 rcases JV h with⟨rfl,rfl⟩|⟨g,cap,rfl,hg,hle,hcap,hc⟩
 ·clear h;go_in;go_wp2_with fail
  go_loop [8] (fun x=>x=xd xh 0) (fun x=>0)
  ·rfl
  subst hrel;go_wp2;go_ret;exact⟨-1,rfl,rfl,rfl⟩
 unfold maxLen at hcap;have R:=fa hc;clear h hc;go_in;go_wp2_with fail
 go_loop [8] (fun x=> ∃k:Nat,k<=A.length/\x=xd xh (k:Int)/\Hid (iH A s=iH (A.drop k) s)) (fun x=>A.length - (intOf x).toNat)
 ·exact zm77
 obtain⟨k,hk,rfl,H⟩:=hrel;by_cases hlt:k<A.length
 ·obtain⟨t,r,I⟩: ∃t r,A.drop k=t::r:=by
   cases hd:A.drop k with
   |nil=>have:=congrArg List.length hd;simp at this;omega
   |cons t r=>simp
  have hc:=R k t r I;have J:=fa (Js (s:=s) I);clear I;go_wp2_with fail
  ·have he:t.s.toList=s.toList:=za;go_ret;exact⟨k,rfl,by rw[H.out,J.out,if_pos he];simp,rfl⟩
  have he:¬ t.s.toList=s.toList:=by intro e;simp_all
  go_round
  ·exact⟨k+1,zo,zf,by show _=_;rw[H.out,J.out,if_neg he]⟩
  simp[intOf];omega
 go_wp2;go_ret;refine⟨-1,rfl, ?_,rfl⟩;rw[H.out,Mz zo];rfl
theorem sU(A:List Tk)(s:ByteArray)(v:Value)(B:Nat)(h:w.ownsRow B 9 1 v A.length (kE A)):
  Calls prog 77 #[v,xj s] w fun e w'=>e=xm (xn (iH A s))/\w'=w:=by
 have J:=fa (EY A s v B w h);clear h;go_in;go_wp2_with fail;refine J.mono ?_;rintro e w1 ⟨z,rfl,I,rfl⟩;have R:=fa I;clear I;go_wp2;go_ret;exact⟨jG R,rfl⟩
structure CK (w:World) (cb B:Nat) (A:List Tk) (x:Nat × Nat):Prop where
 blk: ∃ao an ac,w.heap[cb]? =some (xi #[xa ao an ac,xd xh x.1,xd xh x.2] 198 (0,0))/\w.ownsRow B 9 1 (xa ao an ac) A.length (kE A)
 hB:B<=cb
theorem CK.lt(h:CK w cb B A x):cb<w.heap.size:=by
 obtain⟨_,_,_,I,_⟩:=h.blk;exact fh I
theorem CK.later(h:CK w cb B A x)(J:Below w.heap.size w w'):CK w' cb B A x:=by
 obtain⟨U,R,ac,I,h2⟩:=h.blk;exact⟨⟨U,R,ac,(J.block _ (fh I)).trans I,fL h2 J⟩,h.hB⟩
theorem CK.alloc(h:CK w cb B A x)(o:Obj):CK (w.alloc o) cb B A x:=h.later gz
structure CF (cb B:Nat) (w w':World):Prop where
 os:w'.os=w.os
 tape:w'.tape=w.tape
 output:w'.output=w.output
 size:w.heap.size<=w'.heap.size
 keep: ∀k,k<w.heap.size->k≠cb->(k<B\/¬ TyAt w k 9)->w'.heap[k]? =w.heap[k]?
theorem CF.refl(cb B:Nat)(w:World):CF cb B w w:=⟨rfl,rfl,rfl,Mu _,fun _ _ _ _=>rfl⟩
theorem CF.trans(h:CF cb B w w1)(I:CF cb B w1 w2):CF cb B w w2:=
 ⟨I.os.trans h.os,I.tape.trans h.tape,I.output.trans h.output,Nat.le_trans h.size I.size,fun k J R hc=>by
  have e:=h.keep k J R hc;refine(I.keep k (Nat.lt_of_lt_of_le J h.size) R ?_).trans e;rcases hc with hc|hc
  ·omega
  refine Mt ?_;rintro⟨c,m,hh⟩;exact hc ⟨c,m,za⟩⟩
theorem CF.grown(h:w.grownBy w' (some cb)):CF cb B w w':=⟨h.os,h.tape,h.output,h.size,fun k I hp _=>h.block k I za⟩
theorem CF.below(h:Below w.heap.size w w'):CF cb B w w':=CF.grown (gC h _)
theorem CF.row(I:w.ownsRow B 9 1 v n xs)(h:w.grownBy w' v.ownBlock):CF cb B w w':=
 ⟨h.os,h.tape,h.output,h.size,fun k J _ hc=>h.block k J (by
  intro e;have:=qh I e.symm;rcases hc with hc|hc
  ·omega
  simp_all)⟩
theorem CF.low(h:CF cb B w w')(hc:B<=cb)(hB:B<=w.heap.size):Below B w w':=⟨h.os,h.tape,h.output,h.size,fun k I=>h.keep k zo zo (Or.inl I)⟩
theorem CK.told(h:CK w cb B A x)(hg:w.grownBy w' (some cb))(hb: ∀J I ac,w.heap[cb]? =some (xi #[xa J I ac,xd xh x.1,xd xh x.2] 198 (0,0))->w'.heap[cb]? =some (xi #[xa J I ac,xd xh y.1,xd xh y.2] 198 (0,0))):CK w' cb B A y:=by
 obtain⟨J,I,ac,R,U⟩:=h.blk;exact⟨⟨J,I,ac,hb _ _ _ R,gq U hg (Mt (fun e=>gp U e R zp))⟩,h.hB⟩
theorem lQ(cb B:Nat)(A:List Tk)(x:Nat × Nat)(p e:Nat)(h:CK w cb B A x):
  Calls prog 158 #[xk (some ⟨cb,0,none⟩),xd xh (p:Int),xd xh (e:Int)] w fun r w'=>r=xm (.tuple #[])/\CK w' cb B A (tell x p e)/\w.grownBy w' (some cb):=by
 obtain⟨ao,an,ac,I,_⟩:=h.blk;have bc:=cell_of_blk I;have bf:=fi I;have HC:=fa h;clear h I;by_cases h0:x.2=0
 ·have J:((x.2:Int)==0)=true:=mu (c:=0) h0;have HT:Hid (tell x p e=(p,e)):=if_pos (Or.inl h0);clear h0;exact zm85
 have J:((x.2:Int)==0)=false:=iE (c:=0) h0;rcases zc p x.1 with⟨hp,hp'⟩|⟨hp,hp'⟩
 ·have HT:Hid (tell x p e=(p,e)):=if_pos (Mt hp);clear h0 hp;exact zm85
 have HT:Hid (tell x p e=x):=if_neg zo;clear h0 hp;go_in;go_wp2;go_end0;rw[HT.out];exact⟨rfl,HC,World.grownBy.refl _ _⟩
theorem FX(x:Nat × Nat)(p e:Nat):gO x [(p,e)]=tell x p e:=rfl
theorem FW(x:Nat × Nat):gO x []=x:=rfl
theorem nS(cb B:Nat)(A:List Tk)(x:Nat × Nat)(t:Tk)(h:CK w cb B A x):
  Calls prog 157 #[xk (some ⟨cb,0,none⟩),je t] w fun r w'=>r=xm (.tuple #[])/\CK w' cb B A (gO x (jq t))/\CF cb B w w':=by
 have HC:=fa h;clear h;unfold je;rcases zc 8 t.s.size with⟨hl,hl'⟩|⟨hl,hl'⟩
 ·have HT:Hid (gO x (jq t)=tell x t.p 1):=by show _=_;unfold jq;rw[if_pos hl];rfl
  clear hl;go_in;go_wp2_with fail;refine(lQ cb B A x t.p 1 (HC.alloc _)).mono ?_;rintro e w1 ⟨rfl,I,J⟩;have R:=fa I;have U:=fa J;clear I J;go_wp2;go_end0;rw[HT.out];exact⟨rfl,R,(CF.below gz).trans (CF.grown U)⟩
 have HT:Hid (gO x (jq t)=x):=by show _=_;unfold jq;rw[if_neg hl];rfl
 clear hl;go_in;go_wp2;go_end0;rw[HT.out];exact⟨rfl,HC.alloc _,CF.below gz⟩
theorem Ak{b ty:Nat}(hf:CF cb B w w')(I:w.heap[b]? =some (xi c ty m))(J:ty≠9)(R:b≠cb):w'.heap[b]? =some (xi c ty m):=
 (hf.keep b (fh I) R (Mt (lR I J))).trans I
theorem Tryz.infoStr:(prog.info? 9).map (fun i=>(i.zero,i.size,i.bytes))=some (some (xj ⟨#[]⟩),1,16):=zk
theorem qT(cb B:Nat)(A:List Tk)(x:Nat × Nat)(t:Tk)(h:CK w cb B A x):
  Calls prog 159 #[xk (some ⟨cb,0,none⟩),je t] w fun r w'=>r=xm (.tuple #[])/\CK w' cb B A (gO x (iW A t.s t.p))/\CF cb B w w':=by
 have HC:=fa h;have hcl:=h.lt;clear h;unfold je;go_in;go_wp2_with fail;refine(nS cb B A x t (HC.alloc _)).mono ?_;rintro e w1 ⟨rfl,I,J⟩;have ad:=Ak J (ft w (xi #[xd xh t.k,xj t.s,xd xh t.p] 201)) zp zo;have xc:=cell_of_blk ad;obtain⟨ao,an,ac,aa,ai⟩:=I.blk;have bc:=cell_of_blk aa;have R:=fa I;have aq:=fa ai;have U:=fa ((CF.below (cb:=cb) (B:=B) ((Mw w.heap.size w).alloc (Mu _) _)).trans J);clear I J ad aa ai;go_wp2;go_quiet (first|(refine MD (sU A t.s (xa ao an ac) B (fL aq (jA _ _)))));cases hh:iH A t.s with
 |true=>
  have HT:Hid (gO (gO x (jq t)) []=gO x (iW A t.s t.p)):=by show _=_;unfold iW jq;rw[hh,iJ];rfl
  clear hh;go_wp2;go_end0;rw[<-HT.out];exact⟨rfl,R.later (jA _ _),U.trans (CF.below (jA _ _))⟩
 |false=>
  have HT:Hid (tell (gO x (jq t)) t.p 3=gO x (iW A t.s t.p)):=by show _=_;unfold iW jq;rw[hh,iJ];rfl
  clear hh;go_wp2_with fail;refine(lQ cb B A _ t.p 3 (R.later (jA _ _))).mono ?_;rintro e w2 ⟨rfl,ae,ag⟩;have aj:=fa ae;have ak:=fa ag;clear ae ag;go_wp2;go_end0;rw[<-HT.out];exact⟨rfl,aj,(U.trans (CF.below (jA _ _))).trans (CF.grown ak)⟩
theorem An(cb B:Nat)(A:List Tk)(x:Nat × Nat)(i:Nat)(t:Tk)(h:CK w cb B A x)(hA:A.length<=401)(hBw:B<=w.heap.size):
  Calls prog 115 #[xk (some ⟨cb,0,none⟩),xd xh (i:Int),je t] w fun r w'=>r=xm (.tuple #[])/\CK w' cb B (A++[t]) (gO x (tA A i t))/\CF cb B w w':=by
 obtain⟨i0,hi,hz0,hz1,hz2⟩:=info_parts Tryz.infoStr;have HC:=fa h;have hcl:=h.lt;have hBc:=h.hB;clear h;unfold je;go_in;go_wp2_with fail;refine(nS cb B A x t (HC.alloc _)).mono ?_;rintro e w1 ⟨rfl,ai,au⟩;have ag:=Ak au (ft w (xi #[xd xh t.k,xj t.s,xd xh t.p] 201)) zp zo;have av:=fa ag;have xc:=cell_of_blk ag;have aJ:=fh ag;obtain⟨ao,an,ac,aA,aF⟩:=ai.blk;have bc:=cell_of_blk aA;have hcl1:=ai.lt;have ak:=fa ai;have az:=fa aF;have aq:=fa ((CF.below (cb:=cb) (B:=B) ((Mw w.heap.size w).alloc (Mu _) _)).trans au);clear ai au ag aA aF;go_wp2;go_quiet (first|(go_at_call 77;refine MD (sU A t.s (xa ao an ac) B (fL az (jA _ _)))));clear bc xc
 go_upto_if 15 with fail
 go_cut [] (fun wc=>CK wc cb B A (gO (gO x (jq t)) (if iH A t.s=true then [(t.p,3)] else []))/\CF cb B w wc/\wc.heap[w.heap.size]? =some (xi #[xd xh t.k,xj t.s,xd xh t.p] 201 (0,0)))
 case first=>
  have I:=((jA w1 nq).block _ aJ).trans av;have xc:=cell_of_blk I;cases hh:iH A t.s with
  |true=>
   have HT:Hid (gO (gO x (jq t)) (if iH A t.s=true then [(t.p,3)] else [])=tell (gO x (jq t)) t.p 3):=by show _=_;rw[hh];rfl
   go_wp2_with fail;refine(lQ cb B A _ t.p 3 (ak.later (jA _ _))).mono ?_;rintro e w2 ⟨rfl,ad,aD⟩;have ae:=fa ad;have ax:=fa aD;clear ad aD;go_wp2_with fail
   go_meet
   rw[HT.out];exact⟨ae,(aq.trans (CF.below (jA _ _))).trans (CF.grown ax),(ax.block _ (fh I) zs).trans I⟩
  |false=>
   have HT:Hid (gO (gO x (jq t)) (if iH A t.s=true then [(t.p,3)] else [])=gO x (jq t)):=by show _=_;rw[hh];rfl
   go_wp2_with fail
   go_meet
   rw[HT.out];exact⟨ak.later (jA _ _),aq.trans (CF.below (jA _ _)),I⟩
 obtain⟨ad,aB,I⟩:=hcut;have ae:=fa ad;have aw:=fa aB;have U:=fa I;have aG:=fh I;clear ad aB I ak az aq av
 go_upto_if 21 with fail
 go_cut [] (fun wc=>CK wc cb B A (gO x (tA A i t))/\CF cb B w wc/\wc.heap[w.heap.size]? =some (xi #[xd xh t.k,xj t.s,xd xh t.p] 201 (0,0)))
 case first=>
  have xc:=cell_of_blk U;by_cases h6:6<=i
  ·have aI:(6:Int)<=(i:Int):=zo;have HT:Hid (tell (gO (gO x (jq t)) (if iH A t.s=true then [(t.p,3)] else [])) t.p 4=gO x (tA A i t)):=by show _=_;unfold tA;rw[if_pos h6,iJ,iJ];rfl
   clear h6;go_wp2_with fail;refine(lQ cb B A _ t.p 4 ae).mono ?_;rintro e w2 ⟨rfl,R,aE⟩;have aH:=fa R;have ay:=fa aE;clear R aE;go_wp2_with fail
   go_meet
   rw[<-HT.out];exact⟨aH,aw.trans (CF.grown ay),(ay.block _ aG zs).trans U⟩
  ·have aI:¬ (6:Int)<=(i:Int):=zo;have HT:Hid (gO (gO x (jq t)) (if iH A t.s=true then [(t.p,3)] else [])=gO x (tA A i t)):=by show _=_;unfold tA;rw[if_neg h6,iJ,List.append_nil]
   clear h6;go_wp2_with fail
   go_meet
   rw[<-HT.out];trivial
 obtain⟨R,aC,J⟩:=hcut;obtain⟨bo,bn,bk,aa,aj⟩:=R.blk;have bc:=cell_of_blk aa;have bf:=fi aa;have hcl3:=R.lt;have hxl3:=fh J;have hnc3:(xa bo bn bk).ownBlock≠some cb:=fun e=>gp aj e aa zp
 have hnx3:(xa bo bn bk).ownBlock≠some w.heap.size:=fun e=>gp aj e J zp
 have HF3:=fa aC;have HO3:=fa aj;have HB3:=fa aa;have HBX3:=fa J;clear R aC J aa aj ae aw U;generalize wc=w3 at *;go_wp2_with fail;refine wp_region_held_drew (S:=fun w'=>w'.cell? ⟨w.heap.size,1,none⟩=some (xj t.s)) zk ?_ (fun hHeld=> ?_)
 ·show w3.drew.cell? _=_;exact cell_of_blk HBX3 1
 apply zt1 0 (xk (some ⟨cb,0,none⟩)) hHeld;apply zt1 1 (xk (some ⟨cb,0,none⟩)) hHeld;apply zt1 2 (xk (some ⟨cb,0,none⟩)) hHeld;apply zt1 3 (xk (some ⟨cb,0,none⟩)) hHeld;apply zt1 5 (xk (some ⟨w.heap.size,1,none⟩)) hHeld;apply zt1 6 (xj t.s) hHeld;refine zrH2 4 7 (fun K hK=> ?_) fun K hK=> ?_
 ·go_simp;refine hK _ _ hHeld (fun hHeld=> ?_);clear hK K;apply zrH 7;intro K hK;go_simp;refine hK _ _ (by first|exact hHeld|(show(World.alloc _ _).cell? _=_;rw[MC _ _ _ hxl3];trivial)) (fun hHeld=> ?_);exact zm9
 go_simp;refine hK _ _ (by first|exact hHeld|(show(World.alloc _ _).cell? _=_;rw[MC _ _ _ hxl3];trivial)) (fun hHeld=> ?_);clear hK K;apply zrH 4;intro K hK;go_simp;refine hK _ _ hHeld (fun hHeld=> ?_);exact zm9
end Go.Proofs.YtidakhhekofkoaaGreatDoor
