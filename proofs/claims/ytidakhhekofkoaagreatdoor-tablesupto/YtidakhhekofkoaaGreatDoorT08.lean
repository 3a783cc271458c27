import Derived.Test.YtidakhhekofkoaaGreatDoorT07
set_option linter.all false
set_option maxHeartbeats 4000000
set_option maxRecDepth 100000
namespace Go.Proofs.YtidakhhekofkoaaGreatDoor
open Go.Proofs.Tryz
open Go.RowKit Go.Deep
open Value renaming slice -> xa, int -> xd, string -> xj, pointer -> xk, bool -> xn
open IntKind renaming i64 -> xh
open Obj renaming cells -> xi
open Ending renaming returned -> xm
open Or renaming inr -> Mr, inl -> Ms
open Go.RowKit.Below renaming heap_setCell -> Mt, heap_alloc -> Mu, refl -> Mz
open Nat renaming lt_of_lt_of_le -> Mw, le_trans -> Mx, zero_le -> MD, le_refl -> ME
open Addr renaming add -> My
open World renaming ownsRow_nil -> MC
variable {zq:Prop}
variable {w w' w1 w2 W w3:World} {pb cap B i q j q' n j1 q1 j2 q2 j3 q3 base nn nc j0 q0 m':Nat} {L NM r r1 r2 r3 A al:List Tk} {bad b' b b1 b2 b3 b0:Bool} {t u y:Tk} {c cs:Array Value} {m:Nat × Nat} {v:Value} {xs:List Value} {f:Fm} {fp cp:Option Addr} {rs rs':List Rl}
theorem zm15(h:zq:=by
 intro K hK;go_simp;refine hK _ _ ?_;clear hK K;apply zr 8;intro K hK;refine step_append_lies _ zf _ _ 125 zf w.heap.size 201 i0 (.agg #[xd xh 0,xj ⟨#[]⟩,xd xh 0]) 3 32 underlying125 hi hz0 hz1 hz2 rfl zp (xa ao an ac) 1 (gK [v]) zf ?c0 ⟨w3.heap.size,0,none⟩ 1 1 [xd xh z.k,xj z.s,xd xh z.p] zf rfl ?c1 ?c2 zp ?c3 ?c4 ?c5 (w3.heap.size+1) zp ?_
 case c0=>exact HOWN3.out.alloc _
 case c1=>
  intro j u hj
  match j,hj with
  |0,hj=>simp at hj;subst hj;simp[Addr.add]
  |1,hj=>simp at hj;subst hj;simp[Addr.add]
  |2,hj=>simp at hj;subst hj;simp[Addr.add]
  |j+3,hj=>simp at hj
 case c2=>intro u hu;simp at hu;rcases hu with rfl|rfl|rfl<;>rfl
 case c3=>decide
 case c4=>simp
 case c5=>simp;omega
 intro g4 cap4 w4 hown4 hgrow4 hat4 hlt4;have hcb4:=(hgrow4.block cb zs (fun e=>gp HOWN3.out e.symm HCB3.out zp)).trans ((Below.heap_alloc _ _ _ hcb3l).trans HCB3.out);have HG4:=fa hgrow4;have HOWN4:=fa hown4;have HCB4:=fa hcb4;have bc4:=cell_of_blk hcb4;have bf4:=fi hcb4;refine hK _ _ ?_;clear hK K hgrow4 hown4 hcb4 bc3;apply zt0 9 (xk (some ⟨cb,0,none⟩));apply zt0 10 (xk (some ⟨cb,3,none⟩));apply zr 11;intro K hK;go_simp;refine hK _ _ ?_;clear hK K;refine wpAny_done zk ?_ _;go_wp2_with fail
 go_meet
 have hg4:=fun e=>gp HOWN4.out e HCB4.out zp
 refine⟨⟨hzw,some ⟨g4,0,none⟩,1+1,cap4,fj HCB4.out 3 _,gq HOWN4.out (fK _ _ _ _) (Or.inr hg4)⟩, ?_⟩;exact(((HM6.out.trans HM3.out).alloc _).row HG4.out (fun k e=>(gG HOWN3.out k e).1) hp0).setNew hzw hp0 _ _
 ):zq:=h
theorem zm16(h:zq:=by
 intro K hK;go_simp;refine hK _ _ ?_;clear hK K;apply zr 8;intro K hK;refine step_append_lies _ zf _ _ 125 zf w.heap.size 201 i0 (.agg #[xd xh 0,xj ⟨#[]⟩,xd xh 0]) 3 32 underlying125 hi hz0 hz1 hz2 rfl zp (xa none 0 0) 0 (gK []) zf ?c0 ⟨w3.heap.size,0,none⟩ 1 1 [xd xh v.k,xj v.s,xd xh v.p] zf rfl ?c1 ?c2 zp ?c3 ?c4 ?c5 (w3.heap.size+1) zp ?_
 case c0=>exact HOWN3.out.alloc _
 case c1=>
  intro j u hj
  match j,hj with
  |0,hj=>simp at hj;subst hj;simp[Addr.add]
  |1,hj=>simp at hj;subst hj;simp[Addr.add]
  |2,hj=>simp at hj;subst hj;simp[Addr.add]
  |j+3,hj=>simp at hj
 case c2=>intro u hu;simp at hu;rcases hu with rfl|rfl|rfl<;>rfl
 case c3=>decide
 case c4=>simp
 case c5=>simp;omega
 intro g4 cap4 w4 hown4 hgrow4 hat4 hlt4;have hcb4:=(hgrow4.block cb zs (fun e=>gp HOWN3.out e.symm HCB3.out zp)).trans ((Below.heap_alloc _ _ _ hcb3l).trans HCB3.out);have HG4:=fa hgrow4;have HOWN4:=fa hown4;have HCB4:=fa hcb4;have bc4:=cell_of_blk hcb4;have bf4:=fi hcb4;refine hK _ _ ?_;clear hK K hgrow4 hown4 hcb4 bc3;apply zt0 9 (xk (some ⟨cb,0,none⟩));apply zt0 10 (xk (some ⟨cb,3,none⟩));apply zr 11;intro K hK;go_simp;refine hK _ _ ?_;clear hK K;refine wpAny_done zk ?_ _;go_wp2_with fail
 go_meet
 have hg4:=fun e=>gp HOWN4.out e HCB4.out zp
 refine⟨⟨hzw,some ⟨g4,0,none⟩,0+1,cap4,fj HCB4.out 3 _,gq HOWN4.out (fK _ _ _ _) (Or.inr hg4)⟩, ?_⟩;exact(((HM2.out.trans HM3.out).alloc _).row HG4.out (fun k e=>(gG HOWN3.out k e).1) hp0).setNew hzw hp0 _ _
 ):zq:=h
theorem zm27(h:zq:=by
 clear h ht h3 hs hs3 hTT;go_in;go_wp2_with fail;refine(jc _ _ _ _ _ _ _ _ _ _ _ (HP.out.alloc _) HT.out).mono ?_;rintro e w1 ⟨rfl,rfl⟩;go_wp2_with fail;refine HTT.out.mono ?_;rintro e w1 ⟨rfl,hm1⟩;have hrb:=(hm1.gr.block w.heap.size zp zs).trans (ft _ _);have HM:=fa (((Mv.refl w pb g cap L.length i bad q).alloc (xi #[xd xh 0,xj ⟨#[]⟩,xd xh 0] 201)).trans hm1);have rc:=cell_of_blk hrb;have rf:=fi hrb;have HRB:=fa hrb;clear hm1 hrb;simp only[je];go_wp2_with fail;clear rc;have hfin:(((w1.setCell ⟨w.heap.size,0,none⟩ (xd xh t.k)).setCell ⟨w.heap.size,1,none⟩ (xj t.s)).setCell ⟨w.heap.size,2,none⟩ (xd xh t.p)).heap[w.heap.size]? =some (xi #[xd xh t.k,xj t.s,xd xh t.p] 201 (0,0)):=fj (fj (fj HRB.out 0 _) 1 _) 2 _;have rc:=cell_of_blk hfin;exact bodyPost_ret (v:=je t) (by simp[results,results225,go_sem,rc,je]) rfl ⟨rfl,HM.out.setNew3 (Nat.le_refl _) hp _ _ _⟩
 ):zq:=h
theorem zm120(h:zq:=by
 obtain⟨h1,h2⟩:=ho;refine⟨h1, ?_⟩;rcases h2 with h2|⟨g,cap,cur,hv,hg,hh,r⟩
 ·simp_all
 exact Or.inr ⟨g,cap,cur,hv,hg,h _ _ _ _ hh (Or.inl rfl),r⟩
 ):zq:=h
def Stp(ok:Prop)(t:Tk)(n i:Nat)(b:Bool)(q j:Nat)(b':Bool)(q':Nat):Prop:=(ok/\j=i+1/\b'=b/\q'=q)\/(¬ ok/\j=n - 1/\b'=true/\q'=fq b q t.p)
theorem jO(k:Nat)(w:World)(pb g cap B:Nat)(L:List Tk)(i:Nat)(bad:Bool)(q:Nat)(NM:List Tk)(t:Tk)(r:List Tk)(h:PP w pb g cap B L i bad q NM)(J:PL L i=t::r)(I:2<=k)(j:Nat)(b':Bool)(q':Nat)(hs:Stp (t.k=k) t L.length i bad q j b' q'):
  Calls prog 153 #[xk (some ⟨pb,0,none⟩),xd xh (k:Int)] w fun e w'=>e=xm (je t)/\Mv w w' pb g cap L.length i bad q j b' q':=by
 rcases hs with⟨hk,rfl,rfl,rfl⟩|⟨hk,rfl,rfl,rfl⟩
 ·exact kG k w pb g cap B L i b' q' NM t r h J hk I
 exact qk k w pb g cap B L i bad q NM t r h J hk
theorem PP.stp{g:Nat}(h:PP w pb g cap B L i bad q NM)(J:PL L i=t::r){ok:Prop}(I:ok->2<=t.k)(hs:Stp ok t L.length i bad q j b' q')
  (hm:Mv w w' pb g cap L.length i bad q j b' q'):PP w' pb g cap B L j b' q' NM:=by
 have hlt:=h.lt;rcases hs with⟨hk,rfl,rfl,rfl⟩|⟨hk,rfl,rfl,rfl⟩
 ·exact h.move hm (h.fe.nextLt J (by have:=I hk;omega)) (fun e=>by have:=h.nm e;omega)
 exact h.move hm zo (fun e=>by cases e)
theorem Stp.lt{ok:Prop}(hs:Stp ok t L.length i b q j b' q')(I:FE L)(R:PL L i=t::r)(J:ok->2<=t.k):j<L.length:=by
 have hlt:=IY R;rcases hs with⟨hk,rfl,_,_⟩|⟨_,rfl,_,_⟩
 ·exact I.nextLt R (by have:=J hk;omega)
 omega
theorem Bd(pb g cap B:Nat)(L:List Tk)(i:Nat)(bad:Bool)(q:Nat)(NM:List Tk)(t:Tk)(r:List Tk)(h:PP w pb g cap B L i bad q NM)(ht:PL L i=t::r)(j:Nat)(b':Bool)(q':Nat)(hs:Stp (t.k=2\/t.k=3) t L.length i bad q j b' q'):
  Calls prog 225 #[xk (some ⟨pb,0,none⟩)] w fun e w'=>e=xm (je t)/\Mv w w' pb g cap L.length i bad q j b' q':=by
 have hp:=h.pLt;have HP:=fa h;have HT:=fa ht;by_cases h3:t.k=3
 ·have hs3:Stp (t.k=3) t L.length i bad q j b' q':=by
   rcases hs with⟨_,e⟩|⟨hk,e⟩
   ·exact Ms ⟨h3,e⟩
   exact absurd (Mr h3) hk
  have hTT:=jO 3 (w.alloc (xi #[xd xh 0,xj ⟨#[]⟩,xd xh 0] 201)) pb g cap B L i bad q NM t r (h.alloc _) ht zp j b' q' hs3;have HTT:=fa hTT;have J:=mu (c:=3) h3;exact zm27
 have hs3:Stp (t.k=2) t L.length i bad q j b' q':=by
  rcases hs with⟨hk,e⟩|⟨hk,e⟩
  ·exact Ms ⟨zo,e⟩
  exact Mr ⟨fun I=>hk (Ms I),e⟩
 have hTT:=jO 2 (w.alloc (xi #[xd xh 0,xj ⟨#[]⟩,xd xh 0] 201)) pb g cap B L i bad q NM t r (h.alloc _) ht zp j b' q' hs3;have HTT:=fa hTT;have J:=iE (c:=3) h3;exact zm27
theorem nO(ok:Prop)(t:Tk)(n i:Nat)(b:Bool)(q:Nat): ∃j b' q',Stp ok t n i b q j b' q':=by
 by_cases h:ok
 ·exact⟨_,_,_,Ms ⟨h,rfl,rfl,rfl⟩⟩
 exact⟨_,_,_,Mr ⟨h,rfl,rfl,rfl⟩⟩
theorem Stp.nm{ok:Prop}(hs:Stp ok t n i b q j b' q'){m:Nat}(h:b=false->m<=i):b'=false->m<=j:=by
 rcases hs with⟨_,rfl,rfl,_⟩|⟨_,_,rfl,_⟩
 ·intro e;have:=h e;omega
 simp
def xI(L:List Tk)(i:Nat)(t:Tk)(args:List Tk)(x:Tk)(j:Nat)(b:Bool)(q:Nat):Prop:=
 (b=false/\q=0/\(j<L.length/\i<=j)/\gS (PL L i)= .ok (⟨0,true,t,args,x.p,.nil⟩,PL L j))\/(b=true/\j=L.length - 1/\gS (PL L i)= .error q)
theorem BZ{v:Tk}(I:FE L)(U:PL L i=t::u::v::r)(hk:t.k=2)(hu:u.k=18)(ad:Stp (v.k=2) v L.length (i+1+1) false 0 j1 b1 q1)
  (hy:PL L j1=y::r1)(R:y.k≠20)(J:Stp (y.k=19) y L.length j1 b1 q1 j2 b2 q2):xI L i t [v] y j2 b2 q2:=by
 have ae:=iL (iL U zo) zo;rcases ad with⟨hv,rfl,rfl,rfl⟩|⟨hv,rfl,rfl,rfl⟩
 ·have ht3:=iL ae zo;have hr:r=y::r1:=za;subst hr;rcases J with⟨h19,rfl,rfl,rfl⟩|⟨h19,rfl,rfl,rfl⟩
  ·refine Ms ⟨rfl,rfl,⟨I.nextLt hy zo,zo⟩, ?_⟩;rw[iL hy zo,U];simp[gS,gu,kX,gQ,hk,hu,hv,h19]
  refine Mr ⟨rfl,rfl, ?_⟩;rw[U];simp[gS,gu,gQ,hk,hu,hv,h19,R,fq]
 obtain⟨e,he,hek⟩:=mF I;rw[hy] at he;have aj:=(List.cons.inj he).1;subst aj;rcases J with⟨h19,_⟩|⟨h19,rfl,rfl,rfl⟩
 ·omega
 refine Mr ⟨rfl,rfl, ?_⟩;rw[U];simp[gS,gu,gQ,hk,hu,hv,fq]
theorem B1{v z x:Tk}(J:FE L)(U:PL L i=t::u::v::r)(hk:t.k=2)(hu:u.k=18)(ag:Stp (v.k=2) v L.length (i+1+1) false 0 j1 b1 q1)
  (hy:PL L j1=y::r1)(I:y.k=20)(hz:PL L (j1+1)=z::r2)(ai:Stp (z.k=2\/z.k=3) z L.length (j1+1) b1 q1 j2 b2 q2)
  (hx:PL L j2=x::r3)(R:Stp (x.k=19) x L.length j2 b2 q2 j3 b3 q3):xI L i t [v,z] x j3 b3 q3:=by
 have aj:=iL (iL U zo) zo;obtain⟨e,he,hek⟩:=mF J;rcases ag with⟨hv,rfl,rfl,rfl⟩|⟨hv,rfl,rfl,rfl⟩
 ·have ht3:=iL aj zo;have hr:r=y::r1:=za;subst hr;have ht4:=iL hy zo;have ad:r1=z::r2:=za;subst ad;rcases ai with⟨hzk,rfl,rfl,rfl⟩|⟨hzk,rfl,rfl,rfl⟩
  ·have ht5:=iL hz zo;have ae:r2=x::r3:=za;subst ae;rcases R with⟨h19,rfl,rfl,rfl⟩|⟨h19,rfl,rfl,rfl⟩
   ·refine Ms ⟨rfl,rfl,⟨J.nextLt hx zo,zo⟩, ?_⟩;rw[iL hx zo,U];simp[gS,gu,kX,gQ,hk,hu,hv,I,hzk,h19]
   refine Mr ⟨rfl,rfl, ?_⟩;rw[U];simp[gS,gu,gQ,hk,hu,hv,I,hzk,h19,fq]
  rw[hx] at he;have ao:=(List.cons.inj he).1;subst ao;rcases R with⟨h19,_⟩|⟨h19,rfl,rfl,rfl⟩
  ·omega
  refine Mr ⟨rfl,rfl, ?_⟩;rw[U];simp[gS,gu,gQ,hk,hu,hv,I,hzk,fq]
 rw[hy] at he;have aq:=(List.cons.inj he).1;subst aq;omega
def my(word:Tk)(ao:Option Addr)(an ac:Nat)(x:Tk):Obj:=
 xi #[xd xh word.k,xj word.s,xd xh word.p,xa ao an ac,xd xh x.k,xj x.s,xd xh x.p] 259 (0,0)
def CS(w wc:World)(cb:Nat)(word:Tk)(args:List Tk):Prop:=
 w.heap.size<=cb/\ ∃ao an ac,wc.heap[cb]? =some (my word ao an ac tU)/\wc.ownsRow w.heap.size 201 3 (xa ao an ac) args.length (gK args)
theorem mQ{row:Option Nat}(h:w.drew.grownBy w' row):w.grownBy w' row:=⟨h.os,h.tape,h.output,h.size,h.block⟩
theorem Mv.from_drew{g:Nat}(h:Mv w.drew w1 pb g cap n i b q j b1 q1):Mv w w1 pb g cap n i b q j b1 q1:=⟨mQ h.gr,h.onto⟩
theorem Mv.row{g:Nat}(h : Mv w w1 pb g cap n i b q j b1 q1){row : Option Nat}(hg : w1.grownBy w2 row)(hr : ∀ k, row = some k -> w.heap.size <= k)(hp : pb < w.heap.size) : Mv w w2 pb g cap n i b q j b1 q1 :=
  ⟨⟨hg.os.trans h.gr.os, hg.tape.trans h.gr.tape, hg.output.trans h.gr.output, Mx h.gr.size hg.size, fun k J I => (hg.block k (Mw J h.gr.size) (fun e => by have := hr k e.symm; omega)).trans (h.gr.block k J I)⟩,
   fun no nn nc e => by
    have := h.onto no nn nc e;exact(hg.block pb (fh this) (fun e => by have := hr pb e.symm; omega)).trans this⟩
def Gd(w w':World)(pb g cap:Nat)(L:List Tk)(i:Nat)(t:Tk)(e:Ending):Prop:= ∃cb args x j b q,e=xm (xk (some ⟨cb,0,none⟩))/\w.heap.size<=cb/\
 (∃ao an ac,w'.heap[cb]? =some (my t ao an ac x)/\w'.ownsRow w.heap.size 201 3 (xa ao an ac) args.length (gK args))/\Mv w w' pb g cap L.length i false 0 j b q/\xI L i t args x j b q
theorem Fq(pb g cap B:Nat)(L:List Tk)(i:Nat)(NM:List Tk)(t u v:Tk)(r:List Tk)(h:PP w pb g cap B L i false 0 NM)(ht:PL L i=t::u::v::r)(hk:t.k=2)(hu:u.k=18):
  Calls prog 192 #[xk (some ⟨pb,0,none⟩)] w fun e w'=>Gd w w' pb g cap L i t e:=by
 obtain⟨i0,hi,hz0,hz1,hz2⟩:=info_parts Tryz.infoTokP;have hp0:=h.pLt;have a':=iL ht zo;have ba:=iL a' zo;obtain⟨j1,b1,q1,aQ⟩:=nO (v.k=2) v L.length (i+1+1) false 0;have bu:=aQ.lt h.fe ba (fun e=>zo);have aT:b1=false->NM.length<=j1:=aQ.nm (fun _=>by have:=h.nm rfl;omega);obtain⟨y,r1,hy⟩:=kT h.fe bu;have HP:=fa h;have HT:=fa ht;have bn:=fa a';have bo:=fa ba;have HK:=fa hk;have aJ:=fa hu;have aL:=fa aQ;have HY:=fa hy;have aw:=fa aT;clear h ht a' ba hk hu aQ hy aT;go_in;go_wp2_with fail;refine(kG 2 _ _ _ _ _ _ _ _ _ _ _ _ HP HT HK zp).mono ?_;rintro e w1 ⟨rfl,aO⟩;have bh:=fa aO;have aW:=fa (HP.step aO HT (by have:=HK.out;omega));have hzw:=aO.gr.size;clear aO;simp only[je];go_wp2_with fail;refine(kG 18 _ _ _ _ _ _ _ _ _ _ _ _ (aW.alloc _) bn aJ zp).mono ?_;rintro e w2 ⟨rfl,aP⟩;have HM2:=fa ((bh.alloc _).trans aP);have aX:=fa ((aW.alloc _).step aP bn (by have:=aJ.out;omega));have ae:=(aP.gr.block w1.heap.size zp zs).trans (ft _ _);generalize hcbe:w1.heap.size=cb at *;have aq:=fh ae;have bc:=cell_of_blk ae;have au:=fa ae;have ag:Hid (w2.ownsRow w.heap.size 201 3 (xa none 0 0) 0 (gK [])):=MC _ _ _ _;have aE:(xa none 0 0).ownBlock≠some pb:=by intro e;cases e
 clear aP ae hcbe;simp only[je]
 go_upto_region 3 with fail
 go_cut [] (fun wc=>CS w wc cb t [v]/\Mv w wc pb g cap L.length i false 0 j1 b1 q1)
 case first=>
  refine wp_region_any zk ?_;change wpAny _ _ _ _ _ _ _ (World.drew _);apply zt0 0 (xk (some ⟨cb,0,none⟩));apply zt0 1 (xk (some ⟨cb,0,none⟩));apply zt0 2 (xk (some ⟨cb,0,none⟩));apply zt0 3 (xk (some ⟨cb,3,none⟩));apply zt0 5 (xk (some ⟨pb,0,none⟩));refine zr2 4 6 (fun K hK=> ?_) fun K hK=> ?_
  ·go_simp;refine hK _ _ ?_;clear hK K;apply zr 6;intro K hK;go_simp
   go_wp2_with (refine(jO 2 _ pb g cap B L (i+1+1) false 0 NM v r (aX.later (Mz _ _).drew) bo zp j1 b1 q1 aL).mono ?_;rintro e w3 ⟨rfl,U⟩)
   have HM3:=fa U.from_drew;have I:=(U.gr.block cb aq zs).trans au;have J:=gq ag U.from_drew.gr (Mr aE);have hcb3l:=fh I;have HCB3:=fa I;have HOWN3:=fa J;clear U I J bc;simp only[je];apply zr 7;intro K hK;go_simp;refine hK _ _ ?_;clear hK K;apply zr 8;intro K hK;refine step_append_lies _ zf _ _ 125 zf w.heap.size 201 i0 (.agg #[xd xh 0,xj ⟨#[]⟩,xd xh 0]) 3 32 underlying125 hi hz0 hz1 hz2 rfl zp (xa none 0 0) 0 (gK []) zf ?c0 ⟨w3.heap.size,0,none⟩ 1 1 [xd xh v.k,xj v.s,xd xh v.p] zf rfl ?c1 ?c2 zp ?c3 ?c4 ?c5 (w3.heap.size+1) zp ?_
   case c0=>exact HOWN3.alloc _
   case c1=>
    intro j u hj
    match j,hj with
    |0,hj=>simp at hj;subst hj;simp[My]
    |1,hj=>simp at hj;subst hj;simp[My]
    |2,hj=>simp at hj;subst hj;simp[My]
    |j+3,hj=>simp at hj
   case c2=>intro u hu;simp at hu;rcases hu with rfl|rfl|rfl<;>rfl
   case c3=>decide
   case c4=>simp
   case c5=>simp;omega
   intro g4 cap4 w4 hown4 hgrow4 hat4 hlt4;have hcb4:=(hgrow4.block cb zs (fun e=>gp HOWN3 e.symm HCB3 zp)).trans ((Mu _ _ _ hcb3l).trans HCB3);have HG4:=fa hgrow4;have HOWN4:=fa hown4;have HCB4:=fa hcb4;have bc4:=cell_of_blk hcb4;have bf4:=fi hcb4;refine hK _ _ ?_;clear hK K hgrow4 hown4 hcb4;apply zt0 9 (xk (some ⟨cb,0,none⟩));apply zt0 10 (xk (some ⟨cb,3,none⟩));apply zr 11;intro K hK;go_simp;refine hK _ _ ?_;clear hK K;refine wpAny_done zk ?_ _;go_wp2_with fail
   go_meet
   have hg4:=fun e=>gp HOWN4 e HCB4 zp
   refine⟨⟨hzw,some ⟨g4,0,none⟩,0+1,cap4,fj HCB4 3 _,gq HOWN4 (fK _ _ _ _) (Mr hg4)⟩, ?_⟩;exact(((HM2.trans HM3).alloc _).row HG4 (fun k e=>(gG HOWN3 k e).1) hp0).setNew hzw hp0 _ _
  ·go_simp
   go_wp2_with (refine(jO 2 _ pb g cap B L (i+1+1) false 0 NM v r (aX.later (Mz _ _).drew) bo zp j1 b1 q1 aL).mono ?_;rintro e w3 ⟨rfl,U⟩)
   have HM3:=fa U.from_drew;have I:=(U.gr.block cb aq zs).trans au;have J:=gq ag U.from_drew.gr (Mr aE);have hcb3l:=fh I;have bc3:=cell_of_blk I;have HCB3:=fa I;have HOWN3:=fa J;clear U I J bc;simp only[je];refine zr2 4 7 (fun K hK=> ?_) fun K hK=> ?_
   ·go_simp;refine hK _ _ ?_;clear hK K;apply zr 7;exact zm16
   go_simp;refine hK _ _ ?_;clear hK K;apply zr 4;exact zm16
 obtain⟨⟨-,ao,an,ac,aA,aG⟩,a6⟩:=hcut;have aK:=fa (HP.move a6 bu aw);have bj:=fa a6;have aR:=fa aA;have ai:=fa aG;have aB:=fh aA;clear a6 aA aG bc au ag aW bh aX HM2;by_cases hy20:y.k=20
 ·have aS:=HP.fe.nextLt HY zo;obtain⟨z,r2,hz⟩:=kT HP.fe aS;obtain⟨j2,b2,q2,ak⟩:=nO (z.k=2\/z.k=3) z L.length (j1+1) b1 q1;have bw:=ak.lt HP.fe hz (fun e=>zo);have aU:b2=false->NM.length<=j2:=ak.nm (fun e=>by have:=aw e;omega);obtain⟨x,r3,hx⟩:=kT HP.fe bw;obtain⟨j3,b3,q3,a8⟩:=nO (x.k=19) x L.length j2 b2 q2;have ax:=fa (B1 HP.fe HT HK aJ aL HY hy20 hz ak hx a8);have HZ:=fa hz;have HX:=fa hx;have aM:=fa ak;have bE:=fa a8;have bl:=fa aU;have az:=fa hy20;clear hz hx ak a8 aU hy20;go_wp2_with fail;refine(nE 20 aK HY az zp).mono ?_;rintro e w2 ⟨rfl,aD⟩;have bm:=fa (aK.move aD aS (fun e=>by have:=aw e;omega));have HM6:=fa (bj.trans aD);have ae:=(aD.gr.block cb aB zs).trans aR;unfold my tU at ae;have aF:(xa ao an ac).ownBlock≠some pb:=by
   intro e;have:=gG ai pb e;omega
  have ag:=fa (gq ai aD.gr (Mr aF));have aE:=aF;have aq:=fh ae;have bc:=cell_of_blk ae;have au:=fa ae;clear aD ae aF
  go_upto_region 5 with fail
  go_cut [] (fun wc=>CS w wc cb t [v,z]/\Mv w wc pb g cap L.length i false 0 j2 b2 q2)
  case first=>
   refine wp_region_any zk ?_;change wpAny _ _ _ _ _ _ _ (World.drew _);apply zt0 0 (xk (some ⟨cb,0,none⟩));apply zt0 1 (xk (some ⟨cb,0,none⟩));apply zt0 2 (xk (some ⟨cb,0,none⟩));apply zt0 3 (xk (some ⟨cb,3,none⟩));apply zt0 5 (xk (some ⟨pb,0,none⟩));refine zr2 4 6 (fun K hK=> ?_) fun K hK=> ?_
   ·go_simp;refine hK _ _ ?_;clear hK K;apply zr 6;intro K hK;go_simp
    go_wp2_with (refine(Bd pb g cap B L (j1+1) b1 q1 NM z r2 (bm.later (Mz _ _).drew) HZ j2 b2 q2 aM).mono ?_;rintro e w3 ⟨rfl,U⟩)
    have HM3:=fa U.from_drew;have I:=(U.gr.block cb aq zs).trans au;have J:=gq ag U.from_drew.gr (Mr aE);have hcb3l:=fh I;have HCB3:=fa I;have HOWN3:=fa J;clear U I J bc;simp only[je];apply zr 7;intro K hK;go_simp;refine hK _ _ ?_;clear hK K;apply zr 8;intro K hK;refine step_append_lies _ zf _ _ 125 zf w.heap.size 201 i0 (.agg #[xd xh 0,xj ⟨#[]⟩,xd xh 0]) 3 32 underlying125 hi hz0 hz1 hz2 rfl zp (xa ao an ac) 1 (gK [v]) zf ?c0 ⟨w3.heap.size,0,none⟩ 1 1 [xd xh z.k,xj z.s,xd xh z.p] zf rfl ?c1 ?c2 zp ?c3 ?c4 ?c5 (w3.heap.size+1) zp ?_
    case c0=>exact HOWN3.alloc _
    case c1=>
     intro j u hj
     match j,hj with
     |0,hj=>simp at hj;subst hj;simp[My]
     |1,hj=>simp at hj;subst hj;simp[My]
     |2,hj=>simp at hj;subst hj;simp[My]
     |j+3,hj=>simp at hj
    case c2=>intro u hu;simp at hu;rcases hu with rfl|rfl|rfl<;>rfl
    case c3=>decide
    case c4=>simp
    case c5=>simp;omega
    intro g4 cap4 w4 hown4 hgrow4 hat4 hlt4;have hcb4:=(hgrow4.block cb zs (fun e=>gp HOWN3 e.symm HCB3 zp)).trans ((Mu _ _ _ hcb3l).trans HCB3);have HG4:=fa hgrow4;have HOWN4:=fa hown4;have HCB4:=fa hcb4;have bc4:=cell_of_blk hcb4;have bf4:=fi hcb4;refine hK _ _ ?_;clear hK K hgrow4 hown4 hcb4;apply zt0 9 (xk (some ⟨cb,0,none⟩));apply zt0 10 (xk (some ⟨cb,3,none⟩));apply zr 11;intro K hK;go_simp;refine hK _ _ ?_;clear hK K;refine wpAny_done zk ?_ _;go_wp2_with fail
    go_meet
    have hg4:=fun e=>gp HOWN4 e HCB4 zp
    refine⟨⟨hzw,some ⟨g4,0,none⟩,1+1,cap4,fj HCB4 3 _,gq HOWN4 (fK _ _ _ _) (Mr hg4)⟩, ?_⟩;exact(((HM6.trans HM3).alloc _).row HG4 (fun k e=>(gG HOWN3 k e).1) hp0).setNew hzw hp0 _ _
   ·go_simp
    go_wp2_with (refine(Bd pb g cap B L (j1+1) b1 q1 NM z r2 (bm.later (Mz _ _).drew) HZ j2 b2 q2 aM).mono ?_;rintro e w3 ⟨rfl,U⟩)
    have HM3:=fa U.from_drew;have I:=(U.gr.block cb aq zs).trans au;have J:=gq ag U.from_drew.gr (Mr aE);have hcb3l:=fh I;have bc3:=cell_of_blk I;have HCB3:=fa I;have HOWN3:=fa J;clear U I J bc;simp only[je];refine zr2 4 7 (fun K hK=> ?_) fun K hK=> ?_
    ·go_simp;refine hK _ _ ?_;clear hK K;apply zr 7;exact zm15
    go_simp;refine hK _ _ ?_;clear hK K;apply zr 4;exact zm15
  obtain⟨⟨-,bt,br,bq,aC,aH⟩,a7⟩:=hcut;have bD:=fa (HP.move a7 bw bl);have bC:=fa a7;have bg:=fa aC;have ay:=fa aH;have aY:=fh aC;clear a7 aC aH bc;go_wp2_with fail;refine(jO 19 _ pb g cap B L j2 b2 q2 NM x r3 bD HX zp j3 b3 q3 bE).mono ?_;rintro e w8 ⟨rfl,aj⟩;have aV:=fa (bC.trans aj);have R:=(aj.gr.block cb aY zs).trans bg;unfold my tU at R;have ar:(xa bt br bq).ownBlock≠some pb:=by
   intro e;have:=gG ay pb e;omega
  have aa:=fa (gq ay aj.gr (Mr ar));have bc:=cell_of_blk R;have bf:=fi R;have av:=fa R;have ad:=fun e=>gp aa e R zp
  clear aj R ar;simp only[je];go_wp2;go_ret;exact⟨cb,[v,z],x,j3,b3,q3,rfl,hzw,⟨bt,br,bq,fj (fj (fj av 4 _) 5 _) 6 _,gq (gq (gq aa (fK _ _ _ _) (Mr ad)) (fK _ _ _ _) (Mr ad)) (fK _ _ _ _) (Mr ad)⟩,((aV.setNew hzw hp0 _ _).setNew hzw hp0 _ _).setNew hzw hp0 _ _,ax⟩
 obtain⟨j2,b2,q2,ak⟩:=nO (y.k=19) y L.length j1 b1 q1;have ax:=fa (BZ HP.fe HT HK aJ aL HY hy20 ak);have aM:=fa ak;have az:=fa hy20;clear ak hy20;go_wp2_with fail;refine(lp 20 aK HY az).mono ?_;rintro e w2 ⟨rfl,bx⟩;have bG:=bx.symm;clear bx;subst bG;go_wp2_with fail;refine(jO 19 _ pb g cap B L j1 b1 q1 NM y r1 aK HY zp j2 b2 q2 aM).mono ?_;rintro e w8 ⟨rfl,aj⟩;have aV:=fa (bj.trans aj);have R:=(aj.gr.block cb aB zs).trans aR;unfold my tU at R;have ar:(xa ao an ac).ownBlock≠some pb:=by
  intro e;have:=gG ai pb e;omega
 have aa:=fa (gq ai aj.gr (Mr ar));have bc:=cell_of_blk R;have bf:=fi R;have av:=fa R;have ad:=fun e=>gp aa e R zp
 clear aj R ar;simp only[je];go_wp2;go_ret;exact⟨cb,[v],y,j2,b2,q2,rfl,hzw,⟨ao,an,ac,fj (fj (fj av 4 _) 5 _) 6 _,gq (gq (gq aa (fK _ _ _ _) (Mr ad)) (fK _ _ _ _) (Mr ad)) (fK _ _ _ _) (Mr ad)⟩,((aV.setNew hzw hp0 _ _).setNew hzw hp0 _ _).setNew hzw hp0 _ _,ax⟩
def KQ(w w':World):Prop:= ∀(b:Nat) (c:Array Value) (ty:Nat) (m:Nat × Nat),w.heap[b]? =some (xi c ty m)->(ty=201\/ty=259\/ty=270)->w'.heap[b]? =some (xi c ty m)
theorem KQ.refl(w:World):KQ w w:=fun _ _ _ _ h _=>h
theorem KQ.trans(h:KQ w w1)(J:KQ w1 w2):KQ w w2:=fun b c ty m R I=>J b c ty m (h b c ty m R I) I
theorem KQ.below(h:Below w.heap.size w w'):KQ w w':=fun b _ _ _ I _=>(h.block b (fh I)).trans I
theorem KQ.grown{row:Option Nat}(h:w.grownBy w' row)(hr: ∀k,row=some k->¬ TyAt w k 201/\¬ TyAt w k 259/\¬ TyAt w k 270):KQ w w':=fun b c ty m I ht=>
 (h.block b (fh I) (by
  intro e;obtain⟨J,R,U⟩:=hr b e.symm;rcases ht with rfl|rfl|rfl
  ·exact J ⟨c,m,I⟩
  ·exact R ⟨c,m,I⟩
  exact U ⟨c,m,I⟩)).trans I
theorem lR{b ty I:Nat}(h:w.heap[b]? =some (xi c ty m))(hne:ty≠I):¬ TyAt w b I:=by
 rintro⟨c',m',h'⟩;simp_all
theorem KQ.set{b ty:Nat}(I:w.heap[b]? =some (xi c ty m))(J:ty≠201)(R:ty≠259)(U:ty≠270)(o:Nat)(v:Value):KQ w (w.setCell ⟨b,o,none⟩ v):=
 KQ.grown (fK w b o v) (fun k e=>by cases e;exact⟨lR I J,lR I R,lR I U⟩)
theorem KQ.owns(h:KQ w w'){size:Nat}(ho:w.ownsRow base 201 size v n xs):w'.ownsRow base 201 size v n xs:=by
 exact zm120
theorem KQ.isG(h:KQ w w'){v:Option Addr}(hf:IsG w f v):IsG w' f v:=
 hf.keep (fun b c m I=>(h b c _ m I (Mr (Mr rfl))).trans I.symm)
def RsIs(w:World)(r:Rl)(fp no:Option Addr)(nn nc:Nat)(cp:Option Addr):Prop:=
 if r.call=true then (∃cb ao an ac x,cp=some ⟨cb,0,none⟩/\w.heap[cb]? =some (my r.word ao an ac x)/\x.p=r.fin/\w.ownsRow 0 201 3 (xa ao an ac) r.args.length (gK r.args))/\no=none/\nn=0/\nc=0/\fp=none
 else cp=none/\IsG w r.f fp/\w.ownsRow 0 201 3 (xa no nn nc) (kJ r.f).length (gK (kJ r.f))
theorem RsIs.keep(h:KQ w w'){r:Rl}{no:Option Addr}(hr:RsIs w r fp no nn nc cp):RsIs w' r fp no nn nc cp:=by
 unfold RsIs at hr|-;by_cases hc:r.call=true
 ·rw[if_pos hc] at hr|-;obtain⟨⟨cb,J,I,ac,x,R,U,h3,h4⟩,h5⟩:=hr;exact⟨⟨cb,J,I,ac,x,R,h _ _ _ _ U (Mr (Ms rfl)),h3,h.owns h4⟩,h5⟩
 rw[if_neg hc] at hr|-;exact⟨hr.1,h.isG hr.2.1,h.owns hr.2.2⟩
def Bh(t:Tk)(fp no:Option Addr)(nn nc:Nat)(cp:Option Addr):Obj:=
 xi #[xd xh t.k,xj t.s,xd xh t.p,xk fp,xa no nn nc,xk cp] 205 (0,0)
def Ko(L : List Tk)(pb g cap : Nat)(w w' : World)(t : Tk)(e : Ending)(x : Except Nat (Rl × List Tk)) : Prop :=
  w.grownBy w' (some pb) /\ ∃ fp no nn nc cp, e =xm (.agg #[xd xh t.k, xj t.s, xd xh t.p, xk fp, xa no nn nc, xk cp]) /\
    ((∃ rl l1, x = .ok (rl, l1) /\ gu l1 = 21 /\ RsIs w' rl fp no nn nc cp /\ ∃ B j NM, PL L j = l1.tail /\ PP w' pb g cap B L j false 0 NM) \/
     (∃ rl l1, x = .ok (rl, l1) /\ gu l1 ≠ 21 /\ ∃ B NM, PP w' pb g cap B L (L.length - 1) true (gQ l1) NM) \/
     (∃ q, x = .error q /\ ∃ B NM, PP w' pb g cap B L (L.length - 1) true q NM))
theorem PP.clear{g:Nat}(h:PP w pb g cap B L i bad q NM):PP (w.setCell ⟨pb,3,none⟩ (xa none 0 0)) pb g cap w.heap.size L i bad q []:=by
 obtain⟨no,nn,nc,I,h2⟩:=h.blk;obtain⟨cur,J,R⟩:=h.row;exact⟨⟨none,0,0,fj I 3 _,MC _ _ _ _⟩,⟨cur,(Mt _ _ _ _ h.ne).trans J,R⟩,h.le,h.capLe,h.len,h.lt,h.fe,h.ok,h.gLt,h.pLt,zp,fun _=>MD _⟩
theorem PP.ty{g:Nat}(h:PP w pb g cap B L i bad q NM): ∃c m,w.heap[pb]? =some (xi c 194 m):=by
 obtain⟨no,nn,nc,h1,h2⟩:=h.blk;simp_all
theorem PP.kq{g:Nat}(h:PP w pb g cap B L i bad q NM)(hg:w.grownBy w' (some pb)):KQ w w':=by
 obtain⟨c,m,I⟩:=h.ty;exact KQ.grown hg (fun k e=>by cases e;exact⟨lR I zp,lR I zp,lR I zp⟩)
theorem PP.setTy{g:Nat}(h:PP w pb g cap B L i bad q NM){c ty:Nat}(hc:w.heap[c]? =some (xi cs ty m))(R:ty≠201)(h2:ty≠194)(o:Nat)(v:Value):PP (w.setCell ⟨c,o,none⟩ v) pb g cap B L i bad q NM:=by
 obtain⟨no,nn,nc,hb,ho⟩:=h.blk;obtain⟨cur,U,h4⟩:=h.row;have J:pb≠c:=by rintro rfl;simp_all
 have I:g≠c:=by rintro rfl;simp_all
 exact⟨⟨no,nn,nc,(Mt _ _ _ _ J).trans hb,gq ho (fK _ _ _ _) (Mr (fun e=>gp ho e hc R))⟩,⟨cur,(Mt _ _ _ _ I).trans U,h4⟩,h.le,h.capLe,h.len,h.lt,h.fe,h.ok,h.gB,h.pB,by simp[World.setCell];exact h.hB,h.nm⟩
def set6(w:World)(b:Nat)(v0 v1 v2 v3 v4 v5:Value):World:=(((((w.setCell ⟨b,0,none⟩ v0).setCell ⟨b,1,none⟩ v1).setCell ⟨b,2,none⟩ v2).setCell ⟨b,3,none⟩ v3).setCell ⟨b,4,none⟩ v4).setCell ⟨b,5,none⟩ v5
theorem PP.set6{g:Nat}(h:PP w pb g cap B L i bad q NM){c ty:Nat}(hc:w.heap[c]? =some (xi cs ty m))(I:ty≠201)(J:ty≠194)(v0 v1 R U v4 v5:Value):PP (set6 w c v0 v1 R U v4 v5) pb g cap B L i bad q NM:=
 (((((h.setTy hc I J 0 v0).setTy (fj hc 0 v0) I J 1 v1).setTy (fj (fj hc 0 v0) 1 v1) I J 2 R).setTy (fj (fj (fj hc 0 v0) 1 v1) 2 R) I J 3 U).setTy (fj (fj (fj (fj hc 0 v0) 1 v1) 2 R) 3 U) I J 4 v4).setTy (fj (fj (fj (fj (fj hc 0 v0) 1 v1) 2 R) 3 U) 4 v4) I J 5 v5
theorem KQ.set6{b ty:Nat}(U:w.heap[b]? =some (xi c ty m))(I:ty≠201)(J:ty≠259)(R:ty≠270)(v0 v1 v2 v3 v4 v5:Value):KQ w (set6 w b v0 v1 v2 v3 v4 v5):=
 (((((KQ.set U I J R 0 v0).trans (KQ.set (fj U 0 v0) I J R 1 v1)).trans (KQ.set (fj (fj U 0 v0) 1 v1) I J R 2 v2)).trans (KQ.set (fj (fj (fj U 0 v0) 1 v1) 2 v2) I J R 3 v3)).trans (KQ.set (fj (fj (fj (fj U 0 v0) 1 v1) 2 v2) 3 v3) I J R 4 v4)).trans (KQ.set (fj (fj (fj (fj (fj U 0 v0) 1 v1) 2 v2) 3 v3) 4 v4) I J R 5 v5)
theorem Dq{row:Option Nat}(h:w.grownBy w' row){b:Nat}(I:w.heap.size<=b){v0 v1 J R v4 U:Value}:w.grownBy (set6 w' b v0 v1 J R v4 U) row:=
 gy (gy (gy (gy (gy (gy h I 0 v0) I 1 v1) I 2 J) I 3 R) I 4 v4) I 5 U
theorem Gw{b ty:Nat}{a0 a1 U a3 a4 a5:Value}(hb:w.heap[b]? =some (xi #[a0,a1,U,a3,a4,a5] ty m))(v0 v1 I J v4 R:Value):(set6 w b v0 v1 I J v4 R).heap[b]? =some (xi #[v0,v1,I,J,v4,R] ty m):=
 fj (fj (fj (fj (fj (fj hb 0 v0) 1 v1) 2 I) 3 J) 4 v4) 5 R
theorem PF.from(hg:w.grownBy W (some pb))(hf:PF pb B W w3)(hB:w.heap.size<=B):w.grownBy w3 (some pb):=
 ⟨hf.os.trans hg.os,hf.tape.trans hg.tape,hf.output.trans hg.output,Mx hg.size hf.size,fun k J I=>(hf.keep k (Mw J hg.size) (fun e=>I (by rw[e])) (Ms zo)).trans (hg.block k J I)⟩
theorem zM{l:List Tk}(h:¬ (gu l=2/\gu l.tail=18)):gS l=(match pf (6 * l.length+5) 0 .nil l with| .error q=> .error q| .ok (f,l1)=> .ok (⟨0,false,tU,[],0,f⟩,l1)):=by
 unfold gS;rw[if_neg h];rfl
structure Lj (L:List Tk) (pb g cap:Nat) (w wc:World) (rb vb:Nat) (t:Tk) (x:Except Nat (Rl × List Tk)):Prop where
 gr:w.grownBy wc (some pb)
 rbx:wc.heap[rb]? =some (Bh tU none none 0 0 none)
 ex: ∃fp no nn nc cp B j b q NM,wc.heap[vb]? =some (Bh t fp no nn nc cp)/\PP wc pb g cap B L j b q NM/\
  ((b=false/\q=0/\ ∃rl,x= .ok (rl,PL L j)/\RsIs wc rl fp no nn nc cp)\/(b=true/\j=L.length - 1/\x= .error q))
theorem yW(pb g cap B:Nat)(L:List Tk)(i:Nat)(NM:List Tk)(t:Tk)(r:List Tk)(h:PP w pb g cap B L i false 0 NM)(ht:PL L i=t::r)(hk:t.k=5):
  Calls prog 156 #[xk (some ⟨pb,0,none⟩)] w fun e w'=>Ko L pb g cap w w' t e (gS r):=by
 have hp0:=h.pLt;have hr:=iL ht zo;have aP:=h.fe.nextLt ht zo;obtain⟨t1,r1,bI⟩:=kT h.fe aP;have bH:r=t1::r1:=za;have HP:=fa h;have HT:=fa ht;have av:=fa bI;have HK:=fa hk;have HR:=fa hr;have ag:=fa bH;clear h ht hk bI hr bH;go_in;go_wp2_with fail;refine(kG 5 _ _ _ _ _ _ _ _ _ _ _ _ (HP.alloc _) HT HK zp).mono ?_;rintro e w1 ⟨rfl,aH⟩;have ba:=fa (((Mv.refl w pb g cap L.length i false 0).alloc _).trans aH);have I:=fa ((HP.alloc _).step aH HT (by have:=HK.out;omega));have az:=(aH.gr.block w.heap.size zp zs).trans (ft _ _);have aN:=fa az;have bK:=fh az;clear aH az;simp only[je]
 go_upto_region 2 with fail
 obtain⟨cc,br⟩: ∃cc,cc=decide (gu r=2/\gu r.tail=18):=⟨_,rfl⟩;have aB:=fa br;clear br
 go_cut [19] (fun c wc=>c=xn cc/\wc=w1.alloc (xi #[xd xh t.k,xj t.s,xd xh t.p,xk none,xa none 0 0,xk none] 205))
 case first=>
  obtain⟨no,nn,nc,ak,_⟩:=I.blk;have bc:=cell_of_blk ak;have bD:=I.pLt;have hg1:=I.gLt;clear ak;by_cases hn:t1.k=2
  ·have bA:=HP.fe.nextLt av zo;have bC:=iL av zo;obtain⟨u,r2,hu⟩:=kT HP.fe bA;have aq:r1=u::r2:=by rw[<-bC];exact hu
   obtain⟨r3,aL⟩:=ue hu;obtain⟨c0,c1,c2⟩:=l5 I.row aL;have e2:((t1.k:Int)==2)=true:=mu (c:=2) hn;have c0':w1.cell? ⟨g,(i+1) * 3+3,none⟩=some (xd xh u.k):=by rw[<-c0];congr 2;omega
   have hh:gu r=2:=by rw[ag.out];exact hn
   have bx:gu r.tail=u.k:=by rw[ag.out,aq];rfl
   have HH:=fa hh;have bU:=fa bx;clear hn bC hu aq aL hh bx c0 c1 c2
   go_wp2_with (refine(jc _ _ _ _ _ _ _ _ _ _ _ (I.alloc _) av).mono ?_;rintro e w' ⟨rfl,rfl⟩)
   go_meet
   refine⟨?_,rfl⟩
   congr 1
   rw[aB.out,HH.out,bU.out];simp only[true_and];rw[Bool.eq_iff_iff];simp;omega
  ·have e2:((t1.k:Int)==2)=false:=iE (c:=2) hn;have hh:¬ gu r=2:=by rw[ag.out];exact hn
   have HH:=fa hh;clear hn hh
   go_wp2_with (go_at_call 155;refine(jc _ _ _ _ _ _ _ _ _ _ _ (I.alloc _) av).mono ?_;rintro e w' ⟨rfl,rfl⟩)
   go_meet
   exact⟨by rw[aB.out,decide_eq_false (fun e=>HH.out e.1)],rfl⟩
 obtain⟨rfl,rfl⟩:=hcut
 go_upto_if 19 with fail
 go_cut [] (fun wc=>Lj L pb g cap w wc w.heap.size w1.heap.size t (gS r))
 case first=>
  by_cases hcall:gu r=2/\gu r.tail=18
  ·have hd:=aB.trans (decide_eq_true hcall);subst hd;obtain⟨u,v,r2,aq,bz⟩: ∃u v r2,r=t1::u::v::r2/\u.k=18:=by
    have aY:=kS HP.fe aP;rw[av.out] at aY;have h1:t1.k=2:=by have:=hcall.1;rw[ag.out] at this;trivial
    obtain⟨u,r2,aq⟩:=Ends.more aY zo;subst aq;have h2:u.k=18:=by have:=hcall.2;rw[ag.out] at this;trivial
    obtain⟨v,r3,aL⟩:=Ends.more (aY.tail zo) zo;subst aL;exact⟨u,v,r3,ag,h2⟩
   have aG:t1.k=2:=by have:=hcall.1;rw[ag.out] at this;trivial
   have bF:PL L (i+1)=t1::u::v::r2:=by rw[HR.out];omega
   have bZ:=fa bF;have bV:=fa aG;have bW:=fa bz;clear hcall aq bz bF aG;go_wp2_with fail;refine(Fq pb g cap B L (i+1) NM t1 u v r2 (I.alloc _) bZ bV bW).mono ?_;rintro e w2 ⟨cb,args,x,j,b,q,rfl,hcbw,⟨ao,an,ac,bq,aQ⟩,aI,J⟩;have ad:=(aI.gr.block w1.heap.size zp (by have:=I.pLt;simp;omega)).trans (ft _ _);have aR:=(aI.gr.block w.heap.size zs zs).trans ((Mu _ _ _ bK).trans aN);have bd:=fa aI;have aw:=fa ad;have bl:=fa aR;have bR:=fa bq;have bg:=fa aQ;have R:=fa J;unfold Bh at ad;have vc:=cell_of_blk ad;have vf:=fi ad;clear aI ad aR bq aQ J;go_wp2_with fail
   go_meet
   have hj:j<L.length:=by
    rcases R.out with⟨_,_,h,_⟩|⟨_,h,_⟩
    ·omega
    omega
   have aF:=(((Mv.refl w1 pb g cap L.length (i+1) false 0).alloc _).trans bd).gr;have a6:KQ w2 (w2.setCell ⟨w1.heap.size,5,none⟩ (xk (some ⟨cb,0,none⟩))):=KQ.set aw zp zp zp _ _;refine⟨gy (ba.gr.trans aF) zo _ _,(Mt _ _ _ _ (by show w.heap.size≠w1.heap.size;omega)).trans bl,none,none,0,0,some ⟨cb,0,none⟩,B,j,b,q,NM,fj aw 5 _, ?_, ?_⟩
   ·refine(I.move (((Mv.refl w1 pb g cap L.length (i+1) false 0).alloc _).trans bd) hj ?_).setTy aw zp zp _ _;intro e;rcases R.out with⟨_,_,h,_⟩|⟨h,_,_⟩
    ·have h1:=I.nm rfl;omega
    simp_all
   rcases R.out with⟨h1,h2,_,h4⟩|⟨h1,h2,h3⟩
   ·refine Ms ⟨h1,h2,_,by rw[<-HR.out];exact h4, ?_⟩;refine RsIs.keep a6 ?_;unfold RsIs;rw[if_pos rfl];exact⟨⟨cb,ao,an,ac,x,rfl,bR,rfl,ig bg (MD _)⟩,rfl,rfl,rfl,rfl⟩
   exact Mr ⟨h1,h2,by rw[<-HR.out];omega⟩
  ·have hd:=aB.trans (decide_eq_false hcall);subst hd;have b4:=fa (zM hcall);have bE:=I.clear.alloc (Bh t none none 0 0 none);have bY:=fa bE;obtain⟨no1,nn1,nc1,ak,_⟩:=I.blk;have bc:=cell_of_blk ak;have bf:=fi ak;have bD:=I.pLt;clear hcall bE ak;go_wp2_with fail;refine(Bb (6 * (PL L (i+1)).length+5) _ _ _ _ _ _ _ _ bY (ME _)).mono ?_;rintro e w3 ⟨aE,p3,rfl,ar⟩;rw[HR.out] at ar;clear bc bf;have a7:(w1.setCell ⟨pb,3,none⟩ (xa none 0 0)).heap.size=w1.heap.size:=zp;have ae:=(aE.keep w1.heap.size zp zo (Mr (lR (fk _ (Bh t none none 0 0 none) _ a7.symm) zp))).trans (fk _ _ _ a7.symm);have aS:=(aE.keep w.heap.size (by simp[World.setCell];omega) zo (Ms bK)).trans ((Mu _ _ _ zo).trans ((Mt _ _ _ _ (by show w.heap.size≠pb;omega)).trans aN));have aO:=PF.from (gI (ba.gr.trans (fK _ _ _ _)) _) aE zo
   have bB: ∃j b q aj,PP w3 pb g cap w1.heap.size L j b q aj/\((b=false/\q=0/\ ∃f,gS r= .ok (⟨0,false,tU,[],0,f⟩,PL L j)/\IsG w3 f p3/\aj=kJ f)\/(b=true/\j=L.length - 1/\gS r= .error q)):=by
    rw[b4.out];cases hpf:pf (6 * r.length+5) 0 .nil r with
    |error q=>
     rw[hpf] at ar;obtain⟨aj,ai⟩:=ar;exact⟨_,_,q,aj,ai,Mr ⟨rfl,rfl,rfl⟩⟩
    |ok x=>
     obtain⟨f,l1⟩:=x;rw[hpf] at ar;obtain⟨b8,j,b9,ai⟩:=ar;subst b9;exact⟨j,false,0,_,ai,Ms ⟨rfl,rfl,f,rfl,b8,rfl⟩⟩
   obtain⟨j,b,q,aj,ai,J⟩:=bB;obtain⟨no,nn,nc,bo,ax⟩:=ai.blk;have bc:=cell_of_blk bo;have bX:=fa ai;have aU:=fa ax;have R:=fa J;have aa:=fa ae;have bm:=fa aS;have a':=fa aO;unfold Bh at ae;have vc:=cell_of_blk ae;have vf:=fi ae;clear aE ar ae aS aO J ai bo ax a7;go_wp2_with fail
   go_meet
   have aG:=(KQ.set aa zp zp zp 3 (xk p3)).trans (KQ.set (fj aa 3 (xk p3)) zp zp zp 4 (xa no nn nc));refine⟨gy (gy a' zo _ _) zo _ _,(Mt _ _ _ _ (by show w.heap.size≠w1.heap.size;omega)).trans ((Mt _ _ _ _ (by show w.heap.size≠w1.heap.size;omega)).trans bm),p3,no,nn,nc,none,w1.heap.size,j,b,q,aj,fj (fj aa 3 _) 4 _, ?_, ?_⟩
   ·exact(bX.setTy aa zp zp _ _).setTy (fj aa 3 _) zp zp _ _
   rcases R.out with⟨h1,h2,f,h4,h5,h6⟩|h
   ·refine Ms ⟨h1,h2,_,h4, ?_⟩;refine RsIs.keep aG ?_;unfold RsIs;rw[if_neg zp];subst h6;exact⟨rfl,h5,ig aU (MD _)⟩
   simp_all
 obtain⟨aF,hrb,fp,no,nn,nc,cp,B2,j,b,q,aD,bJ,aK,J⟩:=hcut;obtain⟨y,r5,hy⟩:=kT aK.fe aK.lt;obtain⟨j2,b2,q2,hs⟩:=nO (y.k=21) y L.length j b q;have HY:=fa hy;have HS:=fa hs;have aC:=fa aK;have bS:=fa aF;have bj:=fa hrb;have bn:=fa bJ;have R:=fa J;clear hy hs aK aF hrb bJ J;go_wp2_with fail;refine(jO 21 _ pb g cap B2 L j b q aD y r5 aC HY zp j2 b2 q2 HS).mono ?_;rintro e w4 ⟨rfl,aJ⟩;have aA:=(aJ.gr.block w1.heap.size (fh bn) (by have:=I.pLt;simp;omega)).trans bn;have U:=(aJ.gr.block w.heap.size (fh bj) zs).trans bj;have aT:=fa aJ;have au:=fa U;unfold Bh at aA U;unfold tU at U;have vc:=cell_of_blk aA;have rc:=cell_of_blk U;have rf:=fi U;clear aJ aA U;simp only[je];go_wp2_with fail;have bu:=Gw au (xd xh t.k) (xj t.s) (xd xh t.p) (xk fp) (xa no nn nc) (xk cp);have bL:=cell_of_blk bu;clear rc;unfold set6 at bL;refine bodyPost_ret (v:= .agg #[xd xh t.k,xj t.s,xd xh t.p,xk fp,xa no nn nc,xk cp]) (by simp[results,results156,go_sem,bL]) rfl ?_;have bG:=aC.stp HY (fun e=>zo) HS aT;have ay:=bG.set6 au zp zp (xd xh t.k) (xj t.s) (xd xh t.p) (xk fp) (xa no nn nc) (xk cp);have a6:=(aC.kq aT.gr).trans (KQ.set6 au zp zp zp (xd xh t.k) (xj t.s) (xd xh t.p) (xk fp) (xa no nn nc) (xk cp));refine⟨Dq (bS.trans aT.gr) (ME _),fp,no,nn,nc,cp,rfl, ?_⟩;have hyk:gu (PL L j)=y.k:=by rw[HY.out];rfl
 have hyp:gQ (PL L j)=y.p:=by rw[HY.out];rfl
 rcases R.out with⟨rfl,rfl,rl,hx,hrs⟩|⟨rfl,rfl,hx⟩
 ·rcases HS.out with⟨hk,rfl,rfl,rfl⟩|⟨hk,rfl,rfl,rfl⟩
  ·exact Ms ⟨rl,_,hx,zo,hrs.keep a6,B2,j+1,aD,by rw[HY.out];exact iL HY zo,ay⟩
  exact Mr (Ms ⟨rl,_,hx,zo,B2,aD,by rw[hyp];exact ay⟩)
 obtain⟨e0,bt,hek⟩:=mF aC.fe;rw[HY.out] at bt;have hye:=(List.cons.inj bt).1;rcases HS.out with⟨hk,_⟩|⟨hk,rfl,rfl,rfl⟩
 ·simp_all
 exact Mr (Mr ⟨_,hx,B2,aD,ay⟩)
theorem CA: ∀l:List Tk,(cut l).length<=l.length
 |[]=>ME _
 |t::r=>by
  rw[cut]
  split
  ·simp
  simp;exact CA r
theorem En(L:List Tk)(i:Nat):(PL L i).length<=L.length:=by
 unfold PL;have:=CA (L.drop i);rw[List.length_drop] at this;omega
def uf(m:Nat)(A:List Tk)(l:List Tk):Except Nat (List Tk × List Tk):=if gu l=20 then pn A (iG m l.tail) else .ok (A,l)
theorem vU{m:Nat}{v:Tk}(J:v.k=2):pn A (iG (m+1) (v::r))=uf m (A++[v]) r:=by
 have I:gu (v::r)=2:=J;rw[iG,if_pos I];unfold uf;by_cases h:gu r=20
 ·rw[if_pos (show gu (v::r).tail=20 from h),if_pos h];show pn A (match iG m r.tail with| .error q=> .error q| .ok (ts,l1)=> .ok (v::ts,l1))=_;cases iG m r.tail with
  |error q=>rfl
  |ok x=>show Except.ok _=Except.ok _;simp
 rw[if_neg (show ¬ gu (v::r).tail=20 from h),if_neg h];rfl
theorem vV{m:Nat}{v:Tk}(I:v.k≠2):pn A (iG m (v::r))= .error v.p:=by
 cases m with
 |zero=>rfl
 |succ m=>rw[iG,if_neg (show ¬ gu (v::r)=2 from I)];rfl
def qO(L:List Tk)(m:Nat)(A:List Tk)(j:Nat)(b:Bool)(q:Nat):Prop:=
 (b=false/\q=0/\A.length+(PL L j).length<=401/\(PL L j).length<=m/\kz (PL L 0)=uf m A (PL L j))\/(b=true/\j=L.length - 1/\kz (PL L 0)= .error q)
theorem qY(I:FE L)(hy:PL L (L.length - 1)=y::r):y.k=0:=by
 obtain⟨e,he,hek⟩:=mF I;simp_all
theorem Df(U:FE L)(hlen:L.length<=401){v:Tk}(R:PL L 0=t::r)(aa:Stp (t.k=4) t L.length 0 false 0 j0 b0 q0)(hv:PL L j0=v::r1)
  (J:Stp (v.k=2) v L.length j0 b0 q0 j1 b1 q1):qO L ((PL L 0).length - 1) [v] j1 b1 q1:=by
 have h0:=En L 0;rcases aa with⟨h4,rfl,rfl,rfl⟩|⟨h4,rfl,rfl,rfl⟩
 ·have hr:r=v::r1:=by rw[<-iL R zo];omega
  subst hr;have hx:kz (PL L 0)=pn [] (iG (r1.length+1+1) (v::r1)):=by
   unfold kz;rw[R,if_pos (show gu (t::v::r1)=4 from h4)];show iG (r1.length+1+1) (v::r1)=_;cases iG (r1.length+1+1) (v::r1)<;>rfl
  rcases J with⟨hk,rfl,rfl,rfl⟩|⟨hk,rfl,rfl,rfl⟩
  ·have I:=iL hv zo;refine Ms ⟨rfl,rfl, ?_, ?_, ?_⟩
   ·rw[I];rw[R] at h0;simp at h0|-;omega
   ·simp_all
   rw[hx,R,I];show _=uf (r1.length+1) [v] r1;rw[vU hk];rfl
  exact Mr ⟨rfl,rfl,by rw[hx,vV hk];rfl⟩
 have:=qY U hv;rcases J with⟨hk,_⟩|⟨hk,rfl,rfl,rfl⟩
 ·omega
 refine Mr ⟨rfl,rfl, ?_⟩;unfold kz;rw[R,if_neg (show ¬ gu (t::r)=4 from h4)];rfl
theorem Dg(R:FE L){m:Nat}(h:qO L m A j b q){v:Tk}(U:PL L j=y::r)(J:y.k=20)(hv:PL L (j+1)=v::r1)
  (hs:Stp (v.k=2) v L.length (j+1) b q j2 b2 q2):1<=m/\A.length<=400/\qO L (m - 1) (A++[v]) j2 b2 q2:=by
 rcases h with⟨rfl,rfl,h3,h4,h5⟩|⟨rfl,rfl,_⟩
 ·have hr:r=v::r1:=by rw[<-iL U zo];omega
  subst hr;rw[U] at h3 h4 h5;simp at h3 h4;obtain⟨m',rfl⟩: ∃m',m=m'+1:=⟨m - 1,zo⟩;have hx:kz (PL L 0)=pn A (iG (m'+1) (v::r1)):=by
   rw[h5];unfold uf;rw[if_pos (show gu (y::v::r1)=20 from J)];rfl
  refine⟨zo,zo, ?_⟩;rcases hs with⟨hk,rfl,rfl,rfl⟩|⟨hk,rfl,rfl,rfl⟩
  ·have I:=iL hv zo;refine Ms ⟨rfl,rfl, ?_, ?_, ?_⟩
   ·rw[I];simp;omega
   ·rw[I];simp;omega
   rw[hx,I];exact vU hk
  exact Mr ⟨rfl,rfl,by rw[hx,vV hk];rfl⟩
 have:=qY R U;omega
theorem Gj{m:Nat}(h:qO L m A j b q)(J:PL L j=y::r)(I:y.k≠20):
  (b=false/\q=0/\A.length<=401/\kz (PL L 0)= .ok (A,PL L j))\/(b=true/\j=L.length - 1/\kz (PL L 0)= .error q):=by
 rcases h with⟨h1,h2,h3,h4,h5⟩|h
 ·refine Ms ⟨h1,h2,zo, ?_⟩;rw[h5];unfold uf;rw[J,if_neg (show ¬ gu (y::r)=20 from I)]
 simp_all
def ud(L:List Tk)(m:Nat)(al:List Tk)(rs:List Rl)(j:Nat)(b:Bool)(q:Nat):Prop:=
 (b=false/\q=0/\rs.length+(PL L j).length<=401/\(PL L j).length<=m/\gW (PL L 0)=nj al rs (iI m (PL L j)))\/(b=true/\j=L.length - 1/\gW (PL L 0)= .error q)
theorem Fe(J:FE L)(hlen:L.length<=401)(h:(b=false/\q=0/\A.length<=401/\kz (PL L 0)= .ok (A,PL L j))\/(b=true/\j=L.length - 1/\kz (PL L 0)= .error q))
  (I:PL L j=y::r)(hs:Stp (y.k=21) y L.length j b q j2 b2 q2):ud L (PL L j).length A [] j2 b2 q2:=by
 have hl:=En L j2;rcases h with⟨rfl,rfl,_,h4⟩|⟨rfl,rfl,h3⟩
 ·have hm:gW (PL L 0)=if gu (PL L j)=21 then nj A [] (iI (PL L j).length (PL L j).tail) else .error (gQ (PL L j)):=by rw[mA,h4]
  rcases hs with⟨hk,rfl,rfl,rfl⟩|⟨hk,rfl,rfl,rfl⟩
  ·have hr:=iL I zo;refine Ms ⟨rfl,rfl, ?_, ?_, ?_⟩
   ·simp;omega
   ·simp_all
   rw[hm,hr,I,if_pos (show gu (y::r)=21 from hk)];rfl
  refine Mr ⟨rfl,rfl, ?_⟩;rw[hm,I,if_neg (show ¬ gu (y::r)=21 from hk)];rfl
 have:=qY J I;rcases hs with⟨hk,_⟩|⟨hk,rfl,rfl,rfl⟩
 ·omega
 exact Mr ⟨rfl,rfl,by rw[mA,h3]⟩
theorem uO{m:Nat}(I:t.k=5):iI (m+1) (t::r)=(match gS r with
   | .error q=> .error q
   | .ok (rl,l1)=>if gu l1=21 then (match iI m l1.tail with| .error q=> .error q| .ok rs=> .ok ({rl with pl:=t.p}::rs)) else .error (gQ l1)):=by
 rw[iI,if_neg (show ¬ gu (t::r)=0 by show ¬ t.k=0;omega),if_pos (show gu (t::r)=5 from I)];rfl
theorem Hk{m:Nat}(I:FE L)(h:ud L m al rs j b q)(J:PL L j=t::r)(h5:t.k=5):
  b=false/\q=0/\rs.length<=400/\ ∃m',m=m'+1/\rs.length+r.length<=400/\r.length<=m'/\gW (PL L 0)=nj al rs (iI (m'+1) (t::r)):=by
 rcases h with⟨rfl,rfl,h3,h4,h6⟩|⟨rfl,rfl,_⟩
 ·rw[J] at h3 h4 h6;simp at h3 h4;exact⟨rfl,rfl,zo,m - 1,zo,zo,zo,by rw[h6];congr 2;omega⟩
 have:=qY I J;omega
theorem KM(R:t.k=5)(hl:rs.length+r.length<=400)(hl2:r.length<=m')(h:gW (PL L 0)=nj al rs (iI (m'+1) (t::r)))
  {rl:Rl}{l1:List Tk}(hr:gS r= .ok (rl,l1))(I:gu l1=21)(J:PL L j2=l1.tail):ud L m' al (rs++[{rl with pl:=t.p}]) j2 false 0:=by
 have hlen:=qm r rl l1 hr;have hl1:l1.tail.length+1=l1.length:=mz zo;refine Ms ⟨rfl,rfl, ?_, ?_, ?_⟩
 ·rw[J];simp;omega
 ·rw[J];omega
 rw[h,uO R,hr,J];show nj al rs (if gu l1=21 then _ else _)=_;rw[if_pos I];cases iI m' l1.tail with
 |error q=>rfl
 |ok x=>show Except.ok _=Except.ok _;simp
theorem Ff(I:t.k=5)(h:gW (PL L 0)=nj al rs (iI (m'+1) (t::r)))
  (hr:(∃rl l1,gS r= .ok (rl,l1)/\gu l1≠21/\q=gQ l1)\/gS r= .error q):ud L m' al rs' (L.length - 1) true q:=by
 refine Mr ⟨rfl,rfl, ?_⟩;rw[h,uO I];rcases hr with⟨rl,l1,hr,hk,rfl⟩|hr
 ·rw[hr];show nj al rs (if gu l1=21 then _ else _)=_;rw[if_neg hk];rfl
 rw[hr];rfl
theorem JE(I:FE L){m:Nat}(h:ud L m al rs j b q)(J:PL L j=t::r)(R:t.k≠5):
  (t.k=0/\b=false/\gW (PL L 0)= .ok (al,rs))\/(t.k≠0/\b=false/\q=0/\gW (PL L 0)= .error t.p)\/(t.k=0/\b=true/\gW (PL L 0)= .error q):=by
 rcases h with⟨rfl,rfl,h3,h4,h6⟩|⟨rfl,rfl,h3⟩
 ·rw[J] at h4 h6;obtain⟨m',rfl⟩: ∃m',m=m'+1:=⟨m - 1,by simp at h4;omega⟩;by_cases h0:t.k=0
  ·refine Ms ⟨h0,rfl, ?_⟩;rw[h6,iI,if_pos (show gu (t::r)=0 from h0)];simp[nj]
  refine Mr (Ms ⟨h0,rfl,rfl, ?_⟩);rw[h6,iI,if_neg (show ¬ gu (t::r)=0 from h0),if_neg (show ¬ gu (t::r)=5 from R)];rfl
 exact Mr (Mr ⟨qY I J,rfl,h3⟩)
def RulesP(w:World):List Rl->List Value->Prop
 |[],cs=>cs=[]
 |r::rs,cs=> ∃k s fp no nn nc cp rest,cs=xd xh k:: xj s:: xd xh r.pl:: xk fp:: xa no nn nc:: xk cp::rest/\RsIs w r fp no nn nc cp/\RulesP w rs rest
theorem RulesP.keep(h:KQ w w'): ∀{rs:List Rl} {cs:List Value},RulesP w rs cs->RulesP w' rs cs
 |[],_,h1=>h1
 |_::_,_,⟨k,s,fp,no,nn,nc,cp,rest,e,hr,hrs⟩=>⟨k,s,fp,no,nn,nc,cp,rest,e,hr.keep h,RulesP.keep h hrs⟩
theorem RulesP.snoc: ∀{rs:List Rl} {cs:List Value} {r:Rl} {k:Int} {s:ByteArray} {fp no:Option Addr} {nn nc:Nat} {cp:Option Addr},RulesP w rs cs->RsIs w r fp no nn nc cp->
  RulesP w (rs++[r]) (cs++[xd xh k,xj s,xd xh r.pl,xk fp,xa no nn nc,xk cp])
 |[],_,_,k,s,fp,no,nn,nc,cp,h,hr=>by cases h;exact⟨k,s,fp,no,nn,nc,cp,[],rfl,hr,rfl⟩
 |_::_,_,r,k',s',fp',no',nn',nc',cp',⟨k,s,fp,no,nn,nc,cp,rest,e,h1,h2⟩,hr=>⟨k,s,fp,no,nn,nc,cp,rest++[xd xh k',xj s',xd xh r.pl,xk fp',xa no' nn' nc',xk cp'],za,h1,RulesP.snoc h2 hr⟩
theorem RsIs.pl{r:Rl}{no:Option Addr}(h:RsIs w r fp no nn nc cp)(p:Nat):RsIs w {r with pl:=p} fp no nn nc cp:=h
def kN(o1:Option Addr)(n1 k1:Nat)(o2:Option Addr)(n2 k2:Nat):Obj:= xi #[xa o1 n1 k1,xa o2 n2 k2] 128 (0,0)
structure MA (w wc:World) (pb g cap:Nat) (L A:List Tk) (j:Nat) (b:Bool) (q:Nat):Prop where
 rbx:wc.heap[w.heap.size]? =some (kN none 0 0 none 0 0)
 sbx: ∃o1 n1 k1,wc.heap[w.heap.size+1]? =some (kN o1 n1 k1 none 0 0)/\wc.ownsRow w.heap.size 201 3 (xa o1 n1 k1) A.length (gK A)
 mv:Mv w wc pb g cap L.length 0 false 0 j b q
 lt:j<L.length
structure MB (w wc:World) (pb g cap:Nat) (L al:List Tk) (rs:List Rl) (j:Nat) (b:Bool) (q:Nat):Prop where
 rbx:wc.heap[w.heap.size]? =some (kN none 0 0 none 0 0)
 sbx: ∃o1 n1 k1 o2 n2 k2 nR cells,wc.heap[w.heap.size+1]? =some (kN o1 n1 k1 o2 n2 k2)/\wc.ownsRow w.heap.size 205 6 (xa o2 n2 k2) nR cells/\
  (b=false->wc.ownsRow w.heap.size 201 3 (xa o1 n1 k1) al.length (gK al)/\nR=rs.length/\RulesP wc rs cells)
 gr:w.grownBy wc (some pb)
 pp: ∃B NM,PP wc pb g cap B L j b q NM
def Kj(L:List Tk)(pb g cap:Nat)(w w':World)(e:Ending):Prop:=
 w.grownBy w' (some pb)/\ ∃o1 n1 k1 o2 n2 k2 b q,e=xm (.agg #[xa o1 n1 k1,xa o2 n2 k2])/\(∃B j NM,PP w' pb g cap B L j b q NM)/\
  ((b=false/\ ∃al rs cells,gW (PL L 0)= .ok (al,rs)/\w'.ownsRow 0 201 3 (xa o1 n1 k1) al.length (gK al)/\w'.ownsRow 0 205 6 (xa o2 n2 k2) rs.length cells/\RulesP w' rs cells)\/(b=true/\gW (PL L 0)= .error q))
theorem Tryz.infoRs:(prog.info? 205).map (fun i=>(i.zero,i.size,i.bytes))=some (some (.agg #[xd xh 0,xj ⟨#[]⟩,xd xh 0,xk none,xa none 0 0,xk none]),6,72):=zk
theorem PP.row'{g:Nat}(h:PP w pb g cap B L i bad q NM)(ho:w.ownsRow base 205 6 v n xs)(hg:w.grownBy w' v.ownBlock):PP w' pb g cap B L i bad q NM:=by
 obtain⟨no,nn,nc,J,hn⟩:=h.blk;obtain⟨cur,I,R⟩:=h.row;refine⟨⟨no,nn,nc,(hg.block pb (fh J) (fun e=>gp ho e.symm J zp)).trans J,gq hn hg ?_⟩,⟨cur,(hg.block g (fh I) (fun e=>gp ho e.symm I zp)).trans I,R⟩,h.le,h.capLe,h.len,h.lt,h.fe,h.ok,h.gB,h.pB,Mx h.hB hg.size,h.nm⟩;cases hob:(xa no nn nc).ownBlock with
 |none=>simp
 |some k=>
  refine Mr (fun e=> ?_);obtain⟨_,c,m,U⟩:=qh hn hob;exact gp ho e.symm U zp
theorem KQ.row(ho:w.ownsRow base 205 6 v n xs)(hg:w.grownBy w' v.ownBlock):KQ w w':=
 KQ.grown hg (fun k e=>by
  obtain⟨_,c,m,I⟩:=qh ho e;exact⟨lR I zp,lR I zp,lR I zp⟩)
theorem s6(h:w.grownBy w1 (some pb)){row:Option Nat}(hg:w1.grownBy w2 row)(hr: ∀k,row=some k->w.heap.size<=k):w.grownBy w2 (some pb):=
 ⟨hg.os.trans h.os,hg.tape.trans h.tape,hg.output.trans h.output,Mx h.size hg.size,fun k J I=>(hg.block k (Mw J h.size) (fun e=>by have:=hr k e.symm;omega)).trans (h.block k J I)⟩
end Go.Proofs.YtidakhhekofkoaaGreatDoor
