import Derived.Test.YtidakhhekofkoaaGreatDoorT03
import Derived.Deep.TreeCalls
set_option linter.all false
set_option maxHeartbeats 2000000
set_option maxRecDepth 100000
namespace Go.Proofs.YtidakhhekofkoaaGreatDoor
open Go.Proofs.Tryz
open Go.RowKit Go.Deep
open Value renaming slice -> xa, int -> xd, string -> xj, pointer -> xk, bool -> xn
open IntKind renaming i64 -> xh
open Obj renaming cells -> xi
open Ending renaming returned -> xm
open Go.RowKit.Below renaming refl -> Mr, heap_alloc -> Mu
open Nat renaming le_refl -> Ms, zero_le -> My
open Or renaming inr -> Mt, inl -> Mz
open List renaming getElem?_take -> Mw, drop_eq_nil_of_le -> Mx, map_append -> MC
open Calls renaming quiet_of -> MD
variable {zq:Prop}
variable {W w1 w a b w':World} {pb n i n1 k1 n2 k2:Nat} {o o1 o2 vf p:Option Addr} {al r:List Tk} {t:Tk} {tr:List ByteArray} {x:Nat × Nat} {c:Int} {f:Fm} {rs:List Rl} {v:Value} {xs:List Value}
theorem zm36(h:zq:=by
 rintro e w3 ⟨v3,rfl,hf3,hb3⟩;have HF3:=fa hf3;have Hx3:=fa (Hx2.out.later hb3);have Hy3:=fa (HF2.out.later hb3);have HB3:=fa (HB2.out.trans (hb3.mono HB2.out.size));clear hf3 hb3
 go_wp2_with (refine(j8 12 Hx3.out HF3.out rfl).mono ?_)
 rintro e w4 ⟨v4,rfl,hf4,hb4⟩;have HF4:=fa hf4;have Hx4:=fa (Hx3.out.later hb4);have Hy4:=fa (Hy3.out.later hb4);have Hp4:=fa (HF3.out.later hb4);have HB4:=fa (HB3.out.trans (hb4.mono HB3.out.size));clear hf4 hb4
 go_wp2_with (refine(iP 8 HF4.out rfl).mono ?_)
 rintro e w5 ⟨v5,rfl,hf5,hb5⟩;have HF5:=fa hf5;have HB5:=fa (HB4.out.trans (hb5.mono HB4.out.size));clear hf5 hb5;go_wp2;go_ret;exact⟨_,rfl,HF5.out,HB5.out⟩
 ):zq:=h
theorem zm49(h:zq:=by
 rintro e w6 ⟨v6,rfl,hf6,hb6⟩;have HF6:=fa hf6;have HB6:=fa (HB5.out.trans (hb6.mono HB5.out.size));clear hf6 hb6;go_wp2;go_ret;exact⟨_,rfl,HF6.out,HB6.out⟩
 ):zq:=h
theorem zm89(h:zq:=by
 rw[World.cell?_of_block (w:=w3) ((Below.heap_setCell _ _ _ _ (by show w2.heap.size≠w.heap.size;omega)).trans (Below.heap_setCell _ _ _ _ (by show w2.heap.size≠w.heap.size;omega)))];simp_all
 ):zq:=h
theorem zm111(h:zq:=by
 rintro e w3 ⟨rfl,hf3,hg3⟩;have HF3:=fa hf3;have HG3:=fa (HG2.out.trans hg3);clear hf3 hg3;go_wp2;go_end0;refine⟨rfl, ?_,HG3.out⟩;rw[HFN.out];exact HF3.out
 ):zq:=h
theorem zm112(h:zq:=by
 rintro e w8 ⟨v8,rfl,hf8,hb8⟩;have HF8:=fa hf8;have HB8:=fa (HB7.out.trans (hb8.mono HB7.out.size));clear hf8 hb8;go_wp2;go_ret;exact⟨_,rfl,HF8.out,HB8.out⟩
 ):zq:=h
theorem zm153(h:zq:=by
 show _=_;rw[List.take_add_one];have:rs[k]? =some r:=by
  have:=congrArg (fun l=>l[0]?) HRL.out;simp_all
 simp_all
 ):zq:=h
theorem zm179(h:zq:=by
 rw[HH.out];clear hb2;go_wp2;go_end0;refine⟨rfl, ?_,HG2.out⟩;rw[HFN.out];exact HF2.out
 ):zq:=h
def Lf(l:List Tk)(w w':World)(e:Ending):Prop:=
 Below w.heap.size w w'/\ ∃o1 n1 k1 o2 n2 k2,(match gW l with
  | .ok (al,rs)=>e=xm (.tuple #[.agg #[xa o1 n1 k1,xa o2 n2 k2],xd xh (-1)])/\w'.ownsRow 0 232 3 (xa o1 n1 k1) al.length (iK al)/\(∃cells,w'.ownsRow 0 235 7 (xa o2 n2 k2) rs.length cells/\RulesAre w' rs cells)
  | .error q=>e=xm (.tuple #[.agg #[xa o1 n1 k1,xa o2 n2 k2],xd xh q]))
theorem bcell3(I:Below W.heap.size W w1): ∀b o,b<W.heap.size->w1.cell? ⟨b,o,none⟩=W.cell? ⟨b,o,none⟩:=fun b o h=>I.cell (p:=⟨b,o,none⟩) h
theorem Kt(I:Below W.heap.size W w1): ∀b o,b<W.heap.size->w1.frozen? ⟨b,o,none⟩=W.frozen? ⟨b,o,none⟩:=fun b o h=>I.frozen (p:=⟨b,o,none⟩) h
theorem qJ(h:Below w.heap.size w a)(hg:a.grownBy b (some pb))(hp:w.heap.size<=pb):Below w.heap.size w b:=h.grown hg h.size (fun k hk=>za)
theorem Eo(s:ByteArray)(w:World)(hs:s.size<=400):
  Calls prog 173 #[xj s] w fun e w'=>Lf (jg s (s.size+1) 0) w w' e:=by
 have aa:=yI s (s.size+1) 0 (My _) zo;have aD:=q9 s (s.size+1) 0;have hlen:=pX s (s.size+1) 0 (My _);have aO:=fa (fun w=>De s w hs);generalize jg s (s.size+1) 0=L at *;have HE:=fa aa;have aK:=fa aD;clear aa aD;have fl2:=AB;go_in
 go_wp2_with (refine(aO _).mono ?_)
 rintro e w1 ⟨v1,rfl,aq,ag⟩;obtain⟨aR,h1|⟨g,cap,cur,aT,aQ,ad,aB,an,aP,ae⟩⟩:=aq
 ·exact absurd h1.2 (by intro e;have:=HE.ne;simp_all)
 subst aT;have aL:Hid (PS (w1.alloc (xi #[xa (some ⟨g,0,none⟩) L.length cap,xd xh ((0:Nat):Int),xn false] 325)) w1.heap.size g cap L 0 false):=
  ⟨ft _ _,⟨cur,(Mu _ _ _ (fh ad)).trans ad,ae⟩,aB,an,zo,by have:=HE.ne;exact List.length_pos_iff.2 this,HE,aK⟩
 have aW:w.heap.size<w1.heap.size:=by have:=ag.size;simp at this;omega
 have aM:=fa (show w1.heap[w.heap.size]? =some (xi #[xa none 0 0,xa none 0 0] 228 (0,0)) from(ag.block _ zp).trans (ft _ _));have aH:=fa (((Mr w.heap.size w).alloc (Ms _) (xi #[xa none 0 0,xa none 0 0] 228)).trans (ag.mono zp));clear ag ad ae aP aB an aR aQ
 go_wp2_with (refine(Fh aL).mono ?_)
 rintro e w2 ⟨ai,o1,n1,k1,o2,n2,k2,rfl,aG⟩;have R:=fa aG;have au:=fa (qJ (aH.alloc zo _) ai zo);have J:=fa ((ai.block w.heap.size zs zs).trans ((Mu _ _ _ aW).trans aM));have hz2:w1.heap.size<w2.heap.size:=by have:=ai.size;simp at this;omega
 clear ai aG;rw[List.drop_zero] at R;cases hmr:gW L with
 |error q=>
  have hx:=R.out;rw[hmr] at hx;obtain⟨j,hq,hp⟩:=hx;obtain⟨y,r1,hy⟩:=jn hp.lt;have HP:=fa hp;have HY:=fa hy;have aV:y.p=q:=by rw[hy] at hq;exact hq
  subst aV;have ao:=fa hmr;obtain⟨c0,c1,c2⟩:=hp.cells;clear hmr hp hy hq R;go_wp2_with fail;clear c0 c1 c2;refine wp_region_held_drew (S:=fun w'=>w'.cell? ⟨w2.heap.size,0,none⟩=some (xa o1 n1 k1)/\w'.cell? ⟨w2.heap.size,1,none⟩=some (xa o2 n2 k2)) zk ?_ (fun I=> ?_)
  ·simp
  apply zt1 0 (.agg #[xa o1 n1 k1,xa o2 n2 k2]) I;apply zt1 1 (xk (some ⟨w1.heap.size,0,none⟩)) I;apply zrH 2;intro K hK;go_simp
  go_wp2_with (refine(jD (HP.later (by exact gz.drew)) HY).mono ?_;rintro e w3 ⟨rfl,U⟩;simp only[jY])
  have ay:w3.cell? ⟨w2.heap.size,0,none⟩=some (xa o1 n1 k1)/\w3.cell? ⟨w2.heap.size,1,none⟩=some (xa o2 n2 k2):=by
   constructor
   ·rw[bcell3 U _ _ zp];simp
   rw[bcell3 U _ _ zp];simp
  refine hK _ _ ay (fun aj=> ?_);clear hK K;have av:=fa ((U.block w.heap.size zs).trans ((Mu _ _ _ zo).trans J));have aI:=fa ((au.alloc zo _).drew.trans (U.mono zs));clear U;have rc:=cell_of_blk av;have rf:=fi av;apply zt1 3 (xd xh (y.p:Int)) aj;apply zrH 4;intro K hK;go_simp;have az:((w3.setCell ⟨w.heap.size,0,none⟩ (xa o1 n1 k1)).setCell ⟨w.heap.size,1,none⟩ (xa o2 n2 k2)).cell? ⟨w2.heap.size,0,none⟩=some (xa o1 n1 k1)/\((w3.setCell ⟨w.heap.size,0,none⟩ (xa o1 n1 k1)).setCell ⟨w.heap.size,1,none⟩ (xa o2 n2 k2)).cell? ⟨w2.heap.size,1,none⟩=some (xa o2 n2 k2):=by
   constructor
   ·exact zm89
   exact zm89
  refine hK _ _ az (fun ak=> ?_);clear hK K;apply zt1 5 (xd xh (y.p:Int)) ak;refine wpAnyH_done zk ?_ _;clear ay aj az ak I;go_wp2_with fail;refine bodyPost_ret (v:= .tuple #[.agg #[xa o1 n1 k1,xa o2 n2 k2],xd xh y.p]) ?_ rfl ?_
  ·simp[results,results173,go_sem,rc]
  refine⟨(aI.setCell (Ms _) _).setCell (Ms _) _,o1,n1,k1,o2,n2,k2, ?_⟩;rw[ao.out]
 |ok x=>
  obtain⟨al,rs⟩:=x;have hx:=R.out;rw[hmr] at hx;obtain⟨ha,⟨cells,hr,aE⟩,j,hp⟩:=hx;have ao:=fa hmr;have HA:=fa ha;have aw:=fa hr;have aN:=fa aE;obtain⟨c0,c1,c2⟩:=hp.cells;have aX:w.heap.size<w2.heap.size:=zo;clear hmr hp ha hr aE R;have rc:=cell_of_blk J;have rf:=fi J;go_wp2_with fail;refine bodyPost_ret (v:= .tuple #[.agg #[xa o1 n1 k1,xa o2 n2 k2],xd xh (-1)]) ?_ rfl ?_
  ·simp[results,results173,go_sem,rc,aX]
  have tR:TyAt w2 w.heap.size 228:=⟨_,_,J⟩;have aA:=(((KT.set 0 (xa o1 n1 k1) tR zp zp).trans (KT.set 1 (xa o2 n2 k2) (tR.set _ _) zp zp))).trans (KT.alloc _ (xi #[xa o1 n1 k1,xa o2 n2 k2] 228));have aC:=fun e=>gp aw e J zp
  refine⟨((au.setCell (Ms _) _).setCell (Ms _) _).alloc (by simp[World.setCell];omega) _,o1,n1,k1,o2,n2,k2, ?_⟩;rw[ao.out];exact⟨rfl,aA.owns HA,cells,(gq (gq aw (fK _ _ _ _) (Mt aC)) (fK _ _ _ _) (Mt aC)).alloc _,aA.rules aN⟩
def FB(w:World)(fb:Nat)(x:Nat × Nat):Prop:=w.heap[fb]? =some (xi #[xd xh x.1,xd xh x.2] 284 (0,0))
theorem jV(fb:Nat)(x:Nat × Nat)(p e:Nat)(h:FB w fb x):
  Calls prog 174 #[xk (some ⟨fb,0,none⟩),xd xh p,xd xh e] w fun r w'=>r=xm (.tuple #[])/\FB w' fb (meet x p e)/\w.grownBy w' (some fb):=by
 have U:=fa h;have fc:=cell_of_blk h;have ff:=fi h;clear h;have yes:(x.2=0\/p<x.1\/(p=x.1/\e<x.2))->FB ((w.setCell ⟨fb,0,none⟩ (xd xh p)).setCell ⟨fb,1,none⟩ (xd xh e)) fb (meet x p e)/\w.grownBy ((w.setCell ⟨fb,0,none⟩ (xd xh p)).setCell ⟨fb,1,none⟩ (xd xh e)) (some fb):=by
  intro hc;refine⟨?_,(fK _ _ _ _).trans (fK _ _ _ _)⟩;unfold FB;rw[fj (fj U.out _ _) _ _,meet,if_pos hc];rfl
 have no:¬ (x.2=0\/p<x.1\/(p=x.1/\e<x.2))->FB w fb (meet x p e)/\w.grownBy w (some fb):=by
  intro hc;rw[meet,if_neg hc];exact⟨U,World.grownBy.refl _ _⟩
 have Y:=fa yes;have N:=fa no;clear yes no;by_cases h0:x.2=0
 ·have e0:((x.2:Int)==0)=true:=beq_iff_eq.2 zo;have H0:=fa h0;clear h0;go_in;go_wp2;go_end0;exact⟨rfl,Y (Mz H0)⟩
 have e0:((x.2:Int)==0)=false:=beq_eq_false_iff_ne.2 zo;by_cases h1:p<x.1
 ·have H1:=fa h1;have e1:decide (p<x.1)=true:=zs;clear h1 h0;go_in;go_wp2;go_end0;exact⟨rfl,Y (Mt (Mz H1))⟩
 have e1:decide (p<x.1)=false:=zs;by_cases I:p=x.1
 ·have e2:((p:Int)==(x.1:Int))=true:=beq_iff_eq.2 zo;by_cases R:e<x.2
  ·have H3:=fa (And.intro I R);have e3:decide (e<x.2)=true:=zs;clear h0 h1 I R;go_in;go_wp2;go_end0;exact⟨rfl,Y (Mt (Mt H3))⟩
  have J:=fa (show ¬ (x.2=0\/p<x.1\/(p=x.1/\e<x.2)) from zo);have e3:decide (e<x.2)=false:=zs;clear h0 h1 I R;go_in;go_wp2;go_end0;exact⟨rfl,N J⟩
 have e2:((p:Int)==(x.1:Int))=false:=beq_eq_false_iff_ne.2 zo;have J:=fa (show ¬ (x.2=0\/p<x.1\/(p=x.1/\e<x.2)) from zo);clear h0 h1 I;go_in;go_wp2;go_end0;exact⟨rfl,N J⟩
def ActsAre(w:World)(o:Option Addr)(n k:Nat)(al:List Tk):Prop:=w.ownsRow 0 232 3 (xa o n k) al.length (iK al)
theorem ActsAre.len{k:Nat}(h:ActsAre w o n k al):n=al.length:=by
 obtain⟨_,⟨h1,h2⟩|⟨g,cap,cur,hv,_⟩⟩:=h
 ·simp_all
 simp_all
theorem ActsAre.tok{k:Nat}(h:ActsAre w o n k al)(R:al.drop i=t::r):
  ∃g,o=some ⟨g,0,none⟩/\g<w.heap.size/\TyAt w g 232/\w.cell? ⟨g,i * 3,none⟩=some (xd .u8 (gM t.k))/\w.cell? ⟨g,i * 3+1,none⟩=some (xj t.s)/\w.cell? ⟨g,i * 3+2,none⟩=some (xd xh t.p):=by
 have hi:i<al.length:=by
  rcases Nat.lt_or_ge i al.length with h|h
  ·omega
  rw[Mx h] at R;cases R
 obtain⟨_,⟨h1,h2⟩|⟨g,cap,cur,hv,_,I,hle,_,hcs,J⟩⟩:=h
 ·omega
 cases hv;have U:=xE al i t r R;rw[<-J,Mw,Mw,Mw,if_pos zo,if_pos zo,if_pos zo] at U;refine⟨g,rfl,fh I,⟨_,_,I⟩, ?_, ?_, ?_⟩<;>rw[cell_of_blk I,<-Array.getElem?_toList]
 ·simp_all
 ·simp_all
 simp_all
theorem KT.acts(h:KT w w'){k:Nat}(I:ActsAre w o n k al):ActsAre w' o n k al:=h.owns I
theorem GZ{s:ByteArray}(I:al.drop i=t::r)(e:(t.s.toList==s.toList)=true):iH (al.drop i) s=true:=by
 rw[I,iH,if_pos za]
theorem Jt{s:ByteArray}(I:al.drop i=t::r)(e:(t.s.toList==s.toList)=false):iH (al.drop i) s=iH (al.drop (i+1)) s:=by
 rw[drop_tail I,I,iH,if_neg za]
theorem uj{s:ByteArray}(h:ActsAre w o1 n1 k1 al)(hlen:al.length<=401):
  Calls prog 249 #[.agg #[xa o1 n1 k1,xa o2 n2 k2],xj s] w fun r w'=>r=xm (xn (iH al s))/\Below w.heap.size w w':=by
 have HA:=fa h;have hn:=h.len;subst hn;clear h;have R:=fa (show Below w.heap.size w (w.alloc (xi #[xa o1 al.length k1,xa o2 n2 k2] 228)) from gz);go_in;go_wp2
 go_loop [5] (fun v=> ∃k:Nat,k<=al.length/\v=xd xh k/\Hid (iH al s=iH (al.drop k) s)) (fun v=>al.length - (intOf v).toNat)
 ·exact zm77
 obtain⟨k,hk,rfl,H⟩:=hrel;by_cases hlt:k<al.length
 ·obtain⟨t,r,J⟩:=jn hlt;obtain⟨g,rfl,hg,_,t0,t1,t2⟩:=HA.tok J;have U:=fa J;clear J;cases he:(t.s.toList==s.toList) with
  |true=>
   have I:=fa he;go_wp2;go_ret;exact⟨jG (by rw[H.out,GZ U.out I.out]),R⟩
  |false=>
   have I:=fa he;go_wp2
   go_round
   ·exact⟨k+1,zo,zf,H.trans (Jt U I)⟩
   simp[intOf];omega
 go_wp2;go_ret;exact⟨jG (by rw[H.out,Mx zo];rfl),R⟩
def TxS(w:World)(o:Option Addr)(tr:List ByteArray):Prop:= ∀j x,tr[j]? =some x-> ∃b off,o=some ⟨b,off,none⟩/\b<w.heap.size/\w.cell? ⟨b,off+j,none⟩=some (xj x)
theorem TxS.later(h:TxS w o tr)(J:Below w.heap.size w w'):TxS w' o tr:=fun j x hx=>by
 obtain⟨b,off,R,I,U⟩:=h j x hx;exact⟨b,off,R,Nat.lt_of_lt_of_le I J.size,(bcell3 J _ _ I).trans U⟩
theorem zG(z:Value)(n:Nat):madeCells #[z] n=Array.replicate n z:=by
 refine Array.ext (by simp[madeCells]) fun i h1 h2=> ?_
 simp[madeCells,Nat.mod_one]
theorem p6{P:Program}(w:World)(t e:TypeId)(i:TypeInfo)(z:Value)(U:P.underlying t=some (.slice e))(hi:P.info? e=some i)(hz:i.zero=some z)(hs:i.size=1)(J:z.cells= #[z])(I:i.bytes<=24)(n:Nat)(hn:n<=10000000000):
  (Instr.makeSlice t (xd xh (n:Int)) (xd xh (n:Int))).run P w= .ok (xa (some ⟨w.heap.size,0,none⟩) n n) (w.alloc (xi (Array.replicate n z) e)):=by
 have R:(i.bytes:Int) * (n:Int)<=281474976710656:=by
  have h:=Nat.mul_le_mul I hn;omega
 have:=run_make (P:=P) w t e i z U hi hz xh xh n n zo (Int.le_refl _) R zo;rw[J,hs,Int.toNat_natCast,Nat.mul_one,zG] at this;omega
theorem FB.later{fb:Nat}(h:FB w fb x)(I:Below w.heap.size w w'):FB w' fb x:=(I.block fb (fh h)).trans h
theorem KT.fb{fb:Nat}(h:FB w fb x)(hg:w.grownBy w' (some fb)):KT w w':=KT.grown hg ⟨_,_,h⟩ zp zp
theorem yN{fb:Nat}(x:Nat × Nat){s:ByteArray}{p:Nat}(h:ActsAre w o1 n1 k1 al)(J:al.length<=401)(hf:FB w fb x)(hs:s.size<=400):
  Calls prog 202 #[.agg #[xa o1 n1 k1,xa o2 n2 k2],xk (some ⟨fb,0,none⟩),xj s,xd xh p] w fun r w'=>r=xm (.tuple #[])/\FB w' fb (meets x (iW al s p))/\w.grownBy w' (some fb):=by
 have HA:=fa h;have HF:=fa hf;have hfl:=fh hf;clear h hf;cases hh:iH al s
 ·by_cases hl:8<s.size
  ·have HFN:Hid (meets x (iW al s p)=meet (meet x p 1) p 3):=by show _=_;simp[iW,hh,hl,meets]
   have hL:(8:Int)<(s.size:Int):=zo;have HH:=fa hh;clear hl hh;go_in
   go_wp2_with (refine(jV fb x p 1 (HF.later gz)).mono ?_)
   rintro e w1 ⟨rfl,U,I⟩;have ad:=fa U;have aa:=fa ((KT.fb (HF.later ((Mr _ _).alloc (Ms _) (xi #[xa o1 n1 k1,xa o2 n2 k2] 228))) I).acts ((KT.alloc _ _).acts HA));have ae:=fa ((gI (World.grownBy.refl w (some fb)) (xi #[xa o1 n1 k1,xa o2 n2 k2] 228)).trans I);have R:=(I.block w.heap.size zp zs).trans (ft w (xi #[xa o1 n1 k1,xa o2 n2 k2] 228));have bc:=cell_of_blk R;clear U I R
   go_wp2_with (refine(uj aa J).mono ?_)
   rintro e w2 ⟨rfl,hb2⟩;have HF2:=fa (ad.later hb2);have HG2:=fa (ae.trans (gC hb2 _));rw[HH.out];clear hb2
   go_wp2_with (refine(jV fb (meet x p 1) p 3 HF2).mono ?_)
   exact zm111
  have HFN:Hid (meets x (iW al s p)=meet x p 3):=by show _=_;simp[iW,hh,hl,meets]
  have hL:¬ (8:Int)<(s.size:Int):=zo;have HH:=fa hh;clear hl hh;go_in;go_wp2_with fail;refine(uj ((KT.alloc _ _).acts HA) J).mono ?_;rintro e w2 ⟨rfl,hb2⟩;have HF2:=fa ((HF.later gz).later hb2);have HG2:=fa ((gI (World.grownBy.refl w (some fb)) (xi #[xa o1 n1 k1,xa o2 n2 k2] 228)).trans (gC hb2 _));rw[HH.out];clear hb2
  go_wp2_with (refine(jV fb x p 3 HF2).mono ?_)
  exact zm111
 by_cases hl:8<s.size
 ·have HFN:Hid (meets x (iW al s p)=(meet x p 1)):=by show _=_;simp[iW,hh,hl,meets]
  have hL:(8:Int)<(s.size:Int):=zo;have HH:=fa hh;clear hl hh;go_in
  go_wp2_with (refine(jV fb x p 1 (HF.later gz)).mono ?_)
  rintro e w1 ⟨rfl,U,I⟩;have ad:=fa U;have aa:=fa ((KT.fb (HF.later ((Mr _ _).alloc (Ms _) (xi #[xa o1 n1 k1,xa o2 n2 k2] 228))) I).acts ((KT.alloc _ _).acts HA));have ae:=fa ((gI (World.grownBy.refl w (some fb)) (xi #[xa o1 n1 k1,xa o2 n2 k2] 228)).trans I);have R:=(I.block w.heap.size zp zs).trans (ft w (xi #[xa o1 n1 k1,xa o2 n2 k2] 228));have bc:=cell_of_blk R;clear U I R
  go_wp2_with (refine(uj aa J).mono ?_)
  rintro e w2 ⟨rfl,hb2⟩;have HF2:=fa (ad.later hb2);have HG2:=fa (ae.trans (gC hb2 _));exact zm179
 have HFN:Hid (meets x (iW al s p)=x):=by show _=_;simp[iW,hh,hl,meets]
 have hL:¬ (8:Int)<(s.size:Int):=zo;have HH:=fa hh;clear hl hh;go_in;go_wp2_with fail;refine(uj ((KT.alloc _ _).acts HA) J).mono ?_;rintro e w2 ⟨rfl,hb2⟩;have HF2:=fa ((HF.later gz).later hb2);have HG2:=fa ((gI (World.grownBy.refl w (some fb)) (xi #[xa o1 n1 k1,xa o2 n2 k2] 228)).trans (gC hb2 _));exact zm179
theorem CZ(k:Nat):(jP k==97)=decide (k=0):=by
 unfold jP;repeat' split
 all_goals simp_all
def Ac(f:Fm)(s:ByteArray)(p:Nat):Prop:=
 match f with
 | .nil=>False
 | .node _ _ a l r=>(a.1=0/\a.2.1=s/\a.2.2=p)\/Ac l s p\/Ac r s p
theorem qB(al:List Tk)(aq:al.length<=401): ∀(f:Fm) (w:World) (o1:Option Addr) (n1 k1:Nat) (o2:Option Addr) (n2 k2:Nat) (fb:Nat) (x:Nat × Nat) (q:Option Addr),ActsAre w o1 n1 k1 al->FB w fb x->IsF w f q->(∀s p,Ac f s p->s.size<=400)->
  Calls prog 175 #[.agg #[xa o1 n1 k1,xa o2 n2 k2],xk (some ⟨fb,0,none⟩),xk q] w fun r w'=>r=xm (.tuple #[])/\FB w' fb (meets x (pT al f))/\w.grownBy w' (some fb)
 | .nil,w,o1,n1,k1,o2,n2,k2,fb,x,q,ha,hf,hq,_=>by
  cases (show q=none from hq);have HF:=fa hf;clear hf ha;go_in;go_wp2_with fail;exact bodyPost_ret (v:= .tuple #[]) (by simp[results,results175,go_sem]) rfl ⟨rfl,HF.later gz,gI (World.grownBy.refl _ _) _⟩
 | .node u v a l r,w,o1,n1,k1,o2,n2,k2,fb,x,q,ha,hf,hq,hsz=>by
  obtain⟨b,pl,pr,rfl,hb,hl,hr⟩:=hq;have aJ:=fa (qB al aq l);have aK:=fa (qB al aq r);have HA:=fa ha;have HF:=fa hf;have HB:=fa hb;have HL:=fa hl;have aI:=fa hr;have ag:=fa hsz;have ar:=fh hb;have hfl:=fh hf;have hbf:b≠fb:=by rintro rfl;rw[show w.heap[b]? =_ from hf] at hb;simp_all
  have bc:=cell_of_blk hb;clear ha hf hb hl hr hsz;have ao:pT al (.node u v a l r)=(if a.1=0 then iW al a.2.1 a.2.2 else [])++(pT al l++pT al r):=rfl;have aH:=fa ao;clear ao;by_cases h0:a.1=0
  ·have e0:(jP a.1==97)=true:=by rw[CZ];simp[h0]
   have H0:=fa h0;clear h0;go_in;go_wp2_with fail;refine wp_region_held_drew (S:=fun w'=>w'.heap[w.heap.size]? =some (xi #[xa o1 n1 k1,xa o2 n2 k2] 228 (0,0))/\w'.heap[b]? =some (xi #[xd .u8 (jP a.1),xj a.2.1,xd xh a.2.2,xk pl,xk pr] 292 (0,0))) zk ?_ (fun I=> ?_)
   ·exact⟨(ft _ _),((Mu _ _ _ ar).trans HB)⟩
   apply zt2 0 (.agg #[xa o1 n1 k1,xa o2 n2 k2]) I;apply zt3 1 (xk (some ⟨fb,0,none⟩)) I;apply zt3 2 (xk (some ⟨b,0,none⟩)) I;apply zt3 3 (xk (some ⟨b,0,none⟩)) I;apply zt3 4 (xk (some ⟨b,1,none⟩)) I;apply zt4 5 (xj a.2.1) I;apply zt3 6 (xk (some ⟨b,0,none⟩)) I;apply zt3 7 (xk (some ⟨b,0,none⟩)) I;apply zt3 8 (xk (some ⟨b,2,none⟩)) I;apply zt4 9 (xd xh a.2.2) I;apply zrH 10;intro K hK;go_simp;refine(yN x ((KT.below ((Mr w.heap.size w).alloc (Ms _) (xi #[xa o1 n1 k1,xa o2 n2 k2] 228)).drew).acts HA) aq (HF.later ((Mr w.heap.size w).alloc (Ms _) (xi #[xa o1 n1 k1,xa o2 n2 k2] 228)).drew) (ag _ _ (Mz ⟨H0,rfl,rfl⟩))).mono ?_;rintro e w1 ⟨rfl,aM,an⟩;have aG:=fa aM;have aA:=fa ((KT.below ((Mr w.heap.size w).alloc (Ms _) (xi #[xa o1 n1 k1,xa o2 n2 k2] 228)).drew).trans (KT.fb (HF.later ((Mr w.heap.size w).alloc (Ms _) (xi #[xa o1 n1 k1,xa o2 n2 k2] 228)).drew) an));have aQ:=fa ((gC ((Mr w.heap.size w).alloc (Ms _) (xi #[xa o1 n1 k1,xa o2 n2 k2] 228)).drew (some fb)).trans an);have aB:=fa ((an.block w.heap.size zp zs).trans (ft _ _));have au:=fa ((an.block b (by first|(simp;done)|(simp;omega)) zs).trans ((Mu _ _ _ ar).trans HB));have hz1:=fh aB;have hzb1:=fh au;clear aM an;refine hK _ _ ⟨aB,au⟩ (fun _=> ?_);clear hK K I;refine wpAnyH_done zk ?_ _;go_wp2_with fail;refine wp_region_held_drew (S:=fun w'=>w'.heap[w.heap.size]? =some (xi #[xa o1 n1 k1,xa o2 n2 k2] 228 (0,0))/\w'.heap[b]? =some (xi #[xd .u8 (jP a.1),xj a.2.1,xd xh a.2.2,xk pl,xk pr] 292 (0,0))) zk ?_ (fun I=> ?_)
   ·trivial
   apply zt2 0 (.agg #[xa o1 n1 k1,xa o2 n2 k2]) I;apply zt3 1 (xk (some ⟨fb,0,none⟩)) I;apply zt3 2 (xk (some ⟨b,0,none⟩)) I;apply zt3 3 (xk (some ⟨b,0,none⟩)) I;apply zt3 4 (xk (some ⟨b,3,none⟩)) I;apply zt4 5 (xk pl) I;apply zrH 6;intro K hK;go_simp;refine(aJ _ _ _ _ _ _ _ _ (meets x (iW al a.2.1 a.2.2)) _ ((aA.trans (KT.below (Mr w1.heap.size w1).drew)).acts HA) (aG.later (Mr w1.heap.size w1).drew) ((aA.trans (KT.below (Mr w1.heap.size w1).drew)).isF HL) (fun s p h=>ag s p (Mt (Mz h)))).mono ?_;rintro e U ⟨rfl,aj,J⟩;have aw:=fa aj;have ai:=fa ((aA.trans (KT.below (Mr w1.heap.size w1).drew)).trans (KT.fb (aG.later (Mr w1.heap.size w1).drew) J));have ay:=fa ((aQ.trans (gC (Mr w1.heap.size w1).drew (some fb))).trans J);have ad:=fa ((J.block w.heap.size zv zs).trans aB);have aa:=fa ((J.block b zv zs).trans au);have aR:=fh ad;have aN:=fh aa;clear aj J;refine hK _ _ ⟨ad,aa⟩ (fun _=> ?_);clear hK K I;refine wpAnyH_done zk ?_ _;go_wp2_with fail;refine wp_region_held_drew (S:=fun w'=>w'.heap[w.heap.size]? =some (xi #[xa o1 n1 k1,xa o2 n2 k2] 228 (0,0))/\w'.heap[b]? =some (xi #[xd .u8 (jP a.1),xj a.2.1,xd xh a.2.2,xk pl,xk pr] 292 (0,0))) zk ?_ (fun I=> ?_)
   ·trivial
   apply zt2 0 (.agg #[xa o1 n1 k1,xa o2 n2 k2]) I;apply zt3 1 (xk (some ⟨fb,0,none⟩)) I;apply zt3 2 (xk (some ⟨b,0,none⟩)) I;apply zt3 3 (xk (some ⟨b,0,none⟩)) I;apply zt3 4 (xk (some ⟨b,4,none⟩)) I;apply zt4 5 (xk pr) I;apply zrH 6;intro K hK;go_simp;refine(aK _ _ _ _ _ _ _ _ (meets (meets x (iW al a.2.1 a.2.2)) (pT al l)) _ ((ai.trans (KT.below (Mr U.heap.size U).drew)).acts HA) (aw.later (Mr U.heap.size U).drew) ((ai.trans (KT.below (Mr U.heap.size U).drew)).isF aI) (fun s p h=>ag s p (Mt (Mt h)))).mono ?_;rintro e w3 ⟨rfl,ak,R⟩;have ax:=fa ak;have az:=fa ((ay.trans (gC (Mr U.heap.size U).drew (some fb))).trans R);have aC:=fa ((R.block w.heap.size zv zs).trans ad);have av:=fa ((R.block b zv zs).trans aa);clear ak R;refine hK _ _ ⟨aC,av⟩ (fun _=> ?_);clear hK K I;refine wpAnyH_done zk ?_ _;go_wp2;go_end0;refine⟨rfl, ?_,az⟩;rw[aH.out,if_pos H0.out,jF,jF];exact ax
  have e0:(jP a.1==97)=false:=by rw[CZ];simp[h0]
  have H0:=fa h0;clear h0;go_in;go_wp2_with fail;refine wp_region_held_drew (S:=fun w'=>w'.heap[w.heap.size]? =some (xi #[xa o1 n1 k1,xa o2 n2 k2] 228 (0,0))/\w'.heap[b]? =some (xi #[xd .u8 (jP a.1),xj a.2.1,xd xh a.2.2,xk pl,xk pr] 292 (0,0))) zk ?_ (fun I=> ?_)
  ·exact⟨(ft _ _),((Mu _ _ _ ar).trans HB)⟩
  apply zt2 0 (.agg #[xa o1 n1 k1,xa o2 n2 k2]) I;apply zt3 1 (xk (some ⟨fb,0,none⟩)) I;apply zt3 2 (xk (some ⟨b,0,none⟩)) I;apply zt3 3 (xk (some ⟨b,0,none⟩)) I;apply zt3 4 (xk (some ⟨b,3,none⟩)) I;apply zt4 5 (xk pl) I;apply zrH 6;intro K hK;go_simp;refine(aJ _ _ _ _ _ _ _ _ (x) _ ((KT.below ((Mr w.heap.size w).alloc (Ms _) (xi #[xa o1 n1 k1,xa o2 n2 k2] 228)).drew).acts HA) (HF.later ((Mr w.heap.size w).alloc (Ms _) (xi #[xa o1 n1 k1,xa o2 n2 k2] 228)).drew) ((KT.below ((Mr w.heap.size w).alloc (Ms _) (xi #[xa o1 n1 k1,xa o2 n2 k2] 228)).drew).isF HL) (fun s p h=>ag s p (Mt (Mz h)))).mono ?_;rintro e U ⟨rfl,aj,J⟩;have aw:=fa aj;have ai:=fa ((KT.below ((Mr w.heap.size w).alloc (Ms _) (xi #[xa o1 n1 k1,xa o2 n2 k2] 228)).drew).trans (KT.fb (HF.later ((Mr w.heap.size w).alloc (Ms _) (xi #[xa o1 n1 k1,xa o2 n2 k2] 228)).drew) J));have ay:=fa ((gC ((Mr w.heap.size w).alloc (Ms _) (xi #[xa o1 n1 k1,xa o2 n2 k2] 228)).drew (some fb)).trans J);have ad:=fa ((J.block w.heap.size zp zs).trans (ft _ _));have aa:=fa ((J.block b (by first|(simp;done)|(simp;omega)) zs).trans ((Mu _ _ _ ar).trans HB));have aR:=fh ad;have aN:=fh aa;clear aj J;refine hK _ _ ⟨ad,aa⟩ (fun _=> ?_);clear hK K I;refine wpAnyH_done zk ?_ _;go_wp2_with fail;refine wp_region_held_drew (S:=fun w'=>w'.heap[w.heap.size]? =some (xi #[xa o1 n1 k1,xa o2 n2 k2] 228 (0,0))/\w'.heap[b]? =some (xi #[xd .u8 (jP a.1),xj a.2.1,xd xh a.2.2,xk pl,xk pr] 292 (0,0))) zk ?_ (fun I=> ?_)
  ·trivial
  apply zt2 0 (.agg #[xa o1 n1 k1,xa o2 n2 k2]) I;apply zt3 1 (xk (some ⟨fb,0,none⟩)) I;apply zt3 2 (xk (some ⟨b,0,none⟩)) I;apply zt3 3 (xk (some ⟨b,0,none⟩)) I;apply zt3 4 (xk (some ⟨b,4,none⟩)) I;apply zt4 5 (xk pr) I;apply zrH 6;intro K hK;go_simp;refine(aK _ _ _ _ _ _ _ _ (meets x (pT al l)) _ ((ai.trans (KT.below (Mr U.heap.size U).drew)).acts HA) (aw.later (Mr U.heap.size U).drew) ((ai.trans (KT.below (Mr U.heap.size U).drew)).isF aI) (fun s p h=>ag s p (Mt (Mt h)))).mono ?_;rintro e w3 ⟨rfl,ak,R⟩;have ax:=fa ak;have az:=fa ((ay.trans (gC (Mr U.heap.size U).drew (some fb))).trans R);have aC:=fa ((R.block w.heap.size zv zs).trans ad);have av:=fa ((R.block b zv zs).trans aa);clear ak R;refine hK _ _ ⟨aC,av⟩ (fun _=> ?_);clear hK K I;refine wpAnyH_done zk ?_ _;go_wp2;go_end0;refine⟨rfl, ?_,az⟩;rw[aH.out,if_neg H0.out,List.nil_append,jF];exact ax
theorem iN{s:ByteArray}:
  Calls prog 250 #[xj s] w fun e w'=> ∃v,e=xm (xk v)/\IsF w' (gV s) v/\Below w.heap.size w w':=by
 go_in;go_wp2;go_ret;exact⟨_,rfl,⟨w.heap.size,none,none,rfl,ft _ _,rfl,rfl⟩,gz⟩
theorem iP(k:Nat)(hf:IsF w f vf)(hc:c=jP k):
  Calls prog 251 #[xd .u8 c,xk vf] w fun e w'=> ∃v,e=xm (xk v)/\IsF w' (one k f) v/\Below w.heap.size w w':=by
 subst hc;have J:=fa hf;clear hf;go_in;go_wp2;go_ret;have I:=iz w (xi #[xd .u8 (jP k),xj ⟨#[]⟩,xd xh 0,xk vf,xk none] 292);exact⟨_,rfl,⟨w.heap.size,vf,none,rfl,ft _ _,J.later I,rfl⟩,I⟩
theorem IsF.drewN(h:IsF w f p)(n:Nat):IsF (w.drewN n) f p:=by
 induction n with
 |zero=>exact h
 |succ n ih=>exact ih.later (Mr _ _).drew
theorem tT(a:ByteArray): ∀(n:Nat) (w:World),1<=n->n<=9->
  Calls prog 253 #[xj a,xd xh n] w fun e w'=> ∃v,e=xm (xk v)/\IsF w' (lg a n) v/\Below w.heap.size w w'
 |0,w,h,_=>zo
 |1,w,_,_=>by
  go_in
  go_wp2_with (refine(iN).mono ?_)
  rintro e w1 ⟨v1,rfl,aa,R⟩;have aj:=fa aa;have J:=fa R;clear aa R
  go_wp2_with (refine(iP 7 aj rfl).mono ?_)
  rintro e w2 ⟨v2,rfl,ad,I⟩;have ag:=fa ad;have ae:=fa (J.trans (I.mono J.size));clear ad I;go_wp2;go_ret;exact⟨_,rfl,ag,ae⟩
 |n+2,w,_,h9=>by
  have IH:=fa (tT a (n+1));go_in
  go_wp2_with (refine(iN).mono ?_)
  rintro e w1 ⟨v1,rfl,aa,R⟩;have aj:=fa aa;have J:=fa R;clear aa R;go_wp2_with fail;rw[show((n:Int)+2 - 1)=((n+1:Nat):Int) from zo];refine(IH _ zo zo).mono ?_;rintro e w2 ⟨v2,rfl,ad,I⟩;have ag:=fa ad;have aA:=fa (aj.later I);have ae:=fa (J.trans (I.mono J.size));clear ad I
  go_wp2_with (refine(iP 5 ag rfl).mono ?_)
  rintro e w3 ⟨v3,rfl,au,ai⟩;have ao:=fa au;have aq:=fa (aA.later ai);have aB:=fa (ag.later ai);have ak:=fa (ae.trans (ai.mono ae.size));clear au ai
  go_wp2_with (refine(j8 10 aq ao rfl).mono ?_)
  rintro e w4 ⟨v4,rfl,av,U⟩;have ay:=fa av;have Ha4:=fa (aq.later U);have Ht4:=fa (aB.later U);have Hx4:=fa (ao.later U);have an:=fa (ak.trans (U.mono ak.size));clear av U
  go_wp2_with (refine(iP 7 ay rfl).mono ?_)
  rintro e w5 ⟨v5,rfl,aw,ar⟩;have az:=fa aw;have ax:=fa (an.trans (ar.mono an.size));clear aw ar;go_wp2;go_ret;exact⟨_,rfl,az,ax⟩
set_option maxRecDepth 1000000 in
theorem vE: ∀(f:Fm) (w:World) (p:Option Addr),IsF w f p->gF f<=100000->
  Calls prog 178 #[xk p] w fun e w'=>e=xm (xd xh (gF f))/\ ∃n,w'=w.drewN n
 | .nil,w,p,h,_=>by
  cases (show p=none from h);go_in;go_wp2;go_ret;exact⟨rfl,0,rfl⟩
 | .node u v a l r,w,p,h,hs=>by
  obtain⟨b,pl,pr,rfl,hb,hl,hr⟩:=h;have I:=fa (vE l);have J:=fa (vE r);have HL:=fa hl;have HR:=fa hr;have R:gF l<=100000:=by simp only[gF] at hs;omega
  have U:gF r<=100000:=by simp only[gF] at hs;omega
  have hss:=hs;have bc:=cell_of_blk hb;clear hb hl hr hs;go_in;go_wp2;go_quiet (first|(refine MD (I _ _ ?_ R);exact IsF.drewN HL _)|(refine MD (J _ _ ?_ U);exact IsF.drewN HR _));go_wp2;go_ret;exact⟨pL zf,nq,rfl⟩
theorem FU(s:ByteArray)(w:World):Calls prog 203 #[xj s] w fun e w'=>e=xm (.tuple #[xj ⟨(ir (gR s.toList)).toArray⟩,xn (decide (gR s.toList<=11))])/\w'=w:=by
 go_in;go_wp2
 all_goals
  go_ret2;refine⟨?_,rfl⟩
 all_goals first
  |(have h:s.toList=[105,110,105,116]:=(by first|assumption|exact eq_of_beq (by assumption));rw[h];rfl)
  |(have h:s.toList=[108,97,115,116]:=(by first|assumption|exact eq_of_beq (by assumption));rw[h];rfl)
  |(have h:s.toList=[115,111,109,101]:=(by first|assumption|exact eq_of_beq (by assumption));rw[h];rfl)
  |(have h:s.toList=[102,101,119]:=(by first|assumption|exact eq_of_beq (by assumption));rw[h];rfl)
  |(have h:s.toList=[114,101,115,112,111,110,115,101]:=(by first|assumption|exact eq_of_beq (by assumption));rw[h];rfl)
  |(have h:s.toList=[112,114,101,99,101,100,101]:=(by first|assumption|exact eq_of_beq (by assumption));rw[h];rfl)
  |(have h:s.toList=[99,104,97,105,110]:=(by first|assumption|exact eq_of_beq (by assumption));rw[h];rfl)
  |(have h:s.toList=[98,101,102,111,114,101]:=(by first|assumption|exact eq_of_beq (by assumption));rw[h];rfl)
  |(have h:s.toList=[119,105,116,104]:=(by first|assumption|exact eq_of_beq (by assumption));rw[h];rfl)
  |(have h:s.toList=[97,112,97,114,116]:=(by first|assumption|exact eq_of_beq (by assumption));rw[h];rfl)
  |(have h:s.toList=[110,101,118,101,114]:=(by first|assumption|exact eq_of_beq (by assumption));rw[h];rfl)
  |(have h:s.toList=[110,111,116,110,101,120,116]:=(by first|assumption|exact eq_of_beq (by assumption));rw[h];rfl)
  |(have hn:gR s.toList=12:=(by simp_all [gR]);rw[hn];rfl)
def kv(s:ByteArray):Nat:=match s.data.toList with|c::_=>c.toNat - 48|[]=>0
theorem Io(w:World)(a b:Int){s:ByteArray}(c:Int)(o:Option Addr)(n k:Nat)(d:Int)(p:Option Addr)(x:Tk)(ha:ActsAre w o n k [x])(hw:s.toList=[105,110,105,116]):
  Calls prog 204 #[jR a b s c o n k d p] w fun e w'=> ∃v,e=xm (xk v)/\IsF w' (i' 0 x.s ByteArray.empty 0) v/\Below w.heap.size w w':=by
 obtain⟨g,an,hg,_,t0,t1,t2⟩:=ha.tok (i:=0) (t:=x) (r:=[]) rfl;subst an;have hn:=ha.len;subst hn;clear ha;simp only[jR];have e0:(s.toList==[105,110,105,116])=true:=za;clear hw;simp at t0 t1 t2;go_in
 go_wp2_with (refine(iN).mono ?_)
 rintro e w1 ⟨v1,rfl,aa,J⟩;have ae:=fa aa;have R:=fa (((Mr w.heap.size w).alloc (Ms _) _).trans (J.mono zp));have U:=fa ((J.block w.heap.size zp).trans (ft _ _));have ao:=fh U;clear aa J
 go_wp2_with (refine(iN).mono ?_)
 rintro e w2 ⟨v2,rfl,ak,I⟩;have ai:=fa (ae.later I);have ad:=fa (R.trans (I.mono R.size));have ag:=fa ((I.block w.heap.size ao).trans U);clear ak I;have xc:=cell_of_blk ag;go_wp2;go_ret;exact⟨_,rfl,ai,ad⟩
theorem Ip(w:World)(a b:Int){s:ByteArray}(c:Int)(o:Option Addr)(n k:Nat)(d:Int)(p:Option Addr)(x:Tk)(ha:ActsAre w o n k [x])(hw:s.toList=[108,97,115,116]):
  Calls prog 204 #[jR a b s c o n k d p] w fun e w'=> ∃v,e=xm (xk v)/\IsF w' (i' 1 x.s ByteArray.empty 0) v/\Below w.heap.size w w':=by
 obtain⟨g,aI,hg,_,t0,t1,t2⟩:=ha.tok (i:=0) (t:=x) (r:=[]) rfl;subst aI;have hn:=ha.len;subst hn;clear ha;simp only[jR];have e0:(s.toList==[105,110,105,116])=false:=za;have e1:(s.toList==[108,97,115,116])=true:=za;clear hw;simp at t0 t1 t2;go_in
 go_wp2_with (refine(iN).mono ?_)
 rintro e w1 ⟨v1,rfl,ar,U⟩;have ay:=fa ar;have ad:=fa (((Mr w.heap.size w).alloc (Ms _) _).trans (U.mono zp));have ao:=fa ((U.block w.heap.size zp).trans (ft _ _));have aJ:=fh ao;clear ar U
 go_wp2_with (refine(iN).mono ?_)
 rintro e w2 ⟨v2,rfl,aH,J⟩;have aE:=fa (ay.later J);have ae:=fa (ad.trans (J.mono ad.size));have aB:=fa ((J.block w.heap.size aJ).trans ao);clear aH J;have xc:=cell_of_blk aB;have aA:=fa (show IsF (w2.alloc (xi #[xd .u8 116,xj ⟨#[]⟩,xd xh 0,xk none,xk none] 292)) (leaf 1 ByteArray.empty 0) (some ⟨w2.heap.size,0,none⟩) from⟨w2.heap.size,none,none,rfl,ft _ _,rfl,rfl⟩);have aC:=fa (aE.later ((Mr w2.heap.size w2).alloc (Ms _) (xi #[xd .u8 116,xj ⟨#[]⟩,xd xh 0,xk none,xk none] 292)));have aj:=fa (ae.alloc ae.size (xi #[xd .u8 116,xj ⟨#[]⟩,xd xh 0,xk none,xk none] 292))
 go_wp2_with (refine(iP 5 aA rfl).mono ?_)
 rintro e w3 ⟨v3,rfl,au,aa⟩;have ak:=fa au;have aF:=fa (aC.later aa);have ag:=fa (aj.trans (aa.mono aj.size));clear au aa
 go_wp2_with (refine(iP 4 ak rfl).mono ?_)
 rintro e w4 ⟨v4,rfl,av,R⟩;have an:=fa av;have aq:=fa (aF.later R);have aD:=fa (ak.later R);have ai:=fa (ag.trans (R.mono ag.size));clear av R
 go_wp2_with (refine(j8 10 aq an rfl).mono ?_)
 rintro e w5 ⟨v5,rfl,aw,I⟩;have az:=fa aw;have Hx5:=fa (aq.later I);have Hp5:=fa (aD.later I);have Hq5:=fa (an.later I);have HB5:=fa (ai.trans (I.mono ai.size));clear aw I
 go_wp2_with (refine(iP 7 az rfl).mono ?_)
 exact zm49
theorem Iq(w:World)(a b:Int){s:ByteArray}(c:Int)(o:Option Addr)(n k:Nat)(d:Int)(p:Option Addr)(x y:Tk)(ha:ActsAre w o n k [x,y])(hw:s.toList=[115,111,109,101])(hd: ∃c:UInt8,y.s=⟨#[c]⟩/\49<=c.toNat/\c.toNat<=57):
  Calls prog 204 #[jR a b s c o n k d p] w fun e w'=> ∃v,e=xm (xk v)/\IsF w' (i' 2 x.s y.s (kv y.s)) v/\Below w.heap.size w w':=by
 obtain⟨yk,ys,yp⟩:=y;obtain⟨I,ao,hc1,hc2⟩:=hd;dsimp only at ao;subst ao;have ax:kv (⟨#[I]⟩:ByteArray)=I.toNat - 48:=rfl;show Calls _ _ _ _ fun e w'=> ∃v,e=xm (xk v)/\IsF w' (i' 2 x.s ⟨#[I]⟩ (kv ⟨#[I]⟩)) v/\Below w.heap.size w w'
 rw[ax];obtain⟨g,U,hg,_,t0,t1,t2⟩:=ha.tok (i:=0) (t:=x) (r:=[⟨yk,⟨#[I]⟩,yp⟩]) rfl;subst U;obtain⟨g',U,_,_,u0,u1,u2⟩:=ha.tok (i:=1) (t:=⟨yk,⟨#[I]⟩,yp⟩) (r:=[]) rfl;cases U;have hn:=ha.len;subst hn;clear ha;simp only[jR];have e0:(s.toList==[105,110,105,116])=false:=za;have e1:(s.toList==[108,97,115,116])=false:=za;have e2:(s.toList==[115,111,109,101])=true:=za;clear hw;simp at t0 t1 t2 u0 u1 u2;go_in
 go_wp2_with (refine(iN).mono ?_)
 rintro e w1 ⟨v1,rfl,ai,R⟩;have au:=fa ai;have aa:=fa (((Mr w.heap.size w).alloc (Ms _) _).trans (R.mono zp));have ae:=fa ((R.block w.heap.size zp).trans (ft _ _));have ay:=fh ae;clear ai R
 go_wp2_with (refine(iN).mono ?_)
 rintro e w2 ⟨v2,rfl,aj,J⟩;have HF2:=fa aj;have Hx2:=fa (au.later J);have ad:=fa (aa.trans (J.mono aa.size));have aw:=fa ((J.block w.heap.size ay).trans ae);clear aj J;have xc:=cell_of_blk aw;go_wp2_with fail;have an:((((⟨#[I]⟩:ByteArray)[0]'(show 0<1 from zp)).toNat:Int) - 48)%256=((I.toNat - 48:Nat):Int):=by show((I.toNat:Int) - 48)%256=_;omega
 rw[an];refine(tT _ (I.toNat - 48) _ zo zo).mono ?_;rintro e w3 ⟨v3,rfl,ak,ag⟩;have av:=fa ak;have ar:=fa (ad.trans (ag.mono ad.size));clear ak ag;go_wp2;go_ret;exact⟨_,rfl,av,ar⟩
theorem Ir(w:World)(a b:Int){s:ByteArray}(c:Int)(o:Option Addr)(n k:Nat)(d:Int)(p:Option Addr)(x y:Tk)(ha:ActsAre w o n k [x,y])(hw:s.toList=[102,101,119])(hd: ∃c:UInt8,y.s=⟨#[c]⟩/\49<=c.toNat/\c.toNat<=57):
  Calls prog 204 #[jR a b s c o n k d p] w fun e w'=> ∃v,e=xm (xk v)/\IsF w' (i' 3 x.s y.s (kv y.s)) v/\Below w.heap.size w w':=by
 obtain⟨yk,ys,yp⟩:=y;obtain⟨I,au,hc1,hc2⟩:=hd;dsimp only at au;subst au;have aD:kv (⟨#[I]⟩:ByteArray)=I.toNat - 48:=rfl;show Calls _ _ _ _ fun e w'=> ∃v,e=xm (xk v)/\IsF w' (i' 3 x.s ⟨#[I]⟩ (kv ⟨#[I]⟩)) v/\Below w.heap.size w w'
 rw[aD];obtain⟨g,aa,hg,_,t0,t1,t2⟩:=ha.tok (i:=0) (t:=x) (r:=[⟨yk,⟨#[I]⟩,yp⟩]) rfl;subst aa;obtain⟨g',aa,_,_,u0,u1,u2⟩:=ha.tok (i:=1) (t:=⟨yk,⟨#[I]⟩,yp⟩) (r:=[]) rfl;cases aa;have hn:=ha.len;subst hn;clear ha;simp only[jR];have e0:(s.toList==[105,110,105,116])=false:=za;have e1:(s.toList==[108,97,115,116])=false:=za;have e2:(s.toList==[115,111,109,101])=false:=za;have e3:(s.toList==[102,101,119])=true:=za;clear hw;simp at t0 t1 t2 u0 u1 u2;go_in
 go_wp2_with (refine(iN).mono ?_)
 rintro e w1 ⟨v1,rfl,ak,U⟩;have ax:=fa ak;have ad:=fa (((Mr w.heap.size w).alloc (Ms _) _).trans (U.mono zp));have ai:=fa ((U.block w.heap.size zp).trans (ft _ _));have aE:=fh ai;clear ak U
 go_wp2_with (refine(iN).mono ?_)
 rintro e w2 ⟨v2,rfl,an,J⟩;have ay:=fa an;have aC:=fa (ax.later J);have ae:=fa (ad.trans (J.mono ad.size));have aB:=fa ((J.block w.heap.size aE).trans ai);clear an J;have xc:=cell_of_blk aB;go_wp2_with fail;have ar:((((⟨#[I]⟩:ByteArray)[0]'(show 0<1 from zp)).toNat:Int) - 48)%256=((I.toNat - 48:Nat):Int):=by show((I.toNat:Int) - 48)%256=_;omega
 rw[ar];refine(tT _ (I.toNat - 48) _ zo zo).mono ?_;rintro e w3 ⟨v3,rfl,ao,R⟩;have az:=fa ao;have Hx3:=fa (aC.later R);have Hy3:=fa (ay.later R);have ag:=fa (ae.trans (R.mono ae.size));clear ao R
 go_wp2_with (refine(iP 4 az rfl).mono ?_)
 rintro e w4 ⟨v4,rfl,aq,aj⟩;have aA:=fa aq;have aw:=fa (ag.trans (aj.mono ag.size));clear aq aj;go_wp2;go_ret;exact⟨_,rfl,aA,aw⟩
theorem Is(w:World)(a b:Int){s:ByteArray}(c:Int)(o:Option Addr)(n k:Nat)(d:Int)(p:Option Addr)(x y:Tk)(ha:ActsAre w o n k [x,y])(hw:s.toList=[114,101,115,112,111,110,115,101]):
  Calls prog 204 #[jR a b s c o n k d p] w fun e w'=> ∃v,e=xm (xk v)/\IsF w' (i' 4 x.s y.s 0) v/\Below w.heap.size w w':=by
 obtain⟨g,R,hg,_,t0,t1,t2⟩:=ha.tok (i:=0) (t:=x) (r:=[y]) rfl;subst R;obtain⟨g',R,_,_,u0,u1,u2⟩:=ha.tok (i:=1) (t:=y) (r:=[]) rfl;cases R;have hn:=ha.len;subst hn;clear ha;simp only[jR];have e0:(s.toList==[105,110,105,116])=false:=za;have e1:(s.toList==[108,97,115,116])=false:=za;have e2:(s.toList==[115,111,109,101])=false:=za;have e3:(s.toList==[102,101,119])=false:=za;have e4:(s.toList==[114,101,115,112,111,110,115,101])=true:=za;clear hw;simp at t0 t1 t2 u0 u1 u2;go_in
 go_wp2_with (refine(iN).mono ?_)
 rintro e w1 ⟨v1,rfl,ad,J⟩;have ai:=fa ad;have U:=fa (((Mr w.heap.size w).alloc (Ms _) _).trans (J.mono zp));have aa:=fa ((J.block w.heap.size zp).trans (ft _ _));have ak:=fh aa;clear ad J
 go_wp2_with (refine(iN).mono ?_)
 rintro e w2 ⟨v2,rfl,ae,I⟩;have HF2:=fa ae;have Hx2:=fa (ai.later I);have HB2:=fa (U.trans (I.mono U.size));have aj:=fa ((I.block w.heap.size ak).trans aa);clear ae I;have xc:=cell_of_blk aj
 go_wp2_with (refine(iP 7 HF2 rfl).mono ?_)
 exact zm36
theorem It(w:World)(a b:Int){s:ByteArray}(c:Int)(o:Option Addr)(n k:Nat)(d:Int)(p:Option Addr)(x y:Tk)(ha:ActsAre w o n k [x,y])(hw:s.toList=[112,114,101,99,101,100,101]):
  Calls prog 204 #[jR a b s c o n k d p] w fun e w'=> ∃v,e=xm (xk v)/\IsF w' (i' 5 x.s y.s 0) v/\Below w.heap.size w w':=by
 obtain⟨g,ag,hg,_,t0,t1,t2⟩:=ha.tok (i:=0) (t:=x) (r:=[y]) rfl;subst ag;obtain⟨g',ag,_,_,u0,u1,u2⟩:=ha.tok (i:=1) (t:=y) (r:=[]) rfl;cases ag;have hn:=ha.len;subst hn;clear ha;simp only[jR];have e0:(s.toList==[105,110,105,116])=false:=za;have e1:(s.toList==[108,97,115,116])=false:=za;have e2:(s.toList==[115,111,109,101])=false:=za;have e3:(s.toList==[102,101,119])=false:=za;have e4:(s.toList==[114,101,115,112,111,110,115,101])=false:=za;have e5:(s.toList==[112,114,101,99,101,100,101])=true:=za;clear hw;simp at t0 t1 t2 u0 u1 u2;go_in
 go_wp2_with (refine(iN).mono ?_)
 rintro e w1 ⟨v1,rfl,az,ae⟩;have aH:=fa az;have ai:=fa (((Mr w.heap.size w).alloc (Ms _) _).trans (ae.mono zp));have ax:=fa ((ae.block w.heap.size zp).trans (ft _ _));have a7:=fh ax;clear az ae
 go_wp2_with (refine(iN).mono ?_)
 rintro e w2 ⟨v2,rfl,aA,aa⟩;have ar:=fa aA;have aR:=fa (aH.later aa);have aj:=fa (ai.trans (aa.mono ai.size));have aK:=fa ((aa.block w.heap.size a7).trans ax);clear aA aa;have xc:=cell_of_blk aK
 go_wp2_with (refine(iP 4 ar rfl).mono ?_)
 rintro e w3 ⟨v3,rfl,aB,ad⟩;have au:=fa aB;have ay:=fa (aR.later ad);have aV:=fa (ar.later ad);have ak:=fa (aj.trans (ad.mono aj.size));clear aB ad
 go_wp2_with (refine(j8 9 au ay rfl).mono ?_)
 rintro e w4 ⟨v4,rfl,aC,U⟩;have aI:=fa aC;have aS:=fa (ay.later U);have aW:=fa (aV.later U);have aL:=fa (au.later U);have an:=fa (ak.trans (U.mono ak.size));clear aC U
 go_wp2_with (refine(iN).mono ?_)
 rintro e w5 ⟨v5,rfl,aD,R⟩;have av:=fa aD;have aT:=fa (aS.later R);have aX:=fa (aW.later R);have aM:=fa (aL.later R);have aO:=fa (aI.later R);have ao:=fa (an.trans (R.mono an.size));clear aD R
 go_wp2_with (refine(iP 4 av rfl).mono ?_)
 rintro e w6 ⟨v6,rfl,aE,J⟩;have aw:=fa aE;have aU:=fa (aT.later J);have aY:=fa (aX.later J);have aN:=fa (aM.later J);have aP:=fa (aO.later J);have a6:=fa (av.later J);have aq:=fa (ao.trans (J.mono ao.size));clear aE J
 go_wp2_with (refine(iP 8 aw rfl).mono ?_)
 rintro e w7 ⟨v7,rfl,aF,I⟩;have aJ:=fa aF;have Hx7:=fa (aU.later I);have Hy7:=fa (aY.later I);have Hp7:=fa (aN.later I);have aQ:=fa (aP.later I);have Hz7:=fa (a6.later I);have Ht7:=fa (aw.later I);have HB7:=fa (aq.trans (I.mono aq.size));clear aF I
 go_wp2_with (refine(j8 11 aQ aJ rfl).mono ?_)
 exact zm112
theorem Iu(w:World)(a b:Int){s:ByteArray}(c:Int)(o:Option Addr)(n k:Nat)(d:Int)(p:Option Addr)(x y:Tk)(ha:ActsAre w o n k [x,y])(hw:s.toList=[99,104,97,105,110]):
  Calls prog 204 #[jR a b s c o n k d p] w fun e w'=> ∃v,e=xm (xk v)/\IsF w' (i' 6 x.s y.s 0) v/\Below w.heap.size w w':=by
 obtain⟨g,R,hg,_,t0,t1,t2⟩:=ha.tok (i:=0) (t:=x) (r:=[y]) rfl;subst R;obtain⟨g',R,_,_,u0,u1,u2⟩:=ha.tok (i:=1) (t:=y) (r:=[]) rfl;cases R;have hn:=ha.len;subst hn;clear ha;simp only[jR];have e0:(s.toList==[105,110,105,116])=false:=za;have e1:(s.toList==[108,97,115,116])=false:=za;have e2:(s.toList==[115,111,109,101])=false:=za;have e3:(s.toList==[102,101,119])=false:=za;have e4:(s.toList==[114,101,115,112,111,110,115,101])=false:=za;have e5:(s.toList==[112,114,101,99,101,100,101])=false:=za;have e6:(s.toList==[99,104,97,105,110])=true:=za;clear hw;simp at t0 t1 t2 u0 u1 u2;go_in
 go_wp2_with (refine(iN).mono ?_)
 rintro e w1 ⟨v1,rfl,ad,J⟩;have ai:=fa ad;have U:=fa (((Mr w.heap.size w).alloc (Ms _) _).trans (J.mono zp));have aa:=fa ((J.block w.heap.size zp).trans (ft _ _));have ak:=fh aa;clear ad J
 go_wp2_with (refine(iN).mono ?_)
 rintro e w2 ⟨v2,rfl,ae,I⟩;have HF2:=fa ae;have Hx2:=fa (ai.later I);have HB2:=fa (U.trans (I.mono U.size));have aj:=fa ((I.block w.heap.size ak).trans aa);clear ae I;have xc:=cell_of_blk aj
 go_wp2_with (refine(iP 5 HF2 rfl).mono ?_)
 exact zm36
theorem Iv(w:World)(a b:Int){s:ByteArray}(c:Int)(o:Option Addr)(n k:Nat)(d:Int)(p:Option Addr)(x y:Tk)(ha:ActsAre w o n k [x,y])(hw:s.toList=[98,101,102,111,114,101]):
  Calls prog 204 #[jR a b s c o n k d p] w fun e w'=> ∃v,e=xm (xk v)/\IsF w' (i' 7 x.s y.s 0) v/\Below w.heap.size w w':=by
 obtain⟨g,ag,hg,_,t0,t1,t2⟩:=ha.tok (i:=0) (t:=x) (r:=[y]) rfl;subst ag;obtain⟨g',ag,_,_,u0,u1,u2⟩:=ha.tok (i:=1) (t:=y) (r:=[]) rfl;cases ag;have hn:=ha.len;subst hn;clear ha;simp only[jR];have e0:(s.toList==[105,110,105,116])=false:=za;have e1:(s.toList==[108,97,115,116])=false:=za;have e2:(s.toList==[115,111,109,101])=false:=za;have e3:(s.toList==[102,101,119])=false:=za;have e4:(s.toList==[114,101,115,112,111,110,115,101])=false:=za;have e5:(s.toList==[112,114,101,99,101,100,101])=false:=za;have e6:(s.toList==[99,104,97,105,110])=false:=za;have e7:(s.toList==[98,101,102,111,114,101])=true:=za;clear hw;simp at t0 t1 t2 u0 u1 u2;go_in
 go_wp2_with (refine(iN).mono ?_)
 rintro e w1 ⟨v1,rfl,az,ae⟩;have aH:=fa az;have ai:=fa (((Mr w.heap.size w).alloc (Ms _) _).trans (ae.mono zp));have ax:=fa ((ae.block w.heap.size zp).trans (ft _ _));have a7:=fh ax;clear az ae
 go_wp2_with (refine(iN).mono ?_)
 rintro e w2 ⟨v2,rfl,aA,aa⟩;have ar:=fa aA;have aQ:=fa (aH.later aa);have aj:=fa (ai.trans (aa.mono ai.size));have aK:=fa ((aa.block w.heap.size a7).trans ax);clear aA aa;have xc:=cell_of_blk aK
 go_wp2_with (refine(iP 4 ar rfl).mono ?_)
 rintro e w3 ⟨v3,rfl,aB,ad⟩;have aI:=fa aB;have aR:=fa (aQ.later ad);have aU:=fa (ar.later ad);have ak:=fa (aj.trans (ad.mono aj.size));clear aB ad
 go_wp2_with (refine(iN).mono ?_)
 rintro e w4 ⟨v4,rfl,aC,U⟩;have au:=fa aC;have aS:=fa (aR.later U);have aV:=fa (aU.later U);have aL:=fa (aI.later U);have an:=fa (ak.trans (U.mono ak.size));clear aC U
 go_wp2_with (refine(iP 5 au rfl).mono ?_)
 rintro e w5 ⟨v5,rfl,aD,R⟩;have av:=fa aD;have ay:=fa (aS.later R);have aW:=fa (aV.later R);have aM:=fa (aL.later R);have aY:=fa (au.later R);have ao:=fa (an.trans (R.mono an.size));clear aD R
 go_wp2_with (refine(j8 12 av ay rfl).mono ?_)
 rintro e w6 ⟨v6,rfl,aE,J⟩;have aw:=fa aE;have aT:=fa (ay.later J);have aX:=fa (aW.later J);have aN:=fa (aM.later J);have a6:=fa (aY.later J);have aP:=fa (av.later J);have aq:=fa (ao.trans (J.mono ao.size));clear aE J
 go_wp2_with (refine(iP 8 aw rfl).mono ?_)
 rintro e w7 ⟨v7,rfl,aF,I⟩;have aJ:=fa aF;have Hx7:=fa (aT.later I);have Hy7:=fa (aX.later I);have aO:=fa (aN.later I);have Hz7:=fa (a6.later I);have Ht7:=fa (aP.later I);have Hu7:=fa (aw.later I);have HB7:=fa (aq.trans (I.mono aq.size));clear aF I
 go_wp2_with (refine(j8 10 aO aJ rfl).mono ?_)
 exact zm112
theorem Iw(w:World)(a b:Int){s:ByteArray}(c:Int)(o:Option Addr)(n k:Nat)(d:Int)(p:Option Addr)(x y:Tk)(ha:ActsAre w o n k [x,y])(hw:s.toList=[119,105,116,104]):
  Calls prog 204 #[jR a b s c o n k d p] w fun e w'=> ∃v,e=xm (xk v)/\IsF w' (i' 8 x.s y.s 0) v/\Below w.heap.size w w':=by
 obtain⟨g,aa,hg,_,t0,t1,t2⟩:=ha.tok (i:=0) (t:=x) (r:=[y]) rfl;subst aa;obtain⟨g',aa,_,_,u0,u1,u2⟩:=ha.tok (i:=1) (t:=y) (r:=[]) rfl;cases aa;have hn:=ha.len;subst hn;clear ha;simp only[jR];have e0:(s.toList==[105,110,105,116])=false:=za;have e1:(s.toList==[108,97,115,116])=false:=za;have e2:(s.toList==[115,111,109,101])=false:=za;have e3:(s.toList==[102,101,119])=false:=za;have e4:(s.toList==[114,101,115,112,111,110,115,101])=false:=za;have e5:(s.toList==[112,114,101,99,101,100,101])=false:=za;have e6:(s.toList==[99,104,97,105,110])=false:=za;have e7:(s.toList==[98,101,102,111,114,101])=false:=za;have e8:(s.toList==[119,105,116,104])=true:=za;clear hw;simp at t0 t1 t2 u0 u1 u2;go_in
 go_wp2_with (refine(iN).mono ?_)
 rintro e w1 ⟨v1,rfl,aq,U⟩;have az:=fa aq;have ad:=fa (((Mr w.heap.size w).alloc (Ms _) _).trans (U.mono zp));have aj:=fa ((U.block w.heap.size zp).trans (ft _ _));have aH:=fh aj;clear aq U
 go_wp2_with (refine(iN).mono ?_)
 rintro e w2 ⟨v2,rfl,ar,J⟩;have aA:=fa ar;have ak:=fa (az.later J);have ae:=fa (ad.trans (J.mono ad.size));have aE:=fa ((J.block w.heap.size aH).trans aj);clear ar J;have xc:=cell_of_blk aE
 go_wp2_with (refine(iP 7 ak rfl).mono ?_)
 rintro e w3 ⟨v3,rfl,au,R⟩;have aB:=fa au;have aG:=fa (ak.later R);have an:=fa (aA.later R);have ag:=fa (ae.trans (R.mono ae.size));clear au R
 go_wp2_with (refine(iP 7 an rfl).mono ?_)
 rintro e w4 ⟨v4,rfl,av,I⟩;have aC:=fa av;have Hx4:=fa (aG.later I);have Hy4:=fa (an.later I);have aF:=fa (aB.later I);have ai:=fa (ag.trans (I.mono ag.size));clear av I
 go_wp2_with (refine(j8 12 aF aC rfl).mono ?_)
 rintro e w5 ⟨v5,rfl,aw,ao⟩;have aD:=fa aw;have ay:=fa (ai.trans (ao.mono ai.size));clear aw ao;go_wp2;go_ret;exact⟨_,rfl,aD,ay⟩
theorem Ix(w:World)(a b:Int){s:ByteArray}(c:Int)(o:Option Addr)(n k:Nat)(d:Int)(p:Option Addr)(x y:Tk)(ha:ActsAre w o n k [x,y])(hw:s.toList=[97,112,97,114,116]):
  Calls prog 204 #[jR a b s c o n k d p] w fun e w'=> ∃v,e=xm (xk v)/\IsF w' (i' 9 x.s y.s 0) v/\Below w.heap.size w w':=by
 obtain⟨g,ad,hg,_,t0,t1,t2⟩:=ha.tok (i:=0) (t:=x) (r:=[y]) rfl;subst ad;obtain⟨g',ad,_,_,u0,u1,u2⟩:=ha.tok (i:=1) (t:=y) (r:=[]) rfl;cases ad;have hn:=ha.len;subst hn;clear ha;simp only[jR];have e0:(s.toList==[105,110,105,116])=false:=za;have e1:(s.toList==[108,97,115,116])=false:=za;have e2:(s.toList==[115,111,109,101])=false:=za;have e3:(s.toList==[102,101,119])=false:=za;have e4:(s.toList==[114,101,115,112,111,110,115,101])=false:=za;have e5:(s.toList==[112,114,101,99,101,100,101])=false:=za;have e6:(s.toList==[99,104,97,105,110])=false:=za;have e7:(s.toList==[98,101,102,111,114,101])=false:=za;have e8:(s.toList==[119,105,116,104])=false:=za;have e9:(s.toList==[97,112,97,114,116])=true:=za;clear hw;simp at t0 t1 t2 u0 u1 u2;go_in
 go_wp2_with (refine(iN).mono ?_)
 rintro e w1 ⟨v1,rfl,au,aa⟩;have aA:=fa au;have ae:=fa (((Mr w.heap.size w).alloc (Ms _) _).trans (aa.mono zp));have an:=fa ((aa.block w.heap.size zp).trans (ft _ _));have aI:=fh an;clear au aa
 go_wp2_with (refine(iN).mono ?_)
 rintro e w2 ⟨v2,rfl,av,R⟩;have aB:=fa av;have aq:=fa (aA.later R);have ag:=fa (ae.trans (R.mono ae.size));have aE:=fa ((R.block w.heap.size aI).trans an);clear av R;have xc:=cell_of_blk aE
 go_wp2_with (refine(iP 7 aq rfl).mono ?_)
 rintro e w3 ⟨v3,rfl,aw,U⟩;have aC:=fa aw;have aF:=fa (aq.later U);have ar:=fa (aB.later U);have ai:=fa (ag.trans (U.mono ag.size));clear aw U
 go_wp2_with (refine(iP 7 ar rfl).mono ?_)
 rintro e w4 ⟨v4,rfl,ax,J⟩;have ak:=fa ax;have aG:=fa (aF.later J);have aH:=fa (ar.later J);have ao:=fa (aC.later J);have aj:=fa (ai.trans (J.mono ai.size));clear ax J
 go_wp2_with (refine(j8 10 ao ak rfl).mono ?_)
 rintro e w5 ⟨v5,rfl,ay,I⟩;have aD:=fa ay;have Hx5:=fa (aG.later I);have Hy5:=fa (aH.later I);have Hp5:=fa (ao.later I);have Hq5:=fa (ak.later I);have HB5:=fa (aj.trans (I.mono aj.size));clear ay I
 go_wp2_with (refine(iP 4 aD rfl).mono ?_)
 exact zm49
theorem FM(w:World)(a b:Int){s:ByteArray}(c:Int)(o:Option Addr)(n k:Nat)(d:Int)(p:Option Addr)(x y:Tk)(ha:ActsAre w o n k [x,y])(hw:s.toList=[110,101,118,101,114]):
  Calls prog 204 #[jR a b s c o n k d p] w fun e w'=> ∃v,e=xm (xk v)/\IsF w' (i' 10 x.s y.s 0) v/\Below w.heap.size w w':=by
 obtain⟨g,ae,hg,_,t0,t1,t2⟩:=ha.tok (i:=0) (t:=x) (r:=[y]) rfl;subst ae;obtain⟨g',ae,_,_,u0,u1,u2⟩:=ha.tok (i:=1) (t:=y) (r:=[]) rfl;cases ae;have hn:=ha.len;subst hn;clear ha;simp only[jR];have e0:(s.toList==[105,110,105,116])=false:=za;have e1:(s.toList==[108,97,115,116])=false:=za;have e2:(s.toList==[115,111,109,101])=false:=za;have e3:(s.toList==[102,101,119])=false:=za;have e4:(s.toList==[114,101,115,112,111,110,115,101])=false:=za;have e5:(s.toList==[112,114,101,99,101,100,101])=false:=za;have e6:(s.toList==[99,104,97,105,110])=false:=za;have e7:(s.toList==[98,101,102,111,114,101])=false:=za;have e8:(s.toList==[119,105,116,104])=false:=za;have e9:(s.toList==[97,112,97,114,116])=false:=za;have e10:(s.toList==[110,101,118,101,114])=true:=za;clear hw;simp at t0 t1 t2 u0 u1 u2;go_in
 go_wp2_with (refine(iN).mono ?_)
 rintro e w1 ⟨v1,rfl,az,ad⟩;have aI:=fa az;have ag:=fa (((Mr w.heap.size w).alloc (Ms _) _).trans (ad.mono zp));have aw:=fa ((ad.block w.heap.size zp).trans (ft _ _));have aV:=fh aw;clear az ad
 go_wp2_with (refine(iN).mono ?_)
 rintro e w2 ⟨v2,rfl,aA,U⟩;have aq:=fa aA;have aP:=fa (aI.later U);have ai:=fa (ag.trans (U.mono ag.size));have aL:=fa ((U.block w.heap.size aV).trans aw);clear aA U;have xc:=cell_of_blk aL
 go_wp2_with (refine(iP 4 aq rfl).mono ?_)
 rintro e w3 ⟨v3,rfl,aB,aa⟩;have ar:=fa aB;have aQ:=fa (aP.later aa);have aS:=fa (aq.later aa);have aj:=fa (ai.trans (aa.mono ai.size));clear aB aa
 go_wp2_with (refine(iP 8 ar rfl).mono ?_)
 rintro e w4 ⟨v4,rfl,aC,R⟩;have au:=fa aC;have aR:=fa (aQ.later R);have aT:=fa (aS.later R);have aM:=fa (ar.later R);have ak:=fa (aj.trans (R.mono aj.size));clear aC R
 go_wp2_with (refine(iP 6 au rfl).mono ?_)
 rintro e w5 ⟨v5,rfl,aD,J⟩;have av:=fa aD;have ax:=fa (aR.later J);have aU:=fa (aT.later J);have aN:=fa (aM.later J);have aO:=fa (au.later J);have an:=fa (ak.trans (J.mono ak.size));clear aD J
 go_wp2_with (refine(j8 12 ax av rfl).mono ?_)
 rintro e w6 ⟨v6,rfl,aE,I⟩;have aJ:=fa aE;have Hx6:=fa (ax.later I);have Hy6:=fa (aU.later I);have Hp6:=fa (aN.later I);have Hq6:=fa (aO.later I);have Ht6:=fa (av.later I);have ao:=fa (an.trans (I.mono an.size));clear aE I
 go_wp2_with (refine(iP 8 aJ rfl).mono ?_)
 rintro e w7 ⟨v7,rfl,aF,ay⟩;have aK:=fa aF;have aH:=fa (ao.trans (ay.mono ao.size));clear aF ay;go_wp2;go_ret;exact⟨_,rfl,aK,aH⟩
theorem FN(w:World)(a b:Int){s:ByteArray}(c:Int)(o:Option Addr)(n k:Nat)(d:Int)(p:Option Addr)(x y:Tk)(ha:ActsAre w o n k [x,y])(hw:s.toList=[110,111,116,110,101,120,116]):
  Calls prog 204 #[jR a b s c o n k d p] w fun e w'=> ∃v,e=xm (xk v)/\IsF w' (i' 11 x.s y.s 0) v/\Below w.heap.size w w':=by
 obtain⟨g,ad,hg,_,t0,t1,t2⟩:=ha.tok (i:=0) (t:=x) (r:=[y]) rfl;subst ad;obtain⟨g',ad,_,_,u0,u1,u2⟩:=ha.tok (i:=1) (t:=y) (r:=[]) rfl;cases ad;have hn:=ha.len;subst hn;clear ha;simp only[jR];have e0:(s.toList==[105,110,105,116])=false:=za;have e1:(s.toList==[108,97,115,116])=false:=za;have e2:(s.toList==[115,111,109,101])=false:=za;have e3:(s.toList==[102,101,119])=false:=za;have e4:(s.toList==[114,101,115,112,111,110,115,101])=false:=za;have e5:(s.toList==[112,114,101,99,101,100,101])=false:=za;have e6:(s.toList==[99,104,97,105,110])=false:=za;have e7:(s.toList==[98,101,102,111,114,101])=false:=za;have e8:(s.toList==[119,105,116,104])=false:=za;have e9:(s.toList==[97,112,97,114,116])=false:=za;have e10:(s.toList==[110,101,118,101,114])=false:=za;clear hw;simp at t0 t1 t2 u0 u1 u2;go_in
 go_wp2_with (refine(iN).mono ?_)
 rintro e w1 ⟨v1,rfl,au,aa⟩;have aA:=fa au;have ae:=fa (((Mr w.heap.size w).alloc (Ms _) _).trans (aa.mono zp));have aq:=fa ((aa.block w.heap.size zp).trans (ft _ _));have aI:=fh aq;clear au aa
 go_wp2_with (refine(iN).mono ?_)
 rintro e w2 ⟨v2,rfl,av,R⟩;have ak:=fa av;have aE:=fa (aA.later R);have ag:=fa (ae.trans (R.mono ae.size));have aC:=fa ((R.block w.heap.size aI).trans aq);clear av R;have xc:=cell_of_blk aC
 go_wp2_with (refine(iP 5 ak rfl).mono ?_)
 rintro e w3 ⟨v3,rfl,aw,U⟩;have an:=fa aw;have aF:=fa (aE.later U);have aG:=fa (ak.later U);have ai:=fa (ag.trans (U.mono ag.size));clear aw U
 go_wp2_with (refine(iP 4 an rfl).mono ?_)
 rintro e w4 ⟨v4,rfl,ax,J⟩;have ao:=fa ax;have ar:=fa (aF.later J);have aH:=fa (aG.later J);have aD:=fa (an.later J);have aj:=fa (ai.trans (J.mono ai.size));clear ax J
 go_wp2_with (refine(j8 12 ar ao rfl).mono ?_)
 rintro e w5 ⟨v5,rfl,ay,I⟩;have aB:=fa ay;have Hx5:=fa (ar.later I);have Hy5:=fa (aH.later I);have Hp5:=fa (aD.later I);have Hq5:=fa (ao.later I);have HB5:=fa (aj.trans (I.mono aj.size));clear ay I
 go_wp2_with (refine(iP 8 aB rfl).mono ?_)
 exact zm49
def qP(r:Rl):Prop:=
 (gR r.word.s.toList<=1/\ ∃x,r.args=[x])\/
 (2<=gR r.word.s.toList/\gR r.word.s.toList<=3/\ ∃x y,r.args=[x,y]/\ ∃c:UInt8,y.s=⟨#[c]⟩/\49<=c.toNat/\c.toNat<=57)\/
 (4<=gR r.word.s.toList/\gR r.word.s.toList<=11/\ ∃x y,r.args=[x,y])
def mq(l:List Tk)(i:Nat):ByteArray:=match l.drop i with|t::_=>t.s|[]=>ByteArray.empty
def gL(r:Rl):Fm:=if r.call=true then i' (gR r.word.s.toList) (mq r.args 0) (mq r.args 1) (kv (mq r.args 1)) else r.f
theorem F3{l:List UInt8}:(gR l=0/\l=[105,110,105,116])\/(gR l=1/\l=[108,97,115,116])\/(gR l=2/\l=[115,111,109,101])\/(gR l=3/\l=[102,101,119])\/
  (gR l=4/\l=[114,101,115,112,111,110,115,101])\/(gR l=5/\l=[112,114,101,99,101,100,101])\/(gR l=6/\l=[99,104,97,105,110])\/(gR l=7/\l=[98,101,102,111,114,101])\/
  (gR l=8/\l=[119,105,116,104])\/(gR l=9/\l=[97,112,97,114,116])\/(gR l=10/\l=[110,101,118,101,114])\/(gR l=11/\l=[110,111,116,110,101,120,116])\/gR l=12:=by
 by_cases h0:l=[105,110,105,116]
 ·subst h0;decide
 by_cases h1:l=[108,97,115,116]
 ·subst h1;decide
 by_cases h2:l=[115,111,109,101]
 ·subst h2;decide
 by_cases h3:l=[102,101,119]
 ·subst h3;decide
 by_cases h4:l=[114,101,115,112,111,110,115,101]
 ·subst h4;decide
 by_cases h5:l=[112,114,101,99,101,100,101]
 ·subst h5;decide
 by_cases h6:l=[99,104,97,105,110]
 ·subst h6;decide
 by_cases h7:l=[98,101,102,111,114,101]
 ·subst h7;decide
 by_cases h8:l=[119,105,116,104]
 ·subst h8;decide
 by_cases h9:l=[97,112,97,114,116]
 ·subst h9;decide
 by_cases h10:l=[110,101,118,101,114]
 ·subst h10;decide
 by_cases h11:l=[110,111,116,110,101,120,116]
 ·subst h11;decide
 refine Mt (Mt (Mt (Mt (Mt (Mt (Mt (Mt (Mt (Mt (Mt (Mt ?_)))))))))));simp only[gR,h0,h1,h2,h3,h4,h5,h6,h7,h8,h9,h10,h11,if_false]
theorem DX(r:Rl)(a b:Int)(s:ByteArray)(c:Int)(o:Option Addr)(n k:Nat)(d:Int)(p:Option Addr)(h:RlIs w r a b s c o n k d p)(hc:r.call=true)(J:qP r):
  Calls prog 204 #[jR a b s c o n k d p] w fun e w'=> ∃v,e=xm (xk v)/\IsF w' (gL r) v/\Below w.heap.size w w':=by
 obtain⟨_,R⟩:=h;rw[if_pos hc] at R;obtain⟨_,hs,_,ho,_,_⟩:=R;subst hs;rw[gL,if_pos hc];have I:=ho;have hi:=F3 (l:=r.word.s.toList);rcases J with⟨hk,x,hx⟩|⟨hk1,hk2,x,y,hx,hd⟩|⟨hk1,hk2,x,y,hx⟩
 ·rw[hx] at I|-;rcases hi with⟨e,hw⟩|⟨e,hw⟩|⟨e,hw⟩|⟨e,hw⟩|⟨e,hw⟩|⟨e,hw⟩|⟨e,hw⟩|⟨e,hw⟩|⟨e,hw⟩|⟨e,hw⟩|⟨e,hw⟩|⟨e,hw⟩|e
  ·rw[e];exact Io w a b c o n k d p x I hw
  ·rw[e];exact Ip w a b c o n k d p x I hw
  all_goals omega
 ·rw[hx] at I|-;rcases hi with⟨e,hw⟩|⟨e,hw⟩|⟨e,hw⟩|⟨e,hw⟩|⟨e,hw⟩|⟨e,hw⟩|⟨e,hw⟩|⟨e,hw⟩|⟨e,hw⟩|⟨e,hw⟩|⟨e,hw⟩|⟨e,hw⟩|e
  ·omega
  ·omega
  ·rw[e];exact Iq w a b c o n k d p x y I hw hd
  ·rw[e];exact Ir w a b c o n k d p x y I hw hd
  all_goals omega
 rw[hx] at I|-;rcases hi with⟨e,hw⟩|⟨e,hw⟩|⟨e,hw⟩|⟨e,hw⟩|⟨e,hw⟩|⟨e,hw⟩|⟨e,hw⟩|⟨e,hw⟩|⟨e,hw⟩|⟨e,hw⟩|⟨e,hw⟩|⟨e,hw⟩|e
 ·omega
 ·omega
 ·omega
 ·omega
 ·rw[e];exact Is w a b c o n k d p x y I hw
 ·rw[e];exact It w a b c o n k d p x y I hw
 ·rw[e];exact Iu w a b c o n k d p x y I hw
 ·rw[e];exact Iv w a b c o n k d p x y I hw
 ·rw[e];exact Iw w a b c o n k d p x y I hw
 ·rw[e];exact Ix w a b c o n k d p x y I hw
 ·rw[e];exact FM w a b c o n k d p x y I hw
 ·rw[e];exact FN w a b c o n k d p x y I hw
 omega
def FsAre(w:World):List Rl->List (Option Addr)->Prop
 |[],ps=>ps=[]
 |r::rs,ps=> ∃p ps',ps=p::ps'/\IsF w (gL r) p/\FsAre w rs ps'
theorem FsAre.later(I:Below w.heap.size w w'): ∀{rs:List Rl} {ps:List (Option Addr)},FsAre w rs ps->FsAre w' rs ps
 |[],_,h=>h
 |_::_,_,⟨p,ps',e,h1,h2⟩=>⟨p,ps',e,h1.later I,h2.later I⟩
theorem KT.fs(I:KT w w'): ∀{rs:List Rl} {ps:List (Option Addr)},FsAre w rs ps->FsAre w' rs ps
 |[],_,h=>h
 |_::_,_,⟨p,ps',e,h1,h2⟩=>⟨p,ps',e,I.isF h1,I.fs h2⟩
theorem FsAre.snoc: ∀{rs:List Rl} {ps:List (Option Addr)} {r:Rl} {p:Option Addr},FsAre w rs ps->IsF w (gL r) p->FsAre w (rs++[r]) (ps++[p])
 |[],_,r,p,h,hp=>by rw[show _=[] from h];exact⟨p,[],rfl,hp,rfl⟩
 |_::_,_,r,p,⟨q,ps',e,h1,h2⟩,hp=>⟨q,ps'++[p],za,h1,h2.snoc hp⟩
def RowR(w:World)(o:Option Addr)(n k:Nat)(rs:List Rl):Prop:= ∃cells,w.ownsRow 0 235 7 (xa o n k) rs.length cells/\RulesAre w rs cells
theorem RowR.len{k:Nat}(h:RowR w o n k rs):n=rs.length:=by
 obtain⟨cells,⟨_,⟨h1,h2⟩|⟨g,cap,cur,hv,_⟩⟩,_⟩:=h
 ·simp_all
 simp_all
theorem RulesAre.at: ∀{rs:List Rl} {cells:List Value} {i:Nat} {r:Rl} {l:List Rl},RulesAre w rs cells->rs.drop i=r::l->
  ∃a b s c o n k d p,RlIs w r a b s c o n k d p/\cells[i * 7]? =some (xd xh a)/\cells[i * 7+1]? =some (xd .u8 b)/\cells[i * 7+2]? =some (xj s)/\cells[i * 7+3]? =some (xd xh c)/\cells[i * 7+4]? =some (xa o n k)/\cells[i * 7+5]? =some (xd xh d)/\cells[i * 7+6]? =some (xk p)
 |[],_,i,r,l,_,h=>by simp at h
 |x::xs,cells,0,r,l,⟨a,b,s,c,o,n,k,d,p,cs',e,hr,_⟩,h=>by
  simp at h;obtain⟨rfl,rfl⟩:=h;subst e;exact⟨a,b,s,c,o,n,k,d,p,hr,rfl,rfl,rfl,rfl,rfl,rfl,rfl⟩
 |x::xs,cells,i+1,r,l,⟨a,b,s,c,o,n,k,d,p,cs',e,_,hrs⟩,h=>by
  obtain⟨a',I,s',J,o',n',k',R,p',hr,U,h1,h2,h3,h4,h5,h6⟩:=hrs.at (i:=i) (r:=r) (l:=l) zv;subst e;refine⟨a',I,s',J,o',n',k',R,p',hr, ?_, ?_, ?_, ?_, ?_, ?_, ?_⟩
  all_goals (rw[List.getElem?_append_right zs])
  ·rw[<-U];congr 1;simp;omega
  ·rw[<-h1];congr 1;simp;omega
  ·rw[<-h2];congr 1;simp;omega
  ·rw[<-h3];congr 1;simp;omega
  ·rw[<-h4];congr 1;simp;omega
  ·rw[<-h5];congr 1;simp;omega
  ·rw[<-h6];congr 1;simp;omega
theorem RowR.at{k:Nat}(h:RowR w o n k rs){r:Rl}{l:List Rl}(hr:rs.drop i=r::l):
  ∃g,o=some ⟨g,0,none⟩/\g<w.heap.size/\TyAt w g 235/\ ∃a b s c o' U R d p,RlIs w r a b s c o' U R d p/\w.cell? ⟨g,i * 7,none⟩=some (xd xh a)/\w.cell? ⟨g,i * 7+1,none⟩=some (xd .u8 b)/\w.cell? ⟨g,i * 7+2,none⟩=some (xj s)/\w.cell? ⟨g,i * 7+3,none⟩=some (xd xh c)/\w.cell? ⟨g,i * 7+4,none⟩=some (xa o' U R)/\w.cell? ⟨g,i * 7+5,none⟩=some (xd xh d)/\w.cell? ⟨g,i * 7+6,none⟩=some (xk p):=by
 have hi:i<rs.length:=by
  rcases Nat.lt_or_ge i rs.length with h|h
  ·omega
  rw[Mx h] at hr;cases hr
 obtain⟨cells,⟨_,⟨h1,h2⟩|⟨g,cap,cur,hv,_,I,hle,_,hcs,J⟩⟩,ad⟩:=h
 ·omega
 cases hv;obtain⟨a,b,s,c,o',U,R,d,p,ae,h0,h1,h2,h3,h4,h5,h6⟩:=ad.at hr;rw[<-J,Mw,if_pos zo] at h0 h1 h2 h3 h4 h5 h6;refine⟨g,rfl,fh I,⟨_,_,I⟩,a,b,s,c,o',U,R,d,p,ae, ?_, ?_, ?_, ?_, ?_, ?_, ?_⟩<;>rw[cell_of_blk I,<-Array.getElem?_toList]<;>assumption
theorem RowR.later{k:Nat}(h:RowR w o n k rs)(I:Below w.heap.size w w'):RowR w' o n k rs:=by
 obtain⟨cells,J,R⟩:=h;exact⟨cells,fL J I,(KT.below I).rules R⟩
theorem KT.ownE{base e size:Nat}(h:w.grownBy w' v.ownBlock)(ho:w.ownsRow base e size v n xs)(I:e≠232)(J:e≠292):KT w w':=by
 obtain⟨_,R|⟨g,cap,cur,hv,_,U,_⟩⟩:=ho
 ·rw[R.1] at h;exact KT.grownNone h
 rw[hv] at h;exact KT.grown (r:=g) h ⟨_,_,U⟩ I J
theorem Tryz.infoPtr:(prog.info? 233).map (fun i=>(i.zero,i.size,i.bytes))=some (some (xk none),1,8):=zk
theorem sK(rs:List Rl)(h:RowR w o2 n2 k2 rs)(hlen:rs.length<=401)(aH: ∀r∈rs,r.call=true->qP r):
  Calls prog 177 #[.agg #[xa o1 n1 k1,xa o2 n2 k2]] w fun e w'=> ∃v ps,e=xm v/\w'.ownsRow w.heap.size 233 1 v rs.length (ps.map xk)/\FsAre w' rs ps/\Below w.heap.size w w':=by
 have hn:=h.len;subst hn;have HR:=fa h;have aS:=fa aH;clear h aH;obtain⟨i0,aG,aM,aN,aO⟩:=info_parts Tryz.infoPtr;go_in;go_wp2
 go_loopw [3,4] (fun v x wr=> ∃(k:Nat) (ps:List (Option Addr)),k<=rs.length/\ps.length=k/\x=xd xh k/\wr.ownsRow (w.heap.size+1) 233 1 v k (ps.map xk)/\FsAre wr (rs.take k) ps/\Below (w.heap.size+1) (w.alloc (xi #[xa o1 n1 k1,xa o2 rs.length k2] 228)) wr) (fun _ x _=>rs.length - (intOf x).toNat)
 ·exact⟨0,[],My _,rfl,rfl,World.ownsRow_nil _ _ _ _,rfl,Mr _ _⟩
 obtain⟨k,ps,hk,hpl,rfl,ao,ai,R⟩:=hrel;have ae:=fa ao;have av:=fa ai;have ak:=fa R;have aE:=(R.block w.heap.size zo).trans (ft w (xi #[xa o1 n1 k1,xa o2 rs.length k2] 228));have aU:w.heap.size+1<=wr.heap.size:=by have:=R.size;simp_all
 have bc:=cell_of_blk aE;have aA:=((Mr w.heap.size w).alloc (Ms _) _).trans (R.mono zo);have aR:=fa aA;clear ao ai R aE;by_cases hlt:k<rs.length
 ·obtain⟨r,l,hr⟩: ∃r l,rs.drop k=r::l:=by
   cases hd:rs.drop k with
   |nil=>have:=congrArg List.length hd;simp at this;omega
   |cons r l=>simp
  have HRL:=fa hr;obtain⟨g,rfl,hg,_,a,b,s,c,o',n',k',d,p,aK,q0,q1,q2,q3,q4,q5,q6⟩:=(HR.later aA).at hr;have ay:=fa aK;have an:r∈rs:=List.mem_of_mem_drop (i:=k) (by rw[hr];exact List.mem_cons_self);have aC:=fa (aS r an);clear hr aK an aA;cases hc:r.call with
  |true=>
   have hp:p=none:=by have:=ay.2;simp_all
   subst hp;have HC:=fa hc;clear hc;go_wp2_with fail;refine(DX r a b s c o' n' k' d none ay HC (aC HC)).mono ?_;rintro e w2 ⟨v2,rfl,aF,ag⟩;have ar:=fa aF;have aw:=fa (fL ae ag);have aB:=fa (av.later ag);have aQ:=fa (ak.trans (ag.mono aU));have hz2':=ag.size;clear aF ag q0 q1 q2 q3 q4 q5 q6
   go_wp2_with (at_builtin;go_must (refine wpList_append_own _ rfl _ _ 288 rfl (w.heap.size+1) 233 i0 (xk none) 1 8 underlying288 aG aM aN aO rfl zd _ k (ps.map xk) rfl ?c0 ⟨w2.heap.size,0,none⟩ 1 1 [xk v2] rfl rfl ?c1 ?c2 ?c3 ?c4 ?c5 ?_))
   case c0=>exact aw.alloc _
   case c1=>
    intro j u U
    match j,U with
    |0,U=>simp at U;subst U;exact(cell_of_blk (ft _ _) 0).trans rfl
    |j+1,U=>simp at U
   case c2=>intro u hu;simp at hu;subst hu;rfl
   case c3=>unfold maxLen;omega
   case c4=>omega
   case c5=>simp;omega
   intro v3 w3 J I _;have aj:=gG aw;have aq:=fa ((aQ.alloc zo _).grown I zs (fun j U=>(aj j U).1));have aa:=fa ((KT.alloc w2 (xi #[xk v2] 233)).trans (KT.ownE I (aw.alloc _) zp zp));have ax:Hid (w3.ownsRow (w.heap.size+1) 233 1 v3 (k+1) ((ps++[v2]).map xk)):=by rw[MC];exact J
   have au:=fa (FsAre.snoc (aa.fs aB) (aa.isF ar));have az:Hid (rs.take (k+1)=rs.take k++[r]):=by
    exact zm153
   clear J I aj;go_wp2
   go_roundw
   ·refine⟨k+1,ps++[v2],zo,zs,zf,ax, ?_,aq⟩;rw[az.out];exact au
   simp[intOf];omega
  |false=>
   obtain⟨aI,aJ⟩:IsF wr r.f p/\p.isSome=true:=by have:=ay.2;simp_all
   obtain⟨ad,rfl⟩:=Option.isSome_iff_exists.1 aJ;have ar:Hid (IsF wr (gL r) (some ad)):=by show IsF _ _ _;rw[gL,if_neg (by simp[hc])];exact aI
   clear hc aI aJ
   go_wp2_with (at_builtin;go_must (refine wpList_append_own _ rfl _ _ 288 rfl (w.heap.size+1) 233 i0 (xk none) 1 8 underlying288 aG aM aN aO rfl zd _ k (ps.map xk) rfl ?c0 ⟨wr.heap.size,0,none⟩ 1 1 [xk (some ad)] rfl rfl ?c1 ?c2 ?c3 ?c4 ?c5 ?_))
   case c0=>exact ae.alloc _
   case c1=>
    intro j u U
    match j,U with
    |0,U=>simp at U;subst U;exact(cell_of_blk (ft _ _) 0).trans rfl
    |j+1,U=>simp at U
   case c2=>intro u hu;simp at hu;subst hu;rfl
   case c3=>unfold maxLen;omega
   case c4=>omega
   case c5=>simp;omega
   intro v3 w3 J I _;have aj:=gG ae;have aq:=fa ((ak.alloc zo _).grown I zs (fun j U=>(aj j U).1));have aa:=fa ((KT.alloc wr (xi #[xk (some ad)] 233)).trans (KT.ownE I (ae.alloc _) zp zp));have ax:Hid (w3.ownsRow (w.heap.size+1) 233 1 v3 (k+1) ((ps++[(some ad)]).map xk)):=by rw[MC];exact J
   have au:=fa (FsAre.snoc (aa.fs av) (aa.isF ar));have az:Hid (rs.take (k+1)=rs.take k++[r]):=by
    exact zm153
   clear J I aj;go_wp2
   go_roundw
   ·refine⟨k+1,ps++[(some ad)],zo,zs,zf,ax, ?_,aq⟩;rw[az.out];exact au
   simp[intOf];omega
 go_wp2;go_ret;have aT:k=rs.length:=zo;subst aT;have ai:=av.out;rw[List.take_length] at ai;exact⟨_,ps,rfl,ig ae zo,ai,aR⟩
end Go.Proofs.YtidakhhekofkoaaGreatDoor
