import Derived.Test.YtidakhhekofkoaaGreatDoorT12
import Derived.Test.YtidakhhekofkoaaGreatDoorT13
set_option linter.all false
set_option maxHeartbeats 8000000
set_option maxRecDepth 100000
namespace Go.Proofs.YtidakhhekofkoaaGreatDoor
open Go.Proofs.Tryz
open Go.RowKit Go.Deep
open Value renaming slice -> xa, int -> xd, string -> xj, pointer -> xk, bool -> xn
open IntKind renaming i64 -> xh
open Obj renaming cells -> xi
open Ending renaming returned -> xm
open Go.RowKit.Below renaming heap_alloc -> Mr, heap_setCell -> Mt, refl -> Mw
open World renaming block_lt_of_cell? -> Ms, cell?_alloc_lt -> Mz, ownsRow_nil -> MD, alloc -> MF
open Nat renaming le_refl -> Mu, zero_le -> Mx
open List renaming mem_of_mem_drop -> My, getElem?_map -> ME
open Or renaming inr -> MC
open Addr renaming add -> MG
open Calls renaming quiet_of -> MH
variable {zq:Prop}
variable {w w' w1 w2 wr wr':World} {f:Fm} {p ao a1 o1 o2 m1 q1:Option Addr} {base n an ac mb a2 a3 n1 k1 n2 k2 m2 m3 q2 q3 j:Nat} {v:Value} {xs:List Value} {c:Array Value} {m:Nat × Nat} {a b wd x:ByteArray} {r:Rl} {al:List Tk} {rs:List Rl} {tr:List ByteArray}
theorem zm3(h:zq:=by
 refine hK.out _ _ hS7 (fun hHeld=> ?_);clear hK K hS7;have hrb7:=(hb7.block _ hrl6).trans HRB6.out;have rc7:=cell_of_blk hrb7;have rf7:=fi hrb7;have hrl7:=fh hrb7;have HG7:=fa hG7;have HRB7:=fa hrb7;have HO7:=fa (fL HO6.out hb7);have HB7:=fa (HB6.out.trans (hb7.mono zo));clear hG7 hb7 hrb7;apply zt1 18 (.agg #[xj r.word.s,xa o6 n6 k6,xk p7]) hHeld;apply zrH 19;intro K hK;go_simp;have hfar: ∀(q o:Nat) (v0 v1 v2:Value),q≠w.heap.size->(((w7.setCell ⟨w.heap.size,0,none⟩ v0).setCell ⟨w.heap.size,1,none⟩ v1).setCell ⟨w.heap.size,2,none⟩ v2).cell? ⟨q,o,none⟩=w7.cell? ⟨q,o,none⟩:=fun q o v0 v1 v2 hq=>by
  rw[World.cell?_setCell_far _ _ _ _ (by show w.heap.size≠q;omega),World.cell?_setCell_far _ _ _ _ (by show w.heap.size≠q;omega),World.cell?_setCell_far _ _ _ _ (by show w.heap.size≠q;omega)]
 refine hK.out _ _ ⟨(hfar _ _ _ _ _ zo).trans hHeld.1,(hfar _ _ _ _ _ zo).trans hHeld.2.1,(hfar _ _ _ _ _ zo).trans hHeld.2.2.1,(hfar _ _ _ _ _ zo).trans hHeld.2.2.2.1,(hfar _ _ _ _ _ zo).trans hHeld.2.2.2.2⟩ (fun hHeld=> ?_);clear hK K hfar hHeld;refine wpAnyH_done zk ?_ _;go_wp2_with fail;have hfin:(((w7.setCell ⟨w.heap.size,0,none⟩ (xj r.word.s)).setCell ⟨w.heap.size,1,none⟩ (xa o6 n6 k6)).setCell ⟨w.heap.size,2,none⟩ (xk p7)).heap[w.heap.size]? =some (xi #[xj r.word.s,xa o6 n6 k6,xk p7] 144 (0,0)):=fj (fj (fj HRB7.out 0 _) 1 _) 2 _;have rc8:=cell_of_blk hfin;clear rc7;refine bodyPost_ret (v:= .agg #[xj r.word.s,xa o6 n6 k6,xk p7]) (by simp[results,results118,go_sem,rc8]) rfl ?_;have hnr:(xa o6 n6 k6).ownBlock≠some w.heap.size:=fun e=>gp HO7.out e HRB7.out zp
 refine⟨((HB7.out.setCell (Nat.le_refl _) _).setCell (Nat.le_refl _) _).setCell (Nat.le_refl _) _,o6,n6,k6,p7,rfl,gq (gq (gq HO7.out (fK _ _ _ _) (Or.inr hnr)) (fK _ _ _ _) (Or.inr hnr)) (fK _ _ _ _) (Or.inr hnr), ?_⟩;have hG8:=vC (o:=2) (v:= xk p7) (fj (fj HRB7.out 0 (xj r.word.s)) 1 (xa o6 n6 k6)) zp (vC (o:=1) (v:= xa o6 n6 k6) (fj HRB7.out 0 (xj r.word.s)) zp (vC (o:=0) (v:= xj r.word.s) HRB7.out zp HG7.out));rw[HNOE.out];exact hG8
 ):zq:=h
theorem zm4(h:zq:=by
 clear hK K;apply zrH 6;intro K hK;refine step_append_lies _ zf _ _ 76 zf w.heap.size 144 m0 (.agg #[xj ⟨#[]⟩,xa none 0 0,xk none]) 3 48 underlying76 hm0 hmz0 hmz1 hmz2 rfl zd (xa m1 m2 m3) k cs zf ?c0 ⟨w3.heap.size,0,none⟩ 1 1 [xj r.word.s,xa co cn cc,xk cp3] zf rfl ?c1 ?c2 zd ?c3 ?c4 ?c5 (w3.heap.size+1) zp ?_
 case c0=>have:=HBS3.out.ru.alloc (xi #[xj r.word.s,xa co cn cc,xk cp3] 144);rw[HTL.out] at this;exact this
 case c1=>
  intro j u hj
  match j,hj with
  |0,hj=>simp at hj;subst hj;simp[Addr.add]
  |1,hj=>simp at hj;subst hj;simp[Addr.add]
  |2,hj=>simp at hj;subst hj;simp[Addr.add]
  |j+3,hj=>simp at hj
 case c2=>intro u hu;simp at hu;rcases hu with rfl|rfl|rfl<;>rfl
 case c3=>unfold maxLen;omega
 case c4=>omega
 case c5=>simp;omega
 intro g4 cap4 w4 hown4 hgrow4 hat4 hlt4;have hS4:w4.cell? ⟨wr.heap.size,5,none⟩=some (xk (some ⟨kb,0,none⟩)):=by
  rw[World.cell?_of_block (a:=⟨wr.heap.size,5,none⟩) (hgrow4.block wr.heap.size zs (fun e=>by have:=gG HBS.out.ru _ e.symm;omega))];omega
 refine hK.out _ _ hS4 (fun hHeld=> ?_);clear hK K hS4;have hbs4:=(HBS3.out.later gz).add hmb (HBR3.out.keep (KB.below gz)) hgrow4 (by rw[HTL.out];exact hown4);have hm4:=(hgrow4.block mb zs (fun e=>gp HBS3.out.ru e.symm HBS3.out.mx zp)).trans ((Below.heap_alloc _ _ _ hml3).trans HBS3.out.mx);have mc4:=cell_of_blk hm4;have mf4:=fi hm4;have hml4:=fh hm4;have HBS4:=fa hbs4;clear hbs4 hown4 hgrow4 hm4 mc3;apply zt1 7 (xk (some ⟨mb,1,none⟩)) hHeld;apply zrH 8;intro K hK;go_simp;refine hK.out _ _ (by show(World.setCell _ _ _).cell? _=_;rw[World.cell?_setCell_far _ _ _ _ (by show mb≠wr.heap.size;omega)];omega) (fun hHeld=> ?_);clear hK K hHeld mc4 mf4;refine wpAnyH_done zk ?_ _;go_wp2
 go_roundw
 ·exact⟨k+1,_,_,_,_,by go_num,zo,by rw[HTS.out];exact HBS4.out⟩
 simp[intOf];omega
 ):zq:=h
theorem zm33(h:zq:=by
 skip
 obtain⟨c0,c1,c2⟩:=l5 (j:=0) hcr rfl;clear hcr;go_wp2_with fail;refine(mY x.s).mono ?_;rintro e w3 ⟨v,rfl,hv,hb3⟩;have HV:=fa (hv 0);have hrb3:=(hb3.block w.heap.size zs).trans ((Below.heap_alloc _ _ _ hrl).trans HRB.out);have hab3:=(hb3.block (w.heap.size+1) zs).trans ((Below.heap_alloc _ _ _ hal).trans HAB.out);have HRB3:=fa hrb3;have HAB3:=fa hab3;have HB3:=fa ((HB.out.alloc zo _).trans (hb3.mono zs));have hal3:=fh hab3;clear abc abf;have abc:=cell_of_blk hab3;have abf:=fi hab3;clear hv hb3 hrb3 hab3 c0 c1 c2;go_wp2
 go_roundw
 ·refine⟨1,v,p1,0,zf,rfl,HB3.out.setCell zp _,(Below.heap_setCell _ _ _ _ zp).trans HRB3.out,fj HAB3.out 0 _,Or.inr (Or.inl ⟨rfl,rfl,vC HAB3.out zp HV.out⟩)⟩
 simp[intOf]
 ):zq:=h
theorem zm35(h:zq:=by
 refine⟨?_, ?_, ?_, ?_, ?_⟩
 ·show(World.alloc _ _).cell? _=_;rw[World.cell?_alloc_lt _ _ _ hkl3];simp_all
 ·show(World.alloc _ _).cell? _=_;rw[World.cell?_alloc_lt _ _ _ hkl3];simp_all
 ·simp
 ·show(World.alloc _ _).cell? _=_;rw[World.cell?_alloc_lt _ _ _ hal3];simp_all
 show(World.alloc _ _).cell? _=_;rw[World.cell?_alloc_lt _ _ _ hal3];simp_all
 ):zq:=h
theorem zm52(h:zq:=by
 refine⟨0,none,none,0,rfl,rfl,gz.alloc zp _,(Below.heap_alloc _ _ _ zp).trans (ft _ _),fk _ _ _ zp,Or.inl ⟨rfl,rfl⟩⟩
 ):zq:=h
theorem zm98(h:zq:=by
 obtain⟨cur,h1,h2⟩:=HCUR.out;exact⟨cur,(hbel.block _ (fh h1)).trans h1,h2⟩
 ):zq:=h
theorem zm103(h:zq:=by
 obtain⟨_,⟨h1,_⟩|⟨g',cap',cur',hv',_,hh',_,_,hcs,_⟩⟩:=hown1
 ·omega
 simp_all
 ):zq:=h
theorem zm104(h:zq:=by
 have hin:¬ (i:Int)<(tr.length:Int)+8:=zo;go_wp2;go_ret;exact⟨w.heap.size,rfl,Nat.le_refl _,⟨cur,HC.out,hcs,HV.out,fun j h1 h2=>HY.out j h1 zo⟩,HB.out⟩
 ):zq:=h
theorem zm109(h:zq:=by
 rcases Nat.lt_or_ge j tr.length with h|h
 ·omega
 simp_all
 ):zq:=h
theorem zm122(h:zq:=by
 rcases hcase with h|⟨h,_⟩
 ·exact h
 exact absurd (by have:=HN.out;omega) h
 ):zq:=h
theorem zm144(h:zq:=by
 intro j x hx;obtain⟨cur,h1,_,h3,_⟩:=h.blk;exact⟨g,0,rfl,fh h1,by rw[Nat.zero_add,cell_of_blk h1];simp_all⟩
 ):zq:=h
theorem zm164(h:zq:=by
 by_cases e:j=i
 ·simp_all
 rw[Array.getElem?_setIfInBounds_ne zo];exact HY.out j h1 zo
 ):zq:=h
theorem zm168(h:zq:=by
 exact⟨tr.length,cur2,Nat.le_refl _,zo,rfl,HC2,hcs2,HV2,fa (fun j h1 h2=>zo),HB2⟩
 ):zq:=h
theorem DT{s:ByteArray}(hs:s.size<=400):Calls prog 49 #[xj s] w fun e w'=>e=xm (xj s)/\Below w.heap.size w w':=by
 go_in
 go_wp2_with (refine(Tryz.stringslite_Clone s _ zo).mono ?_;rintro e w1 ⟨rfl,hb1⟩)
 go_ret;trivial
theorem qG(L:List Tk)(no:Option Addr)(nn nc:Nat)(h:w.ownsRow 0 201 3 (xa no nn nc) L.length (gK L))(hl:L.length<=401)(hz: ∀t∈L,t.s.size<=400):
  Calls prog 117 #[xa no nn nc] w fun e w'=> ∃v,e=xm v/\w'.ownsRow w.heap.size 9 1 v L.length (kE L)/\Below w.heap.size w w':=by
 obtain⟨i0,hi,aG,av,aI⟩:=info_parts Tryz.infoStr;obtain⟨aD,ad⟩:=nG h;have hnn1:nn<=L.length:=zo;have hnn2:L.length<=nn:=zo;have aq:=fa ad;have HZ:=fa hz;clear h aD ad hz;go_in;go_wp2
 go_loopw [3,8] (fun v i wr=> ∃k:Nat,i=xd xh (k:Int)/\k<=L.length/\wr.ownsRow w.heap.size 9 1 v k (kE (L.take k))/\Below w.heap.size w wr) (fun _ i _=>L.length - (intOf i).toNat)
 ·exact⟨0,rfl,Mx _,MD _ _ _ _,Mw _ _⟩
 obtain⟨k,rfl,hkk,J,I⟩:=hrel;by_cases hlt:k<L.length
 ·obtain⟨t,rr,ht⟩: ∃t rr,L.drop k=t::rr:=by
   cases hd:L.drop k with
   |nil=>have:=congrArg List.length hd;simp at this;omega
   |cons t rr=>simp
  obtain⟨g,aE,hle,au,cur,ai,ar⟩:=aq (by intro e;simp_all);unfold maxLen at au;have ae: ∃cur,wr.heap[g]? =some (xi cur 201 (0,0))/\cur.toList.take (L.length * 3)=gK L:=⟨cur,(I.block _ (fh ai)).trans ai,ar⟩;obtain⟨c0,c1,c2⟩:=l5 ae ht;subst aE;have aB:=fa (nK ht);have aF:=HZ t (My (i:=k) (ht▸List.mem_cons_self ..));have aC:(k:Int)<(nn:Int):=zo;clear ht ai ar ae cur;go_wp2_with fail;refine(DT aF).mono ?_;rintro e w1 ⟨rfl,ag⟩;have az:=fa (fL (J.alloc (xi #[xd xh t.k,xj t.s,xd xh t.p] 201)) ag);have ay:=fa (gG J);have ak:=fa ((I.alloc I.size _).trans (ag.mono (by have:=I.size;simp;omega)));clear J I ag;have aH:=ak.size
  go_wp2_with (at_builtin;go_must (refine wpList_append_own _ rfl _ _ 25 rfl w.heap.size 9 i0 (xj ⟨#[]⟩) 1 16 underlying25 hi aG av aI rfl zd _ k (kE (L.take k)) rfl ?c0 ⟨w1.heap.size,0,none⟩ 1 1 [xj t.s] rfl rfl ?c1 ?c2 ?c3 ?c4 ?c5 ?_))
  case c0=>exact az.alloc _
  case c1=>
   intro j u hj
   match j,hj with
   |0,hj=>simp at hj;subst hj;simp[MG]
   |j+1,hj=>simp at hj
  case c2=>intro u hu;simp at hu;subst hu;rfl
  case c3=>unfold maxLen;omega
  case c4=>omega
  case c5=>simp;omega
  intro v' w2 U R _;have ax:=fa ((ak.alloc aH _).grown R zs (fun k hk=>(ay k hk).1));have aA:Hid (w2.ownsRow w.heap.size 9 1 v' (k+1) (kE (L.take (k+1)))):=by
   rw[aB.out,zh];exact U
  clear U R;go_wp2
  go_roundw
  ·exact⟨k+1,zf,zo,aA,ax⟩
  simp[intOf];omega
 have aa:k=L.length:=zo;have aC:¬ (k:Int)<(nn:Int):=zo;have HO:Hid (wr.ownsRow w.heap.size 9 1 u3 L.length (kE L)):=by rw[<-aa];rw[aa,List.take_length] at J;rw[aa];exact J
 have HB:=fa I;clear J I aa;go_wp2;go_ret;exact⟨_,rfl,HO,HB⟩
theorem IsG.drewN(h:IsG w f p)(n:Nat):IsG (w.drewN n) f p:=h.later (jA _ _)
set_option maxRecDepth 1000000 in
theorem tj: ∀(f:Fm) (w:World) (p:Option Addr),IsG w f p->gF f<=100000->
  Calls prog 119 #[xk p] w fun e w'=>e=xm (xd xh (gF f))/\ ∃n,w'=w.drewN n
 | .nil,w,p,h,_=>by
  cases (show p=none from h);go_in;go_wp2;go_ret;exact⟨rfl,0,rfl⟩
 | .node u v a l r,w,p,h,hs=>by
  obtain⟨b,pl,pr,rfl,hb,hl,hr⟩:=h;have I:=fa (tj l);have J:=fa (tj r);have HL:=fa hl;have HR:=fa hr;have R:gF l<=100000:=by simp only[gF] at hs;omega
  have U:gF r<=100000:=by simp only[gF] at hs;omega
  have hss:=hs;have bc:=cell_of_blk hb;clear hb hl hr hs;go_in;go_wp2;go_quiet (first|(refine MH (I _ _ ?_ R);exact IsG.drewN HL _)|(refine MH (J _ _ ?_ U);exact IsG.drewN HR _));go_wp2;go_ret;exact⟨pL zf,nq,rfl⟩
def vL(w w':World)(wd:ByteArray)(args:List Tk)(f:Fm)(e:Ending):Prop:=
 Below w.heap.size w w'/\ ∃ao an ac p,e=xm (.agg #[xj wd,xa ao an ac,xk p])/\w'.ownsRow w.heap.size 9 1 (xa ao an ac) args.length (kE args)/\IsG w' f p
theorem oP{e size:Nat}(h:w.ownsRow base e size v n xs): ∃ao an ac,v=xa ao an ac:=by
 obtain⟨_,h2|⟨g,cap,cur,hv,_⟩⟩:=h
 ·simp_all
 simp_all
theorem r7{e size:Nat}(h:w.ownsRow base e size v n xs)(I:Below w.heap.size w w'):w'.ownsRow base e size v n xs:=fL h I
theorem vC{b ty o:Nat}(hb:w.heap[b]? =some (xi c ty m))(hne:ty≠270)(hf:IsG w f p):IsG (w.setCell ⟨b,o,none⟩ v) f p:=
 hf.keep (fun q c' m' hq=>Mt _ _ _ _ (by show q≠b;rintro rfl;simp_all))
theorem Al(k:Nat)(h:k<=11)(a b c:Value)(w:World):(callFunc (kB k) #[a,b,c]).run prog w= .ok (.enter (kB k) #[a,b,c]) w:=by
 rcases D3 (show k<12 from zo) with rfl|rfl|rfl|rfl|rfl|rfl|rfl|rfl|rfl|rfl|rfl|rfl<;>kernel_rfl
theorem IK{k:Nat}(h:k<=1)(b I:ByteArray)(n J:Nat):i' k a b n=i' k a I J:=by
 have:k=0\/k=1:=zo;rcases this with rfl|rfl<;>rfl
theorem IL{k:Nat}(h:2<=k/\k<=3)(b I:ByteArray)(n:Nat):i' k a b n=i' k a I n:=by
 have:k=2\/k=3:=zo;rcases this with rfl|rfl<;>rfl
theorem F1{k:Nat}(h:4<=k/\k<=11)(n I:Nat):i' k a b n=i' k a b I:=by
 rcases D3 (show k<12 from zo) with rfl|rfl|rfl|rfl|rfl|rfl|rfl|rfl|rfl|rfl|rfl|rfl
 all_goals trivial
theorem BR(w:World)(r:Rl)(R g ac:Nat)(xx:Tk)(x:Tk)(hk:w.heap[R]? =some (my r.word (some ⟨g,0,none⟩) 1 ac xx))(ho:w.ownsRow 0 201 3 (xa (some ⟨g,0,none⟩) 1 ac) 1 (gK [x]))(hx:x.k=2)(hn:gR r.word.s.toList<=1)(hz: ∀t∈[x],t.s.size<=400):
  Calls prog 118 #[xk (some ⟨R,0,none⟩)] w fun e w'=>vL w w' r.word.s [x] (i' (gR r.word.s.toList) x.s ByteArray.empty 0) e:=by
 have aW:=fa hz;clear hz;have HO:=fa ho;obtain⟨-,ay⟩:=nG (L:=[x]) ho;obtain⟨g',aX,aY,aK,ak⟩:=ay zp;cases aX;have HCUR:=fa ak;have HK:=fa hk;have aM:=fh hk;have hgl:g<w.heap.size:=by obtain⟨cur,h1,_⟩:=ak;exact fh h1
 unfold my at hk;have kc:=cell_of_blk hk;have e3:((x.k:Int)==3)=false:=iE (c:=3) zo;have HN:=fa hn;clear hx hn;clear ho ay ak hk aY aK;go_in;go_wp2
 go_loopw [4,14] (fun tm i wr=> ∃(z:Int) (p0 p1:Option Addr) (tv:Int),i=xd xh z/\tm=xd xh tv/\Below w.heap.size w wr/\wr.heap[w.heap.size]? =some (xi #[xj ⟨#[]⟩,xa none 0 0,xk none] 144 (0,0))/\wr.heap[w.heap.size+1]? =some (xi #[xk p0,xk p1] 257 (0,0))/\((z=0/\tv=0)\/(z=1/\tv=0/\IsG wr (gV x.s) p0))) (fun _ i _=>(1 - intOf i).toNat)
 ·exact zm52
 clear kc;obtain⟨z,p0,p1,tv,rfl,rfl,hbel,hrb,ai,a6⟩:=hrel;have HB:=fa hbel;have aF:=fa hrb;have aD:=fa ai;have a8:=hbel.size;have aP:=fh hrb;have aJ:=fh ai;have aC:=(hbel.block _ aM).trans HK;have aN:R<wr.heap.size:=zo;have hgl2:g<wr.heap.size:=zo;unfold my at aC;have kc:=cell_of_blk aC;have au:=cell_of_blk ai;have aA:=fi ai;have aB: ∃cur,wr.heap[g]? =some (xi cur 201 (0,0))/\cur.toList.take ([x].length * 3)=gK [x]:=by
  exact zm98
 clear hbel hrb ai aC;rcases a6 with⟨rfl,rfl⟩|⟨rfl,rfl,hG0⟩
 ·skip
  obtain⟨c0,c1,c2⟩:=l5 (j:=0) aB rfl;clear aB;go_wp2_with fail;refine(mY x.s).mono ?_;rintro e w3 ⟨v,rfl,hv,av⟩;have HV:=fa (hv 0);have ax:=(av.block w.heap.size zs).trans ((Mr _ _ _ aP).trans aF);have I:=(av.block (w.heap.size+1) zs).trans ((Mr _ _ _ aJ).trans aD);have aH:=fa ax;have aw:=fa I;have aV:=fa ((HB.alloc zo _).trans (av.mono zs));have hal3:=fh I;clear au aA;have au:=cell_of_blk I;have aA:=fi I;clear hv av ax I c0 c1 c2;go_wp2
  go_roundw
  ·refine⟨1,v,p1,0,by first|rfl|go_num,rfl,aV.setCell (by show w.heap.size<=w.heap.size+1;omega) _,(Mt _ _ _ _ (by show w.heap.size≠w.heap.size+1;omega)).trans aH,fj aw 0 _,MC ⟨rfl,rfl,vC aw zd HV⟩⟩
  simp[intOf]
 have ag:=fa hG0;clear hG0;clear au aA aB;go_wp2_with fail;refine(rN r.word.s).mono ?_;rintro e w2 ⟨ae,b,hbb,aR,hcase⟩;obtain⟨aO,rfl⟩:gR r.word.s.toList<=11/\e=_:=by
  exact zm122
 have J:=(ae.block _ aN).trans ((HB.block _ aM).trans HK);have aq:=(ae.block _ aP).trans aF;have ad:=(ae.block _ aJ).trans aD;have aE:=fa (HB.trans (ae.mono a8));have ag:=fa (ag.later ae);clear ae aR hcase kc;have hkl3:=fh J;have aQ:=fh aq;have hal3:=fh ad;have HKR2:=fa J;have aG:=fa aq;have HAB2:=fa ad;unfold my at J;have kc:=cell_of_blk J;have au:=cell_of_blk ad;clear J aq ad;generalize hNo:gR r.word.s.toList=no at *;have HNOE:=fa hNo;clear hNo;go_wp2_with fail;refine wp_region_held_drew (S:=fun w'=>w'.cell? ⟨R,1,none⟩=some (xj r.word.s)/\w'.cell? ⟨R,3,none⟩=some (xa (some ⟨g,0,none⟩) 1 ac)/\w'.cell? ⟨w2.heap.size,2,none⟩=some (.func (.func (kB no)) #[] #[])/\w'.cell? ⟨w.heap.size+1,0,none⟩=some (xk p0)/\w'.cell? ⟨w.heap.size+1,1,none⟩=some (xk p1)) zk ?_ (fun hHeld=> ?_)
 ·exact zm35
 apply zt1 0 (xk (some ⟨R,0,none⟩)) hHeld;apply zt1 1 (xk (some ⟨R,0,none⟩)) hHeld;apply zt1 2 (xk (some ⟨R,0,none⟩)) hHeld;apply zt1 3 (xk (some ⟨R,1,none⟩)) hHeld;apply zt1 4 (xj r.word.s) hHeld;apply zt1 5 (xk (some ⟨R,0,none⟩)) hHeld;apply zt1 6 (xk (some ⟨R,0,none⟩)) hHeld;apply zt1 7 (xk (some ⟨R,3,none⟩)) hHeld;apply zt1 8 (xa (some ⟨g,0,none⟩) 1 ac) hHeld;apply zt1 10 (xk (some ⟨w2.heap.size,2,none⟩)) hHeld;apply zt1 11 (.func (.func (kB no)) #[] #[]) hHeld;apply zt1 12 (xk (some ⟨w.heap.size+1,0,none⟩)) hHeld;apply zt1 13 (xk p0) hHeld;apply zt1 14 (xk (some ⟨w.heap.size+1,1,none⟩)) hHeld;apply zt1 15 (xk p1) hHeld;apply zt1 16 (xd xh (0:Int)) hHeld;apply zrH 9;intro K hK;go_simp;refine(qG [x] (some ⟨g,0,none⟩) 1 ac (fL (r7 HO aE) (gz.drew)) zp aW).mono ?_;rintro e w6 ⟨v6,rfl,aa,U⟩;obtain⟨o6,n6,k6,a7⟩:=oP aa;subst a7;have aI:w6.cell? ⟨R,1,none⟩=some (xj r.word.s)/\w6.cell? ⟨R,3,none⟩=some (xa (some ⟨g,0,none⟩) 1 ac)/\w6.cell? ⟨w2.heap.size,2,none⟩=some (.func (.func (kB no)) #[] #[])/\w6.cell? ⟨w.heap.size+1,0,none⟩=some (xk p0)/\w6.cell? ⟨w.heap.size+1,1,none⟩=some (xk p1):=
  ⟨(bcell3 U _ _ zs).trans hHeld.1,(bcell3 U _ _ zs).trans hHeld.2.1,(bcell3 U _ _ zp).trans hHeld.2.2.1,(bcell3 U _ _ zs).trans hHeld.2.2.2.1,(bcell3 U _ _ zs).trans hHeld.2.2.2.2⟩
 refine hK _ _ aI (fun hHeld=> ?_);clear hK K aI;have aj:=((Mw w2.heap.size w2).alloc (Mu _) (xi #[xj (rF no),xa (some ⟨lU b no,0,none⟩) (jT no) (jT no),.func (.func (kB no)) #[] #[]] 265)).drew.trans (U.mono zp);have ag:=fa (ag.later aj);have ar:=(aj.block _ aQ).trans aG;have HB6:=fa (aE.trans (aj.mono zo));have HO6:=fa (ig aa (show w.heap.size<=_ from zs));have HRB6:=fa ar;have hrl6:=fh ar;have hz6:=aj.size;clear U aa aj ar;have cf:=Al no aO;apply zrH 17;intro K hK;go_simp;refine(tV no aO x.s ByteArray.empty 0 p0 p1 ag (fun h=>absurd h (by have:=HN.out;omega)) zp).mono ?_;rintro e w7 ⟨p7,rfl,hG7,hb7⟩;have hS7:w7.cell? ⟨R,1,none⟩=some (xj r.word.s)/\w7.cell? ⟨R,3,none⟩=some (xa (some ⟨g,0,none⟩) 1 ac)/\w7.cell? ⟨w2.heap.size,2,none⟩=some (.func (.func (kB no)) #[] #[])/\w7.cell? ⟨w.heap.size+1,0,none⟩=some (xk p0)/\w7.cell? ⟨w.heap.size+1,1,none⟩=some (xk p1):=
  ⟨(bcell3 hb7 _ _ zo).trans hHeld.1,(bcell3 hb7 _ _ zo).trans hHeld.2.1,(bcell3 hb7 _ _ (Ms _ _ hHeld.2.2.1)).trans hHeld.2.2.1,(bcell3 hb7 _ _ zo).trans hHeld.2.2.2.1,(bcell3 hb7 _ _ zo).trans hHeld.2.2.2.2⟩
 exact zm3
theorem BU(w:World)(r:Rl)(J g ac:Nat)(xx:Tk)(x y:Tk)(hk:w.heap[J]? =some (my r.word (some ⟨g,0,none⟩) 2 ac xx))(ho:w.ownsRow 0 201 3 (xa (some ⟨g,0,none⟩) 2 ac) 2 (gK [x,y]))(d:UInt8)(hx:x.k=2)(hy:y.k=3)(hd:y.s=⟨#[d]⟩)(aA:48<=d.toNat)(aB:d.toNat<=57)(hn:2<=gR r.word.s.toList/\gR r.word.s.toList<=3)(hz: ∀t∈[x,y],t.s.size<=400):
  Calls prog 118 #[xk (some ⟨J,0,none⟩)] w fun e w'=>vL w w' r.word.s [x,y] (i' (gR r.word.s.toList) x.s ByteArray.empty (d.toNat - 48)) e:=by
 have aL:=fa hz;clear hz;have HO:=fa ho;obtain⟨-,ar⟩:=nG (L:=[x,y]) ho;obtain⟨g',aN,aO,az,aj⟩:=ar zp;cases aN;have HCUR:=fa aj;have HK:=fa hk;have aD:=fh hk;have hgl:g<w.heap.size:=by obtain⟨cur,h1,_⟩:=aj;exact fh h1
 unfold my at hk;have kc:=cell_of_blk hk;have e3:((x.k:Int)==3)=false:=iE (c:=3) zo;have f3:((y.k:Int)==3)=true:=mu (c:=3) hy;have aw:=fa (fun w=>wG y d w hd aA aB);have aM:d.toNat - 48<=9:=zo;have HN:=fa hn;clear hx hn hy hd aA aB;clear ho ar aj hk aO az;go_in;go_wp2
 go_loopw [4,14] (fun tm i wr=> ∃(z:Int) (p0 p1:Option Addr) (tv:Int),i=xd xh z/\tm=xd xh tv/\Below w.heap.size w wr/\wr.heap[w.heap.size]? =some (xi #[xj ⟨#[]⟩,xa none 0 0,xk none] 144 (0,0))/\wr.heap[w.heap.size+1]? =some (xi #[xk p0,xk p1] 257 (0,0))/\((z=0/\tv=0)\/(z=1/\tv=0/\IsG wr (gV x.s) p0)\/(z=2/\tv=((d.toNat - 48:Nat):Int)/\IsG wr (gV x.s) p0))) (fun _ i _=>(2 - intOf i).toNat)
 ·exact zm52
 clear kc;obtain⟨z,p0,p1,tv,rfl,rfl,hbel,hrb,ag,aP⟩:=hrel;have HB:=fa hbel;have HRB:=fa hrb;have HAB:=fa ag;have aR:=hbel.size;have hrl:=fh hrb;have hal:=fh ag;have au:=(hbel.block _ aD).trans HK;have aE:J<wr.heap.size:=zo;have hgl2:g<wr.heap.size:=zo;unfold my at au;have kc:=cell_of_blk au;have abc:=cell_of_blk ag;have abf:=fi ag;have hcr: ∃cur,wr.heap[g]? =some (xi cur 201 (0,0))/\cur.toList.take ([x,y].length * 3)=gK [x,y]:=by
  exact zm98
 clear hbel hrb ag au;rcases aP with⟨rfl,rfl⟩|⟨rfl,rfl,hG0⟩|⟨rfl,rfl,hG0⟩
 ·exact zm33
 ·skip
  have R:=fa hG0;clear hG0;obtain⟨c0,c1,c2⟩:=l5 (j:=1) hcr rfl;clear hcr;go_wp2_with fail;refine(aw _).mono ?_;rintro e w3 ⟨rfl,hb3⟩;have hrb3:=(hb3.block w.heap.size zs).trans ((Mr _ _ _ hrl).trans HRB);have hab3:=(hb3.block (w.heap.size+1) zs).trans ((Mr _ _ _ hal).trans HAB);have HRB3:=fa hrb3;have HAB3:=fa hab3;have HB3:=fa ((HB.alloc zo _).trans (hb3.mono zs));have aK:=fa (R.later (gz.trans (hb3.mono zp)));clear hb3 hrb3 hab3 c0 c1 c2;go_wp2
  go_roundw
  ·exact⟨2,p0,p1,_,by first|rfl|go_num,rfl,HB3,HRB3,HAB3,MC (MC ⟨rfl,rfl,aK⟩)⟩
  simp[intOf]
 have R:=fa hG0;clear hG0;clear abc abf hcr;go_wp2_with fail;refine(rN r.word.s).mono ?_;rintro e w2 ⟨ae,b,hbb,aH,hcase⟩;obtain⟨aF,rfl⟩:gR r.word.s.toList<=11/\e=_:=by
  exact zm122
 have I:=(ae.block _ aE).trans ((HB.block _ aD).trans HK);have ak:=(ae.block _ hrl).trans HRB;have ad:=(ae.block _ hal).trans HAB;have av:=fa (HB.trans (ae.mono aR));have R:=fa (R.later ae);clear ae aH hcase kc;have hkl3:=fh I;have aG:=fh ak;have hal3:=fh ad;have HKR2:=fa I;have ax:=fa ak;have HAB2:=fa ad;unfold my at I;have kc:=cell_of_blk I;have abc:=cell_of_blk ad;clear I ak ad;generalize hNo:gR r.word.s.toList=no at *;have HNOE:=fa hNo;clear hNo;go_wp2_with fail;refine wp_region_held_drew (S:=fun w'=>w'.cell? ⟨J,1,none⟩=some (xj r.word.s)/\w'.cell? ⟨J,3,none⟩=some (xa (some ⟨g,0,none⟩) 2 ac)/\w'.cell? ⟨w2.heap.size,2,none⟩=some (.func (.func (kB no)) #[] #[])/\w'.cell? ⟨w.heap.size+1,0,none⟩=some (xk p0)/\w'.cell? ⟨w.heap.size+1,1,none⟩=some (xk p1)) zk ?_ (fun hHeld=> ?_)
 ·exact zm35
 apply zt1 0 (xk (some ⟨J,0,none⟩)) hHeld;apply zt1 1 (xk (some ⟨J,0,none⟩)) hHeld;apply zt1 2 (xk (some ⟨J,0,none⟩)) hHeld;apply zt1 3 (xk (some ⟨J,1,none⟩)) hHeld;apply zt1 4 (xj r.word.s) hHeld;apply zt1 5 (xk (some ⟨J,0,none⟩)) hHeld;apply zt1 6 (xk (some ⟨J,0,none⟩)) hHeld;apply zt1 7 (xk (some ⟨J,3,none⟩)) hHeld;apply zt1 8 (xa (some ⟨g,0,none⟩) 2 ac) hHeld;apply zt1 10 (xk (some ⟨w2.heap.size,2,none⟩)) hHeld;apply zt1 11 (.func (.func (kB no)) #[] #[]) hHeld;apply zt1 12 (xk (some ⟨w.heap.size+1,0,none⟩)) hHeld;apply zt1 13 (xk p0) hHeld;apply zt1 14 (xk (some ⟨w.heap.size+1,1,none⟩)) hHeld;apply zt1 15 (xk p1) hHeld;apply zt1 16 (xd xh (((d.toNat - 48:Nat):Int):Int)) hHeld;apply zrH 9;intro K hK;go_simp;refine(qG [x,y] (some ⟨g,0,none⟩) 2 ac (fL (r7 HO av) (gz.drew)) zp aL).mono ?_;rintro e w6 ⟨v6,rfl,aa,U⟩;obtain⟨o6,n6,k6,aQ⟩:=oP aa;subst aQ;have ay:w6.cell? ⟨J,1,none⟩=some (xj r.word.s)/\w6.cell? ⟨J,3,none⟩=some (xa (some ⟨g,0,none⟩) 2 ac)/\w6.cell? ⟨w2.heap.size,2,none⟩=some (.func (.func (kB no)) #[] #[])/\w6.cell? ⟨w.heap.size+1,0,none⟩=some (xk p0)/\w6.cell? ⟨w.heap.size+1,1,none⟩=some (xk p1):=
  ⟨(bcell3 U _ _ zs).trans hHeld.1,(bcell3 U _ _ zs).trans hHeld.2.1,(bcell3 U _ _ zp).trans hHeld.2.2.1,(bcell3 U _ _ zs).trans hHeld.2.2.2.1,(bcell3 U _ _ zs).trans hHeld.2.2.2.2⟩
 refine hK _ _ ay (fun hHeld=> ?_);clear hK K ay;have ai:=((Mw w2.heap.size w2).alloc (Mu _) (xi #[xj (rF no),xa (some ⟨lU b no,0,none⟩) (jT no) (jT no),.func (.func (kB no)) #[] #[]] 265)).drew.trans (U.mono zp);have R:=fa (R.later ai);have aq:=(ai.block _ aG).trans ax;have HB6:=fa (av.trans (ai.mono zo));have HO6:=fa (ig aa (show w.heap.size<=_ from zs));have HRB6:=fa aq;have hrl6:=fh aq;have hz6:=ai.size;clear U aa ai aq;have cf:=Al no aF;apply zrH 17;intro K hK;go_simp;refine(tV no aF x.s ByteArray.empty (d.toNat - 48) p0 p1 R (fun h=>absurd h (by have:=HN.out;omega)) aM).mono ?_;rintro e w7 ⟨p7,rfl,hG7,hb7⟩;have hS7:w7.cell? ⟨J,1,none⟩=some (xj r.word.s)/\w7.cell? ⟨J,3,none⟩=some (xa (some ⟨g,0,none⟩) 2 ac)/\w7.cell? ⟨w2.heap.size,2,none⟩=some (.func (.func (kB no)) #[] #[])/\w7.cell? ⟨w.heap.size+1,0,none⟩=some (xk p0)/\w7.cell? ⟨w.heap.size+1,1,none⟩=some (xk p1):=
  ⟨(bcell3 hb7 _ _ zo).trans hHeld.1,(bcell3 hb7 _ _ zo).trans hHeld.2.1,(bcell3 hb7 _ _ (Ms _ _ hHeld.2.2.1)).trans hHeld.2.2.1,(bcell3 hb7 _ _ zo).trans hHeld.2.2.2.1,(bcell3 hb7 _ _ zo).trans hHeld.2.2.2.2⟩
 exact zm3
theorem BV(w:World)(r:Rl)(J g ac:Nat)(xx:Tk)(x y:Tk)(hk:w.heap[J]? =some (my r.word (some ⟨g,0,none⟩) 2 ac xx))(ho:w.ownsRow 0 201 3 (xa (some ⟨g,0,none⟩) 2 ac) 2 (gK [x,y]))(hx:x.k=2)(hy:y.k=2)(hn:4<=gR r.word.s.toList/\gR r.word.s.toList<=11)(hz: ∀t∈[x,y],t.s.size<=400):
  Calls prog 118 #[xk (some ⟨J,0,none⟩)] w fun e w'=>vL w w' r.word.s [x,y] (i' (gR r.word.s.toList) x.s y.s 0) e:=by
 have aJ:=fa hz;clear hz;have HO:=fa ho;obtain⟨-,au⟩:=nG (L:=[x,y]) ho;obtain⟨g',aK,aL,az,ak⟩:=au zp;cases aK;have HCUR:=fa ak;have HK:=fa hk;have aB:=fh hk;have hgl:g<w.heap.size:=by obtain⟨cur,h1,_⟩:=ak;exact fh h1
 unfold my at hk;have kc:=cell_of_blk hk;have e3:((x.k:Int)==3)=false:=iE (c:=3) zo;have f3:((y.k:Int)==3)=false:=iE (c:=3) zo;have HN:=fa hn;clear hx hn hy;clear ho au ak hk aL az;go_in;go_wp2
 go_loopw [4,14] (fun tm i wr=> ∃(z:Int) (p0 p1:Option Addr) (tv:Int),i=xd xh z/\tm=xd xh tv/\Below w.heap.size w wr/\wr.heap[w.heap.size]? =some (xi #[xj ⟨#[]⟩,xa none 0 0,xk none] 144 (0,0))/\wr.heap[w.heap.size+1]? =some (xi #[xk p0,xk p1] 257 (0,0))/\((z=0/\tv=0)\/(z=1/\tv=0/\IsG wr (gV x.s) p0)\/(z=2/\tv=0/\IsG wr (gV x.s) p0/\IsG wr (gV y.s) p1))) (fun _ i _=>(2 - intOf i).toNat)
 ·exact zm52
 clear kc;obtain⟨z,p0,p1,tv,rfl,rfl,hbel,hrb,aj,aM⟩:=hrel;have HB:=fa hbel;have HRB:=fa hrb;have HAB:=fa aj;have aO:=hbel.size;have hrl:=fh hrb;have hal:=fh aj;have av:=(hbel.block _ aB).trans HK;have aC:J<wr.heap.size:=zo;have hgl2:g<wr.heap.size:=zo;unfold my at av;have kc:=cell_of_blk av;have abc:=cell_of_blk aj;have abf:=fi aj;have hcr: ∃cur,wr.heap[g]? =some (xi cur 201 (0,0))/\cur.toList.take ([x,y].length * 3)=gK [x,y]:=by
  exact zm98
 clear hbel hrb aj av;rcases aM with⟨rfl,rfl⟩|⟨rfl,rfl,hG0⟩|⟨rfl,rfl,hG0,hG1⟩
 ·exact zm33
 ·skip
  have R:=fa hG0;clear hG0;obtain⟨c0,c1,c2⟩:=l5 (j:=1) hcr rfl;clear hcr;go_wp2_with fail;refine(mY y.s).mono ?_;rintro e w3 ⟨v,rfl,hv,hb3⟩;have HV:=fa (hv 0);have hrb3:=(hb3.block w.heap.size zs).trans ((Mr _ _ _ hrl).trans HRB);have hab3:=(hb3.block (w.heap.size+1) zs).trans ((Mr _ _ _ hal).trans HAB);have HRB3:=fa hrb3;have HAB3:=fa hab3;have HB3:=fa ((HB.alloc zo _).trans (hb3.mono zs));have aI:=fa (R.later (gz.trans (hb3.mono zp)));have hal3:=fh hab3;clear abc abf;have abc:=cell_of_blk hab3;have abf:=fi hab3;clear hv hb3 hrb3 hab3 c0 c1 c2;go_wp2
  go_roundw
  ·exact⟨2,p0,v,0,by first|rfl|go_num,rfl,HB3.setCell (by show w.heap.size<=w.heap.size+1;omega) _,(Mt _ _ _ _ (by show w.heap.size≠w.heap.size+1;omega)).trans HRB3,fj HAB3 1 _,MC (MC ⟨rfl,rfl,vC HAB3 zd aI,vC HAB3 zd HV⟩)⟩
  simp[intOf]
 have R:=fa hG0;have ai:=fa hG1;clear hG0 hG1;clear abc abf hcr;go_wp2_with fail;refine(rN r.word.s).mono ?_;rintro e w2 ⟨U,b,hbb,aF,hcase⟩;obtain⟨aD,rfl⟩:gR r.word.s.toList<=11/\e=_:=by
  exact zm122
 have I:=(U.block _ aC).trans ((HB.block _ aB).trans HK);have aq:=(U.block _ hrl).trans HRB;have ae:=(U.block _ hal).trans HAB;have aw:=fa (HB.trans (U.mono aO));have R:=fa (R.later U);have ai:=fa (ai.later U);clear U aF hcase kc;have hkl3:=fh I;have aE:=fh aq;have hal3:=fh ae;have HKR2:=fa I;have ax:=fa aq;have HAB2:=fa ae;unfold my at I;have kc:=cell_of_blk I;have abc:=cell_of_blk ae;clear I aq ae;generalize hNo:gR r.word.s.toList=no at *;have HNOE:=fa hNo;clear hNo;go_wp2_with fail;refine wp_region_held_drew (S:=fun w'=>w'.cell? ⟨J,1,none⟩=some (xj r.word.s)/\w'.cell? ⟨J,3,none⟩=some (xa (some ⟨g,0,none⟩) 2 ac)/\w'.cell? ⟨w2.heap.size,2,none⟩=some (.func (.func (kB no)) #[] #[])/\w'.cell? ⟨w.heap.size+1,0,none⟩=some (xk p0)/\w'.cell? ⟨w.heap.size+1,1,none⟩=some (xk p1)) zk ?_ (fun hHeld=> ?_)
 ·exact zm35
 apply zt1 0 (xk (some ⟨J,0,none⟩)) hHeld;apply zt1 1 (xk (some ⟨J,0,none⟩)) hHeld;apply zt1 2 (xk (some ⟨J,0,none⟩)) hHeld;apply zt1 3 (xk (some ⟨J,1,none⟩)) hHeld;apply zt1 4 (xj r.word.s) hHeld;apply zt1 5 (xk (some ⟨J,0,none⟩)) hHeld;apply zt1 6 (xk (some ⟨J,0,none⟩)) hHeld;apply zt1 7 (xk (some ⟨J,3,none⟩)) hHeld;apply zt1 8 (xa (some ⟨g,0,none⟩) 2 ac) hHeld;apply zt1 10 (xk (some ⟨w2.heap.size,2,none⟩)) hHeld;apply zt1 11 (.func (.func (kB no)) #[] #[]) hHeld;apply zt1 12 (xk (some ⟨w.heap.size+1,0,none⟩)) hHeld;apply zt1 13 (xk p0) hHeld;apply zt1 14 (xk (some ⟨w.heap.size+1,1,none⟩)) hHeld;apply zt1 15 (xk p1) hHeld;apply zt1 16 (xd xh (0:Int)) hHeld;apply zrH 9;intro K hK;go_simp;refine(qG [x,y] (some ⟨g,0,none⟩) 2 ac (fL (r7 HO aw) (gz.drew)) zp aJ).mono ?_;rintro e w6 ⟨v6,rfl,ad,aa⟩;obtain⟨o6,n6,k6,aN⟩:=oP ad;subst aN;have ay:w6.cell? ⟨J,1,none⟩=some (xj r.word.s)/\w6.cell? ⟨J,3,none⟩=some (xa (some ⟨g,0,none⟩) 2 ac)/\w6.cell? ⟨w2.heap.size,2,none⟩=some (.func (.func (kB no)) #[] #[])/\w6.cell? ⟨w.heap.size+1,0,none⟩=some (xk p0)/\w6.cell? ⟨w.heap.size+1,1,none⟩=some (xk p1):=
  ⟨(bcell3 aa _ _ zs).trans hHeld.1,(bcell3 aa _ _ zs).trans hHeld.2.1,(bcell3 aa _ _ zp).trans hHeld.2.2.1,(bcell3 aa _ _ zs).trans hHeld.2.2.2.1,(bcell3 aa _ _ zs).trans hHeld.2.2.2.2⟩
 refine hK _ _ ay (fun hHeld=> ?_);clear hK K ay;have ag:=((Mw w2.heap.size w2).alloc (Mu _) (xi #[xj (rF no),xa (some ⟨lU b no,0,none⟩) (jT no) (jT no),.func (.func (kB no)) #[] #[]] 265)).drew.trans (aa.mono zp);have R:=fa (R.later ag);have ai:=fa (ai.later ag);have ar:=(ag.block _ aE).trans ax;have HB6:=fa (aw.trans (ag.mono zo));have HO6:=fa (ig ad (show w.heap.size<=_ from zs));have HRB6:=fa ar;have hrl6:=fh ar;have hz6:=ag.size;clear aa ad ag ar;have cf:=Al no aD;apply zrH 17;intro K hK;go_simp;refine(tV no aD x.s y.s 0 p0 p1 R (fun _=>ai) zp).mono ?_;rintro e w7 ⟨p7,rfl,hG7,hb7⟩;have hS7:w7.cell? ⟨J,1,none⟩=some (xj r.word.s)/\w7.cell? ⟨J,3,none⟩=some (xa (some ⟨g,0,none⟩) 2 ac)/\w7.cell? ⟨w2.heap.size,2,none⟩=some (.func (.func (kB no)) #[] #[])/\w7.cell? ⟨w.heap.size+1,0,none⟩=some (xk p0)/\w7.cell? ⟨w.heap.size+1,1,none⟩=some (xk p1):=
  ⟨(bcell3 hb7 _ _ zo).trans hHeld.1,(bcell3 hb7 _ _ zo).trans hHeld.2.1,(bcell3 hb7 _ _ (Ms _ _ hHeld.2.2.1)).trans hHeld.2.2.1,(bcell3 hb7 _ _ zo).trans hHeld.2.2.2.1,(bcell3 hb7 _ _ zo).trans hHeld.2.2.2.2⟩
 exact zm3
def C8(r:Rl):Prop:=
 (gR r.word.s.toList<=1/\ ∃x,r.args=[x]/\x.k=2)\/
 ((2<=gR r.word.s.toList/\gR r.word.s.toList<=3)/\ ∃x y,r.args=[x,y]/\x.k=2/\y.k=3/\ ∃d:UInt8,y.s=⟨#[d]⟩/\48<=d.toNat/\d.toNat<=57)\/
 ((4<=gR r.word.s.toList/\gR r.word.s.toList<=11)/\ ∃x y,r.args=[x,y]/\x.k=2/\y.k=2)
theorem zA(w:World)(r:Rl)(U:Nat)(ao:Option Addr)(an ac:Nat)(xx:Tk)(hk:w.heap[U]? =some (my r.word ao an ac xx))(ho:w.ownsRow 0 201 3 (xa ao an ac) r.args.length (gK r.args))(hc:r.call=true)(h:C8 r)(hz: ∀t∈r.args,t.s.size<=400):
  Calls prog 118 #[xk (some ⟨U,0,none⟩)] w fun e w'=>vL w w' r.word.s r.args (gL r) e:=by
 obtain⟨J,R⟩:=nG ho;unfold gL;rw[if_pos hc];rcases h with⟨hn,x,ha,hx⟩|⟨hn,x,y,ha,hx,hy,d,hd,hd1,hd2⟩|⟨hn,x,y,ha,hx,hy⟩
 ·obtain⟨g,hg,_⟩:=R za;subst hg;rw[ha] at ho J|-;have I:=J;subst I;rw[IK hn (mq [x] 1) ByteArray.empty (kv (mq [x] 1)) 0];exact BR w r U g ac xx x hk ho hx hn (ha▸hz)
 ·obtain⟨g,hg,_⟩:=R za;subst hg;rw[ha] at ho J|-;have I:=J;subst I;have aa:kv (mq [x,y] 1)=d.toNat - 48:=by show kv y.s=_;rw[hd];rfl
  rw[aa,IL hn (mq [x,y] 1) ByteArray.empty];exact BU w r U g ac xx x y hk ho d hx hy hd hd1 hd2 hn (ha▸hz)
 obtain⟨g,hg,_⟩:=R za;subst hg;rw[ha] at ho J|-;have I:=J;subst I;rw[F1 hn (kv (mq [x,y] 1)) 0];exact BV w r U g ac xx x y hk ho hx hy hn (ha▸hz)
def KB(w w':World):Prop:= ∀(b:Nat) (c:Array Value) (ty:Nat) (m:Nat × Nat),w.heap[b]? =some (xi c ty m)->(ty=9\/ty=270)->w'.heap[b]? =some (xi c ty m)
theorem KB.trans(h:KB w w1)(J:KB w1 w2):KB w w2:=fun b c ty m R I=>J b c ty m (h b c ty m R I) I
theorem KB.below(h:Below w.heap.size w w'):KB w w':=fun b _ _ _ I _=>(h.block b (fh I)).trans I
theorem KB.grown{row:Option Nat}(h:w.grownBy w' row)(hr: ∀k,row=some k->¬ TyAt w k 9/\¬ TyAt w k 270):KB w w':=fun b c ty m I U=>
 (h.block b (fh I) (by
  intro e;obtain⟨J,R⟩:=hr b e.symm;rcases U with rfl|rfl
  ·exact J ⟨c,m,I⟩
  exact R ⟨c,m,I⟩)).trans I
theorem KB.set{b ty:Nat}(I:w.heap[b]? =some (xi c ty m))(J:ty≠9)(R:ty≠270)(o:Nat)(v:Value):KB w (w.setCell ⟨b,o,none⟩ v):=
 KB.grown (fK w b o v) (fun k e=>by cases e;exact⟨lR I J,lR I R⟩)
theorem KB.row(ho:w.ownsRow base 144 3 v n xs)(hg:w.grownBy w' v.ownBlock):KB w w':=
 KB.grown hg (fun k e=>by
  obtain⟨_,c,m,I⟩:=qh ho e;exact⟨lR I zp,lR I zp⟩)
theorem KB.owns(h:KB w w'){size:Nat}(ho:w.ownsRow base 9 size v n xs):w'.ownsRow base 9 size v n xs:=by
 exact zm120
theorem KB.isG(h:KB w w'){v:Option Addr}(hf:IsG w f v):IsG w' f v:=
 hf.keep (fun b c m I=>(h b c _ m I (MC rfl)).trans I.symm)
def BuR(w:World)(r:Rl)(wd:ByteArray)(ao:Option Addr)(an ac:Nat)(p:Option Addr):Prop:=
 IsG w (gL r) p/\(if r.call=true then wd=r.word.s/\w.ownsRow 0 9 1 (xa ao an ac) r.args.length (kE r.args) else wd=ByteArray.empty)
theorem BuR.keep(h:KB w w')(hr:BuR w r wd ao an ac p):BuR w' r wd ao an ac p:=by
 obtain⟨J,I⟩:=hr;refine⟨h.isG J, ?_⟩;by_cases hc:r.call=true
 ·rw[if_pos hc] at I|-;exact⟨I.1,h.owns I.2⟩
 rw[if_neg hc] at I|-;omega
def BuP(w:World):List Rl->List Value->Prop
 |[],cs=>cs=[]
 |r::rs,cs=> ∃wd ao an ac p rest,cs=xj wd:: xa ao an ac:: xk p::rest/\BuR w r wd ao an ac p/\BuP w rs rest
theorem BuP.keep(h:KB w w'): ∀{rs:List Rl} {cs:List Value},BuP w rs cs->BuP w' rs cs
 |[],_,h1=>h1
 |_::_,_,⟨wd,ao,an,ac,p,rest,e,hr,hrs⟩=>⟨wd,ao,an,ac,p,rest,e,hr.keep h,BuP.keep h hrs⟩
theorem BuP.snoc: ∀{rs:List Rl} {cs:List Value} {r:Rl} {wd:ByteArray} {ao:Option Addr} {an ac:Nat} {p:Option Addr},BuP w rs cs->BuR w r wd ao an ac p->BuP w (rs++[r]) (cs++[xj wd,xa ao an ac,xk p])
 |[],_,_,wd,ao,an,ac,p,h,hr=>by cases h;exact⟨wd,ao,an,ac,p,[],rfl,hr,rfl⟩
 |_::_,_,_,wd',ao',an',ac',p',⟨wd,ao,an,ac,p,rest,e,h1,h2⟩,hr=>⟨wd,ao,an,ac,p,rest++[xj wd',xa ao' an' ac',xk p'],za,h1,BuP.snoc h2 hr⟩
theorem BuP.at: ∀{rs:List Rl} {cs:List Value} (k:Nat) {r:Rl} {rr:List Rl},BuP w rs cs->rs.drop k=r::rr-> ∃wd ao an ac p,cs[k * 3]? =some (xj wd)/\cs[k * 3+1]? =some (xa ao an ac)/\cs[k * 3+2]? =some (xk p)/\BuR w r wd ao an ac p
 |[],_,_,_,_,_,h=>by simp at h
 |_::_,_,0,_,_,⟨wd,ao,an,ac,p,rest,e,h1,_⟩,h=>by cases h;subst e;exact⟨wd,ao,an,ac,p,rfl,rfl,rfl,h1⟩
 |_::_,_,k+1,_,_,⟨_,_,_,_,_,rest,e,_,h2⟩,h=>by
  obtain⟨wd,ao,an,ac,p,g0,g1,g2,g3⟩:=BuP.at k h2 (by simpa using h);subst e;have e0:(k+1) * 3=k * 3+3:=zo;refine⟨wd,ao,an,ac,p, ?_, ?_, ?_,g3⟩
  ·simp_all
  ·simp_all
  simp_all
theorem Tryz.infoRu:(prog.info? 144).map (fun i=>(i.zero,i.size,i.bytes))=some (some (.agg #[xj ⟨#[]⟩,xa none 0 0,xk none]),3,48):=zk
def Kh(w w':World)(al:List Tk)(rs:List Rl)(e:Ending):Prop:=
 Below w.heap.size w w'/\ ∃a1 a2 a3 m1 m2 m3 cells,e=xm (.agg #[xa a1 a2 a3,xa m1 m2 m3])/\w'.ownsRow 0 9 1 (xa a1 a2 a3) al.length (kE al)/\w'.ownsRow 0 144 3 (xa m1 m2 m3) rs.length cells/\BuP w' rs cells
structure BS (w wr:World) (mb:Nat) (al:List Tk) (rs:List Rl) (a1:Option Addr) (a2 a3:Nat) (o1:Option Addr) (n1 k1:Nat) (o2:Option Addr) (n2 k2:Nat) (m1:Option Addr) (m2 m3:Nat) (cells:List Value):Prop where
 low:Below w.heap.size w wr
 sx:wr.heap[w.heap.size]? =some (kN o1 n1 k1 o2 n2 k2)
 rx:wr.heap[w.heap.size+1]? =some (xi #[xa none 0 0,xa none 0 0] 78 (0,0))
 mx:wr.heap[mb]? =some (xi #[xa a1 a2 a3,xa m1 m2 m3] 78 (0,0))
 ac:wr.ownsRow w.heap.size 9 1 (xa a1 a2 a3) al.length (kE al)
 ru:wr.ownsRow w.heap.size 144 3 (xa m1 m2 m3) rs.length cells
 bp:BuP wr rs cells
theorem BS.later{cells:List Value}(h:BS w wr mb al rs a1 a2 a3 o1 n1 k1 o2 n2 k2 m1 m2 m3 cells)(I:Below wr.heap.size wr wr'):BS w wr' mb al rs a1 a2 a3 o1 n1 k1 o2 n2 k2 m1 m2 m3 cells:=
 ⟨h.low.trans (I.mono h.low.size),(I.block _ (fh h.sx)).trans h.sx,(I.block _ (fh h.rx)).trans h.rx,(I.block _ (fh h.mx)).trans h.mx,fL h.ac I,fL h.ru I,h.bp.keep (KB.below I)⟩
theorem BS.add{cells:List Value}(h:BS w wr mb al rs a1 a2 a3 o1 n1 k1 o2 n2 k2 m1 m2 m3 cells)
  (hmb:w.heap.size+1<mb)(hr:BuR wr r wd ao an ac p)(hg:wr.grownBy w2 (xa m1 m2 m3).ownBlock)(ho:w2.ownsRow w.heap.size 144 3 (xa q1 q2 q3) (rs.length+1) (cells++[xj wd,xa ao an ac,xk p])):
  BS w (w2.setCell ⟨mb,1,none⟩ (xa q1 q2 q3)) mb al (rs++[r]) a1 a2 a3 o1 n1 k1 o2 n2 k2 q1 q2 q3 (cells++[xj wd,xa ao an ac,xk p]):=by
 have J:=(hg.block mb (fh h.mx) (fun e=>gp h.ru e.symm h.mx zp)).trans h.mx;have I:KB wr (w2.setCell ⟨mb,1,none⟩ (xa q1 q2 q3)):=(KB.row h.ru hg).trans (KB.set J zp zp _ _);refine⟨(h.low.grown hg h.low.size (fun k R=>(gG h.ru k R).1)).setCell (by show w.heap.size<=mb;omega) _, ?_, ?_,fj J 1 _,I.owns h.ac, ?_,BuP.snoc (h.bp.keep I) (hr.keep I)⟩
 ·exact(Mt _ _ _ _ (by show w.heap.size≠mb;omega)).trans ((hg.block _ (fh h.sx) (fun e=>gp h.ru e.symm h.sx zp)).trans h.sx)
 ·exact(Mt _ _ _ _ (by show w.heap.size+1≠mb;omega)).trans ((hg.block _ (fh h.rx) (fun e=>gp h.ru e.symm h.rx zp)).trans h.rx)
 rw[List.length_append];exact gq ho (fK _ _ _ _) (MC (fun e=>gp ho e J zp))
theorem Ew(al:List Tk)(rs:List Rl)(o1:Option Addr)(n1 k1:Nat)(o2:Option Addr)(n2 k2:Nat)(cells:List Value)(ha:w.ownsRow 0 201 3 (xa o1 n1 k1) al.length (gK al))(hr:w.ownsRow 0 205 6 (xa o2 n2 k2) rs.length cells)(hp:RulesP w rs cells)(hg: ∀r∈rs,r.call=true->C8 r)(a8:al.length<=401)(U:rs.length<=401)(aT: ∀t∈al,t.s.size<=400)(aU: ∀r∈rs,∀t∈r.args,t.s.size<=400):
  Calls prog 71 #[.agg #[xa o1 n1 k1,xa o2 n2 k2]] w fun e w'=>Kh w w' al rs e:=by
 obtain⟨m0,hm0,hmz0,hmz1,hmz2⟩:=info_parts Tryz.infoRu;obtain⟨bc,av⟩:=C2 hr;have hn2a:n2<=rs.length:=zo;have hn2b:rs.length<=n2:=zo;have HA:=fa ha;have aY:=fa aT;have a6:=fa aU;clear aT aU;have aC:=fa av;have HP:=fa hp;have aW:=fa hg;clear ha hr hp hg bc av;go_in;go_wp2_with fail;refine(qG al o1 n1 k1 (fL HA (gz.alloc zp _)) a8 aY).mono ?_;rintro e w1 ⟨v1,rfl,ag,az⟩;obtain⟨a1,a2,a3,bf⟩:=oP ag;subst bf;have ax:w1.heap[w.heap.size]? =some (kN o1 n1 k1 o2 n2 k2):=(az.block _ zs).trans ((Mr _ _ _ zp).trans (ft _ _));have aw:w1.heap[w.heap.size+1]? =some (xi #[xa none 0 0,xa none 0 0] 78 (0,0)):=(az.block _ zp).trans (fk _ _ _ zp);have au:=(gz.alloc zp _).trans (az.mono zs);have hmb:=fh aw;have HBS:Hid (BS w (w1.alloc (xi #[xa a1 a2 a3,xa none 0 0] 78)) w1.heap.size al [] a1 a2 a3 o1 n1 k1 o2 n2 k2 none 0 0 []):=
  ⟨au.alloc zo _,(Mr _ _ _ zo).trans ax,(Mr _ _ _ hmb).trans aw,ft _ _,(ig ag zs).alloc _,MD _ _ _ _,rfl⟩
 have hsl1:w.heap.size<w1.heap.size:=zo;have sc:=fun o=>cell_of_blk (show w1.heap[w.heap.size]? =some (xi #[xa o1 n1 k1,xa o2 n2 k2] 128 (0,0)) from ax) o
 clear ag az ax aw au;generalize hmbe:w1.heap.size=mb at *;go_wp2_with fail;clear sc;subst hmbe
 go_loopw [13] (fun i wr=> ∃(k:Nat) (m1:Option Addr) (m2 m3:Nat) (cs:List Value),i=xd xh (k:Int)/\k<=rs.length/\BS w wr w1.heap.size al (rs.take k) a1 a2 a3 o1 n1 k1 o2 n2 k2 m1 m2 m3 cs) (fun i _=>rs.length - (intOf i).toNat)
 ·exact⟨0,none,0,0,[],rfl,Mx _,HBS⟩
 clear HBS;obtain⟨k,m1,m2,m3,cs,rfl,hkk,J⟩:=hrel;have HBS:=fa J;have aR:=J.low.size;have hml:=fh J.mx;have mc:=cell_of_blk J.mx;have mf:=fi J.mx;generalize w1.heap.size=mb at *;by_cases hlt:k<rs.length
 ·obtain⟨r,rr,ht⟩: ∃r rr,rs.drop k=r::rr:=by
   cases hd:rs.drop k with
   |nil=>have:=congrArg List.length hd;simp at this;omega
   |cons r rr=>simp
  obtain⟨g,bd,hle,aJ,cur,aD,ad⟩:=aC zo;unfold maxLen at aJ;have aM:=fh aD;obtain⟨kk,s,fp,no,nn,nc,cp,g0,g1,g2,g3,g4,g5,g6⟩:=tJ k HP ht;have ae:=(J.low.block _ aM).trans aD;have d0:=(cell_of_blk ae (k * 6)).trans (jL (k:=k * 6) (o:=0) ad zo g0);have d1:=(cell_of_blk ae (k * 6+1)).trans (jL ad zo g1);have d2:=(cell_of_blk ae (k * 6+2)).trans (jL ad zo g2);have d3:=(cell_of_blk ae (k * 6+3)).trans (jL ad zo g3);have d4:=(cell_of_blk ae (k * 6+4)).trans (jL ad zo g4);have d5:=(cell_of_blk ae (k * 6+5)).trans (jL ad zo g5);have hgl:g<wr.heap.size:=zo;subst bd;have aH:=fa g6;have ak:=fa J.low;have HTS:=fa (nK ht);have aQ:(rs.take k).length=k:=zs;have HTL:=fa aQ;have ba:(k:Int)<(n2:Int):=zo;have aX:=fa (aW r (My (by rw[ht];simp)));have a7:=fa (a6 r (My (by rw[ht];simp)));clear J ht aD ad ae cur g0 g1 g2 g3 g4 g5 g6 aQ;by_cases hcall:r.call=true
  ·have U:=aH.out;unfold RsIs at U;rw[if_pos hcall] at U;obtain⟨⟨kb,ao,an,ac,xx,aE,aF,bh,aI⟩, -⟩:=U;subst aE;have aG:=fa (fun W (hW:Below w.heap.size w W)=>zA W r kb ao an ac xx ((hW.block _ (fh aF)).trans aF) (fL aI hW) hcall (aX hcall) a7);have aj:=fa hcall;clear aF bh aI hcall;go_wp2_with fail;refine wp_region_held_drew (S:=fun w'=>w'.cell? ⟨wr.heap.size,5,none⟩=some (xk (some ⟨kb,0,none⟩))) zk ?_ (fun hHeld=> ?_)
   ·simp
   apply zt1 0 (xk (some ⟨mb,1,none⟩)) hHeld;apply zt1 2 (xk (some ⟨wr.heap.size,5,none⟩)) hHeld;apply zt1 3 (xk (some ⟨kb,0,none⟩)) hHeld;refine zrH2 1 4 (fun K hK=> ?_) fun K hK=> ?_
   ·go_simp;refine hK _ _ hHeld (fun hHeld=> ?_);clear hK K;apply zrH 4;intro K hK;go_simp;refine(aG _ ((ak.alloc aR _).drew)).mono ?_;rintro e w3 ⟨aa,co,cn,cc,cp3,rfl,R,aq⟩;refine hK _ _ ((bcell3 aa _ _ zp).trans hHeld) (fun hHeld=> ?_);clear hK K;have ar:=((Mw wr.heap.size wr).alloc (Mu _) (xi #[xd xh kk,xj s,xd xh r.pl,xk fp,xa no nn nc,xk (some ⟨kb,0,none⟩)] 205)).drew.trans (aa.mono zp);have I:=HBS.later ar;have HBS3:=fa I;have mc3:=cell_of_blk I.mx;have hml3:=fh I.mx;have HBR3:Hid (BuR w3 r r.word.s co cn cc cp3):=⟨aq,by rw[if_pos aj.out];exact⟨rfl,ig R (Mx _)⟩⟩;have aS:=I.low.size;have ai:wr.heap.size<w3.heap.size:=Ms _ _ hHeld;clear aa R aq ar I mc mf;apply zrH 5;intro K hK;go_simp;refine hK _ _ (by show(MF _ _).cell? _=_;rw[Mz _ _ _ ai];exact hHeld) (fun hHeld=> ?_);exact zm4
   go_simp;refine(aG _ ((ak.alloc aR _).drew)).mono ?_;rintro e w3 ⟨aa,co,cn,cc,cp3,rfl,R,aq⟩;refine hK _ _ ((bcell3 aa _ _ zp).trans hHeld) (fun hHeld=> ?_);clear hK K;have ar:=((Mw wr.heap.size wr).alloc (Mu _) (xi #[xd xh kk,xj s,xd xh r.pl,xk fp,xa no nn nc,xk (some ⟨kb,0,none⟩)] 205)).drew.trans (aa.mono zp);have I:=HBS.later ar;have HBS3:=fa I;have mc3:=cell_of_blk I.mx;have hml3:=fh I.mx;have HBR3:Hid (BuR w3 r r.word.s co cn cc cp3):=⟨aq,by rw[if_pos aj.out];exact⟨rfl,ig R (Mx _)⟩⟩;have aS:=I.low.size;have ai:wr.heap.size<w3.heap.size:=Ms _ _ hHeld;clear aa R aq ar I mc mf;refine zrH2 1 5 (fun K hK=> ?_) fun K hK=> ?_
   ·go_simp;refine hK _ _ hHeld (fun hHeld=> ?_);clear hK K;apply zrH 5;intro K hK;go_simp;refine hK _ _ (by show(MF _ _).cell? _=_;rw[Mz _ _ _ ai];exact hHeld) (fun hHeld=> ?_);exact zm4
   go_simp;refine hK _ _ (by show(MF _ _).cell? _=_;rw[Mz _ _ _ ai];exact hHeld) (fun hHeld=> ?_);clear hK K;apply zrH 1;intro K hK;go_simp;refine hK _ _ hHeld (fun hHeld=> ?_);exact zm4
  have U:=aH.out;unfold RsIs at U;rw[if_neg hcall] at U;obtain⟨aE,aK, -⟩:=U;subst aE;have HBR3:Hid (BuR wr r ⟨#[]⟩ none 0 0 fp):=⟨by unfold gL;rw[if_neg hcall];exact aK.later ak,by rw[if_neg hcall];rfl⟩;clear aK hcall
  go_wp2_with (at_builtin;go_must (refine wpList_append_own _ rfl _ _ 76 rfl w.heap.size 144 m0 (.agg #[xj ⟨#[]⟩,xa none 0 0,xk none]) 3 48 underlying76 hm0 hmz0 hmz1 hmz2 rfl zd _ k cs rfl ?c0 ⟨wr.heap.size+1,0,none⟩ 1 1 [xj ⟨#[]⟩,xa none 0 0,xk fp] rfl rfl ?c1 ?c2 ?c3 ?c4 ?c5 ?_))
  case c0=>have:=(HBS.ru.alloc (xi #[xd xh kk,xj s,xd xh r.pl,xk fp,xa no nn nc,xk none] 205)).alloc (xi #[xj ⟨#[]⟩,xa none 0 0,xk fp] 144);rw[HTL.out] at this;exact this
  case c1=>
   intro j u hj
   match j,hj with
   |0,hj=>simp at hj;subst hj;simp[MG]
   |1,hj=>simp at hj;subst hj;simp[MG]
   |2,hj=>simp at hj;subst hj;simp[MG]
   |j+3,hj=>simp at hj
  case c2=>intro u hu;simp at hu;rcases hu with rfl|rfl|rfl<;>rfl
  case c3=>unfold maxLen;omega
  case c4=>omega
  case c5=>simp;omega
  intro v4 w4 hown4 hgrow4 _;obtain⟨q1,q2,q3,bg⟩:=oP hown4;subst bg;have I:=HBS.later (((Mw _ _).alloc (Mu _) (xi #[xd xh kk,xj s,xd xh r.pl,xk fp,xa no nn nc,xk none] 205)).alloc zp (xi #[xj ⟨#[]⟩,xa none 0 0,xk fp] 144));have hbs4:=I.add hmb (HBR3.keep (KB.below (gz.alloc zp _))) hgrow4 (by rw[HTL.out];exact hown4);have hm4:=(hgrow4.block mb zs (fun e=>gp I.ru e.symm I.mx zp)).trans I.mx;clear mc mf;have mc4:=cell_of_blk hm4;have mf4:=fi hm4;have hml4:=fh hm4;have HBS4:=fa hbs4;clear hbs4 I hown4 hgrow4 hm4;go_wp2
  go_roundw
  ·exact⟨k+1,_,_,_,_,by go_num,zo,by rw[HTS.out];exact HBS4⟩
  simp[intOf];omega
 have a':rs.length<=k:=zo;have ba:¬ (k:Int)<(n2:Int):=zo;have aB:Hid (BS w wr mb al rs a1 a2 a3 o1 n1 k1 o2 n2 k2 m1 m2 m3 cs):=by have:=HBS.out;rw[List.take_of_length_le a'] at this;exact this
 have rc:=cell_of_blk J.rx;have rf:=fi J.rx;have hrl:=fh J.rx;clear J;go_wp2_with fail;have hb:=aB.out;have aL:((wr.setCell ⟨w.heap.size+1,0,none⟩ (xa a1 a2 a3)).setCell ⟨w.heap.size+1,1,none⟩ (xa m1 m2 m3)).heap[w.heap.size+1]? =some (xi #[xa a1 a2 a3,xa m1 m2 m3] 78 (0,0)):=fj (fj hb.rx 0 _) 1 _;have bm:=cell_of_blk aL;clear rc;refine bodyPost_ret (v:= .agg #[xa a1 a2 a3,xa m1 m2 m3]) (by simp[results,results71,go_sem,bm]) rfl ?_;have aN:=(KB.set hb.rx zp zp 0 (xa a1 a2 a3)).trans (KB.set (fj hb.rx 0 (xa a1 a2 a3)) zp zp 1 (xa m1 m2 m3));have aO:(xa m1 m2 m3).ownBlock≠some (w.heap.size+1):=fun e=>gp hb.ru e hb.rx zp
 exact⟨(hb.low.setCell zp _).setCell zp _,a1,a2,a3,m1,m2,m3,cs,rfl,ig (aN.owns hb.ac) (Mx _),ig (gq (gq hb.ru (fK _ _ _ _) (MC aO)) (fK _ _ _ _) (MC aO)) (Mx _),hb.bp.keep aN⟩
theorem infoStr:(prog.info? 9).map (fun i=>(i.zero,i.size,i.bytes))=some (some (xj ⟨#[]⟩),1,16):=zk
theorem G0:(prog.info? 9).map (·.size)=some 1:=zk
def beyond:Value:= xj ⟨#[98,101,121,111,110,100]⟩
structure LentB (w:World) (g:Nat) (tr:List ByteArray):Prop where
 blk: ∃cur,w.heap[g]? =some (xi cur 9 (0,0))/\cur.size=tr.length+8/\(∀(j:Nat) (x:ByteArray),tr[j]? =some x->cur[j]? =some (xj x))/\ ∀(j:Nat),tr.length<=j->j<tr.length+8->cur[j]? =some beyond
theorem LentB.lt{g:Nat}(h:LentB w g tr):g<w.heap.size:=by
 obtain⟨cur,I,_⟩:=h.blk;exact fh I
theorem LentB.txs{g:Nat}(h:LentB w g tr):TxS w (some ⟨g,0,none⟩) tr:=by
 exact zm144
def vH(tr:List ByteArray):List Value:=tr.map fun x=> xj x
theorem qp(tr:List ByteArray):(vH tr).length=tr.length:=by simp[vH]
theorem J1(h:tr[j]? =some x):(vH tr)[j]? =some (xj x):=by rw[vH,ME,h];rfl
theorem Iy(h:(vH tr)[j]? =some v): ∃x,tr[j]? =some x/\v=xj x:=by
 rw[vH,ME] at h;cases hx:tr[j]? with
 |none=>simp_all
 |some x=>simp_all
theorem I4(w:World)(I:Addr)(n c:Nat):(binOp .eql 25 (xa (some I) n c) (xa none 0 0)).run prog w= .ok (xn false) w:=Lib.run_eql_slice_some_nil w _ _ _ underlying25
theorem Av(w:World):(binOp .eql 25 (xa none 0 0) (xa none 0 0)).run prog w= .ok (xn true) w:=Lib.run_eql_slice_nil_nil w _ _ underlying25
theorem zE(w:World)(tr:List ByteArray)(ad:Addr)(c:Nat)(hT:TxS w (some ad) tr)(hn:tr.length<=8796093021952):
  Calls prog 94 #[xa (some ad) tr.length c] w fun e w'=> ∃g,e=xm (xa (some ⟨g,0,none⟩) tr.length (tr.length+8))/\w.heap.size<=g/\LentB w' g tr/\Below w.heap.size w w':=by
 have HT:=fa hT;clear hT;obtain⟨i0,aw,ay,az,aA⟩:=info_parts infoStr;have he:=fun W:World=>I4 W ad tr.length c
 go_in
 go_wp2_with (at_make;go_must (refine wpList_make_full _ rfl _ _ 25 rfl w.heap.size 9 i0 (xj ⟨#[]⟩) 1 underlying25 aw ay az xh xh _ _ (tr.length+8) rfl rfl (by first|rfl|omega) (by first|rfl|omega) (by rw[aA];omega) (by unfold maxLen;omega) (Mu _) ?_))
 intro w1 hown1 I;have ak: ∃cur,w1.heap[w.heap.size]? =some (xi cur 9 (0,0))/\cur.size=tr.length+8:=by
  exact zm103
 obtain⟨ai,aq,R⟩:=ak;have ae:Hid (Below w.heap.size w w1):=⟨I.os,I.tape,I.output,I.size,fun b hb=>I.block b hb (fun e=>by cases e)⟩;have U:=fa aq;have J:=fa R;clear hown1 I aq R;have aa: ∃w2,(Builtin.copy_ #[25,25] 3 #[xa (some ⟨w.heap.size,0,none⟩) (tr.length+8) (tr.length+8),xa (some ad) tr.length c]).run prog w1= .ok (xd xh (tr.length:Int)) w2/\Below w.heap.size w w2/\ ∃cur,w2.heap[w.heap.size]? =some (xi cur 9 (0,0))/\cur.size=tr.length+8/\ ∀(j:Nat) (x:ByteArray),tr[j]? =some x->cur[j]? =some (xj x):=by
  have hsz:=J.out;have hr:=run_copy_row (P:=prog) w1 25 25 3 9 w.heap.size 0 (tr.length+8) (tr.length+8) ad tr.length c ai 9 (vH tr) underlying25 G0 U (by rw[qp];simp)
   (fun j v hv=>by
    obtain⟨x,hx,rfl⟩:=Iy hv;obtain⟨b,off,h1,h2,h3⟩:=HT.later ae j x hx;cases h1;rw[Addr.add_lit];omega) (by rw[qp];omega) (fun v hv=>by
    obtain⟨x,_,rfl⟩:=List.mem_map.1 hv;rfl)
  refine⟨_,hr.trans (by rw[qp];rfl),below_setRow ae (Mu _) _,_,setRow_heap w1 w.heap.size _ _ _ _ U, ?_,fun j x hx=> ?_⟩
  ·simp[qp];omega
  have hj:j<tr.length:=by
   exact zm109
  simp only[List.take_zero,List.nil_append,List.getElem?_toArray];rw[List.getElem?_append_left (by rw[qp];omega)];exact J1 hx
 obtain⟨w2,hrun,aj,cur2,ar,hcs2,au⟩:=aa;have HB2:=fa aj;have HC2:=fa ar;have HV2:=fa au;clear U J aj ar au;go_wp2
 go_loopw [5] (fun x wr=> ∃(i:Nat) (cur:Array Value),tr.length<=i/\i<=tr.length+8/\x=xd xh i/\Hid (wr.heap[w.heap.size]? =some (xi cur 9 (0,0)))/\cur.size=tr.length+8/\Hid (∀(j:Nat) (x:ByteArray),tr[j]? =some x->cur[j]? =some (xj x))/\Hid (∀(j:Nat),tr.length<=j->j<i->cur[j]? =some beyond)/\Hid (Below w.heap.size w wr)) (fun x _=>tr.length+8 - (intOf x).toNat)
 ·exact zm168
 obtain⟨i,cur,hi1,hi2,rfl,HC,hcs,HV,HY,HB⟩:=hrel;by_cases hil:i<tr.length+8
 ·have hin:(i:Int)<(tr.length:Int)+8:=zo;have cc:=(cell_of_blk HC i).trans (Array.getElem?_eq_getElem zo);have cf:=fi HC i;generalize cur[i]=old at *;go_wp2
  go_roundw
  ·refine⟨i+1,cur.setIfInBounds i beyond,zo,zo,zf,fj HC i _,za,fa (fun j x hx=> ?_),fa (fun j h1 h2=> ?_),HB.grown (fK _ _ _ _) HB.size (fun b hb=>za)⟩
   ·have hj:j<tr.length:=by
     exact zm109
    rw[Array.getElem?_setIfInBounds_ne zo];exact HV j x hx
   exact zm164
  simp[intOf];omega
 exact zm104
end Go.Proofs.YtidakhhekofkoaaGreatDoor
