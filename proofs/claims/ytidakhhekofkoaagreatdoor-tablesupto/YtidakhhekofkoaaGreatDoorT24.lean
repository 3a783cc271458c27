/- The row of Tables, lifted, and its card, in the second form: for every script (of bulk 1048576 at most) each answer of Compile, Encode and Decode is the document's, with tables and lists that the caller writes into. -/
import Derived.Test.YtidakhhekofkoaaGreatDoorT23
set_option linter.all false
set_option maxRecDepth 100000
set_option maxHeartbeats 4000000
set_option maxHeartbeats 20000000
namespace Go.Proofs.YtidakhhekofkoaaGreatDoor
open Go.Proofs.Tryz
open Go.RowKit Go.Deep
open Value renaming slice -> xa, int -> xd, string -> xj, pointer -> xk, bool -> xn
open IntKind renaming i64 -> xh
open Obj renaming cells -> xi
open Ending renaming returned -> xm
open List renaming mem_append_right -> Mr, mem_cons_of_mem -> Ms, mem_cons_self -> Mt, getElem?_eq_getElem -> Mx, mem_of_getElem? -> My, mem_append_left -> Mz, length_map -> ME, range -> MF, getElem_mem -> MJ, getElem?_map -> ML, flatMap_cons -> MM, drop_eq_getElem_cons -> MN, cons_append -> MO, drop_of_length_le -> MQ, getElem?_zipWith -> MR, length_zipWith -> MT, getElem?_take -> MX, length_range -> MY, perm_middle -> M', nil_append -> Nb, append_nil -> Nc
open Nat renaming zero_le -> Mu, le_refl -> MG, le_trans -> MK, succ_mul -> MV
open Lib renaming pow10Tab -> Mw, TabIs -> MC
open World renaming ownsRow_nil -> MD, cells?_some -> MZ, cell?_spot -> Na
open Or renaming inr -> MH, inl -> MI
open Go.RowKit.Below renaming heap_alloc -> MP
open And renaming intro -> MU
variable {zq:Prop}
variable {X xs ys R:List Th} {w w0 w' W:World} {lb na nf nn ac fc nc e n i N B base fuel:Nat} {ao fo o:Option Addr} {t:Tb} {rv cs:List Value} {vs:Nat->Option Value} {α β H:Type} {v:Value} {x y:Th} {nx:List (List Nat)} {r:List Nat} {ws' us':List Wb}
theorem zm21(h:zq:=by
 go_wp2_with fail;refine HC.out.mono ?_;clear HC;rintro e w1 ⟨rfl,hF⟩;have HF:=fa (hF.drop.more (show _<=N+206+m2 from zo));clear hF;go_wp2;go_ret;trivial
 ):zq:=h
theorem zm23(h:zq:=by
 have bc:=cell_of_blk HBB.out;clear c0 c5 c6 c7 c8 c9;rintro e w5 ⟨rfl,hw5⟩;have h5:=hw5.symm;clear hw5;subst h5;go_wp2_with fail;refine(HA2.out _ HBW.out).mono ?_;rintro e w5 ⟨rfl,hw5⟩;have h5:=hw5.symm;clear hw5;subst h5;go_wp2_with fail;refine(HA3.out _ HBW.out).mono ?_;rintro e w5 ⟨rfl,hw5⟩;have h5:=hw5.symm;clear hw5;subst h5;go_wp2_with fail;refine(HA4.out _ HBW.out).mono ?_;rintro e w5 ⟨rfl,hw5⟩;have h5:=hw5.symm;clear hw5;subst h5;go_wp2
 go_roundw
 ·exact⟨i+1,zo,zf,Kw HB.out HBW.out⟩
 simp[intOf];omega
 ):zq:=h
theorem zm177(h:zq:=by
 clear hk;go_wp2
 go_roundw
 ·exact⟨i+1,N,zo,zo,zf,HLG⟩
 simp[intOf];omega
 ):zq:=h
theorem zm178(h:zq:=by
 clear hk;go_wp2
 go_roundw
 ·exact⟨i+1,N,zo,zo,zf,HTA⟩
 simp[intOf];omega
 ):zq:=h
theorem yf(lb:Nat)(w0:World)(N:Nat)(hL:LG lb X w0 w N)(hG:GV w0)(aB:MC prog w0 "internal/strconv.uint64pow10" .u64 Mw)(aV:lb≠4)(hN:N<=800000000)(ao fo no:Option Addr)(na nf nn ac fc nc:Nat)(acts:List ByteArray)(fl:List Int)(rows:List (List Int))(vs:Nat->Option Value)(hR:RdT lb X w0 ao fo no na nf nn ac fc nc acts fl rows vs)(aJ:na<=ac):
  Calls prog 99 #[xk (some ⟨lb,0,none⟩),.agg #[xa ao na ac,xa fo nf fc,xa no nn nc]] w fun e w'=>e=xm (xn true)/\LG lb X w0 w' (N+nn+3):=by
 obtain⟨a,bs,js,rs,ws,us,hT,h1,h2,h3,h4⟩:=hL;have aI:=hT.tight.boxed 36 #[xa ao na ac,xa fo nf fc,xa no nn nc];have J:=(hR.at aJ aI (fun y hy=>Ms _ hy));have aD:Hid ((acts.length<=1100000/\fl.length<=1100000)/\(nn=rows.length/\ ∀r∈rows,r.length<=1100000)):=⟨⟨J.1.a.len.2.1,J.1.f.len.2.1⟩,J.1.r.len.1,J.1.r.len.2.2.2⟩;have aA:=fa J;have HR:=fa hR;have aR:=fa aI;have HG:=fa hG;have aS:=fa aB;have HQ:=fa (MU h1 (MU h2 (MU h3 h4)));have hNb:bs.length+js.length+rs.length<=800000000:=zo;have I:=fa (sv (w.alloc (xi #[xa ao na ac,xa fo nf fc,xa no nn nc] 36)) lb ao fo no na nf nn ac fc nc acts fl rows J.1.a J.1.f J.1.r);clear hT aI h1 h2 h3 h4 J hR hG aB;go_in;go_wp2_with fail;refine I.mono ?_;clear I;generalize w.alloc (xi #[xa ao na ac,xa fo nf fc,xa no nn nc] 36)=W0 at *;generalize w.heap.size=b0 at *;intro e w1 hq;obtain⟨qa,ma,qf,mf,qn,mn,Z,rfl,U,an,au⟩:=hq.one aA.1.r;have aw:=fa ((aR.holds U an).boxed 36 #[xa qa na ma,xa qf nf mf,xa qn nn mn]);have ag:=fa au;clear hq U an au aR;have aU:=fa (aw.lent (fun y hy=>Ms _ (Mz _ hy)) ag aD.1.1 aD.1.2 aD.2);have I:=fa (Ab aU (aw.gv HG));go_wp2_with fail;refine I.mono ?_;clear I aU;generalize w1.alloc (xi #[xa qa na ma,xa qf nf mf,xa qn nn mn] 36)=W1 at *;generalize w1.heap.size=b1 at *;rintro e w2 ⟨hE,U⟩;obtain⟨⟨s,f,rfl⟩,aj⟩:=hE.two;have ax:=fa (aw.later U);have ad:=fa aj;clear hE aj U aw;have k0:=(ax.keep (Ms _ (Mr _ (Mt ..)))).p;have p0:=cell_of_blk k0;clear k0;have I:=fa (yh (HR.at aJ ax (fun y hy=>Ms _ (Mr _ (Ms _ hy)))).1);go_wp2_with fail;refine I.mono ?_;clear I p0;rintro e w3 ⟨hE,U⟩;obtain rfl:=ad _ hE;have ae:=fa (ax.later U);clear hE ad U ax;have k0:=(ae.keep (Ms _ (Mr _ (Mt ..)))).p;have p0:=cell_of_blk k0;clear k0;have k1:=(ae.keep (Mt ..)).p;have p1:=cell_of_blk k1;clear k1;have aY:=(HR.at aJ ae (fun y hy=>Ms _ (Mr _ (Ms _ hy)))).2;have I:=fa (yb lb (iB b1 36 #[xa qa na ma,xa qf nf mf,xa qn nn mn]::iB b0 36 #[xa ao na ac,xa fo nf fc,xa no nn nc]::X) w0 w3 a bs js rs ws us ao fo no qa qf qn na nf nn ac fc nc ma mf mn acts fl rows vs Z (ae.permX List.perm_middle.symm) (HR.mono (fun y hy=>Ms _ (Ms _ hy))) zo aS aV (ag.move (fun nb av sp j e hj=>aA.1.r.plain e hj) (fun nb av e j hj=>(aY nb av e j hj).trans (aA.2 nb av e j hj).symm)));clear aY ag aA;go_wp2_with fail;refine I.mono ?_;clear I p0 p1 ae;rintro e w4 ⟨rfl,a',bj,bo,bw,hK,ak,aK,a6,a7⟩;obtain⟨tr,aF⟩:=ReT.read ak aK;obtain⟨il,aG⟩:=ReI.read ak a6;obtain⟨rl,aH⟩:=ReR.read ak a7;have aW:na<=ma:=by rcases aK with⟨_,e1,e2⟩|⟨_,_,_,_,e2,_⟩<;>omega
 have aa:Hid (LsZ w4 qa qf qn na nf nn ma mf mn ⟨tr,il,rl⟩):=⟨aF,aG,aH,aW⟩;have aE:=fa ak;have HK:=fa hK;have I:=fa (sv w4 lb qa qf qn na nf nn ma mf mn tr il rl aF aG aH);clear ak hK aF aG aH aW aK a6 a7;have k1:=(aE.keep (Mt ..)).p;have p1:=cell_of_blk k1;clear k1;go_wp2_with fail;refine I.mono ?_;clear I p1;intro e w5 hq;obtain⟨ra,ka,rf,kf,rn,kn,Y,rfl,U,an,au⟩:=hq.one aa.r;have ay:=fa ((aE.holds U an).boxed 36 #[xa ra na ka,xa rf nf kf,xa rn nn kn]);have aT:=fa (aa.later (Kw U (gz (o:= xi #[xa ra na ka,xa rf nf kf,xa rn nn kn] 36))));have aC:Hid ((tr.length<=1100000/\il.length<=1100000)/\(nn=rl.length/\ ∀r∈rl,r.length<=1100000)):=⟨⟨aa.a.len.2.1,aa.f.len.2.1⟩,aa.r.len.1,aa.r.len.2.2.2⟩;have ag:=fa au;clear hq U an au aE aa;have I:=fa (Ab aT (ay.gv HG));have k1:=(ay.keep (Ms _ (Mr _ (Mt ..)))).p;have p1:=cell_of_blk k1;clear k1;go_wp2_with fail;refine I.mono ?_;clear I aT p1;generalize w5.alloc (xi #[xa ra na ka,xa rf nf kf,xa rn nn kn] 36)=W5 at *;generalize w5.heap.size=b5 at *;rintro e w6 ⟨hE,U⟩;obtain⟨⟨s2,f2,rfl⟩,aj⟩:=hE.two;have az:=fa (ay.later U);have ad:=fa aj;clear hE aj U ay;have k5:=(az.keep (Mt ..)).p;have p5:=cell_of_blk k5;clear k5;have I:=fa (yh (az.lent (fun y hy=>Ms _ (Mz _ hy)) ag aC.1.1 aC.1.2 aC.2));go_wp2_with fail;refine I.mono ?_;clear I p5;rintro e w7 ⟨hE,U⟩;obtain rfl:=ad _ hE;have HL:Hid (LG lb X w0 w7 (N+nn+3)):=by
  have h7:=((az.later U).drop.dropL).drop.drop;obtain⟨h1,h2,h3,h4⟩:=HQ.out;obtain⟨_,_,_,_,_,_,k1,k2⟩:=HK.out;have:=h7.nb;exact⟨a',bj,bo,bw,ws,us,h7.more zo,k1.trans h1,k2.trans h2,h3,zo⟩
 clear hE ad U az HQ HK
 go_wp2_with (refine(pJ).mono ?_)
 rintro e w8 ⟨rfl,aq⟩;have hw:=aq.symm;clear aq;subst hw
 go_wp2_with (refine(pJ).mono ?_)
 rintro e w8 ⟨rfl,aq⟩;have hw:=aq.symm;clear aq;subst hw;go_wp2;go_ret;trivial
theorem CY:RdT lb X w0 none none none 0 0 0 0 0 0 [] [] [] (fun _=>none):=fun _ _ _=>⟨MI ⟨rfl,rfl,rfl,rfl⟩,MI ⟨rfl,rfl,rfl,rfl⟩,MI ⟨rfl,rfl,rfl,rfl⟩,fun _ _ h=>zp⟩
theorem JS{no:Option Addr}(hx:iU ⟨t,xa ao na ac,xa fo nf fc,xa no nn nc,rv⟩∈X)(hR:RightT t)(hn: ∃v:World,TbW v 0 (xa ao na ac) (xa fo nf fc) (xa no nn nc) t rv):
  RdT lb X w0 ao fo no na nf nn ac fc nc t.acts (zI t.fl) (t.nx.map zI) (fun j=>rv[j]?)/\na<=ac/\nn<=100:=by
 have U:=hR.small;have h1:=hR.n1;have h100:=hR.n100;have pos: ∀{v:World} {e n c k:Nat} {o:Option Addr} {xs:List Value},v.ownsRow 0 e 1 (xa o n c) k xs->0<k->n=k/\ ∃g,o=some ⟨g,0,none⟩:=fun h hk=>by
  obtain⟨_,⟨_,h0⟩|⟨g,cap,cur,hv,_⟩⟩:=h
  ·omega
  simp_all
 have ai:=hR.acts.n1;obtain⟨v,hv⟩:=hn;obtain⟨hi,e1,e2,e3⟩:=hv.read U;subst e1;subst e2;subst e3;refine⟨fun w' hb hX=> ?_,hi.ac,zo⟩;have ht:TbW w' 0 (xa ao t.acts.length ac) (xa fo t.fl.length fc) (xa no t.nx.length nc) t rv:=hX _ hx;have hI:=(ht.read U).1;obtain⟨_,ga,rfl⟩:=pos ht.acts ai;obtain⟨_,gf,rfl⟩:=pos ht.fl (by have:=hR.fl;omega);obtain⟨_,gn,rfl⟩:=pos ht.nx zo;have I: ∀j,j<t.nx.length->w'.cell? ⟨gn,0+j,none⟩=rv[j]? :=fun j J=>by
  obtain⟨g,q1,q2,q3⟩:=hD ht.nx J;simp_all
 refine⟨MH ⟨_,rfl,rfl,hI.acts,zo⟩,MH ⟨_,rfl,(lG _).symm,hI.fl,by have:=lG t.fl;omega⟩,MH ⟨gn,0,none,rfl,zp,zs,fun j r hr=> ?_⟩,fun nb noff e j J=>by cases e;simp_all⟩;rw[ML] at hr;cases J:t.nx[j]? with
 |none=>simp_all
 |some q=>
  rw[J] at hr;cases hr;have hjl:=(List.getElem?_eq_some_iff.1 J).1;obtain⟨g,c,k1,k2⟩:=ht.rows j q J;obtain⟨b,off,ro,rc,q1,q2,q3,q4⟩:=hI.nx j (zI q) (by show(t.nx.map zI)[j]? =_;simp_all);cases q1;rw[lG] at q3;have hc:=I j zo;rw[q3,k1] at hc;cases hc;refine⟨rfl,q2,_,_,_,q3,MH ⟨_,rfl,(lG _).symm,q4, ?_⟩⟩;have:=U.2.2.2 q (My J);rw[lG];omega
theorem IA(lb:Nat)(w0:World)(N:Nat)(hL:LG lb X w0 w N)(hG:GV w0)(I:MC prog w0 "internal/strconv.uint64pow10" .u64 Mw)(U:lb≠4)(hN:N<=700000000)(oa:Int)(os ot:ByteArray)(l1:Option Addr)(l2 l3:Nat)(g1:Option Addr)(g2 g3:Nat)(m1:Option Addr)(m2 m3:Nat)(acts:List ByteArray)(fl:List Int)(rows:List (List Int))(vs:Nat->Option Value)(hR:RdT lb X w0 l1 g1 m1 l2 g2 m2 l3 g3 m3 acts fl rows vs)(aa:l2<=l3):
  Calls prog 55 #[xk (some ⟨lb,0,none⟩),.agg #[xd xh 4,xd xh oa,xj os,xj ot,xa l1 l2 l3,xa g1 g2 g3,xa m1 m2 m3]] w fun e w'=>e=xm (xn true)/\LG lb X w0 w' (N+206+m2):=by
 have J:=hL.boxed 74 (#[xd xh 4,xd xh oa,xj os,xj ot,xa l1 l2 l3,xa g1 g2 g3,xa m1 m2 m3]);have HC:=fa (yf lb w0 N J hG I U zo l1 g1 m1 l2 g2 m2 l3 g3 m3 acts fl rows vs (hR.mono (fun y hy=>Ms _ hy)) aa);clear hL J hG I hR;go_in;exact zm21
theorem IC(lb:Nat)(w0:World)(N:Nat)(hL:LG lb X w0 w N)(U:GV w0)(J:MC prog w0 "internal/strconv.uint64pow10" .u64 Mw)(hlbg:lb≠4)(hN:N<=700000000)(oa:Int)(os ot:ByteArray)(l1:Option Addr)(l2 l3:Nat)(g1:Option Addr)(g2 g3:Nat)(m1:Option Addr)(m2 m3:Nat):
  Calls prog 55 #[xk (some ⟨lb,0,none⟩),.agg #[xd xh 6,xd xh oa,xj os,xj ot,xa l1 l2 l3,xa g1 g2 g3,xa m1 m2 m3]] w fun e w'=>e=xm (xn true)/\LG lb X w0 w' (N+206+m2):=by
 have I:=hL.boxed 74 (#[xd xh 6,xd xh oa,xj os,xj ot,xa l1 l2 l3,xa g1 g2 g3,xa m1 m2 m3]);have HC:=fa (CX lb w0 N I U zo os);clear hL I U J;go_in;exact zm21
theorem ID(lb:Nat)(w0:World)(N:Nat)(hL:LG lb X w0 w N)(hG:GV w0)(aa:MC prog w0 "internal/strconv.uint64pow10" .u64 Mw)(hlbg:lb≠4)(hN:N<=700000000)(oa:Int)(os J:ByteArray)(l1:Option Addr)(l2 l3:Nat)(g1:Option Addr)(g2 g3:Nat)(m1:Option Addr)(m2 m3:Nat)(hot:J.size<=70368744177664):
  Calls prog 55 #[xk (some ⟨lb,0,none⟩),.agg #[xd xh 7,xd xh oa,xj os,xj J,xa l1 l2 l3,xa g1 g2 g3,xa m1 m2 m3]] w fun e w'=>e=xm (xn true)/\LG lb X w0 w' (N+206+m2):=by
 have U:=hL.boxed 74 (#[xd xh 7,xd xh oa,xj os,xj J,xa l1 l2 l3,xa g1 g2 g3,xa m1 m2 m3]);have HL:=fa U;have HG:=fa hG;have HC:=fa (BY os (w.alloc (xi #[xd xh 7,xd xh oa,xj os,xj J,xa l1 l2 l3,xa g1 g2 g3,xa m1 m2 m3] 74)));clear hL U hG aa;go_in;go_wp2_with fail;refine HC.mono ?_;generalize w.alloc (xi #[xd xh 7,xd xh oa,xj os,xj J,xa l1 l2 l3,xa g1 g2 g3,xa m1 m2 m3] 74)=W at *;generalize w.heap.size=ob at *;rintro e w2 ⟨⟨b,rfl,hbz⟩,hb⟩;have I:=HL.later hb;have q2:=I.keep (Mt ..);have o3:=cell_of_blk q2 3;clear HC;have HC:=fa (CX lb w0 N I HG zo (b++J));clear hb I q2 HL;exact zm21
theorem IB(lb:Nat)(w0:World)(N:Nat)(hL:LG lb X w0 w N)(hG:GV w0)(ad:MC prog w0 "internal/strconv.uint64pow10" .u64 Mw)(ae:lb≠4)(hN:N<=700000000)(oa:Int)(os ot:ByteArray)(l1:Option Addr)(l2 l3:Nat)(g1:Option Addr)(g2 g3:Nat)(m1:Option Addr)(J m3:Nat):
  Calls prog 55 #[xk (some ⟨lb,0,none⟩),.agg #[xd xh 5,xd xh oa,xj os,xj ot,xa l1 l2 l3,xa g1 g2 g3,xa m1 J m3]] w fun e w'=>e=xm (xn true)/\LG lb X w0 w' (N+206+J):=by
 have an:=hL.boxed 74 (#[xd xh 5,xd xh oa,xj os,xj ot,xa l1 l2 l3,xa g1 g2 g3,xa m1 J m3]);have HL:=fa an;have HG:=fa hG;have aa:=fa ad;have U:=fa (sI os (w.alloc (xi #[xd xh 5,xd xh oa,xj os,xj ot,xa l1 l2 l3,xa g1 g2 g3,xa m1 J m3] 74)));clear hL an hG ad;go_in;go_wp2_with fail;refine U.mono ?_;clear U;generalize w.alloc (xi #[xd xh 5,xd xh oa,xj os,xj ot,xa l1 l2 l3,xa g1 g2 g3,xa m1 J m3] 74)=W at *;generalize w.heap.size=ob at *;intro e w2 hc;by_cases hx: ∃t,CR os 0 (some t)
 ·obtain⟨t,hx⟩:=hx;obtain⟨na,ea⟩: ∃n,n=t.acts.length:=⟨_,rfl⟩;obtain⟨nf,ef⟩: ∃n,n=t.fl.length:=⟨_,rfl⟩;obtain⟨nn,en⟩: ∃n,n=t.nx.length:=⟨_,rfl⟩;obtain⟨ao,fo,no,ac,fc,nc,rv,rfl,hW,hb⟩:=hc.tab (CR.un os) hx ea ef en;obtain⟨a,bs,js,rs,ws,us,hT,hr⟩:=HL.out;have I:LG lb (iB w2.heap.size 36 #[xa ao na ac,xa fo nf fc,xa no nn nc]::iU ⟨t,xa ao na ac,xa fo nf fc,xa no nn nc,rv⟩::iB ob 74 #[xd xh 5,xd xh oa,xj os,xj ot,xa l1 l2 l3,xa g1 g2 g3,xa m1 J m3]::X) w0 (w2.alloc (xi #[xa ao na ac,xa fo nf fc,xa no nn nc] 36)) N:=⟨a,bs,js,rs,ws,us,(hT.held (x:=⟨t,xa ao na ac,xa fo nf fc,xa no nn nc,rv⟩) hb hW).boxed 36 _,hr⟩;obtain⟨h1,h2,h3⟩:=JS (lb:=lb) (w0:=w0) (X:=iB w2.heap.size 36 #[xa ao na ac,xa fo nf fc,xa no nn nc]::iU ⟨t,xa ao na ac,xa fo nf fc,xa no nn nc,rv⟩::iB ob 74 #[xd xh 5,xd xh oa,xj os,xj ot,xa l1 l2 l3,xa g1 g2 g3,xa m1 J m3]::X) nX (CR.right hx) ⟨_,hW.low⟩;have U:=fa (yf lb w0 N I HG aa ae zo ao fo no na nf nn ac fc nc _ _ _ _ h1 h2);clear hc hx ea ef en hW hb hT hr I h1 h2 HL;go_wp2_with fail;refine U.mono ?_;clear U;rintro e w1 ⟨rfl,hF⟩;have HF:=fa (hF.drop.drop.drop.more (show _<=N+206+J from zo));clear hF;go_wp2;go_ret;trivial
 obtain⟨f,_,_,rfl,hb⟩:=hc.lost (fun t ht=>hx ⟨t,ht⟩);have I:=(HL.later hb).boxed 36 #[xa none 0 0,xa none 0 0,xa none 0 0];have U:=fa (yf lb w0 N I HG aa ae zo none none none 0 0 0 0 0 0 [] [] [] _ (CY) (MG _));clear hc hx hb I HL;go_wp2_with fail;refine U.mono ?_;clear U;rintro e w1 ⟨rfl,hF⟩;have HF:=fa (hF.drop.drop.more (show _<=N+206+J from zo));clear hF;go_wp2;go_ret;trivial
theorem KZ(lb:Nat)(X:List Th)(w0 w:World)(N:Nat)(hL:LG lb X w0 w N)(hG:GV w0)(J:MC prog w0 "internal/strconv.uint64pow10" .u64 Mw)(hlbg:lb≠4)(hN:N<=700000000)(U:Int)(os ot:ByteArray)(l1:Option Addr)(l2 l3:Nat)(g1:Option Addr)(g2 g3:Nat)(m1:Option Addr)(m2 m3:Nat):
  Calls prog 36 #[xk (some ⟨lb,0,none⟩),.agg #[xd xh 3,xd xh U,xj os,xj ot,xa l1 l2 l3,xa g1 g2 g3,xa m1 m2 m3]] w fun e w'=>e=xm (xn true)/\LG lb X w0 w' (N+206+m2):=by
 have I:=hL.boxed 74 (#[xd xh 3,xd xh U,xj os,xj ot,xa l1 l2 l3,xa g1 g2 g3,xa m1 m2 m3]);have HC:=fa (GC lb w0 N I hG zo U os ot l1 l2 l3 g1 g2 g3 m1 m2 m3);clear hL I hG J;go_in;exact zm21
theorem K1(lb:Nat)(X:List Th)(w0 w:World)(N:Nat)(hL:LG lb X w0 w N)(hG:GV w0)(I:MC prog w0 "internal/strconv.uint64pow10" .u64 Mw)(U:lb≠4)(hN:N<=700000000)(oa:Int)(os ot:ByteArray)(l1:Option Addr)(l2 l3:Nat)(g1:Option Addr)(g2 g3:Nat)(m1:Option Addr)(m2 m3:Nat)(acts:List ByteArray)(fl:List Int)(rows:List (List Int))(vs:Nat->Option Value)(hR:RdT lb X w0 l1 g1 m1 l2 g2 m2 l3 g3 m3 acts fl rows vs)(aa:l2<=l3):
  Calls prog 36 #[xk (some ⟨lb,0,none⟩),.agg #[xd xh 4,xd xh oa,xj os,xj ot,xa l1 l2 l3,xa g1 g2 g3,xa m1 m2 m3]] w fun e w'=>e=xm (xn true)/\LG lb X w0 w' (N+206+m2):=by
 have J:=hL.boxed 74 (#[xd xh 4,xd xh oa,xj os,xj ot,xa l1 l2 l3,xa g1 g2 g3,xa m1 m2 m3]);have HC:=fa (IA lb w0 N J hG I U zo oa os ot l1 l2 l3 g1 g2 g3 m1 m2 m3 acts fl rows vs (hR.mono (fun y hy=>Ms _ hy)) aa);clear hL J hG I hR;go_in;exact zm21
theorem K2(lb:Nat)(X:List Th)(w0 w:World)(N:Nat)(hL:LG lb X w0 w N)(hG:GV w0)(I:MC prog w0 "internal/strconv.uint64pow10" .u64 Mw)(U:lb≠4)(hN:N<=700000000)(oa:Int)(os ot:ByteArray)(l1:Option Addr)(l2 l3:Nat)(g1:Option Addr)(g2 g3:Nat)(m1:Option Addr)(m2 m3:Nat):
  Calls prog 36 #[xk (some ⟨lb,0,none⟩),.agg #[xd xh 5,xd xh oa,xj os,xj ot,xa l1 l2 l3,xa g1 g2 g3,xa m1 m2 m3]] w fun e w'=>e=xm (xn true)/\LG lb X w0 w' (N+206+m2):=by
 have J:=hL.boxed 74 (#[xd xh 5,xd xh oa,xj os,xj ot,xa l1 l2 l3,xa g1 g2 g3,xa m1 m2 m3]);have HC:=fa (IB lb w0 N J hG I U zo oa os ot l1 l2 l3 g1 g2 g3 m1 m2 m3);clear hL J hG I;go_in;exact zm21
theorem K3(lb:Nat)(X:List Th)(w0 w:World)(N:Nat)(hL:LG lb X w0 w N)(hG:GV w0)(I:MC prog w0 "internal/strconv.uint64pow10" .u64 Mw)(U:lb≠4)(hN:N<=700000000)(oa:Int)(os ot:ByteArray)(l1:Option Addr)(l2 l3:Nat)(g1:Option Addr)(g2 g3:Nat)(m1:Option Addr)(m2 m3:Nat):
  Calls prog 36 #[xk (some ⟨lb,0,none⟩),.agg #[xd xh 6,xd xh oa,xj os,xj ot,xa l1 l2 l3,xa g1 g2 g3,xa m1 m2 m3]] w fun e w'=>e=xm (xn true)/\LG lb X w0 w' (N+206+m2):=by
 have J:=hL.boxed 74 (#[xd xh 6,xd xh oa,xj os,xj ot,xa l1 l2 l3,xa g1 g2 g3,xa m1 m2 m3]);have HC:=fa (IC lb w0 N J hG I U zo oa os ot l1 l2 l3 g1 g2 g3 m1 m2 m3);clear hL J hG I;go_in;exact zm21
theorem K4(lb:Nat)(X:List Th)(w0 w:World)(N:Nat)(hL:LG lb X w0 w N)(hG:GV w0)(I:MC prog w0 "internal/strconv.uint64pow10" .u64 Mw)(U:lb≠4)(hN:N<=700000000)(oa:Int)(os ot:ByteArray)(l1:Option Addr)(l2 l3:Nat)(g1:Option Addr)(g2 g3:Nat)(m1:Option Addr)(m2 m3:Nat)(ad:ot.size<=70368744177664):
  Calls prog 36 #[xk (some ⟨lb,0,none⟩),.agg #[xd xh 7,xd xh oa,xj os,xj ot,xa l1 l2 l3,xa g1 g2 g3,xa m1 m2 m3]] w fun e w'=>e=xm (xn true)/\LG lb X w0 w' (N+206+m2):=by
 have J:=hL.boxed 74 (#[xd xh 7,xd xh oa,xj os,xj ot,xa l1 l2 l3,xa g1 g2 g3,xa m1 m2 m3]);have HC:=fa (ID lb w0 N J hG I U zo oa os ot l1 l2 l3 g1 g2 g3 m1 m2 m3 ad);clear hL J hG I;go_in;exact zm21
theorem By(lb:Nat)(w0 w:World)(N:Nat)(hL:LG lb X w0 w N)(hG:GV w0)(I:MC prog w0 "internal/strconv.uint64pow10" .u64 Mw)(J:lb≠4)(hN:N<=700000000)(U:Int)(oa:Int)(os ot:ByteArray)(l1:Option Addr)(l2 l3:Nat)(g1:Option Addr)(g2 g3:Nat)(m1:Option Addr)(m2 m3:Nat)(h3:3<=U)(h7:U<=7)(an:ot.size<=70368744177664)(acts:List ByteArray)(fl:List Int)(rows:List (List Int))(hR:RdT lb X w0 l1 g1 m1 l2 g2 m2 l3 g3 m3 acts fl rows vs)(ak:l2<=l3):
  Calls prog 36 #[xk (some ⟨lb,0,none⟩),.agg #[xd xh U,xd xh oa,xj os,xj ot,xa l1 l2 l3,xa g1 g2 g3,xa m1 m2 m3]] w fun e w'=>e=xm (xn true)/\LG lb X w0 w' (N+206+m2):=by
 have:U=3\/U=4\/U=5\/U=6\/U=7:=zo;rcases this with rfl|rfl|rfl|rfl|rfl
 ·exact KZ lb X w0 w N hL hG I J hN oa os ot l1 l2 l3 g1 g2 g3 m1 m2 m3
 ·exact K1 lb X w0 w N hL hG I J hN oa os ot l1 l2 l3 g1 g2 g3 m1 m2 m3 acts fl rows vs hR ak
 ·exact K2 lb X w0 w N hL hG I J hN oa os ot l1 l2 l3 g1 g2 g3 m1 m2 m3
 ·exact K3 lb X w0 w N hL hG I J hN oa os ot l1 l2 l3 g1 g2 g3 m1 m2 m3
 exact K4 lb X w0 w N hL hG I J hN oa os ot l1 l2 l3 g1 g2 g3 m1 m2 m3 an
theorem wV{C:α->List β}{k:Nat}(I: ∀x,(C x).length=k): ∀{l:List α} {i:Nat} {x:α},l[i]? =some x-> ∀m,m<k->(l.flatMap C)[i * k+m]? =(C x)[m]?
 |[],i,x,h,_,_=>by cases h
 |y::l,0,x,h,m,hm=>by
  cases h;rw[MM,Nat.zero_mul,Nat.zero_add,List.getElem?_append_left za]
 |y::l,i+1,x,h,m,hm=>by
  rw[MM,List.getElem?_append_right (by rw[I,MV];omega),I,show(i+1) * k+m - k=i * k+m by rw[MV];omega];exact wV I zv m hm
theorem wU{C:α->List Value}{k:Nat}(hC: ∀x,(C x).length=k){c:Nat}{l:List α}(ho:w.ownsRow 0 e k (xa o n c) n (l.flatMap C))(hn:n=l.length){x:α}(U:l[i]? =some x):
  ∃g,o=some ⟨g,0,none⟩/\g<w.heap.size/\ ∀m,m<k->w.cell? ⟨g,i * k+m,none⟩=(C x)[m]? :=by
 have hi:=(List.getElem?_eq_some_iff.1 U).1;obtain⟨_,⟨h1,h2⟩|⟨g,cap,cur,hv,_,I,hle,_,hcs,J⟩⟩:=ho
 ·omega
 cases hv;refine⟨g,rfl,fh I,fun m hm=> ?_⟩;have:i * k+k<=n * k:=by rw[<-MV];exact Nat.mul_le_mul_right k zo
 rw[cell_of_blk I,<-Array.getElem?_toList,<-wV hC U m hm,<-J,MX,if_pos zo]
theorem AllM.later{l:Value}(h:AllM w l v e)(J:Below w.heap.size w w'):AllM w' l v e:=by
 obtain⟨o,n,c,h1,h2,h3⟩:=h;refine⟨o,n,c,h1,h2,fun i hi=> ?_⟩;obtain⟨b,e1,⟨U,m,I⟩,e3⟩:=h3 i hi;exact⟨b,e1,⟨U,m,vW J I⟩,(bcell3 J _ _ (fh I)).trans e3⟩
theorem AllM.sl{l:Value}(h:AllM w l v e): ∃o n c,l=xa o n c:=by
 obtain⟨o,n,c,h1,_⟩:=h;simp_all
theorem s9(hL:LG lb X w0 w N)(hN:N<=900000000):
  Calls prog 38 #[xk (some ⟨lb,0,none⟩)] w fun e w'=>e=xm (xn true)/\Below w.heap.size w w':=by
 obtain⟨a,bs,js,rs,ws,us,hT,_⟩:=hL;obtain⟨e1,e2,e3⟩:=hT.tn;have aE:=hT.nb;have n1:a.tn<=900000000:=zo;have n2:a.im<=900000000:=zo;have n3:a.rn<=900000000:=zo;have HT:=fa hT;have E1:=fa e1;have E2:=fa e2;have E3:=fa e3;clear hT e1 e2 e3 aE;go_in;go_wp2
 go_loopw [3] (fun v wr=> ∃i:Nat,i<=a.tn/\v=xd xh i/\Hid (Below w.heap.size w wr)) (fun v _=>a.tn - (intOf v).toNat)
 ·exact⟨0,Mu _,rfl,Below.refl _ _⟩
 obtain⟨i,hi,rfl,HB⟩:=hrel;have J:=fa (HT.later HB);have c0:wr.cell? ⟨lb,2,none⟩=some (xa a.tO a.tn a.tc):=(cell_of_blk J.law.lw 2).trans rfl;rcases zc i a.tn with⟨hlt,hin⟩|⟨hlt,hin⟩
 ·obtain⟨b,U⟩: ∃b,bs[i]? =some b:=⟨_,Mx (by rw[<-E1.out];omega)⟩;have aa:=My U;obtain⟨g,ad,hg,hc⟩:=wU (C:=I3) (fun x=>rfl) (by rw[show bs.flatMap I3=nt bs from rfl,<-J.bv];exact J.law.tx) E1 U;have I:=(J.th.ok (kH b) (Ms _ (Mr _ (Mz _ (List.mem_map.2 ⟨b,aa,rfl⟩))))).p;obtain⟨bm,bl,ax,ay,az⟩:=b;have aw:=fa (fun W (h:Below wr.heap.size wr W)=>nQ (I.l.later h));have HA2:=fa (fun W (h:Below wr.heap.size wr W)=>nQ (I.g1.later h));have HA3:=fa (fun W (h:Below wr.heap.size wr W)=>nQ (I.g2.later h));have HA4:=fa (fun W (h:Below wr.heap.size wr W)=>nQ (I.g3.later h));obtain⟨o1,n1,k1,e1⟩:=AllM.sl I.l;replace e1:bl=_:=e1;obtain⟨o2,n2,k2,e2⟩:=AllM.sl I.g1;replace e2:ax=_:=e2;obtain⟨o3,n3,k3,e3⟩:=AllM.sl I.g2;replace e3:ay=_:=e3;obtain⟨o4,n4,k4,e4⟩:=AllM.sl I.g3;replace e4:az=_:=e4;subst e1 e2 e3 e4;rw[ad] at c0;have c5:wr.cell? ⟨g,i * 5,none⟩=some (xj bm):=hc 0 zp;have c6:wr.cell? ⟨g,i * 5+1,none⟩=some (xa o1 n1 k1):=hc 1 zp;have c7:wr.cell? ⟨g,i * 5+2,none⟩=some (xa o2 n2 k2):=hc 2 zd;have c8:wr.cell? ⟨g,i * 5+3,none⟩=some (xa o3 n3 k3):=hc 3 zd;have c9:wr.cell? ⟨g,i * 5+4,none⟩=some (xa o4 n4 k4):=hc 4 zd;have HBB:=fa (ft wr (xi #[xj bm,xa o1 n1 k1,xa o2 n2 k2,xa o3 n3 k3,xa o4 n4 k4] 118));have HBW:=fa (iz wr (xi #[xj bm,xa o1 n1 k1,xa o2 n2 k2,xa o3 n3 k3,xa o4 n4 k4] 118));clear U aa I hc ad;go_wp2_with fail;refine(aw _ HBW).mono ?_;generalize wr.alloc (xi #[xj bm,xa o1 n1 k1,xa o2 n2 k2,xa o3 n3 k3,xa o4 n4 k4] 118)=W at *;exact zm23
 clear hlt hi;go_wp2_with fail;generalize wr=wS at *
 go_loopw [9] (fun v wr=> ∃i:Nat,i<=a.rn/\v=xd xh i/\Hid (Below w.heap.size w wr)) (fun v _=>a.rn - (intOf v).toNat)
 ·exact⟨0,Mu _,rfl,HB⟩
 clear HB J c0;obtain⟨i,hi,rfl,HB⟩:=hrel;have J:=fa (HT.later HB);have c0:wr.cell? ⟨lb,4,none⟩=some (xa a.rO a.rn a.rc):=(cell_of_blk J.law.lw 4).trans rfl;rcases zc i a.rn with⟨hlt,hin⟩|⟨hlt,hin⟩
 ·obtain⟨b,U⟩: ∃b,rs[i]? =some b:=⟨_,Mx (by rw[<-E3.out];omega)⟩;have aa:=My U;obtain⟨g,ad,hg,hc⟩:=wU (C:=uL) (fun x=>rfl) (by rw[<-J.rv];exact J.law.rx) E3 U;have I:=(J.th.ok (kM b) (Ms _ (Mr _ (Mr _ (Mr _ (Mz _ (List.mem_map.2 ⟨b,aa,rfl⟩))))))).p;obtain⟨bm,mb,bl,ax,ay,az⟩:=b;have aw:=fa (fun W (h:Below wr.heap.size wr W)=>ox mb (I.2.1.later h) (vW h I.1));have HA2:=fa (fun W (h:Below wr.heap.size wr W)=>ox mb (I.2.2.1.later h) (vW h I.1));have HA3:=fa (fun W (h:Below wr.heap.size wr W)=>ox mb (I.2.2.2.1.later h) (vW h I.1));have HA4:=fa (fun W (h:Below wr.heap.size wr W)=>ox mb (I.2.2.2.2.later h) (vW h I.1));obtain⟨o1,n1,k1,e1⟩:=AllM.sl I.2.1;replace e1:bl=_:=e1;obtain⟨o2,n2,k2,e2⟩:=AllM.sl I.2.2.1;replace e2:ax=_:=e2;obtain⟨o3,n3,k3,e3⟩:=AllM.sl I.2.2.2.1;replace e3:ay=_:=e3;obtain⟨o4,n4,k4,e4⟩:=AllM.sl I.2.2.2.2;replace e4:az=_:=e4;subst e1 e2 e3 e4;rw[ad] at c0;have c5:wr.cell? ⟨g,i * 5,none⟩=some (xd xh bm):=hc 0 zp;have c6:wr.cell? ⟨g,i * 5+1,none⟩=some (xa o1 n1 k1):=hc 1 zp;have c7:wr.cell? ⟨g,i * 5+2,none⟩=some (xa o2 n2 k2):=hc 2 zd;have c8:wr.cell? ⟨g,i * 5+3,none⟩=some (xa o3 n3 k3):=hc 3 zd;have c9:wr.cell? ⟨g,i * 5+4,none⟩=some (xa o4 n4 k4):=hc 4 zd;have HBB:=fa (ft wr (xi #[xd xh bm,xa o1 n1 k1,xa o2 n2 k2,xa o3 n3 k3,xa o4 n4 k4] 120));have HBW:=fa (iz wr (xi #[xd xh bm,xa o1 n1 k1,xa o2 n2 k2,xa o3 n3 k3,xa o4 n4 k4] 120));clear U aa I hc ad;go_wp2_with fail;refine(aw _ HBW).mono ?_;generalize wr.alloc (xi #[xd xh bm,xa o1 n1 k1,xa o2 n2 k2,xa o3 n3 k3,xa o4 n4 k4] 120)=W at *;exact zm23
 clear hlt hi;go_wp2_with fail;generalize wr=wS at *
 go_loopw [15] (fun v wr=> ∃i:Nat,i<=a.im/\v=xd xh i/\Hid (Below w.heap.size w wr)) (fun v _=>a.im - (intOf v).toNat)
 ·exact⟨0,Mu _,rfl,HB⟩
 clear HB J c0;obtain⟨i,hi,rfl,HB⟩:=hrel;have J:=fa (HT.later HB);have c0:wr.cell? ⟨lb,3,none⟩=some (xa a.iO a.im a.ic):=(cell_of_blk J.law.lw 3).trans rfl;rcases zc i a.im with⟨hlt,hin⟩|⟨hlt,hin⟩
 ·obtain⟨b,U⟩: ∃b,js[i]? =some b:=⟨_,Mx (by rw[<-E2.out];omega)⟩;have aa:=My U;obtain⟨g,ad,hg,hc⟩:=wU (C:=s7) (fun x=>rfl) (by rw[<-J.iv];exact J.law.ix) E2 U;have I:=(J.th.ok (kP b) (Ms _ (Mr _ (Mr _ (Mz _ (List.mem_map.2 ⟨b,aa,rfl⟩)))))).p;obtain⟨bm,bl,ax,ay,az⟩:=b;have aw:=fa (fun W (h:Below wr.heap.size wr W)=>ow (I.1.later h));have HA2:=fa (fun W (h:Below wr.heap.size wr W)=>ow (I.2.1.later h));have HA3:=fa (fun W (h:Below wr.heap.size wr W)=>ow (I.2.2.1.later h));have HA4:=fa (fun W (h:Below wr.heap.size wr W)=>ow (I.2.2.2.later h));obtain⟨o1,n1,k1,e1⟩:=AllM.sl I.1;replace e1:bl=_:=e1;obtain⟨o2,n2,k2,e2⟩:=AllM.sl I.2.1;replace e2:ax=_:=e2;obtain⟨o3,n3,k3,e3⟩:=AllM.sl I.2.2.1;replace e3:ay=_:=e3;obtain⟨o4,n4,k4,e4⟩:=AllM.sl I.2.2.2;replace e4:az=_:=e4;subst e1 e2 e3 e4;rw[ad] at c0;have c5:wr.cell? ⟨g,i * 5,none⟩=some (xd xh bm):=hc 0 zp;have c6:wr.cell? ⟨g,i * 5+1,none⟩=some (xa o1 n1 k1):=hc 1 zp;have c7:wr.cell? ⟨g,i * 5+2,none⟩=some (xa o2 n2 k2):=hc 2 zd;have c8:wr.cell? ⟨g,i * 5+3,none⟩=some (xa o3 n3 k3):=hc 3 zd;have c9:wr.cell? ⟨g,i * 5+4,none⟩=some (xa o4 n4 k4):=hc 4 zd;have HBB:=fa (ft wr (xi #[xd xh bm,xa o1 n1 k1,xa o2 n2 k2,xa o3 n3 k3,xa o4 n4 k4] 123));have HBW:=fa (iz wr (xi #[xd xh bm,xa o1 n1 k1,xa o2 n2 k2,xa o3 n3 k3,xa o4 n4 k4] 123));clear U aa I hc ad;go_wp2_with fail;refine(aw _ HBW).mono ?_;generalize wr.alloc (xi #[xd xh bm,xa o1 n1 k1,xa o2 n2 k2,xa o3 n3 k3,xa o4 n4 k4] 123)=W at *;exact zm23
 clear hlt hi;go_wp2;go_ret;trivial
theorem Ths.sub(h:Ths B w xs)(hs:ys.Sublist xs):Ths B w ys:=⟨fun x I=>h.ok x (hs.subset I),h.ap.sublist hs,fun x I=>h.lo x (hs.subset I)⟩
theorem Ths.part{new rest:List Th}(h:Ths B w (x::rest))(hn: ∀y∈new,ThOk w y)(I:new.Pairwise fun x y=> ∀k,x.S k->¬ y.S k)(hs: ∀y∈new,∀k,y.S k->x.S k)(hB:B<=w.heap.size):Ths B w (new++rest):=
 Ths.turn (old:=[x]) h ⟨rfl,rfl,rfl,MG _,fun _ _ _=>rfl⟩ hn I (fun y U k J=>MI ⟨x,List.mem_singleton.2 rfl,hs y U k J⟩) hB
def nZ(rv:List Value)(nx:List (List Nat)):List Th:=List.zipWith (fun v r=>C0 v (gU r)) rv nx
theorem oQ(h:y∈nZ rv nx): ∃(j:Nat) (v:Value) (r:List Nat),rv[j]? =some v/\nx[j]? =some r/\y=C0 v (gU r):=by
 obtain⟨j,I⟩:=List.mem_iff_getElem?.1 h;unfold nZ at I;rw[MR] at I;cases h1:rv[j]? with
 |none=>simp_all
 |some v=>
  cases h2:nx[j]? with
  |none=>simp_all
  |some r=>rw[h1,h2] at I;exact⟨j,v,r,h1,h2,(Option.some.inj I).symm⟩
theorem Ia{k:Nat}(I:rv[k]? =some v)(J:nx[k]? =some r):(nZ rv nx).drop k=C0 v (gU r)::(nZ rv nx).drop (k+1):=by
 have h:(nZ rv nx)[k]? =some (C0 v (gU r)):=by unfold nZ;rw[MR,I,J]
 have U:=(List.getElem?_eq_some_iff.1 h).1;rw[MN U];simp_all
section
variable {lb : Nat} {X : List Th} {w0 w w' : World} {N : Nat} {a a' : Lt} {bs : List Bk} {js : List Ik} {rs : List Rk} {ws us : List Wb} {x : Wb}
theorem LT.unwait(h:LT lb X w0 w N a bs js rs (x::ws) us):LT lb (iU x::X) w0 w N a bs js rs ws us:=by
 refine⟨h.th.perm (List.Perm.cons _ ?_),h.bel,h.lo,h.bv,h.iv,h.rv,h.M,h.nb,fun z U=>h.rt.1 z (Ms _ U),h.rt.2⟩;have I:X++(bs.map kH++(js.map kP++(rs.map kM++((x::ws).map iU++us.map iU))))=(X++(bs.map kH++(js.map kP++rs.map kM)))++iU x::(ws.map iU++us.map iU):=zp;have J:X++(bs.map kH++(js.map kP++(rs.map kM++(ws.map iU++us.map iU))))=(X++(bs.map kH++(js.map kP++rs.map kM)))++(ws.map iU++us.map iU):=zp;show List.Perm _ (iU x::(X++_));rw[I,J];exact M'
theorem LT.parted(h:LT lb (iU x::X) w0 w N a bs js rs ws us):LT lb (KX 0 x.A x.t.acts::C0 x.F (gU x.t.fl)::(nZ x.rv x.t.nx++(KW x.X x.rv::X))) w0 w N a bs js rs ws us:=by
 have ht:=(h.keep (Mt ..)).p;have ak:=ht.rl;have hF:w.ownsRow 0 3 1 x.F (gU x.t.fl).length (gU x.t.fl):=by unfold gU;rw[ME];exact ht.fl
 have hX:w.ownsRow 0 33 1 x.X x.rv.length x.rv:=by rw[ak];exact ht.nx
 have row: ∀{j v r},x.rv[j]? =some v->x.t.nx[j]? =some r->w.ownsRow 0 3 1 v (gU r).length (gU r):=fun {j v r} U h2=>by
  obtain⟨g,c,k1,k2⟩:=ht.rows j r h2;rw[U] at k1;cases k1;unfold gU at k2|-;rw[ME];exact k2
 have ok: ∀{e:Nat} {v:Value} {L:List Value},w.ownsRow 0 e 1 v L.length L->ThOk w ⟨fun k=>v.ownBlock=some k,fun w=>w.ownsRow 0 e 1 v L.length L⟩:=fun hr=>⟨hr,fun k J=>(gG hr k J).2,fun w' hs J=>jb hr J⟩
 have hp:=(h.th.perm (List.Perm.swap _ _ _)).part (new:=KX 0 x.A x.t.acts::C0 x.F (gU x.t.fl)::(nZ x.rv x.t.nx++[KW x.X x.rv])) (fun y I=> ?_) ?_ (fun y I k J=> ?_) h.hB
 ·refine⟨hp.perm ?_,h.bel,h.lo,h.bv,h.iv,h.rv,h.M,h.nb,h.rt⟩;refine List.Perm.trans M' ?_;simp only[MO,List.append_assoc,Nb];exact List.Perm.refl _
 ·rcases List.mem_cons.1 I with rfl|I
  ·exact Lu ht.acts
  rcases List.mem_cons.1 I with rfl|I
  ·exact ok hF
  rcases List.mem_append.1 I with I|I
  ·obtain⟨j,v,r,U,h2,rfl⟩:=oQ I;exact ok (row U h2)
  rw[List.mem_singleton.1 I];exact ok hX
 ·have ae: ∀{e:Nat} {v:Value} {n:Nat} {xs:List Value},w.ownsRow 0 e 1 v n xs->e≠9-> ∀k,x.A.ownBlock=some k->¬ v.ownBlock=some k:=fun hr aj k J hv=>kU ht.acts hr (fun e=>aj e.symm) J hv
  refine List.pairwise_cons.2 ⟨fun y I k J=> ?_,List.pairwise_cons.2 ⟨fun y I k J=> ?_,List.pairwise_append.2 ⟨?_,List.pairwise_singleton _ _,fun y I z hz k J=> ?_⟩⟩⟩
  ·rcases List.mem_cons.1 I with rfl|I
   ·exact ae ht.fl zp k J
   rcases List.mem_append.1 I with I|I
   ·obtain⟨j,v,r,U,h2,rfl⟩:=oQ I;exact ae (row U h2) zp k J
   rw[List.mem_singleton.1 I];exact ae ht.nx zp k J
  ·rcases List.mem_append.1 I with I|I
   ·obtain⟨j,v,r,U,h2,rfl⟩:=oQ I;exact fun hv=>ht.rf v (My U) ((show v.ownBlock=some k from hv).trans (show x.F.ownBlock=some k from J).symm)
   rw[List.mem_singleton.1 I];exact fun hv=>kU ht.fl ht.nx zp J hv
  ·show(List.zipWith _ _ _).Pairwise _;rw[List.pairwise_iff_getElem];intro i j hi hj ai k U h2;rw[List.getElem_zipWith] at U h2;rw[MT] at hi hj;exact List.pairwise_iff_getElem.1 ht.rr i j zo zo ai ((show _=some k from U).trans (show _=some k from h2).symm)
  rw[List.mem_singleton.1 hz];obtain⟨j,v,r,U,h2,rfl⟩:=oQ I;exact fun hv=>kU (row U h2) ht.nx zp J hv
 ·rcases List.mem_cons.1 I with rfl|I
  ·exact MI J
  rcases List.mem_cons.1 I with rfl|I
  ·exact MH (MI J)
  rcases List.mem_append.1 I with I|I
  ·obtain⟨j,v,r,U,h2,rfl⟩:=oQ I;exact MH (MH (MH ⟨v,My U,J⟩))
  rw[List.mem_singleton.1 I] at J;exact MH (MH (MI J))
theorem LT.rest(h:LT lb X w0 w N a bs js rs [] us):LG lb X w0 ((((w.setCell ⟨lb,5,none⟩ (xa none 0 0)).setCell ⟨lb,6,none⟩ (xa none 0 0)).setCell ⟨lb,7,none⟩ (xa none 0 0)).setCell ⟨lb,8,none⟩ (xa none 0 0)) N:=by
 have hg:w.grownBy ((((w.setCell ⟨lb,5,none⟩ (xa none 0 0)).setCell ⟨lb,6,none⟩ (xa none 0 0)).setCell ⟨lb,7,none⟩ (xa none 0 0)).setCell ⟨lb,8,none⟩ (xa none 0 0)) (some lb):=(((fK _ _ _ _).trans (fK _ _ _ _)).trans (fK _ _ _ _)).trans (fK _ _ _ _);have I:=h.law;have h0:LT lb X w0 w N a bs js rs [] []:=⟨h.th.sub (List.Sublist.cons_cons _ (List.Sublist.append (List.Sublist.refl _) (List.Sublist.append (List.Sublist.refl _) (List.Sublist.append (List.Sublist.refl _) (List.Sublist.append (List.Sublist.refl _) (List.nil_sublist _)))))),h.bel,h.lo,h.bv,h.iv,h.rv,h.M,h.nb,fun z hz=>(by cases hz),fun z hz=>(by cases hz)⟩;have kp: ∀{e z n:Nat} {v:Value} {xs:List Value},w.ownsRow 0 e z v n xs->e≠71->((((w.setCell ⟨lb,5,none⟩ (xa none 0 0)).setCell ⟨lb,6,none⟩ (xa none 0 0)).setCell ⟨lb,7,none⟩ (xa none 0 0)).setCell ⟨lb,8,none⟩ (xa none 0 0)).ownsRow 0 e z v n xs:=fun hr U=>gq hr hg (MH (fun e=>gp hr e I.lw (fun e=>U e.symm)))
 refine⟨{a with wO:=none,wn:=0,wc:=0,eO:=none,en:=0,ec:=0,wv:=[],ev:=[]},bs,js,rs,[],[],LT.turn h0 (FrD.grown hg (MI rfl)) ⟨fj (fj (fj (fj I.lw 5 _) 6 _) 7 _) 8 _,kp I.tx zp,kp I.ix zp,kp I.rx zp,MD _ _ _ _,MD _ _ _ _,fun k J=>by cases J⟩ (fun k J=> ?_) rfl rfl rfl rfl,rfl,rfl,rfl,h.nb⟩;rcases J with e|e|e|e|e|e
 ·exact MI (MI e)
 ·exact zm141
 ·exact zm114
 ·exact zm82
 ·cases e
 cases e
theorem LT.pair(h:LT lb X w0 w N a bs js rs us ws)(h1:a.wv=qu ws')(h2:a.ev=us'.flatMap (fun x=>qu [x,x]))(h3:ws'.map Wb.t=us'.flatMap (fun x=>[x.t,x.t]))(hn:a.wn=ws'.length/\a.en=ws'.length)(hi:i<ws'.length):
  ∃x z g q,ws'[i]? =some x/\z∈us'/\x.t=z.t/\a.wO=some ⟨g,0,none⟩/\a.eO=some ⟨q,0,none⟩/\g<w.heap.size/\q<w.heap.size/\(∀m,m<3->w.cell? ⟨g,i * 3+m,none⟩=[x.A,x.F,x.X][m]?)/\ ∀m,m<3->w.cell? ⟨q,i * 3+m,none⟩=[z.A,z.F,z.X][m]? :=by
 have hx:=Mx hi;have hl:ws'.length=us'.length * 2:=by
  have e:=congrArg List.length h3;rw[ME] at e;rw[e];clear h3 e hx hi hn h1 h2 h
  induction us' with
  |nil=>rfl
  |cons d r ih=>rw[MM,List.length_append,ih];show 2+r.length * 2=(r.length+1) * 2;omega
 have hz:=Mx (l:=us') (i:=i / 2) zo;have ag:i%2<2:=Nat.mod_lt _ zp;have hd:=Nat.div_add_mod' i 2;obtain⟨g,g1,g2,g3⟩:=wU (C:=fun x:Wb=>[x.A,x.F,x.X]) (fun x=>rfl) (show w.ownsRow 0 _ 3 _ a.wn (ws'.flatMap fun x=>[x.A,x.F,x.X]) from h1▸h.law.wt) hn.1 hx;have he:=h.law.et;rw[h2] at he;refine⟨ws'[i],us'[i / 2]'zo,g, ?_⟩;have ae: ∀x:Wb,(qu [x,x]).length=6:=fun x=>rfl
 obtain⟨_,⟨k1,k2⟩|⟨q,cap,cur,hv,_,I,hle,_,hcs,J⟩⟩:=he
 ·omega
 have aj:a.eO=some ⟨q,0,none⟩:=za;refine⟨q,hx,MJ _, ?_,g1,aj,g2,fh I,g3,fun m hm=> ?_⟩
 ·have U:=wV (C:=fun x:Wb=>[x.t,x.t]) (k:=2) (fun x=>rfl) hz (i%2) ag;rw[hd,<-h3,ML,hx] at U;have:i%2=0\/i%2=1:=zo;rcases this with e|e<;>(simp_all)
 have U:=wV (C:=fun x:Wb=>qu [x,x]) ae hz (i%2 * 3+m) zo;have e2:i / 2 * 6+(i%2 * 3+m)=i * 3+m:=zo;rw[cell_of_blk I,<-Array.getElem?_toList];rw[e2,<-J,MX,if_pos zo] at U;rw[U];have:i%2=0\/i%2=1:=zo;have ai:m=0\/m=1\/m=2:=zo;rcases this with e|e<;>rw[e]<;>rcases ai with rfl|rfl|rfl<;>rfl
theorem x9(h:TbW w base x.A x.F x.X x.t x.rv): ∃ao ac fo fc no nc,x.A=xa ao x.t.acts.length ac/\x.F=xa fo x.t.fl.length fc/\x.X=xa no x.t.nx.length nc:=by
 obtain⟨ao,ac,e1⟩:=iw h.acts;obtain⟨fo,fc,e2⟩:=iw h.fl;obtain⟨no,nc,e3⟩:=iw h.nx;simp_all
theorem JO{A F Y b:Th}:(b::A::F::(R++(Y::X))).Perm (A::F::(R++(Y::b::X))):=by
 have e1:A::F::(R++(Y::X))=(A::F::(R++[Y]))++X:=zp;have e2:A::F::(R++(Y::b::X))=(A::F::(R++[Y]))++b::X:=zp;exact zm151
end
open Go.Sort
theorem xv(hL:LG lb X w0 w N)(aH:MC prog w0 "internal/strconv.uint64pow10" .u64 Mw)(bz:lb≠4)(hN:N<=900000000):
  Calls prog 37 #[xk (some ⟨lb,0,none⟩)] w fun e w'=>e=xm (xn true)/\LG lb X w0 w' N:=by
 obtain⟨a,bs,js,rs,ws,us,hT,h1,h2,h3,h4⟩:=hL;have bB:=hT.wlen h1 h2 h3;have hn8:a.wn<=9000000:=zo;have bA:a.en=a.wn:=zo;have hNb:bs.length+js.length+rs.length+103 * a.wn<=N:=zo;have HT:=fa hT;have H1:=fa h1;have H2:=fa h2;have H3:=fa h3;have aq:=fa bB;have bj:=fa aH;have bL:=fa bA;clear hT h1 h2 h3 h4 bB aH bA;go_in;go_wp2
 go_loopw [3,4] (fun o v wr=>o=xn true/\v=xd xh 0/\w=wr) (fun _ _ _=>0)
 ·simp
 obtain⟨rfl,rfl,hw⟩:=hrel;subst hw;have c5:=(cell_of_blk HT.law.lw 5).trans rfl;go_wp2_with fail;clear c5
 go_loopw [3,6] (fun o v wr=> ∃i:Nat,i<=a.wn/\o=xn true/\v=xd xh i/\Hid (Below w.heap.size w wr)) (fun _ v _=>a.wn - (intOf v).toNat)
 ·exact⟨0,Mu _,rfl,rfl,Below.refl _ _⟩
 obtain⟨i,hi,rfl,rfl,HB⟩:=hrel;have aa:=fa (HT.later HB);have c7:=(cell_of_blk aa.law.lw 7).trans rfl;have b5:=fh aa.law.lw;rcases zc i a.wn with⟨hlt,hin⟩|⟨hlt,hin⟩
 ·obtain⟨x,z,g,q,hx,hz,ax,aB,bw,hg,hq,gc,qc⟩:=aa.pair H1 H2 H3 aq (i:=i) (by have:=aq.1;omega);have tx:TbW wr 0 x.A x.F x.X x.t x.rv:=(aa.th.ok (iU x) (Ms _ (Mr _ (Mr _ (Mr _ (Mr _ (Mz _ (List.mem_map.2 ⟨x,My hx,rfl⟩)))))))).p;have tz:TbW wr 0 z.A z.F z.X z.t z.rv:=(aa.th.ok (iU z) (Ms _ (Mr _ (Mr _ (Mr _ (Mr _ (Mr _ (List.mem_map.2 ⟨z,hz,rfl⟩)))))))).p;have hR:=aa.rt.2 z hz;obtain⟨ao,ac,fo,fc,no,nc,eA,eF,eX⟩:=x9 tx;obtain⟨bo,bc,go,gd,ho,hd,fA,fF,fX⟩:=x9 tz;obtain⟨na,ea⟩: ∃n,n=z.t.acts.length:=⟨_,rfl⟩;obtain⟨nf,ef⟩: ∃n,n=z.t.fl.length:=⟨_,rfl⟩;obtain⟨nn,en⟩: ∃n,n=z.t.nx.length:=⟨_,rfl⟩;rw[ax,<-ea] at eA;rw[ax,<-ef] at eF;rw[ax,<-en] at eX;rw[<-ea] at fA;rw[<-ef] at fF;rw[<-en] at fX;rw[eA,eF,eX,ax] at tx;rw[fA,fF,fX] at tz;have c8:wr.cell? ⟨lb,8,none⟩=some (xa a.eO a.wn a.ec):=(cell_of_blk aa.law.lw 8).trans (by rw[<-bL.out];rfl);rw[aB] at c7;rw[bw] at c8;have g0:wr.cell? ⟨g,i * 3,none⟩=some (xa ao na ac):=(gc 0 zp).trans za;have g1:wr.cell? ⟨g,i * 3+1,none⟩=some (xa fo nf fc):=(gc 1 zp).trans za;have g2:wr.cell? ⟨g,i * 3+2,none⟩=some (xa no nn nc):=(gc 2 zp).trans za;have q0:wr.cell? ⟨q,i * 3,none⟩=some (xa bo na bc):=(qc 0 zp).trans za;have q1:wr.cell? ⟨q,i * 3+1,none⟩=some (xa go nf gd):=(qc 1 zp).trans za;have q2:wr.cell? ⟨q,i * 3+2,none⟩=some (xa ho nn hd):=(qc 2 zp).trans za;have bd:=fa (fun d os=>oT (Go.Sort.grow (redrawn wr d) os) ao fo no bo go ho ac fc nc bc gd hd na nf nn z.t x.rv z.rv (tx.later (below_regrown wr d os)) (tz.later (below_regrown wr d os)) hR);have k7:=fun d os=>cell_regrown c7 d os
  have k8:=fun d os=>cell_regrown c8 d os
  have y0:=fun d os=>cell_regrown g0 d os
  have y1:=fun d os=>cell_regrown g1 d os
  have y2:=fun d os=>cell_regrown g2 d os
  have z0:=fun d os=>cell_regrown q0 d os
  have z1:=fun d os=>cell_regrown q1 d os
  have z2:=fun d os=>cell_regrown q2 d os
  clear hx hz ax aB bw gc qc tx tz hR eA eF eX fA fF fX ea ef en aa c8;go_wp2_with fail;refine wp_region_quiet_below zk zk ?_
  repeat (quiet_step (first|(exact Calls.regrown_of (bd _ _))))
  refine wpQuiet_nil ?_;intro w5 b7;obtain⟨⟨dq,cb⟩,aI⟩:=b7;have bI:Hid (Below w.heap.size w w5):=Kw HB (by rw[aI];exact below_regrown wr dq cb);clear aI k7 k8 y0 y1 y2 z0 z1 z2 bd;go_wp2
  go_roundw
  ·exact⟨i+1,zo,zp,zf,bI⟩
  simp[intOf];omega
 have c5:=(cell_of_blk aa.law.lw 5).trans rfl;clear hlt hi HB HT;go_wp2_with fail;generalize wr=wS at *
 go_loopw [8] (fun v wr=>v=xd xh 0/\wS=wr) (fun _ _=>0)
 ·simp
 obtain⟨rfl,hw⟩:=hrel;subst hw;go_wp2
 go_loopw [9] (fun v wr=> ∃(i:Nat) (a':Lt) (bQ:List Bk) (ca:List Ik) (cc:List Rk),i<=a.wn/\v=xd xh i/\Hid (LtK a a'/\LT lb (X) w0 wr (bs.length+js.length+rs.length+103 * i) a' bQ ca cc (ws.drop i) us)) (fun v _=>a.wn - (intOf v).toNat)
 ·exact⟨0,a,bs,js,rs,Mu _,rfl,LtK.refl a,aa.tight⟩
 clear aa c5 c7 b5;obtain⟨i,a1,aL,aU,aD,hi,rfl,HR⟩:=hrel;have c7:wr.cell? ⟨lb,7,none⟩=some (xa a.wO a.wn a.wc):=(cell_of_blk HR.2.law.lw 7).trans (by obtain⟨k1,k2,k3,_⟩:=HR.1;simp_all);rcases zc i a.wn with⟨hlt,hin⟩|⟨hlt,hin⟩
 ·obtain⟨x,z,g,q,hx,_,_,aB,_,hg,_,gc,_⟩:=HR.2.pair (HR.1.2.2.2.2.2.2.1.trans H1) (HR.1.2.2.2.2.2.2.2.trans H2) H3 ⟨HR.1.2.1.trans aq.1,HR.1.2.2.2.2.1.trans aq.2⟩ (i:=i) (by have:=aq.1;omega);have bu:ws.drop i=x::ws.drop (i+1):=by
   have hk:=(List.getElem?_eq_some_iff.1 hx).1;rw[MN hk];simp_all
  rw[bu] at HR;have aR:=HR.2.unwait;have tx:=(aR.keep (Mt ..)).p;have au:=HR.2.rt.1 x (Mt ..);have ba:Hid (x.rv.length=x.t.nx.length/\ ∀(j:Nat) (r:List Nat),x.t.nx[j]? =some r-> ∃g c,x.rv[j]? =some (xa (some ⟨g,0,none⟩) r.length c)):=⟨tx.rl,fun j r hr=>by obtain⟨g,c,k1,_⟩:=tx.rows j r hr;simp_all⟩;obtain⟨ao,ac,fo,fc,no,nc,eA,eF,eX⟩:=x9 tx;obtain⟨na,ea⟩: ∃n,n=x.t.acts.length:=⟨_,rfl⟩;obtain⟨nf,ef⟩: ∃n,n=x.t.fl.length:=⟨_,rfl⟩;obtain⟨nn,en⟩: ∃n,n=x.t.nx.length:=⟨_,rfl⟩;have aQ:=aR.parted;rw[<-ea] at eA;rw[<-ef] at eF;rw[<-en] at eX;rw[eA,eF,eX] at aQ;have hn100:nn<=100:=by rw[en];exact au.n100
  have hna:na<=6:=by rw[ea];exact au.acts.n6
  have hnf:nf<=100:=by rw[ef,au.fl];omega
  have aA: ∀r∈x.t.nx,r.length<=6:=fun r hr=>by rw[(au.rs r hr).1];omega
  have bM:=fa aA;have aJ:a.wO=some ⟨g,0,none⟩:=by rw[<-HR.1.1];omega
  rw[aJ] at c7;have g0:wr.cell? ⟨g,i * 3,none⟩=some (xa ao na ac):=(gc 0 zp).trans za;have g1:wr.cell? ⟨g,i * 3+1,none⟩=some (xa fo nf fc):=(gc 1 zp).trans za;have g2:wr.cell? ⟨g,i * 3+2,none⟩=some (xa no nn nc):=(gc 2 zp).trans za;have aj:=(aQ.boxed 36 #[xa ao na ac,xa fo nf fc,xa no nn nc]).permX (JO);have HK:=fa HR.1;have bJ:=fa ef;have aK:=fa en;obtain⟨s1,s2,s3,s4⟩:=aj.small (show bs.length+js.length+rs.length+103 * i<=1000000000 from zo);have oA:(wr.alloc (xi #[xa ao na ac,xa fo nf fc,xa no nn nc] 36)).ownsRow 0 9 1 (xa ao na ac) na (jK x.t.acts):=by
   have:=(aj.keep (Mt ..)).p;rw[ea];rw[ea] at this;exact this
  have U:=fa (sA (wr.alloc (xi #[xa ao na ac,xa fo nf fc,xa no nn nc] 36)) lb (xa none 0 0) a1.M a1.tO a1.tn a1.tc (xa a1.iO a1.im a1.ic) (xa a1.rO a1.rn a1.rc) (xa none 0 0) (xa none 0 0) (xa a1.wO a1.wn a1.wc) (xa a1.eO a1.en a1.ec) a1.bv 0 0 ao na ac (jK x.t.acts) aj.law.lw aj.law.tx (Mu _) oA (Mu _) zo zo zo (aj.tab bj) bz);have bl:=fa aj;clear hx aB aJ gc bu aR tx au eA eF eX aQ aj oA s1 s2 s3 s4 ea ef en aA HR;go_wp2_with fail;refine U.mono ?_;clear U c7 g0 g1 g2;generalize wr.alloc (xi #[xa ao na ac,xa fo nf fc,xa no nn nc] 36)=W at *;generalize wr.heap.size=bx at *;intro e w2 hp;have an:=hp.1;subst an;obtain⟨ad,ae,b2,_,ai⟩:=bl.markT (v:= xa ao na ac) (fun k hk=>hk) hp;have a7:=fa (HK.trans (show LtK a1 {a1 with M:=a1.M+1,tO:=ad,tn:=a1.tn+1,tc:=ae,bv:=nt (aL++[b2])} from⟨rfl,rfl,rfl,rfl,rfl,rfl,rfl,rfl⟩));clear hp bl HK;generalize {a1 with M:=a1.M+1,tO:=ad,tn:=a1.tn+1,tc:=ae,bv:=nt (aL++[b2])}=a2 at *;generalize aL++[b2]=bs2 at *;have bg:=fa ai;obtain⟨s1,s2,s3,s4⟩:=ai.small (show bs.length+js.length+rs.length+103 * i+1<=1000000000 from zo);have kb:=(ai.keep (Ms _ (Mr _ nX))).p;have bc:=cell_of_blk kb;have oF:w2.ownsRow 0 3 1 (xa fo nf fc) nf (gU x.t.fl):=by
   have h:w2.ownsRow 0 3 1 (xa fo nf fc) (gU x.t.fl).length (gU x.t.fl):=(ai.keep (Mt ..)).p;have e:(gU x.t.fl).length=nf:=by unfold gU;rw[ME,bJ.out]
   rw[e] at h;exact h
  have U:=fa (p9 w2 lb (xa none 0 0) a2.M a2.iO a2.im a2.ic (xa a2.tO a2.tn a2.tc) (xa a2.rO a2.rn a2.rc) (xa none 0 0) (xa none 0 0) (xa a2.wO a2.wn a2.wc) (xa a2.eO a2.en a2.ec) a2.iv 0 0 fo nf fc (gU x.t.fl) ai.law.lw ai.law.ix (Mu _) oF (Mu _) zo zo zo);clear ai oF s1 s2 s3 s4 kb;go_wp2_with fail;refine U.mono ?_;clear U bc;intro e w3 hp;have an:=hp.1;subst an;obtain⟨ad,ae,b3,_,br⟩:=bg.markI (v:= xa fo nf fc) (fun k hk=>hk) hp;have a8:=fa (a7.trans (show LtK a2 {a2 with M:=a2.M+1,iO:=ad,im:=a2.im+1,ic:=ae,iv:=(aU++[b3]).flatMap s7} from⟨rfl,rfl,rfl,rfl,rfl,rfl,rfl,rfl⟩));clear hp bg a7;generalize {a2 with M:=a2.M+1,iO:=ad,im:=a2.im+1,ic:=ae,iv:=(aU++[b3]).flatMap s7}=a3 at *;generalize aU++[b3]=js3 at *;have bh:=fa br;clear br;go_wp2_with fail
  rename World=>w3
  go_loopw [11] (fun v wq=> ∃(k:Nat) (I:Lt) (aC:List Ik),k<=nn/\v=xd xh k/\Hid (LtK a I/\LT lb ((nZ x.rv x.t.nx).drop k++(KW (xa no nn nc) x.rv::iB bx 36 #[xa ao na ac,xa fo nf fc,xa no nn nc]::X)) w0 wq (bs.length+js.length+rs.length+103 * i+2+k) I bs2 aC aD (ws.drop (i+1)) us)) (fun v _=>nn - (intOf v).toNat)
  ·exact⟨0,a3,js3,Mu _,rfl,a8,bh⟩
  clear bh a8;obtain⟨k,I,aC,hk,rfl,HQ⟩:=hrel;have kb:=(HQ.2.keep (Mr _ nX)).p;have bm:=(cell_of_blk kb 2).trans rfl;have oX:wr.ownsRow 0 33 1 (xa no nn nc) nn x.rv:=by
   have h:wr.ownsRow 0 33 1 (xa no nn nc) x.rv.length x.rv:=(HQ.2.keep (Mr _ (Mt ..))).p;have e:x.rv.length=nn:=ba.1.trans aK.symm;rw[e] at h;exact h
  clear kb;rcases zc k nn with⟨hlk,hkn⟩|⟨hlk,hkn⟩
  ·obtain⟨r,hr⟩: ∃r,x.t.nx[k]? =some r:=⟨_,Mx (by rw[<-aK.out];omega)⟩;obtain⟨rg,rc,aS⟩:=ba.2 k r hr;obtain⟨xg,b9,b8,aT⟩:=hD oX hlk;rw[aS] at aT;have aA:=bM r (My hr);have J:=HQ.2;rw[Ia aS hr,MO] at J;obtain⟨rn,aP⟩: ∃n,n=r.length:=⟨_,rfl⟩;rw[<-aP] at aT J aA;obtain⟨s1,s2,s3,s4⟩:=J.small (show bs.length+js.length+rs.length+103 * i+2+k<=1000000000 from zo);have oR:wr.ownsRow 0 3 1 (xa (some ⟨rg,0,none⟩) rn rc) rn (gU r):=by
    have h:wr.ownsRow 0 3 1 (xa (some ⟨rg,0,none⟩) rn rc) (gU r).length (gU r):=(J.keep (Mt ..)).p;have e:(gU r).length=rn:=by unfold gU;rw[ME,aP]
    rw[e] at h;exact h
   have U:=fa (p9 wr lb (xa none 0 0) I.M I.iO I.im I.ic (xa I.tO I.tn I.tc) (xa I.rO I.rn I.rc) (xa none 0 0) (xa none 0 0) (xa I.wO I.wn I.wc) (xa I.eO I.en I.ec) I.iv 0 0 (some ⟨rg,0,none⟩) rn rc (gU r) J.law.lw J.law.ix (Mu _) oR (Mu _) zo zo zo);have ar:=fa J;have HK:=fa HQ.1;subst b9;clear hr aS J oR oX s1 s2 s3 s4 aP HQ;go_wp2_with fail;refine U.mono ?_;clear U bm aT b8;intro e w6 hp;have an:=hp.1;subst an;obtain⟨ad,ae,b6,_,av⟩:=ar.markI (v:= xa (some ⟨rg,0,none⟩) rn rc) (fun k hk=>hk) hp;have bK:=fa (HK.trans (show LtK I {I with M:=I.M+1,iO:=ad,im:=I.im+1,ic:=ae,iv:=(aC++[b6]).flatMap s7} from⟨rfl,rfl,rfl,rfl,rfl,rfl,rfl,rfl⟩));have bO:=fa av;clear hp ar HK av;go_wp2
   go_roundw
   ·exact⟨k+1,_,_,zo,zf,bK,bO⟩
   simp[intOf];omega
  have J:=HQ.2;have bt:(nZ x.rv x.t.nx).drop k=[]:=MQ (by unfold nZ;rw[MT];have:=aK.out;omega);rw[bt,Nb] at J;obtain⟨s1,s2,s3,s4⟩:=J.small (show bs.length+js.length+rs.length+103 * i+2+k<=1000000000 from zo);have U:=fa (te wr lb (xa none 0 0) I.M I.rO I.rn I.rc (xa I.tO I.tn I.tc) (xa I.iO I.im I.ic) (xa none 0 0) (xa none 0 0) (xa I.wO I.wn I.wc) (xa I.eO I.en I.ec) I.rv 0 0 no nn nc x.rv J.law.lw J.law.rx (Mu _) oX (Mu _) zo zo zo);have ar:=fa J;have HK:=fa HQ.1;clear J oX s1 s2 s3 s4 bt HQ;go_wp2_with fail;refine U.mono ?_;clear U bm;intro e w6 hp;have an:=hp.1;subst an;obtain⟨ad,ae,b6,_,_,av⟩:=ar.markR (v:= xa no nn nc) (fun k hk=>hk) hp;have HF:Hid (LtK a _/\LT lb (X) w0 w6 (bs.length+js.length+rs.length+103 * (i+1)) {I with M:=I.M+1,rO:=ad,rn:=I.rn+1,rc:=ae,rv:=(aD++[b6]).flatMap uL} bs2 aC (aD++[b6]) (ws.drop (i+1)) us):=⟨HK.trans (show LtK I {I with M:=I.M+1,rO:=ad,rn:=I.rn+1,rc:=ae,rv:=(aD++[b6]).flatMap uL} from⟨rfl,rfl,rfl,rfl,rfl,rfl,rfl,rfl⟩),av.drop.more zo⟩;clear hp ar HK av;go_wp2
  go_roundw
  ·exact⟨i+1,_,_,_,_,zo,zf,HF⟩
  simp[intOf];omega
 have aw:=HR.2;rw[show ws.drop i=[] from MQ (by have:=aq.1;omega)] at aw;have HFIN:=fa (aw.more (show _<=N from zo)).rest;have bc:=cell_of_blk aw.law.lw;have bf:=fi aw.law.lw;clear aw HR hlt hi;go_wp2;go_ret;trivial
def Kp(w:World)(o:Option Addr)(n:Nat)(R:Nat->Nat):Prop:= ∀i,i<n-> ∃b off,o=some ⟨b,off,none⟩/\b<w.heap.size/\ ∃(kd oa:Int) (os ot:ByteArray) (l1:Option Addr) (l2 l3:Nat) (g1:Option Addr) (g2 g3:Nat) (m1:Option Addr) (m2 m3:Nat),
  (ot.size<=70368744177664/\(∃z,LsZ w l1 g1 m1 l2 g2 m2 l3 g3 m3 z)/\R i+m2<=R (i+1))/\w.cell? ⟨b,off+i * 7,none⟩=some (xd xh kd)/\w.cell? ⟨b,off+i * 7+1,none⟩=some (xd xh oa)/\w.cell? ⟨b,off+i * 7+2,none⟩=some (xj os)/\w.cell? ⟨b,off+i * 7+3,none⟩=some (xj ot)/\
  w.cell? ⟨b,off+i * 7+4,none⟩=some (xa l1 l2 l3)/\w.cell? ⟨b,off+i * 7+5,none⟩=some (xa g1 g2 g3)/\w.cell? ⟨b,off+i * 7+6,none⟩=some (xa m1 m2 m3)
theorem LsZ.rdt{no:Option Addr}{z:Tz}(h:LsZ w ao fo no na nf nn ac fc nc z)(X:List Th): ∃vs,RdT w.heap.size X w ao fo no na nf nn ac fc nc z.acts z.fl z.nx vs:=by
 refine⟨fun j=>match no with|some ad=>w.cell? ⟨ad.block,ad.off+j,none⟩|none=>none,fun w' I _=>⟨h.a.later I,h.f.later I,h.r.later I,fun nb noff e j hj=> ?_⟩⟩;subst e;have hl:=h.r.len.1;rcases h.r with⟨e,_⟩|⟨b,off,sp,e,_,_,h3⟩
 ·omega
 cases e;exact bcell3 I _ _ (h3 j _ (Mx zo)).2.1
theorem JL(p q:Option Addr)(i:Nat)(h:i<18): ∃(I:Int) (os J:ByteArray) (l1:Option Addr) (l2 l3:Nat),(oK p q)[i * 7]? =some (xd xh I)/\(oK p q)[i * 7+1]? =some (xd xh 0)/\(oK p q)[i * 7+2]? =some (xj os)/\(oK p q)[i * 7+3]? =some (xj J)/\(oK p q)[i * 7+4]? =some (xa l1 l2 l3)/\(oK p q)[i * 7+5]? =some (xa none 0 0)/\(oK p q)[i * 7+6]? =some (xa none 0 0)/\J.size<=1/\(3<=I->I<=7->l1=none/\l2=0/\l3=0):=by
 have:i=0\/i=1\/i=2\/i=3\/i=4\/i=5\/i=6\/i=7\/i=8\/i=9\/i=10\/i=11\/i=12\/i=13\/i=14\/i=15\/i=16\/i=17:=zo;rcases this with rfl|rfl|rfl|rfl|rfl|rfl|rfl|rfl|rfl|rfl|rfl|rfl|rfl|rfl|rfl|rfl|rfl|rfl
 all_goals exact⟨_,_,_,_,_,_,rfl,rfl,rfl,rfl,rfl,rfl,rfl,of_decide_eq_true rfl,fun h1 h2=>zv⟩
theorem Bc(w:World)(o:Option Addr)(n k:Nat)(R:Nat->Nat)(hS:Kp w o n R)(aF: ∀i,i<=n->R i<=2000000)(hG:GV w)(aq:MC prog w "internal/strconv.uint64pow10" .u64 Mw)(hn:n<=1048576):
  Calls prog 13 #[xa o n k,xd xh 3,xd xh 7] w fun e w'=>e=xm (xn true)/\Below w.heap.size w w':=by
 have HS:=fa hS;have aC:=fa aF;have HG:=fa hG;have U:=fa aq;clear hS aF hG aq;go_in
 go_wp2_with (refine(Ch).mono ?_;rintro e w1 ⟨rfl,rfl⟩)
 have aA:Hid (mh ((((w.alloc (xi #[xa none 0 0,xd xh 0,xa none 0 0,xa none 0 0,xa none 0 0,xa none 0 0,xa none 0 0,xa none 0 0,xa none 0 0] 71)).alloc (xi #[xj ⟨#[97]⟩,xj ⟨#[98]⟩] 9)).alloc (xi #[xj ⟨#[99]⟩] 9)).alloc (xi (oK (some ⟨w.heap.size+1,0,none⟩) (some ⟨w.heap.size+2,0,none⟩)) 74)) w.heap.size (xa none 0 0) 0 (xa none 0 0) (xa none 0 0) (xa none 0 0) (xa none 0 0) (xa none 0 0) (xa none 0 0) (xa none 0 0)):=(MP _ _ _ zs).trans ((MP _ _ _ zs).trans ((MP _ _ _ zp).trans (ft _ _)));have aB:Hid (((((w.alloc (xi #[xa none 0 0,xd xh 0,xa none 0 0,xa none 0 0,xa none 0 0,xa none 0 0,xa none 0 0,xa none 0 0,xa none 0 0] 71)).alloc (xi #[xj ⟨#[97]⟩,xj ⟨#[98]⟩] 9)).alloc (xi #[xj ⟨#[99]⟩] 9)).alloc (xi (oK (some ⟨w.heap.size+1,0,none⟩) (some ⟨w.heap.size+2,0,none⟩)) 74)).heap[w.heap.size+3]? =some (xi (oK (some ⟨w.heap.size+1,0,none⟩) (some ⟨w.heap.size+2,0,none⟩)) 74 (0,0))):=fk _ _ _ zp;have az:Hid (Below w.heap.size w ((((w.alloc (xi #[xa none 0 0,xd xh 0,xa none 0 0,xa none 0 0,xa none 0 0,xa none 0 0,xa none 0 0,xa none 0 0,xa none 0 0] 71)).alloc (xi #[xj ⟨#[97]⟩,xj ⟨#[98]⟩] 9)).alloc (xi #[xj ⟨#[99]⟩] 9)).alloc (xi (oK (some ⟨w.heap.size+1,0,none⟩) (some ⟨w.heap.size+2,0,none⟩)) 74))):=((gz.alloc zp _).alloc zs _).alloc zs _;generalize ((((w.alloc (xi #[xa none 0 0,xd xh 0,xa none 0 0,xa none 0 0,xa none 0 0,xa none 0 0,xa none 0 0,xa none 0 0,xa none 0 0] 71)).alloc (xi #[xj ⟨#[97]⟩,xj ⟨#[98]⟩] 9)).alloc (xi #[xj ⟨#[99]⟩] 9)).alloc (xi (oK (some ⟨w.heap.size+1,0,none⟩) (some ⟨w.heap.size+2,0,none⟩)) 74))=W2 at *;have HLG:Hid (LG w.heap.size [iB (w.heap.size+3) 74 (oK (some ⟨w.heap.size+1,0,none⟩) (some ⟨w.heap.size+2,0,none⟩))] w W2 0):=by
  have hL:Lt.P w.heap.size ⟨0,none,0,0,none,0,0,none,0,0,none,0,0,none,0,0,[],[],[],[],[]⟩ W2:=⟨aA,MD _ _ _ _,MD _ _ _ _,MD _ _ _ _,MD _ _ _ _,MD _ _ _ _,fun k hk=>by cases hk⟩;have aI: ∀k,Lt.S w.heap.size ⟨0,none,0,0,none,0,0,none,0,0,none,0,0,none,0,0,[],[],[],[],[]⟩ k->k=w.heap.size:=fun k h=>by rcases h with e|e|e|e|e|e<;>first|exact e|cases e
  refine⟨⟨0,none,0,0,none,0,0,none,0,0,none,0,0,none,0,0,[],[],[],[],[]⟩,[],[],[],[],[],⟨⟨fun x hx=> ?_,List.pairwise_pair.2 fun k h1 h2=> ?_,fun x hx k hk=> ?_⟩,az,rfl,rfl,rfl,rfl,rfl,MG _,fun x h=>(by cases h),fun x h=>(by cases h)⟩,rfl,rfl,rfl,MG _⟩
  ·rcases List.mem_cons.1 hx with rfl|hx
   ·exact Lt.ok hL
   rw[List.mem_singleton.1 hx];exact lA aB
  ·have e1:=aI k h1;have e2:k=w.heap.size+3:=h2;omega
  rcases List.mem_cons.1 hx with rfl|hx
  ·exact Nat.le_of_eq (aI k hk).symm
  rw[List.mem_singleton.1 hx] at hk;have:k=w.heap.size+3:=hk;omega
 have ag:w.heap.size≠4:=by have:=FR U;omega
 clear aA aB az
 go_loopw [9] (fun v wr=> ∃i N:Nat,i<=18/\N<=206 * i/\v=xd xh i/\Hid (LG w.heap.size [iB (w.heap.size+3) 74 (oK (some ⟨w.heap.size+1,0,none⟩) (some ⟨w.heap.size+2,0,none⟩))] w wr N)) (fun v _=>18 - (intOf v).toNat)
 ·exact⟨0,0,Mu _,MG _,rfl,HLG⟩
 clear HLG;obtain⟨i,N,hi,aM,rfl,HLG⟩:=hrel;have J:=HLG.keep (List.mem_singleton.2 rfl);by_cases hlt:i<18
 ·have hii:(i:Int)<18:=zo;obtain⟨kd,os,ot,l1,l2,l3,b0,b1,b2,b3,b4,b5,b6,an,au⟩:=JL (some ⟨w.heap.size+1,0,none⟩) (some ⟨w.heap.size+2,0,none⟩) i hlt;have c0:=(cell_of_blk J (i * 7)).trans b0;have c1:=(cell_of_blk J (i * 7+1)).trans b1;have c2:=(cell_of_blk J (i * 7+2)).trans b2;have c3:=(cell_of_blk J (i * 7+3)).trans b3;have c4:=(cell_of_blk J (i * 7+4)).trans b4;have c5:=(cell_of_blk J (i * 7+5)).trans b5;have c6:=(cell_of_blk J (i * 7+6)).trans b6;clear J b0 b1 b2 b3 b4 b5 b6;by_cases hk:3<=kd/\kd<=7
  ·obtain⟨aj,ak⟩:=hk;obtain⟨rfl,rfl,rfl⟩:=au aj ak;have ai:=fa (By w.heap.size w wr N HLG HG U ag zo kd 0 os ot none 0 0 none 0 0 none 0 0 aj ak zo [] [] [] (CY) (MG _));clear au an;go_wp2_with fail;refine ai.mono ?_;rintro e w3 ⟨rfl,h3⟩;have H3:=fa h3;clear h3 ai HLG;go_wp2
   go_roundw
   ·exact⟨i+1,N+206,zo,zo,zf,H3⟩
   simp[intOf];omega
  clear au an;by_cases hk1:kd<3
  ·have aj:¬ (3:Int)<=kd:=zo;exact zm177
  have ak:¬ kd<=7:=zo;have aO:(3:Int)<=kd:=zo;exact zm177
 have hie:¬ ((i:Int)<18):=zo;have aE:N<=3708:=zo;clear J hlt hi aM;go_wp2
 go_loopw [11] (fun v wq=> ∃i N:Nat,i<=n/\N<=3708+206 * i+R i/\v=xd xh i/\Hid (LG w.heap.size [iB (w.heap.size+3) 74 (oK (some ⟨w.heap.size+1,0,none⟩) (some ⟨w.heap.size+2,0,none⟩))] w wq N)) (fun v _=>n - (intOf v).toNat)
 ·exact⟨0,N,Mu _,zo,rfl,HLG⟩
 clear HLG aE;obtain⟨i,N,hi,hti,rfl,HLG⟩:=hrel;have I:=fa HLG.bel;have him:(i:Int)<1152921504606846976:=zo;have aN:=aC i hi;have hNs:N<=220000000:=zo;clear aN;by_cases hlt:i<n
 ·obtain⟨b,off,aP,ae,kd,oa,os,ot,l1,l2,l3,g1,g2,g3,m1,m2,m3,⟨an,⟨z,hz⟩,hRR⟩,d0,d1,d2,d3,d4,d5,d6⟩:=HS i hlt;subst aP;have c0:=(bcell3 I _ _ ae).trans d0;have c1:=(bcell3 I _ _ ae).trans d1;have c2:=(bcell3 I _ _ ae).trans d2;have c3:=(bcell3 I _ _ ae).trans d3;have c4:=(bcell3 I _ _ ae).trans d4;have c5:=(bcell3 I _ _ ae).trans d5;have c6:=(bcell3 I _ _ ae).trans d6;have aG:(i:Int)<(n:Int):=zo;have hm2:m2<=2000000:=by have:=aC (i+1) hlt;omega
  have HZ:=fa hz;clear d0 d1 d2 d3 d4 d5 d6 hz;have HTA:=fa (HLG.later (gz (o:= xi #[xd xh kd,xd xh oa,xj os,xj ot,xa l1 l2 l3,xa g1 g2 g3,xa m1 m2 m3] 74)));by_cases hk:3<=kd/\kd<=7
  ·obtain⟨aj,ak⟩:=hk;have hka:¬ kd<3:=zo;have hkb:¬ 7<kd:=zo;obtain⟨vs,aH⟩:=HZ.rdt [iB (w.heap.size+3) 74 (oK (some ⟨w.heap.size+1,0,none⟩) (some ⟨w.heap.size+2,0,none⟩))];have ai:=fa (By w.heap.size w _ N HTA HG U ag zo kd oa os ot l1 l2 l3 g1 g2 g3 m1 m2 m3 aj ak an _ _ _ aH HZ.c);clear aH HZ;go_wp2_with fail;refine ai.mono ?_;rintro e w3 ⟨rfl,h3⟩;have H3:=fa h3;clear h3 ai HTA HLG c0 c1 c2 c3 c4 c5 c6;have h3:(i:Int).tmod 3=0\/(i:Int).tmod 3=1\/(i:Int).tmod 3=2:=by rw[Int.tmod_eq_emod_of_nonneg zo];omega
   rcases h3 with hm|hm|hm
   rotate_left 2
   ·go_wp2_with fail;refine(xv H3 U ag zo).mono ?_;rintro e w4 ⟨rfl,h4⟩;have H4:=fa h4;clear h4;go_wp2_with fail;refine(s9 H4 zo).mono ?_;rintro e w5 ⟨rfl,aa⟩;have H5:=fa (H4.later aa);clear aa;go_wp2
    go_roundw
    ·exact⟨i+1,N+206+m2,zo,zo,zf,H5⟩
    simp[intOf];omega
   all_goals (
    go_wp2_with fail;refine(s9 H3 zo).mono ?_;rintro e w5 ⟨rfl,aa⟩;have H5:=fa (H3.later aa);clear aa;go_wp2
    go_roundw
    case rel=>exact⟨i+1,N+206+m2,zo,zo,zf,H5⟩
    case measure=>simp[intOf];omega
    )
  by_cases hk1:kd<3
  ·exact zm178
  have aO:(7:Int)<kd:=zo;exact zm178
 have aG:¬ ((i:Int)<(n:Int)):=zo;clear hlt;go_wp2_with fail;refine(xv HLG U ag zo).mono ?_;rintro e w4 ⟨rfl,h4⟩;have H4:=fa h4;clear h4;go_wp2_with fail;refine(s9 H4 zo).mono ?_;rintro e w5 ⟨rfl,aa⟩;have H5:=fa (H4.later aa);clear aa;go_wp2;go_ret;exact⟨rfl,H5.bel⟩
theorem Dc(w:World){k:Nat}(R:Nat->Nat)(hS:Kp w o n R)(J: ∀i,i<=n->R i<=2000000)(U:GV w)(I:MC prog w "internal/strconv.uint64pow10" .u64 Mw)(hn:n<=1048576):
  Calls prog 6 #[xa o n k] w fun e w'=>e=xm (xn true)/\Below w.heap.size w w':=by
 have HP:=fa (Bc w o n k R hS J U I hn);clear hS J U I hn;go_in;go_wp2_with fail;refine HP.mono ?_;rintro e w1 ⟨rfl,hb⟩;have HB:=fa hb;clear hb;go_wp2;go_ret;trivial
open Go.ChangeShapes Go.WideShapes Go.ChangeAt
theorem FT(h:laidMetH prog Rows.tablesUptoRow.laid W):GVF W:=
 Lm (laid:=Rows.tablesUptoRow.laid) h Rows.tablesUptoRow.laid[3] Rows.tablesUptoRow.laid[4] Rows.tablesUptoRow.laid[5] (MJ _) (MJ _) (MJ _) zk zk zk rfl rfl rfl
theorem D1(h:laidMetH prog Rows.tablesUptoRow.laid W):MC prog W "internal/strconv.uint64pow10" .u64 Mw:=
 K8 (laid:=Rows.tablesUptoRow.laid) h Rows.tablesUptoRow.laid[2] (MJ _) rfl rfl
theorem LS(d:DataW H):1<=Rows.uptoBulk d:=by
 cases d with
 |lit l=>cases l<;>simp[Rows.uptoBulk]
 |nil=>simp[Rows.uptoBulk]
 |ptr d=>simp[Rows.uptoBulk]
 |slice elems spare=>simp[Rows.uptoBulk]
 |agg parts=>simp[Rows.uptoBulk]
 |iface t d=>simp[Rows.uptoBulk]
 |map entries=>simp[Rows.uptoBulk]
 |held h=>simp[Rows.uptoBulk]
theorem Ku(l:List (DataW H)):l.length<=Rows.uptoBulkAll l:=by
 induction l with
 |nil=>simp[Rows.uptoBulkAll]
 |cons x r ih=>have:=LS x;simp only[Rows.uptoBulkAll,List.length_cons];omega
theorem Gv{l:List (DataW H)}{d:DataW H}(h:d∈l):Rows.uptoBulk d<=Rows.uptoBulkAll l:=by
 induction l with
 |nil=>exact(List.not_mem_nil h).elim
 |cons x r ih=>
  simp only[Rows.uptoBulkAll];rcases List.mem_cons.1 h with rfl|h
  ·omega
  have:=ih h;omega
theorem LR(l:List (DataW H))(d:DataW H):Rows.uptoBulkAll (l++[d])=Rows.uptoBulkAll l+Rows.uptoBulk d:=by
 induction l with
 |nil=>simp[Rows.uptoBulkAll]
 |cons x r ih=>simp only[MO,Rows.uptoBulkAll,ih];omega
theorem Kv(D:Nat->DataW H)(i:Nat):Rows.uptoBulkAll ((MF (i+1)).map D)=Rows.uptoBulkAll ((MF i).map D)+Rows.uptoBulk (D i):=by
 rw[List.range_succ,List.map_append,List.map_singleton,LR]
theorem LU(D:Nat->DataW H)(h:i<=n):Rows.uptoBulkAll ((MF i).map D)<=Rows.uptoBulkAll ((MF n).map D):=by
 induction n with
 |zero=>
  obtain rfl:i=0:=zo;exact MG _
 |succ n ih=>
  rcases Nat.lt_or_ge n i with hi|hi
  ·obtain rfl:i=n+1:=zo;exact MG _
  have:=ih hi;rw[Kv];omega
theorem Kz:prog.cellsOf 3=1:=zk
theorem KA:prog.cellsOf 33=1:=zk
section
variable {H : Type} {enc : TypeId × Value -> H}
theorem rZ{mk:α->Value}{E:α->Prop}{x:DataW H × List MemPlace}{t e:TypeId}(ht:prog.underlying t=some (.slice e))(hc:prog.cellsOf e=1)
  (ae: ∀(n:Nat) (c:Value) (y:DataW H × List MemPlace),DataW.trod enc prog w 0 (fun _=>true) true n e [c]=some y->Rows.uptoBulk y.1<=1048576-> ∃z,c=mk z/\E z)
  (h:DataW.trod enc prog w 0 (fun _=>true) true fuel t cs=some x)(hw:Rows.uptoBulk x.1<=1048576):
  cs=[xa none 0 0]\/ ∃(ad:Addr) (n c:Nat) (l:List α),cs=[xa (some ad) n c]/\n<=c/\n=l.length/\n<=Rows.uptoBulk x.1/\ ∀j z,l[j]? =some z->E z/\ ∃b off,ad=⟨b,off,none⟩/\b<w.heap.size/\w.cell? ⟨b,off+j,none⟩=some (mk z):=by
 rcases open_slice1 ht hc h with⟨hcs,hx⟩|⟨a,len,cap,m,n,V,D,Pl,hcs,_,hl,hm,hmm,hx,hall⟩
 ·exact MI hcs
 simp only[if_true] at hmm;subst hmm;rw[hx] at hw;simp only[Rows.uptoBulk] at hw;have hz: ∀i:Fin len,∃z,V i=mk z/\E z:=fun i=>ae n _ _ (hall i zo).2 (by
  refine MK (Gv (List.mem_map.2 ⟨i.1,List.mem_range.2 i.2,rfl⟩)) (?_:_<=1048576);omega)
 refine MH ⟨a,len,m,List.ofFn fun i=>Classical.choose (hz i),hcs,hl,zp, ?_,fun j z hj=> ?_⟩
 ·have h1:=Ku ((MF len).map D);rw[ME,MY] at h1;rw[hx];simp only[Rows.uptoBulk];omega
 have aa:j<len:=by simpa using (List.getElem?_eq_some_iff.1 hj).1
 rw[List.getElem?_ofFn,dif_pos aa] at hj;have J:=Classical.choose_spec (hz ⟨j,aa⟩);rw[Option.some.inj hj] at J;have I:=(hall j zo).1;obtain⟨b,off,spot⟩:=a;have U:spot=none:=by simpa [Addr.add] using Na (hall 0 zo).1
 subst U;rw[Addr.add_lit] at I;exact⟨J.2,b,off,rfl,block_lt_of_cell I,I.trans (congrArg some J.1)⟩
theorem Cq{x:DataW H × List MemPlace}(h:DataW.trod enc prog w 0 (fun _=>true) true fuel 25 cs=some x)(hw:Rows.uptoBulk x.1<=1048576): ∃o n c tr,cs=[xa o n c]/\LsT w o n c tr/\n<=c:=by
 rcases rZ (mk:=xj) (E:=fun _=>True) underlying25 pR (fun n c y hy _=>by obtain⟨s,e,_⟩:=DataW.trod_string underlying9 hy;exact⟨s,by simpa using e,trivial⟩) h hw with e|⟨ad,n,c,l,e,h1,h2,h3,h4⟩
 ·exact⟨none,0,0,[],e,MI ⟨rfl,rfl,rfl,rfl⟩,MG _⟩
 exact⟨some ad,n,c,l,e,MH ⟨ad,rfl,h2,fun j z hj=>by obtain⟨_,b,off,I,J,U⟩:=h4 j z hj;exact⟨b,off,congrArg some I,J,U⟩,zo⟩,h1⟩
theorem wz{x:DataW H × List MemPlace}(h:DataW.trod enc prog w 0 (fun _=>true) true fuel 33 cs=some x)(hw:Rows.uptoBulk x.1<=1048576): ∃o n c tr,cs=[xa o n c]/\LsI w o n c tr:=by
 rcases rZ (mk:=xd xh) (E:=fun _=>True) underlying33 Kz (fun n c y hy _=>by obtain⟨s,e,_⟩:=DataW.trod_int underlying3 hy;exact⟨s,by simpa using e,trivial⟩) h hw with e|⟨ad,n,c,l,e,h1,h2,h3,h4⟩
 ·exact⟨none,0,0,[],e,MI ⟨rfl,rfl,rfl,rfl⟩⟩
 exact⟨some ad,n,c,l,e,MH ⟨ad,rfl,h2,fun j z hj=>by obtain⟨_,b,off,I,J,U⟩:=h4 j z hj;exact⟨b,off,congrArg some I,J,U⟩,zo⟩⟩
theorem DP{x:DataW H × List MemPlace}(h:DataW.trod enc prog w 0 (fun _=>true) true fuel 34 cs=some x)(hw:Rows.uptoBulk x.1<=1048576): ∃o n c rs,cs=[xa o n c]/\LsR w o n c rs/\n<=Rows.uptoBulk x.1:=by
 rcases rZ (α:=(Option Addr × Nat × Nat) × List Int) (mk:=fun z=> xa z.1.1 z.1.2.1 z.1.2.2) (E:=fun z=>LsI w z.1.1 z.1.2.1 z.1.2.2 z.2) underlying34 KA (fun n c y hy hb=>by obtain⟨o,k,d,tr,e,hl⟩:=wz hy hb;exact⟨((o,k,d),tr),by simpa using e,hl⟩) h hw with e|⟨ad,n,c,l,e,h1,h2,h3,h4⟩
 ·exact⟨none,0,0,[],e,MI ⟨rfl,rfl,rfl,rfl⟩,Mu _⟩
 obtain⟨b,off,sp⟩:=ad;refine⟨_,n,c,l.map (·.2),e,MH ⟨b,off,sp,rfl,by simpa using h2,zs,fun j r hr=> ?_⟩,h3⟩;rw[ML] at hr;cases hz:l[j]? with
 |none=>rw[hz] at hr;cases hr
 |some z=>
  rw[hz] at hr;cases hr;obtain⟨hE,b',off',I,J,U⟩:=h4 j z hz;cases I;exact⟨rfl,J,_,_,_,U,hE⟩
theorem Hq{x:DataW H × List MemPlace}(h:DataW.trod enc prog w 0 (fun _=>true) true fuel 74 cs=some x)(hw:Rows.uptoBulk x.1<=1048576):
  ∃(kd oa:Int) (os J:ByteArray) (l1:Option Addr) (l2 l3:Nat) (g1:Option Addr) (g2 g3:Nat) (m1:Option Addr) (m2 m3:Nat),(J.size<=70368744177664/\(∃z,LsZ w l1 g1 m1 l2 g2 m2 l3 g3 m3 z)/\m2<=Rows.uptoBulk x.1)/\cs=[xd xh kd,xd xh oa,xj os,xj J,xa l1 l2 l3,xa g1 g2 g3,xa m1 m2 m3]:=by
 obtain⟨xs,n,_,hx,hl,U,hf⟩:=DataW.trod_struct underlying74 h;rw[qS] at hl
 match cs,hl with
 |[c0,c1,c2,c3,c4,c5,c6],_=>
 have h7:xs.length=7:=U
 match xs,h7 with
 |[y0,y1,y2,y3,y4,y5,y6],_=>
 have t0:=hf 0 _ rfl;have t1:=hf 1 _ rfl;have t2:=hf 2 _ rfl;have t3:=hf 3 _ rfl;have t4:=hf 4 _ rfl;have t5:=hf 5 _ rfl;have t6:=hf 6 _ rfl;simp[Am,pR,EB,Ez,EC] at t0 t1 t2 t3 t4 t5 t6;have I: ∀y∈[y0.1,y1.1,y2.1,y3.1,y4.1,y5.1,y6.1],Rows.uptoBulk y<=Rows.uptoBulk x.1:=fun y hy=>by
  have h1:=Gv hy;have h2:Rows.uptoBulk x.1=Rows.uptoBulkAll [y0.1,y1.1,y2.1,y3.1,y4.1,y5.1,y6.1]+1:=by rw[hx];rfl
  omega
 obtain⟨kd,e0,_⟩:=DataW.trod_int underlying3 t0;obtain⟨oa,e1,_⟩:=DataW.trod_int underlying3 t1;obtain⟨os,e2,_⟩:=DataW.trod_string underlying9 t2;obtain⟨J,e3,ad,_⟩:=DataW.trod_string underlying9 t3;obtain⟨l1,l2,l3,tr,e4,hA,hc⟩:=Cq t4 (MK (I y4.1 zp) hw);obtain⟨g1,g2,g3,il,e5,hI⟩:=wz t5 (MK (I y5.1 zp) hw);obtain⟨m1,m2,m3,rl,e6,hR,hm⟩:=DP t6 (MK (I y6.1 zp) hw);have hsz:J.size<=1048576:=by
  have h1:=I y3.1 zp;have h4:Rows.uptoBulk y3.1=J.data.toList.length+1:=by rw[ad];simp only[Rows.uptoBulk]
  have h3:J.data.toList.length=J.size:=by rw[Array.length_toList];rfl
  omega
 cases e0;cases e1;cases e2;cases e3;cases e4;cases e5;cases e6;exact⟨kd,oa,os,J,l1,l2,l3,g1,g2,g3,m1,m2,m3,⟨zo,⟨⟨tr,il,rl⟩,hA,hI,hR,hc⟩,MK hm (I y6.1 zp)⟩,rfl⟩
theorem Br{x:DataW H × List MemPlace}(h:DataW.trod enc prog w 0 (fun _=>true) true fuel 22 [v]=some x)(ae: ∀p∈x.2,p.block<w.heap.size)(hw:Rows.uptoBulk x.1<=1048576):
  ∃o n k R,v=xa o n k/\Kp w o n R/\(∀i,i<=n->R i<=2000000)/\n<=1048576:=by
 rcases open_slice underlying22 h with⟨hc,hx⟩|⟨a,len,cap,m,n,D,Pl,hc,_,hl,hm,hmm,hx,hel⟩
 ·cases hc;exact⟨none,0,0,fun _=>0,rfl,fun i hi=>absurd hi (Nat.not_lt_zero i),fun _ _=>Mu _,zo⟩
 cases hc;simp only[if_true] at hmm;subst hmm;rw[hx] at hw;simp only[Rows.uptoBulk] at hw;refine⟨some a,len,m,fun i=>Rows.uptoBulkAll ((MF i).map D),rfl,fun i hi=> ?_,fun i hi=> ?_, ?_⟩
 ·obtain⟨cs',aa,aj⟩:=hel i zo;rw[qS] at aa;obtain⟨kd,oa,os,ot,l1,l2,l3,g1,g2,g3,m1,m2,m3,⟨ai,hz,ag⟩,rfl⟩:=Hq aj (by
   refine MK (Gv (List.mem_map.2 ⟨i,List.mem_range.2 hi,rfl⟩)) (?_:_<=1048576);omega)
  obtain⟨_,_,I⟩:=MZ aa;obtain⟨b,off,spot⟩:=a;have U:spot=none:=by
   obtain⟨cs0,ad,ak⟩:=hel 0 zo;rw[qS] at ad;obtain⟨_,_,_,_,_,_,_,_,_,_,_,_,_,rfl⟩:=JM ak;obtain⟨_,_,J⟩:=MZ ad;simpa [Addr.add] using Na (J 0 zo)
  subst U;simp only[add_plain] at I;have hb:b<w.heap.size:=by
   refine ae (.cell b off) ?_;rw[hx];refine Mz _ ?_;simp only[MemPlace.row,List.mem_map,List.mem_range];exact⟨0,by rw[qS];omega,rfl⟩
  refine⟨b,off,rfl,hb,kd,oa,os,ot,l1,l2,l3,g1,g2,g3,m1,m2,m3,⟨ai,hz, ?_⟩,I 0 zo,I 1 zo,I 2 zo,I 3 zo,I 4 zo,I 5 zo,I 6 zo⟩;show Rows.uptoBulkAll ((MF i).map D)+m2<=Rows.uptoBulkAll ((MF (i+1)).map D);rw[Kv];exact Nat.add_le_add_left ag _
 ·have:=LU D hi;show Rows.uptoBulkAll ((MF i).map D)<=2000000;omega
 have h1:=Ku ((MF len).map D);rw[ME,MY] at h1;omega
end
theorem xC(H:Type)(enc:TypeId × Value->H)(W:World)(base:Nat)(args:Array Value)(ds gs:List (DataW H))(before:List MemPlace)
  (I: ∀(j:Nat) t v,Tryz.f6.params[j]? =some t->args[j]? =some v->Value.okWide prog W .any base t v)
  (hW:DataW.Whole enc prog Tryz.f6.params.toList Rows.tablesSpec.vars false W args.toList ds gs before)(hL:laidMetH prog Rows.tablesUptoRow.laid W)(hk:Rows.uptoSmall H (ds++gs)=true):
  Calls prog 6 args W fun e W'=> ∃v,e=xm v/\Rows.tablesSpec.post enc prog Tryz.f6 false true false false W args v W':=by
 have J:=hW;obtain⟨p,q,U,hV,rfl,hfz,hnd⟩:=hW;have hA:DataW.TrodAll enc prog W 0 (fun _=>true) true Tryz.f6.params.toList args.toList ds p:=U;rw[Tryz.params6] at hA I;obtain⟨v0,d0,rfl,rfl,h0⟩:=trodAll_one hA;obtain⟨rfl,rfl⟩:=trodVars_none hV;have ae:=h0;obtain⟨fuel,hf⟩:=h0;clear U;simp only[Nc] at J;have aa: ∀x∈p,x.block<W.heap.size:=fun x hx=>by simpa using J.lt x hx
 obtain⟨a0,len,cap,rfl⟩:=okWide_slice underlying22 (I 0 22 v0 rfl rfl);have ag:Rows.uptoBulkAll ([d0]++([]:List (DataW H)))<=1048576:=of_decide_eq_true hk;simp only[Nc,Rows.uptoBulkAll] at ag;have hw:Rows.uptoBulk d0<=1048576:=zo;obtain⟨o,n,k,R,hv,hS,hR,hn⟩:=Br (v:= xa a0 len cap) (x:=(d0,p)) hf aa hw;cases hv;refine(Dc W R hS hR (FT hL).g (D1 hL) hn).mono fun e W' ⟨he,hb⟩=> ?_
 subst he;exact⟨_,rfl,⟨_,_,_,[],_,[],J,trodAll_mk1 (shut_bool underlying4 true),trodAll_mk1 (Below.trod G9 zk (of_decide_eq_true zk) ae hb aa),rfl,hb.frame _,fun h=>by cases h⟩⟩
theorem xZ(os:Os): ∃w0:World,w0.os=os/\(w0.forCall (fun _ _=>0) ⟨#[],#[xa none 0 0],[]⟩).variablesB prog=true/\
  (((w0.forCall (fun _ _=>0) ⟨#[],#[xa none 0 0],[]⟩).heap.toList.drop prog.globals.size).take ((begin prog (fun _ _=>0) default).world.heap.size - prog.globals.size)=(begin prog (fun _ _=>0) default).world.heap.toList.drop prog.globals.size)/\
  Input.okWideB prog (w0.forCall (fun _ _=>0) ⟨#[],#[xa none 0 0],[]⟩) 6 ⟨#[],#[xa none 0 0],[]⟩=true/\
  laidMet prog Rows.tablesUptoRow.laid (w0.forCall (fun _ _=>0) ⟨#[],#[xa none 0 0],[]⟩).memory/\
  (∀(H:Type) (enc:TypeId × Value->H),∃places,DataW.whole enc prog (w0.forCall (fun _ _=>0) ⟨#[],#[xa none 0 0],[]⟩).memory Tryz.f6.params.toList Rows.tablesSpec.vars false #[xa none 0 0].toList 8=some ([.nil],[],places))/\
  (∀(H:Type) (enc:TypeId × Value->H),(Rows.OpenSpec.upto Rows.tablesSpec).bare.sizedB enc prog Tryz.f6 false (w0.forCall (fun _ _=>0) ⟨#[],#[xa none 0 0],[]⟩).memory #[xa none 0 0] 8=true):=
 ⟨{World.holding prog os ⟨#[],#[],[]⟩ with heap:=Rows.tablesUptoRow.laid.foldl (L6 prog) (World.holding prog os ⟨#[],#[],[]⟩).heap},
  rfl,by as_aux_lemma=>kernel_rfl,by as_aux_lemma=>kernel_rfl,by as_aux_lemma=>kernel_rfl,B8 8 (by as_aux_lemma=>kernel_rfl) (by as_aux_lemma=>kernel_rfl),fun H enc=>⟨[],by as_aux_lemma=>kernel_rfl⟩,fun H enc=>by as_aux_lemma=>kernel_rfl⟩
theorem zR(os:Os)(started:os.Started)(H:Type)(enc:TypeId × Value->H)(F:Stop.Interp):
  ReturnsInHanded {} Tryz.checked os 6 .any ((Rows.OpenSpec.upto Rows.tablesSpec).preRow enc prog Tryz.f6 Rows.tablesUptoRow.domain false Rows.tablesUptoRow.laid) (((Rows.OpenSpec.upto Rows.tablesSpec).at F).post enc prog Tryz.f6 false true false false):=by
 obtain⟨w0,ad,hv,hr,aa,J,hx,ae⟩:=xZ os;obtain⟨places,hx⟩:=hx H enc;refine returnsInHanded_of_row (C:=Tryz.checked) (s:=Rows.OpenSpec.upto Rows.tablesSpec) L' started zk func6
  (witness_row_at (enc:=enc) (C:=Tryz.checked) false w0 #[xa none 0 0] ad hv hr aa
   (OpenSpec.preRow_of_cond 8 hx zk (fun k hk=>by cases hk;kernel_rfl) (ae H enc) J)) ?_
 intro W base args ds gs before U hW _ I hZ hL _ _;exact xC H enc W base args ds gs before U hW hL (I _ rfl)
theorem zQ:joinedFacts Tryz.pinned.checked.prog 6 Tryz.f6 (Rows.OpenSpec.upto Rows.tablesSpec).bare Rows.tablesUptoRow=true:=by
 unfold joinedFacts;simp only[Bool.and_eq_true]
 repeat' (refine MU ?_ ?_)
 all_goals (as_aux_lemma=>kernel_rfl)
theorem Cp:Rows.TablesUptoSaid:=
 OpenClaim.holds_of_cond 6 Tryz.f6 rfl rfl rfl rfl rfl rfl rfl ⟨rfl,rfl,rfl,rfl,rfl⟩ rfl rfl rfl rfl rfl (by as_aux_lemma=>kernel_rfl) func6 zQ
  (of_decide_eq_true (by as_aux_lemma=>kernel_rfl)) (by unfold Func.isWrapper;first|(rw[if_pos (by decide+kernel)];kernel_rfl)|(rw[if_neg (by decide+kernel)];exact⟨rfl,rfl⟩))
  (fun os started H enc _ F=>by rw[OpenClaim.pre_eq_preRow];exact zR os started H enc F)
theorem BG(f:FuncId)(fn:Func)(hf:Tryz.pinned.checked.prog.funcNamed Rows.tablesUptoRow.func=some f)(I:Tryz.pinned.checked.prog.funcs[f]? =some fn):
  false=Tryz.pinned.checked.prog.looks []/\ ∀(j:Nat) t,fn.params[j]? =some t->Tryz.pinned.checked.prog.wantsStandIn t=false:=by
 obtain rfl:f=6:=Option.some.inj ((show prog.funcNamed Rows.tablesUptoRow.func=some 6 from zk).symm.trans hf)|>.symm;obtain rfl:fn=Tryz.f6:=(Option.some.inj (Tryz.func6.symm.trans I)).symm;refine⟨zk,fun j t J=> ?_⟩;rw[Tryz.params6] at J;obtain rfl:t=22:=by simpa using Array.mem_of_getElem? J
 exact(show prog.wantsStandIn 22=false from zk)
theorem tablesUpto : Rows.TablesUptoCardSaid :=
 Claim7.holds_tied_plain_at .later [] _ _ _ _ Cp (fun _ h=>by cases h) zk (fun _ h=>by cases h) tablesUpto_row_tie rfl ⟨rfl,rfl⟩ zk rfl BG zk
end Go.Proofs.YtidakhhekofkoaaGreatDoor
