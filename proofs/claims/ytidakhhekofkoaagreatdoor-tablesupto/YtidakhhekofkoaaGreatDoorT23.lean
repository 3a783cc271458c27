import Derived.Test.YtidakhhekofkoaaGreatDoorT22
set_option linter.all false
set_option maxRecDepth 100000
set_option maxHeartbeats 4000000
namespace Go.Proofs.YtidakhhekofkoaaGreatDoor
open Go.Proofs.Tryz
open Go.RowKit Go.Deep
open Value renaming slice -> xa, int -> xd, string -> xj, pointer -> xk, bool -> xn
open IntKind renaming i64 -> xh
open Obj renaming cells -> xi
open Ending renaming returned -> xm
open List renaming mem_cons_of_mem -> Mr, mem_cons_self -> Ms, mem_append_right -> Mw, mem_append_left -> Mz, getElem?_eq_getElem -> ME, perm_middle -> MF, length_append -> MH, flatMap_cons -> MI, getElem_mem -> MM, length_cons -> MN, map_append -> MO
open Or renaming inr -> Mt, inl -> Mx
open World renaming cell?_alloc_lt -> Mu, cell?_setCell_far -> MC
open Nat renaming lt_of_lt_of_le -> My, zero_le -> MD, le_refl -> MG, le_of_eq -> MJ, le_trans -> ML
open Go.RowKit.Below renaming heap_setCell -> MK
variable {zq:Prop}
variable {w w' w0:World} {o ao fo ro q qn:Option Addr} {v:Value} {tr fl r:List Int} {n c lb nb noff na nf nn ac fc nc i rn rc N H N' m mn j:Nat} {X Z X' Y:List Th} {rows rs:List (List Int)} {vs:Nat->Option Value} {bs:List Bk} {js:List Ik} {ws us:List Wb} {ops:Array Oper} {a:Act} {K:Act->World->Prop} {Q:Exit->Act->World->Prop} {E:Prop} {xs:List Value} {R:Int->Option Tb->Prop} {e:Ending} {t:Tb} {f:Int} {x:Nat × Nat} {al:List Tk} {a':Lt} {α:Type}
theorem zm146(h:zq:=by
 rcases h with⟨rfl,rfl,rfl,rfl⟩|⟨ad,rfl,h1,h2,h3⟩
 ·exact⟨rfl,Nat.zero_le _,fun j x h=>(by cases h)⟩
 trivial
 ):zq:=h
def RdT(lb:Nat)(X:List Th)(w0:World)(ao fo no:Option Addr)(na nf nn ac fc nc:Nat)(acts:List ByteArray)(fl:List Int)(rows:List (List Int))(vs:Nat->Option Value):Prop:=
 ∀w',Below lb w0 w'->(∀y∈X,y.P w')->LsT w' ao na ac acts/\LsI w' fo nf fc fl/\LsR w' no nn nc rows/\ ∀nb noff,no=some ⟨nb,noff,none⟩-> ∀j,j<nn->w'.cell? ⟨nb,noff+j,none⟩=vs j
theorem LnI.shape(h:LnI w o v tr)(I:LsI w' o n c tr): ∃q m b,v=xa q n m/\(∀V:World,(binOp .eql 33 v (xa none 0 0)).run prog V= .ok (xn b) V)/\ ∀V:World,(binOp .eql 33 (xa o n c) (xa none 0 0)).run prog V= .ok (xn b) V:=by
 rcases h with⟨rfl,rfl,rfl⟩|⟨ad,g,rfl,rfl,_⟩
 ·rcases I with⟨_,rfl,rfl,_⟩|⟨_,h,_⟩
  ·exact⟨none,0,true,rfl,fun V=>qV V,fun V=>qV V⟩
  cases h
 rcases I with⟨h,_⟩|⟨_,h,rfl,_⟩
 ·cases h
 exact⟨some ⟨g,0,none⟩,_,false,rfl,fun V=>vZ V _ _ _,fun V=>vZ V _ _ _⟩
theorem RdT.row{acts:List ByteArray}(h:RdT lb X w0 ao fo (some ⟨nb,noff,none⟩) na nf nn ac fc nc acts fl rows vs)(hb:Below lb w0 w')(U: ∀y∈X,y.P w')(hi:i<nn)(hr:rows[i]? =some r)(hv:vs i=some (xa ro rn rc)):
  w'.cell? ⟨nb,noff+i,none⟩=some (xa ro rn rc)/\nb<w'.heap.size/\LsI w' ro rn rc r:=by
 obtain⟨_,_,I,J⟩:=h w' hb U;have hc:=(J nb noff rfl i hi).trans hv;rcases I with⟨h,_⟩|⟨b,off,sp,h,_,_,hrow⟩
 ·omega
 cases h;obtain⟨_,h1,ro,rn,rc,h2,I⟩:=hrow i _ hr;simp_all
theorem RdT.sp{sp:Option Nat}{acts:List ByteArray}(h:RdT lb X w0 ao fo (some ⟨nb,noff,sp⟩) na nf nn ac fc nc acts fl rows vs)(U:Below lb w0 w')(J: ∀y∈X,y.P w')(hr:rows[i]? =some r):sp=none:=by
 obtain⟨_,_,I,_⟩:=h w' U J;rcases I with⟨h,_⟩|⟨b,off,sp',h,_,_,hrow⟩
 ·cases h
 cases h;exact(hrow i _ hr).1
theorem LT.dropL{a:Lt}{rs:List Rk}: ∀{Z:List Th},LT lb (Z++X) w0 w N a bs js rs ws us->LT lb X w0 w N a bs js rs ws us
 |[],h=>h
 |_::_,h=>LT.dropL (LT.drop h)
def ReR(rs:List Rk)(q:Option Addr)(n m:Nat):Prop:=(q=none/\n=0/\m=0)\/ ∃b g,b∈rs/\q=some ⟨g,0,none⟩/\m=n+8/\b.l=xa (some ⟨g,0,none⟩) (n+8) (n+8)/\n<=1100000
def Ml(lb:Nat)(X:List Th)(w0:World)(N:Nat)(a:Lt)(ws us:List Wb)(qa qf qn:Option Addr)(na nf nn ma mf mn:Nat)(w':World)(e:Ending):Prop:=
 e=xm (xn true)/\ ∃a' bs' js' rs',LtK a a'/\LT lb X w0 w' (N+nn+3) a' bs' js' rs' ws us/\ReT bs' qa na ma/\ReI js' qf nf mf/\ReR rs' qn nn mn
theorem yb(lb:Nat)(X:List Th)(w0 w:World)(a:Lt)(bs:List Bk)(js:List Ik)(rs:List Rk)(ws us:List Wb)(ao fo no qa U qn:Option Addr)(na nf nn ac fc nc ma J mn:Nat)(acts:List ByteArray)(fl:List Int)(rows:List (List Int))(vs:Nat->Option Value)(Z:List Th)(hT:LT lb (nB ao (xa qa na ma) acts::lS fo (xa U nf J) fl::(Z++X)) w0 w N a bs js rs ws us)(hR:RdT lb X w0 ao fo no na nf nn ac fc nc acts fl rows vs)(hN:N<=900000000)(aF:Lib.TabIs prog w0 "internal/strconv.uint64pow10" .u64 Lib.pow10Tab)(bO:lb≠4)(hZ:(no=none/\qn=none/\nn=0/\mn=0/\nc=0/\rows=[]/\Z=[])\/ ∃nb noff sp g xs hs cur,no=some ⟨nb,noff,sp⟩/\qn=some ⟨g,0,none⟩/\mn=nn+8/\Z=iB g 33 cur::(xs.map oS++hs.map qW)/\sL w nb noff nn rows xs cur nn/\xJ nn hs cur (nn+8)/\nn<=1100000):
  Calls prog 144 #[xk (some ⟨lb,0,none⟩),.agg #[xa qa na ma,xa U nf J,xa qn nn mn],.agg #[xa ao na ac,xa fo nf fc,xa no nn nc]] w fun e w'=>Ml lb X w0 N a ws us qa U qn na nf nn ma J mn w' e:=by
 have bG:=hT.hold (y:=iB w.heap.size 36 #[xa qa na ma,xa U nf J,xa qn nn mn]) ((Below.refl w.heap.size w).alloc (MG _) (xi #[xa qa na ma,xa U nf J,xa qn nn mn] 36)) (lA (ft _ _)) (fun k hk=>MJ hk.symm);have aA:LT lb (iB (w.heap.size+1) 36 #[xa ao na ac,xa fo nf fc,xa no nn nc]::iB w.heap.size 36 #[xa qa na ma,xa U nf J,xa qn nn mn]::nB ao (xa qa na ma) acts::lS fo (xa U nf J) fl::(Z++X)) w0 ((w.alloc (xi #[xa qa na ma,xa U nf J,xa qn nn mn] 36)).alloc (xi #[xa ao na ac,xa fo nf fc,xa no nn nc] 36)) N a bs js rs ws us:=bG.hold gz (lA (fk _ _ _ zp)) (fun k hk=>by have:k=w.heap.size+1:=hk;simp;omega);have bC: ∀{A B C D:Th} {y:Th},y∈X->y∈A::B::C::D::(Z++X):=fun hy=>Mr _ (Mr _ (Mr _ (Mr _ (Mw _ hy))))
 have aw:=fa hR;have bm:=fa (hR w hT.bel (fun y hy=>(hT.keep (Mr _ (Mr _ (Mw _ hy)))).p)).2.2.2;have au:=hR _ aA.bel (fun y hy=>(aA.keep (bC hy)).p);have bo:=fa (Ec lb w0 N a bs js rs ws us ao qa na ac ma acts (aA.permX (MF (l₁:=[iB (w.heap.size+1) 36 #[xa ao na ac,xa fo nf fc,xa no nn nc],iB w.heap.size 36 #[xa qa na ma,xa U nf J,xa qn nn mn]]))) au.1 zo aF bO);clear hT bG aA au aF hR bC;go_in;go_wp2_with fail;refine bo.mono ?_;clear bo;rintro e w1 ⟨rfl,a1,br,bQ,aU,ae,bE,bJ,bw⟩;replace ae:LT lb (iB (w.heap.size+1) 36 #[xa ao na ac,xa fo nf fc,xa no nn nc]::iB w.heap.size 36 #[xa qa na ma,xa U nf J,xa qn nn mn]::lS fo (xa U nf J) fl::(Z++X)) w0 w1 (N+1) a1 br bQ rs ws us:=ae;have g0:=(ae.keep (Mr _ (Ms ..))).p;have g1:=(ae.keep (Ms ..)).p;have c0:=cell_of_blk g0;have c1:=cell_of_blk g1;have au:=aw _ ae.bel (fun y hy=>(ae.keep (Mr _ (Mr _ (Mr _ (Mw _ hy))))).p);have bn:=fa (xF lb w0 w1 (N+1) a1 br bQ rs ws us fo U nf fc J fl (ae.permX (MF (l₁:=[iB (w.heap.size+1) 36 #[xa ao na ac,xa fo nf fc,xa no nn nc],iB w.heap.size 36 #[xa qa na ma,xa U nf J,xa qn nn mn]]))) au.2.1 zo);have bc:=fa aU;have bf:=fa bw;clear ae g0 g1 au aU bw bE bJ;go_wp2_with fail;refine bn.mono ?_;clear bn c0 c1;rintro e w2 ⟨rfl,a2,ay,aD,bM,ak,aH,bK,bx⟩;replace ak:LT lb (iB (w.heap.size+1) 36 #[xa ao na ac,xa fo nf fc,xa no nn nc]::iB w.heap.size 36 #[xa qa na ma,xa U nf J,xa qn nn mn]::(Z++X)) w0 w2 (N+1+1) a2 ay aD rs ws us:=ak;have g0:=(ak.keep (Mr _ (Ms ..))).p;have g1:=(ak.keep (Ms ..)).p;have c0:=cell_of_blk g0;have c1:=cell_of_blk g1;have aM:=fa (bc.trans bM);have aj:=fa (bf.mono aH);have ai:=fa bx;have aN:=fa ak;clear ak g0 g1 bM bx aH bK bc bf;rcases hZ with⟨rfl,rfl,rfl,rfl,rfl,rfl,rfl⟩|⟨nb,noff,sp,g,xs,hs,cur,rfl,rfl,rfl,rfl,hxs,hhs,hn11⟩
 ·have he:=fun V:World=>xO V
  go_wp2;go_ret;exact⟨rfl,a2,ay,aD,rs,aM,(aN.drop.drop).more zo,aj,ai,Mx ⟨rfl,rfl,rfl⟩⟩
 have he:=fun V:World=>EJ V ⟨nb,noff,sp⟩ nn nc
 have ax:=fa hxs;have ba:=fa hhs;clear hxs hhs;have bl:Hid (LT lb (iB (w.heap.size+1) 36 #[xa ao na ac,xa fo nf fc,xa (some ⟨nb,noff,sp⟩) nn nc]::iB w.heap.size 36 #[xa qa na ma,xa U nf J,xa (some ⟨g,0,none⟩) nn (nn+8)]::(iB g 33 cur::((xs.drop 0).map oS++hs.map qW)++X)) w0 w2 (N+2+0) a2 ay aD rs ws us):=aN;clear aN;go_wp2_with fail;clear c0 c1 he
 go_loopw [9,12] (fun o x wr=> ∃(i:Nat) (a':Lt) (bq:List Bk) (bP:List Ik),i<=nn/\o=xn true/\x=xd xh i/\Hid (LT lb (iB (w.heap.size+1) 36 #[xa ao na ac,xa fo nf fc,xa (some ⟨nb,noff,sp⟩) nn nc]::iB w.heap.size 36 #[xa qa na ma,xa U nf J,xa (some ⟨g,0,none⟩) nn (nn+8)]::(iB g 33 cur::((xs.drop i).map oS++hs.map qW)++X)) w0 wr (N+2+i) a' bq bP rs ws us)/\Hid (LtK a a')/\Hid (ReT bq qa na ma)/\Hid (ReI bP U nf J)) (fun _ x _=>nn - (intOf x).toNat)
 ·exact⟨0,a2,ay,aD,MD _,rfl,rfl,bl,aM,aj,ai⟩
 clear bl aM aj ai;obtain⟨i,a3,az,aE,hi,rfl,rfl,HT,HK,aj,ai⟩:=hrel;have g1:=(HT.keep (Ms ..)).p;have gg:=(HT.keep (Mr _ (Mr _ (Mz _ (Ms ..))))).p;have c1:=(cell_of_blk g1 2).trans rfl;have l1:=fh g1;have gl:=fh gg;rcases zc i nn with⟨hlt,hin⟩|⟨hlt,hin⟩
 ·have bI:i<xs.length:=by rw[ax.len];omega
  obtain⟨aB,av,ag,a7,aX⟩:=ax.at_ i xs[i] (ME bI);have gc:=(cell_of_blk gg i).trans aB;have aC:=List.drop_eq_getElem_cons bI;have aV:=(HT.keep (Mr _ (Mr _ (Mz _ (Mr _ (Mz _ (List.mem_map.2 ⟨xs[i],by rw[aC];exact Ms ..,rfl⟩))))))).p;obtain⟨x,hx⟩: ∃x,x=xs[i]:=⟨_,rfl⟩;rw[<-hx] at aB av aX gc aC aV;obtain rfl:sp=none:=aw.sp HT.bel (fun y hy=>(HT.keep (Mr _ (Mr _ (Mw _ hy)))).p) av;have a6:=(bm nb noff rfl i hlt).symm.trans aX;obtain⟨cr,aR,aW⟩:=aw.row HT.bel (fun y hy=>(HT.keep (Mr _ (Mr _ (Mw _ hy)))).p) hlt av a6;obtain⟨q,m,bb,hv,bD,b'⟩:=aV.shape aW;rw[hv] at gc bD;have bB:LT lb (lS x.o (xa q ag m) x.r::(iB (w.heap.size+1) 36 #[xa ao na ac,xa fo nf fc,xa (some ⟨nb,noff,none⟩) nn nc]::iB w.heap.size 36 #[xa qa na ma,xa U nf J,xa (some ⟨g,0,none⟩) nn (nn+8)]::(iB g 33 cur::((xs.drop (i+1)).map oS++hs.map qW)++X))) w0 wr (N+2+i) a3 az aE rs ws us:=by
   have h:=HT.out;rw[aC,List.map_cons] at h;have e:oS x=lS x.o (xa q ag m) x.r:=by unfold oS;rw[hv]
   rw[e] at h;exact h.permX (MF (l₁:=[iB (w.heap.size+1) 36 #[xa ao na ac,xa fo nf fc,xa (some ⟨nb,noff,none⟩) nn nc],iB w.heap.size 36 #[xa qa na ma,xa U nf J,xa (some ⟨g,0,none⟩) nn (nn+8)],iB g 33 cur]))
  have b4:=fa bB;have bX:=fa aW;have b5:=fa a6;have bY:=fa av;have aJ:(i:Int)<(nn:Int)+8:=zo;have bV:=fa (aB.trans (congrArg some hv));generalize x.o=ro at *;generalize x.r=rr at *;clear bB aW aX av a6 aV aC aB hv g1 gg hx HT;go_wp2;go_quiet (fail);go_wp2_with fail;refine wp_region_held_drew (S:=fun w'=>w'.cell? ⟨w.heap.size+1,2,none⟩=some (xa (some ⟨nb,noff,none⟩) nn nc)/\w.heap.size+1<w'.heap.size/\w'.cell? ⟨g,i,none⟩=some (xa q ag m)/\g<w'.heap.size/\w'.cell? ⟨nb,noff+i,none⟩=some (xa ro ag a7)/\nb<w'.heap.size) zk ?_ (fun I=> ?_)
  ·simp_all
  apply zt1 0 (xn true) I;apply zt1 1 (xn true) I;apply zt1 2 (xk (some ⟨lb,0,none⟩)) I;apply zt1 3 (xa (some ⟨g,0,none⟩) (nn+8) (nn+8)) I;apply zt1 4 (xd xh i) I;apply zt1 5 (xk (some ⟨g,i,none⟩)) I;apply zt1 6 (xa q ag m) I;apply zt1 7 (xk (some ⟨w.heap.size+1,2,none⟩)) I;apply zt1 8 (xa (some ⟨nb,noff,none⟩) nn nc) I;apply zt1 9 (xd xh i) I;apply zt1 10 (xk (some ⟨nb,noff+i,none⟩)) I;apply zt1 11 (xa ro ag a7) I;apply zrH 12;intro K hK;go_simp;refine(xF lb w0 _ (N+2+i) a3 az aE rs ws us ro q ag a7 m rr (b4.later (jA _ _)) (bX.later (jA _ _)) zo).mono ?_;rintro e w5 ⟨rfl,a5,b6,cc,bN,an,aI,aK,b9⟩;have bZ:=fa an;have g5:=(an.keep (Ms ..)).p;have aQ:=(an.keep (Mr _ (Mr _ (Mz _ (Ms ..))))).p;obtain⟨bt,aG,_⟩:=aw.row an.bel (fun y hy=>(an.keep (Mr _ (Mr _ (Mw _ hy)))).p) hlt bY b5;refine hK _ _ ⟨(cell_of_blk g5 2).trans rfl,fh g5,(cell_of_blk aQ i).trans bV,fh aQ,bt,aG⟩ (fun I=> ?_);clear hK K;apply zt1 13 (xn true) I;apply zt1 14 (xn true) I;refine wpAnyH_done zk ?_ _;have bW:=fa (HK.trans bN);have bh:=fa (aj.mono aI);have bg:=fa (ai.mono aK);clear I an g5 aQ bt aG bN aI aK b9 c1 l1 gc gl cr aR bD b';go_wp2
  go_roundw
  ·exact⟨i+1,a5,b6,cc,zo,rfl,zf,bZ,bW,bh,bg⟩
  simp[intOf];omega
 have bH:i=nn:=zo;have aO:Hid (LT lb (iB (w.heap.size+1) 36 #[xa ao na ac,xa fo nf fc,xa (some ⟨nb,noff,sp⟩) nn nc]::iB w.heap.size 36 #[xa qa na ma,xa U nf J,xa (some ⟨g,0,none⟩) nn (nn+8)]::(iB g 33 cur::(hs.map qW++X))) w0 wr (N+2+nn) a3 az aE rs ws us):=by
  have h:=HT.out;rw[List.drop_eq_nil_of_le (by rw[ax.len];omega),bH] at h;exact h
 have hhl:=ba.len;clear HT bH g1 c1 l1 hlt bm;go_wp2_with fail;generalize wr=wS at *
 go_loopw [9,13] (fun o x wq=> ∃k:Nat,nn<=k/\k<=nn+8/\o=xn true/\x=xd xh k/\wq=wS) (fun _ x _=>nn+8 - (intOf x).toNat)
 ·exact⟨nn,MG _,zo,rfl,rfl,rfl⟩
 obtain⟨k,hk0,aU,rfl,rfl,hw⟩:=hrel;have cb:=hw.symm;clear hw;subst cb;by_cases hlt:k<nn+8
 ·have aJ:(k:Int)<(nn:Int)+8:=zo;obtain⟨d,hd⟩: ∃d,k=nn+d:=⟨k - nn,zo⟩;have aT:d<hs.length:=zo;have aS:=ba.at_ d hs[d] (ME aT);rw[<-hd] at aS;have gd:=(aO.keep (Mr _ (Mr _ (Mr _ (Mz _ (List.mem_map.2 ⟨hs[d],MM aT,rfl⟩)))))).p;generalize hs[d]=bd at *;have gc:=(cell_of_blk gg k).trans aS;have gd0:=(cell_of_blk gd 0).trans rfl;clear aS gd hd aT gg;go_wp2
  go_roundw
  ·exact⟨k+1,zo,zo,rfl,zf,zp⟩
  simp[intOf];omega
 have aJ:¬ (k:Int)<(nn:Int)+8:=zo;have hP:=aO.permX (MF (l₁:=[iB (w.heap.size+1) 36 #[xa ao na ac,xa fo nf fc,xa (some ⟨nb,noff,sp⟩) nn nc],iB w.heap.size 36 #[xa qa na ma,xa U nf J,xa (some ⟨g,0,none⟩) nn (nn+8)]]));have ca:=hP.small zo;have aL:wS.ownsRow 0 33 1 (xa (some ⟨g,0,none⟩) (nn+8) (nn+8)) (nn+8) cur.toList:=by
  have h2:=ax.sz;exact⟨by simp[h2],Mt ⟨g,_,cur,rfl,MD _,gg,MG _,by unfold maxLen;omega,zo,List.take_of_length_le (by simp[h2])⟩⟩
 have bj:=fa (te wS lb (xa none 0 0) a3.M a3.rO a3.rn a3.rc (xa a3.tO a3.tn a3.tc) (xa a3.iO a3.im a3.ic) (xa none 0 0) (xa none 0 0) (xa a3.wO a3.wn a3.wc) (xa a3.eO a3.en a3.ec) a3.rv 0 0 (some ⟨g,0,none⟩) (nn+8) (nn+8) cur.toList hP.law.lw hP.law.rx (MD _) aL (MD _) zo zo zo);have HP:=fa hP;clear hP aL ca gg aO;go_wp2_with fail;refine bj.mono ?_;rintro e w6 aY;obtain⟨rO',rc',b,aR,_,bA⟩:=HP.markR (v:= xa (some ⟨g,0,none⟩) (nn+8) (nn+8)) (fun k hk=>by cases hk;rfl) aY;have he:=aY.1;subst he;have b3:=fa bA;clear aY bA bj HP;go_wp2;go_ret;have bF:=LT.dropL (Z:=iB (w.heap.size+1) 36 #[xa ao na ac,xa fo nf fc,xa (some ⟨nb,noff,sp⟩) nn nc]::iB w.heap.size 36 #[xa qa na ma,xa U nf J,xa (some ⟨g,0,none⟩) nn (nn+8)]::hs.map qW) (X:=X) b3;refine⟨rfl,_,az,aE,_, ?_,bF.more (N':=N+nn+3) zo,aj,ai,Mt ⟨b,g,Mw _ (List.mem_singleton.2 rfl),rfl,rfl,aR,hn11⟩⟩;exact HK
section
variable {lb : Nat} {X : List Th} {w0 w W w3 w' : World} {N g cap : Nat} {a a' : Lt} {bs : List Bk} {js : List Ik} {rs : List Rk} {ws us : List Wb} {vs : List Value}
theorem LT.turn(h:LT lb X w0 w N a bs js rs ws us)(hf:FrD (a.S lb) w w')(hn:a'.P lb w')(hs: ∀k,a'.S lb k->a.S lb k\/w.heap.size<=k)(I:a'.bv=a.bv)(J:a'.iv=a.iv)(U:a'.rv=a.rv)(h4:a'.M=a.M):LT lb X w0 w' N a' bs js rs ws us:=
 ⟨h.th.turn1 hf (Lt.ok hn) hs h.hB,h.bel.trans (Ths.bel (old:=[a.T lb]) h.th ⟨hf.os,hf.tape,hf.output,hf.size,fun k hk hn=>hf.block k hk (fun e=>hn ⟨_,List.mem_singleton.2 rfl,e⟩)⟩ h.hB),h.lo,I.trans h.bv,J.trans h.iv,U.trans h.rv,h4.trans h.M,h.nb,h.rt⟩
theorem LT.put(h:LT lb X w0 w N a bs js rs ws us)(I:Below w.heap.size w W){row:Option Nat}(hg:W.grownBy w3 row)(U: ∀k,row=some k->a.S lb k/\k≠lb)(i:Nat)(v:Value):
  FrD (a.S lb) w (w3.setCell ⟨lb,i,none⟩ v)/\(∃c,w.heap[lb]? =some (xi c 71 (0,0))/\(w3.setCell ⟨lb,i,none⟩ v).heap[lb]? =some (xi (c.setIfInBounds i v) 71 (0,0)))/\
   ∀{e z n:Nat} {u:Value} {xs:List Value},w.ownsRow 0 e z u n xs->e≠71->(∀k,u.ownBlock=some k->row≠some k)->(w3.setCell ⟨lb,i,none⟩ v).ownsRow 0 e z u n xs:=by
 have J:=h.law.lw;have hl:=fh J;have h3:=(hg.block lb (My hl I.size) (fun e=>(U lb e.symm).2 rfl)).trans ((I.block lb hl).trans J);refine⟨⟨hg.os.trans I.os,hg.tape.trans I.tape,hg.output.trans I.output,by have:=I.size;have:=hg.size;simp[World.setCell] at *;omega,fun k hk hn=>(MK _ _ _ _ (by show k≠lb;exact fun e=>hn (Mx e))).trans ((hg.block k (My hk I.size) (fun e=>hn (U k e.symm).1)).trans (I.block k hk))⟩,⟨_,J,fj h3 i v⟩,fun hr ae ad=> ?_⟩;refine jb hr (fun k hk=>(MK _ _ _ _ (by show k≠lb;exact fun e=>gp hr (e▸hk) J (fun e=>ae e.symm))).trans ((hg.block k (My (gG hr k hk).2 I.size) (fun e=>ad k hk e.symm)).trans (I.block k (gG hr k hk).2)))
theorem LT.putW(h:LT lb X w0 w N a bs js rs ws us)(hW:Below w.heap.size w W)(ho:w3.ownsRow 0 36 3 (xa (some ⟨g,0,none⟩) (a.wn+1) cap) (a.wn+1) (a.wv++vs))(hg:W.grownBy w3 (xa a.wO a.wn a.wc).ownBlock)(ad:(xa a.wO a.wn a.wc).ownBlock=some g\/W.heap.size<=g):
  LT lb X w0 (w3.setCell ⟨lb,7,none⟩ (xa (some ⟨g,0,none⟩) (a.wn+1) cap)) N {a with wO:=some ⟨g,0,none⟩,wn:=a.wn+1,wc:=cap,wv:=a.wv++vs} bs js rs ws us:=by
 have I:=h.law;obtain⟨hf,⟨c,hc,hb⟩,kp⟩:=h.put hW hg (fun k e=>⟨Mt (Mt (Mt (Mt (Mx e)))),fun e2=>gp I.wt (e2▸e) I.lw zp⟩) 7 (xa (some ⟨g,0,none⟩) (a.wn+1) cap);cases hc.symm.trans I.lw;have ai:=(hg.block lb (My (fh I.lw) hW.size) (fun e=>gp I.wt e.symm I.lw zp)).trans ((hW.block lb (fh I.lw)).trans I.lw);refine h.turn hf ⟨hb,kp I.tx zp (fun k J=>kU I.tx I.wt zp J),kp I.ix zp (fun k J=>kU I.ix I.wt zp J),kp I.rx zp (fun k J=>kU I.rx I.wt zp J),gq ho (fK _ _ _ _) (Mt (fun e=>gp ho e ai zp)),kp I.et zp (fun k J e=>I.ne k e J),fun k J he=> ?_⟩ (fun k J=> ?_) rfl rfl rfl rfl
 ·have e1:g=k:=Option.some.inj J;rcases ad with U|U
  ·exact I.ne k (e1▸U) he
  have:=(gG I.et k he).2;have:=hW.size;omega
 rcases J with e|e|e|e|e|e
 ·exact Mx (Mx e)
 ·exact zm141
 ·exact zm114
 ·exact zm82
 ·have e1:=Option.some.inj e;exact ad.imp (fun U=>Mt (Mt (Mt (Mt (Mx (e1▸U)))))) (fun U=>e1▸ML hW.size U)
 exact Mx (Mt (Mt (Mt (Mt (Mt e)))))
theorem LT.putE(h:LT lb X w0 w N a bs js rs ws us)(hW:Below w.heap.size w W)(ho:w3.ownsRow 0 36 3 (xa (some ⟨g,0,none⟩) (a.en+1) cap) (a.en+1) (a.ev++vs))(hg:W.grownBy w3 (xa a.eO a.en a.ec).ownBlock)(ad:(xa a.eO a.en a.ec).ownBlock=some g\/W.heap.size<=g):
  LT lb X w0 (w3.setCell ⟨lb,8,none⟩ (xa (some ⟨g,0,none⟩) (a.en+1) cap)) N {a with eO:=some ⟨g,0,none⟩,en:=a.en+1,ec:=cap,ev:=a.ev++vs} bs js rs ws us:=by
 have I:=h.law;obtain⟨hf,⟨c,hc,hb⟩,kp⟩:=h.put hW hg (fun k e=>⟨Mt (Mt (Mt (Mt (Mt e)))),fun e2=>gp I.et (e2▸e) I.lw zp⟩) 8 (xa (some ⟨g,0,none⟩) (a.en+1) cap);cases hc.symm.trans I.lw;have ai:=(hg.block lb (My (fh I.lw) hW.size) (fun e=>gp I.et e.symm I.lw zp)).trans ((hW.block lb (fh I.lw)).trans I.lw);refine h.turn hf ⟨hb,kp I.tx zp (fun k J=>kU I.tx I.et zp J),kp I.ix zp (fun k J=>kU I.ix I.et zp J),kp I.rx zp (fun k J=>kU I.rx I.et zp J),kp I.wt zp I.ne,gq ho (fK _ _ _ _) (Mt (fun e=>gp ho e ai zp)),fun k J he=> ?_⟩ (fun k J=> ?_) rfl rfl rfl rfl
 ·have e1:g=k:=Option.some.inj he;rcases ad with U|U
  ·exact I.ne k J (e1▸U)
  have:=(gG I.wt k J).2;have:=hW.size;omega
 rcases J with e|e|e|e|e|e
 ·exact Mx (Mx e)
 ·exact zm141
 ·exact zm114
 ·exact zm82
 ·exact zm100
 have e1:=Option.some.inj e;exact ad.imp (fun U=>Mt (Mt (Mt (Mt (Mt (e1▸U)))))) (fun U=>e1▸ML hW.size U)
end
theorem Jv:(prog.info? 36).map (fun i=>(i.zero,i.size,i.bytes))=some (some (.agg #[xa none 0 0,xa none 0 0,xa none 0 0]),3,72):=zk
theorem K5{o:Oper}(J:o.guard=none)(s x:Operand)(ho:o.op= .call {callee:= .builtin .append,args:= #[s,x],argTypes:= #[69,69]})(hs:a.eval s=v)(u1 u2 u3:Value)(hx:a.eval x=xa (some ⟨H,0,none⟩) 1 1)(hu: ∀u∈[u1,u2,u3],u.oneCell'=true)(I:w.ownsRow 0 36 3 v n xs)(hb:w.heap[H]? =some (xi #[u1,u2,u3] 36 (0,0)))(h63:n<=1000000000)
  (h: ∀g cap w',w'.ownsRow 0 36 3 (xa (some ⟨g,0,none⟩) (n+1) cap) (n+1) (xs++[u1,u2,u3])->w.grownBy w' v.ownBlock->(v.ownBlock=some g\/w.heap.size<=g)->K (a.put o.dst (xa (some ⟨g,0,none⟩) (n+1) cap)) w'):
  if Region.wanted o (yielded ops a.tmps)=true then Oper.wp prog o a w K Q else E:=by
 obtain⟨i0,U,aa,ad,ae⟩:=info_parts Jv;refine step_append_lies _ J s x 69 ho 0 36 i0 _ 3 72 underlying69 U aa ad ae rfl zp v n xs hs I ⟨H,0,none⟩ 1 1 [u1,u2,u3] hx rfl (World.news_of_block hb) hu zp ?_ ?_ (MD _) w.heap.size rfl ?_
 ·unfold maxLen;omega
 ·omega
 exact zm121
def Me(lb:Nat)(X:List Th)(w0:World)(N:Nat)(a:Lt)(bs:List Bk)(js:List Ik)(rs:List Rk)(ws us:List Wb)(l r:List Value)(w':World)(e:Ending):Prop:=
 e=xm (xn true)/\ ∃a':Lt,LT lb X w0 w' N a' bs js rs ws us/\a'.wv=a.wv++l/\a'.ev=a.ev++r/\a'.wn=a.wn+1/\a'.en=a.en+1
theorem ng(lb:Nat)(w0 w:World)(N:Nat)(a:Lt)(bs:List Bk)(js:List Ik)(rs:List Rk)(ws us:List Wb)(hT:LT lb X w0 w N a bs js rs ws us)(hw:a.wn<=900000000)(he:a.en<=900000000)(ao fo no bo go ho:Option Addr)(na ac nf fc nn nc ma bc mf gc mn hc:Nat):
  Calls prog 98 #[xk (some ⟨lb,0,none⟩),.agg #[xa ao na ac,xa fo nf fc,xa no nn nc],.agg #[xa bo ma bc,xa go mf gc,xa ho mn hc],xd xh 0] w fun e w'=>Me lb X w0 N a bs js rs ws us [xa ao na ac,xa fo nf fc,xa no nn nc] [xa bo ma bc,xa go mf gc,xa ho mn hc] w' e:=by
 have aE:LT lb (iB (w.heap.size+1) 36 #[xa bo ma bc,xa go mf gc,xa ho mn hc]::iB w.heap.size 36 #[xa ao na ac,xa fo nf fc,xa no nn nc]::X) w0 ((w.alloc (xi #[xa ao na ac,xa fo nf fc,xa no nn nc] 36)).alloc (xi #[xa bo ma bc,xa go mf gc,xa ho mn hc] 36)) N a bs js rs ws us:=(hT.hold gz (lA (ft _ _)) (fun k hk=>MJ hk.symm)).hold gz (lA (fk _ _ _ zp)) (fun k hk=>by have:k=w.heap.size+1:=hk;simp;omega);have HT:=fa aE;clear aE hT;go_in;go_wp2_with fail;generalize ((w.alloc (xi #[xa ao na ac,xa fo nf fc,xa no nn nc] 36)).alloc (xi #[xa bo ma bc,xa go mf gc,xa ho mn hc] 36))=W at *;generalize w.heap.size=tb at *;have ad:=(HT.keep (Mr _ (Ms ..))).p;have ar:=(List.pairwise_cons.1 (HT.th.ap)).1 _ (Mr _ (Ms ..));replace ad:W.heap[tb]? =some (xi #[xa ao na ac,xa fo nf fc,xa no nn nc] 36 (0,0)):=ad;have U:=fh ad;have aj:=HT.law;have c1:=(cell_of_blk aj.lw 7).trans rfl;have aO:=fh aj.lw;have ag:Below W.heap.size W (W.alloc (xi #[xa ao na ac,xa fo nf fc,xa no nn nc] 36)).drew:=gz.drew;refine wp_region_held_drew (S:=fun w'=>w'.cell? ⟨tb,0,none⟩=some (xa ao na ac)/\w'.cell? ⟨tb,1,none⟩=some (xa fo nf fc)/\w'.cell? ⟨tb,2,none⟩=some (xa no nn nc)) zk ?_ (fun I=> ?_)
 ·exact⟨cell_of_blk ad 0,cell_of_blk ad 1,cell_of_blk ad 2⟩
 apply zt1 0 (xk (some ⟨lb,0,none⟩)) I;apply zt1 1 (xk (some ⟨lb,0,none⟩)) I;apply zt1 2 (xk (some ⟨lb,0,none⟩)) I;apply zt1 3 (xk (some ⟨lb,7,none⟩)) I;apply zt1 5 (.agg #[xa ao na ac,xa fo nf fc,xa no nn nc]) I;refine zrH2 4 6 (fun K J=> ?_) fun K J=> ?_
 (go_simp;refine J _ _ I (fun I=> ?_);clear J K;apply zrH 6;intro K J;go_simp;refine J _ _ ⟨(Mu _ _ _ U).trans I.1,(Mu _ _ _ U).trans I.2.1,(Mu _ _ _ U).trans I.2.2⟩ (fun I=> ?_);clear J K)
 rotate_left
 (go_simp;refine J _ _ ⟨(Mu _ _ _ U).trans I.1,(Mu _ _ _ U).trans I.2.1,(Mu _ _ _ U).trans I.2.2⟩ (fun I=> ?_);clear J K;apply zrH 4;intro K J;go_simp;refine J _ _ I (fun I=> ?_);clear J K)
 all_goals (
  apply zrH 7;intro K J;refine K5 zf _ _ zf (v:= xa a.wO a.wn a.wc) (n:=a.wn) (xs:=a.wv) zf (H:=W.heap.size) (xa ao na ac) (xa fo nf fc) (xa no nn nc) zf (fun u hu=>by simp at hu;rcases hu with rfl|rfl|rfl<;>rfl) (fL aj.wt ag) (ft W _) zo ?_;intro g1 k1 q1 aJ aH aF;have an:=aH;have aC:=(an.block lb (My aO ag.size) (fun e=>gp aj.wt e.symm aj.lw zp)).trans (vW ag aj.lw);have aL:=(an.block tb (My U ag.size) (fun e=>ar _ (Mt<|Mt<|Mt<|Mt<|Mx<|e.symm) rfl)).trans (vW ag ad);have az:=fa (HT.putW ag aJ an aF);have x1:=(cell_of_blk aC 7).trans rfl;have y1:=fi aC 7;have aA:=cell_of_blk aL;refine J _ _ ⟨aA 0,aA 1,aA 2⟩ (fun I=> ?_);clear J K;clear aJ aH an aF aC aL c1 aO;apply zt1 8 (xk (some ⟨lb,0,none⟩)) I;apply zt1 9 (xk (some ⟨lb,7,none⟩)) I;apply zrH 10;intro K J;go_simp;refine J _ _ ⟨(MC _ _ _ _ (by show lb≠tb;exact fun e=>ar _ (Mx rfl) e)).trans I.1,(MC _ _ _ _ (by show lb≠tb;exact fun e=>ar _ (Mx rfl) e)).trans I.2.1,(MC _ _ _ _ (by show lb≠tb;exact fun e=>ar _ (Mx rfl) e)).trans I.2.2⟩ (fun I=> ?_);clear J K;refine wpAnyH_done zk ?_ _;clear I;clear ar ad U aj ag x1 y1 aA;generalize hw1:q1.setCell ⟨lb,7,none⟩ (xa (some ⟨g1,0,none⟩) (a.wn+1) k1)=w1 at *;clear hw1;have ae:=(az.keep (Ms ..)).p;have au:=(List.pairwise_cons.1 (az.th.ap)).1 _ (Ms ..);replace ae:w1.heap[(tb+1)]? =some (xi #[xa bo ma bc,xa go mf gc,xa ho mn hc] 36 (0,0)):=ae;have aa:=fh ae;have ak:=az.law;have c2:=(cell_of_blk ak.lw 8).trans rfl;have aP:=fh ak.lw;have ai:Below w1.heap.size w1 (w1.alloc (xi #[xa bo ma bc,xa go mf gc,xa ho mn hc] 36)).drew:=gz.drew;go_wp2_with fail;refine wp_region_held_drew (S:=fun w'=>w'.cell? ⟨(tb+1),0,none⟩=some (xa bo ma bc)/\w'.cell? ⟨(tb+1),1,none⟩=some (xa go mf gc)/\w'.cell? ⟨(tb+1),2,none⟩=some (xa ho mn hc)) zk ?_ (fun I=> ?_)
  ·exact⟨cell_of_blk ae 0,cell_of_blk ae 1,cell_of_blk ae 2⟩
  apply zt1 0 (xk (some ⟨lb,0,none⟩)) I;apply zt1 1 (xk (some ⟨lb,0,none⟩)) I;apply zt1 2 (xk (some ⟨lb,0,none⟩)) I;apply zt1 3 (xk (some ⟨lb,8,none⟩)) I;apply zt1 5 (.agg #[xa bo ma bc,xa go mf gc,xa ho mn hc]) I;refine zrH2 4 6 (fun K J=> ?_) fun K J=> ?_
  (go_simp;refine J _ _ I (fun I=> ?_);clear J K;apply zrH 6;intro K J;go_simp;refine J _ _ ⟨(Mu _ _ _ aa).trans I.1,(Mu _ _ _ aa).trans I.2.1,(Mu _ _ _ aa).trans I.2.2⟩ (fun I=> ?_);clear J K)
  rotate_left
  (go_simp;refine J _ _ ⟨(Mu _ _ _ aa).trans I.1,(Mu _ _ _ aa).trans I.2.1,(Mu _ _ _ aa).trans I.2.2⟩ (fun I=> ?_);clear J K;apply zrH 4;intro K J;go_simp;refine J _ _ I (fun I=> ?_);clear J K)
  all_goals (
   apply zrH 7;intro K J;refine K5 zf _ _ zf (v:= xa a.eO a.en a.ec) (n:=a.en) (xs:=a.ev) zf (H:=w1.heap.size) (xa bo ma bc) (xa go mf gc) (xa ho mn hc) zf (fun u hu=>by simp at hu;rcases hu with rfl|rfl|rfl<;>rfl) (fL ak.et ai) (ft w1 _) zo ?_;intro g2 k2 q2 aK aI aG;have aq:=aI;have aD:=(aq.block lb (My aP ai.size) (fun e=>gp ak.et e.symm ak.lw zp)).trans (vW ai ak.lw);have aM:=(aq.block (tb+1) (My aa ai.size) (fun e=>au _ (Mt<|Mt<|Mt<|Mt<|Mt<|e.symm) rfl)).trans (vW ai ae);have aR:=fa (az.putE ai aK aq aG);have x2:=(cell_of_blk aD 8).trans rfl;have y2:=fi aD 8;have aB:=cell_of_blk aM;refine J _ _ ⟨aB 0,aB 1,aB 2⟩ (fun I=> ?_);clear J K;clear aK aI aq aG aD aM c2 aP;apply zt1 8 (xk (some ⟨lb,0,none⟩)) I;apply zt1 9 (xk (some ⟨lb,8,none⟩)) I;apply zrH 10;intro K J;go_simp;refine J _ _ ⟨(MC _ _ _ _ (by show lb≠(tb+1);exact fun e=>au _ (Mx rfl) e)).trans I.1,(MC _ _ _ _ (by show lb≠(tb+1);exact fun e=>au _ (Mx rfl) e)).trans I.2.1,(MC _ _ _ _ (by show lb≠(tb+1);exact fun e=>au _ (Mx rfl) e)).trans I.2.2⟩ (fun I=> ?_);clear J K;refine wpAnyH_done zk ?_ _;clear I;clear au ae aa ak ai x2 y2 aB;go_wp2;go_ret;exact⟨rfl,_,aR.drop.drop,rfl,rfl,rfl,rfl⟩
   )
  )
theorem nh(w:World)(lb:Nat)(f:Int)(hf:f≠0):
  Calls prog 98 #[xk (some ⟨lb,0,none⟩),.agg #[xa none 0 0,xa none 0 0,xa none 0 0],.agg #[xa none 0 0,xa none 0 0,xa none 0 0],xd xh f] w fun e w'=>e=xm (xn true)/\Below w.heap.size w w':=by
 have e1:=fun V:World=>Av V
 have e2:=fun V:World=>qV V
 have e3:=fun V:World=>xO V
 go_in;go_wp2;go_ret;exact⟨rfl,gz.alloc zp _⟩
def Tw(R:Int->Option Tb->Prop)(w w':World)(e:Ending):Prop:=
 ∃f o,R f o/\((o=none/\f≠0/\e=xm (.tuple #[.agg #[xa none 0 0,xa none 0 0,xa none 0 0],xd xh f])/\Below w.heap.size w w')\/ ∃t,o=some t/\f=0/\DecT t w w' e)
def Un(R:Int->Option Tb->Prop):Prop:= ∀{f f' o o'},R f o->R f' o'->f=f'/\o=o'
def LN(t:Tb)(na nf nn:Nat)(w w':World)(e:Ending):Prop:= ∃ao fo no ac fc nc rv,e=xm (.tuple #[.agg #[xa ao na ac,xa fo nf fc,xa no nn nc],xd xh 0])/\TbW w' w.heap.size (xa ao na ac) (xa fo nf fc) (xa no nn nc) t rv/\Below w.heap.size w w'
theorem Tw.tab(h:Tw R w w' e)(U:Un R)(I:R 0 (some t))(ea:na=t.acts.length)(ef:nf=t.fl.length)(en:nn=t.nx.length):LN t na nf nn w w' e:=by
 subst ea;subst ef;subst en;obtain⟨f,o,J,⟨rfl,_⟩|⟨t',rfl,rfl,ao,fo,no,ac,fc,nc,rv,he,hT,_,hb⟩⟩:=h
 ·cases (U I J).2
 cases (U I J).2;exact⟨ao,fo,no,ac,fc,nc,rv,he,hT,hb⟩
theorem Tw.nil(h:Tw R w w' e)(U:Un R)(I:R f none):e=xm (.tuple #[.agg #[xa none 0 0,xa none 0 0,xa none 0 0],xd xh f])/\Below w.heap.size w w':=by
 obtain⟨f',o,J,⟨rfl,_,he,hb⟩|⟨t',rfl,_⟩⟩:=h
 ·cases (U I J).1;trivial
 cases (U I J).2
theorem Tw.lost(h:Tw R w w' e)(hn: ∀t,¬ R 0 (some t)): ∃f,R f none/\f≠0/\e=xm (.tuple #[.agg #[xa none 0 0,xa none 0 0,xa none 0 0],xd xh f])/\Below w.heap.size w w':=by
 obtain⟨f,o,hR,⟨rfl,hf,he,hb⟩|⟨t,rfl,rfl,_⟩⟩:=h
 ·simp_all
 simp_all
def DR(s:ByteArray)(f:Int)(o:Option Tb):Prop:=DecR s.data.toList o/\f=match o with|none=>6|some _=>0
theorem DR.un(s:ByteArray):Un (DR s):=fun⟨I,h2⟩ ⟨J,h4⟩=>by
 cases I.uniq J;simp_all
theorem DR.of{s:ByteArray}(h: ∃o,DecR s.data.toList o/\oZ KP w o w' e):Tw (DR s) w w' e:=by
 obtain⟨o,ho,I⟩:=h;cases o with
 |none=>exact⟨6,none,⟨ho,rfl⟩,Mx ⟨rfl,zp,I.2,I.1⟩⟩
 |some t=>exact⟨0,some t,⟨ho,rfl⟩,Mt ⟨t,rfl,rfl,DecT.of rfl ho.1 I⟩⟩
def CR(s:ByteArray)(f:Int)(o:Option Tb):Prop:=(∃x,iy s= .error x/\o=none/\f=x.2)\/ ∃al rs,iy s= .ok (al,rs)/\(nN al rs o\/qv al rs o)/\f=match o with|none=>5|some _=>0
theorem CR.un(s:ByteArray):Un (CR s):=fun {_ _ o o'} h h'=>by
 rcases h with⟨x,hx,rfl,rfl⟩|⟨al,rs,hx,hc,rfl⟩
 ·rcases h' with⟨y,hy,rfl,rfl⟩|⟨al,rs,hy,_⟩
  ·simp_all
  simp_all
 rcases h' with⟨y,hy,_⟩|⟨al',rs',hy,hc',rfl⟩
 ·simp_all
 rw[hx] at hy;cases hy;have I:=pw hx;have e:o=o':=by
  rcases hc with hc|hc<;>rcases hc' with hc'|hc'
  ·exact CmpR.alike hc hc' (fun _ _=>rfl)
  ·exact yv I hc hc'
  ·exact(yv I hc' hc).symm
  exact CmpR.alike hc hc' (fun _ _=>rfl)
 simp_all
theorem CR.right{s:ByteArray}(h:CR s 0 (some t)):RightT t:=by
 rcases h with⟨x,_,h,_⟩|⟨al,rs,hx,hc|hc,_⟩
 ·cases h
 ·exact vX hx hc
 exact uB hx hc
theorem CR.fault{s:ByteArray}(I:iy s= .error x)(J:Below w.heap.size w w')(he:e=xm (.tuple #[.agg #[xa none 0 0,xa none 0 0,xa none 0 0],xd xh x.2])):Tw (CR s) w w' e:=
 ⟨x.2,none,Mx ⟨x,I,rfl,rfl⟩,Mx ⟨rfl,fun e=>oM I zo,he,J⟩⟩
theorem CR.of{s:ByteArray}{rs:List Rl}(J:iy s= .ok (al,rs)){o:Option Tb}(hc:nN al rs o\/qv al rs o)(I:oZ Fj w o w' e):Tw (CR s) w w' e:=by
 cases o with
 |none=>exact⟨5,none,Mt ⟨al,rs,J,hc,rfl⟩,Mx ⟨rfl,zp,I.2,I.1⟩⟩
 |some t=>exact⟨0,some t,Mt ⟨al,rs,J,hc,rfl⟩,Mt ⟨t,rfl,rfl,DecT.of rfl (CR.right (Mt ⟨al,rs,J,hc,rfl⟩)) I⟩⟩
theorem CmpP.tw{s:ByteArray}(h:CmpP s w w' e):Tw (CR s) w w' e:=by
 unfold CmpP at h;cases hx:iy s with
 |error x=>rw[hx] at h;exact CR.fault hx h.1 h.2
 |ok m=>
  rw[hx] at h;obtain⟨o,ho,I⟩:=h;exact CR.of hx (Mx ho) I
theorem CmpQ.tw{s:ByteArray}(h:CmpQ s w w' e):Tw (CR s) w w' e:=by
 unfold CmpQ at h;cases hx:iy s with
 |error x=>rw[hx] at h;exact CR.fault hx h.1 h.2
 |ok m=>
  rw[hx] at h;obtain⟨o,ho,I⟩:=h;exact CR.of hx (Mt ho) I
theorem rG(s:ByteArray)(w:World)(I:GV w):Calls prog 17 #[xj s] w (fun e w'=>Tw (CR s) w w' e):=(BM s w I).mono fun _ _ h=>h.tw
theorem sI(s:ByteArray)(w:World):Calls prog 97 #[xj s] w (fun e w'=>Tw (CR s) w w' e):=(sJ s w).mono fun _ _ h=>h.tw
theorem ub(s:ByteArray)(w:World)(I:GV w):Calls prog 27 #[xj s] w (fun e w'=>Tw (DR s) w w' e):=(C9 w s I).mono fun _ _ h=>DR.of h
theorem z8(s:ByteArray)(w:World):Calls prog 145 #[xj s] w (fun e w'=>Tw (DR s) w w' e):=(BN w s).mono fun _ _ h=>DR.of h
def LG(lb:Nat)(X:List Th)(w0 w:World)(N:Nat):Prop:=
 ∃a bs js rs ws us,LT lb X w0 w N a bs js rs ws us/\a.wv=qu ws/\a.ev=us.flatMap (fun x=>qu [x,x])/\ws.map Wb.t=us.flatMap (fun x=>[x.t,x.t])/\bs.length+js.length+rs.length+103 * ws.length<=N
section
variable {lb : Nat} {X : List Th} {w0 w w' : World} {N : Nat} {a : Lt} {bs : List Bk} {js : List Ik} {rs : List Rk} {ws us : List Wb} {x y : Wb}
theorem LG.later(h:LG lb X w0 w N)(I:Below w.heap.size w w'):LG lb X w0 w' N:=by
 obtain⟨a,bs,js,rs,ws,us,h,hr⟩:=h;exact⟨a,bs,js,rs,ws,us,h.later I,hr⟩
theorem LG.more(h:LG lb X w0 w N)(hn:N<=N'):LG lb X w0 w N':=by
 obtain⟨a,bs,js,rs,ws,us,h,I,J,U,h4⟩:=h;exact⟨a,bs,js,rs,ws,us,h.more hn,I,J,U,ML h4 hn⟩
theorem LG.drop{z:Th}(h:LG lb (z::X) w0 w N):LG lb X w0 w N:=by
 obtain⟨a,bs,js,rs,ws,us,h,hr⟩:=h;exact⟨a,bs,js,rs,ws,us,h.drop,hr⟩
theorem LG.keep(h:LG lb X w0 w N){z:Th}(I:z∈X):z.P w:=by
 obtain⟨a,bs,js,rs,ws,us,h,hr⟩:=h;exact(h.keep I).p
theorem LG.bel(h:LG lb X w0 w N):Below w0.heap.size w0 w:=by
 obtain⟨a,bs,js,rs,ws,us,h,hr⟩:=h;exact h.lo▸h.bel
theorem LG.boxed(h:LG lb X w0 w N)(ty:Nat)(c:Array Value):LG lb (iB w.heap.size ty c::X) w0 (w.alloc (xi c ty)) N:=by
 obtain⟨a,bs,js,rs,ws,us,h,hr⟩:=h;exact⟨a,bs,js,rs,ws,us,h.hold gz (lA (ft _ _)) (fun k I=>MJ I.symm),hr⟩
theorem LT.gv(h:LT lb X w0 w N a bs js rs ws us)(I:GV w0):GV w:=I.later (h.lo▸h.bel)
theorem LT.held(h:LT lb X w0 w N a bs js rs ws us)(J:Below w.heap.size w w')(I:TbW w' w.heap.size x.A x.F x.X x.t x.rv):LT lb (iU x::X) w0 w' N a bs js rs ws us:=h.hold J (Lx I.low) (fun k U=>K9 I U)
theorem LT.boxed(h:LT lb X w0 w N a bs js rs ws us)(ty:Nat)(c:Array Value):LT lb (iB w.heap.size ty c::X) w0 (w.alloc (xi c ty)) N a bs js rs ws us:=h.hold gz (lA (ft _ _)) (fun k I=>MJ I.symm)
theorem Kb(l:List Wb):(qu l).length=l.length * 3:=by
 induction l with
 |nil=>rfl
 |cons d r ih=>unfold qu at ih|-;rw[MI,MH,ih];show 3+_=_;rw[MN];omega
theorem LT.wlen(h:LT lb X w0 w N a bs js rs ws us)(h1:a.wv=qu ws)(h2:a.ev=us.flatMap (fun x=>qu [x,x]))(h3:ws.map Wb.t=us.flatMap (fun x=>[x.t,x.t])):a.wn=ws.length/\a.en=ws.length:=by
 have I:=h.law.wt.1;have J:=h.law.et.1;have U:=congrArg List.length h3;have e4:(us.flatMap (fun x=>qu [x,x])).length=us.length * 6/\(us.flatMap (fun x=>[x.t,x.t])).length=us.length * 2:=by
  clear h1 h2 h3 I J U h
  induction us with
  |nil=>simp
  |cons d r ih=>
   obtain⟨i1,i2⟩:=ih;rw[MI,MI,MH,MH,i1,i2,MN];exact⟨by show 6+_=_;omega,by show 2+_=_;omega⟩
 rw[h1,Kb] at I;rw[h2,e4.1] at J;rw[List.length_map,e4.2] at U;omega
theorem LT.perm1(h:LT lb (iU x::X) w0 w N a bs js rs ws us)(J I:List Wb)(l r:List Wb)(e:ws++us=l++r)(U:J++I=l++x::r)(h1: ∀x∈J,RightT x.t)(h2: ∀x∈I,RightT x.t):LT lb X w0 w N a bs js rs J I:=by
 refine⟨h.th.perm (List.Perm.cons _ ?_),h.bel,h.lo,h.bv,h.iv,h.rv,h.M,h.nb,h1,h2⟩;have e1:X++(bs.map kH++(js.map kP++(rs.map kM++(J.map iU++I.map iU))))=(X++(bs.map kH++(js.map kP++(rs.map kM++l.map iU))))++iU x::r.map iU:=by rw[<-MO,U];simp
 have e2:X++(bs.map kH++(js.map kP++(rs.map kM++(ws.map iU++us.map iU))))=(X++(bs.map kH++(js.map kP++(rs.map kM++l.map iU))))++r.map iU:=by rw[<-MO,e];simp
 rw[e1];show(iU x::(X++_)).Perm _;rw[e2];exact List.perm_middle.symm
theorem LT.waits(h:LT lb (iU x::X) w0 w N a bs js rs ws us)(hr:RightT x.t):LT lb X w0 w N a bs js rs (ws++[x]) us:=
 h.perm1 _ _ ws us rfl zp (fun z I=>(List.mem_append.1 I).elim (h.rt.1 z) (fun e=>List.mem_singleton.1 e▸hr)) h.rt.2
theorem LT.weres(h:LT lb (iU x::X) w0 w N a bs js rs ws us)(hr:RightT x.t):LT lb X w0 w N a bs js rs ws (us++[x]):=
 h.perm1 _ _ (ws++us) [] zp zp h.rt.1 (fun z I=>(List.mem_append.1 I).elim (h.rt.2 z) (fun e=>List.mem_singleton.1 e▸hr))
theorem LG.two{J U B3:Th}{z:Wb}(h:LT lb (B3::iU z::U::iU y::J::iU x::X) w0 w N a' bs js rs ws us)(h1:a.wv=qu ws)(h2:a.ev=us.flatMap (fun x=>qu [x,x]))(h3:ws.map Wb.t=us.flatMap (fun x=>[x.t,x.t]))(h4:bs.length+js.length+rs.length+103 * ws.length<=N)(hw:a'.wv=a.wv++[x.A,x.F,x.X]++[y.A,y.F,y.X])(he:a'.ev=a.ev++[z.A,z.F,z.X]++[z.A,z.F,z.X])(hx:x.t=z.t)(hy:y.t=z.t)(I:RightT z.t):
  LG lb X w0 w (N+206):=by
 refine⟨a',bs,js,rs,ws++[x]++[y],us++[z], ?_, ?_, ?_, ?_, ?_⟩
 ·have hz:=h.drop.weres I;have h5:=(hz.drop.permX (List.Perm.trans (List.Perm.swap _ _ _) (List.Perm.cons _ (List.Perm.swap _ _ _)))).drop.waits (x:=x) (by rw[hx];exact I);exact(h5.waits (by rw[hy];exact I)).more zo
 ·rw[hw,h1];unfold qu;simp
 ·rw[he,h2];unfold qu;simp
 ·simp_all
 simp;omega
end
set_option maxHeartbeats 4000000
theorem nX{x a:α}{l:List α}:x∈a::x::l:=Mr _ (Ms ..)
theorem qd{x a b:α}{l:List α}:x∈a::b::x::l:=Mr _ nX
theorem Hj{x a b c:α}{l:List α}:x∈a::b::c::x::l:=Mr _ qd
theorem xT{x a b c d:α}{l:List α}:x∈a::b::c::d::x::l:=Mr _ Hj
theorem KL{x a b c d e:α}{l:List α}:x∈a::b::c::d::e::x::l:=Mr _ xT
theorem oT(w:World)(ao fo no U go ho:Option Addr)(ac fc nc J gc hc na nf nn:Nat)(t:Tb)(rv ad:List Value)(h1:TbW w 0 (xa ao na ac) (xa fo nf fc) (xa no nn nc) t rv)(h2:TbW w 0 (xa U na J) (xa go nf gc) (xa ho nn hc) t ad)(hR:RightT t):
  Calls prog 62 #[.agg #[xa ao na ac,xa fo nf fc,xa no nn nc],.agg #[xa U na J,xa go nf gc,xa ho nn hc]] w fun e w'=>e=xm (xn true)/\Below w.heap.size w w':=by
 obtain⟨I,ea,ef,en⟩:=h1.read hR.small;obtain⟨i2,_⟩:=h2.read hR.small;exact sF w ao fo no U go ho ac fc nc J gc hc na nf nn t.z ⟨I.acts,I.fl,I.nx⟩ ⟨i2.acts,i2.fl,i2.nx⟩ ⟨I.al,I.fll,I.nxl,I.rl⟩ ea (by rw[ef];exact(lG _).symm) (by rw[en];unfold Tb.z;simp)
theorem qF(w:World):Calls prog 62 #[.agg #[xa none 0 0,xa none 0 0,xa none 0 0],.agg #[xa none 0 0,xa none 0 0,xa none 0 0]] w fun e w'=>e=xm (xn true)/\Below w.heap.size w w':=
 sF w none none none none none none 0 0 0 0 0 0 0 0 0 ⟨[],[],[]⟩ ⟨fun j x h=>(by cases h),fun j x h=>(by cases h),fun j x h=>(by cases h)⟩ ⟨fun j x h=>(by cases h),fun j x h=>(by cases h),fun j x h=>(by cases h)⟩ ⟨MD _,MD _,MD _,fun r h=>(by cases h)⟩ rfl rfl rfl
theorem H'(lb:Nat)(X:List Th)(w0 w:World)(N:Nat)(hL:LG lb X w0 w N)(hG:GV w0)(hN:N<=900000000)(b:ByteArray)(t:Tb)(h0:DR b 0 (some t)):
  Calls prog 100 #[xk (some ⟨lb,0,none⟩),xj b] w fun e w'=>e=xm (xn true)/\LG lb X w0 w' (N+206):=by
 obtain⟨a,bs,js,rs,ws,us,hT,h1,h2,h3,h4⟩:=hL;have HG:=fa hG;have HT:=fa hT;have H1:=fa h1;have H2:=fa h2;have H3:=fa h3;have H4:=fa h4;have HR:=fa h0.1.1;have H0:=fa h0;obtain⟨na,ea⟩: ∃n,n=t.acts.length:=⟨_,rfl⟩;obtain⟨nf,ef⟩: ∃n,n=t.fl.length:=⟨_,rfl⟩;obtain⟨nn,en⟩: ∃n,n=t.nx.length:=⟨_,rfl⟩;have EA:=fa ea;have EF:=fa ef;have EN:=fa en;have ba:=hT.wlen h1 h2 h3;have hwa:a.wn<=800000000:=zo;have hwe:a.en<=800000000:=zo;clear hG hT h1 h2 h3 h4 h0 ea ef en ba;have HC:=fa (ub b w (HT.gv HG));go_in;go_wp2_with fail;refine HC.mono ?_;clear HC;intro e w1 hc;obtain⟨a1,f1,n1,c1,d1,e1,bf,rfl,hW,I⟩:=hc.tab (DR.un b) H0 EA EF EN;have an:=fa ((HT.held (x:=⟨t,xa a1 na c1,xa f1 nf d1,xa n1 nn e1,bf⟩) I hW).boxed 36 #[xa a1 na c1,xa f1 nf d1,xa n1 nn e1]);clear hc hW I HT;have HC:=fa (ub b (w1.alloc (xi #[xa a1 na c1,xa f1 nf d1,xa n1 nn e1] 36)) (an.gv HG));go_wp2_with fail;refine HC.mono ?_;clear HC;generalize w1.alloc (xi #[xa a1 na c1,xa f1 nf d1,xa n1 nn e1] 36)=W1 at *;generalize w1.heap.size=b1 at *;intro e w2 hc;obtain⟨a2,f2,n2,c2,d2,e2,bg,rfl,hW,I⟩:=hc.tab (DR.un b) H0 EA EF EN;have aC:=fa ((an.held (x:=⟨t,xa a2 na c2,xa f2 nf d2,xa n2 nn e2,bg⟩) I hW).boxed 36 #[xa a2 na c2,xa f2 nf d2,xa n2 nn e2]);clear hc hW I an;have HC:=fa (z8 b (w2.alloc (xi #[xa a2 na c2,xa f2 nf d2,xa n2 nn e2] 36)));go_wp2_with fail;refine HC.mono ?_;clear HC;generalize w2.alloc (xi #[xa a2 na c2,xa f2 nf d2,xa n2 nn e2] 36)=W2 at *;generalize w2.heap.size=b2 at *;intro e w3 hc;obtain⟨a3,f3,n3,c3,d3,e3,bh,rfl,hW,I⟩:=hc.tab (DR.un b) H0 EA EF EN;have J:=fa ((aC.held (x:=⟨t,xa a3 na c3,xa f3 nf d3,xa n3 nn e3,bh⟩) I hW).boxed 36 #[xa a3 na c3,xa f3 nf d3,xa n3 nn e3]);clear hc hW I aC;have k1:=(J.keep xT).p;have p1:=cell_of_blk k1;clear k1;have k3:=(J.keep (Ms ..)).p;have p3:=cell_of_blk k3;clear k3;have HS:=fa (oT (w3.alloc (xi #[xa a3 na c3,xa f3 nf d3,xa n3 nn e3] 36)) _ _ _ _ _ _ _ _ _ _ _ _ _ _ _ t _ _ (J.keep KL).p (J.keep nX).p HR);go_wp2_with fail;refine HS.mono ?_;clear HS p1 p3;generalize w3.alloc (xi #[xa a3 na c3,xa f3 nf d3,xa n3 nn e3] 36)=W3 at *;generalize w3.heap.size=b3 at *;rintro e w4 ⟨rfl,I⟩;have U:=fa (J.later I);clear I J;have k2:=(U.keep qd).p;have p2:=cell_of_blk k2;clear k2;have k3:=(U.keep (Ms ..)).p;have p3:=cell_of_blk k3;clear k3;have HS:=fa (oT w4 _ _ _ _ _ _ _ _ _ _ _ _ _ _ _ t _ _ (U.keep Hj).p (U.keep nX).p HR);go_wp2_with fail;refine HS.mono ?_;clear HS p2 p3;rintro e w5 ⟨rfl,I⟩;have ag:=fa (U.later I);clear I U;have k1:=(ag.keep xT).p;have p1:=cell_of_blk k1;clear k1;have k3:=(ag.keep (Ms ..)).p;have p3:=cell_of_blk k3;clear k3
 go_wp2_with (refine(pJ).mono ?_)
 rintro e w8 ⟨rfl,aQ⟩;have hw:=aQ.symm;clear aQ;subst hw;have HK:=fa (ng lb w0 w5 N a bs js rs ws us ag zo zo a1 f1 n1 a3 f3 n3 na c1 nf d1 nn e1 na c3 nf d3 nn e3);go_wp2_with fail;refine HK.mono ?_;clear HK p1 p3 ag;rintro e w6 ⟨rfl,a',aM,ad,aa,ar,aq⟩;have ai:=fa aM;have HV:=fa ad;have HE:=fa aa;have aO:a'.wn<=900000000:=zo;have aP:a'.en<=900000000:=zo;clear aM ad aa ar aq;have k2:=(ai.keep qd).p;have p2:=cell_of_blk k2;clear k2;have k3:=(ai.keep (Ms ..)).p;have p3:=cell_of_blk k3;clear k3;have HK:=fa (ng lb w0 w6 N a' bs js rs ws us ai aO aP a2 f2 n2 a3 f3 n3 na c2 nf d2 nn e2 na c3 nf d3 nn e3);clear aO aP;go_wp2_with fail;refine HK.mono ?_;clear HK p2 p3 ai;rintro e w7 ⟨rfl,a2',aN,ad,aa,ar,aq⟩;have HL:=fa (LG.two aN H1 H2 H3 H4 (by rw[ad,HV.out]) (by rw[aa,HE.out]) rfl rfl HR);clear aN ad aa ar aq;go_wp2;go_ret;trivial
theorem H9(lb:Nat)(X:List Th)(w0 w:World)(N:Nat)(hL:LG lb X w0 w N)(hG:GV w0)(hN:N<=900000000)(b:ByteArray)(h0: ∀t,¬ DR b 0 (some t)):
  Calls prog 100 #[xk (some ⟨lb,0,none⟩),xj b] w fun e w'=>e=xm (xn true)/\LG lb X w0 w' (N+206):=by
 obtain⟨a,bs,js,rs,ws,us,hT,h1,h2,h3,h4⟩:=hL;have HG:=fa hG;have HT:=fa hT;have H1:=fa h1;have H2:=fa h2;have H3:=fa h3;have H4:=fa h4;have H0:=fa h0;clear hG hT h1 h2 h3 h4 h0;have HC:=fa (ub b w (HT.gv HG));go_in;go_wp2_with fail;refine HC.mono ?_;clear HC;intro e w1 hc;obtain⟨f,ar,hf,rfl,I⟩:=hc.lost H0;have HF:=fa ar;have av:=fa hf;clear ar H0 hf;have ai:=fa ((HT.later I).boxed 36 #[xa none 0 0,xa none 0 0,xa none 0 0]);clear hc I HT;have HC:=fa (ub b (w1.alloc (xi #[xa none 0 0,xa none 0 0,xa none 0 0] 36)) (ai.gv HG));go_wp2_with fail;refine HC.mono ?_;clear HC;generalize w1.alloc (xi #[xa none 0 0,xa none 0 0,xa none 0 0] 36)=W1 at *;generalize w1.heap.size=b1 at *;intro e w2 hc;obtain⟨rfl,I⟩:=hc.nil (DR.un b) HF;have aq:=fa ((ai.later I).boxed 36 #[xa none 0 0,xa none 0 0,xa none 0 0]);clear hc I ai;have HC:=fa (z8 b (w2.alloc (xi #[xa none 0 0,xa none 0 0,xa none 0 0] 36)));go_wp2_with fail;refine HC.mono ?_;clear HC;generalize w2.alloc (xi #[xa none 0 0,xa none 0 0,xa none 0 0] 36)=W2 at *;generalize w2.heap.size=b2 at *;intro e w3 hc;obtain⟨rfl,I⟩:=hc.nil (DR.un b) HF;have U:=fa ((aq.later I).boxed 36 #[xa none 0 0,xa none 0 0,xa none 0 0]);clear hc I aq;have k1:=(U.keep qd).p;have p1:=cell_of_blk k1;clear k1;have J:=(U.keep (Ms ..)).p;have p3:=cell_of_blk J;clear J;have HS:=fa (qF (w3.alloc (xi #[xa none 0 0,xa none 0 0,xa none 0 0] 36)));go_wp2_with fail;refine HS.mono ?_;clear HS p1 p3;generalize w3.alloc (xi #[xa none 0 0,xa none 0 0,xa none 0 0] 36)=W3 at *;generalize w3.heap.size=b3 at *;rintro e w4 ⟨rfl,I⟩;have aa:=fa (U.later I);clear I U;have k2:=(aa.keep nX).p;have p2:=cell_of_blk k2;clear k2;have J:=(aa.keep (Ms ..)).p;have p3:=cell_of_blk J;clear J;have HS:=fa (qF w4);go_wp2_with fail;refine HS.mono ?_;clear HS p2 p3;rintro e w5 ⟨rfl,I⟩;have ad:=fa (aa.later I);clear I aa;have k1:=(ad.keep qd).p;have p1:=cell_of_blk k1;clear k1;have J:=(ad.keep (Ms ..)).p;have p3:=cell_of_blk J;clear J;have hf:=av.out
 go_wp2_with (refine(pJ).mono ?_)
 rintro e w8 ⟨rfl,au⟩;have hw:=au.symm;clear au;subst hw;have HK:=fa (nh w5 lb f hf);go_wp2_with fail;refine HK.mono ?_;clear HK p1 p3;rintro e w6 ⟨rfl,I⟩;have ae:=fa (ad.later I);clear I ad;have k2:=(ae.keep nX).p;have p2:=cell_of_blk k2;clear k2;have J:=(ae.keep (Ms ..)).p;have p3:=cell_of_blk J;clear J;have HK:=fa (nh w6 lb f hf);go_wp2_with fail;refine HK.mono ?_;clear HK p2 p3;rintro e w7 ⟨rfl,I⟩;have HL:Hid (LG lb X w0 w7 (N+206)):=LG.more ⟨a,bs,js,rs,ws,us,(ae.later I).drop.drop.drop,H1,H2,H3,H4⟩ zo;clear I ae;go_wp2;go_ret;trivial
theorem GG(lb:Nat)(X:List Th)(w0 w:World)(N:Nat)(hL:LG lb X w0 w N)(hG:GV w0)(hN:N<=900000000)(oa:Int)(b ot:ByteArray)(l1:Option Addr)(l2 l3:Nat)(g1:Option Addr)(g2 g3:Nat)(m1:Option Addr)(m2 m3:Nat)(t:Tb)(h0:CR b 0 (some t)):
  Calls prog 54 #[xk (some ⟨lb,0,none⟩),.agg #[xd xh 3,xd xh oa,xj b,xj ot,xa l1 l2 l3,xa g1 g2 g3,xa m1 m2 m3]] w fun e w'=>e=xm (xn true)/\LG lb X w0 w' (N+206):=by
 replace hL:=hL.boxed 74 #[xd xh 3,xd xh oa,xj b,xj ot,xa l1 l2 l3,xa g1 g2 g3,xa m1 m2 m3];obtain⟨a,bs,js,rs,ws,us,hT,h1,h2,h3,h4⟩:=hL;have HG:=fa hG;have HT:=fa hT;have H1:=fa h1;have H2:=fa h2;have H3:=fa h3;have H4:=fa h4;have HR:=fa h0.right;have H0:=fa h0;obtain⟨na,ea⟩: ∃n,n=t.acts.length:=⟨_,rfl⟩;obtain⟨nf,ef⟩: ∃n,n=t.fl.length:=⟨_,rfl⟩;obtain⟨nn,en⟩: ∃n,n=t.nx.length:=⟨_,rfl⟩;have EA:=fa ea;have EF:=fa ef;have EN:=fa en;have bg:=hT.wlen h1 h2 h3;have hwa:a.wn<=800000000:=zo;have hwe:a.en<=800000000:=zo;clear hG hT h1 h2 h3 h4 h0 ea ef en bg;have HC:=fa (rG b (w.alloc (xi #[xd xh 3,xd xh oa,xj b,xj ot,xa l1 l2 l3,xa g1 g2 g3,xa m1 m2 m3] 74)) (HT.gv HG));go_in;go_wp2_with fail;refine HC.mono ?_;clear HC;generalize w.alloc (xi #[xd xh 3,xd xh oa,xj b,xj ot,xa l1 l2 l3,xa g1 g2 g3,xa m1 m2 m3] 74)=w9 at *;generalize w.heap.size=ob at *;intro e w1 hc;obtain⟨a1,f1,n1,c1,d1,e1,bl,rfl,hW,I⟩:=hc.tab (CR.un b) H0 EA EF EN;have ag:=fa ((HT.held (x:=⟨t,xa a1 na c1,xa f1 nf d1,xa n1 nn e1,bl⟩) I hW).boxed 36 #[xa a1 na c1,xa f1 nf d1,xa n1 nn e1]);clear hc hW I HT;have HC:=fa (rG b (w1.alloc (xi #[xa a1 na c1,xa f1 nf d1,xa n1 nn e1] 36)) (ag.gv HG));have q1:=(ag.keep qd).p;have o1:=cell_of_blk q1 2;clear q1;go_wp2_with fail;refine HC.mono ?_;clear HC o1;generalize w1.alloc (xi #[xa a1 na c1,xa f1 nf d1,xa n1 nn e1] 36)=W1 at *;generalize w1.heap.size=b1 at *;intro e w2 hc;obtain⟨a2,f2,n2,c2,d2,e2,bm,rfl,hW,I⟩:=hc.tab (CR.un b) H0 EA EF EN;have aq:=fa ((ag.held (x:=⟨t,xa a2 na c2,xa f2 nf d2,xa n2 nn e2,bm⟩) I hW).boxed 36 #[xa a2 na c2,xa f2 nf d2,xa n2 nn e2]);clear hc hW I ag;have HC:=fa (sI b (w2.alloc (xi #[xa a2 na c2,xa f2 nf d2,xa n2 nn e2] 36)));have q2:=(aq.keep xT).p;have o2:=cell_of_blk q2 2;clear q2;go_wp2_with fail;refine HC.mono ?_;clear HC o2;generalize w2.alloc (xi #[xa a2 na c2,xa f2 nf d2,xa n2 nn e2] 36)=W2 at *;generalize w2.heap.size=b2 at *;intro e w3 hc;obtain⟨a3,f3,n3,c3,d3,e3,bn,rfl,hW,I⟩:=hc.tab (CR.un b) H0 EA EF EN;have J:=fa ((aq.held (x:=⟨t,xa a3 na c3,xa f3 nf d3,xa n3 nn e3,bn⟩) I hW).boxed 36 #[xa a3 na c3,xa f3 nf d3,xa n3 nn e3]);clear hc hW I aq;have k1:=(J.keep xT).p;have p1:=cell_of_blk k1;clear k1;have k3:=(J.keep (Ms ..)).p;have p3:=cell_of_blk k3;clear k3;have HS:=fa (oT (w3.alloc (xi #[xa a3 na c3,xa f3 nf d3,xa n3 nn e3] 36)) _ _ _ _ _ _ _ _ _ _ _ _ _ _ _ t _ _ (J.keep KL).p (J.keep nX).p HR);go_wp2_with fail;refine HS.mono ?_;clear HS p1 p3;generalize w3.alloc (xi #[xa a3 na c3,xa f3 nf d3,xa n3 nn e3] 36)=W3 at *;generalize w3.heap.size=b3 at *;rintro e w4 ⟨rfl,I⟩;have U:=fa (J.later I);clear I J;have k2:=(U.keep qd).p;have p2:=cell_of_blk k2;clear k2;have k3:=(U.keep (Ms ..)).p;have p3:=cell_of_blk k3;clear k3;have HS:=fa (oT w4 _ _ _ _ _ _ _ _ _ _ _ _ _ _ _ t _ _ (U.keep Hj).p (U.keep nX).p HR);go_wp2_with fail;refine HS.mono ?_;clear HS p2 p3;rintro e w5 ⟨rfl,I⟩;have ai:=fa (U.later I);clear I U;have k1:=(ai.keep xT).p;have p1:=cell_of_blk k1;clear k1;have k3:=(ai.keep (Ms ..)).p;have p3:=cell_of_blk k3;clear k3
 go_wp2_with (refine(pJ).mono ?_)
 rintro e w8 ⟨rfl,aQ⟩;have hw:=aQ.symm;clear aQ;subst hw;have HK:=fa (ng lb w0 w5 N a bs js rs ws us ai zo zo a1 f1 n1 a3 f3 n3 na c1 nf d1 nn e1 na c3 nf d3 nn e3);go_wp2_with fail;refine HK.mono ?_;clear HK p1 p3 ai;rintro e w6 ⟨rfl,a',aM,ad,aa,au,ar⟩;have aj:=fa aM;have HV:=fa ad;have HE:=fa aa;have aO:a'.wn<=900000000:=zo;have aP:a'.en<=900000000:=zo;clear aM ad aa au ar;have k2:=(aj.keep qd).p;have p2:=cell_of_blk k2;clear k2;have k3:=(aj.keep (Ms ..)).p;have p3:=cell_of_blk k3;clear k3;have HK:=fa (ng lb w0 w6 N a' bs js rs ws us aj aO aP a2 f2 n2 a3 f3 n3 na c2 nf d2 nn e2 na c3 nf d3 nn e3);clear aO aP;go_wp2_with fail;refine HK.mono ?_;clear HK p2 p3 aj;rintro e w7 ⟨rfl,a2',aN,ad,aa,au,ar⟩;have HL:=fa (LG.two aN H1 H2 H3 H4 (by rw[ad,HV.out]) (by rw[aa,HE.out]) rfl rfl HR);clear aN ad aa au ar;go_wp2;go_ret;exact⟨rfl,HL.drop⟩
theorem GD(lb:Nat)(X:List Th)(w0 w:World)(N:Nat)(hL:LG lb X w0 w N)(hG:GV w0)(hN:N<=900000000)(oa:Int)(b ot:ByteArray)(l1:Option Addr)(l2 l3:Nat)(g1:Option Addr)(g2 g3:Nat)(m1:Option Addr)(m2 m3:Nat)(h0: ∀t,¬ CR b 0 (some t)):
  Calls prog 54 #[xk (some ⟨lb,0,none⟩),.agg #[xd xh 3,xd xh oa,xj b,xj ot,xa l1 l2 l3,xa g1 g2 g3,xa m1 m2 m3]] w fun e w'=>e=xm (xn true)/\LG lb X w0 w' (N+206):=by
 replace hL:=hL.boxed 74 #[xd xh 3,xd xh oa,xj b,xj ot,xa l1 l2 l3,xa g1 g2 g3,xa m1 m2 m3];obtain⟨a,bs,js,rs,ws,us,hT,h1,h2,h3,h4⟩:=hL;have HG:=fa hG;have HT:=fa hT;have H1:=fa h1;have H2:=fa h2;have H3:=fa h3;have H4:=fa h4;have H0:=fa h0;clear hG hT h1 h2 h3 h4 h0;have HC:=fa (rG b (w.alloc (xi #[xd xh 3,xd xh oa,xj b,xj ot,xa l1 l2 l3,xa g1 g2 g3,xa m1 m2 m3] 74)) (HT.gv HG));go_in;go_wp2_with fail;refine HC.mono ?_;clear HC;generalize w.alloc (xi #[xd xh 3,xd xh oa,xj b,xj ot,xa l1 l2 l3,xa g1 g2 g3,xa m1 m2 m3] 74)=w9 at *;generalize w.heap.size=ob at *;intro e w1 hc;obtain⟨f,ar,hf,rfl,I⟩:=hc.lost H0;have HF:=fa ar;have ay:=fa hf;clear ar H0 hf;have U:=fa ((HT.later I).boxed 36 #[xa none 0 0,xa none 0 0,xa none 0 0]);clear hc I HT;have HC:=fa (rG b (w1.alloc (xi #[xa none 0 0,xa none 0 0,xa none 0 0] 36)) (U.gv HG));have q1:=(U.keep nX).p;have o1:=cell_of_blk q1 2;clear q1;go_wp2_with fail;refine HC.mono ?_;clear HC o1;generalize w1.alloc (xi #[xa none 0 0,xa none 0 0,xa none 0 0] 36)=W1 at *;generalize w1.heap.size=b1 at *;intro e w2 hc;obtain⟨rfl,I⟩:=hc.nil (CR.un b) HF;have aj:=fa ((U.later I).boxed 36 #[xa none 0 0,xa none 0 0,xa none 0 0]);clear hc I U;have HC:=fa (sI b (w2.alloc (xi #[xa none 0 0,xa none 0 0,xa none 0 0] 36)));have q2:=(aj.keep qd).p;have o2:=cell_of_blk q2 2;clear q2;go_wp2_with fail;refine HC.mono ?_;clear HC o2;generalize w2.alloc (xi #[xa none 0 0,xa none 0 0,xa none 0 0] 36)=W2 at *;generalize w2.heap.size=b2 at *;intro e w3 hc;obtain⟨rfl,I⟩:=hc.nil (CR.un b) HF;have aa:=fa ((aj.later I).boxed 36 #[xa none 0 0,xa none 0 0,xa none 0 0]);clear hc I aj;have k1:=(aa.keep qd).p;have p1:=cell_of_blk k1;clear k1;have J:=(aa.keep (Ms ..)).p;have p3:=cell_of_blk J;clear J;have HS:=fa (qF (w3.alloc (xi #[xa none 0 0,xa none 0 0,xa none 0 0] 36)));go_wp2_with fail;refine HS.mono ?_;clear HS p1 p3;generalize w3.alloc (xi #[xa none 0 0,xa none 0 0,xa none 0 0] 36)=W3 at *;generalize w3.heap.size=b3 at *;rintro e w4 ⟨rfl,I⟩;have ad:=fa (aa.later I);clear I aa;have k2:=(ad.keep nX).p;have p2:=cell_of_blk k2;clear k2;have J:=(ad.keep (Ms ..)).p;have p3:=cell_of_blk J;clear J;have HS:=fa (qF w4);go_wp2_with fail;refine HS.mono ?_;clear HS p2 p3;rintro e w5 ⟨rfl,I⟩;have ae:=fa (ad.later I);clear I ad;have k1:=(ae.keep qd).p;have p1:=cell_of_blk k1;clear k1;have J:=(ae.keep (Ms ..)).p;have p3:=cell_of_blk J;clear J;have hf:=ay.out
 go_wp2_with (refine(pJ).mono ?_)
 rintro e w8 ⟨rfl,au⟩;have hw:=au.symm;clear au;subst hw;have HK:=fa (nh w5 lb f hf);go_wp2_with fail;refine HK.mono ?_;clear HK p1 p3;rintro e w6 ⟨rfl,I⟩;have ag:=fa (ae.later I);clear I ae;have k2:=(ag.keep nX).p;have p2:=cell_of_blk k2;clear k2;have J:=(ag.keep (Ms ..)).p;have p3:=cell_of_blk J;clear J;have HK:=fa (nh w6 lb f hf);go_wp2_with fail;refine HK.mono ?_;clear HK p2 p3;rintro e w7 ⟨rfl,I⟩;have HL:Hid (LG lb X w0 w7 (N+206)):=LG.more ⟨a,bs,js,rs,ws,us,(ag.later I).drop.drop.drop.drop,H1,H2,H3,H4⟩ zo;clear I ag;go_wp2;go_ret;trivial
theorem CX(lb:Nat)(w0:World)(N:Nat)(J:LG lb X w0 w N)(I:GV w0)(U:N<=900000000)(b:ByteArray):
  Calls prog 100 #[xk (some ⟨lb,0,none⟩),xj b] w fun e w'=>e=xm (xn true)/\LG lb X w0 w' (N+206):=by
 by_cases h: ∃t,DR b 0 (some t)
 ·obtain⟨t,h⟩:=h;exact H' lb X w0 w N J I U b t h
 exact H9 lb X w0 w N J I U b (fun t ht=>h ⟨t,ht⟩)
theorem GC(lb:Nat)(w0:World)(N:Nat)(hL:LG lb X w0 w N)(hG:GV w0)(hN:N<=900000000)(J:Int)(b U:ByteArray)(l1:Option Addr)(l2 l3:Nat)(g1:Option Addr)(g2 g3:Nat)(m1:Option Addr)(I m3:Nat):
  Calls prog 54 #[xk (some ⟨lb,0,none⟩),.agg #[xd xh 3,xd xh J,xj b,xj U,xa l1 l2 l3,xa g1 g2 g3,xa m1 I m3]] w fun e w'=>e=xm (xn true)/\LG lb X w0 w' (N+206):=by
 by_cases h: ∃t,CR b 0 (some t)
 ·obtain⟨t,h⟩:=h;exact GG lb X w0 w N hL hG hN J b U l1 l2 l3 g1 g2 g3 m1 I m3 t h
 exact GD lb X w0 w N hL hG hN J b U l1 l2 l3 g1 g2 g3 m1 I m3 (fun t ht=>h ⟨t,ht⟩)
theorem EncP.two{z:Tz}(h:EncP z e):(∃s f,e=xm (.tuple #[xj s,xd xh f]))/\ ∀I,EncP z I->I=e:=by
 rcases h with⟨t,rfl,hR,he⟩|⟨hn,he⟩
 ·refine⟨⟨_,_,he⟩,fun I J=> ?_⟩;rcases J with⟨u,hu,_,he'⟩|⟨hn,_⟩
  ·rw[he,he',Tb.z_inj hu]
  exact(hn ⟨t,rfl,hR⟩).elim
 refine⟨⟨_,_,he⟩,fun I J=> ?_⟩;rcases J with⟨u,hu,hR,_⟩|⟨_,he'⟩
 ·exact(hn ⟨u,hu,hR⟩).elim
 simp_all
theorem LnT.ls{tr:List ByteArray}(h:LnT w o (xa q n m) tr)(I:tr.length<=1100000):LsT w q n m tr/\n<=m:=by
 rcases h with⟨_,hv,rfl⟩|⟨ad,g,_,hv,hL⟩
 ·cases hv;exact⟨Mx ⟨rfl,rfl,rfl,rfl⟩,MG _⟩
 cases hv;exact⟨Mt ⟨_,rfl,rfl,hL.txs,I⟩,Nat.le_add_right _ _⟩
theorem LnI.ls(h:LnI w o (xa q n m) tr)(I:tr.length<=1100000):LsI w q n m tr:=by
 rcases h with⟨_,hv,rfl⟩|⟨ad,g,_,hv,hL⟩
 ·cases hv;exact Mx ⟨rfl,rfl,rfl,rfl⟩
 cases hv;exact Mt ⟨_,rfl,rfl,hL.ins,I⟩
theorem LsT.len{tr:List ByteArray}(h:LsT w o n c tr):n=tr.length/\tr.length<=1100000/\TxS w o tr:=by
 exact zm146
theorem LsI.len(h:LsI w o n c tr):n=tr.length/\tr.length<=1100000/\InS w o tr:=by
 exact zm146
theorem LsR.len(h:LsR w o n c rs):n=rs.length/\rs.length<=1100000/\RwS w o rs/\ ∀r∈rs,r.length<=1100000:=by
 rcases h with⟨rfl,rfl,rfl,rfl⟩|⟨b,off,sp,rfl,h1,h2,h3⟩
 ·exact⟨rfl,MD _,fun j x h=>(by cases h),fun r h=>(by cases h)⟩
 refine⟨h1,h2,fun j r hr=> ?_,fun r hr=> ?_⟩
 ·obtain⟨rfl,k1,ro,rn,rc,k2,I⟩:=h3 j r hr;obtain⟨e,_,hi⟩:=I.len;subst e;exact⟨b,off,ro,rc,rfl,k1,k2,hi⟩
 obtain⟨j,J⟩:=List.mem_iff_getElem?.1 hr;obtain⟨_,k1,ro,rn,rc,k2,I⟩:=h3 j r J;exact I.len.2.1
structure LsZ (w:World) (ao fo no:Option Addr) (na nf nn ac fc nc:Nat) (z:Tz):Prop where
 a:LsT w ao na ac z.acts
 f:LsI w fo nf fc z.fl
 r:LsR w no nn nc z.nx
 c:na<=ac
section
variable {w w' : World} {ao fo no : Option Addr} {na nf nn ac fc nc : Nat} {z : Tz}
theorem LsZ.later(h:LsZ w ao fo no na nf nn ac fc nc z)(I:Below w.heap.size w w'):LsZ w' ao fo no na nf nn ac fc nc z:=⟨h.a.later I,h.f.later I,h.r.later I,h.c⟩
theorem LsZ.tbi(h:LsZ w ao fo no na nf nn ac fc nc z):TbI w ao fo no ac z/\na=z.acts.length/\nf=z.fl.length/\nn=z.nx.length:=by
 obtain⟨I,l1,a1⟩:=h.a.len;obtain⟨e2,l2,J⟩:=h.f.len;obtain⟨e3,l3,a3,U⟩:=h.r.len;exact⟨⟨a1,J,a3,I▸h.c,zo,zo,zo,fun r hr=>by have:=U r hr;omega⟩,I,e2,e3⟩
theorem Ab(h:LsZ w ao fo no na nf nn ac fc nc z)(I:GV w):Calls prog 26 #[.agg #[xa ao na ac,xa fo nf fc,xa no nn nc]] w fun e w'=>EncP z e/\Below w.heap.size w w':=by
 obtain⟨J,rfl,rfl,rfl⟩:=h.tbi;exact C' w ao fo no ac fc nc z J I
theorem yh(h:LsZ w ao fo no na nf nn ac fc nc z):Calls prog 102 #[.agg #[xa ao na ac,xa fo nf fc,xa no nn nc]] w fun e w'=>EncP z e/\Below w.heap.size w w':=by
 obtain⟨I,rfl,rfl,rfl⟩:=h.tbi;exact qH w ao fo no ac fc nc z I
end
def ZQ(w:World)(no qn:Option Addr)(nn mn nc:Nat)(rows:List (List Int))(Z:List Th):Prop:=
 (no=none/\qn=none/\nn=0/\mn=0/\nc=0/\rows=[]/\Z=[])\/ ∃nb noff sp g xs hs cur,no=some ⟨nb,noff,sp⟩/\qn=some ⟨g,0,none⟩/\mn=nn+8/\Z=iB g 33 cur::(xs.map oS++hs.map qW)/\sL w nb noff nn rows xs cur nn/\xJ nn hs cur (nn+8)/\nn<=1100000
theorem ZQ.move{no:Option Addr}(h:ZQ w no qn nn mn nc rows Z)(I: ∀nb noff sp j,no=some ⟨nb,noff,sp⟩->j<nn->sp=none)(hc: ∀nb noff,no=some ⟨nb,noff,none⟩-> ∀j,j<nn->w'.cell? ⟨nb,noff+j,none⟩=w.cell? ⟨nb,noff+j,none⟩):ZQ w' no qn nn mn nc rows Z:=by
 rcases h with h|⟨nb,noff,sp,g,xs,hs,cur,rfl,h2,h3,h4,h5,h6⟩
 ·exact Mx h
 refine Mt ⟨nb,noff,sp,g,xs,hs,cur,rfl,h2,h3,h4,⟨h5.len,h5.sz,fun j x J=> ?_⟩,h6⟩;obtain⟨k1,k2,rn,rc,k3⟩:=h5.at_ j x J;have U:j<nn:=by have:=(List.getElem?_eq_some_iff.1 J).1;have:=h5.len;omega
 obtain rfl:=I nb noff sp j rfl U;simp_all
theorem LsR.plain(h:LsR w o n c rs){sp:Option Nat}(ho:o=some ⟨nb,noff,sp⟩)(hj:j<n):sp=none:=by
 have hl:=h.len.1;rcases h with⟨rfl,_⟩|⟨b,off,sp',rfl,_,_,h3⟩
 ·omega
 cases ho;exact(h3 j _ (ME zo)).1
theorem ZQ.read{no:Option Addr}(h:ZQ w no qn nn mn nc rows Z)(U:nn=rows.length/\ ∀r∈rows,r.length<=1100000)(hZ: ∀y∈Z,y.P w'):LsR w' qn nn mn rows:=by
 rcases h with⟨rfl,rfl,rfl,rfl,rfl,rfl,_⟩|⟨nb,noff,sp,g,xs,hs,cur,rfl,rfl,rfl,rfl,h5,h6,h7⟩
 ·exact Mx ⟨rfl,rfl,rfl,rfl⟩
 have hg:=hZ (iB g 33 cur) (Ms ..);refine Mt ⟨g,0,none,rfl,U.1,U.1▸h7,fun j r hr=> ?_⟩;have hj:j<xs.length:=by have:=(List.getElem?_eq_some_iff.1 hr).1;have:=h5.len;omega
 obtain⟨k1,k2,_⟩:=h5.at_ j _ (ME hj);have J:LnI w' xs[j].o xs[j].v xs[j].r:=hZ (oS xs[j]) (Mr _ (Mz _ (List.mem_map.2 ⟨_,MM hj,rfl⟩)));rw[hr] at k2;cases k2;have hc:w'.cell? ⟨g,0+j,none⟩=some xs[j].v:=by rw[Nat.zero_add,cell_of_blk hg];exact k1
 refine⟨rfl,fh hg, ?_⟩;have I:=U.2 _ (List.mem_of_getElem? hr);rcases id J with⟨_,hv,_⟩|⟨_,g2,_,hv,_⟩
 ·rw[hv] at J hc;exact⟨_,_,_,hc,J.ls I⟩
 rw[hv] at J hc;exact⟨_,_,_,hc,J.ls I⟩
theorem LqP.one{no:Option Addr}{acts:List ByteArray}(h:LqP w ao fo no na nf nn acts fl rs w' e)(hR:LsR w no nn nc rs):
  ∃U I qf J qn mn Z,e=xm (.agg #[xa U na I,xa qf nf J,xa qn nn mn])/\Below w.heap.size w w'/\Ths w.heap.size w' (nB ao (xa U na I) acts::lS fo (xa qf nf J) fl::Z)/\ZQ w no qn nn mn nc rs Z:=by
 obtain⟨hb,U,I,qf,J,⟨rfl,rfl,he,ht⟩|⟨nb,noff,sp,g,xs,hs,cur,rfl,he,h1,h2,ht⟩⟩:=h
 ·rcases hR with⟨_,rfl,rfl,_⟩|⟨_,_,_,h,_⟩
  ·exact⟨U,I,qf,J,none,0,[],he,hb,ht,Mx ⟨rfl,rfl,rfl,rfl,rfl,rfl,rfl⟩⟩
  cases h
 have hl:=hR.len;exact⟨U,I,qf,J,_,_,_,he,hb,ht.perm (List.Perm.trans (List.Perm.swap _ _ _) (List.Perm.cons _ (List.Perm.swap _ _ _))),Mt ⟨nb,noff,sp,g,xs,hs,cur,rfl,rfl,rfl,rfl,h1,h2,zo⟩⟩
section
variable {lb : Nat} {X : List Th} {w0 w w' : World} {N : Nat} {a : Lt} {bs : List Bk} {js : List Ik} {rs : List Rk} {ws us : List Wb}
theorem LT.tight(h:LT lb X w0 w N a bs js rs ws us):LT lb X w0 w (bs.length+js.length+rs.length) a bs js rs ws us:=⟨h.th,h.bel,h.lo,h.bv,h.iv,h.rv,h.M,MG _,h.rt⟩
theorem LT.holds(h:LT lb X w0 w N a bs js rs ws us)(J:Below w.heap.size w w')(I:Ths w.heap.size w' Z):LT lb (Z++X) w0 w' N a bs js rs ws us:=by
 refine⟨(Ths.add h.th J I.ok I.ap I.lo h.hB).perm ?_,(h.later J).bel,h.lo,h.bv,h.iv,h.rv,h.M,h.nb,h.rt⟩;rw[List.append_assoc];exact MF
theorem ReR.read(hT:LT lb X w0 w N a bs js rs ws us)(h:ReR rs q n m): ∃tr,LsR w q n m tr:=by
 rcases h with⟨rfl,rfl,rfl⟩|⟨b,g,hb,rfl,rfl,hl,h8⟩
 ·exact⟨[],Mx ⟨rfl,rfl,rfl,rfl⟩⟩
 obtain⟨hm,I,_⟩:=(hT.th.ok (kM b) (Mr _ (Mw _ (Mw _ (Mw _ (Mz _ (List.mem_map.2 ⟨b,hb,rfl⟩))))))).p;refine⟨List.replicate n [b.m],Mt ⟨g,0,none,rfl,zp,za,fun j r hr=> ?_⟩⟩;rw[List.getElem?_replicate] at hr
 split at hr
 ·cases hr;rw[hl] at I;obtain⟨o,n',c',U,_,e3⟩:=I;cases U;obtain⟨g',e4,⟨_,_,e5⟩,e6⟩:=e3 j zo;cases e4;refine⟨rfl,fh e5,_,_,_,by rw[Nat.zero_add];exact e6,Mt ⟨_,rfl,rfl,fun i x J=> ?_,zp⟩⟩
  match i,J with
  |0,J=>cases J;exact⟨_,_,rfl,fh hm,(cell_of_blk hm 0).trans rfl⟩
  |i+1,J=>cases J
 trivial
theorem RdT.at{no:Option Addr}{acts:List ByteArray}(h:RdT lb X w0 ao fo no na nf nn ac fc nc acts fl rows vs)(I:na<=ac)(J:LT lb X' w0 w N a bs js rs ws us)(hX: ∀y∈X,y∈X'):
  LsZ w ao fo no na nf nn ac fc nc ⟨acts,fl,rows⟩/\ ∀nb noff,no=some ⟨nb,noff,none⟩-> ∀j,j<nn->w.cell? ⟨nb,noff+j,none⟩=vs j:=by
 obtain⟨U,h2,h3,h4⟩:=h w J.bel (fun y hy=>(J.keep (hX y hy)).p);exact⟨⟨U,h2,h3,I⟩,h4⟩
theorem RdT.mono{no:Option Addr}{acts:List ByteArray}(h:RdT lb X w0 ao fo no na nf nn ac fc nc acts fl rows vs)(I: ∀y∈X,y∈X'):RdT lb X' w0 ao fo no na nf nn ac fc nc acts fl rows vs:=fun w' J U=>h w' J (fun y hm=>U y (I y hm))
theorem LT.lent{no qa qf:Option Addr}{U mf:Nat}{acts:List ByteArray}{v:World}(I:LT lb Y w0 w N a bs js rs ws us)(J: ∀y∈nB ao (xa qa na U) acts::lS fo (xa qf nf mf) fl::Z,y∈Y)(hz:ZQ v no qn nn mn nc rows Z)(h1:acts.length<=1100000)(h2:fl.length<=1100000)(h3:nn=rows.length/\ ∀r∈rows,r.length<=1100000):
  LsZ w qa qf qn na nf nn U mf mn ⟨acts,fl,rows⟩:=by
 have e1:=LnT.ls (show LnT w ao (xa qa na U) acts from(I.keep (J _ (Ms ..))).p) h1;have e2:=LnI.ls (show LnI w fo (xa qf nf mf) fl from(I.keep (J _ nX)).p) h2;exact⟨e1.1,e2,hz.read h3 (fun y hy=>(I.keep (J y (Mr _ (Mr _ hy)))).p),e1.2⟩
end
end Go.Proofs.YtidakhhekofkoaaGreatDoor
