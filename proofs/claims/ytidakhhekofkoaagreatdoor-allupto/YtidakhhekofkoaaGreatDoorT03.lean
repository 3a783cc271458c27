import Derived.Test.YtidakhhekofkoaaGreatDoorT02
import Derived.Deep.TreeCalls
set_option linter.all false
set_option maxHeartbeats 4000000
set_option maxRecDepth 100000
namespace Go.Proofs
def R':=@Go.wp_region_held_drew
def Wc:=@Go.Calls.quiet_of
end Go.Proofs
namespace Go.Proofs.YtidakhhekofkoaaGreatDoor
attribute [local go_sem] TT TU TV XL
attribute [local simp] TT TU TV XL
open Go.Proofs.Tryz
open Go.RowKit Go.Deep
open Value renaming slice->xa,int->xd,string->xj,pointer->xk,bool->xn
open IntKind renaming i64->xh
open Obj renaming cells->xi
open Ending renaming returned->xm
open Or renaming inr->Q',inl->Rf
open World renaming setCell->Rc
variable{zq:Prop}
variable{pb cap i n e size j n1 k1 n2 k2:Nat}{w w' W w1:Uc}{L l' al r:TY}{bad:Bool}{xs:TW}{a b d:Int}{o p o1 o2 vf:TX}{m x:T3}{t:Tk}{tr:TZ}{f:Fm}{rs:T6}
def zm26(h:zq:=by
 obtain⟨x,r2,hx2⟩:=jc HP2.lt;have HX2:=fy hx2;have HX:=fy hx;clear hx2 hx
 go_wp2_with (refine(nE (k:=21) HP2 HX2.out rfl zp zp (j:=j) (bad':=true) zp zp).mono ?_)
 rintro e w6 ⟨rfl,hp6,hg6⟩;have HGQ:=HG.trans hg6;have HRQ:=(hg6.block w.heap.size zo zs).trans HR;have HVQ:=(hg6.block (w.heap.size+1) hz zs).trans HV;clear hg6 c0 c1 c2;go_wp2
 go_loopg [] 0 (λ_ wr=>wr=w6)
 .rfl
 subst hrel;obtain⟨c0,c1,c2⟩:=hp6.cells;have vc:=EQ HVQ;have rc:=EQ HRQ;have rf:=gh HRQ;go_wp2_with fail;refine py (v:=.agg #[xa o1 n1 k1,TV]) ?_ rfl ?_
 .simp[results,results200,go_sem,rc]
 have hps2:=(hp6.setOther w.heap.size 0 (xa o1 n1 k1) zo zo).setOther w.heap.size 1 TV zo zo
 grind[gD,gQ,nD,FM]
 ):zq:=h
def zm41(h:zq:=by
 rintro e w3 ⟨v3,rfl,hf3,hb3⟩;have Hx3:=Hx2.later hb3;have Hy3:=hf2.later hb3;have HB3:=HB2.trans (hb3.mono HB2.size);clear hb3
 go_wp2_with (refine(kr 12 Hx3 hf3 rfl).mono ?_)
 rintro e w4 ⟨v4,rfl,hf4,hb4⟩;have Hx4:=Hx3.later hb4;have Hy4:=Hy3.later hb4;have Hp4:=hf3.later hb4;have HB4:=HB3.trans (hb4.mono HB3.size);clear hb4
 go_wp2_with (refine(iU 8 hf4 rfl).mono ?_)
 rintro e w5 ⟨v5,rfl,hf5,hb5⟩;have HB5:=HB4.trans (hb5.mono HB4.size);clear hb5;go_wp2;go_ret;exact⟨_,rfl,hf5,HB5⟩
 ):zq:=h
def zm45(h:zq:=by
 go_wp2
 go_roundw
 .grind[gQ]
 simp[intOf];omega
 ):zq:=h
def zm66(h:zq:=by
 rintro e w6 ⟨v6,rfl,hf6,hb6⟩;have HB6:=HB5.trans (hb6.mono HB5.size);clear hb6;go_wp2;go_ret;exact⟨_,rfl,hf6,HB6⟩
 ):zq:=h
def zm82(h:zq:=by
 rw[HH.out];clear hb2
 go_wp2_with (refine(kA p 3 HF2).mono ?_)
 rintro e w3 ⟨rfl,hf3,hg3⟩;have HG3:=HG2.trans hg3;clear hg3;go_wp2;go_end0;refine⟨rfl,?_,HG3⟩;rw[HFN.out];exact hf3
 ):zq:=h
def zm85(h:zq:=by
 rw[V5 (w:=w3) ((XE (by show w2.heap.size≠w.heap.size;omega)).trans (XE (by show w2.heap.size≠w.heap.size;omega)))];simp_all
 ):zq:=h
def zm135(h:zq:=by
 rintro e w8 ⟨v8,rfl,hf8,hb8⟩;have HB8:=HB7.trans (hb8.mono HB7.size);clear hb8;go_wp2;go_ret;exact⟨_,rfl,hf8,HB8⟩
 ):zq:=h
def LI(w:Uc)(g:Nat)(L:TY)(i:Nat)(h:PS w pb g cap L i false):
  Calls prog 248 #[xk (TT pb)] w λe w'=>BF L pb g cap w w' e (gZ (L.drop i)):=by
 by_cases h2:gF (L.drop i)=2
 .by_cases h18:gF (L.drop i).tail=18
  .obtain⟨t,u,r,I,J⟩:=kH h.ends zp h2;have U:u.k=18:=by rw[I] at h18;trivial
   have he:=h.ends;rw[I] at he;obtain⟨v,r0,rfl⟩:=he.2.more zo;exact Jx w g L i t u v h I J U
  exact Bz w g L i h h2 h18
 exact Dq w g L i h h2
def KT(w w':Uc):Prop:=∀(b:Nat)(c:T1)(ty:Nat)(m:T3),(ty=232\/ty=292)->w.heap[b]?=some (xi c ty m)->w'.heap[b]?=some (xi c ty m)
def KT.refl(w:Uc):KT w w:=λ_ _ _ _ _ h=>h
theorem KT.trans{a b c:Uc}(h:KT a b)(k:KT b c):KT a c:=by grind[KT]
def KT.below(h:XL w w'):KT w w':=λb _ _ _ _ I=>(h.block b (dK I)).trans I
def KT.alloc(w:Uc)(o:Obj):KT w (w.alloc o):=KT.below gC
theorem KT.grown{r ty:Nat}(h:w.grownBy w' (some r))(ht:Q2 w r ty)(h1:ty≠232)(h2:ty≠292):KT w w':=λb c t m hty I=>by
 refine(h.block b (dK I) ?_).trans I
 grind[Q2]
def KT.grownNone(h:w.grownBy w' none):KT w w':=λb _ _ _ _ I=>(h.block b (dK I) zp).trans I
theorem KT.set{b ty:Nat}(o:Nat)(v:Ud)(ht:Q2 w b ty)(h1:ty≠232)(h2:ty≠292):KT w (w.setCell (TU b o) v):=by grind[KT.grown,gp]
def KT.ps{g:Nat}(h:PS w pb g cap L i bad)(hg:w.grownBy w' (some pb)):KT w w':=KT.grown hg ⟨_,_,h.blk⟩ zp zp
theorem KT.isF(h:KT w w'):∀{f:Fm} {p:TX},Q9 w f p->Q9 w' f p:=by intro I;induction I<;>grind[KT,Q9]
def KT.owns(h:KT w w'){base:Nat}{v:Ud}(ho:w.ownsRow base 232 3 v n xs):w'.ownsRow base 232 3 v n xs:=by
 obtain⟨J,I⟩:=ho;refine⟨J,?_⟩;rcases I with I|⟨g,cap,cur,hv,hgb,hh,r⟩
 .simp_all
 exact Q' ⟨g,cap,cur,hv,hgb,h _ _ _ _ (Rf rfl) hh,r⟩
def KT.rl(h:KT w w'){r:Rl}{s:Ub}{c:Int}{k:Nat}(hr:Ss w r a b s c o n k d p):Ss w' r a b s c o n k d p:=by
 obtain⟨J,I⟩:=hr;refine⟨J,?_⟩
 split
 .rename_i hc;rw[Uh hc] at I;exact⟨I.1,I.2.1,I.2.2.1,h.owns I.2.2.2.1,I.2.2.2.2⟩
 rename_i hc;rw[T' hc] at I;exact⟨h.isF I.1,I.2⟩
def Q3(w:Uc):T6->TW->Prop
 |[],cs=>cs=[]
 |r::rs,cs=>∃a b s c o n k d p cs',cs=[xd xh a,xd .u8 b,xj s,xd xh c,xa o n k,xd xh d,xk p]++cs'/\Ss w r a b s c o n k d p/\Q3 w rs cs'
def KT.rules(h:KT w w'):∀{rs:T6} {cs:TW},Q3 w rs cs->Q3 w' rs cs
 |[],_,hh=>hh
 |_::_,_,⟨a,b,s,c,o,n,k,d,p,cs',e,hr,hrs⟩=>⟨a,b,s,c,o,n,k,d,p,cs',e,h.rl hr,h.rules hrs⟩
theorem Q3.snoc:∀{rs:T6} {cs:TW} {r:Rl} {a b:Int} {s:Ub} {c:Int} {o:TX} {n k:Nat} {d:Int} {p:TX},Q3 w rs cs->Ss w r a b s c o n k d p->
  Q3 w (rs++[r]) (cs++[xd xh a,xd .u8 b,xj s,xd xh c,xa o n k,xd xh d,xk p]):=by intro I;induction I<;>grind[Q3,Ss]
def pX(acc:TY)(x:Except Nat (TY × TY)):Except Nat (TY × TY):=match x with| .error q=>.error q| .ok (ts,l)=>.ok (acc++ts,l)
def oj(al:TY)(acc:T6)(x:Except Nat (T6)):Except Nat (TY × T6):=match x with| .error q=>.error q| .ok rs=>.ok (al,acc++rs)
def kN(l:TY):Except Nat (TY × TY):=if gF l=4 then iZ l.length l.tail else .error (ig l)
theorem nD(l:TY):ie l=(match kN l with| .error q=>.error q| .ok (al,l1)=>if gF l1=21 then oj al [] (iR l1.length l1.tail) else .error (ig l1)):=by
 unfold ie kN
 split
 .rfl
 rfl
def Tryz.infoRul:(prog.info? 235).map (λi=>(i.zero,i.size,i.bytes))=some (some (.agg #[xd xh 0,xd .u8 0,xj ⟨#[]⟩,xd xh 0,TV,xd xh 0,xk none]),7,80):=zk
theorem gz{base b ty:Nat}{v:Ud}{c:T1}(h:w.ownsRow base e size v n xs)(I:v.ownBlock=some b)(hc:w.heap[b]?=some (xi c ty m))(hne:ty≠e):False:=by
 obtain⟨_,J|⟨g,cap,cur,U,_,hh,_⟩⟩:=h
 .rw[J.1] at I;cases I
 rw[U] at I;cases I;simp_all
theorem BY:∀n l ts l',iZ n l=.ok (ts,l')->l'.length<=l.length:=by intro I;induction I<;>grind[iZ]
theorem rJ{l:TY}{r:Rl}(h:gZ l=.ok (r,l')):l'.length<=l.length:=by
 rw[gZ] at h
 split at h
 .grind
 split at h
 .cases h
 rename_i f l1 e
 have:=jz _ _ _ _ _ _ e;simp_all
def FO(L : TY)(pb g cap j : Nat)(bad : Bool)(w w' : Uc)(e : Ending) : Prop :=
  w.grownBy w' (some pb) /\∃ a b s c o n k d p j' bad',e =xm (jV a b s c o n k d p) /\ PS w' pb g cap L j' bad' /\
    ((bad' = false /\ bad = false /\∃ r,gZ (L.drop j) = .ok (r,L.drop j') /\ Ss w' r a b s c o n k d p) \/
     (bad' = true /\ (bad = true -> j' = j) /\ (bad = false -> gZ (L.drop j) = .error (ig (L.drop j')))))
theorem Jw{g:Nat}(h:PS w pb g cap L j bad):
  Calls prog 248 #[xk (TT pb)] w λe w'=>FO L pb g cap j bad w w' e:=by
 cases bad with
 |false=>
  refine(LI w g L j h).mono ?_;rintro e w' ⟨hg,a,b,s,c,o,n,k,d,p,he,hx⟩
  grind[FO]
 |true=>
  refine(Jy w g L j h).mono ?_;rintro e w' ⟨hg,a,b,s,c,o,n,k,d,p,he,hp⟩
  grind[FO]
def rF{base:Nat}{v:Ud}(h:w.ownsRow base e size v n xs)(hb:pb<base):v.ownBlock≠some pb:=by
 intro e;have:=gJ h pb e;omega
def KT.own{base:Nat}{v:Ud}(h:w.grownBy w' v.ownBlock)(ho:w.ownsRow base 235 7 v n xs):KT w w':=by
 obtain⟨_,I|⟨g,cap,cur,U,_,J,_⟩⟩:=ho
 .rw[I.1] at h;exact KT.grownNone h
 rw[U] at h;exact KT.grown (r:=g) h ⟨_,_,J⟩ zp zp
def Ss.pl{r:Rl}{s:Ub}{c:Int}{k:Nat}(h:Ss w r a b s c o n k d p)(q:Nat):Ss w {r with pl:=q} q b s c o n k d p:=⟨rfl,h.2⟩
def LA(w:Uc)(pb g cap:Nat)(L:TY)(m:Nat)(mv:Ud)(wr:Uc):Prop:=
 ∃(mb:Bool)(o1:TX)(n1 k1:Nat)(acc:TY)(j:Nat)(bad:Bool),mv=xn mb/\w.grownBy wr (some pb)/\PS wr pb g cap L j bad/\
  wr.heap[w.heap.size]?=some (xi #[TV,TV] 228 (0,0))/\wr.heap[w.heap.size+1]?=some (xi #[xa o1 n1 k1,TV] 228 (0,0))/\
  wr.ownsRow w.heap.size 232 3 (xa o1 n1 k1) acc.length (iP acc)/\
  ((bad=false/\mb=true/\(L.drop j).length<=m/\acc.length+(L.drop j).length<=L.length/\kN (L.drop 0)=pX acc (iZ m (L.drop j)))\/(bad=false/\mb=false/\kN (L.drop 0)=.ok (acc,L.drop j))\/(bad=true/\kN (L.drop 0)=.error (ig (L.drop j))))
def LB(w : Uc)(pb g cap : Nat)(L : TY)(m : Nat)(wr : Uc) : Prop :=
  ∃ (o1 : TX) (n1 k1 : Nat) (al : TY) (o2 : TX) (n2 k2 nR : Nat) (cells : TW) (j : Nat) (bad : Bool),w.grownBy wr (some pb) /\ PS wr pb g cap L j bad /\
    wr.heap[w.heap.size]? = some (xi #[TV,TV] 228 (0,0)) /\ wr.heap[w.heap.size + 1]? = some (xi #[xa o1 n1 k1,xa o2 n2 k2] 228 (0,0)) /\
    wr.ownsRow w.heap.size 235 7 (xa o2 n2 k2) nR cells /\
    ((bad = false /\ wr.ownsRow w.heap.size 232 3 (xa o1 n1 k1) al.length (iP al) /\∃ rs,nR = rs.length /\ Q3 wr rs cells /\ (L.drop j).length <= m /\ rs.length + (L.drop j).length <= L.length /\ ie (L.drop 0) = oj al rs (iR m (L.drop j))) \/
     (bad = true /\ ie (L.drop 0) = .error (ig (L.drop j))))
def FM(L:TY)(pb g cap:Nat)(w w':Uc)(e:Ending):Prop:=
 w.grownBy w' (some pb)/\∃o1 n1 k1 o2 n2 k2,e=xm (.agg #[xa o1 n1 k1,xa o2 n2 k2])/\(match ie (L.drop 0) with
  |.ok (al,rs)=>w'.ownsRow 0 232 3 (xa o1 n1 k1) al.length (iP al)/\(∃cells,w'.ownsRow 0 235 7 (xa o2 n2 k2) rs.length cells/\Q3 w' rs cells)/\∃j,PS w' pb g cap L j false
  |.error q=>∃j,ig (L.drop j)=q/\PS w' pb g cap L j true)
theorem I8{g:Nat}(h:PS w pb g cap L 0 false):
  Calls prog 200 #[xk (TT pb)] w λe w'=>FM L pb g cap w w' e:=by
 obtain⟨t,r,ht⟩:=jc h.lt;have HT:=fy ht;have cB:=dK h.blk;have hgl0:=h.gLt;clear ht;obtain⟨i0,dt,dA,dB,dC⟩:=Uk Tryz.infoTok;obtain⟨m0,du,cx,cy,cA⟩:=Uk Tryz.infoRul;have fl0:=yu;have fl2:=Cv;obtain⟨j1,cr⟩:∃j,j=if (!false&&t.k==4)=true then 0+1 else 0:=⟨_,rfl⟩;obtain⟨b1,cl⟩:∃b,b= !(!false&&t.k==4):=⟨_,rfl⟩;have bf:=fy cr;have bc:=fy cl;clear cr cl;go_in
 go_wp2_with (refine(nE ((h.alloc _).alloc _) HT.out rfl zp zp bf.out bc.out).mono ?_)
 rintro e w1 ⟨rfl,cC,bm⟩;have bG:=(gL (gL (U4 w (some pb)))).trans bm;have bW:=(show w1.heap[w.heap.size]?=some (xi #[TV,TV] 228 (0,0)) from
  (bm.block _ zs zs).trans ((XD zp).trans (gi _ _)))
 have b':=(show w1.heap[w.heap.size+1]?=some (xi #[TV,TV] 228 (0,0)) from
  (bm.block _ zp zs).trans (gu zp))
 clear bm;have hX:b1=false->j1=1/\kN (L.drop 0)=iZ L.length (L.drop 1):=by
  intro hb;have h1:=bc.out;rw[hb] at h1;have hk:t.k=4:=by simpa using h1
  refine⟨by rw[bf.out];simp[hk],?_⟩;unfold kN;rw[Uh (by rw[HT.out];exact hk),WC];rfl
 have dp:b1=true->j1=0/\kN (L.drop 0)=.error (ig (L.drop 0)):=by
  intro hb;have h1:=bc.out;rw[hb] at h1;have hk:t.k≠4:=by simpa using h1
  refine⟨by rw[bf.out];simp[hk],?_⟩;unfold kN;rw[T' (by rw[HT.out];exact hk)]
 have hlen:=h.len;have ad:LA w pb g cap L L.length (xn true) w1:=by
  refine⟨true,none,0,0,[],j1,b1,rfl,bG,cC,bW,b',XG,?_⟩;cases b1 with
  |false=>
   obtain⟨J,hx⟩:=hX rfl;subst J;refine Rf ⟨rfl,rfl,zp,zp,?_⟩;rw[hx];unfold pX;grind
  |true=>
   simp_all
 have HS:=fy ad;clear ad hX dp bf bc cC bG bW b';go_wp2
 go_loopg [4] L.length (λm v wr=>LA w pb g cap L m v wr)
 .exact HS.out
 clear HS HT;obtain⟨mb,o1,n1,k1,acc,j,bad,rfl,aY,ae,hrb,ay,ba,aD⟩:=hrel;have HG:=aY;have HP2:=ae;have HR:=hrb;have HV:=ay;have HO:=ba;have hz:=dK ay;obtain⟨c0,c1,c2⟩:=ae.cells;clear aY ae hrb ay ba;rcases aD with⟨rfl,rfl,hm,hacc,hx⟩|hdone
 .obtain⟨m,rfl⟩:∃m,gk=m+1:=⟨gk-1,by have:=HP2.lt;grind⟩;obtain⟨y,r1,hy⟩:=jc HP2.lt;have HY:=fy hy;have HX:=fy hx;have HM:=fy hm;have bE:=fy hacc;clear hx hm;obtain⟨j3,ct⟩:∃j3,j3=if (!false&&y.k==2)=true then j+1 else j:=⟨_,rfl⟩;obtain⟨b3,cm⟩:∃b,b= !(!false&&y.k==2):=⟨_,rfl⟩;have c6:=fy ct;have cT:=fy cm;have dq:acc.length<401:=by grind
  clear ct cm hy hacc
  go_wp2_with (refine(C6 HP2 HY.out c6.out cT.out).mono ?_)
  rintro e w3 ⟨rfl,dw,aS⟩;simp only[ki];have cV:=HG.trans aS;have bZ:=(aS.block w.heap.size zo zs).trans HR;have aM:=(aS.block (w.heap.size+1) hz zs).trans HV;have bh:=(KT.ps HP2 aS).owns HO;have hz3:=dK aM;clear aS c0 c1 c2;have vc:=EQ aM;have vf:=gh aM
  go_wp2_with (at_builtin;go_must (refine U0 _ rfl _ _ 225 rfl w.heap.size 232 i0 (.agg #[xd .u8 0,xj ⟨#[]⟩,xd xh 0]) 3 32 underlying225 dt dA dB dC rfl zd _ acc.length (iP acc) rfl ?c0 (TU (w3.heap.size+1) 0) 1 1 [xd .u8 (gR y.k),xj y.s,xd xh y.p] rfl rfl ?c1 ?c2 ?c3 ?c4 ?c5 ?_))
  case c0=>exact(bh.alloc _).alloc _
  case c1=>
   intro j u J
   match j,J with
   |0,J=>simp at J;subst J;exact(EQ (gu zp) 0).trans rfl
   |1,J=>simp at J;subst J;exact(EQ (gu zp) 1).trans rfl
   |2,J=>simp at J;subst J;exact(EQ (gu zp) 2).trans rfl
   |j+3,J=>trivial
  case c2=>intro u hu;simp at hu;rcases hu with rfl|rfl|rfl<;>rfl
  case c3=>unfold maxLen;omega
  case c4=>omega
  case c5=>simp;omega
  intro v4 w4 bD aa _;obtain⟨a7,h4|⟨g4,aP,ch,dz,ao⟩⟩:=bD
  .exact absurd h4.2 zo
  subst dz;have c9:Hid (w4.ownsRow w.heap.size 232 3 (xa (TT g4) (acc.length+1) aP) (acc++[y]).length (iP (acc++[y]))):=by
   rw[uk,Ur];exact⟨a7,Q' ⟨g4,aP,ch,rfl,ao⟩⟩
  have a8:=gJ bh;have aX:some pb≠(xa o1 n1 k1).ownBlock:=by grind
  have aW:some g≠(xa o1 n1 k1).ownBlock:=by grind
  have aU:some w.heap.size≠(xa o1 n1 k1).ownBlock:=by intro e;exact gz bh e.symm bZ zp
  have aV:some (w.heap.size+1)≠(xa o1 n1 k1).ownBlock:=by intro e;exact gz bh e.symm aM zp
  have bU:=((dw.alloc _).alloc _).grown aa aX aW;have cW:=(gL (gL cV)).andThen aa (λj J=>by left;exact(a8 j J).1);have da:=(aa.block w.heap.size zs aU).trans ((XD zs).trans ((XD zo).trans bZ));have bl:=(aa.block (w.heap.size+1) zs aV).trans ((XD zs).trans ((XD zo).trans aM));have hz4:=dK bl;have hg4ne:g4≠w.heap.size+1:=by grind[gQ]
  have hg4ge:=ao.1;clear vc vf aa ao a8 aX aW aU aV a7;have vc:=EQ bl;have vf:=gh bl;obtain⟨x,r2,hx2⟩:=jc bU.lt;have HX2:=fy hx2;clear hx2;obtain⟨b5,cn⟩:∃b,b=(!b3&&x.k==20):=⟨_,rfl⟩;obtain⟨j5,cu⟩:∃j,j=if (!b3&&x.k==20)=true then j3+1 else j3:=⟨_,rfl⟩;have cU:=fy cn;have c7:=fy cu;clear cn cu
  go_wp2_with (refine(DH (bU.setOther _ _ _ zo zo) HX2.out rfl zp zp cU.out c7.out).mono ?_)
  rintro e w5 ⟨rfl,dx,aT⟩;have cX:=(gD cW (b:=w.heap.size+1) zo _ _).trans aT;have dc:=(aT.block w.heap.size (by simp[Rc];omega) zs).trans ((XE zp).trans da);have df:=(aT.block (w.heap.size+1) (by simp[Rc];omega) zs).trans ((gj bl _ _).trans rfl);have c':=gy (gy c9.out (gp _ (w.heap.size+1) 0 (xa (TT g4) (acc.length+1) aP)) (by simp[Value.ownBlock];omega)) aT (by simp[Value.ownBlock];omega);clear vc vf aT;go_wp2_with fail
  go_roundg m
  case measure=>omega
  refine⟨b5,_,_,_,acc++[y],j5,b3,rfl,cX,dx,dc,df,c',?_⟩;have hX:=HX.out;rw[HY.out,iZ] at hX
  grind[gQ,Hx,gF,pX,lg]
 rcases hdone with⟨rfl,rfl,hx⟩|⟨rfl,hx⟩
 .obtain⟨x,r2,hx2⟩:=jc HP2.lt;have HX2:=fy hx2;have HX:=fy hx;clear hx2 hx;obtain⟨j6,cv⟩:∃j6,j6=if (!false&&x.k==21)=true then j+1 else j:=⟨_,rfl⟩;obtain⟨b6,cp⟩:∃b,b= !(!false&&x.k==21):=⟨_,rfl⟩;have bg:=fy cv;have bd:=fy cp;clear cv cp
  go_wp2_with (refine(nE HP2 HX2.out rfl zp zp bg.out bd.out).mono ?_)
  rintro e w6 ⟨rfl,hp6,hg6⟩;have ad:LB w pb g cap L (L.drop j).length w6:=by
   refine⟨o1,n1,k1,acc,none,0,0,0,[],j6,b6,HG.trans hg6,hp6,(hg6.block w.heap.size zo zs).trans HR,(hg6.block (w.heap.size+1) hz zs).trans HV,XG,?_⟩;by_cases hk:x.k=21
   .have e6:b6=false:=by rw[bd.out];simp[hk]
    have ej:j6=j+1:=by rw[bg.out];simp[hk]
    subst e6 ej;refine Rf ⟨rfl,(KT.ps HP2 hg6).owns HO,[],rfl,rfl,?_,?_,?_⟩
    .simp;omega
    .simp
    rw[nD,HX.out];simp only;rw[Uh (by rw[HX2.out];exact hk),WC]
   have e6:b6=true:=by rw[bd.out];simp[hk]
   have ej:j6=j:=by rw[bg.out];simp[hk]
   subst e6 ej;refine Q' ⟨rfl,?_⟩;rw[nD,HX.out];simp only;rw[T' (by rw[HX2.out];exact hk)]
  clear hp6 hg6 bg bd HX2 HX HP2 HG HR HV HO c0 c1 c2 hz;go_wp2
  go_loopg [] (L.drop j).length (λm wr=>LB w pb g cap L m wr)
  .exact ad
  clear ad;obtain⟨o1,n1,k1,al,o2,n2,k2,nR,cells,j,bad,aY,ae,hrb,ay,ba,aD⟩:=hrel;have hz:=dK ay;obtain⟨c0,c1,c2⟩:=ae.cells;rcases aD with⟨rfl,hoa,rs,rfl,hrs,hm,bC,hx⟩|⟨rfl,hx⟩
  .obtain⟨m,rfl⟩:∃m,gk=m+1:=⟨gk-1,by have:=ae.lt;grind⟩;obtain⟨y,r1,hy⟩:=jc ae.lt;have dq:rs.length<401:=by grind
   have HY:=fy hy;have HX:=fy hx;have HM:=fy hm;have bE:=fy bC;have b4:=fy hrs;clear hx hm bC hrs hy;by_cases h0:y.k=0
   .have e0:(gR y.k !=101)=false:=by rw[bne,rI];simp[h0]
    have cd:=fy h0;clear h0
    go_wp2_with (refine(jH ae HY.out).mono ?_;rintro e w7 ⟨rfl,U⟩;simp only[ki];have bj:=fy (ae.later U);have bw:=fy (aY.trans (gE U _));have ar:=fy ((U.block w.heap.size zo).trans hrb);have aN:=fy ((U.block (w.heap.size+1) hz).trans ay);have aK:=fy (gq ba U);have cS:=fy (gq hoa U);have b7:=fy ((KT.below U).rules b4.out);have cJ:=dK aN.out;clear U;have vc:=λo=>EQ aN.out o;have rc:=λo=>EQ ar.out o;have rf:=λo=>gh ar.out o)
    refine py (v:=.agg #[xa o1 n1 k1,xa o2 n2 k2]) ?_ rfl ?_
    .simp[results,results200,go_sem,rc]
    have hps2:=(bj.out.setOther w.heap.size 0 (xa o1 n1 k1) zo zo).setOther w.heap.size 1 (xa o2 n2 k2) zo zo;have cq:=gD (gD bw.out (XH) 0 (xa o1 n1 k1)) (XH) 1 (xa o2 n2 k2);have cw:=(KT.set 0 (xa o1 n1 k1) (⟨_,_,ar.out⟩:Q2 w7 w.heap.size 228) zp zp).trans (KT.set 1 (xa o2 n2 k2) (Q2.set ⟨_,_,ar.out⟩ _ _) zp zp);have dv:ie (L.drop 0)=.ok (al,rs):=by
     grind[gQ,iR,gF,oj]
    refine⟨cq,_,_,_,_,_,_,rfl,?_⟩;rw[dv];refine⟨im (cw.owns cS.out) (Ux),⟨cells,?_,cw.rules b7.out⟩,j,hps2⟩;exact im (gy (gy aK.out (gp _ _ _ _) (by right;intro e;exact gz aK.out e ar.out zp)) (gp _ _ _ _) (by right;intro e;exact gz aK.out e ar.out zp)) (Ux)
   have e0:(gR y.k !=101)=true:=by rw[bne,rI];simp[h0]
   have cd:=fy h0;clear h0
   go_wp2_with (refine(jH ae HY.out).mono ?_)
   rintro e w7 ⟨rfl,U⟩;simp only[ki];have bj:=ae.later U;have bw:=aY.trans (gE U _);have ar:=(U.block w.heap.size zo).trans hrb;have aN:=(U.block (w.heap.size+1) hz).trans ay;have aK:=gq ba U;have bN:=KT.below U;have cJ:=dK aN;clear U c0 c1 c2
   go_wp2_with (refine(jH bj HY.out).mono ?_)
   rintro e w8 ⟨rfl,aC⟩;simp only[ki];have bV:=bj.later aC;have cY:=bw.trans (gE aC _);have dd:=(aC.block w.heap.size zo).trans ar;have cb:=(aC.block (w.heap.size+1) cJ).trans aN;have bS:=gq aK aC;have bO:=bN.trans (KT.below aC);have dD:=dK cb;clear aC;obtain⟨j9,a6⟩:∃j9,j9=if (!false&&y.k==5)=true then j+1 else j:=⟨_,rfl⟩;obtain⟨b9,aR⟩:∃b,b= !(!false&&y.k==5):=⟨_,rfl⟩;have bK:=fy a6;have bF:=fy aR;clear a6 aR
   go_wp2_with (refine(nE bV HY.out rfl zp zp bK.out bF.out).mono ?_)
   rintro e w9 ⟨rfl,cF,aG⟩;have cZ:=cY.trans aG;have de:=(aG.block w.heap.size zo zs).trans dd;have cc:=(aG.block (w.heap.size+1) dD zs).trans cb;have bT:=gy bS aG (Q' (rF bS cB));have bP:=bO.trans (KT.ps bV aG);have dE:=dK cc;clear aG
   go_wp2_with (refine(Jw cF).mono ?_)
   rintro e dG ⟨aj,ra,rb,cM,cL,ro,rn,rk,rd,rp,aE,cg,rfl,cD,cG⟩;simp only[jV];have b8:=fy cG;have bH:=cZ.trans aj;have bt:=(aj.block w.heap.size zo zs).trans de;have au:=(aj.block (w.heap.size+1) dE zs).trans cc;have aq:=gy bT aj (Q' (rF bT cB));have aJ:=fy (bP.trans (KT.ps cF aj));have hz10:=dK au;clear aj cG;have vc:=EQ au;have vf:=gh au
   go_wp2_with (at_builtin;go_must (refine U0 _ rfl _ _ 226 rfl w.heap.size 235 m0 (.agg #[xd xh 0,xd .u8 0,xj ⟨#[]⟩,xd xh 0,TV,xd xh 0,xk none]) 7 80 underlying226 du cx cy cA rfl zd _ rs.length cells rfl ?c0 (TU (dG.heap.size+1) 0) 1 1 [xd xh y.p,xd .u8 rb,xj cM,xd xh cL,xa ro rn rk,xd xh rd,xk rp] rfl rfl ?c1 ?c2 ?c3 ?c4 ?c5 ?_))
   case c0=>exact(aq.alloc _).alloc _
   case c1=>
    intro j u J
    match j,J with
    |0,J=>simp at J;subst J;exact(EQ (gu zp) 0).trans rfl
    |1,J=>simp at J;subst J;exact(EQ (gu zp) 1).trans rfl
    |2,J=>simp at J;subst J;exact(EQ (gu zp) 2).trans rfl
    |3,J=>simp at J;subst J;exact(EQ (gu zp) 3).trans rfl
    |4,J=>simp at J;subst J;exact(EQ (gu zp) 4).trans rfl
    |5,J=>simp at J;subst J;exact(EQ (gu zp) 5).trans rfl
    |6,J=>simp at J;subst J;exact(EQ (gu zp) 6).trans rfl
    |j+7,J=>trivial
   case c2=>intro u hu;simp at hu;rcases hu with rfl|rfl|rfl|rfl|rfl|rfl|rfl<;>rfl
   case c3=>unfold maxLen;omega
   case c4=>omega
   case c5=>simp;omega
   intro v12 dH bn I _;obtain⟨aF,dn|⟨aQ,an,bA,cI,ai⟩⟩:=bn
   .exact absurd dn.2 zo
   subst cI;have bQ:Hid (dH.ownsRow w.heap.size 235 7 (xa (TT aQ) (rs.length+1) an) (rs.length+1) (cells++[xd xh y.p,xd .u8 rb,xj cM,xd xh cL,xa ro rn rk,xd xh rd,xk rp])):=⟨aF,Q' ⟨aQ,an,bA,rfl,ai⟩⟩;have a8:=gJ aq;have aX:some pb≠(xa o2 n2 k2).ownBlock:=by grind
   have aW:some g≠(xa o2 n2 k2).ownBlock:=by grind
   have aU:some w.heap.size≠(xa o2 n2 k2).ownBlock:=by intro e;exact gz aq e.symm bt zp
   have aV:some (w.heap.size+1)≠(xa o2 n2 k2).ownBlock:=by intro e;exact gz aq e.symm au zp
   have aL:=((cD.alloc _).alloc _).grown I aX aW;have bI:=(gL (gL bH)).andThen I (λj J=>by left;exact(a8 j J).1);have bX:=(I.block w.heap.size zs aU).trans ((XD zs).trans ((XD zo).trans bt));have av:=(I.block (w.heap.size+1) zs aV).trans ((XD zs).trans ((XD zo).trans au));have bM:=((KT.alloc _ _).trans (KT.alloc _ _)).trans (KT.own I ((aq.alloc _).alloc _));have hz12:=dK av;have hg12ne:aQ≠w.heap.size+1:=by grind[gQ]
   have hg12ge:=ai.1;clear vc vf I ai a8 aX aW aU aV aF;have vc:=EQ av;have vf:=gh av;obtain⟨x,r2,hx2⟩:=jc aL.lt;have HX2:=fy hx2;clear hx2;obtain⟨az,ax⟩:∃az,az=if (!cg&&x.k==21)=true then aE+1 else aE:=⟨_,rfl⟩;obtain⟨aO,aw⟩:∃b,b= !(!cg&&x.k==21):=⟨_,rfl⟩;have br:=fy ax;have bq:=fy aw;clear ax aw
   go_wp2_with (refine(nE (aL.setOther _ _ _ zo zo) HX2.out rfl zp zp br.out bq.out).mono ?_)
   rintro e w13 ⟨rfl,cE,ak⟩;have bJ:=(gD bI (b:=w.heap.size+1) zo _ _).trans ak;have bY:=(ak.block w.heap.size (by simp[Rc];omega) zs).trans ((XE zp).trans bX);have ca:=(ak.block (w.heap.size+1) (by simp[Rc];omega) zs).trans ((gj av _ _).trans rfl);have bR:=gy (gy bQ.out (gp _ (w.heap.size+1) 1 (xa (TT aQ) (rs.length+1) an)) (by simp[Value.ownBlock];omega)) ak (by simp[Value.ownBlock];omega);have aI:=fy ((bM.trans (KT.set 1 (xa (TT aQ) (rs.length+1) an) ⟨_,_,av⟩ zp zp)).trans (KT.ps (aL.setOther _ _ _ zo zo) ak));clear vc vf ak;go_wp2_with fail
   go_roundg m
   case measure=>omega
   refine⟨o1,n1,k1,al,_,_,_,_,_,az,aO,bJ,cE,bY,ca,bR,?_⟩;have hX:=HX.out;have hy:=HY.out;rw[hy,iR,T' (show ¬ gF (y::r1)=0 from cd.out)] at hX;have hm:=HM.out;have bC:=bE.out;have a6:=bK.out;have aR:=bF.out;have ax:=br.out;have aw:=bq.out;have hx2:=HX2.out;have dy:=Hx hy;by_cases h5:y.k=5
   .have e9:b9=false:=by rw[aR];simp[h5]
    have bB:j9=j+1:=by rw[a6];simp[h5]
    subst e9 bB;rw[Uh (show gF (y::r1)=5 from h5),List.tail_cons,<-dy] at hX;rcases b8.out with⟨rfl,_,rr,hrr,hri⟩|⟨rfl,_,hrr⟩
    .rw[hrr] at hX;have hlen':=rJ hrr;simp only at hX;by_cases h21:x.k=21
     .have aB:aO=false:=by rw[aw];simp[h21]
      have ag:az=aE+1:=by rw[ax];simp[h21]
      subst aB ag;rw[Uh (show gF (L.drop aE)=21 by rw[hx2];trivial),WC] at hX;refine Rf ⟨rfl,aI.out.owns (aJ.out.owns hoa),rs++[{rr with pl:=y.p}],zp,Q3.snoc (aI.out.rules (aJ.out.rules b4.out)) (aI.out.rl (hri.pl y.p)),?_,?_,?_⟩
      .grind
      .grind
      grind[oj,ig]
     have aB:aO=true:=by rw[aw];simp[h21]
     have ag:az=aE:=by rw[ax];simp[h21]
     subst aB ag;rw[T' (show ¬ gF (L.drop az)=21 by rw[hx2];trivial)] at hX;exact Q' ⟨rfl,hX⟩
    rw[hrr rfl] at hX;have aB:aO=true:=zv;have ag:az=aE:=zv;subst aB ag;exact Q' ⟨rfl,hX⟩
   have e9:b9=true:=by rw[aR];simp[h5]
   have bB:j9=j:=by rw[a6];simp[h5]
   subst e9 bB;rw[T' (show ¬ gF (y::r1)=5 from h5)] at hX;rcases b8.out with⟨_,hf,_⟩|⟨rfl,hjj,_⟩
   .cases hf
   have aB:aO=true:=zv;have ag:az=aE:=zv;have cj:=hjj rfl;subst aB ag;refine Q' ⟨rfl,?_⟩;rw[hX,cj,hy];rfl
  have HX:=fy hx;clear hx;have vc:=EQ ay;have rc:=EQ hrb;have rf:=gh hrb;go_wp2_with fail;refine py (v:=.agg #[xa o1 n1 k1,xa o2 n2 k2]) ?_ rfl ?_
  .simp[results,results200,go_sem,rc]
  have hps2:=(ae.setOther w.heap.size 0 (xa o1 n1 k1) zo zo).setOther w.heap.size 1 (xa o2 n2 k2) zo zo
  grind[gD,gQ,FM]
 cases mb
 .exact zm26
 exact zm26
def PQ(l:TY)(w w':Uc)(e:Ending):Prop:=
 XL w w'/\∃o1 n1 k1 o2 n2 k2,(match ie l with
  |.ok (al,rs)=>e=xm (.tuple #[.agg #[xa o1 n1 k1,xa o2 n2 k2],xd xh (-1)])/\w'.ownsRow 0 232 3 (xa o1 n1 k1) al.length (iP al)/\(∃cells,w'.ownsRow 0 235 7 (xa o2 n2 k2) rs.length cells/\Q3 w' rs cells)
  |.error q=>e=xm (.tuple #[.agg #[xa o1 n1 k1,xa o2 n2 k2],xd xh q]))
def Fd(I:XL W w1):∀b o,b<W.heap.size->w1.cell? (TU b o)=W.cell? (TU b o):=λb o h=>I.cell (p:=⟨b,o,none⟩) h
def OX(I:XL W w1):∀b o,b<W.heap.size->w1.frozen? (TU b o)=W.frozen? (TU b o):=λb o h=>I.frozen (p:=⟨b,o,none⟩) h
def su{a b:Uc}(h:XL w a)(hg:a.grownBy b (some pb))(hp:w.heap.size<=pb):XL w b:=h.grown hg h.size (λk hk=>za)
def Hz(s:Ub)(w:Uc)(hs:s.size<=400):
  Calls prog 173 #[xj s] w λe w'=>PQ (jr s (s.size+1) 0) w w' e:=by
 have J:=AA s (s.size+1) 0 (Ux) zo;have aD:=vN s (s.size+1) 0;have hlen:=rm s (s.size+1) 0 (Ux);have aK:=fy (λw=>FR s w hs);generalize jr s (s.size+1) 0=L at *;have aH:=fy aD;clear aD;have fl2:=Cv;go_in
 go_wp2_with (refine(aK.out _).mono ?_)
 rintro e w1 ⟨v1,rfl,ar,ai⟩;obtain⟨aN,h1|⟨g,cap,cur,aQ,aM,ad,aB,ao,aL,ae⟩⟩:=ar
 .exact absurd h1.2 (by intro e;have:=J.ne;simp_all)
 subst aQ;have aI:Hid (PS (w1.alloc (xi #[xa (TT g) L.length cap,xd xh ((0:Nat):Int),xn false] 325)) w1.heap.size g cap L 0 false):=
  ⟨gi _ _,⟨cur,(XD (dK ad)).trans ad,ae⟩,aB,ao,zo,by have:=J.ne;exact List.length_pos_iff.2 this,J,aH.out⟩
 have aT:w.heap.size<w1.heap.size:=by have:=ai.size;simp at this;omega
 have aJ:=show w1.heap[w.heap.size]?=some (xi #[TV,TV] 228 (0,0)) from(ai.block _ zp).trans (gi _ _)
 have aF:=((Uo w.heap.size w).alloc (XH) (xi #[TV,TV] 228)).trans (ai.mono zp);clear ai ad ae aL aB ao aN aM
 go_wp2_with (refine(I8 aI.out).mono ?_)
 rintro e w2 ⟨aj,o1,n1,k1,o2,n2,k2,rfl,ag⟩;have av:=su (aF.alloc zo _) aj zo;have U:=(aj.block w.heap.size zs zs).trans ((XD aT).trans aJ);have hz2:w1.heap.size<w2.heap.size:=by have:=aj.size;simp at this;omega
 clear aj;rw[Vt] at ag;cases hmr:ie L with
 |error q=>
  have hx:=ag;rw[hmr] at hx;obtain⟨j,hq,hp⟩:=hx;obtain⟨y,r1,hy⟩:=jc hp.lt;have HY:=fy hy;have aS:y.p=q:=by rw[hy] at hq;exact hq
  subst aS;have aq:=fy hmr;obtain⟨c0,c1,c2⟩:=hp.cells;clear hmr hy hq ag;go_wp2_with fail;clear c0 c1 c2;refine R' (S:=λw'=>w'.cell? (TU w2.heap.size 0)=some (xa o1 n1 k1)/\w'.cell? (TU w2.heap.size 1)=some (xa o2 n2 k2)) zk ?_ (λI=>?_)
  .simp
  apply zt1 0 (.agg #[xa o1 n1 k1,xa o2 n2 k2]) I;apply zt1 1 (xk (TT w1.heap.size)) I;apply zrH 2;intro K hK;go_simp
  go_wp2_with (refine(jH (hp.later (by exact gC.drew)) HY.out).mono ?_;rintro e w3 ⟨rfl,aa⟩;simp only[ki])
  have ay:w3.cell? (TU w2.heap.size 0)=some (xa o1 n1 k1)/\w3.cell? (TU w2.heap.size 1)=some (xa o2 n2 k2):=by
   constructor
   .rw[Fd aa _ _ zp];simp
   rw[Fd aa _ _ zp];simp
  refine hK.out _ _ ay (λak=>?_);clear hK K;have aw:=(aa.block w.heap.size zs).trans ((XD zo).trans U);have aG:=(av.alloc zo _).drew.trans (aa.mono zs);clear aa;have rc:=EQ aw;have rf:=gh aw;apply zt1 3 (xd xh (y.p:Int)) ak;apply zrH 4;intro K hK;go_simp;have az:((w3.setCell (TU w.heap.size 0) (xa o1 n1 k1)).setCell (TU w.heap.size 1) (xa o2 n2 k2)).cell? (TU w2.heap.size 0)=some (xa o1 n1 k1)/\((w3.setCell (TU w.heap.size 0) (xa o1 n1 k1)).setCell (TU w.heap.size 1) (xa o2 n2 k2)).cell? (TU w2.heap.size 1)=some (xa o2 n2 k2):=by
   constructor
   .exact zm85
   exact zm85
  refine hK.out _ _ az (λan=>?_);clear hK K;apply zt1 5 (xd xh (y.p:Int)) an;refine Ut zk ?_ _;clear ay ak az an I;go_wp2_with fail;refine py (v:=.tuple #[.agg #[xa o1 n1 k1,xa o2 n2 k2],xd xh y.p]) ?_ rfl ?_
  .simp[results,results173,go_sem,rc]
  refine⟨(aG.setCell (XH) _).setCell (XH) _,o1,n1,k1,o2,n2,k2,?_⟩;rw[aq.out]
 |ok x=>
  obtain⟨al,rs⟩:=x;have hx:=ag;rw[hmr] at hx;obtain⟨ha,⟨cells,hr,aP⟩,j,hp⟩:=hx;have aq:=fy hmr;obtain⟨c0,c1,c2⟩:=hp.cells;have aU:w.heap.size<w2.heap.size:=zo;clear hmr hp ag;have rc:=EQ U;have rf:=gh U;go_wp2_with fail;refine py (v:=.tuple #[.agg #[xa o1 n1 k1,xa o2 n2 k2],xd xh (-1)]) ?_ rfl ?_
  .simp[results,results173,go_sem,rc,aU]
  have tR:Q2 w2 w.heap.size 228:=⟨_,_,U⟩;have aA:=(((KT.set 0 (xa o1 n1 k1) tR zp zp).trans (KT.set 1 (xa o2 n2 k2) (tR.set _ _) zp zp))).trans (KT.alloc _ (xi #[xa o1 n1 k1,xa o2 n2 k2] 228));have aC:=λe=>gz hr e U zp
  refine⟨((av.setCell (XH) _).setCell (XH) _).alloc (by simp[Rc];omega) _,o1,n1,k1,o2,n2,k2,?_⟩;rw[aq.out];exact⟨rfl,aA.owns ha,cells,(gy (gy hr (gp _ _ _ _) (Q' aC)) (gp _ _ _ _) (Q' aC)).alloc _,aA.rules aP⟩
def FB(w:Uc)(fb:Nat)(x:T3):Prop:=w.heap[fb]?=some (xi #[xd xh x.1,xd xh x.2] 284 (0,0))
def kA{fb:Nat}(p e:Nat)(h:FB w fb x):
  Calls prog 174 #[xk (TT fb),xd xh p,xd xh e] w λr w'=>r=xm (.tuple #[])/\FB w' fb (Se x p e)/\w.grownBy w' (some fb):=by
 have fc:=EQ h;have ff:=gh h;have yes:(x.2=0\/p<x.1\/(p=x.1/\e<x.2))->FB ((w.setCell (TU fb 0) (xd xh p)).setCell (TU fb 1) (xd xh e)) fb (Se x p e)/\w.grownBy ((w.setCell (TU fb 0) (xd xh p)).setCell (TU fb 1) (xd xh e)) (some fb):=by
  intro hc;refine⟨?_,(gp _ _ _ _).trans (gp _ _ _ _)⟩;unfold FB;rw[gj (gj h _ _) _ _,Se,Uh hc];rfl
 have no:¬ (x.2=0\/p<x.1\/(p=x.1/\e<x.2))->FB w fb (Se x p e)/\w.grownBy w (some fb):=by
  intro hc;rw[Se,T' hc];exact⟨h,U4 _ _⟩
 have Y:=fy yes;have N:=fy no;clear yes no;by_cases h0:x.2=0
 .have e0:((x.2:Int)==0)=true:=VE.2 zo;have H0:=fy h0;clear h0;go_in;go_wp2;go_end0;exact⟨rfl,Y.out (Rf H0.out)⟩
 have e0:((x.2:Int)==0)=false:=V3.2 zo;by_cases h1:p<x.1
 .have H1:=fy h1;have e1:decide (p<x.1)=true:=zs;clear h1 h0;go_in;go_wp2;go_end0;exact⟨rfl,Y.out (Q' (Rf H1.out))⟩
 have e1:decide (p<x.1)=false:=zs;by_cases I:p=x.1
 .have e2:((p:Int)==(x.1:Int))=true:=VE.2 zo;by_cases U:e<x.2
  .have H3:=fy (And.intro I U);have e3:decide (e<x.2)=true:=zs;clear h0 h1 I U;go_in;go_wp2;go_end0;exact⟨rfl,Y.out (Q' (Q' H3.out))⟩
  have J:=fy (show ¬ (x.2=0\/p<x.1\/(p=x.1/\e<x.2)) from zo);have e3:decide (e<x.2)=false:=zs;clear h0 h1 I U;go_in;go_wp2;go_end0;exact⟨rfl,N.out J.out⟩
 have e2:((p:Int)==(x.1:Int))=false:=V3.2 zo;have J:=fy (show ¬ (x.2=0\/p<x.1\/(p=x.1/\e<x.2)) from zo);clear h0 h1 I;go_in;go_wp2;go_end0;exact⟨rfl,N.out J.out⟩
def IR(w:Uc)(o:TX)(n k:Nat)(al:TY):Prop:=w.ownsRow 0 232 3 (xa o n k) al.length (iP al)
def IR.len{k:Nat}(h:IR w o n k al):n=al.length:=by
 obtain⟨_,⟨h1,h2⟩|⟨g,cap,cur,hv,_⟩⟩:=h
 .simp_all
 simp_all
def IR.tok{k:Nat}(h:IR w o n k al)(U:al.drop i=t::r):
  ∃g,o=some ⟨g,0,none⟩/\g<w.heap.size/\Q2 w g 232/\w.cell? (TU g (i*3))=some (xd .u8 (gR t.k))/\w.cell? (TU g (i*3+1))=some (xj t.s)/\w.cell? (TU g (i*3+2))=some (xd xh t.p):=by
 have hi:i<al.length:=by
  rcases UU i al.length with h|h
  .omega
  rw[UX h] at U;cases U
 obtain⟨_,⟨h1,h2⟩|⟨g,cap,cur,hv,_,I,hle,_,hcs,J⟩⟩:=h
 .omega
 cases hv;have h3:=yY al i t r U;rw[<-J,U8,U8,U8,Uh zo,Uh zo,Uh zo] at h3;refine⟨g,rfl,dK I,⟨_,_,I⟩,?_,?_,?_⟩<;>rw[EQ I,<-UN]
 .simp_all
 .simp_all
 simp_all
def KT.acts(h:KT w w'){k:Nat}(I:IR w o n k al):IR w' o n k al:=h.owns I
def KU{s:Ub}(I:al.drop i=t::r)(e:(t.s.toList==s.toList)=true):iB (al.drop i) s=true:=by
 rw[I,iB,Uh za]
def Nv{s:Ub}(I:al.drop i=t::r)(e:(t.s.toList==s.toList)=false):iB (al.drop i) s=iB (al.drop (i+1)) s:=by
 rw[Hx I,I,iB,T' za]
def vK{s:Ub}(h:IR w o1 n1 k1 al)(hlen:al.length<=401):
  Calls prog 249 #[.agg #[xa o1 n1 k1,xa o2 n2 k2],xj s] w λr w'=>r=xm (xn (iB al s))/\XL w w':=by
 have hn:=h.len;subst hn;have U:=show XL w (w.alloc (xi #[xa o1 al.length k1,xa o2 n2 k2] 228)) from gC
 go_in;go_wp2
 go_loop [5] (λv=>∃k:Nat,k<=al.length/\v=xd xh k/\Hid (iB al s=iB (al.drop k) s)) (λv=>al.length-(intOf v).toNat)
 .exact zm65
 obtain⟨k,hk,rfl,H⟩:=hrel;by_cases hlt:k<al.length
 .obtain⟨t,r,J⟩:=jc hlt;obtain⟨g,rfl,hg,_,t0,t1,t2⟩:=h.tok J;have HT:=fy J;clear J;cases he:(t.s.toList==s.toList) with
  |true=>
   have I:=fy he;go_wp2;go_ret;exact⟨ja (by rw[H.out,KU HT.out I.out]),U⟩
  |false=>
   have I:=fy he;go_wp2
   go_round
   .exact⟨k+1,zo,zf,H.out.trans (Nv HT.out I.out)⟩
   simp[intOf];omega
 go_wp2;go_ret;exact⟨ja (by rw[H.out,UX zo];rfl),U⟩
def So(w:Uc)(o:TX)(tr:TZ):Prop:=∀j x,tr[j]?=some x->∃b off,o=some ⟨b,off,none⟩/\b<w.heap.size/\w.cell? (TU b (off+j))=some (xj x)
def So.later(h:So w o tr)(J:XL w w'):So w' o tr:=λj x hx=>by
 obtain⟨b,off,U,I,h3⟩:=h j x hx;exact⟨b,off,U,Uw I J.size,(Fd J _ _ I).trans h3⟩
theorem Bs(z:Ud)(n:Nat):madeCells #[z] n=Array.replicate n z:=by
 refine Array.ext (by simp[madeCells]) λi h1 h2=>?_
 simp[madeCells,Nat.mod_one]
theorem ry{P:Program}(w:Uc)(t e:TypeId)(i:TypeInfo)(z:Ud)(U:P.underlying t=some (.slice e))(hi:P.info? e=some i)(hz:i.zero=some z)(hs:i.size=1)(hzc:z.cells= #[z])(I:i.bytes<=24)(n:Nat)(hn:n<=10000000000):
  (Instr.makeSlice t (xd xh (n:Int)) (xd xh (n:Int))).run P w=.ok (xa (TT w.heap.size) n n) (w.alloc (xi (Array.replicate n z) e)):=by
 have J:(i.bytes:Int)*(n:Int)<=281474976710656:=by
  have h:=Nat.mul_le_mul I hn;omega
 have:=run_make (P:=P) w t e i z U hi hz xh xh n n zo (Int.le_refl _) J zo
 grind[Bs]
def FB.later{fb:Nat}(h:FB w fb x)(I:XL w w'):FB w' fb x:=(I.block fb (dK h)).trans h
def KT.fb{fb:Nat}(h:FB w fb x)(hg:w.grownBy w' (some fb)):KT w w':=KT.grown hg ⟨_,_,h⟩ zp zp
def AG{fb:Nat}{s:Ub}{p:Nat}(h:IR w o1 n1 k1 al)(J:al.length<=401)(hf:FB w fb x)(hs:s.size<=400):
  Calls prog 202 #[.agg #[xa o1 n1 k1,xa o2 n2 k2],xk (TT fb),xj s,xd xh p] w λr w'=>r=xm (.tuple #[])/\FB w' fb (Fr x (iW al s p))/\w.grownBy w' (some fb):=by
 have hfl:=dK hf;cases hh:iB al s
 .by_cases hl:8<s.size
  .have HFN:Hid (Fr x (iW al s p)=Se (Se x p 1) p 3):=by show _=_;simp[iW,hh,hl,Fr]
   have hL:(8:Int)<(s.size:Int):=zo;have HH:=fy hh;clear hl hh;go_in
   go_wp2_with (refine(kA p 1 (hf.later gC)).mono ?_)
   rintro e w1 ⟨rfl,ae,I⟩;have aa:=(KT.fb (hf.later ((XF).alloc (XH) (xi #[xa o1 n1 k1,xa o2 n2 k2] 228))) I).acts ((KT.alloc _ _).acts h);have ad:=(gL (U4 w (some fb)) (o:=xi #[xa o1 n1 k1,xa o2 n2 k2] 228)).trans I;have U:=(I.block w.heap.size zp zs).trans (gi w (xi #[xa o1 n1 k1,xa o2 n2 k2] 228));have bc:=EQ U;clear I U
   go_wp2_with (refine(vK aa J).mono ?_)
   rintro e w2 ⟨rfl,hb2⟩;have HF2:=ae.later hb2;have HG2:=ad.trans (gE hb2 _);exact zm82
  have HFN:Hid (Fr x (iW al s p)=Se x p 3):=by show _=_;simp[iW,hh,hl,Fr]
  have hL:¬ (8:Int)<(s.size:Int):=zo;have HH:=fy hh;clear hl hh;go_in;go_wp2_with fail;refine(vK ((KT.alloc _ _).acts h) J).mono ?_;rintro e w2 ⟨rfl,hb2⟩;have HF2:=(hf.later gC).later hb2;have HG2:=(gL (U4 w (some fb)) (o:=xi #[xa o1 n1 k1,xa o2 n2 k2] 228)).trans (gE hb2 _);exact zm82
 by_cases hl:8<s.size
 .have HFN:Hid (Fr x (iW al s p)=(Se x p 1)):=by show _=_;simp[iW,hh,hl,Fr]
  have hL:(8:Int)<(s.size:Int):=zo;have HH:=fy hh;clear hl hh;go_in
  go_wp2_with (refine(kA p 1 (hf.later gC)).mono ?_)
  rintro e w1 ⟨rfl,ae,I⟩;have aa:=(KT.fb (hf.later ((XF).alloc (XH) (xi #[xa o1 n1 k1,xa o2 n2 k2] 228))) I).acts ((KT.alloc _ _).acts h);have ad:=(gL (U4 w (some fb)) (o:=xi #[xa o1 n1 k1,xa o2 n2 k2] 228)).trans I;have U:=(I.block w.heap.size zp zs).trans (gi w (xi #[xa o1 n1 k1,xa o2 n2 k2] 228));have bc:=EQ U;clear I U
  go_wp2_with (refine(vK aa J).mono ?_)
  rintro e w2 ⟨rfl,hb2⟩;have HF2:=ae.later hb2;have HG2:=ad.trans (gE hb2 _);rw[HH.out];clear hb2;go_wp2;go_end0;refine⟨rfl,?_,HG2⟩;rw[HFN.out];exact HF2
 have HFN:Hid (Fr x (iW al s p)=x):=by show _=_;simp[iW,hh,hl,Fr]
 have hL:¬ (8:Int)<(s.size:Int):=zo;have HH:=fy hh;clear hl hh;go_in;go_wp2_with fail;refine(vK ((KT.alloc _ _).acts h) J).mono ?_;rintro e w2 ⟨rfl,hb2⟩;have HF2:=(hf.later gC).later hb2;have HG2:=(gL (U4 w (some fb)) (o:=xi #[xa o1 n1 k1,xa o2 n2 k2] 228)).trans (gE hb2 _);rw[HH.out];clear hb2;go_wp2;go_end0;refine⟨rfl,?_,HG2⟩;rw[HFN.out];exact HF2
def Fp(k:Nat):(iI k==97)=decide (k=0):=by
 unfold iI;repeat' split
 all_goals simp_all
def zh(f:Fm)(s:Ub)(p:Nat):Prop:=
 match f with
 |.nil=>False
 |.node _ _ a l r=>(a.1=0/\a.2.1=s/\a.2.2=p)\/zh l s p\/zh r s p
def rY(ao:al.length<=401):∀(f:Fm)(w:Uc)(o1:TX)(n1 k1:Nat)(o2:TX)(n2 k2:Nat)(fb:Nat)(x:T3)(q:TX),IR w o1 n1 k1 al->FB w fb x->Q9 w f q->(∀s p,zh f s p->s.size<=400)->
  Calls prog 175 #[.agg #[xa o1 n1 k1,xa o2 n2 k2],xk (TT fb),xk q] w λr w'=>r=xm (.tuple #[])/\FB w' fb (Fr x (qx al f))/\w.grownBy w' (some fb)
 |.nil,w,o1,n1,k1,o2,n2,k2,fb,x,q,ha,hf,hq,_=>by
  cases (show q=none from hq);clear ha;go_in;go_wp2_with fail;exact py (v:=.tuple #[]) (by simp[results,results175,go_sem]) rfl ⟨rfl,hf.later gC,gL (U4 _ _)⟩
 |.node u v a l r,w,o1,n1,k1,o2,n2,k2,fb,x,q,ha,hf,hq,hsz=>by
  obtain⟨b,pl,pr,rfl,hb,hl,hr⟩:=hq;have aF:=fy (rY ao l);have aG:=fy (rY ao r);have ai:=fy hsz;have aq:=dK hb;have hfl:=dK hf;have hbf:b≠fb:=by rintro rfl;rw[show w.heap[b]? =_ from hf] at hb;simp_all
  have bc:=EQ hb;clear hsz;have an:qx al (.node u v a l r)=(if a.1=0 then iW al a.2.1 a.2.2 else [])++(qx al l++qx al r):=rfl;have aE:=fy an;clear an;by_cases h0:a.1=0
  .have e0:(iI a.1==97)=true:=by rw[Fp];simp[h0]
   have H0:=fy h0;clear h0;go_in;go_wp2_with fail;refine R' (S:=λw'=>w'.heap[w.heap.size]?=some (xi #[xa o1 n1 k1,xa o2 n2 k2] 228 (0,0))/\w'.heap[b]?=some (xi #[xd .u8 (iI a.1),xj a.2.1,xd xh a.2.2,xk pl,xk pr] 292 (0,0))) zk ?_ (λI=>?_)
   .exact⟨(gi _ _),((XD aq).trans hb)⟩
   apply zt2 0 (.agg #[xa o1 n1 k1,xa o2 n2 k2]) I;apply zt3 1 (xk (TT fb)) I;apply zt3 2 (xk (TT b)) I;apply zt3 3 (xk (TT b)) I;apply zt3 4 (xk (some (TU b 1))) I;apply zt4 5 (xj a.2.1) I;apply zt3 6 (xk (TT b)) I;apply zt3 7 (xk (TT b)) I;apply zt3 8 (xk (some (TU b 2))) I;apply zt4 9 (xd xh a.2.2) I;apply zrH 10;intro K hK;go_simp;refine(AG ((KT.below ((Uo w.heap.size w).alloc (XH) (xi #[xa o1 n1 k1,xa o2 n2 k2] 228)).drew).acts ha) ao (hf.later ((Uo w.heap.size w).alloc (XH) (xi #[xa o1 n1 k1,xa o2 n2 k2] 228)).drew) (ai.out _ _ (Rf ⟨H0.out,rfl,rfl⟩))).mono ?_;rintro e w1 ⟨rfl,aH,ak⟩;have ax:=(KT.below ((Uo w.heap.size w).alloc (XH) (xi #[xa o1 n1 k1,xa o2 n2 k2] 228)).drew).trans (KT.fb (hf.later ((Uo w.heap.size w).alloc (XH) (xi #[xa o1 n1 k1,xa o2 n2 k2] 228)).drew) ak);have aK:=(gE ((Uo w.heap.size w).alloc (XH) (xi #[xa o1 n1 k1,xa o2 n2 k2] 228)).drew (some fb)).trans ak;have ay:=(ak.block w.heap.size zp zs).trans (gi _ _);have ar:=(ak.block b (by first|(simp;done)|(simp;omega)) zs).trans ((XD aq).trans hb);have hz1:=dK ay;have hzb1:=dK ar;clear ak;refine hK.out _ _ ⟨ay,ar⟩ (λ_=>?_);clear hK K I;refine Ut zk ?_ _;go_wp2_with fail;refine R' (S:=λw'=>w'.heap[w.heap.size]?=some (xi #[xa o1 n1 k1,xa o2 n2 k2] 228 (0,0))/\w'.heap[b]?=some (xi #[xd .u8 (iI a.1),xj a.2.1,xd xh a.2.2,xk pl,xk pr] 292 (0,0))) zk ?_ (λI=>?_)
   .trivial
   apply zt2 0 (.agg #[xa o1 n1 k1,xa o2 n2 k2]) I;apply zt3 1 (xk (TT fb)) I;apply zt3 2 (xk (TT b)) I;apply zt3 3 (xk (TT b)) I;apply zt3 4 (xk (some (TU b 3))) I;apply zt4 5 (xk pl) I;apply zrH 6;intro K hK;go_simp;refine(aF.out _ _ _ _ _ _ _ _ (Fr x (iW al a.2.1 a.2.2)) _ ((ax.trans (KT.below (Uo w1.heap.size w1).drew)).acts ha) (aH.later (Uo w1.heap.size w1).drew) ((ax.trans (KT.below (Uo w1.heap.size w1).drew)).isF hl) (λs p h=>ai.out s p (Q' (Rf h)))).mono ?_;rintro e w2 ⟨rfl,aB,J⟩;have aj:=(ax.trans (KT.below (Uo w1.heap.size w1).drew)).trans (KT.fb (aH.later (Uo w1.heap.size w1).drew) J);have av:=(aK.trans (gE (Uo w1.heap.size w1).drew (some fb))).trans J;have ae:=(J.block w.heap.size zv zs).trans ay;have ad:=(J.block b zv zs).trans ar;have aL:=dK ae;have aI:=dK ad;clear J;refine hK.out _ _ ⟨ae,ad⟩ (λ_=>?_);clear hK K I;refine Ut zk ?_ _;go_wp2_with fail;refine R' (S:=λw'=>w'.heap[w.heap.size]?=some (xi #[xa o1 n1 k1,xa o2 n2 k2] 228 (0,0))/\w'.heap[b]?=some (xi #[xd .u8 (iI a.1),xj a.2.1,xd xh a.2.2,xk pl,xk pr] 292 (0,0))) zk ?_ (λI=>?_)
   .trivial
   apply zt2 0 (.agg #[xa o1 n1 k1,xa o2 n2 k2]) I;apply zt3 1 (xk (TT fb)) I;apply zt3 2 (xk (TT b)) I;apply zt3 3 (xk (TT b)) I;apply zt3 4 (xk (some (TU b 4))) I;apply zt4 5 (xk pr) I;apply zrH 6;intro K hK;go_simp;refine(aG.out _ _ _ _ _ _ _ _ (Fr (Fr x (iW al a.2.1 a.2.2)) (qx al l)) _ ((aj.trans (KT.below (Uo w2.heap.size w2).drew)).acts ha) (aB.later (Uo w2.heap.size w2).drew) ((aj.trans (KT.below (Uo w2.heap.size w2).drew)).isF hr) (λs p h=>ai.out s p (Q' (Q' h)))).mono ?_;rintro e w3 ⟨rfl,aC,U⟩;have aw:=(av.trans (gE (Uo w2.heap.size w2).drew (some fb))).trans U;have az:=(U.block w.heap.size zv zs).trans ae;have au:=(U.block b zv zs).trans ad;clear U;refine hK.out _ _ ⟨az,au⟩ (λ_=>?_);clear hK K I;refine Ut zk ?_ _;go_wp2;go_end0;refine⟨rfl,?_,aw⟩;rw[aE.out,Uh H0.out,jX,jX];exact aC
  have e0:(iI a.1==97)=false:=by rw[Fp];simp[h0]
  have H0:=fy h0;clear h0;go_in;go_wp2_with fail;refine R' (S:=λw'=>w'.heap[w.heap.size]?=some (xi #[xa o1 n1 k1,xa o2 n2 k2] 228 (0,0))/\w'.heap[b]?=some (xi #[xd .u8 (iI a.1),xj a.2.1,xd xh a.2.2,xk pl,xk pr] 292 (0,0))) zk ?_ (λI=>?_)
  .exact⟨(gi _ _),((XD aq).trans hb)⟩
  apply zt2 0 (.agg #[xa o1 n1 k1,xa o2 n2 k2]) I;apply zt3 1 (xk (TT fb)) I;apply zt3 2 (xk (TT b)) I;apply zt3 3 (xk (TT b)) I;apply zt3 4 (xk (some (TU b 3))) I;apply zt4 5 (xk pl) I;apply zrH 6;intro K hK;go_simp;refine(aF.out _ _ _ _ _ _ _ _ (x) _ ((KT.below ((Uo w.heap.size w).alloc (XH) (xi #[xa o1 n1 k1,xa o2 n2 k2] 228)).drew).acts ha) (hf.later ((Uo w.heap.size w).alloc (XH) (xi #[xa o1 n1 k1,xa o2 n2 k2] 228)).drew) ((KT.below ((Uo w.heap.size w).alloc (XH) (xi #[xa o1 n1 k1,xa o2 n2 k2] 228)).drew).isF hl) (λs p h=>ai.out s p (Q' (Rf h)))).mono ?_;rintro e w2 ⟨rfl,aB,J⟩;have aj:=(KT.below ((Uo w.heap.size w).alloc (XH) (xi #[xa o1 n1 k1,xa o2 n2 k2] 228)).drew).trans (KT.fb (hf.later ((Uo w.heap.size w).alloc (XH) (xi #[xa o1 n1 k1,xa o2 n2 k2] 228)).drew) J);have av:=(gE ((Uo w.heap.size w).alloc (XH) (xi #[xa o1 n1 k1,xa o2 n2 k2] 228)).drew (some fb)).trans J;have ae:=(J.block w.heap.size zp zs).trans (gi _ _);have ad:=(J.block b (by first|(simp;done)|(simp;omega)) zs).trans ((XD aq).trans hb);have aL:=dK ae;have aI:=dK ad;clear J;refine hK.out _ _ ⟨ae,ad⟩ (λ_=>?_);clear hK K I;refine Ut zk ?_ _;go_wp2_with fail;refine R' (S:=λw'=>w'.heap[w.heap.size]?=some (xi #[xa o1 n1 k1,xa o2 n2 k2] 228 (0,0))/\w'.heap[b]?=some (xi #[xd .u8 (iI a.1),xj a.2.1,xd xh a.2.2,xk pl,xk pr] 292 (0,0))) zk ?_ (λI=>?_)
  .trivial
  apply zt2 0 (.agg #[xa o1 n1 k1,xa o2 n2 k2]) I;apply zt3 1 (xk (TT fb)) I;apply zt3 2 (xk (TT b)) I;apply zt3 3 (xk (TT b)) I;apply zt3 4 (xk (some (TU b 4))) I;apply zt4 5 (xk pr) I;apply zrH 6;intro K hK;go_simp;refine(aG.out _ _ _ _ _ _ _ _ (Fr x (qx al l)) _ ((aj.trans (KT.below (Uo w2.heap.size w2).drew)).acts ha) (aB.later (Uo w2.heap.size w2).drew) ((aj.trans (KT.below (Uo w2.heap.size w2).drew)).isF hr) (λs p h=>ai.out s p (Q' (Q' h)))).mono ?_;rintro e w3 ⟨rfl,aC,U⟩;have aw:=(av.trans (gE (Uo w2.heap.size w2).drew (some fb))).trans U;have az:=(U.block w.heap.size zv zs).trans ae;have au:=(U.block b zv zs).trans ad;clear U;refine hK.out _ _ ⟨az,au⟩ (λ_=>?_);clear hK K I;refine Ut zk ?_ _;go_wp2;go_end0;refine⟨rfl,?_,aw⟩;rw[aE.out,T' H0.out,Vy,jX];exact aC
def iT{s:Ub}:
  Calls prog 250 #[xj s] w λe w'=>∃v,e=xm (xk v)/\Q9 w' (ia s) v/\XL w w':=by
 go_in;go_wp2;go_ret;exact⟨_,rfl,⟨w.heap.size,none,none,rfl,gi _ _,rfl,rfl⟩,gC⟩
def iU(k:Nat){c:Int}(hf:Q9 w f vf)(hc:c=iI k):
  Calls prog 251 #[xd .u8 c,xk vf] w λe w'=>∃v,e=xm (xk v)/\Q9 w' (one k f) v/\XL w w':=by
 subst hc;go_in;go_wp2;go_ret;have I:=ir w (xi #[xd .u8 (iI k),xj ⟨#[]⟩,xd xh 0,xk vf,xk none] 292);exact⟨_,rfl,⟨w.heap.size,vf,none,rfl,gi _ _,hf.later I,rfl⟩,I⟩
def Q9.drewN(h:Q9 w f p)(n:Nat):Q9 (w.drewN n) f p:=by
 induction n with
 |zero=>exact h
 |succ n ih=>exact ih.later (XF).drew
def vy(a:Ub):∀(n:Nat)(w:Uc),1<=n->n<=9->
  Calls prog 253 #[xj a,xd xh n] w λe w'=>∃v,e=xm (xk v)/\Q9 w' (me a n) v/\XL w w'
 |0,w,h,_=>zo
 |1,w,_,_=>by
  go_in
  go_wp2_with (refine(iT).mono ?_)
  rintro e w1 ⟨v1,rfl,ag,J⟩
  go_wp2_with (refine(iU 7 ag rfl).mono ?_)
  rintro e w2 ⟨v2,rfl,ae,I⟩;have aa:=J.trans (I.mono J.size);clear I;go_wp2;go_ret;exact⟨_,rfl,ae,aa⟩
 |n+2,w,_,h9=>by
  have IH:=fy (vy a (n+1));go_in
  go_wp2_with (refine(iT).mono ?_)
  rintro e w1 ⟨v1,rfl,ag,J⟩;go_wp2_with fail;rw[show((n:Int)+2-1)=((n+1:Nat):Int) from zo];refine(IH.out _ zo zo).mono ?_;rintro e w2 ⟨v2,rfl,ae,I⟩;have ar:=ag.later I;have aa:=J.trans (I.mono J.size);clear I
  go_wp2_with (refine(iU 5 ae rfl).mono ?_)
  rintro e w3 ⟨v3,rfl,ao,ad⟩;have ak:=ar.later ad;have au:=ae.later ad;have ai:=aa.trans (ad.mono aa.size);clear ad
  go_wp2_with (refine(kr 10 ak ao rfl).mono ?_)
  rintro e w4 ⟨v4,rfl,av,U⟩;have Ha4:=ak.later U;have Ht4:=au.later U;have Hx4:=ao.later U;have aj:=ai.trans (U.mono ai.size);clear U
  go_wp2_with (refine(iU 7 av rfl).mono ?_)
  rintro e w5 ⟨v5,rfl,aw,an⟩;have aq:=aj.trans (an.mono aj.size);clear an;go_wp2;go_ret;exact⟨_,rfl,aw,aq⟩
set_option maxRecDepth 1000000 in
def xN:∀(f:Fm)(w:Uc)(p:TX),Q9 w f p->gI f<=100000->
  Calls prog 178 #[xk p] w λe w'=>e=xm (xd xh (gI f))/\∃n,w'=w.drewN n
 |.nil,w,p,h,_=>by
  cases (show p=none from h);go_in;go_wp2;go_ret;exact⟨rfl,0,rfl⟩
 |.node u v a l r,w,p,h,hs=>by
  obtain⟨b,pl,pr,rfl,hb,hl,hr⟩:=h;have I:=fy (xN l);have J:=fy (xN r);have U:gI l<=100000:=by simp only[gI] at hs;omega
  have aa:gI r<=100000:=by simp only[gI] at hs;omega
  have hss:=hs;have bc:=EQ hb;clear hb hs;go_in;go_wp2;go_quiet (first|(refine Wc (I.out _ _ ?_ U);exact Q9.drewN hl _)|(refine Wc (J.out _ _ ?_ aa);exact Q9.drewN hr _));go_wp2;go_ret;exact⟨oH zf,nq,rfl⟩
def JJ(s:Ub)(w:Uc):Calls prog 203 #[xj s] w λe w'=>e=xm (.tuple #[xj ⟨(iD (gW s.toList)).toArray⟩,xn (decide (gW s.toList<=11))])/\w'=w:=by
 go_in;go_wp2
 all_goals
  go_ret2;refine⟨?_,rfl⟩
 all_goals first
  |(have h:s.toList=[105,110,105,116]:=(by first|assumption|exact eq_of_beq (by assumption));rw[h];rfl)
  |(have h:s.toList=[108,97,115,116]:=(by first|assumption|exact eq_of_beq (by assumption));rw[h];rfl)
  |(have h:s.toList=[115,111,109,101]:=(by first|assumption|exact eq_of_beq (by assumption));rw[h];rfl)
  |(have h:s.toList=[102,101,119]:=(by first|assumption|exact eq_of_beq (by assumption));rw[h];rfl)
  |(have h:s.toList=[114,101,115,112,111,110,115,101]:=(by first|assumption|exact eq_of_beq (by assumption));rw[h];rfl)
  |(have h:s.toList=[112,114,101,99,101,100,101]:=(by first|assumption|exact eq_of_beq (by assumption));rw[h];rfl)
  |(have h:s.toList=[99,104,97,105,110]:=(by first|assumption|exact eq_of_beq (by assumption));rw[h];rfl)
  |(have h:s.toList=[98,101,102,111,114,101]:=(by first|assumption|exact eq_of_beq (by assumption));rw[h];rfl)
  |(have h:s.toList=[119,105,116,104]:=(by first|assumption|exact eq_of_beq (by assumption));rw[h];rfl)
  |(have h:s.toList=[97,112,97,114,116]:=(by first|assumption|exact eq_of_beq (by assumption));rw[h];rfl)
  |(have h:s.toList=[110,101,118,101,114]:=(by first|assumption|exact eq_of_beq (by assumption));rw[h];rfl)
  |(have h:s.toList=[110,111,116,110,101,120,116]:=(by first|assumption|exact eq_of_beq (by assumption));rw[h];rfl)
  |(have hn:gW s.toList=12:=(by simp_all [gW]);rw[hn];rfl)
def lW(s:Ub):Nat:=match s.data.toList with|c::_=>c.toNat-48|[]=>0
def LS(w:Uc)(a b:Int){s:Ub}(c:Int)(o:TX)(n k:Nat)(d:Int)(p:TX)(x:Tk)(ha:IR w o n k [x])(hw:s.toList=[105,110,105,116]):
  Calls prog 204 #[jV a b s c o n k d p] w λe w'=>∃v,e=xm (xk v)/\Q9 w' (jg 0 x.s ByteArray.empty 0) v/\XL w w':=by
 obtain⟨g,an,hg,_,t0,t1,t2⟩:=ha.tok (i:=0) (t:=x) (r:=[]) rfl;subst an;have hn:=ha.len;subst hn;clear ha;simp only[jV];have e0:(s.toList==[105,110,105,116])=true:=za;clear hw;simp at t0 t1 t2;go_in
 go_wp2_with (refine(iT).mono ?_)
 rintro e w1 ⟨v1,rfl,aj,J⟩;have U:=((Uo w.heap.size w).alloc (XH) _).trans (J.mono zp);have aa:=(J.block w.heap.size zp).trans (gi _ _);have ao:=dK aa;clear J
 go_wp2_with (refine(iT).mono ?_)
 rintro e w2 ⟨v2,rfl,ak,I⟩;have ag:=aj.later I;have ad:=U.trans (I.mono U.size);have ae:=(I.block w.heap.size ao).trans aa;clear ak I;have xc:=EQ ae;go_wp2;go_ret;exact⟨_,rfl,ag,ad⟩
def LU(w:Uc)(a b:Int){s:Ub}(c:Int)(o:TX)(n k:Nat)(d:Int)(p:TX)(x:Tk)(ha:IR w o n k [x])(hw:s.toList=[108,97,115,116]):
  Calls prog 204 #[jV a b s c o n k d p] w λe w'=>∃v,e=xm (xk v)/\Q9 w' (jg 1 x.s ByteArray.empty 0) v/\XL w w':=by
 obtain⟨g,aF,hg,_,t0,t1,t2⟩:=ha.tok (i:=0) (t:=x) (r:=[]) rfl;subst aF;have hn:=ha.len;subst hn;clear ha;simp only[jV];have e0:(s.toList==[105,110,105,116])=false:=za;have e1:(s.toList==[108,97,115,116])=true:=za;clear hw;simp at t0 t1 t2;go_in
 go_wp2_with (refine(iT).mono ?_)
 rintro e w1 ⟨v1,rfl,aC,aa⟩;have ae:=((Uo w.heap.size w).alloc (XH) _).trans (aa.mono zp);have an:=(aa.block w.heap.size zp).trans (gi _ _);have aG:=dK an;clear aa
 go_wp2_with (refine(iT).mono ?_)
 rintro e w2 ⟨v2,rfl,aD,J⟩;have az:=aC.later J;have ag:=ae.trans (J.mono ae.size);have aw:=(J.block w.heap.size aG).trans an;clear aD J;have xc:=EQ aw;have av:=show Q9 (w2.alloc (xi #[xd .u8 116,xj ⟨#[]⟩,xd xh 0,xk none,xk none] 292)) (leaf 1 ByteArray.empty 0) (TT w2.heap.size) from⟨w2.heap.size,none,none,rfl,gi _ _,rfl,rfl⟩
 have ax:=az.later ((Uo w2.heap.size w2).alloc (XH) (xi #[xd .u8 116,xj ⟨#[]⟩,xd xh 0,xk none,xk none] 292));have ak:=ag.alloc ag.size (xi #[xd .u8 116,xj ⟨#[]⟩,xd xh 0,xk none,xk none] 292)
 go_wp2_with (refine(iU 5 av rfl).mono ?_)
 rintro e w3 ⟨v3,rfl,aq,ad⟩;have aA:=ax.later ad;have ai:=ak.trans (ad.mono ak.size);clear ad
 go_wp2_with (refine(iU 4 aq rfl).mono ?_)
 rintro e w4 ⟨v4,rfl,ar,U⟩;have ao:=aA.later U;have ay:=aq.later U;have aj:=ai.trans (U.mono ai.size);clear U
 go_wp2_with (refine(kr 10 ao ar rfl).mono ?_)
 rintro e w5 ⟨v5,rfl,aE,I⟩;have Hx5:=ao.later I;have Hp5:=ay.later I;have Hq5:=ar.later I;have HB5:=aj.trans (I.mono aj.size);clear I
 go_wp2_with (refine(iU 7 aE rfl).mono ?_)
 exact zm66
def LV(w:Uc)(a b:Int){s:Ub}(c:Int)(o:TX)(n k:Nat)(d:Int)(p:TX)(x y:Tk)(ha:IR w o n k [x,y])(hw:s.toList=[115,111,109,101])(hd:∃c:UInt8,y.s=⟨#[c]⟩/\49<=c.toNat/\c.toNat<=57):
  Calls prog 204 #[jV a b s c o n k d p] w λe w'=>∃v,e=xm (xk v)/\Q9 w' (jg 2 x.s y.s (lW y.s)) v/\XL w w':=by
 obtain⟨yk,ys,yp⟩:=y;obtain⟨I,ak,hc1,hc2⟩:=hd;dsimp only at ak;subst ak;have ar:lW (⟨#[I]⟩:Ub)=I.toNat-48:=rfl;show Calls _ _ _ _ λe w'=>∃v,e=xm (xk v)/\Q9 w' (jg 2 x.s ⟨#[I]⟩ (lW ⟨#[I]⟩)) v/\XL w w'
 rw[ar];obtain⟨g,aa,hg,_,t0,t1,t2⟩:=ha.tok (i:=0) (t:=x) (r:=[⟨yk,⟨#[I]⟩,yp⟩]) rfl;subst aa;obtain⟨g',aa,_,_,u0,u1,u2⟩:=ha.tok (i:=1) (t:=⟨yk,⟨#[I]⟩,yp⟩) (r:=[]) rfl;cases aa;have hn:=ha.len;subst hn;clear ha;simp only[jV];have e0:(s.toList==[105,110,105,116])=false:=za;have e1:(s.toList==[108,97,115,116])=false:=za;have e2:(s.toList==[115,111,109,101])=true:=za;clear hw;simp at t0 t1 t2 u0 u1 u2;go_in
 go_wp2_with (refine(iT).mono ?_)
 rintro e w1 ⟨v1,rfl,au,U⟩;have ad:=((Uo w.heap.size w).alloc (XH) _).trans (U.mono zp);have ag:=(U.block w.heap.size zp).trans (gi _ _);have aw:=dK ag;clear U
 go_wp2_with (refine(iT).mono ?_)
 rintro e w2 ⟨v2,rfl,hf2,J⟩;have Hx2:=au.later J;have ae:=ad.trans (J.mono ad.size);have aq:=(J.block w.heap.size aw).trans ag;clear J;have xc:=EQ aq;go_wp2_with fail;have aj:((((⟨#[I]⟩:Ub)[0]'(show 0<1 from zp)).toNat:Int)-48)%256=((I.toNat-48:Nat):Int):=by show((I.toNat:Int)-48)%256=_;omega
 rw[aj];refine(vy _ (I.toNat-48) _ zo zo).mono ?_;rintro e w3 ⟨v3,rfl,av,ai⟩;have ao:=ae.trans (ai.mono ae.size);clear ai;go_wp2;go_ret;exact⟨_,rfl,av,ao⟩
def LX(w:Uc)(a b:Int){s:Ub}(c:Int)(o:TX)(n k:Nat)(d:Int)(p:TX)(x y:Tk)(ha:IR w o n k [x,y])(hw:s.toList=[102,101,119])(hd:∃c:UInt8,y.s=⟨#[c]⟩/\49<=c.toNat/\c.toNat<=57):
  Calls prog 204 #[jV a b s c o n k d p] w λe w'=>∃v,e=xm (xk v)/\Q9 w' (jg 3 x.s y.s (lW y.s)) v/\XL w w':=by
 obtain⟨yk,ys,yp⟩:=y;obtain⟨I,ao,hc1,hc2⟩:=hd;dsimp only at ao;subst ao;have aw:lW (⟨#[I]⟩:Ub)=I.toNat-48:=rfl;show Calls _ _ _ _ λe w'=>∃v,e=xm (xk v)/\Q9 w' (jg 3 x.s ⟨#[I]⟩ (lW ⟨#[I]⟩)) v/\XL w w'
 rw[aw];obtain⟨g,ad,hg,_,t0,t1,t2⟩:=ha.tok (i:=0) (t:=x) (r:=[⟨yk,⟨#[I]⟩,yp⟩]) rfl;subst ad;obtain⟨g',ad,_,_,u0,u1,u2⟩:=ha.tok (i:=1) (t:=⟨yk,⟨#[I]⟩,yp⟩) (r:=[]) rfl;cases ad;have hn:=ha.len;subst hn;clear ha;simp only[jV];have e0:(s.toList==[105,110,105,116])=false:=za;have e1:(s.toList==[108,97,115,116])=false:=za;have e2:(s.toList==[115,111,109,101])=false:=za;have e3:(s.toList==[102,101,119])=true:=za;clear hw;simp at t0 t1 t2 u0 u1 u2;go_in
 go_wp2_with (refine(iT).mono ?_)
 rintro e w1 ⟨v1,rfl,ax,aa⟩;have ae:=((Uo w.heap.size w).alloc (XH) _).trans (aa.mono zp);have aj:=(aa.block w.heap.size zp).trans (gi _ _);have aB:=dK aj;clear aa
 go_wp2_with (refine(iT).mono ?_)
 rintro e w2 ⟨v2,rfl,ay,J⟩;have av:=ax.later J;have ag:=ae.trans (J.mono ae.size);have au:=(J.block w.heap.size aB).trans aj;clear J;have xc:=EQ au;go_wp2_with fail;have an:((((⟨#[I]⟩:Ub)[0]'(show 0<1 from zp)).toNat:Int)-48)%256=((I.toNat-48:Nat):Int):=by show((I.toNat:Int)-48)%256=_;omega
 rw[an];refine(vy _ (I.toNat-48) _ zo zo).mono ?_;rintro e w3 ⟨v3,rfl,az,U⟩;have Hx3:=av.later U;have Hy3:=ay.later U;have ai:=ag.trans (U.mono ag.size);clear U
 go_wp2_with (refine(iU 4 az rfl).mono ?_)
 rintro e w4 ⟨v4,rfl,aA,ak⟩;have ar:=ai.trans (ak.mono ai.size);clear ak;go_wp2;go_ret;exact⟨_,rfl,aA,ar⟩
def LY(w:Uc)(a b:Int){s:Ub}(c:Int)(o:TX)(n k:Nat)(d:Int)(p:TX)(x y:Tk)(ha:IR w o n k [x,y])(hw:s.toList=[114,101,115,112,111,110,115,101]):
  Calls prog 204 #[jV a b s c o n k d p] w λe w'=>∃v,e=xm (xk v)/\Q9 w' (jg 4 x.s y.s 0) v/\XL w w':=by
 obtain⟨g,U,hg,_,t0,t1,t2⟩:=ha.tok (i:=0) (t:=x) (r:=[y]) rfl;subst U;obtain⟨g',U,_,_,u0,u1,u2⟩:=ha.tok (i:=1) (t:=y) (r:=[]) rfl;cases U;have hn:=ha.len;subst hn;clear ha;simp only[jV];have e0:(s.toList==[105,110,105,116])=false:=za;have e1:(s.toList==[108,97,115,116])=false:=za;have e2:(s.toList==[115,111,109,101])=false:=za;have e3:(s.toList==[102,101,119])=false:=za;have e4:(s.toList==[114,101,115,112,111,110,115,101])=true:=za;clear hw;simp at t0 t1 t2 u0 u1 u2;go_in
 go_wp2_with (refine(iT).mono ?_)
 rintro e w1 ⟨v1,rfl,ai,J⟩;have aa:=((Uo w.heap.size w).alloc (XH) _).trans (J.mono zp);have ad:=(J.block w.heap.size zp).trans (gi _ _);have aj:=dK ad;clear J
 go_wp2_with (refine(iT).mono ?_)
 rintro e w2 ⟨v2,rfl,hf2,I⟩;have Hx2:=ai.later I;have HB2:=aa.trans (I.mono aa.size);have ag:=(I.block w.heap.size aj).trans ad;clear I;have xc:=EQ ag
 go_wp2_with (refine(iU 7 hf2 rfl).mono ?_)
 exact zm41
def LZ(w:Uc)(a b:Int){s:Ub}(c:Int)(o:TX)(n k:Nat)(d:Int)(p:TX)(x y:Tk)(ha:IR w o n k [x,y])(hw:s.toList=[112,114,101,99,101,100,101]):
  Calls prog 204 #[jV a b s c o n k d p] w λe w'=>∃v,e=xm (xk v)/\Q9 w' (jg 5 x.s y.s 0) v/\XL w w':=by
 obtain⟨g,ai,hg,_,t0,t1,t2⟩:=ha.tok (i:=0) (t:=x) (r:=[y]) rfl;subst ai;obtain⟨g',ai,_,_,u0,u1,u2⟩:=ha.tok (i:=1) (t:=y) (r:=[]) rfl;cases ai;have hn:=ha.len;subst hn;clear ha;simp only[jV];have e0:(s.toList==[105,110,105,116])=false:=za;have e1:(s.toList==[108,97,115,116])=false:=za;have e2:(s.toList==[115,111,109,101])=false:=za;have e3:(s.toList==[102,101,119])=false:=za;have e4:(s.toList==[114,101,115,112,111,110,115,101])=false:=za;have e5:(s.toList==[112,114,101,99,101,100,101])=true:=za;clear hw;simp at t0 t1 t2 u0 u1 u2;go_in
 go_wp2_with (refine(iT).mono ?_)
 rintro e w1 ⟨v1,rfl,aR,ag⟩;have aj:=((Uo w.heap.size w).alloc (XH) _).trans (ag.mono zp);have au:=(ag.block w.heap.size zp).trans (gi _ _);have aU:=dK au;clear ag
 go_wp2_with (refine(iT).mono ?_)
 rintro e w2 ⟨v2,rfl,aw,ad⟩;have aI:=aR.later ad;have ak:=aj.trans (ad.mono aj.size);have aB:=(ad.block w.heap.size aU).trans au;clear ad;have xc:=EQ aB
 go_wp2_with (refine(iU 4 aw rfl).mono ?_)
 rintro e w3 ⟨v3,rfl,ax,ae⟩;have av:=aI.later ae;have aM:=aw.later ae;have an:=ak.trans (ae.mono ak.size);clear ae
 go_wp2_with (refine(kr 9 ax av rfl).mono ?_)
 rintro e w4 ⟨v4,rfl,aS,aa⟩;have aJ:=av.later aa;have aN:=aM.later aa;have aC:=ax.later aa;have ao:=an.trans (aa.mono an.size);clear aa
 go_wp2_with (refine(iT).mono ?_)
 rintro e w5 ⟨v5,rfl,ay,U⟩;have aK:=aJ.later U;have aO:=aN.later U;have aD:=aC.later U;have aF:=aS.later U;have aq:=ao.trans (U.mono ao.size);clear U
 go_wp2_with (refine(iU 4 ay rfl).mono ?_)
 rintro e w6 ⟨v6,rfl,az,J⟩;have aL:=aK.later J;have aP:=aO.later J;have aE:=aD.later J;have aG:=aF.later J;have aQ:=ay.later J;have ar:=aq.trans (J.mono aq.size);clear J
 go_wp2_with (refine(iU 8 az rfl).mono ?_)
 rintro e w7 ⟨v7,rfl,aT,I⟩;have Hx7:=aL.later I;have Hy7:=aP.later I;have Hp7:=aE.later I;have aH:=aG.later I;have Hz7:=aQ.later I;have Ht7:=az.later I;have HB7:=ar.trans (I.mono ar.size);clear I
 go_wp2_with (refine(kr 11 aH aT rfl).mono ?_)
 exact zm135
def L1(w:Uc)(a b:Int){s:Ub}(c:Int)(o:TX)(n k:Nat)(d:Int)(p:TX)(x y:Tk)(ha:IR w o n k [x,y])(hw:s.toList=[99,104,97,105,110]):
  Calls prog 204 #[jV a b s c o n k d p] w λe w'=>∃v,e=xm (xk v)/\Q9 w' (jg 6 x.s y.s 0) v/\XL w w':=by
 obtain⟨g,U,hg,_,t0,t1,t2⟩:=ha.tok (i:=0) (t:=x) (r:=[y]) rfl;subst U;obtain⟨g',U,_,_,u0,u1,u2⟩:=ha.tok (i:=1) (t:=y) (r:=[]) rfl;cases U;have hn:=ha.len;subst hn;clear ha;simp only[jV];have e0:(s.toList==[105,110,105,116])=false:=za;have e1:(s.toList==[108,97,115,116])=false:=za;have e2:(s.toList==[115,111,109,101])=false:=za;have e3:(s.toList==[102,101,119])=false:=za;have e4:(s.toList==[114,101,115,112,111,110,115,101])=false:=za;have e5:(s.toList==[112,114,101,99,101,100,101])=false:=za;have e6:(s.toList==[99,104,97,105,110])=true:=za;clear hw;simp at t0 t1 t2 u0 u1 u2;go_in
 go_wp2_with (refine(iT).mono ?_)
 rintro e w1 ⟨v1,rfl,ai,J⟩;have aa:=((Uo w.heap.size w).alloc (XH) _).trans (J.mono zp);have ad:=(J.block w.heap.size zp).trans (gi _ _);have aj:=dK ad;clear J
 go_wp2_with (refine(iT).mono ?_)
 rintro e w2 ⟨v2,rfl,hf2,I⟩;have Hx2:=ai.later I;have HB2:=aa.trans (I.mono aa.size);have ag:=(I.block w.heap.size aj).trans ad;clear I;have xc:=EQ ag
 go_wp2_with (refine(iU 5 hf2 rfl).mono ?_)
 exact zm41
def L3(w:Uc)(a b:Int){s:Ub}(c:Int)(o:TX)(n k:Nat)(d:Int)(p:TX)(x y:Tk)(ha:IR w o n k [x,y])(hw:s.toList=[98,101,102,111,114,101]):
  Calls prog 204 #[jV a b s c o n k d p] w λe w'=>∃v,e=xm (xk v)/\Q9 w' (jg 7 x.s y.s 0) v/\XL w w':=by
 obtain⟨g,ai,hg,_,t0,t1,t2⟩:=ha.tok (i:=0) (t:=x) (r:=[y]) rfl;subst ai;obtain⟨g',ai,_,_,u0,u1,u2⟩:=ha.tok (i:=1) (t:=y) (r:=[]) rfl;cases ai;have hn:=ha.len;subst hn;clear ha;simp only[jV];have e0:(s.toList==[105,110,105,116])=false:=za;have e1:(s.toList==[108,97,115,116])=false:=za;have e2:(s.toList==[115,111,109,101])=false:=za;have e3:(s.toList==[102,101,119])=false:=za;have e4:(s.toList==[114,101,115,112,111,110,115,101])=false:=za;have e5:(s.toList==[112,114,101,99,101,100,101])=false:=za;have e6:(s.toList==[99,104,97,105,110])=false:=za;have e7:(s.toList==[98,101,102,111,114,101])=true:=za;clear hw;simp at t0 t1 t2 u0 u1 u2;go_in
 go_wp2_with (refine(iT).mono ?_)
 rintro e w1 ⟨v1,rfl,aR,ag⟩;have aj:=((Uo w.heap.size w).alloc (XH) _).trans (ag.mono zp);have au:=(ag.block w.heap.size zp).trans (gi _ _);have aU:=dK au;clear ag
 go_wp2_with (refine(iT).mono ?_)
 rintro e w2 ⟨v2,rfl,aw,ad⟩;have aH:=aR.later ad;have ak:=aj.trans (ad.mono aj.size);have aB:=(ad.block w.heap.size aU).trans au;clear ad;have xc:=EQ aB
 go_wp2_with (refine(iU 4 aw rfl).mono ?_)
 rintro e w3 ⟨v3,rfl,aS,ae⟩;have aI:=aH.later ae;have aL:=aw.later ae;have an:=ak.trans (ae.mono ak.size);clear ae
 go_wp2_with (refine(iT).mono ?_)
 rintro e w4 ⟨v4,rfl,ax,aa⟩;have aJ:=aI.later aa;have aM:=aL.later aa;have aC:=aS.later aa;have ao:=an.trans (aa.mono an.size);clear aa
 go_wp2_with (refine(iU 5 ax rfl).mono ?_)
 rintro e w5 ⟨v5,rfl,ay,U⟩;have av:=aJ.later U;have aN:=aM.later U;have aD:=aC.later U;have aP:=ax.later U;have aq:=ao.trans (U.mono ao.size);clear U
 go_wp2_with (refine(kr 12 ay av rfl).mono ?_)
 rintro e w6 ⟨v6,rfl,az,J⟩;have aK:=av.later J;have aO:=aN.later J;have aE:=aD.later J;have aQ:=aP.later J;have aG:=ay.later J;have ar:=aq.trans (J.mono aq.size);clear J
 go_wp2_with (refine(iU 8 az rfl).mono ?_)
 rintro e w7 ⟨v7,rfl,aT,I⟩;have Hx7:=aK.later I;have Hy7:=aO.later I;have aF:=aE.later I;have Hz7:=aQ.later I;have Ht7:=aG.later I;have Hu7:=az.later I;have HB7:=ar.trans (I.mono ar.size);clear I
 go_wp2_with (refine(kr 10 aF aT rfl).mono ?_)
 exact zm135
def L4(w:Uc)(a b:Int){s:Ub}(c:Int)(o:TX)(n k:Nat)(d:Int)(p:TX)(x y:Tk)(ha:IR w o n k [x,y])(hw:s.toList=[119,105,116,104]):
  Calls prog 204 #[jV a b s c o n k d p] w λe w'=>∃v,e=xm (xk v)/\Q9 w' (jg 8 x.s y.s 0) v/\XL w w':=by
 obtain⟨g,ad,hg,_,t0,t1,t2⟩:=ha.tok (i:=0) (t:=x) (r:=[y]) rfl;subst ad;obtain⟨g',ad,_,_,u0,u1,u2⟩:=ha.tok (i:=1) (t:=y) (r:=[]) rfl;cases ad;have hn:=ha.len;subst hn;clear ha;simp only[jV];have e0:(s.toList==[105,110,105,116])=false:=za;have e1:(s.toList==[108,97,115,116])=false:=za;have e2:(s.toList==[115,111,109,101])=false:=za;have e3:(s.toList==[102,101,119])=false:=za;have e4:(s.toList==[114,101,115,112,111,110,115,101])=false:=za;have e5:(s.toList==[112,114,101,99,101,100,101])=false:=za;have e6:(s.toList==[99,104,97,105,110])=false:=za;have e7:(s.toList==[98,101,102,111,114,101])=false:=za;have e8:(s.toList==[119,105,116,104])=true:=za;clear hw;simp at t0 t1 t2 u0 u1 u2;go_in
 go_wp2_with (refine(iT).mono ?_)
 rintro e w1 ⟨v1,rfl,ay,aa⟩;have ae:=((Uo w.heap.size w).alloc (XH) _).trans (aa.mono zp);have ak:=(aa.block w.heap.size zp).trans (gi _ _);have aD:=dK ak;clear aa
 go_wp2_with (refine(iT).mono ?_)
 rintro e w2 ⟨v2,rfl,az,J⟩;have an:=ay.later J;have ag:=ae.trans (J.mono ae.size);have av:=(J.block w.heap.size aD).trans ak;clear J;have xc:=EQ av
 go_wp2_with (refine(iU 7 an rfl).mono ?_)
 rintro e w3 ⟨v3,rfl,aA,U⟩;have ax:=an.later U;have ao:=az.later U;have ai:=ag.trans (U.mono ag.size);clear U
 go_wp2_with (refine(iU 7 ao rfl).mono ?_)
 rintro e w4 ⟨v4,rfl,aB,I⟩;have Hx4:=ax.later I;have Hy4:=ao.later I;have aw:=aA.later I;have aj:=ai.trans (I.mono ai.size);clear I
 go_wp2_with (refine(kr 12 aw aB rfl).mono ?_)
 rintro e w5 ⟨v5,rfl,aC,aq⟩;have au:=aj.trans (aq.mono aj.size);clear aq;go_wp2;go_ret;exact⟨_,rfl,aC,au⟩
def L5(w:Uc)(a b:Int){s:Ub}(c:Int)(o:TX)(n k:Nat)(d:Int)(p:TX)(x y:Tk)(ha:IR w o n k [x,y])(hw:s.toList=[97,112,97,114,116]):
  Calls prog 204 #[jV a b s c o n k d p] w λe w'=>∃v,e=xm (xk v)/\Q9 w' (jg 9 x.s y.s 0) v/\XL w w':=by
 obtain⟨g,ae,hg,_,t0,t1,t2⟩:=ha.tok (i:=0) (t:=x) (r:=[y]) rfl;subst ae;obtain⟨g',ae,_,_,u0,u1,u2⟩:=ha.tok (i:=1) (t:=y) (r:=[]) rfl;cases ae;have hn:=ha.len;subst hn;clear ha;simp only[jV];have e0:(s.toList==[105,110,105,116])=false:=za;have e1:(s.toList==[108,97,115,116])=false:=za;have e2:(s.toList==[115,111,109,101])=false:=za;have e3:(s.toList==[102,101,119])=false:=za;have e4:(s.toList==[114,101,115,112,111,110,115,101])=false:=za;have e5:(s.toList==[112,114,101,99,101,100,101])=false:=za;have e6:(s.toList==[99,104,97,105,110])=false:=za;have e7:(s.toList==[98,101,102,111,114,101])=false:=za;have e8:(s.toList==[119,105,116,104])=false:=za;have e9:(s.toList==[97,112,97,114,116])=true:=za;clear hw;simp at t0 t1 t2 u0 u1 u2;go_in
 go_wp2_with (refine(iT).mono ?_)
 rintro e w1 ⟨v1,rfl,aA,ad⟩;have ag:=((Uo w.heap.size w).alloc (XH) _).trans (ad.mono zp);have an:=(ad.block w.heap.size zp).trans (gi _ _);have aE:=dK an;clear ad
 go_wp2_with (refine(iT).mono ?_)
 rintro e w2 ⟨v2,rfl,aB,U⟩;have aq:=aA.later U;have ai:=ag.trans (U.mono ag.size);have aw:=(U.block w.heap.size aE).trans an;clear U;have xc:=EQ aw
 go_wp2_with (refine(iU 7 aq rfl).mono ?_)
 rintro e w3 ⟨v3,rfl,aC,aa⟩;have ax:=aq.later aa;have ar:=aB.later aa;have aj:=ai.trans (aa.mono ai.size);clear aa
 go_wp2_with (refine(iU 7 ar rfl).mono ?_)
 rintro e w4 ⟨v4,rfl,au,J⟩;have ay:=ax.later J;have az:=ar.later J;have ao:=aC.later J;have ak:=aj.trans (J.mono aj.size);clear J
 go_wp2_with (refine(kr 10 ao au rfl).mono ?_)
 rintro e w5 ⟨v5,rfl,aD,I⟩;have Hx5:=ay.later I;have Hy5:=az.later I;have Hp5:=ao.later I;have Hq5:=au.later I;have HB5:=ak.trans (I.mono ak.size);clear I
 go_wp2_with (refine(iU 4 aD rfl).mono ?_)
 exact zm66
def JC(w:Uc)(a b:Int){s:Ub}(c:Int)(o:TX)(n k:Nat)(d:Int)(p:TX)(x y:Tk)(ha:IR w o n k [x,y])(hw:s.toList=[110,101,118,101,114]):
  Calls prog 204 #[jV a b s c o n k d p] w λe w'=>∃v,e=xm (xk v)/\Q9 w' (jg 10 x.s y.s 0) v/\XL w w':=by
 obtain⟨g,ag,hg,_,t0,t1,t2⟩:=ha.tok (i:=0) (t:=x) (r:=[y]) rfl;subst ag;obtain⟨g',ag,_,_,u0,u1,u2⟩:=ha.tok (i:=1) (t:=y) (r:=[]) rfl;cases ag;have hn:=ha.len;subst hn;clear ha;simp only[jV];have e0:(s.toList==[105,110,105,116])=false:=za;have e1:(s.toList==[108,97,115,116])=false:=za;have e2:(s.toList==[115,111,109,101])=false:=za;have e3:(s.toList==[102,101,119])=false:=za;have e4:(s.toList==[114,101,115,112,111,110,115,101])=false:=za;have e5:(s.toList==[112,114,101,99,101,100,101])=false:=za;have e6:(s.toList==[99,104,97,105,110])=false:=za;have e7:(s.toList==[98,101,102,111,114,101])=false:=za;have e8:(s.toList==[119,105,116,104])=false:=za;have e9:(s.toList==[97,112,97,114,116])=false:=za;have e10:(s.toList==[110,101,118,101,114])=true:=za;clear hw;simp at t0 t1 t2 u0 u1 u2;go_in
 go_wp2_with (refine(iT).mono ?_)
 rintro e w1 ⟨v1,rfl,aM,ae⟩;have ai:=((Uo w.heap.size w).alloc (XH) _).trans (ae.mono zp);have ar:=(ae.block w.heap.size zp).trans (gi _ _);have aP:=dK ar;clear ae
 go_wp2_with (refine(iT).mono ?_)
 rintro e w2 ⟨v2,rfl,aw,aa⟩;have aG:=aM.later aa;have aj:=ai.trans (aa.mono ai.size);have aC:=(aa.block w.heap.size aP).trans ar;clear aa;have xc:=EQ aC
 go_wp2_with (refine(iU 4 aw rfl).mono ?_)
 rintro e w3 ⟨v3,rfl,ax,ad⟩;have aH:=aG.later ad;have aJ:=aw.later ad;have ak:=aj.trans (ad.mono aj.size);clear ad
 go_wp2_with (refine(iU 8 ax rfl).mono ?_)
 rintro e w4 ⟨v4,rfl,ay,U⟩;have aI:=aH.later U;have aK:=aJ.later U;have aD:=ax.later U;have an:=ak.trans (U.mono ak.size);clear U
 go_wp2_with (refine(iU 6 ay rfl).mono ?_)
 rintro e w5 ⟨v5,rfl,az,J⟩;have au:=aI.later J;have aL:=aK.later J;have aE:=aD.later J;have aF:=ay.later J;have ao:=an.trans (J.mono an.size);clear J
 go_wp2_with (refine(kr 12 au az rfl).mono ?_)
 rintro e w6 ⟨v6,rfl,aN,I⟩;have Hx6:=au.later I;have Hy6:=aL.later I;have Hp6:=aE.later I;have Hq6:=aF.later I;have Ht6:=az.later I;have aq:=ao.trans (I.mono ao.size);clear I
 go_wp2_with (refine(iU 8 aN rfl).mono ?_)
 rintro e w7 ⟨v7,rfl,aO,av⟩;have aB:=aq.trans (av.mono aq.size);clear av;go_wp2;go_ret;exact⟨_,rfl,aO,aB⟩
def JD(w:Uc)(a b:Int){s:Ub}(c:Int)(o:TX)(n k:Nat)(d:Int)(p:TX)(x y:Tk)(ha:IR w o n k [x,y])(hw:s.toList=[110,111,116,110,101,120,116]):
  Calls prog 204 #[jV a b s c o n k d p] w λe w'=>∃v,e=xm (xk v)/\Q9 w' (jg 11 x.s y.s 0) v/\XL w w':=by
 obtain⟨g,ae,hg,_,t0,t1,t2⟩:=ha.tok (i:=0) (t:=x) (r:=[y]) rfl;subst ae;obtain⟨g',ae,_,_,u0,u1,u2⟩:=ha.tok (i:=1) (t:=y) (r:=[]) rfl;cases ae;have hn:=ha.len;subst hn;clear ha;simp only[jV];have e0:(s.toList==[105,110,105,116])=false:=za;have e1:(s.toList==[108,97,115,116])=false:=za;have e2:(s.toList==[115,111,109,101])=false:=za;have e3:(s.toList==[102,101,119])=false:=za;have e4:(s.toList==[114,101,115,112,111,110,115,101])=false:=za;have e5:(s.toList==[112,114,101,99,101,100,101])=false:=za;have e6:(s.toList==[99,104,97,105,110])=false:=za;have e7:(s.toList==[98,101,102,111,114,101])=false:=za;have e8:(s.toList==[119,105,116,104])=false:=za;have e9:(s.toList==[97,112,97,114,116])=false:=za;have e10:(s.toList==[110,101,118,101,114])=false:=za;clear hw;simp at t0 t1 t2 u0 u1 u2;go_in
 go_wp2_with (refine(iT).mono ?_)
 rintro e w1 ⟨v1,rfl,aC,ad⟩;have ag:=((Uo w.heap.size w).alloc (XH) _).trans (ad.mono zp);have an:=(ad.block w.heap.size zp).trans (gi _ _);have aE:=dK an;clear ad
 go_wp2_with (refine(iT).mono ?_)
 rintro e w2 ⟨v2,rfl,aq,U⟩;have ay:=aC.later U;have ai:=ag.trans (U.mono ag.size);have aw:=(U.block w.heap.size aE).trans an;clear U;have xc:=EQ aw
 go_wp2_with (refine(iU 5 aq rfl).mono ?_)
 rintro e w3 ⟨v3,rfl,ar,aa⟩;have az:=ay.later aa;have aA:=aq.later aa;have aj:=ai.trans (aa.mono ai.size);clear aa
 go_wp2_with (refine(iU 4 ar rfl).mono ?_)
 rintro e w4 ⟨v4,rfl,au,J⟩;have ao:=az.later J;have aB:=aA.later J;have ax:=ar.later J;have ak:=aj.trans (J.mono aj.size);clear J
 go_wp2_with (refine(kr 12 ao au rfl).mono ?_)
 rintro e w5 ⟨v5,rfl,aD,I⟩;have Hx5:=ao.later I;have Hy5:=aB.later I;have Hp5:=ax.later I;have Hq5:=au.later I;have HB5:=ak.trans (I.mono ak.size);clear I
 go_wp2_with (refine(iU 8 aD rfl).mono ?_)
 exact zm66
def qQ(r:Rl):Prop:=
 (gW r.word.s.toList<=1/\∃x,r.args=[x])\/
 (2<=gW r.word.s.toList/\gW r.word.s.toList<=3/\∃x y,r.args=[x,y]/\∃c:UInt8,y.s=⟨#[c]⟩/\49<=c.toNat/\c.toNat<=57)\/
 (4<=gW r.word.s.toList/\gW r.word.s.toList<=11/\∃x y,r.args=[x,y])
def lP(l:TY)(i:Nat):Ub:=match l.drop i with|t::_=>t.s|[]=>ByteArray.empty
def gO(r:Rl):Fm:=if r.call=true then jg (gW r.word.s.toList) (lP r.args 0) (lP r.args 1) (lW (lP r.args 1)) else r.f
theorem JU{l:T9}:(gW l=0/\l=[105,110,105,116])\/(gW l=1/\l=[108,97,115,116])\/(gW l=2/\l=[115,111,109,101])\/(gW l=3/\l=[102,101,119])\/
  (gW l=4/\l=[114,101,115,112,111,110,115,101])\/(gW l=5/\l=[112,114,101,99,101,100,101])\/(gW l=6/\l=[99,104,97,105,110])\/(gW l=7/\l=[98,101,102,111,114,101])\/
  (gW l=8/\l=[119,105,116,104])\/(gW l=9/\l=[97,112,97,114,116])\/(gW l=10/\l=[110,101,118,101,114])\/(gW l=11/\l=[110,111,116,110,101,120,116])\/gW l=12:=by
 by_cases h0:l=[105,110,105,116]
 .subst h0;decide
 by_cases h1:l=[108,97,115,116]
 .subst h1;decide
 by_cases h2:l=[115,111,109,101]
 .subst h2;decide
 by_cases h3:l=[102,101,119]
 .subst h3;decide
 by_cases h4:l=[114,101,115,112,111,110,115,101]
 .subst h4;decide
 grind[gW]
def G6(r:Rl)(a b:Int)(s:Ub)(c:Int){k:Nat}(d:Int)(h:Ss w r a b s c o n k d p)(hc:r.call=true)(J:qQ r):
  Calls prog 204 #[jV a b s c o n k d p] w λe w'=>∃v,e=xm (xk v)/\Q9 w' (gO r) v/\XL w w':=by
 obtain⟨_,U⟩:=h;rw[Uh hc] at U;obtain⟨_,hs,_,ho,_,_⟩:=U;subst hs;rw[gO,Uh hc];have I:=ho;have hi:=JU (l:=r.word.s.toList);rcases J with⟨hk,x,hx⟩|⟨hk1,hk2,x,y,hx,hd⟩|⟨hk1,hk2,x,y,hx⟩
 .rw[hx] at I|-;rcases hi with⟨e,hw⟩|⟨e,hw⟩|⟨e,hw⟩|⟨e,hw⟩|⟨e,hw⟩|⟨e,hw⟩|⟨e,hw⟩|⟨e,hw⟩|⟨e,hw⟩|⟨e,hw⟩|⟨e,hw⟩|⟨e,hw⟩|e
  .rw[e];exact LS w a b c o n k d p x I hw
  .rw[e];exact LU w a b c o n k d p x I hw
  all_goals omega
 .rw[hx] at I|-;rcases hi with⟨e,hw⟩|⟨e,hw⟩|⟨e,hw⟩|⟨e,hw⟩|⟨e,hw⟩|⟨e,hw⟩|⟨e,hw⟩|⟨e,hw⟩|⟨e,hw⟩|⟨e,hw⟩|⟨e,hw⟩|⟨e,hw⟩|e
  .omega
  .omega
  .rw[e];exact LV w a b c o n k d p x y I hw hd
  .rw[e];exact LX w a b c o n k d p x y I hw hd
  all_goals omega
 rw[hx] at I|-;rcases hi with⟨e,hw⟩|⟨e,hw⟩|⟨e,hw⟩|⟨e,hw⟩|⟨e,hw⟩|⟨e,hw⟩|⟨e,hw⟩|⟨e,hw⟩|⟨e,hw⟩|⟨e,hw⟩|⟨e,hw⟩|⟨e,hw⟩|e
 .omega
 .omega
 .omega
 .omega
 .rw[e];exact LY w a b c o n k d p x y I hw
 .rw[e];exact LZ w a b c o n k d p x y I hw
 .rw[e];exact L1 w a b c o n k d p x y I hw
 .rw[e];exact L3 w a b c o n k d p x y I hw
 .rw[e];exact L4 w a b c o n k d p x y I hw
 .rw[e];exact L5 w a b c o n k d p x y I hw
 .rw[e];exact JC w a b c o n k d p x y I hw
 .rw[e];exact JD w a b c o n k d p x y I hw
 omega
def R5(w:Uc):T6->List (TX)->Prop
 |[],ps=>ps=[]
 |r::rs,ps=>∃p ps',ps=p::ps'/\Q9 w (gO r) p/\R5 w rs ps'
def R5.later(I:XL w w'):∀{rs:T6} {ps:List (TX)},R5 w rs ps->R5 w' rs ps
 |[],_,h=>h
 |_::_,_,⟨p,ps',e,h1,h2⟩=>⟨p,ps',e,h1.later I,h2.later I⟩
def KT.fs(I:KT w w'):∀{rs:T6} {ps:List (TX)},R5 w rs ps->R5 w' rs ps
 |[],_,h=>h
 |_::_,_,⟨p,ps',e,h1,h2⟩=>⟨p,ps',e,I.isF h1,I.fs h2⟩
theorem R5.snoc:∀{rs:T6} {ps:List (TX)} {r:Rl} {p:TX},R5 w rs ps->Q9 w (gO r) p->R5 w (rs++[r]) (ps++[p]):=by intro I;induction I<;>grind[R5,Q9,gO]
def Sd(w:Uc)(o:TX)(n k:Nat)(rs:T6):Prop:=∃cells,w.ownsRow 0 235 7 (xa o n k) rs.length cells/\Q3 w rs cells
def Sd.len{k:Nat}(h:Sd w o n k rs):n=rs.length:=by
 obtain⟨cells,⟨_,⟨h1,h2⟩|⟨g,cap,cur,hv,_⟩⟩,_⟩:=h
 .simp_all
 simp_all
theorem Q3.at:∀{rs:T6} {cells:TW} {i:Nat} {r:Rl} {l:T6},Q3 w rs cells->rs.drop i=r::l->
  ∃a b s c o n k d p,Ss w r a b s c o n k d p/\cells[i*7]?=some (xd xh a)/\cells[i*7+1]?=some (xd .u8 b)/\cells[i*7+2]?=some (xj s)/\cells[i*7+3]?=some (xd xh c)/\cells[i*7+4]?=some (xa o n k)/\cells[i*7+5]?=some (xd xh d)/\cells[i*7+6]?=some (xk p)
 |[],_,i,r,l,_,h=>by simp at h
 |x::xs,cells,0,r,l,⟨a,b,s,c,o,n,k,d,p,cs',e,hr,_⟩,h=>by
  simp at h;obtain⟨rfl,rfl⟩:=h;subst e;exact⟨a,b,s,c,o,n,k,d,p,hr,rfl,rfl,rfl,rfl,rfl,rfl,rfl⟩
 |x::xs,cells,i+1,r,l,⟨a,b,s,c,o,n,k,d,p,cs',e,_,hrs⟩,h=>by
  obtain⟨a',I,s',c',o',n',k',J,p',hr,U,h1,h2,h3,h4,h5,h6⟩:=hrs.at (i:=i) (r:=r) (l:=l) zv;subst e;refine⟨a',I,s',c',o',n',k',J,p',hr,?_,?_,?_,?_,?_,?_,?_⟩
  all_goals (rw[Uv zs])
  .rw[<-U];congr 1;simp;omega
  .rw[<-h1];congr 1;simp;omega
  .rw[<-h2];congr 1;simp;omega
  .rw[<-h3];congr 1;simp;omega
  .rw[<-h4];congr 1;simp;omega
  .rw[<-h5];congr 1;simp;omega
  grind
theorem Sd.at{k:Nat}(h:Sd w o n k rs){r:Rl}{l:T6}(hr:rs.drop i=r::l):
  ∃g,o=some ⟨g,0,none⟩/\g<w.heap.size/\Q2 w g 235/\∃a b s c o' n' U d p,Ss w r a b s c o' n' U d p/\w.cell? (TU g (i*7))=some (xd xh a)/\w.cell? (TU g (i*7+1))=some (xd .u8 b)/\w.cell? (TU g (i*7+2))=some (xj s)/\w.cell? (TU g (i*7+3))=some (xd xh c)/\w.cell? (TU g (i*7+4))=some (xa o' n' U)/\w.cell? (TU g (i*7+5))=some (xd xh d)/\w.cell? (TU g (i*7+6))=some (xk p):=by
 have hi:i<rs.length:=by
  rcases UU i rs.length with h|h
  .omega
  rw[UX h] at hr;cases hr
 obtain⟨cells,⟨_,⟨h1,h2⟩|⟨g,cap,cur,hv,_,hrow,hle,_,hcs,I⟩⟩,J⟩:=h
 .omega
 cases hv;obtain⟨a,b,s,c,o',n',U,d,p,hri,h0,h1,h2,h3,h4,h5,h6⟩:=J.at hr;rw[<-I,U8,Uh zo] at h0 h1 h2 h3 h4 h5 h6
 grind[EQ,Q2]
def Sd.later{k:Nat}(h:Sd w o n k rs)(I:XL w w'):Sd w' o n k rs:=by
 obtain⟨cells,J,U⟩:=h;exact⟨cells,gq J I,(KT.below I).rules U⟩
def KT.ownE{base:Nat}{v:Ud}(h:w.grownBy w' v.ownBlock)(ho:w.ownsRow base e size v n xs)(I:e≠232)(J:e≠292):KT w w':=by
 obtain⟨_,U|⟨g,cap,cur,hv,_,hh,_⟩⟩:=ho
 .rw[U.1] at h;exact KT.grownNone h
 rw[hv] at h;exact KT.grown (r:=g) h ⟨_,_,hh⟩ I J
def Tryz.infoPtr:(prog.info? 233).map (λi=>(i.zero,i.size,i.bytes))=some (some (xk none),1,8):=zk
theorem uq(h:Sd w o2 n2 k2 rs)(hlen:rs.length<=401)(az:∀r∈rs,r.call=true->qQ r):
  Calls prog 177 #[.agg #[xa o1 n1 k1,xa o2 n2 k2]] w λe w'=>∃v ps,e=xm v/\w'.ownsRow w.heap.size 233 1 v rs.length (ps.map xk)/\R5 w' rs ps/\XL w w':=by
 have hn:=h.len;subst hn;have aL:=fy az;clear az;obtain⟨i0,ay,aC,aD,aE⟩:=Uk Tryz.infoPtr;go_in;go_wp2
 go_loopw [3,4] (λv x wr=>∃(k:Nat) (ps:List (TX)),k<=rs.length/\ps.length=k/\x=xd xh k/\wr.ownsRow (w.heap.size+1) 233 1 v k (ps.map xk)/\R5 wr (rs.take k) ps/\Below (w.heap.size+1) (w.alloc (xi #[xa o1 n1 k1,xa o2 rs.length k2] 228)) wr) (λ_ x _=>rs.length-(intOf x).toNat)
 .exact⟨0,[],Ux,rfl,rfl,XG,rfl,XF⟩
 obtain⟨k,ps,hk,hpl,rfl,ae,aj,U⟩:=hrel;have ao:=aj;have ax:=(U.block w.heap.size zo).trans (gi w (xi #[xa o1 n1 k1,xa o2 rs.length k2] 228));have aQ:w.heap.size+1<=wr.heap.size:=by have:=U.size;simp_all
 have bc:=EQ ax;have aw:=((Uo w.heap.size w).alloc (XH) _).trans (U.mono zo);clear aj ax;by_cases hlt:k<rs.length
 .obtain⟨r,l,hr⟩:∃r l,rs.drop k=r::l:=by
   cases hd:rs.drop k with
   |nil=>have:=congrArg List.length hd;simp at this;omega
   |cons r l=>simp
  have HRL:=fy hr;obtain⟨g,rfl,hg,_,a,b,s,c,o',n',k',d,p,ar,q0,q1,q2,q3,q4,q5,q6⟩:=(h.later aw).at hr;have an:r∈rs:=Vk (i:=k) (by grind);have av:=fy (aL.out r an);clear hr an;cases hc:r.call with
  |true=>
   have hp:p=none:=by have:=ar.2;simp_all
   subst hp;have HC:=fy hc;clear hc;go_wp2_with fail;refine(G6 r a b s c d ar HC.out (av.out HC.out)).mono ?_;rintro e w2 ⟨v2,rfl,aN,ai⟩;have aq:=gq ae ai;have au:=ao.later ai;have aG:=U.trans (ai.mono aQ);have hz2':=ai.size;clear ai q0 q1 q2 q3 q4 q5 q6
   go_wp2_with (at_builtin;go_must (refine U0 _ rfl _ _ 288 rfl (w.heap.size+1) 233 i0 (xk none) 1 8 underlying288 ay aC aD aE rfl zd _ k (ps.map xk) rfl ?c0 (TU w2.heap.size 0) 1 1 [xk v2] rfl rfl ?c1 ?c2 ?c3 ?c4 ?c5 ?_))
   case c0=>exact aq.alloc _
   case c1=>
    intro j u hj
    match j,hj with
    |0,hj=>simp at hj;subst hj;exact(EQ (gi _ _) 0).trans rfl
    |j+1,hj=>simp at hj
   case c2=>intro u hu;simp at hu;subst hu;rfl
   case c3=>unfold maxLen;omega
   case c4=>omega
   case c5=>simp;omega
   intro v3 w3 J I _;have ak:=gJ aq;have aH:=(aG.alloc zo _).grown I zs (λj hj=>(ak j hj).1);have ag:=(KT.alloc w2 (xi #[xk v2] 233)).trans (KT.ownE I (aq.alloc _) zp zp);have aK:Hid (w3.ownsRow (w.heap.size+1) 233 1 v3 (k+1) ((ps++[v2]).map xk)):=by rw[U1];exact J
   have aJ:=R5.snoc (ag.fs au) (ag.isF aN);have aM:Hid (rs.take (k+1)=rs.take k++[r]):=by
    grind[gQ]
   clear J I ak;exact zm45
  |false=>
   obtain⟨aP,aA⟩:Q9 wr r.f p/\p.isSome=true:=by have:=ar.2;simp_all
   obtain⟨ad,rfl⟩:=Option.isSome_iff_exists.1 aA;have aI:Hid (Q9 wr (gO r) (some ad)):=by grind[gO]
   clear hc aP aA
   go_wp2_with (at_builtin;go_must (refine U0 _ rfl _ _ 288 rfl (w.heap.size+1) 233 i0 (xk none) 1 8 underlying288 ay aC aD aE rfl zd _ k (ps.map xk) rfl ?c0 (TU wr.heap.size 0) 1 1 [xk (some ad)] rfl rfl ?c1 ?c2 ?c3 ?c4 ?c5 ?_))
   case c0=>exact ae.alloc _
   case c1=>
    intro j u hj
    match j,hj with
    |0,hj=>simp at hj;subst hj;exact(EQ (gi _ _) 0).trans rfl
    |j+1,hj=>simp at hj
   case c2=>intro u hu;simp at hu;subst hu;rfl
   case c3=>unfold maxLen;omega
   case c4=>omega
   case c5=>simp;omega
   intro v3 w3 J I _;have ak:=gJ ae;have aH:=(U.alloc zo _).grown I zs (λj hj=>(ak j hj).1);have ag:=(KT.alloc wr (xi #[xk (some ad)] 233)).trans (KT.ownE I (ae.alloc _) zp zp);have aK:Hid (w3.ownsRow (w.heap.size+1) 233 1 v3 (k+1) ((ps++[(some ad)]).map xk)):=by rw[U1];exact J
   have aJ:=R5.snoc (ag.fs ao) (ag.isF aI.out);have aM:Hid (rs.take (k+1)=rs.take k++[r]):=by
    grind[gQ]
   clear J I ak;exact zm45
 go_wp2;go_ret;have aO:k=rs.length:=zo;subst aO;have aj:=ao;rw[W9] at aj;exact⟨_,ps,rfl,im ae zo,aj,aw⟩
end Go.Proofs.YtidakhhekofkoaaGreatDoor
