import Derived.Test.YtidakhhekofkoaaGreatDoorT16
set_option linter.all false
set_option maxRecDepth 100000
set_option maxHeartbeats 4000000
namespace Go.Proofs.YtidakhhekofkoaaGreatDoor
attribute [local go_sem] TT TU TV XL
attribute [local simp] TT TU TV XL
open Go.Proofs.Tryz
open Go.RowKit Go.Deep
open Value renaming slice->xa,int->xd,string->xj,pointer->xk,bool->xn
open IntKind renaming i64->xh
open Obj renaming cells->xi
open Ending renaming returned->xm
open List renaming flatMap_append->Rj,range->RD,replicate->RJ
open World renaming setCell->Rs
open Or renaming inr->Rc,inl->Rg
open And renaming intro->Rf
open Region renaming wanted->Rx
variable{zq:Prop}
variable{o ro q ko bo dO ho l1 g1 m1:TX}{nb noff rn m j B kc mb bc b1 b2 fuel dn dc gc hc l2 l3 g2 g3 m2 m3:Nat}{r:T8}{ops:Array Oper}{K:Act->Uc->Prop}{Q:Exit->Act->Uc->Prop}{E:Prop}{R:Int->Option Tb->Prop}{e:Ending}{t:Tb}{f oa:Int}{al:TY}{α β:Type}{tr:TZ}{rv rv':TW}{nx:T0}{cs:List Cs}{rb rc:Nat->Nat}{pb:Ub->Nat}{d:Dd}{W w3:Uc}{b ot:Ub}
def zm44(h:zq:=by
 rintro e w7 ⟨rfl,a7,hp7,hq7,hn7,hT7⟩;have HL:Hid (Q6 lb X w0 w7 (N+206)):=by
  have hT:=hT7.sub (HM.out.2.2.cons_cons _);by_cases e:f=0
  .exact Q6.two hg (HP.out.1 e) (hp7 e) hT rfl rfl (HF.out.1 e)
  rw[hq7 e,HP.out.2 e] at hT;exact⟨a,g,hg.more zo,hT.sub (((Vc ..).trans ((Vc ..).trans (Vc ..))).cons_cons _)⟩
 clear hp7 hq7 hn7 hT7;go_wp2;go_ret;exact⟨rfl,HL.out⟩
 ):zq:=h
def zm119(h:zq:=by
 rintro e w' ⟨rfl,rfl⟩;exact⟨rfl,a,[],Up.refl a,Ux,Or.inl ⟨rfl,rfl,rfl⟩,h.sub ((Vc ..).cons_cons _)⟩
 ):zq:=h
def zm155(h:zq:=by
 exact⟨rfl,a',[b],hu,XH,Or.inr ⟨b,g,List.mem_singleton.2 rfl,rfl,rfl,hb,hlen⟩,hl⟩
 ):zq:=h
def zm159(h:zq:=by
 rintro e w8 ⟨rfl,hw8⟩;have hw:=hw8.symm;clear hw8;subst hw;go_wp2;go_ret;exact⟨rfl,HL.out⟩
 ):zq:=h
def Tn(lb:Nat)(X:List Th)(w0:Uc)(ao fo no:TX)(na nf nn ac fc nc:Nat)(acts:TZ)(fl:T8)(rows:List (T8))(vs:Nat->Option Ud):Prop:=
 ∀w',Below lb w0 w'->(∀y∈X,y.P w')->SY w' ao na ac acts/\LsI w' fo nf fc fl/\LsR w' no nn nc rows/\∀nb noff,no=some ⟨nb,noff,none⟩->∀j,j<nn->w'.cell? (TU nb (noff+j))=vs j
def Ts.shape{w w':Uc}{v:Ud}{tr:T8}{n c:Nat}(h:Ts w o v tr)(I:LsI w' o n c tr):∃q m b,v=xa q n m/\(∀V:Uc,(binOp .eql 33 v TV).run prog V=.ok (xn b) V)/\∀V:Uc,(binOp .eql 33 (xa o n c) TV).run prog V=.ok (xn b) V:=by
 rcases h with⟨rfl,rfl,rfl⟩|⟨ad,g,rfl,rfl,_⟩
 .rcases I with⟨_,rfl,rfl,_⟩|⟨_,h,_⟩
  .exact⟨none,0,true,rfl,λV=>sG V,λV=>sG V⟩
  cases h
 rcases I with⟨h,_⟩|⟨_,h,rfl,_⟩
 .cases h
 exact⟨TT g,_,false,rfl,λV=>yo V _ _ _,λV=>yo V _ _ _⟩
theorem Tn.row{lb:Nat}{X:List Th}{w0 w':Uc}{J U:TX}{na nf nn ac fc nc:Nat}{acts:TZ}{fl:T8}{rows:List (T8)}{I:Nat->Option Ud}(h:Tn lb X w0 J U (some (TU nb noff)) na nf nn ac fc nc acts fl rows I)(hb:Below lb w0 w')(hX:∀y∈X,y.P w'){i:Nat}(hi:i<nn)(hr:rows[i]?=some r){rc:Nat}(hv:I i=some (xa ro rn rc)):
  w'.cell? (TU nb (noff+i))=some (xa ro rn rc)/\nb<w'.heap.size/\LsI w' ro rn rc r:=by
 obtain⟨_,_,h3,h4⟩:=h w' hb hX;have hc:=(h4 nb noff rfl i hi).trans hv;rcases h3 with⟨h,_⟩|⟨b,off,sp,h,_,_,hrow⟩
 .omega
 grind
theorem Tn.sp{lb:Nat}{X:List Th}{w0 w':Uc}{I J:TX}{na nf nn ac fc nc:Nat}{sp:Ua}{acts:TZ}{fl:T8}{rows:List (T8)}{vs:Nat->Option Ud}(h:Tn lb X w0 I J (some ⟨nb,noff,sp⟩) na nf nn ac fc nc acts fl rows vs)(hb:Below lb w0 w')(hX:∀y∈X,y.P w'){i:Nat}(hr:rows[i]?=some r):sp=none:=by
 obtain⟨_,_,U,_⟩:=h w' hb hX;rcases U with⟨h,_⟩|⟨b,off,sp',h,_,_,hrow⟩
 .cases h
 grind
def Qk(rs:List Rk)(q:TX)(n m:Nat):Prop:=(q=none/\n=0/\m=0)\/∃b g,b∈rs/\q=some ⟨g,0,none⟩/\m=n+8/\b.l=xa (TT g) (n+8) (n+8)/\n<=1100000
def Nw:(prog.info? 36).map (λi=>(i.zero,i.size,i.bytes))=some (some (.agg #[TV,TV,TV]),3,72):=zk
def Pz{w:Uc}{o:Oper}{a:Act}(J:o.guard=none)(s x:Operand)(ho:o.op=.call {callee:=.builtin .append,args:=#[s,x],argTypes:=#[69,69]}){v:Ud}{n:Nat}{xs:TW}(hs:a.eval s=v){H:Nat}(u1 u2 u3:Ud)(hx:a.eval x=xa (TT H) 1 1)(hu:∀u∈[u1,u2,u3],u.oneCell'=true)(I:w.ownsRow 0 36 3 v n xs)(hb:w.heap[H]?=some (xi #[u1,u2,u3] 36 (0,0)))(h63:n<=1000000000)
  (h:∀g cap w',w'.ownsRow 0 36 3 (xa (TT g) (n+1) cap) (n+1) (xs++[u1,u2,u3])->w.grownBy w' v.ownBlock->(v.ownBlock=some g\/w.heap.size<=g)->K (a.put o.dst (xa (TT g) (n+1) cap)) w'):
  if Rx o (yielded ops a.tmps)=true then Oper.wp prog o a w K Q else E:=by
 obtain⟨i0,U,aa,ad,ae⟩:=Uk Nw;refine UB _ J s x 69 ho 0 36 i0 _ 3 72 underlying69 U aa ad ae rfl zp v n xs hs I (TU H 0) 1 1 [u1,u2,u3] hx rfl (WR hb) hu zp ?_ ?_ (Ux) w.heap.size rfl ?_
 .unfold maxLen;omega
 .omega
 exact zm111
def Bn(w:Uc){lb:Nat}(f:Int)(hf:f≠0):
  Calls prog 98 #[xk (TT lb),.agg #[TV,TV,TV],.agg #[TV,TV,TV],xd xh f] w λe w'=>e=xm (xn true)/\XL w w':=by
 have e1:=λV:Uc=>Co V
 have e2:=λV:Uc=>sG V
 have e3:=λV:Uc=>zB V
 go_in;go_wp2;go_ret;exact⟨rfl,gC.alloc zp _⟩
def Tw(R:Int->Option Tb->Prop)(w w':Uc)(e:Ending):Prop:=
 ∃f o,R f o/\((o=none/\f≠0/\e=xm (.tuple #[.agg #[TV,TV,TV],xd xh f])/\XL w w')\/∃t,o=some t/\f=0/\DecT t w w' e)
def Un(R:Int->Option Tb->Prop):Prop:=∀{f f' o o'},R f o->R f' o'->f=f'/\o=o'
def OC(t:Tb)(na nf nn:Nat)(w w':Uc)(e:Ending):Prop:=∃ao fo no ac fc nc rv,e=xm (.tuple #[.agg #[xa ao na ac,xa fo nf fc,xa no nn nc],xd xh 0])/\RX w' w.heap.size (xa ao na ac) (xa fo nf fc) (xa no nn nc) t rv/\XL w w'
theorem Tw.tab{w w':Uc}(h:Tw R w w' e)(hu:Un R)(h0:R 0 (some t)){I nf nn:Nat}(J:I=t.acts.length)(U:nf=t.fl.length)(en:nn=t.nx.length):OC t I nf nn w w' e:=by
 subst J;subst U;subst en;obtain⟨f,o,hR,⟨rfl,_⟩|⟨t',rfl,rfl,ao,fo,no,ac,fc,nc,rv,he,hT,_,hb⟩⟩:=h
 .cases (hu h0 hR).2
 grind[Un,OC]
theorem Tw.nil{w w':Uc}(h:Tw R w w' e)(hu:Un R)(h0:R f none):e=xm (.tuple #[.agg #[TV,TV,TV],xd xh f])/\XL w w':=by
 grind[Tw,Un]
theorem Tw.lost{w w':Uc}(h:Tw R w w' e)(hn:∀t,¬ R 0 (some t)):∃f,R f none/\f≠0/\e=xm (.tuple #[.agg #[TV,TV,TV],xd xh f])/\XL w w':=by
 grind[Tw]
def DR(s:Ub)(f:Int)(o:Option Tb):Prop:=RZ s.data.toList o/\f=match o with|none=>6|some _=>0
def DR.un(s:Ub):Un (DR s):=λ⟨I,h2⟩ ⟨J,h4⟩=>by
 cases I.uniq J;simp_all
theorem DR.of{s:Ub}{w w':Uc}(h:∃o,RZ s.data.toList o/\oq Fb w o w' e):Tw (DR s) w w' e:=by
 obtain⟨o,ho,hd⟩:=h;cases o with
 |none=>grind[oq,Fb,Tw,DR]
 |some t=>grind[DecT.of,RZ,Fb,Tw,DR]
def CR(s:Ub)(f:Int)(o:Option Tb):Prop:=(∃x,iz s=.error x/\o=none/\f=x.2)\/∃al rs,iz s=.ok (al,rs)/\(s7 al rs o\/rN al rs o)/\f=match o with|none=>5|some _=>0
theorem CR.un(s:Ub):Un (CR s):=λ{_ _ o o'} h h'=>by
 rcases h with⟨x,hx,rfl,rfl⟩|⟨al,rs,hx,hc,rfl⟩
 .rcases h' with⟨y,hy,rfl,rfl⟩|⟨al,rs,hy,_⟩
  .simp_all
  simp_all
 rcases h' with⟨y,hy,_⟩|⟨al',rs',hy,hc',rfl⟩
 .simp_all
 rw[hx] at hy;cases hy;have I:=lK hx;have e:o=o':=by
  rcases hc with hc|hc<;>rcases hc' with hc'|hc'
  .exact Sz.alike hc hc' (λ_ _=>rfl)
  .exact Am I hc hc'
  .grind[Am]
  exact Sz.alike hc hc' (λ_ _=>rfl)
 simp_all
theorem CR.right{s:Ub}(h:CR s 0 (some t)):Fn t:=by
 grind[F6,wv,CR]
theorem CR.fault{s:Ub}{w w':Uc}{x:T3}(hx:iz s=.error x)(hb:XL w w')(he:e=xm (.tuple #[.agg #[TV,TV,TV],xd xh x.2])):Tw (CR s) w w' e:=by grind[my,iz,Tw,CR]
theorem CR.of{s:Ub}{w w':Uc}{rs:T6}(hx:iz s=.ok (al,rs)){o:Option Tb}(hc:s7 al rs o\/rN al rs o)(hd:oq C' w o w' e):Tw (CR s) w w' e:=by
 cases o with
 |none=>grind[oq,C',Tw,CR]
 |some t=>grind[DecT.of,CR.right,C',Tw,CR]
theorem SC.tw{s:Ub}{w w':Uc}(h:SC s w w' e):Tw (CR s) w w' e:=by
 grind[CR.fault,CR.of,SC]
theorem Sq.tw{s:Ub}{w w':Uc}(h:Sq s w w' e):Tw (CR s) w w' e:=by
 unfold Sq at h;cases hx:iz s with
 |error x=>grind[CR.fault]
 |ok m=>
  rw[hx] at h;obtain⟨o,ho,I⟩:=h;exact CR.of hx (Rc ho) I
def BL(s:Ub){w:Uc}(I:GV w):Calls prog 17 #[xj s] w (λe w'=>Tw (CR s) w w' e):=(DM s w I).mono λ_ _ h=>h.tw
def Ab(s:Ub)(w:Uc):Calls prog 97 #[xj s] w (λe w'=>Tw (CR s) w w' e):=(uo s w).mono λ_ _ h=>h.tw
def EC(s:Ub){w:Uc}(I:GV w):Calls prog 27 #[xj s] w (λe w'=>Tw (DR s) w w' e):=(xX s I).mono λ_ _ h=>DR.of h
def J7(s:Ub)(w:Uc):Calls prog 145 #[xj s] w (λe w'=>Tw (DR s) w w' e):=(vY w s).mono λ_ _ h=>DR.of h
section
variable{lb:Nat}{X:List Th}{w0 w w':Uc}{N:Nat}{bs:List Bk}{js:List Ik}{rs:List Rk}{ws us:List Wb}{x y:Wb}
theorem Ow(l:List Wb):(yZ l).length=l.length*3:=by
 induction l with
 |nil=>rfl
 |cons d r ih=>unfold yZ at ih|-;grind
end
theorem kI{x a:α}{l:List α}:x∈a::x::l:=by grind
def pK{x a b:α}{l:List α}:x∈a::b::x::l:=Ul kI
def zJ{x a b c:α}{l:List α}:x∈a::b::c::x::l:=Ul pK
def Gr{x a b c d:α}{l:List α}:x∈a::b::c::d::x::l:=Ul zJ
def Pk{x a b c d e:α}{l:List α}:x∈a::b::c::d::e::x::l:=Ul Gr
def S3.two{z:Tz}(h:S3 z e):(∃s f,e=xm (.tuple #[xj s,xd xh f]))/\∀I,S3 z I->I=e:=by
 rcases h with⟨t,rfl,hR,he⟩|⟨hn,he⟩
 .refine⟨⟨_,_,he⟩,λI J=>?_⟩;rcases J with⟨u,hu,_,he'⟩|⟨hn,_⟩
  .rw[he,he',Tb.z_inj hu]
  exact(hn ⟨t,rfl,hR⟩).elim
 refine⟨⟨_,_,he⟩,λI J=>?_⟩;rcases J with⟨u,hu,hR,_⟩|⟨_,he'⟩
 .exact(hn ⟨u,hu,hR⟩).elim
 simp_all
theorem TE.ls{w:Uc}{n:Nat}(h:TE w o (xa q n m) tr)(I:tr.length<=1100000):SY w q n m tr/\n<=m:=by
 rcases h with⟨_,hv,rfl⟩|⟨ad,g,_,hv,hL⟩
 .grind[SY]
 cases hv;exact⟨Rc ⟨_,rfl,rfl,hL.txs,I⟩,Nat.le_add_right _ _⟩
theorem Ts.ls{w:Uc}{n:Nat}{tr:T8}(h:Ts w o (xa q n m) tr)(I:tr.length<=1100000):LsI w q n m tr:=by
 rcases h with⟨_,hv,rfl⟩|⟨ad,g,_,hv,hL⟩
 .grind[LsI]
 cases hv;exact Rc ⟨_,rfl,rfl,hL.ins,I⟩
theorem SY.len{w:Uc}{n c:Nat}(h:SY w o n c tr):n=tr.length/\tr.length<=1100000/\So w o tr:=by
 grind[SY,So]
theorem LsI.len{w:Uc}{n c:Nat}{tr:T8}(h:LsI w o n c tr):n=tr.length/\tr.length<=1100000/\SV w o tr:=by
 grind[LsI,SV]
theorem LsR.len{w:Uc}{n c:Nat}{rs:List (T8)}(h:LsR w o n c rs):n=rs.length/\rs.length<=1100000/\S9 w o rs/\∀r∈rs,r.length<=1100000:=by
 rcases h with⟨rfl,rfl,rfl,rfl⟩|⟨b,off,sp,rfl,h1,h2,h3⟩
 .grind[S9]
 refine⟨h1,h2,λj r hr=>?_,λr hr=>?_⟩
 .obtain⟨rfl,k1,ro,rn,rc,k2,k3⟩:=h3 j r hr;obtain⟨e,_,hi⟩:=k3.len
  grind
 obtain⟨j,I⟩:=List.mem_iff_getElem?.1 hr;obtain⟨_,k1,ro,rn,rc,k2,k3⟩:=h3 j r I;exact k3.len.2.1
structure S7(w:Uc)(ao fo no:TX)(na nf nn ac fc nc:Nat)(z:Tz):Prop where
 a:SY w ao na ac z.acts
 f:LsI w fo nf fc z.fl
 r:LsR w no nn nc z.nx
 c:na<=ac
section
variable{w w':Uc}{ao fo no:TX}{na nf nn ac fc nc:Nat}{z:Tz}
def S7.later(h:S7 w ao fo no na nf nn ac fc nc z)(I:XL w w'):S7 w' ao fo no na nf nn ac fc nc z:=⟨h.a.later I,h.f.later I,h.r.later I,h.c⟩
def S7.tbi(h:S7 w ao fo no na nf nn ac fc nc z):SN w ao fo no ac z/\na=z.acts.length/\nf=z.fl.length/\nn=z.nx.length:=by
 obtain⟨I,l1,a1⟩:=h.a.len;obtain⟨J,l2,a2⟩:=h.f.len;obtain⟨U,l3,a3,a4⟩:=h.r.len;exact⟨⟨a1,a2,a3,I▸h.c,zo,zo,zo,λr hr=>by have:=a4 r hr;omega⟩,I,J,U⟩
def BM(h:S7 w ao fo no na nf nn ac fc nc z)(I:GV w):Calls prog 26 #[.agg #[xa ao na ac,xa fo nf fc,xa no nn nc]] w λe w'=>S3 z e/\XL w w':=by
 obtain⟨J,rfl,rfl,rfl⟩:=h.tbi;exact FF w z J I
def Ac(h:S7 w ao fo no na nf nn ac fc nc z):Calls prog 102 #[.agg #[xa ao na ac,xa fo nf fc,xa no nn nc]] w λe w'=>S3 z e/\XL w w':=by
 obtain⟨I,rfl,rfl,rfl⟩:=h.tbi;exact sq fc nc I
end
def ZQ(w:Uc)(no qn:TX)(nn mn nc:Nat)(rows:List (T8))(Z:List Th):Prop:=
 (no=none/\qn=none/\nn=0/\mn=0/\nc=0/\rows=[]/\Z=[])\/∃nb noff sp g xs hs cur,no=some ⟨nb,noff,sp⟩/\qn=some ⟨g,0,none⟩/\mn=nn+8/\Z=iF g 33 cur::(xs.map qj++hs.map tV)/\wW w nb noff nn rows xs cur nn/\BO nn hs cur (nn+8)/\nn<=1100000
theorem ZQ.move{w w':Uc}{no qn:TX}{nn mn nc:Nat}{rows:List (T8)}{Z:List Th}(h:ZQ w no qn nn mn nc rows Z)(hpl:∀nb noff sp j,no=some ⟨nb,noff,sp⟩->j<nn->sp=none)(hc:∀nb noff,no=some ⟨nb,noff,none⟩->∀j,j<nn->w'.cell? (TU nb (noff+j))=w.cell? (TU nb (noff+j))):ZQ w' no qn nn mn nc rows Z:=by
 rcases h with h|⟨nb,noff,sp,g,xs,hs,cur,rfl,h2,h3,h4,h5,h6⟩
 .exact Rg h
 refine Rc ⟨nb,noff,sp,g,xs,hs,cur,rfl,h2,h3,h4,⟨h5.len,h5.sz,λj x I=>?_⟩,h6⟩;obtain⟨k1,k2,rn,rc,k3⟩:=h5.at_ j x I;have hj:j<nn:=by have:=(List.getElem?_eq_some_iff.1 I).1;have:=h5.len;omega
 grind
def LsR.plain{w:Uc}{n c:Nat}{rs:List (T8)}(h:LsR w o n c rs){sp:Ua}(ho:o=some ⟨nb,noff,sp⟩)(hj:j<n):sp=none:=by
 have hl:=h.len.1;rcases h with⟨rfl,_⟩|⟨b,off,sp',rfl,_,_,h3⟩
 .omega
 cases ho;exact(h3 j _ (Uq zo)).1
theorem ZQ.read{w w':Uc}{no qn:TX}{nn mn nc:Nat}{rows:List (T8)}{Z:List Th}(h:ZQ w no qn nn mn nc rows Z)(U:nn=rows.length/\∀r∈rows,r.length<=1100000)(hZ:∀y∈Z,y.P w'):LsR w' qn nn mn rows:=by
 rcases h with⟨rfl,rfl,rfl,rfl,rfl,rfl,_⟩|⟨nb,noff,sp,g,xs,hs,cur,rfl,rfl,rfl,rfl,h5,h6,h7⟩
 .grind[LsR]
 have hg:=hZ (iF g 33 cur) (Um ..);refine Rc ⟨g,0,none,rfl,U.1,U.1▸h7,λj r hr=>?_⟩;have hj:j<xs.length:=by have:=(List.getElem?_eq_some_iff.1 hr).1;have:=h5.len;omega
 obtain⟨k1,k2,_⟩:=h5.at_ j _ (Uq hj);have J:Ts w' xs[j].o xs[j].v xs[j].r:=hZ (qj xs[j]) (Ul (Wv (List.mem_map.2 ⟨_,UY hj,rfl⟩)));rw[hr] at k2;cases k2;have hc:w'.cell? (TU g (0+j))=some xs[j].v:=by rw[U2,EQ hg];exact k1
 refine⟨rfl,dK hg,?_⟩;have I:=U.2 _ (UA hr);rcases id J with⟨_,hv,_⟩|⟨_,g2,_,hv,_⟩
 .rw[hv] at J hc;exact⟨_,_,_,hc,J.ls I⟩
 rw[hv] at J hc;exact⟨_,_,_,hc,J.ls I⟩
def TS.one{w w':Uc}{ao fo no:TX}{na nf nn nc:Nat}{acts:TZ}{fl:T8}{rs:List (T8)}(h:TS w ao fo no na nf nn acts fl rs w' e)(hR:LsR w no nn nc rs):
  ∃J I qf mf qn mn Z,e=xm (.agg #[xa J na I,xa qf nf mf,xa qn nn mn])/\XL w w'/\RK w.heap.size w' (nW ao (xa J na I) acts::mK fo (xa qf nf mf) fl::Z)/\ZQ w no qn nn mn nc rs Z:=by
 obtain⟨hb,J,I,qf,mf,⟨rfl,rfl,he,U⟩|⟨nb,noff,sp,g,xs,hs,cur,rfl,he,h1,h2,U⟩⟩:=h
 .rcases hR with⟨_,rfl,rfl,_⟩|⟨_,_,_,h,_⟩
  .exact⟨J,I,qf,mf,none,0,[],he,hb,U,Rg ⟨rfl,rfl,rfl,rfl,rfl,rfl,rfl⟩⟩
  cases h
 have hl:=hR.len;exact⟨J,I,qf,mf,_,_,_,he,hb,U.perm (List.Perm.trans (List.Perm.swap _ _ _) (List.Perm.cons _ (List.Perm.swap _ _ _))),Rc ⟨nb,noff,sp,g,xs,hs,cur,rfl,rfl,rfl,rfl,h1,h2,zo⟩⟩
section
variable{lb:Nat}{X:List Th}{w0 w w':Uc}{N:Nat}{bs:List Bk}{js:List Ik}{rs:List Rk}{ws us:List Wb}
end
def Fl{lb:Nat}{X:List Th}{w0:Uc}:Tn lb X w0 none none none 0 0 0 0 0 0 [] [] [] (λ_=>none):=λ_ _ _=>⟨Rg ⟨rfl,rfl,rfl,rfl⟩,Rg ⟨rfl,rfl,rfl,rfl⟩,Rg ⟨rfl,rfl,rfl,rfl⟩,λ_ _ h=>zp⟩
theorem N5{lb:Nat}{X:List Th}{w0:Uc}{ao fo no:TX}{na nf nn ac fc nc:Nat}(hx:j7 ⟨t,xa ao na ac,xa fo nf fc,xa no nn nc,rv⟩∈X)(hR:Fn t)(hn:∃v:Uc,RX v 0 (xa ao na ac) (xa fo nf fc) (xa no nn nc) t rv):
  Tn lb X w0 ao fo no na nf nn ac fc nc t.acts (zI t.fl) (t.nx.map zI) (λj=>rv[j]?)/\na<=ac/\nn<=100:=by
 have ad:=hR.small;have h1:=hR.n1;have h100:=hR.n100;have pos:∀{v:Uc} {e n c k:Nat} {o:TX} {xs:TW},v.ownsRow 0 e 1 (xa o n c) k xs->0<k->n=k/\∃g,o=some ⟨g,0,none⟩:=λh hk=>by
  obtain⟨_,⟨_,h0⟩|⟨g,cap,cur,hv,_⟩⟩:=h
  .omega
  simp_all
 have an:=hR.acts.n1;obtain⟨v,hv⟩:=hn;obtain⟨hi,e1,e2,e3⟩:=hv.read ad;subst e1;subst e2;subst e3;refine⟨λw' hb hX=>?_,hi.ac,zo⟩;have U:RX w' 0 (xa ao t.acts.length ac) (xa fo t.fl.length fc) (xa no t.nx.length nc) t rv:=hX _ hx;have hI:=(U.read ad).1;obtain⟨_,ga,rfl⟩:=pos U.acts an;obtain⟨_,gf,rfl⟩:=pos U.fl (by have:=hR.fl;omega);obtain⟨_,gn,rfl⟩:=pos U.nx zo;have I:∀j,j<t.nx.length->w'.cell? (TU gn (0+j))=rv[j]? :=λj J=>by
  obtain⟨g,q1,q2,q3⟩:=gT U.nx J;simp_all
 refine⟨Rc ⟨_,rfl,rfl,hI.acts,zo⟩,Rc ⟨_,rfl,(mh _).symm,hI.fl,by have:=mh t.fl;omega⟩,Rc ⟨gn,0,none,rfl,zp,zs,λj r hr=>?_⟩,λnb noff e j J=>by cases e;simp_all⟩;rw[UG] at hr;cases J:t.nx[j]? with
 |none=>simp_all
 |some q=>
  rw[J] at hr;cases hr;have hjl:=(List.getElem?_eq_some_iff.1 J).1;obtain⟨g,c,k1,k2⟩:=U.rows j q J;obtain⟨b,off,ro,rc,q1,q2,q3,q4⟩:=hI.nx j (zI q) (by show(t.nx.map zI)[j]? =_;simp_all);cases q1;rw[mh] at q3;have hc:=I j zo;rw[q3,k1] at hc;cases hc;refine⟨rfl,q2,_,_,_,q3,Rc ⟨_,rfl,(mh _).symm,q4,?_⟩⟩
  grind[mh]
theorem yI{C:α->List β}{k:Nat}(I:∀x,(C x).length=k):∀{l:List α} {i:Nat} {x:α},l[i]?=some x->∀m,m<k->(l.flatMap C)[i*k+m]?=(C x)[m]?
 |[],i,x,h,_,_=>by cases h
 |y::l,0,x,h,m,hm=>by
  grind
 |y::l,i+1,x,h,m,hm=>by
  rw[VB,Uv (by rw[I,WJ];omega),I,show(i+1)*k+m-k=i*k+m by rw[WJ];omega];exact yI I zv m hm
def ve{C:α->TW}{k:Nat}(hC:∀x,(C x).length=k){w:Uc}{e n c:Nat}{l:List α}(ho:w.ownsRow 0 e k (xa o n c) n (l.flatMap C))(hn:n=l.length){i:Nat}{x:α}(U:l[i]?=some x):
  ∃g,o=some ⟨g,0,none⟩/\g<w.heap.size/\∀m,m<k->w.cell? (TU g (i*k+m))=(C x)[m]? :=by
 have hi:=(List.getElem?_eq_some_iff.1 U).1;obtain⟨_,⟨h1,h2⟩|⟨g,cap,cur,hv,_,I,hle,_,hcs,J⟩⟩:=ho
 .omega
 cases hv;refine⟨g,rfl,dK I,λm hm=>?_⟩;have:i*k+k<=n*k:=by rw[<-WJ];exact Nat.mul_le_mul_right k zo
 rw[EQ I,<-UN,<-yI hC U m hm,<-J,U8,Uh zo]
def Q1.later{w w':Uc}{l v:Ud}{e:Nat}(h:Q1 w l v e)(J:XL w w'):Q1 w' l v e:=by
 obtain⟨o,n,c,h1,h2,h3⟩:=h;refine⟨o,n,c,h1,h2,λi hi=>?_⟩;obtain⟨b,e1,⟨U,m,I⟩,e3⟩:=h3 i hi;exact⟨b,e1,⟨U,m,Qm J I⟩,(Fd J _ _ (dK I)).trans e3⟩
theorem Q1.sl{w:Uc}{l v:Ud}{e:Nat}(h:Q1 w l v e):∃o n c,l=xa o n c:=by
 grind[Q1]
def RK.sub{w:Uc}{xs ys:List Th}(h:RK B w xs)(hs:ys.Sublist xs):RK B w ys:=⟨λx I=>h.ok x (hs.subset I),h.ap.sublist hs,λx I=>h.lo x (hs.subset I)⟩
def RK.part{w:Uc}{x:Th}{new rest:List Th}(h:RK B w (x::rest))(hn:∀y∈new,R1 w y)(I:new.Pairwise λx y=>∀k,x.S k->¬ y.S k)(hs:∀y∈new,∀k,y.S k->x.S k)(hB:B<=w.heap.size):RK B w (new++rest):=
 RK.turn (old:=[x]) h ⟨rfl,rfl,rfl,XH,λ_ _ _=>rfl⟩ hn I (λy U k J=>Rg ⟨x,List.mem_singleton.2 rfl,hs y U k J⟩) hB
def lV(rv:TW)(nx:T0):List Th:=List.zipWith (λv r=>ug v (gX r)) rv nx
theorem qi{y:Th}(h:y∈lV rv nx):∃(j:Nat)(v:Ud)(r:T5),rv[j]?=some v/\nx[j]?=some r/\y=ug v (gX r):=by
 obtain⟨j,hj⟩:=List.mem_iff_getElem?.1 h
 grind[lV]
theorem LF{k:Nat}{v:Ud}{r:T5}(h1:rv[k]?=some v)(h2:nx[k]?=some r):(lV rv nx).drop k=ug v (gX r)::(lV rv nx).drop (k+1):=by
 have h:(lV rv nx)[k]?=some (ug v (gX r)):=by grind[lV]
 have I:=(List.getElem?_eq_some_iff.1 h).1;rw[UK I];simp_all
section
variable{lb:Nat}{X:List Th}{w0 w w':Uc}{N:Nat}{bs:List Bk}{js:List Ik}{rs:List Rk}{ws us:List Wb}{x:Wb}
def zX{base:Nat}(h:RX w base x.A x.F x.X x.t x.rv):∃I ac J fc no nc,x.A=xa I x.t.acts.length ac/\x.F=xa J x.t.fl.length fc/\x.X=xa no x.t.nx.length nc:=by
 obtain⟨I,ac,e1⟩:=ib h.acts;obtain⟨J,fc,e2⟩:=ib h.fl;obtain⟨no,nc,e3⟩:=ib h.nx;simp_all
end
def IT:(prog.info? 25).map (λi=>(i.zero,i.size,i.bytes))=some (some TV,1,24):=zk
theorem Fw{w:Uc}{o:Oper}{a:Act}(ao:o.guard=none){s x:Operand}(ho:o.op=.call {callee:=.builtin .append,args:=#[s,x],argTypes:=#[25,25]})
  (hs:a.eval s=TV){n base:Nat}{L:TZ}(hn:n=L.length)(hx:a.eval x=xa ko n kc)(I:w.ownsRow base 9 1 (xa ko n kc) n (gU L))(h8:n<=8)
  (h:∀o5 c5 w',w'.ownsRow w.heap.size 9 1 (xa o5 n c5) n (gU L)->XL w w'->K (a.put o.dst (xa o5 n c5)) w'):
  if Rx o (yielded ops a.tmps)=true then Oper.wp prog o a w K Q else E:=by
 have hw:Rx o (yielded ops a.tmps)=true:=by simp[Rx,ao]
 rw[Uh hw];obtain⟨i0,aa,aq,ar,au⟩:=Uk sI;subst hn;obtain⟨hl,⟨hv,h0⟩|⟨g,cap,cur,hv,hg,hrow,hle,hcap,hcs,htake⟩⟩:=id I
 .rw[hv] at hx;have ae:=run_append_owned_none (P:=prog) (w:=w) w.heap.size 25 o.type 9 i0 1 underlying25 aa TV 0 [] (XG);have J:=h none 0 w (by
   have e:gU L=[]:=VX (by grind);rw[h0,e];exact XG) (XF)
  rw[h0] at J;unfold Oper.wp execOp;simp only[ho,resolve,invoke,builtin,Sem.run_bind,Sem.run_pure,Result.andThen_ok,List.map_toArray,UZ,Vv,hs,hx,ae];exact J
 rw[hv] at hx;refine wp_append_own w s x 25 ho w.heap.size 9 i0 (xj ⟨#[]⟩) 1 16 underlying25 aa aq ar au rfl zd TV 0 [] hs (XG) (TU g 0) L.length cap (gU L) hx (by unfold gU;simp) ?_ ?_ ?_ ?_ (XH) ?_
 .intro j u hj;have hjl:=(List.getElem?_eq_some_iff.1 hj).1;have ad:j<L.length:=by grind
  obtain⟨g',h1,h2,U⟩:=gT I ad;rw[hv] at I;cases hv;cases h1;rw[Vm,U2,U];exact hj
 .intro u hu;unfold gU at hu;obtain⟨x,_,rfl⟩:=List.mem_map.1 hu;rfl
 .unfold maxLen;omega
 .omega
 intro v' w' h2 U _;rw[U2,Vy] at h2;obtain⟨o5,c5,rfl⟩:=ib h2;exact h o5 c5 w' h2 ⟨U.os,U.tape,U.output,U.size,λk hk=>U.block k hk (by intro e;cases e)⟩
def Tryz.infoPair:(prog.info? 112).map (λi=>(i.zero,i.size,i.bytes))=some (some (.agg #[xk none,xk none]),2,16):=zk
def SD.base{w:Uc}{base rd:Nat}{A n ab a0 fb f0 n0 ac fc nc:Nat}{ro:Nat->Nat}{lo:TX}{lc:Nat}(h:SD w base rd t cs A n ab a0 fb f0 nb n0 ac fc nc rb ro rc lo lc)(hB:B<=base):SD w B rd t cs A n ab a0 fb f0 nb n0 ac fc nc rb ro rc lo lc:=⟨h.blk,h.tb,im h.ls hB,h.nd,h.st,h.few,h.sep⟩
theorem KE{id:Ub}{N:Nat}(h:Sa N cs)(hid:id.size<=140737488355328):Sa (N+1) (jo cs id).1:=by grind[jo,jP,Sa]
theorem KD{id act:Ub}{N:Nat}(h:Sa N cs)(hid:id.size<=140737488355328):Sa (N+1) (jn t cs id act).1:=λc hc=>by
 unfold jn at hc;cases e:jP cs id with
 |none=>grind[Sa]
 |some x=>
  rw[e] at hc;by_cases h0:(i' t x.st act).2=0
  .simp only[Uh h0] at hc;rcases pY hc with⟨_,hc⟩|⟨rfl,_⟩
   .grind[Sa]
   grind[oA,Sa]
  grind[Sa]
theorem O5{id:Ub}{N:Nat}(h:Sa N cs)(hid:id.size<=140737488355328):Sa (N+1) (kv t cs id).1:=by grind[kT,kv,jP,kM,Sa]
theorem IA(t:Tb)(cs:List Cs)(id act:Ub):(jn t cs id act).1.map (·.id)=cs.map (·.id):=by
 grind[rO,jn]
theorem KF{id act:Ub}{k:Nat}(h:lU (jn t cs id act).1 mb pb k):lU cs mb pb k:=by
 rcases h with h|⟨c,hc,h⟩
 .exact Rg h
 have:=IA t cs id act▸List.mem_map.2 ⟨c,hc,rfl⟩
 grind[lU]
def og{w:Uc}{J:TX}{ac n:Nat}{L:TZ}(hn:n=L.length)(U:w.ownsRow b1 9 1 (xa J n ac) n (gU L))(h2:w.ownsRow b2 9 1 (xa bo n bc) n (gU L))(h8:n<=8):
  Calls prog 61 #[xa J n ac,xa bo n bc] w λe w'=>e=xm (xn true)/\XL w w':=by
 subst hn;refine(ui (xT U) (xT h2) zo zo).mono ?_;rintro e w' ⟨he,hb⟩;refine⟨?_,hb⟩;obtain⟨b,he,I⟩:=he;rw[he,I.2 rfl]
theorem SH.nil{id:Ub}{w w':Uc}(h:SH t cs id w w' e)(hc:jP cs id=none):XL w w'/\e=xm (.tuple #[TV,xd xh 8]):=by
 grind[SH]
theorem SH.some{id:Ub}{w w':Uc}{c:Cs}{n:Nat}(h:SH t cs id w w' e)(hc:jP cs id=some c)(hn:(pj t c.st).length=n):XL w w'/\∃o k,e=xm (.tuple #[xa o n k,xd xh 0])/\w'.ownsRow w.heap.size 9 1 (xa o n k) n (gU (pj t c.st)):=by
 grind[SH]
theorem Lm{s:Nat}:(pj t s).length<=t.acts.length:=by grind[pj]
open Go.ChangeShapes Go.WideShapes Go.ChangeAt
theorem Qu{H:Type}(d:DataW H):1<=Rows.uptoBulk d:=by
 cases d with
 |lit l=>cases l<;>simp[Rows.uptoBulk]
 |nil=>simp[Rows.uptoBulk]
 |ptr d=>simp[Rows.uptoBulk]
 |slice elems spare=>simp[Rows.uptoBulk]
 |agg parts=>simp[Rows.uptoBulk]
 |iface t d=>simp[Rows.uptoBulk]
 |map entries=>simp[Rows.uptoBulk]
 |held h=>simp[Rows.uptoBulk]
theorem O0{H:Type}(l:List (DataW H)):l.length<=Rows.uptoBulkAll l:=by
 induction l with
 |nil=>simp[Rows.uptoBulkAll]
 |cons x r ih=>grind[Qu,Rows.uptoBulkAll]
theorem Kp{H:Type}{l:List (DataW H)}{d:DataW H}(h:d∈l):Rows.uptoBulk d<=Rows.uptoBulkAll l:=by
 induction l with
 |nil=>grind
 |cons x r ih=>
  grind[Rows.uptoBulkAll]
theorem Qt{H:Type}(l:List (DataW H))(d:DataW H):Rows.uptoBulkAll (l++[d])=Rows.uptoBulkAll l+Rows.uptoBulk d:=by
 induction l with
 |nil=>simp[Rows.uptoBulkAll]
 |cons x r ih=>grind[Rows.uptoBulkAll]
theorem O1{H:Type}(D:Nat->DataW H)(i:Nat):Rows.uptoBulkAll ((RD (i+1)).map D)=Rows.uptoBulkAll ((RD i).map D)+Rows.uptoBulk (D i):=by
 rw[Xg,U1,List.map_singleton,Qt]
theorem Qv{H:Type}(D:Nat->DataW H){i n:Nat}(h:i<=n):Rows.uptoBulkAll ((RD i).map D)<=Rows.uptoBulkAll ((RD n).map D):=by
 induction n with
 |zero=>
  grind
 |succ n ih=>
  grind[O1]
def O3:prog.cellsOf 3=1:=zk
def O4:prog.cellsOf 33=1:=zk
section
variable{H:Type}{enc:TypeId × Ud->H}
theorem tA{mk:α->Ud}{E:α->Prop}{w:Uc}{cs:TW}{x:DataW H × List MemPlace}{t e:TypeId}(ht:prog.underlying t=some (.slice e))(hc:prog.cellsOf e=1)
  (ae:∀(n:Nat)(c:Ud)(y:DataW H × List MemPlace),DataW.trod enc prog w 0 (λ_=>true) true n e [c]=some y->Rows.uptoBulk y.1<=1048576->∃z,c=mk z/\E z)
  (h:DataW.trod enc prog w 0 (λ_=>true) true fuel t cs=some x)(hw:Rows.uptoBulk x.1<=1048576):
  cs=[TV]\/∃(ad:Addr)(n c:Nat)(l:List α),cs=[xa (some ad) n c]/\n<=c/\n=l.length/\n<=Rows.uptoBulk x.1/\∀j z,l[j]?=some z->E z/\∃b off,ad=⟨b,off,none⟩/\b<w.heap.size/\w.cell? (TU b (off+j))=some (mk z):=by
 rcases open_slice1 ht hc h with⟨hcs,hx⟩|⟨a,len,cap,m,n,V,D,Pl,hcs,_,hl,hm,hmm,hx,hall⟩
 .exact Rg hcs
 simp only[VF] at hmm;subst hmm;rw[hx] at hw;simp only[Rows.uptoBulk] at hw;have hz:∀i:Fin len,∃z,V i=mk z/\E z:=λi=>ae n _ _ (hall i zo).2 (by
  refine UP (Kp (List.mem_map.2 ⟨i.1,List.mem_range.2 i.2,rfl⟩)) (?_:_<=1048576);omega)
 refine Rc ⟨a,len,m,List.ofFn λi=>Classical.choose (hz i),hcs,hl,zp,?_,λj z hj=>?_⟩
 .have h1:=O0 ((RD len).map D)
  grind[Rows.uptoBulk]
 have aa:j<len:=by grind
 rw[List.getElem?_ofFn,dif_pos aa] at hj;have J:=WA (hz ⟨j,aa⟩);rw[Ue hj] at J;have I:=(hall j zo).1;obtain⟨b,off,spot⟩:=a;have U:spot=none:=by simpa [Addr.add] using World.cell?_spot (hall 0 zo).1
 subst U;rw[Vm] at I;exact⟨J.2,b,off,rfl,block_lt_of_cell I,I.trans (congrArg some J.1)⟩
theorem Es{w:Uc}{cs:TW}{x:DataW H × List MemPlace}(h:DataW.trod enc prog w 0 (λ_=>true) true fuel 25 cs=some x)(hw:Rows.uptoBulk x.1<=1048576):∃o n c tr,cs=[xa o n c]/\SY w o n c tr/\n<=c:=by
 rcases tA (mk:=xj) (E:=λ_=>True) underlying25 qY (λn c y I _=>by obtain⟨s,e,_⟩:=Vr underlying9 I;grind) h hw with e|⟨ad,n,c,l,e,h1,h2,h3,h4⟩
 .exact⟨none,0,0,[],e,Rg ⟨rfl,rfl,rfl,rfl⟩,XH⟩
 exact⟨some ad,n,c,l,e,Rc ⟨ad,rfl,h2,λj z hj=>by grind,zo⟩,h1⟩
theorem yw{w:Uc}{cs:TW}{x:DataW H × List MemPlace}(h:DataW.trod enc prog w 0 (λ_=>true) true fuel 33 cs=some x)(hw:Rows.uptoBulk x.1<=1048576):∃o n c tr,cs=[xa o n c]/\LsI w o n c tr:=by
 rcases tA (mk:=xd xh) (E:=λ_=>True) underlying33 O3 (λn c y I _=>by obtain⟨s,e,_⟩:=VG underlying3 I;grind) h hw with e|⟨ad,n,c,l,e,h1,h2,h3,h4⟩
 .exact⟨none,0,0,[],e,Rg ⟨rfl,rfl,rfl,rfl⟩⟩
 exact⟨some ad,n,c,l,e,Rc ⟨ad,rfl,h2,λj z hj=>by grind,zo⟩⟩
theorem GR{w:Uc}{cs:TW}{x:DataW H × List MemPlace}(h:DataW.trod enc prog w 0 (λ_=>true) true fuel 34 cs=some x)(hw:Rows.uptoBulk x.1<=1048576):∃o n c rs,cs=[xa o n c]/\LsR w o n c rs/\n<=Rows.uptoBulk x.1:=by
 rcases tA (α:=(TX × Nat × Nat) × T8) (mk:=λz=>xa z.1.1 z.1.2.1 z.1.2.2) (E:=λz=>LsI w z.1.1 z.1.2.1 z.1.2.2 z.2) underlying34 O4 (λn c y U I=>by obtain⟨o,k,d,tr,e,J⟩:=yw U I;exact⟨((o,k,d),tr),by simpa using e,J⟩) h hw with e|⟨ad,n,c,l,e,h1,h2,h3,h4⟩
 .exact⟨none,0,0,[],e,Rg ⟨rfl,rfl,rfl,rfl⟩,Ux⟩
 obtain⟨b,off,sp⟩:=ad;refine⟨_,n,c,l.map (·.2),e,Rc ⟨b,off,sp,rfl,by simpa using h2,zs,λj r hr=>?_⟩,h3⟩
 grind
end
def LC(l:TZ):∃m,pF m/\m.Perm l:=by
 refine⟨_,yU (l.map λb=>b.data.toList),?_⟩;have h:=(List.mergeSort_perm (l.map λb=>b.data.toList) leB).map kB;have e:(l.map λb=>b.data.toList).map kB=l:=by
  rw[Vp];exact(Vd λb _=>zK b).trans (VW l)
 rw[e] at h;exact h
theorem Tq.one{w w':Uc}(h:Tq cs w w' e){L:TZ}{n:Nat}(I:pF L)(J:L.Perm (cs.map (·.id)))(hn:n=L.length):∃o k,e=xm (xa o n k)/\w'.ownsRow w.heap.size 9 1 (xa o n k) n (gU L)/\XL w w':=by
 obtain⟨l,o,k,he,hr,U,ho,hb⟩:=h;have e:=N9 hr I (U.trans J.symm)
 grind
def Kw(ds:List Dd)(hj:j<ds.length):ds=ds.take j++ds[j]::ds.drop (j+1):=by
 rw[List.getElem_cons_drop,Vn]
theorem N0{w:Uc}{l r:List Dd}(h:w.ownsRow B 112 2 (xa dO dn dc) dn (qd (l++d::r))):
  ∃g,dO=some ⟨g,0,none⟩/\g<w.heap.size/\w.cell? (TU g (l.length*2))=some (xk (TT d.db))/\w.cell? (TU g (l.length*2+1))=some (xk (TT d.rd)):=by
 have I:=h.1;rw[zM,Ur,UM] at I;obtain⟨_,⟨h1,h2⟩|⟨g,cap,cur,hv,_,hrow,hle,_,hcs,htake⟩⟩:=h
 .omega
 grind[EQ,Pv]
theorem prm{l m:List Th}(h:∀f:Th->Nat,(l.map f).sum=(m.map f).sum):l.Perm m:=by
 classical
 refine List.perm_iff_count.2 λa=>?_
 have c:∀l:List Th,List.count a l=(l.map λx=>if x=a then 1 else 0).sum:=λl=>by
  induction l with
  |nil=>rfl
  |cons x r ih=>grind
 rw[c,c];exact h _
structure LH(lb:Nat)(w0 w:Uc)(Y:List Th):Prop where
 th:RK lb w Y
 bel:Below lb w0 w
 lo:lb=w0.heap.size
section
variable{lb:Nat}{w0 w w':Uc}{Y Z:List Th}{x y:Th}
def LH.hB(h:LH lb w0 w Y):lb<=w.heap.size:=by have:=h.bel.size;have:=h.lo;omega
def LH.bL(h:LH lb w0 w Y):XL w0 w:=by have:=h.bel;rw[h.lo] at this;exact this
def LH.later(h:LH lb w0 w Y)(I:XL w w'):LH lb w0 w' Y:=⟨h.th.later I,h.bel.trans (I.mono h.hB),h.lo⟩
def LH.perm(h:LH lb w0 w Y)(I:Y.Perm Z):LH lb w0 w Z:=⟨h.th.perm I,h.bel,h.lo⟩
def LH.sub(h:LH lb w0 w Y)(hs:Z.Sublist Y):LH lb w0 w Z:=⟨h.th.sub hs,h.bel,h.lo⟩
def LH.tail(h:LH lb w0 w (x::Y)):LH lb w0 w Y:=h.sub (Vc ..)
def LH.at(h:LH lb w0 w Y)(I:x∈Y):R1 w x:=h.th.ok x I
def LH.far(h:LH lb w0 w (x::Y))(I:y∈Y):∀k,x.S k->¬ y.S k:=(List.pairwise_cons.1 h.th.ap).1 y I
def LH.turn{old new rest:List Th}(h:LH lb w0 w (old++rest))(hf:R0 (λk=>∃x∈old,x.S k) w w')(hn:∀x∈new,R1 w' x)(I:new.Pairwise λx y=>∀k,x.S k->¬ y.S k)(hs:∀x∈new,∀k,x.S k->(∃y∈old,y.S k)\/w.heap.size<=k):LH lb w0 w' (new++rest):=
 ⟨h.th.turn hf hn I hs h.hB,h.bel.trans (h.th.bel hf h.hB),h.lo⟩
theorem LH.turn1(h:LH lb w0 w (x::Y))(hf:R0 x.S w w')(hn:R1 w' y)(hs:∀k,y.S k->x.S k\/w.heap.size<=k):LH lb w0 w' (y::Y):=
 LH.turn (old:=[x]) (new:=[y]) h ⟨hf.os,hf.tape,hf.output,hf.size,λk I hn=>hf.block k I (λe=>hn ⟨x,List.mem_singleton.2 rfl,e⟩)⟩ (λz J=>by grind) (VK)
  (λz J k I=>by grind)
def LH.holds(h:LH lb w0 w Y)(J:XL w w')(I:RK w.heap.size w' Z):LH lb w0 w' (Z++Y):=
 LH.turn (old:=[]) h (R0.below J) I.ok I.ap (λx hx k U=>Rc (I.lo x hx k U))
theorem LH.hold(h:LH lb w0 w Y)(I:XL w w')(hy:R1 w' y)(hn:∀k,y.S k->w.heap.size<=k):LH lb w0 w' (y::Y):=
 h.holds (Z:=[y]) I ⟨λz J=>by grind,VK,λz J k hk=>by grind⟩
def LH.boxed(h:LH lb w0 w Y)(ty:Nat)(c:T1):LH lb w0 (w.alloc (xi c ty)) (iF w.heap.size ty c::Y):=h.hold gC (oV (gi _ _)) (λk I=>Vx I.symm)
def LH.bx{b ty:Nat}{c:T1}(h:LH lb w0 w Y)(I:iF b ty c∈Y):(∀o,w.cell? (TU b o)=c[o]?)/\b<w.heap.size:=⟨EQ (h.at I).p,dK (h.at I).p⟩
end
structure Sl where
 o:TX
 n:Nat
 c:Nat
 x:TW
def Sl.v(s:Sl):Ud:=xa s.o s.n s.c
structure La where
 M:Nat
 f:Nat->Sl
variable{a1:La}
def La.up(a:La)(M i:Nat)(s:Sl):La:=⟨M,λj=>if j=i then s else a.f j⟩
def eT:Nat->Nat
 |0=>112
 |2=>118
 |3=>123
 |4=>120
 |5=>25
 |6=>25
 |_=>36
def eZ:Nat->Nat
 |0=>2
 |5=>1
 |6=>1
 |7=>3
 |8=>3
 |_=>5
def BG{i:Nat}:71≠eT i:=by unfold eT;split<;>decide
def La.lw(a:La)(lb:Nat)(w:Uc):Prop:=xZ w lb (a.f 0).v a.M (a.f 2).v (a.f 3).v (a.f 4).v (a.f 5).v (a.f 6).v (a.f 7).v (a.f 8).v
structure La.P(lb:Nat)(a:La)(w:Uc):Prop where
 lw:a.lw lb w
 own:∀i,w.ownsRow 0 (eT i) (eZ i) (a.f i).v (a.f i).n (a.f i).x
 ne:∀i j k,i≠j->(a.f i).v.ownBlock=some k->(a.f j).v.ownBlock≠some k
def La.S(lb:Nat)(a:La)(k:Nat):Prop:=k=lb\/∃i,(a.f i).v.ownBlock=some k
def La.T(lb:Nat)(a:La):Th:=⟨a.S lb,a.P lb⟩
section
variable{lb:Nat}{w0 w w':Uc}{a:La}{Y:List Th}{y z:Th}{v:Ud}{M i:Nat}{s:Sl}
theorem La.ok(h:a.P lb w):R1 w (a.T lb):=
 ⟨h,λk I=>I.elim (λe=>e▸dK h.lw) (λ⟨i,e⟩=>(gJ (h.own i) k e).2),λw' hs I=>⟨(I _ (Rg rfl)).trans h.lw,λi=>jZ (h.own i) (λk e=>I k (Rc ⟨i,e⟩)),h.ne⟩⟩
def La.turn(h:a.P lb w)(hl:(a.up M i s).lw lb w')(ho:w'.ownsRow 0 (eT i) (eZ i) s.v s.n s.x)(hk:∀k,a.S lb k->k≠lb->(a.f i).v.ownBlock≠some k->w'.heap[k]?=w.heap[k]?)(hs:∀k,s.v.ownBlock=some k->(a.f i).v.ownBlock=some k\/w.heap.size<=k):
  (a.up M i s).P lb w'/\∀k,(a.up M i s).S lb k->a.S lb k\/w.heap.size<=k:=by
 have e1:(a.up M i s).f i=s:=Uh rfl;have e2:∀j,j≠i->(a.up M i s).f j=a.f j:=λj hj=>T' hj
 refine⟨⟨hl,λj=>?_,λj l k U J I=>?_⟩,λk hk=>?_⟩
 .by_cases e:j=i
  .subst e;rw[e1];exact ho
  rw[e2 j e];exact jZ (h.own j) (λk aa=>hk k (Rc ⟨j,aa⟩) (λe=>gz (h.own j) (e▸aa) h.lw (BG)) (h.ne j i k e aa))
 .by_cases e:j=i
  .subst e;rw[e1] at J;rw[e2 l (λe=>U e.symm)] at I;rcases hs k J with J|J
   .exact h.ne j l k U J I
   have:=(gJ (h.own l) k I).2;omega
  rw[e2 j e] at J;by_cases e':l=i
  .subst e';rw[e1] at I;rcases hs k I with I|I
   .exact h.ne j l k U J I
   have:=(gJ (h.own j) k J).2;omega
  rw[e2 l e'] at I;exact h.ne j l k U J I
 rcases hk with e|⟨j,e⟩
 .exact Rg (Rg e)
 by_cases e':j=i
 .subst e';rw[e1] at e;exact(hs k e).imp (λe=>Rc ⟨j,e⟩) id
 rw[e2 j e'] at e;exact Rg (Rc ⟨j,e⟩)
def LH.put{g n c:Nat}{x:TW}(i:Nat)(h:LH lb w0 w (a.T lb::Y))(U:XL w W)(ho:w3.ownsRow 0 (eT i) (eZ i) (xa (TT g) n c) n x)(hg:W.grownBy w3 (a.f i).v.ownBlock)(ag:(a.f i).v.ownBlock=some g\/W.heap.size<=g)(hi:i∈[0,5,6,7,8]:=by decide):
  LH lb w0 (w3.setCell (TU lb i) (xa (TT g) n c)) ((a.up a.M i ⟨TT g,n,c,x⟩).T lb::Y)/\a.lw lb w3/\∀k,k<w.heap.size->¬ a.S lb k->w3.heap[k]?=w.heap[k]? :=by
 have hL:=(h.at (Um ..)).p;have ai:=dK hL.lw;have h3:∀k,k<w.heap.size->(a.f i).v.ownBlock≠some k->w3.heap[k]?=w.heap[k]? :=λk I e=>(hg.block k (Uw I U.size) (λJ=>e J.symm)).trans (U.block k I)
 have h4:∀k,k<w.heap.size->k≠lb->(a.f i).v.ownBlock≠some k->(w3.setCell (TU lb i) (xa (TT g) n c)).heap[k]?=w.heap[k]? :=λk I e J=>(XE e).trans (h3 k I J)
 have aa:=(h3 lb ai (λe=>gz (hL.own i) e hL.lw (BG))).trans hL.lw;have hl:(a.up a.M i ⟨TT g,n,c,x⟩).lw lb (w3.setCell (TU lb i) (xa (TT g) n c)):=by
  simp at hi;rcases hi with rfl|rfl|rfl|rfl|rfl<;>exact gj aa _ _
 obtain⟨p1,p2⟩:=La.turn (M:=a.M) (s:=⟨TT g,n,c,x⟩) hL hl (gy ho (gp _ _ _ _) (Or.inr (λe=>gz ho e aa (BG)))) (λk I=>h4 k ((La.ok hL).lt k I)) (λk e=>ag.imp (λJ=>(Ue (show some g=some k from e))▸J) (λJ=>(Ue (show some g=some k from e))▸UP U.size J));exact⟨h.turn1 ⟨hg.os.trans U.os,hg.tape.trans U.tape,hg.output.trans U.output,by have:=U.size;have:=hg.size;simp[World.setCell] at *;omega,λk I hn=>h4 k I (λe=>hn (Or.inl e)) (λe=>hn (Or.inr ⟨i,e⟩))⟩ (La.ok p1) p2,aa,λk I hn=>h3 k I (λe=>hn (Or.inr ⟨i,e⟩))⟩
theorem LH.mark(h:LH lb w0 w (a.T lb::y::Y))(hy:∀k,v.ownBlock=some k->y.S k)(hl:(a.up M i s).lw lb w')(ho:w'.ownsRow 0 (eT i) (eZ i) s.v s.n s.x)(hf:Ad lb v (a.f i).v w w')(hs:∀k,s.v.ownBlock=some k->(a.f i).v.ownBlock=some k\/w.heap.size<=k)
  (hz:R1 w' z)(ai:∀k,z.S k->v.ownBlock=some k\/(w.heap.size<=k/\∃ty,Q2 w' k ty/\ty≠eT i)):LH lb w0 w' ((a.up M i s).T lb::z::Y):=by
 have U:=(h.at (Um ..)).p;have ad:=(La.ok U).lt;have ag:=(h.at (Ul (Um ..))).lt;have hd:=h.far (Um ..);obtain⟨p1,p2⟩:=La.turn U hl ho (λk J e e'=>hf.block k (ad k J) e (λe=>hd k J (hy k e)) e') hs;have hsz:=dK U.lw;refine LH.turn (old:=[a.T lb,y]) (new:=[(a.up M i s).T lb,z]) h ⟨hf.os,hf.tape,hf.output,hf.size,λk J hn=>hf.block k J (λe=>hn ⟨_,Um ..,Rg e⟩) (λe=>hn ⟨y,Ul (Um ..),hy k e⟩) (λe=>hn ⟨_,Um ..,Rc ⟨i,e⟩⟩)⟩ (λx hx=>?_) (List.pairwise_pair.2 λk I h2=>?_) (λx hx k J=>?_)
 .grind[La.ok]
 .rcases ai k h2 with e|⟨hge,ty,⟨_,_,ht⟩,hne⟩
  .rcases p2 k I with I|I
   .exact hd k I (hy k e)
   have:=ag k (hy k e);omega
  rcases I with I|⟨j,I⟩
  .omega
  by_cases e:j=i
  .subst e;have e1:(a.up M j s).f j=s:=Uh rfl
   grind[gz]
  have e2:(a.up M i s).f j=a.f j:=T' e;rw[e2] at I;have:=(gJ (U.own j) k I).2;omega
 rcases List.mem_cons.1 hx with rfl|hx
 .exact(p2 k J).imp (λe=>⟨_,Um ..,e⟩) id
 grind
end
structure EV(w:Uc):Prop where
 gv:SS w
 tab:Lib.TabIs prog w "internal/strconv.uint64pow10" .u64 Lib.pow10Tab
structure Up(a a':La)(bs:List Bk)(js:List Ik)(rs:List Rk):Prop where
 f:∀i,i≠2->i≠3->i≠4->a'.f i=a.f i
 b:(a'.f 2).x=(a.f 2).x++sv bs
 j:(a'.f 3).x=(a.f 3).x++js.flatMap IQ
 r:(a'.f 4).x=(a.f 4).x++rs.flatMap Ju
 M:a'.M=a.M+bs.length+js.length+rs.length
def Up.refl(a:La):Up a a [] [] []:=⟨λ_ _ _ _=>rfl,(Vo _).symm,(Vo _).symm,(Vo _).symm,rfl⟩
theorem Up.trans{a a' c:La}{bs I:List Bk}{js U:List Ik}{rs aa:List Rk}(h:Up a a' bs js rs)(J:Up a' c I U aa):Up a c (bs++I) (js++U) (rs++aa):=
 ⟨λi h1 h2 h3=>(J.f i h1 h2 h3).trans (h.f i h1 h2 h3),by rw[J.b,h.b,sv,sv,sv,Rj,UI],by rw[J.j,h.j,Rj,UI],by rw[J.r,h.r,Rj,UI],by have:=h.M;have:=J.M;grind⟩
def Sm(a:La)(N:Nat):Prop:=a.M<=N/\(a.f 2).x.length<=5*a.M/\(a.f 3).x.length<=5*a.M/\(a.f 4).x.length<=5*a.M
def Ca(l:List Bk):(sv l).length=l.length*5:=by
 unfold sv
 induction l with
 |nil=>rfl
 |cons d r ih=>rw[VB,Ur,ih];show 5+_=_;rw[UM];omega
def Up.sm{a a':La}{bs:List Bk}{js:List Ik}{rs:List Rk}{N N':Nat}(h:Up a a' bs js rs)(hs:Sm a N)(hn:N+bs.length+js.length+rs.length<=N'):Sm a' N':=by
 obtain⟨h1,h2,h3,h4⟩:=hs;have:=h.M;refine⟨zo,?_,?_,?_⟩
 .rw[h.b,Ur,Ca];omega
 .rw[h.j,Ur,zF];omega
 rw[h.r,Ur,zR];omega
theorem OZ{w w':Uc}{l I J U v:Ud}{e:Nat}(k1:mi w l I)(k2:mi w l J)(k3:mi w l U)(h1:Q1 w' I v e)(h2:Q1 w' J v e)(h3:Q1 w' U v e):∀k,Mt l I J U k->l.ownBlock=some k\/(w.heap.size<=k/\Q2 w' k e):=by
 obtain⟨g1,m1,c1,rfl,k1⟩:=k1;obtain⟨g2,m2,c2,rfl,k2⟩:=k2;obtain⟨g3,m3,c3,rfl,k3⟩:=k3;rintro k (e|e|e|e)
 .exact Rg e
 .cases e;grind[B4]
 .cases e;grind[B4]
 cases e;grind[B4]
def Gw{w:Uc}{v:Ud}{n c:Nat}(h:mi w v (xa o n c)):∀k,(xa o n c).ownBlock=some k->v.ownBlock=some k\/w.heap.size<=k:=by
 obtain⟨g,m,c',e,h⟩:=h;rw[e];intro k I;cases I;exact h
section
variable{lb n lc:Nat}{w0 w:Uc}{a:La}{Y:List Th}{y:Th}{lo:TX}{xs:TW}
def LH.law(h:LH lb w0 w (a.T lb::Y)):a.P lb w:=(h.at (Um ..)).p
def LH.tab(h:LH lb w0 w Y)(I:EV w0):Lib.TabIs prog w "internal/strconv.uint64pow10" .u64 Lib.pow10Tab:=JH I.tab h.bL
def LH.lbg(h:LH lb w0 w Y)(I:EV w0):lb≠4:=λe=>by have:=JI I.tab;have:=h.lo;omega
def LH.gv(h:LH lb w0 w Y)(I:EV w0):SS w:=I.gv.later h.bL
def LH.yl(h:LH lb w0 w (a.T lb::y::Y)):∀k,y.S k->k<w.heap.size:=(h.at (Ul (Um ..))).lt
def Qo{v:Ud}{w':Uc}(h:LH lb w0 w (a.T lb::y::Y))(hy:∀k,v.ownBlock=some k->y.S k)(hp:ya w lb (a.f 0).v a.M (a.f 2).o (a.f 2).n (a.f 2).c (a.f 3).v (a.f 4).v (a.f 5).v (a.f 6).v (a.f 7).v (a.f 8).v (a.f 2).x 0 v w' e):
  e=xm (.tuple #[])/\∃a' b,b.l=v/\Up a a' [b] [] []/\LH lb w0 w' (a'.T lb::kS b::Y):=by
 obtain⟨rfl,U,J,G1,G2,G3,h1,h2,h3,h4,h5,h6,k1,k2,k3,k8,hf⟩:=hp;have hb:=OZ k1 k2 k3 h4 h5 h6;exact⟨rfl,a.up (a.M+1) 2 ⟨U,(a.f 2).n+1,J,(a.f 2).x++[xj (uO (a.M+1)),v,G1,G2,G3]⟩,⟨uO (a.M+1),v,G1,G2,G3⟩,rfl,⟨λi e _ _=>T' e,rfl,(Vo _).symm,(Vo _).symm,rfl⟩,
  h.mark hy h1 h2 hf (Gw k8) (PX ⟨h3,h4,h5,h6⟩ (λk I=>(hb k I).elim (λe=>Uw (h.yl k (hy k e)) hf.size) (λ⟨_,_,_,e⟩=>dK e))) (λk I=>(hb k I).imp id (λe=>⟨e.1,_,e.2,zd⟩))⟩
def Qn{v:Ud}{w':Uc}(h:LH lb w0 w (a.T lb::y::Y))(hy:∀k,v.ownBlock=some k->y.S k)(hp:vG w lb (a.f 0).v a.M (a.f 3).o (a.f 3).n (a.f 3).c (a.f 2).v (a.f 4).v (a.f 5).v (a.f 6).v (a.f 7).v (a.f 8).v (a.f 3).x 0 v w' e):
  e=xm (.tuple #[])/\∃a' b,b.l=v/\Up a a' [] [b] []/\LH lb w0 w' (a'.T lb::lZ b::Y):=by
 obtain⟨rfl,U,J,G1,G2,G3,h1,h2,h3,h4,h5,h6,k1,k2,k3,k8,hf⟩:=hp;have hb:=OZ k1 k2 k3 h4 h5 h6;exact⟨rfl,a.up (a.M+1) 3 ⟨U,(a.f 3).n+1,J,(a.f 3).x++[xd xh (-((a.M:Int)+1)),v,G1,G2,G3]⟩,⟨-((a.M:Int)+1),v,G1,G2,G3⟩,rfl,⟨λi _ e _=>T' e,(Vo _).symm,rfl,(Vo _).symm,rfl⟩,
  h.mark hy h1 h2 hf (Gw k8) (P3 ⟨h3,h4,h5,h6⟩ (λk I=>(hb k I).elim (λe=>Uw (h.yl k (hy k e)) hf.size) (λ⟨_,_,_,e⟩=>dK e))) (λk I=>(hb k I).imp id (λe=>⟨e.1,_,e.2,zd⟩))⟩
def MJ(h:LH lb w0 w (a.T lb::y::Y))(J:EV w0)(U:Sm a 1000000000)(hr:w.ownsRow 0 9 1 (xa lo n lc) n xs)(hy:∀k,(xa lo n lc).ownBlock=some k->y.S k)(hn:n<=2000000):
  Calls prog 63 #[xk (TT lb),xa lo n lc] w λe w'=>e=xm (.tuple #[])/\∃a' b,b.l=xa lo n lc/\Up a a' [b] [] []/\LH lb w0 w' (a'.T lb::kS b::Y):=by
 have I:=h.law;have h5:(a.f 2).x.length=(a.f 2).n*5:=(I.own 2).1;obtain⟨s1,s2,_⟩:=U;exact(tZ I.lw (I.own 2) (Ux) hr (Ux) zo zo zo (h.tab J) (h.lbg J)).mono λe w' hp=>Qo h hy hp
def MH(h:LH lb w0 w (a.T lb::y::Y))(J:Sm a 1000000000)(hr:w.ownsRow 0 3 1 (xa lo n lc) n xs)(hy:∀k,(xa lo n lc).ownBlock=some k->y.S k)(hn:n<=2000000):
  Calls prog 64 #[xk (TT lb),xa lo n lc] w λe w'=>e=xm (.tuple #[])/\∃a' b,b.l=xa lo n lc/\Up a a' [] [b] []/\LH lb w0 w' (a'.T lb::lZ b::Y):=by
 have I:=h.law;have h5:(a.f 3).x.length=(a.f 3).n*5:=(I.own 3).1;obtain⟨s1,_,s2,_⟩:=J;exact(uN I.lw (I.own 3) (Ux) hr (Ux) zo zo zo).mono λe w' U=>Qn h hy U
def MI(h:LH lb w0 w (a.T lb::y::Y))(hS:Sm a 1000000000)(hr:w.ownsRow 0 33 1 (xa lo n lc) n xs)(hy:∀k,(xa lo n lc).ownBlock=some k->y.S k)(hn:n<=2000000):
  Calls prog 65 #[xk (TT lb),xa lo n lc] w λe w'=>e=xm (.tuple #[])/\∃a' b,b.l=xa lo n lc/\Up a a' [] [] [b]/\LH lb w0 w' (a'.T lb::nX b::Y):=by
 have J:=h.law;have h5:(a.f 4).x.length=(a.f 4).n*5:=(J.own 4).1;obtain⟨s1,_,_,s2⟩:=hS;refine(C3 w 0 0 n J.lw (J.own 4) (Ux) hr (Ux) zo zo zo).mono ?_;rintro e w' ⟨rfl,ao,an,G1,G2,G3,mb,hmb,h1,h2,h3,h4,h5,h6,k1,k2,k3,k8,hf⟩;have hb:=OZ k1 k2 k3 h4 h5 h6;have hll:=dK J.lw;have hsz:((w.setCell (TU lb 1) (xd xh ((a.M:Int)+1))).alloc (xi #[xd xh (-((a.M:Int)+1))] 3)).heap.size=w.heap.size+1:=by simp[Rs]
 have aa:mb=w.heap.size:=zo;subst aa;have U:Ad lb (xa lo n lc) (a.f 4).v w w':=⟨hf.os,hf.tape,hf.output,by have:=hf.size;omega,λk I e1 e2 e3=>(hf.block k zo e1 e2 e3).trans ((XD (by simpa [Rs] using I)).trans (XE e1))⟩;have ad:w'.heap[w.heap.size]?=some (xi #[xd xh (-((a.M:Int)+1))] 3 (0,0)):=(hf.block _ zo zo (λe=>by have:=h.yl _ (hy _ e);omega) (λe=>by have:=(gJ (J.own 4) _ e).2;omega)).trans (gu (by simp[Rs]));have hz:∀k,(nX ⟨-((a.M:Int)+1),w.heap.size,xa lo n lc,G1,G2,G3⟩).S k->(xa lo n lc).ownBlock=some k\/(w.heap.size<=k/\∃ty,Q2 w' k ty/\ty≠eT 4):=λk I=>by
  rcases I with rfl|I
  .exact Rc ⟨XH,_,⟨_,_,ad⟩,zd⟩
  exact(hb k I).imp id (λe=>⟨by have:=e.1;omega,_,e.2,zd⟩)
 exact⟨rfl,a.up (a.M+1) 4 ⟨ao,(a.f 4).n+1,an,(a.f 4).x++[xd xh (-((a.M:Int)+1)),xa lo n lc,G1,G2,G3]⟩,⟨-((a.M:Int)+1),w.heap.size,xa lo n lc,G1,G2,G3⟩,rfl,⟨λi _ _ e=>T' e,(Vo _).symm,(Vo _).symm,rfl,rfl⟩,
  h.mark hy h1 h2 U (λk e=>(Gw k8 k e).imp id (λe=>zo)) (P' ⟨ad,h3,h4,h5,h6⟩ (λk I=>(hz k I).elim (λe=>Uw (h.yl k (hy k e)) U.size) (λ⟨_,_,⟨_,_,e⟩,_⟩=>dK e))) hz⟩
def J4{c:Nat}(h:LH lb w0 w (a.T lb::nW o (xa q n m) tr::Y))(J:EV w0)(hS:Sm a 1000000000)(U:SY w o n c tr):
  Calls prog 96 #[xk (TT lb),xa q n m,xa o n c] w λe w'=>e=xm (xn true)/\∃a' bs,Up a a' bs [] []/\bs.length<=1/\OI bs q n m/\LH lb w0 w' (a'.T lb::(bs.map kS++Y)):=by
 have I:=h.law;have h5:(a.f 2).x.length=(a.f 2).n*5:=(I.own 2).1;obtain⟨s1,s2,_⟩:=hS;rcases (h.at (Ul (Um ..))).p with⟨rfl,hv,rfl⟩|⟨ad,g,rfl,hv,hB⟩
 .rcases U with⟨_,rfl,rfl,_⟩|⟨ad,hd,_⟩
  .cases hv;refine(z6 w).mono ?_;exact zm119
  cases hd
 rcases U with⟨hd,_⟩|⟨ad',hd,rfl,hTx,hlen⟩
 .cases hd
 cases hd;cases hv;refine(zZ w 0 g c I.lw (I.own 2) (Ux) hB hTx zo zo zo (h.tab J) (h.lbg J)).mono ?_;rintro e w' ⟨rfl,hp⟩;obtain⟨_,a',b,hb,hu,hl⟩:=Qo (v:=xa (TT g) (tr.length+8) (tr.length+8)) h (λk hk=>hk) hp;exact zm155
def J3{c:Nat}{tr:T8}(h:LH lb w0 w (a.T lb::mK o (xa q n m) tr::Y))(U:Sm a 1000000000)(J:LsI w o n c tr):
  Calls prog 184 #[xk (TT lb),xa q n m,xa o n c] w λe w'=>e=xm (xn true)/\∃a' js,Up a a' [] js []/\js.length<=1/\Ty js q n m/\LH lb w0 w' (a'.T lb::(js.map lZ++Y)):=by
 have I:=h.law;have h5:(a.f 3).x.length=(a.f 3).n*5:=(I.own 3).1;obtain⟨s1,_,s2,_⟩:=U;rcases (h.at (Ul (Um ..))).p with⟨rfl,hv,rfl⟩|⟨ad,g,rfl,hv,hB⟩
 .rcases J with⟨_,rfl,rfl,_⟩|⟨ad,hd,_⟩
  .cases hv;refine(BE w).mono ?_;exact zm119
  cases hd
 rcases J with⟨hd,_⟩|⟨ad',hd,rfl,hTx,hlen⟩
 .cases hd
 cases hd;cases hv;refine(BD w 0 g c I.lw (I.own 3) (Ux) hB hTx zo zo zo).mono ?_;rintro e w' ⟨rfl,hp⟩;obtain⟨_,a',b,hb,hu,hl⟩:=Qn (v:=xa (TT g) (tr.length+8) (tr.length+8)) h (λk hk=>hk) hp;exact zm155
end
section
variable{lb:Nat}{w0 w:Uc}{a:La}{X Y Z L:List Th}
def LH.boxed2(h:LH lb w0 w Y)(ty:Nat)(c:T1)(ty':Nat)(c':T1):LH lb w0 ((w.alloc (xi c ty)).alloc (xi c' ty')) (iF (w.heap.size+1) ty' c'::iF w.heap.size ty c::Y):=by
 have:=(h.boxed ty c).boxed ty' c'
 rwa [show(w.alloc (xi c ty)).heap.size=w.heap.size+1 from zp] at this
def LH.all(h:LH lb w0 w L)(I:∀y∈X,y∈L):∀y∈X,y.P w:=λy J=>(h.at (I y J)).p
def LH.bxB{B:List Th}{b ty:Nat}{c:T1}(h:LH lb w0 w L)(I:iF b ty c∈B)(hB:∀y∈B,y∈L:=by intro y J;simp[J]):(∀o,w.cell? (TU b o)=c[o]?)/\b<w.heap.size:=h.bx (hB _ I)
def LH.allB{B:List Th}(h:LH lb w0 w L)(J:∀y∈X,y∈B)(hB:∀y∈B,y∈L:=by intro y I;simp[I]):∀y∈X,y.P w:=λy I=>(h.at (hB y (J y I))).p
def LH.prm{M:List Th}(h:LH lb w0 w L)(I:∀f:Th->Nat,(L.map f).sum=(M.map f).sum:=by intro f;simp only[U1,UZ,Vv,Xc,List.sum_cons,List.sum_nil,UE,Vy,Vt]<;>omega):LH lb w0 w M:=h.perm (Go.Proofs.YtidakhhekofkoaaGreatDoor.prm I)
def Ql(lb:Nat)(w0:Uc)(a:La)(Y:List Th)(qa qf qn:TX)(na nf nn ma mf mn:Nat)(w':Uc)(e:Ending):Prop:=
 e=xm (xn true)/\∃a' bs js rs,Up a a' bs js rs/\bs.length+js.length+rs.length<=nn+3/\OI bs qa na ma/\Ty js qf nf mf/\Qk rs qn nn mn/\LH lb w0 w' (a'.T lb::(bs.map kS++(js.map lZ++(rs.map nX++Y))))
theorem Mr{ao fo no qa qf qn:TX}{na nf nn ac fc nc ma mf mn:Nat}{acts:TZ}{fl:T8}{rows:List (T8)}{vs:Nat->Option Ud}
  (h:LH lb w0 w (a.T lb::nW ao (xa qa na ma) acts::mK fo (xa qf nf mf) fl::(Z++Y)))(hE:EV w0)(hS:Sm a 900000000)(hR:Tn lb X w0 ao fo no na nf nn ac fc nc acts fl rows vs)(hX:∀y∈X,y∈Y)(hZ:ZQ w no qn nn mn nc rows Z):
  Calls prog 144 #[xk (TT lb),.agg #[xa qa na ma,xa qf nf mf,xa qn nn mn],.agg #[xa ao na ac,xa fo nf fc,xa no nn nc]] w λe w'=>Ql lb w0 a Y qa qf qn na nf nn ma mf mn w' e:=by
 have aT:=(hR w h.bel (h.all (λy hy=>by simp[hX y hy]))).2.2.2;obtain⟨B,m1,m0,mY,ba,hA⟩:∃B,iF (w.heap.size+1) 36 #[xa ao na ac,xa fo nf fc,xa no nn nc]∈B/\iF w.heap.size 36 #[xa qa na ma,xa qf nf mf,xa qn nn mn]∈B/\(∀y∈X,y∈B)/\Y.Sublist B/\LH lb w0 ((w.alloc (xi #[xa qa na ma,xa qf nf mf,xa qn nn mn] 36)).alloc (xi #[xa ao na ac,xa fo nf fc,xa no nn nc] 36)) (a.T lb::nW ao (xa qa na ma) acts::mK fo (xa qf nf mf) fl::(Z++B)):=
  ⟨_::_::Y,Um ..,Ul (Um ..),λy hy=>Ul (Ul (hX y hy)),(Vc ..).trans (Vc ..),(h.boxed2 _ _ _ _).prm⟩
 have aO:=fy aT;have HM:=fy (Rf m1 (Rf m0 (Rf mY ba)));have HW:=fy (J4 hA hE (by grind[Sm]) (hR _ hA.bel (hA.all (λy hy=>by simp[mY y hy]))).1);clear h hE hX aT m1 m0 mY ba hA;go_in;go_wp2_with fail;refine HW.out.mono ?_;clear HW;generalize w.heap.size=wz at *;rintro e w1 ⟨rfl,a1,bs,aF,aC,ag,h1⟩;have HW:=J3 (q:=qf) (m:=mf) (Y:=bs.map kS++(Z++B)) h1.prm (aF.sm hS zs) (hR _ h1.bel (h1.allB HM.out.2.2.1)).2.1;obtain⟨c1,l1⟩:=h1.bxB HM.out.1;obtain⟨c0,l0⟩:=h1.bxB HM.out.2.1;have H1:=fy (Rf aF (Rf aC ag));clear h1 aF aC ag;go_wp2_with fail;refine HW.mono ?_;clear HW c0 c1 l0 l1;rintro e w2 ⟨rfl,a2,js,bf,aq,aY,h2⟩;obtain⟨c1,l1⟩:=h2.bxB HM.out.1;obtain⟨c0,l0⟩:=h2.bxB HM.out.2.1;have HU:=fy (H1.out.1.trans bf);rw[Vo,Vy,Vo] at HU;have H2:=h2;have HJ:=fy (Rf aq aY);clear h2 bf aq aY;rcases hZ with⟨rfl,rfl,rfl,rfl,rfl,rfl,rfl⟩|⟨nb,noff,sp,g,xs,hs,cur,rfl,rfl,rfl,rfl,hxs,hhs,hn11⟩
 .have he:=λV:Uc=>zB V
  go_wp2;go_ret;exact⟨rfl,a2,bs,js,[],HU.out,by have:=H1.out.2.1;have:=HJ.out.1;simp;omega,H1.out.2.2,HJ.out.2,Rg ⟨rfl,rfl,rfl⟩,(H2.prm (M:=a2.T lb::(bs.map kS++(js.map lZ++B)))).sub (((UD _).append ((UD _).append HM.out.2.2.2)).cons_cons _)⟩
 have he:=λV:Uc=>Iz V ⟨nb,noff,sp⟩ nn nc
 have aC:=H1.out.2.1;have aq:=HJ.out.1;go_wp2_with fail;clear c0 c1 l0 l1 he
 go_loopw [9,12] (λo x wr=>∃(i:Nat)(a':La)(ar:List Ik),i<=nn/\o=xn true/\x=xd xh i/\Hid (Up a a' bs ar []/\ar.length<=1+i/\Ty ar qf nf mf/\LH lb w0 wr (a'.T lb::iF g 33 cur::((xs.drop i).map qj++(hs.map tV++(ar.map lZ++(bs.map kS++B))))))) (λ_ x _=>nn-(intOf x).toNat)
 .exact⟨0,a2,js,Ux,rfl,rfl,HU.out,zo,HJ.out.2,H2.prm⟩
 clear HU H2 HJ aq;obtain⟨i,a3,J,hi,rfl,rfl,HI⟩:=hrel;obtain⟨hu,hjl,a7,U⟩:=HI.out;have gg:=(U.at (x:=iF g 33 cur) zp).p;obtain⟨c1,l1⟩:=U.bxB HM.out.1;have ak:=U.allB HM.out.2.2.1;have gl:=dK gg;rcases zc i nn with⟨hlt,hin⟩|⟨hlt,hin⟩
 .have aX:i<xs.length:=by rw[hxs.len];exact hlt
  obtain⟨an,ai,ad,bl,aE⟩:=hxs.at_ i xs[i] (Uq aX);have gc:=(EQ gg i).trans an;have aW:=UK aX;rw[aW,UZ] at U;have aD:=(U.at (x:=qj xs[i]) zp).p;obtain⟨x,hx⟩:∃x,x=xs[i]:=⟨_,rfl⟩;rw[<-hx] at an ai aE gc aD U;obtain rfl:sp=none:=hR.sp U.bel ak ai;have aG:=(aO.out nb noff rfl i hlt).symm.trans aE;obtain⟨cr,aV,a8⟩:=hR.row U.bel ak hlt ai aG;obtain⟨q,m,bb,hv,ag,bH⟩:=aD.shape a8;have e:qj x=mK x.o (xa q ad m) x.r:=by unfold qj;rw[hv]
  rw[hv] at gc ag;rw[e] at U;have HT:=U.prm (M:=a3.T lb::mK x.o (xa q ad m) x.r::iF g 33 cur::((xs.drop (i+1)).map qj++(hs.map tV++(J.map lZ++(bs.map kS++B)))));have bC:=fy aG;have bB:=fy ai;have aw:(i:Int)<(nn:Int)+8:=zo;have bu:=fy (an.trans (congrArg some hv));have aQ:=c1 2;generalize x.o=ro at *;generalize x.r=rr at *;clear U aE ai aG aD aW an hv gg hx HI ak c1;go_wp2;go_quiet (fail);go_wp2_with fail;refine R' (S:=λw'=>w'.cell? (TU (wz+1) 2)=some (xa (some (TU nb noff)) nn nc)/\wz+1<w'.heap.size/\w'.cell? (TU g i)=some (xa q ad m)/\g<w'.heap.size/\w'.cell? (TU nb (noff+i))=some (xa ro ad bl)/\nb<w'.heap.size) zk ?_ (λI=>?_)
  .exact⟨aQ,l1,gc,gl,cr,aV⟩
  apply zt1 0 (xn true) I;apply zt1 1 (xn true) I;apply zt1 2 (xk (TT lb)) I;apply zt1 3 (xa (TT g) (nn+8) (nn+8)) I;apply zt1 4 (xd xh i) I;apply zt1 5 (xk (some (TU g i))) I;apply zt1 6 (xa q ad m) I;apply zt1 7 (xk (some (TU (wz+1) 2))) I;apply zt1 8 (xa (some (TU nb noff)) nn nc) I;apply zt1 9 (xd xh i) I;apply zt1 10 (xk (some (TU nb (noff+i)))) I;apply zt1 11 (xa ro ad bl) I;apply zrH 12;intro K hK;go_simp;refine(J3 (HT.later (iK _ _)) (hu.sm hS zs) (a8.later (iK _ _))).mono ?_;rintro e w5 ⟨rfl,a5,au,bg,bJ,bK,aa⟩;have g5:=(aa.at (x:=iF g 33 cur) zp).p;obtain⟨c5,l5⟩:=aa.bxB HM.out.1;obtain⟨aR,av,_⟩:=hR.row aa.bel (aa.allB HM.out.2.2.1) hlt bB.out bC.out;refine hK.out _ _ ⟨c5 2,l5,(EQ g5 i).trans bu.out,dK g5,aR,av⟩ (λI=>?_);clear hK K;apply zt1 13 (xn true) I;apply zt1 14 (xn true) I;refine Ut zk ?_ _;have HN:Hid (Up a a5 bs (J++au) []/\(J++au).length<=1+(i+1)/\Ty (J++au) qf nf mf/\LH lb w0 w5 (a5.T lb::iF g 33 cur::((xs.drop (i+1)).map qj++(hs.map tV++((J++au).map lZ++(bs.map kS++B)))))):=⟨by have:=hu.trans bg;rwa [Vo,Vo] at this,by rw[Ur];omega,a7.mono (λb hb=>Wv hb),aa.prm⟩;clear I aa g5 c5 l5 aR av bg bJ bK aQ l1 gc gl cr aV ag bH;go_wp2
  go_roundw
  .grind
  simp[intOf];omega
 have bI:i=nn:=zo;subst bI;rw[UX (by rw[hxs.len];omega)] at U;have HT:=U.prm (M:=a3.T lb::iF g 33 cur::(hs.map tV++(J.map lZ++(bs.map kS++B))));have hhl:=hhs.len;clear U c1 l1 hlt aO HI ak;go_wp2_with fail;generalize wr=wS at *
 go_loopw [9,13] (λo x wq=>∃k:Nat,i<=k/\k<=i+8/\o=xn true/\x=xd xh k/\wq=wS) (λ_ x _=>i+8-(intOf x).toNat)
 .exact⟨i,XH,zo,rfl,rfl,rfl⟩
 obtain⟨k,hk0,hk1,rfl,rfl,hw⟩:=hrel;have bM:=hw.symm;clear hw;subst bM;by_cases hlt:k<i+8
 .have aw:(k:Int)<(i:Int)+8:=zo;obtain⟨d,hd⟩:∃d,k=i+d:=⟨k-i,zo⟩;have aB:d<hs.length:=zo;have aA:=hhs.at_ d hs[d] (Uq aB);rw[<-hd] at aA;obtain⟨gd,gdl⟩:=HT.bx (b:=hs[d]) (ty:=3) (c:=#[xd xh 77]) (Ul (Ul (Wv (List.mem_map.2 ⟨hs[d],UY aB,rfl⟩))));have gc:=(EQ gg k).trans aA;have gd0:=gd 0;generalize hs[d]=bd at *;clear aA gd hd aB gg;go_wp2
  go_roundw
  .exact⟨k+1,zo,zo,rfl,by go_num,zv⟩
  simp[intOf];omega
 have aw:¬ (k:Int)<(i:Int)+8:=zo;have ax:wS.ownsRow 0 33 1 (xa (TT g) (i+8) (i+8)) (i+8) cur.toList:=by
  have h2:=hxs.sz;exact⟨by simp[h2],Rc ⟨g,_,cur,rfl,Ux,gg,XH,by unfold maxLen;omega,zo,UF (by simp[h2])⟩⟩
 have bA:=MI HT (hu.sm hS zs) ax (λk hk=>Ue hk.symm) zo;clear ax gg;go_wp2_with fail;refine bA.mono ?_;rintro e w6 ⟨rfl,a6,b6,aU,bh,aS⟩;have HF:Hid (Ql lb w0 a Y qa qf (TT g) na nf i ma mf (i+8) w6 (xm (xn true))):=⟨rfl,a6,bs,J,[b6],by have:=hu.trans bh;rwa [Vo,Vo] at this,zs,H1.out.2.2,a7,Rc ⟨b6,g,List.mem_singleton.2 rfl,rfl,rfl,aU,hn11⟩,(aS.prm (M:=a6.T lb::(hs.map tV++(bs.map kS++(J.map lZ++([b6].map nX++B)))))).sub (((Xl ..).trans ((UD _).append ((UD _).append ((UD _).append ((UD _).append HM.out.2.2.2))))).cons_cons _)⟩;clear aS bh aU;go_wp2;go_ret;exact HF.out
end
structure Wp(i j:Nat)(l r:TW)(a a':La):Prop where
 M:a'.M=a.M
 f:∀k,k≠i->k≠j->a'.f k=a.f k
 l:(a'.f i).x=(a.f i).x++l
 r:(a'.f j).x=(a.f j).x++r
section
variable{lb:Nat}{w0 w:Uc}{a:La}{Y:List Th}
def Nz(h:LH lb w0 w (a.T lb::Y))(hw:(a.f 7).n<=900000000)(he:(a.f 8).n<=900000000){ao fo no go:TX}{na ac nf fc nn nc ma mf mn:Nat}:
  Calls prog 98 #[xk (TT lb),.agg #[xa ao na ac,xa fo nf fc,xa no nn nc],.agg #[xa bo ma bc,xa go mf gc,xa ho mn hc],xd xh 0] w λe w'=>e=xm (xn true)/\∃a',Wp 7 8 [xa ao na ac,xa fo nf fc,xa no nn nc] [xa bo ma bc,xa go mf gc,xa ho mn hc] a a'/\LH lb w0 w' (a'.T lb::Y):=by
 have hA:=(h.boxed2 36 #[xa ao na ac,xa fo nf fc,xa no nn nc] 36 #[xa bo ma bc,xa go mf gc,xa ho mn hc]).prm (M:=a.T lb::iF w.heap.size 36 #[xa ao na ac,xa fo nf fc,xa no nn nc]::iF (w.heap.size+1) 36 #[xa bo ma bc,xa go mf gc,xa ho mn hc]::Y);obtain⟨wo,wn,wc,aB⟩:∃o n c,(a.f 7).v=xa o n c/\(a.f 7).n=n:=⟨_,_,_,rfl,rfl⟩;have HW:=fy aB;rw[aB.2] at hw;clear h aB;go_in;go_wp2_with fail;generalize ((w.alloc (xi #[xa ao na ac,xa fo nf fc,xa no nn nc] 36)).alloc (xi #[xa bo ma bc,xa go mf gc,xa ho mn hc] 36))=W at *;generalize w.heap.size=tb at *;obtain⟨b1,aa⟩:=hA.bx (Ul (Um ..));have ay:¬ a.S lb tb:=λe=>hA.far (Um ..) tb e rfl
 have c1:W.cell? (TU lb 7)=some (xa wo wn wc):=(EQ hA.law.lw 7).trans (congrArg some HW.out.1);have aR:=dK hA.law.lw;have o1:W.ownsRow 0 36 3 (xa wo wn wc) wn (a.f 7).x:=by have:=hA.law.own 7;rw[HW.out.1,HW.out.2] at this;exact this
 have av:XL W (W.alloc (xi #[xa ao na ac,xa fo nf fc,xa no nn nc] 36)).drew:=gC.drew;refine R' (S:=λw'=>w'.cell? (TU tb 0)=some (xa ao na ac)/\w'.cell? (TU tb 1)=some (xa fo nf fc)/\w'.cell? (TU tb 2)=some (xa no nn nc)) zk ?_ (λI=>?_)
 .exact⟨b1 0,b1 1,b1 2⟩
 apply zt1 0 (xk (TT lb)) I;apply zt1 1 (xk (TT lb)) I;apply zt1 2 (xk (TT lb)) I;apply zt1 3 (xk (some (TU lb 7))) I;apply zt1 5 (.agg #[xa ao na ac,xa fo nf fc,xa no nn nc]) I;refine zrH2 4 6 (λK J=>?_) λK J=>?_
 (go_simp;refine J.out _ _ I (λI=>?_);clear J K;apply zrH 6;intro K J;go_simp;refine J.out _ _ ⟨(XJ aa).trans I.1,(XJ aa).trans I.2.1,(XJ aa).trans I.2.2⟩ (λI=>?_);clear J K)
 rotate_left
 (go_simp;refine J.out _ _ ⟨(XJ aa).trans I.1,(XJ aa).trans I.2.1,(XJ aa).trans I.2.2⟩ (λI=>?_);clear J K;apply SR 4 I;intro I)
 all_goals (
  apply zrH 7;intro K J;refine Pz zf _ _ zf (v:=xa wo wn wc) (n:=wn) (xs:=(a.f 7).x) zf (H:=W.heap.size) (xa ao na ac) (xa fo nf fc) (xa no nn nc) zf (λu hu=>by simp at hu;rcases hu with rfl|rfl|rfl<;>rfl) (gq o1 av) (gi W _) zo ?_;intro g1 k1 q1 aL aJ aF;obtain⟨h1,an,aH⟩:=hA.put (W:=(W.alloc (xi #[xa ao na ac,xa fo nf fc,xa no nn nc] 36)).drew) 7 av aL (by rw[HW.out.1];exact aJ) (by rw[HW.out.1];exact aF);have x1:q1.cell? (TU lb 7)=some (xa wo wn wc):=(EQ an 7).trans (congrArg some HW.out.1);have y1:=gh an 7;have z1:=dK an;have ar:∀o,q1.cell? (TU tb o)=W.cell? (TU tb o):=λo=>nz (aH tb aa ay)
  refine J.out _ _ ⟨(ar 0).trans (b1 0),(ar 1).trans (b1 1),(ar 2).trans (b1 2)⟩ (λI=>?_);clear J K;clear aL aJ aF an aH c1 aR ar;apply zt1 8 (xk (TT lb)) I;apply zt1 9 (xk (some (TU lb 7))) I;apply zrH 10;intro K J;go_simp;have U:lb≠tb:=λe=>ay (Rg e.symm)
  refine J.out _ _ ⟨(XK U).trans I.1,(XK U).trans I.2.1,(XK U).trans I.2.2⟩ (λI=>?_);clear J K;refine Ut zk ?_ _;clear I U;clear ay b1 aa o1 av x1 y1 z1;generalize hw1:q1.setCell (TU lb 7) (xa (TT g1) (wn+1) k1)=w1 at *;clear hw1;obtain⟨eo,en,ec,aA⟩:∃o n c,(a.f 8).v=xa o n c/\(a.f 8).n=n:=⟨_,_,_,rfl,rfl⟩;have ae:=fy aA;have hen:en<=900000000:=aA.2▸he
  clear aA;obtain⟨b2,ad⟩:=h1.bx (Ul (Ul (Um ..)));have az:=λe=>h1.far (Ul (Um ..)) (tb+1) e rfl
  have c2:w1.cell? (TU lb 8)=some (xa eo en ec):=(EQ h1.law.lw 8).trans (congrArg some ae.out.1);have aS:=dK h1.law.lw;have o2:w1.ownsRow 0 36 3 (xa eo en ec) en (a.f 8).x:=by have h:w1.ownsRow 0 36 3 (a.f 8).v (a.f 8).n (a.f 8).x:=h1.law.own 8;rw[ae.out.1,ae.out.2] at h;exact h
  have aw:XL w1 (w1.alloc (xi #[xa bo ma bc,xa go mf gc,xa ho mn hc] 36)).drew:=gC.drew;go_wp2_with fail;refine R' (S:=λw'=>w'.cell? (TU (tb+1) 0)=some (xa bo ma bc)/\w'.cell? (TU (tb+1) 1)=some (xa go mf gc)/\w'.cell? (TU (tb+1) 2)=some (xa ho mn hc)) zk ?_ (λI=>?_)
  .exact⟨b2 0,b2 1,b2 2⟩
  apply zt1 0 (xk (TT lb)) I;apply zt1 1 (xk (TT lb)) I;apply zt1 2 (xk (TT lb)) I;apply zt1 3 (xk (some (TU lb 8))) I;apply zt1 5 (.agg #[xa bo ma bc,xa go mf gc,xa ho mn hc]) I;refine zrH2 4 6 (λK J=>?_) λK J=>?_
  (go_simp;refine J.out _ _ I (λI=>?_);clear J K;apply zrH 6;intro K J;go_simp;refine J.out _ _ ⟨(XJ ad).trans I.1,(XJ ad).trans I.2.1,(XJ ad).trans I.2.2⟩ (λI=>?_);clear J K)
  rotate_left
  (go_simp;refine J.out _ _ ⟨(XJ ad).trans I.1,(XJ ad).trans I.2.1,(XJ ad).trans I.2.2⟩ (λI=>?_);clear J K;apply SR 4 I;intro I)
  all_goals (
   apply zrH 7;intro K J;refine Pz zf _ _ zf (v:=xa eo en ec) (n:=en) (xs:=(a.f 8).x) zf (H:=w1.heap.size) (xa bo ma bc) (xa go mf gc) (xa ho mn hc) zf (λu hu=>by simp at hu;rcases hu with rfl|rfl|rfl<;>rfl) (gq o2 aw) (gi w1 _) zo ?_;intro g2 k2 q2 aM aK aG;obtain⟨h2,aq,aI⟩:=h1.put (W:=(w1.alloc (xi #[xa bo ma bc,xa go mf gc,xa ho mn hc] 36)).drew) 8 aw aM (show _ from ae.out.1.symm▸aK) (show _ from ae.out.1.symm▸aG);have x2:q2.cell? (TU lb 8)=some (xa eo en ec):=(EQ aq 8).trans (congrArg some ae.out.1);have y2:=gh aq 8;have z2:=dK aq;have au:∀o,q2.cell? (TU (tb+1) o)=w1.cell? (TU (tb+1) o):=λo=>nz (aI _ ad az)
   refine J.out _ _ ⟨(au 0).trans (b2 0),(au 1).trans (b2 1),(au 2).trans (b2 2)⟩ (λI=>?_);clear J K;clear aM aK aG aq aI c2 aS au;apply zt1 8 (xk (TT lb)) I;apply zt1 9 (xk (some (TU lb 8))) I;apply zrH 10;intro K J;go_simp;have U:lb≠tb+1:=λe=>az (Rg e.symm)
   refine J.out _ _ ⟨(XK U).trans I.1,(XK U).trans I.2.1,(XK U).trans I.2.2⟩ (λI=>?_);clear J K;refine Ut zk ?_ _;clear I U;clear az b2 ad o2 aw x2 y2 z2;go_wp2;go_ret;exact⟨rfl,_,by exact⟨rfl,λk h7 h8=>(T' h8).trans (T' h7),rfl,rfl⟩,h2.sub (((Vc ..).trans (Vc ..)).cons_cons _)⟩
   )
  )
def CJ{lo:TX}{lc n:Nat}{L:TZ}{base:Nat}(h:LH lb w0 w (a.T lb::Y))(hn:n=L.length)(hk:w.ownsRow base 9 1 (xa ko n kc) n (gU L))(h8:n<=8)(hw:(a.f 5).n<=900000000)(he:(a.f 6).n<=900000000):
  Calls prog 107 #[xk (TT lb),xa lo n lc,xa ko n kc] w λe w'=>e=xm (.tuple #[])/\∃a' o c,Wp 5 6 [xa lo n lc] [xa o n c] a a'/\LH lb w0 w' (a'.T lb::lq 0 (xa o n c) L::Y):=by
 obtain⟨wo,wn,wc,ae⟩:∃o n c,(a.f 5).v=xa o n c/\(a.f 5).n=n:=⟨_,_,_,rfl,rfl⟩;have hP:=h.law;have c5:w.cell? (TU lb 5)=some (xa wo wn wc):=(EQ hP.lw 5).trans (congrArg some ae.1);have f5:=gh hP.lw 5;have hll:=dK hP.lw;have o1:w.ownsRow 0 25 1 (xa wo wn wc) wn (a.f 5).x:=by have h:w.ownsRow 0 25 1 (a.f 5).v (a.f 5).n (a.f 5).x:=hP.own 5;rw[ae.1,ae.2] at h;exact h
 have HN:=fy hn;have HT:=h;have HW:=fy ae;have HK:=hk;have aA:Hid (∀k,(xa ko n kc).ownBlock=some k->¬ a.S lb k):=λk aK hs=>by
  rcases hs with e|⟨i,e⟩
  .subst e;exact gz hk aK hP.lw zd
  exact vO (hP.own i) hk (by unfold eT;split<;>decide) e aK
 rw[ae.2] at hw;clear h hk hn ae hP;go_in
 go_wp2_with (at_builtin;go_must (refine qu rfl _ _ 68 rfl _ 0 25 IT rfl underlying68 (v:=xa wo wn wc) (n:=wn) (xs:=(a.f 5).x) rfl (xa lo n lc) rfl rfl o1 zo (Ux) (by first|rfl|simp[Rs]) ?_))
 intro g cap w3 aM aI ar;obtain⟨h1,an,aH⟩:=HT.put (W:=w.alloc (xi #[xa lo n lc] 25)) 5 gC aM (by rw[HW.out.1];exact aI) (by rw[HW.out.1];exact ar.imp id (λe=>zs));have d5:w3.cell? (TU lb 5)=some (xa wo wn wc):=(EQ an 5).trans (congrArg some HW.out.1);have e5:=gh an 5;have aL:=dK an;have aF:Hid ((w3.setCell (TU lb 5) (xa (TT g) (wn+1) cap)).ownsRow base 9 1 (xa ko n kc) n (gU L)):=jZ HK (λk hk=>(XE (λe=>aA.out k hk (Rg e))).trans (aH k (gJ HK k hk).2 (aA.out k hk)));obtain⟨eo,en,ec,ad⟩:∃o n c,(a.f 6).v=xa o n c/\(a.f 6).n=n:=⟨_,_,_,rfl,rfl⟩;have c6:(w3.setCell (TU lb 5) (xa (TT g) (wn+1) cap)).cell? (TU lb 6)=some (xa eo en ec):=(EQ h1.law.lw 6).trans (congrArg some ad.1);have f6:=gh h1.law.lw 6;have aa:=dK h1.law.lw;have o2:(w3.setCell (TU lb 5) (xa (TT g) (wn+1) cap)).ownsRow 0 25 1 (xa eo en ec) en (a.f 6).x:=by have h:(w3.setCell (TU lb 5) (xa (TT g) (wn+1) cap)).ownsRow 0 25 1 (a.f 6).v (a.f 6).n (a.f 6).x:=h1.law.own 6;rw[ad.1,ad.2] at h;exact h
 have aw:=fy ad;have hen:en<=900000000:=ad.2▸he
 clear an aH aM aI ar aA c5 f5 o1 ad HK;go_wp2_with fail;generalize hWS:w3.setCell (TU lb 5) (xa (TT g) (wn+1) cap)=wS at *;clear hWS d5 e5 aL;refine R' (S:=λ_=>True) zk ?_ (λI=>?_)
 .exact trivial
 apply zt1 0 (xk (TT lb)) I;apply zt1 1 (xk (TT lb)) I;apply zt1 2 (xk (TT lb)) I;apply zt1 3 (xk (some (TU lb 6))) I;apply zt1 5 (xa ko n kc) I;refine zrH2 4 6 (λK J=>?ra) λK J=>?rb
 case' ra=>(go_simp;refine J.out _ _ trivial (λI=>?_);clear J K;apply zrH 6;intro K J;refine Fw zf zf zf (HN.out) zf (gq (aF.out) ((XF).drew)) h8 ?_;intro o5 c5 w5 ak U;have d6:w5.cell? (TU lb 6)=some (xa eo en ec):=(Fd U _ _ (by simpa using aa)).trans c6;have av:lb<w5.heap.size:=Uw (by simpa using aa) U.size;refine J.out _ _ trivial (λI=>?_);clear J K;apply SR 7 trivial;intro I)
 case' rb=>(refine Fw zf zf zf (HN.out) zf (gq (aF.out) ((XF).drew)) h8 ?_;intro o5 c5 w5 ak U;have d6:w5.cell? (TU lb 6)=some (xa eo en ec):=(Fd U _ _ (by simpa using aa)).trans c6;have av:lb<w5.heap.size:=Uw (by simpa using aa) U.size;refine J.out _ _ trivial (λI=>?_);clear J K;refine zrH2 4 7 (λK J=>?rc) λK J=>?rd)
 case' rc=>(go_simp;refine J.out _ _ trivial (λI=>?_);clear J K;apply SR 7 trivial;intro I)
 case' rd=>(go_simp;refine J.out _ _ trivial (λI=>?_);clear J K;apply SR 4 trivial;intro I)
 all_goals (
  apply zrH 8;intro K J;have ay:=(((Uo wS.heap.size wS).drew).trans U);have hH:=h1.hold (y:=lq 0 (xa o5 n c5) L) ay (GS (by rw[<-HN.out];exact im ak (Ux))) (λk hk=>(gJ ak k hk).1);have az:=ir w5 (xi #[xa o5 n c5] 25);refine DB zf _ _ 68 zf 0 25 IT rfl underlying68 (v:=xa eo en ec) (n:=en) (xs:=(a.f 6).x) zf (xa o5 n c5) zf rfl (gq (gq o2 ay) az) (gi _ _) zo (Ux) ?_;intro g8 cap8 q8 aN aJ au;obtain⟨h2,ao,_⟩:=LH.put (a:=a.up a.M 5 ⟨TT g,wn+1,cap,(a.f 5).x++[xa lo n lc]⟩) (Y:=lq 0 (xa o5 n c5) L::Y) (W:=w5.alloc (xi #[xa o5 n c5] 25)) 6 hH.prm az aN (show _ from aw.out.1.symm▸aJ) (show _ from aw.out.1.symm▸au);have q6:q8.cell? (TU lb 6)=some (xa eo en ec):=(EQ ao 6).trans (congrArg some aw.out.1);have qf:=gh ao 6;have ql:=dK ao;clear aN aJ au ao hH az ay ak U d6 av;refine J.out _ _ trivial (λI=>?_);clear J K;apply zt1 9 (xk (TT lb)) I;apply zt1 10 (xk (some (TU lb 6))) I;apply SR 11 trivial;intro I;refine Ut zk ?_ _;clear I;go_end0;exact⟨rfl,_,_,_,by exact⟨rfl,λk h5 h6=>(T' h6).trans (T' h5),rfl,rfl⟩,h2⟩)
end
structure Gs where
 ds:List Dd
 bs:List Bk
 js:List Ik
 rs:List Rk
 xs:List Wt
 ws:List Wb
 us:List Wb
def Gs.T(g:Gs):List Th:=g.ds.flatMap (Dd.ts 0)++(g.bs.map kS++(g.js.map lZ++(g.rs.map nX++(g.xs.map (qy 0)++(g.ws.map j7++g.us.map j7)))))
structure SE(N:Nat)(a:La)(g:Gs):Prop where
 v0:(a.f 0).x=qd g.ds
 v2:(a.f 2).x=sv g.bs
 v3:(a.f 3).x=g.js.flatMap IQ
 v4:(a.f 4).x=g.rs.flatMap Ju
 v5:(a.f 5).x=g.xs.map Wt.l
 v6:(a.f 6).x=g.xs.map Wt.k
 v7:(a.f 7).x=yZ g.ws
 v8:(a.f 8).x=g.us.flatMap λx=>yZ [x,x]
 tt:g.ws.map Wb.t=g.us.flatMap λx=>[x.t,x.t]
 M:a.M=g.bs.length+g.js.length+g.rs.length
 nb:a.M+g.xs.length+103*g.ws.length<=N
 rt:∀x∈g.us,Fn x.t
 nd:g.ds.length<=N
 ev:∀d∈g.ds,Sa N d.cs
def Q6(lb:Nat)(X:List Th)(w0 w:Uc)(N:Nat):Prop:=∃a g,SE N a g/\LH lb w0 w (a.T lb::(X++g.T))
section
variable{lb N N':Nat}{X Y:List Th}{w0 w w':Uc}{a a':La}{g:Gs}{bs:List Bk}{js:List Ik}{rs:List Rk}
def SE.more(h:SE N a g)(hn:N<=N'):SE N' a g:=⟨h.v0,h.v2,h.v3,h.v4,h.v5,h.v6,h.v7,h.v8,h.tt,h.M,UP h.nb hn,h.rt,UP h.nd hn,λd I=>(h.ev d I).up hn⟩
def Q6.more(h:Q6 lb X w0 w N)(hn:N<=N'):Q6 lb X w0 w N':=let ⟨a,g,hg,hT⟩:=h;⟨a,g,hg.more hn,hT⟩
def Q6.later(h:Q6 lb X w0 w N)(I:XL w w'):Q6 lb X w0 w' N:=let ⟨a,g,hg,hT⟩:=h;⟨a,g,hg,hT.later I⟩
def Q6.bel(h:Q6 lb X w0 w N):XL w0 w:=let ⟨_,_,_,hT⟩:=h;hT.bL
def LH.prg{L M:List Th}(h:LH lb w0 w L)(I:∀f:Th->Nat,(L.map f).sum=(M.map f).sum:=by intro f;simp only[Gs.T,Dd.ts,U1,UZ,Vv,List.flatMap_append,VB,List.flatMap_nil,Xc,List.sum_cons,List.sum_nil,UE,Vy,Vo,Vt]<;>omega):LH lb w0 w M:=h.perm (Go.Proofs.YtidakhhekofkoaaGreatDoor.prm I)
def SE.sm(h:SE N a g)(hn:N<=N'):Sm a N':=by
 have:=h.M;have:=h.nb;refine⟨zo,?_,?_,?_⟩
 .rw[h.v2,Ca];omega
 .rw[h.v3,zF];omega
 rw[h.v4,zR];omega
theorem DK{us:List Wb}:(us.flatMap λx=>yZ [x,x]).length=us.length*6/\(us.flatMap λx=>[x.t,x.t]).length=us.length*2:=by
 induction us with
 |nil=>exact⟨rfl,rfl⟩
 |cons d r ih=>
  grind[yZ]
theorem SE.len(h:SE N a g)(I:a.P lb w):((a.f 0).n=g.ds.length/\(a.f 2).n=g.bs.length/\(a.f 3).n=g.js.length/\(a.f 4).n=g.rs.length)/\(a.f 5).n=g.xs.length/\(a.f 6).n=g.xs.length/\(a.f 7).n=g.ws.length/\(a.f 8).n=g.ws.length:=by
 have J:(a.f 0).x.length=(a.f 0).n*2:=(I.own 0).1;have U:(a.f 2).x.length=(a.f 2).n*5:=(I.own 2).1;have h3:(a.f 3).x.length=(a.f 3).n*5:=(I.own 3).1;have h4:(a.f 4).x.length=(a.f 4).n*5:=(I.own 4).1;have h5:(a.f 5).x.length=(a.f 5).n*1:=(I.own 5).1;have h6:(a.f 6).x.length=(a.f 6).n*1:=(I.own 6).1;have h7:(a.f 7).x.length=(a.f 7).n*3:=(I.own 7).1;have h8:(a.f 8).x.length=(a.f 8).n*3:=(I.own 8).1;have ht:=congrArg List.length h.tt;rw[UL,(DK).2] at ht;rw[h.v0,zM] at J;rw[h.v2,Ca] at U;rw[h.v3,zF] at h3;rw[h.v4,zR] at h4;rw[h.v5,UL] at h5;rw[h.v6,UL] at h6;rw[h.v7,Ow] at h7;rw[h.v8,(DK).1] at h8;omega
theorem SE.up(h:SE N a g)(I:Up a a' bs js rs)(hn:N+bs.length+js.length+rs.length<=N'):SE N' a' {g with bs:=g.bs++bs,js:=g.js++js,rs:=g.rs++rs}:=by
 have e:=λi U h3 h4=>congrArg Sl.x (I.f i U h3 h4)
 have:=I.M;have:=h.M;have:=h.nb;have J:N<=N':=zo;exact⟨(e 0 zd zd zd).trans h.v0,by rw[I.b,h.v2,sv,sv,sv,Rj],by rw[I.j,h.v3,Rj],by rw[I.r,h.v4,Rj],(e 5 zd zd zd).trans h.v5,(e 6 zd zd zd).trans h.v6,(e 7 zd zd zd).trans h.v7,(e 8 zd zd zd).trans h.v8,h.tt,by grind,by grind,h.rt,UP h.nd J,λd hd=>(h.ev d hd).up J⟩
def Q6.up(h:SE N a g)(J:Up a a' bs js rs)(I:LH lb w0 w (a'.T lb::(bs.map kS++(js.map lZ++(rs.map nX++(X++g.T))))))(hn:N+bs.length+js.length+rs.length<=N'):Q6 lb X w0 w N':=⟨_,_,h.up J hn,I.prg⟩
def LH.held{x:Wb}(h:LH lb w0 w Y)(J:XL w w')(I:RX w' w.heap.size x.A x.F x.X x.t x.rv):LH lb w0 w' (j7 x::Y):=h.hold J (MU I.low) (λk U=>JK I U)
theorem Q6.two{x y z:Wb}(h:SE N a g)(I:Wp 7 8 [x.A,x.F,x.X] [z.A,z.F,z.X] a a1)(J:Wp 7 8 [y.A,y.F,y.X] [z.A,z.F,z.X] a1 a')(hT:LH lb w0 w (a'.T lb::j7 x::j7 y::j7 z::(X++g.T)))(hx:x.t=z.t)(hy:y.t=z.t)(hR:Fn z.t):Q6 lb X w0 w (N+206):=by
 have e:=λi U h8=>congrArg Sl.x ((J.f i U h8).trans (I.f i U h8))
 have:=I.M;have:=J.M;have:=h.nb;refine⟨a',{g with ws:=g.ws++[x,y],us:=g.us++[z]},⟨(e 0 zd zd).trans h.v0,(e 2 zd zd).trans h.v2,(e 3 zd zd).trans h.v3,(e 4 zd zd).trans h.v4,(e 5 zd zd).trans h.v5,(e 6 zd zd).trans h.v6,by rw[J.l,I.l,h.v7];unfold yZ;simp,by rw[J.r,I.r,h.v8];unfold yZ;simp,by simp[h.tt,hx,hy],by have:=h.M;grind,by grind,λu hu=>(List.mem_append.1 hu).elim (h.rt u) (λe=>List.mem_singleton.1 e▸hR),UP h.nd zo,λd hd=>(h.ev d hd).up zo⟩,hT.prg⟩
def BH(h:LH lb w0 w (a.T lb::Y))(hw:(a.f 7).n<=900000000)(he:(a.f 8).n<=900000000)(J U no bo go ho:TX)(I ac nf fc nn nc bc gc hc:Nat)(f:Int)(h1:f≠0->(I=0/\nf=0/\nn=0)/\(J=none/\U=none/\no=none/\ac=0/\fc=0/\nc=0)/\bo=none/\go=none/\ho=none/\bc=0/\gc=0/\hc=0):
  Calls prog 98 #[xk (TT lb),.agg #[xa J I ac,xa U nf fc,xa no nn nc],.agg #[xa bo I bc,xa go nf gc,xa ho nn hc],xd xh f] w λe w'=>e=xm (xn true)/\∃a',(f=0->Wp 7 8 [xa J I ac,xa U nf fc,xa no nn nc] [xa bo I bc,xa go nf gc,xa ho nn hc] a a')/\(f≠0->a'=a)/\((a'.f 7).n<=(a.f 7).n+1/\(a'.f 8).n<=(a.f 8).n+1)/\LH lb w0 w' (a'.T lb::Y):=by
 by_cases e:f=0
 .subst e;refine(Nz h hw he).mono ?_;rintro e w' ⟨rfl,a',hp,hT⟩;refine⟨rfl,a',λ_=>hp,λe=>(e rfl).elim,?_,hT⟩;have k1:(a'.f 7).x.length=(a'.f 7).n*3:=(hT.law.own 7).1;have k2:(a'.f 8).x.length=(a'.f 8).n*3:=(hT.law.own 8).1;have k3:(a.f 7).x.length=(a.f 7).n*3:=(h.law.own 7).1;have k4:(a.f 8).x.length=(a.f 8).n*3:=(h.law.own 8).1;rw[hp.l,Ur] at k1;rw[hp.r,Ur] at k2;simp at k1 k2;omega
 obtain⟨⟨rfl,rfl,rfl⟩,⟨rfl,rfl,rfl,rfl,rfl,rfl⟩,rfl,rfl,rfl,rfl,rfl,rfl⟩:=h1 e;refine(Bn w f e).mono ?_;rintro e' w' ⟨rfl,hb⟩;exact⟨rfl,a,λh=>(e h).elim,λ_=>rfl,⟨W8 _,W8 _⟩,h.later hb⟩
end
def Tv(f:Int)(t:Tb)(na nf nn:Nat)(w w':Uc)(e:Ending):Prop:=∃ao fo no ac fc nc rv,e=xm (.tuple #[.agg #[xa ao na ac,xa fo nf fc,xa no nn nc],xd xh f])/\RX w' w.heap.size (xa ao na ac) (xa fo nf fc) (xa no nn nc) t rv/\XL w w'/\(f≠0->ao=none/\fo=none/\no=none/\ac=0/\fc=0/\nc=0)
theorem Tw.get(hu:Un R)(hr:∀t,R 0 (some t)->Fn t){w w':Uc}(h:Tw R w w' e):∃f t na nf nn,(na<=6/\nf<=100/\nn<=100)/\(f=0->Fn t)/\(f≠0->na=0/\nf=0/\nn=0)/\(t.acts.length<=1000/\t.nx.length<=1000/\t.fl.length<=1000/\∀r∈t.nx,r.length<=1000)/\∀v v' e',Tw R v v' e'->Tv f t na nf nn v v' e':=by
 by_cases J:∃t,R 0 (some t)
 .obtain⟨t,J⟩:=J;have I:=hr t J;refine⟨0,t,_,_,_,⟨I.acts.n6,I.fl▸I.n100,I.n100⟩,λ_=>I,λe=>(e rfl).elim,I.small,λ_ _ _ h=>?_⟩;obtain⟨ao,fo,no,ac,fc,nc,rv,he,hT,hb⟩:=h.tab hu J rfl rfl rfl
  grind[Tv]
 obtain⟨f,hf,U,_⟩:=h.lost (λt h=>J ⟨t,h⟩);refine⟨f,⟨[],[],[]⟩,0,0,0,⟨Ux,Ux,Ux⟩,λe=>(U e).elim,λ_=>⟨rfl,rfl,rfl⟩,⟨Ux,Ux,Ux,λr h=>(by cases h)⟩,λ_ _ _ h=>?_⟩;obtain⟨he,hb⟩:=h.nil hu hf;exact⟨none,none,none,0,0,0,[],he,⟨XG,XG,XG,λj r h=>(by cases h),λv h=>(by cases h),List.Pairwise.nil⟩,hb,λ_=>⟨rfl,rfl,rfl,rfl,rfl,rfl⟩⟩
def yP{w:Uc}{ao fo no go:TX}{ac fc nc J nf nn:Nat}(h1:RX w 0 (xa ao J ac) (xa fo nf fc) (xa no nn nc) t rv)(h2:RX w 0 (xa bo J bc) (xa go nf gc) (xa ho nn hc) t rv')(hl:t.acts.length<=1000/\t.nx.length<=1000/\t.fl.length<=1000/\∀r∈t.nx,r.length<=1000):
  Calls prog 62 #[.agg #[xa ao J ac,xa fo nf fc,xa no nn nc],.agg #[xa bo J bc,xa go nf gc,xa ho nn hc]] w λe w'=>e=xm (xn true)/\XL w w':=by
 obtain⟨I,ea,ef,en⟩:=h1.read hl;obtain⟨U,_⟩:=h2.read hl;exact BA w ⟨I.acts,I.fl,I.nx⟩ ⟨U.acts,U.fl,U.nx⟩ ⟨I.al,I.fll,I.nxl,I.rl⟩ ea (by rw[ef];exact(mh _).symm) (by rw[en];unfold Tb.z;simp)
section
variable{lb N:Nat}{X:List Th}{w0 w:Uc}
def MM(h:Q6 lb X w0 w N)(hE:EV w0)(hN:N<=900000000)(b:Ub):
  Calls prog 100 #[xk (TT lb),xj b] w λe w'=>e=xm (xn true)/\Q6 lb X w0 w' (N+206):=by
 obtain⟨a,g,hg,hT⟩:=h;have hl:=(hg.len hT.law).2.2.2;have J:=hg.nb;have hw7:(a.f 7).n<=800000000:=zo;have aw:(a.f 8).n<=800000000:=zo;have HT:=hT;have HC:=fy (EC b (hT.gv hE).g);clear hT hl J;go_in;go_wp2_with fail;refine HC.out.mono ?_;clear HC;intro e w1 hc;obtain⟨f,t,I,nf,nn,hn,aH,aI,aM,get⟩:=hc.get (DR.un b) (λt h=>h.1.1);obtain⟨a1,f1,n1,c1,d1,e1,aQ,rfl,hW,J,aN⟩:=get _ _ _ hc;have ak:=(HT.held (x:=⟨t,xa a1 I c1,xa f1 nf d1,xa n1 nn e1,aQ⟩) J hW).boxed 36 #[xa a1 I c1,xa f1 nf d1,xa n1 nn e1];have aj:=fy get;have HF:=fy (Rf aH (Rf aI (Rf aM aN)));clear hc hW J HT get aH aI aM aN;have HC:=fy (EC b (ak.gv hE).g);go_wp2_with fail;refine HC.out.mono ?_;clear HC;generalize w1.alloc (xi #[xa a1 I c1,xa f1 nf d1,xa n1 nn e1] 36)=W1 at *;generalize w1.heap.size=b1 at *;intro e w2 hc;obtain⟨a2,f2,n2,c2,d2,e2,aR,rfl,hW,J,aO⟩:=aj.out _ _ _ hc;have aF:=(ak.held (x:=⟨t,xa a2 I c2,xa f2 nf d2,xa n2 nn e2,aR⟩) J hW).boxed 36 #[xa a2 I c2,xa f2 nf d2,xa n2 nn e2];have aT:=fy aO;clear hc hW J ak aO;have HC:=J7 b (w2.alloc (xi #[xa a2 I c2,xa f2 nf d2,xa n2 nn e2] 36));go_wp2_with fail;refine HC.mono ?_;clear HC;generalize w2.alloc (xi #[xa a2 I c2,xa f2 nf d2,xa n2 nn e2] 36)=W2 at *;generalize w2.heap.size=b2 at *;intro e w3 hc;obtain⟨a3,f3,n3,c3,d3,e3,aS,rfl,hW,J,aP⟩:=aj.out _ _ _ hc;have aa:=(aF.held (x:=⟨t,xa a3 I c3,xa f3 nf d3,xa n3 nn e3,aS⟩) J hW).boxed 36 #[xa a3 I c3,xa f3 nf d3,xa n3 nn e3];have aG:=fy aP;clear hc hW J aF aj aP;obtain⟨p1,l1⟩:=aa.bx Gr;obtain⟨p3,l3⟩:=aa.bx (Um ..);have HS:=fy (yP (aa.at Pk).p (aa.at kI).p HF.out.2.2.1);go_wp2_with fail;refine HS.out.mono ?_;clear HS p1 l1 p3 l3;generalize w3.alloc (xi #[xa a3 I c3,xa f3 nf d3,xa n3 nn e3] 36)=W3 at *;generalize w3.heap.size=b3 at *;rintro e w4 ⟨rfl,J⟩;have U:=aa.later J;clear J aa;obtain⟨p2,l2⟩:=U.bx pK;obtain⟨p3,l3⟩:=U.bx (Um ..);have HS:=yP (U.at zJ).p (U.at kI).p HF.out.2.2.1;go_wp2_with fail;refine HS.mono ?_;clear HS p2 l2 p3 l3;rintro e w5 ⟨rfl,J⟩;obtain⟨B,m1,m2,m3,aL,ad⟩:∃B,iF b1 36 #[xa a1 I c1,xa f1 nf d1,xa n1 nn e1]∈B/\iF b2 36 #[xa a2 I c2,xa f2 nf d2,xa n2 nn e2]∈B/\iF b3 36 #[xa a3 I c3,xa f3 nf d3,xa n3 nn e3]∈B/\(j7 ⟨t,xa a1 I c1,xa f1 nf d1,xa n1 nn e1,aQ⟩::j7 ⟨t,xa a2 I c2,xa f2 nf d2,xa n2 nn e2,aR⟩::j7 ⟨t,xa a3 I c3,xa f3 nf d3,xa n3 nn e3,aS⟩::(X++g.T)).Sublist B/\LH lb w0 w5 (a.T lb::B):=⟨_::_::_::_,Um ..,kI,pK,(Vc ..).trans ((Vc ..).trans (Vc ..)),(U.later J).prm⟩;clear J U;obtain⟨p1,l1⟩:=ad.bxB m1;obtain⟨p3,l3⟩:=ad.bxB m3;have HM:=fy (Rf m2 (Rf m3 aL));have HK:=fy (BH ad zo zo a1 f1 n1 a3 f3 n3 I c1 nf d1 nn e1 c3 d3 e3 f (λe=>⟨HF.out.2.1 e,HF.out.2.2.2 e,aG.out e⟩));clear ad m1 m2 m3 aL
 go_wp2_with (refine(lC).mono ?_)
 rintro e w8 ⟨rfl,aw⟩;have hw:=aw.symm;clear aw;subst hw;go_wp2_with fail;refine HK.out.mono ?_;clear HK p1 l1 p3 l3;rintro e w6 ⟨rfl,a6,aJ,aK,aU,ae⟩;obtain⟨p2,l2⟩:=ae.bxB HM.out.1;obtain⟨p3,l3⟩:=ae.bxB HM.out.2.1;have HK:=BH ae zo zo a2 f2 n2 a3 f3 n3 I c2 nf d2 nn e2 c3 d3 e3 f (λe=>⟨HF.out.2.1 e,aT.out e,aG.out e⟩);have HP:=fy (Rf aJ aK);clear aJ aK aU ae;go_wp2_with fail;refine HK.mono ?_;clear HK p2 l2 p3 l3;exact zm44
def PY(h:Q6 lb X w0 w N)(hE:EV w0)(hN:N<=900000000):
  Calls prog 54 #[xk (TT lb),.agg #[xd xh 3,xd xh oa,xj b,xj ot,xa l1 l2 l3,xa g1 g2 g3,xa m1 m2 m3]] w λe w'=>e=xm (xn true)/\Q6 lb X w0 w' (N+206):=by
 obtain⟨a,g,hg,hT⟩:=h;have hl:=(hg.len hT.law).2.2.2;have J:=hg.nb;have hw7:(a.f 7).n<=800000000:=zo;have ay:(a.f 8).n<=800000000:=zo;have ax:=hT.boxed 74 #[xd xh 3,xd xh oa,xj b,xj ot,xa l1 l2 l3,xa g1 g2 g3,xa m1 m2 m3];have HC:=fy (BL b (ax.gv hE).g);clear hT hl J;go_in;go_wp2_with fail;refine HC.out.mono ?_;clear HC;generalize w.alloc (xi #[xd xh 3,xd xh oa,xj b,xj ot,xa l1 l2 l3,xa g1 g2 g3,xa m1 m2 m3] 74)=w9 at *;generalize w.heap.size=ob at *;intro e w1 hc;obtain⟨f,t,I,nf,nn,hn,aJ,aK,aO,get⟩:=hc.get (CR.un b) (λt h=>h.right);obtain⟨a1,f1,n1,c1,d1,e1,aS,rfl,hW,J,aP⟩:=get _ _ _ hc;have ad:=(ax.held (x:=⟨t,xa a1 I c1,xa f1 nf d1,xa n1 nn e1,aS⟩) J hW).boxed 36 #[xa a1 I c1,xa f1 nf d1,xa n1 nn e1];have ak:=fy get;have HF:=fy (Rf aJ (Rf aK (Rf aO aP)));clear hc hW J ax get aJ aK aO aP;have HC:=fy (BL b (ad.gv hE).g);obtain⟨o1,aX⟩:=ad.bx pK;replace o1:=o1 2;go_wp2_with fail;refine HC.out.mono ?_;clear HC o1 aX;generalize w1.alloc (xi #[xa a1 I c1,xa f1 nf d1,xa n1 nn e1] 36)=W1 at *;generalize w1.heap.size=b1 at *;intro e w2 hc;obtain⟨a2,f2,n2,c2,d2,e2,aT,rfl,hW,J,aQ⟩:=ak.out _ _ _ hc;have an:=(ad.held (x:=⟨t,xa a2 I c2,xa f2 nf d2,xa n2 nn e2,aT⟩) J hW).boxed 36 #[xa a2 I c2,xa f2 nf d2,xa n2 nn e2];have aV:=fy aQ;clear hc hW J ad aQ;have HC:=Ab b (w2.alloc (xi #[xa a2 I c2,xa f2 nf d2,xa n2 nn e2] 36));obtain⟨o2,aY⟩:=an.bx Gr;replace o2:=o2 2;go_wp2_with fail;refine HC.mono ?_;clear HC o2 aY;generalize w2.alloc (xi #[xa a2 I c2,xa f2 nf d2,xa n2 nn e2] 36)=W2 at *;generalize w2.heap.size=b2 at *;intro e w3 hc;obtain⟨a3,f3,n3,c3,d3,e3,aU,rfl,hW,J,aR⟩:=ak.out _ _ _ hc;have aa:=(an.held (x:=⟨t,xa a3 I c3,xa f3 nf d3,xa n3 nn e3,aU⟩) J hW).boxed 36 #[xa a3 I c3,xa f3 nf d3,xa n3 nn e3];have aI:=fy aR;clear hc hW J an ak aR;obtain⟨p1,y1⟩:=aa.bx Gr;obtain⟨p3,y3⟩:=aa.bx (Um ..);have HS:=fy (yP (aa.at Pk).p (aa.at kI).p HF.out.2.2.1);go_wp2_with fail;refine HS.out.mono ?_;clear HS p1 y1 p3 y3;generalize w3.alloc (xi #[xa a3 I c3,xa f3 nf d3,xa n3 nn e3] 36)=W3 at *;generalize w3.heap.size=b3 at *;rintro e w4 ⟨rfl,J⟩;have U:=aa.later J;clear J aa;obtain⟨p2,y2⟩:=U.bx pK;obtain⟨p3,y3⟩:=U.bx (Um ..);have HS:=yP (U.at zJ).p (U.at kI).p HF.out.2.2.1;go_wp2_with fail;refine HS.mono ?_;clear HS p2 y2 p3 y3;rintro e w5 ⟨rfl,J⟩;obtain⟨B,q1,q2,q3,aN,ae⟩:∃B,iF b1 36 #[xa a1 I c1,xa f1 nf d1,xa n1 nn e1]∈B/\iF b2 36 #[xa a2 I c2,xa f2 nf d2,xa n2 nn e2]∈B/\iF b3 36 #[xa a3 I c3,xa f3 nf d3,xa n3 nn e3]∈B/\(j7 ⟨t,xa a1 I c1,xa f1 nf d1,xa n1 nn e1,aS⟩::j7 ⟨t,xa a2 I c2,xa f2 nf d2,xa n2 nn e2,aT⟩::j7 ⟨t,xa a3 I c3,xa f3 nf d3,xa n3 nn e3,aU⟩::(X++g.T)).Sublist B/\LH lb w0 w5 (a.T lb::B):=⟨_::_::_::iF ob 74 #[xd xh 3,xd xh oa,xj b,xj ot,xa l1 l2 l3,xa g1 g2 g3,xa m1 m2 m3]::_,Um ..,kI,pK,(Vc ..).trans ((Vc ..).trans ((Vc ..).trans (Vc ..))),(U.later J).prm⟩;clear J U;obtain⟨p1,y1⟩:=ae.bxB q1;obtain⟨p3,y3⟩:=ae.bxB q3;have HM:=fy (Rf q2 (Rf q3 aN));have HK:=fy (BH ae zo zo a1 f1 n1 a3 f3 n3 I c1 nf d1 nn e1 c3 d3 e3 f (λe=>⟨HF.out.2.1 e,HF.out.2.2.2 e,aI.out e⟩));clear ae q1 q2 q3 aN
 go_wp2_with (refine(lC).mono ?_)
 rintro e w8 ⟨rfl,ay⟩;have hw:=ay.symm;clear ay;subst hw;go_wp2_with fail;refine HK.out.mono ?_;clear HK p1 y1 p3 y3;rintro e w6 ⟨rfl,a6,aL,aM,aW,ag⟩;obtain⟨p2,y2⟩:=ag.bxB HM.out.1;obtain⟨p3,y3⟩:=ag.bxB HM.out.2.1;have HK:=BH ag zo zo a2 f2 n2 a3 f3 n3 I c2 nf d2 nn e2 c3 d3 e3 f (λe=>⟨HF.out.2.1 e,aV.out e,aI.out e⟩);have HP:=fy (Rf aL aM);clear aL aM aW ag;go_wp2_with fail;refine HK.mono ?_;clear HK p2 y2 p3 y3;exact zm44
end
section
variable{lb N:Nat}{X L:List Th}{w0 w w' v:Uc}{ao fo no qa qf qn:TX}{na nf nn ac fc nc ma mf mn:Nat}{acts:TZ}{fl:T8}{rows:List (T8)}{vs:Nat->Option Ud}{y:Th}
def Q6.hold(h:Q6 lb X w0 w N)(I:XL w w')(J:R1 w' y)(hn:∀k,y.S k->w.heap.size<=k):Q6 lb (y::X) w0 w' N:=let ⟨a,g,hg,hT⟩:=h;⟨a,g,hg,(hT.hold I J hn).prm⟩
def Q6.boxed(h:Q6 lb X w0 w N)(ty:Nat)(c:T1):Q6 lb (iF w.heap.size ty c::X) w0 (w.alloc (xi c ty)) N:=h.hold gC (oV (gi _ _)) (λk I=>Vx I.symm)
def Q6.drop(h:Q6 lb (y::X) w0 w N):Q6 lb X w0 w N:=let ⟨a,g,hg,hT⟩:=h;⟨a,g,hg,hT.sub ((Vc ..).cons_cons _)⟩
def Q6.at(h:Q6 lb X w0 w N)(I:y∈X):R1 w y:=let ⟨a,g,hg,hT⟩:=h;hT.at (Ul (Wv I))
def Q6.bx{b ty:Nat}{c:T1}(h:Q6 lb X w0 w N)(I:iF b ty c∈X):(∀o,w.cell? (TU b o)=c[o]?)/\b<w.heap.size:=⟨EQ (h.at I).p,dK (h.at I).p⟩
def Q6.gv(h:Q6 lb X w0 w N)(I:EV w0):SS w:=let ⟨_,_,_,hT⟩:=h;hT.gv I
def Tn.atL(h:Tn lb X w0 ao fo no na nf nn ac fc nc acts fl rows vs)(I:na<=ac)(J:LH lb w0 w L)(hX:∀y∈X,y∈L:=by intro y hy;simp[hy]):S7 w ao fo no na nf nn ac fc nc ⟨acts,fl,rows⟩/\∀nb noff,no=some ⟨nb,noff,none⟩->∀j,j<nn->w.cell? (TU nb (noff+j))=vs j:=by
 obtain⟨U,h2,h3,h4⟩:=h w J.bel (J.all hX);exact⟨⟨U,h2,h3,I⟩,h4⟩
def LH.lent{Z:List Th}(I:LH lb w0 w L)(hz:ZQ v no qn nn mn nc rows Z)(h1:acts.length<=1100000)(h2:fl.length<=1100000)(h3:nn=rows.length/\∀r∈rows,r.length<=1100000)(J:∀y∈nW ao (xa qa na ma) acts::mK fo (xa qf nf mf) fl::Z,y∈L):S7 w qa qf qn na nf nn ma mf mn ⟨acts,fl,rows⟩:=by
 have U:=TE.ls (show TE w ao (xa qa na ma) acts from(I.at (J _ (Um ..))).p) h1;have e2:=Ts.ls (show Ts w fo (xa qf nf mf) fl from(I.at (J _ kI)).p) h2;exact⟨U.1,e2,hz.read h3 (λy hy=>(I.at (J y (Ul (Ul hy)))).p),U.2⟩
def Fo{bs:List Bk}{js:List Ik}{rs:List Rk}{Y:List Th}{x:Th}(hT:LH lb w0 w (x::(bs.map kS++(js.map lZ++(rs.map nX++Y)))))(h1:OI bs qa na ma)(h2:Ty js qf nf mf)(h3:Qk rs qn nn mn):∃z,S7 w qa qf qn na nf nn ma mf mn z:=by
 have U:∃tr,SY w qa na ma tr/\na<=ma:=by
  rcases h1 with⟨rfl,rfl,rfl⟩|⟨b,g,hb,rfl,rfl,hl,h8⟩
  .exact⟨[],Rg ⟨rfl,rfl,rfl,rfl⟩,XH⟩
  have I:=(hT.at (x:=kS b) (Ul (Wv (List.mem_map.2 ⟨b,hb,rfl⟩)))).p;exact⟨RJ na b.mr,Rc ⟨_,rfl,zp,Q1.txs (hl▸I.l) zo,by simpa using h8⟩,zo⟩
 have e2:∃tr,LsI w qf nf mf tr:=by
  rcases h2 with⟨rfl,rfl,rfl⟩|⟨b,g,hb,rfl,rfl,hl,h8⟩
  .exact⟨[],Rg ⟨rfl,rfl,rfl,rfl⟩⟩
  have I:=(hT.at (x:=lZ b) (Ul (Wm (Wv (List.mem_map.2 ⟨b,hb,rfl⟩))))).p;exact⟨RJ nf b.m,Rc ⟨_,rfl,zp,Q1.ins (hl▸I.1) zo,by simpa using h8⟩⟩
 have e3:∃tr,LsR w qn nn mn tr:=by
  rcases h3 with⟨rfl,rfl,rfl⟩|⟨b,g,hb,rfl,rfl,hl,h8⟩
  .exact⟨[],Rg ⟨rfl,rfl,rfl,rfl⟩⟩
  obtain⟨hm,I,_⟩:=(hT.at (x:=nX b) (Ul (Wm (Wm (Wv (List.mem_map.2 ⟨b,hb,rfl⟩)))))).p;refine⟨RJ nn [b.m],Rc ⟨g,0,none,rfl,zp,by simpa using h8,λj r hr=>?_⟩⟩;rw[VM] at hr
  split at hr
  .cases hr;rw[hl] at I;obtain⟨o,n',c',U,_,e3⟩:=I;cases U;obtain⟨g',e4,⟨_,_,e5⟩,e6⟩:=e3 j zo;cases e4;refine⟨rfl,dK e5,_,_,_,by rw[U2];exact e6,Rc ⟨_,rfl,rfl,λi x J=>?_,zp⟩⟩
   match i,J with
   |0,J=>cases J;exact⟨_,_,rfl,dK hm,(EQ hm 0).trans rfl⟩
   |i+1,J=>cases J
  cases hr
 obtain⟨tr,h1,hc⟩:=U;obtain⟨il,h2⟩:=e2;obtain⟨rl,h3⟩:=e3;exact⟨⟨tr,il,rl⟩,h1,h2,h3,hc⟩
def S7.lens{z:Tz}(h:S7 w ao fo no na nf nn ac fc nc z):(z.acts.length<=1100000/\z.fl.length<=1100000)/\(nn=z.nx.length/\∀r∈z.nx,r.length<=1100000):=⟨⟨h.a.len.2.1,h.f.len.2.1⟩,h.r.len.1,h.r.len.2.2.2⟩
def PH(h:Q6 lb X w0 w N)(hE:EV w0)(hN:N<=800000000)(hR:Tn lb X w0 ao fo no na nf nn ac fc nc acts fl rows vs)(az:na<=ac):
  Calls prog 99 #[xk (TT lb),.agg #[xa ao na ac,xa fo nf fc,xa no nn nc]] w λe w'=>e=xm (xn true)/\Q6 lb X w0 w' (N+nn+3):=by
 obtain⟨a,g,hg,hT⟩:=h;have ay:=hT.boxed 36 #[xa ao na ac,xa fo nf fc,xa no nn nc];have ak:=hR.atL az ay;have ad:=fy ak;have J:=fy (tX lb ak.1.a ak.1.f ak.1.r);clear hT ak;go_in;go_wp2_with fail;refine J.out.mono ?_;clear J;generalize w.alloc (xi #[xa ao na ac,xa fo nf fc,xa no nn nc] 36)=W0 at *;generalize w.heap.size=b0 at *;intro e w1 hq;obtain⟨qa,ma,qf,mf,qn,mn,Z,rfl,U,aj,aw⟩:=hq.one ad.out.1.r;have an:=(ay.holds U aj).boxed 36 #[xa qa na ma,xa qf nf mf,xa qn nn mn];have ax:=fy aw;clear hq U aj aw ay;have J:=fy (BM (an.lent ax.out ad.out.1.lens.1.1 ad.out.1.lens.1.2 ad.out.1.lens.2 (λy hy=>Ul (Wv hy))) (an.gv hE).g);go_wp2_with fail;refine J.out.mono ?_;clear J;generalize w1.alloc (xi #[xa qa na ma,xa qf nf mf,xa qn nn mn] 36)=W1 at *;generalize w1.heap.size=b1 at *;rintro e w2 ⟨I,U⟩;obtain⟨⟨s,f,rfl⟩,ai⟩:=I.two;have aq:=an.later U;have ag:=fy ai;clear I ai U an;obtain⟨p0,l0⟩:=aq.bx (b:=b0) (ty:=36) (c:=#[xa ao na ac,xa fo nf fc,xa no nn nc]) zp;have J:=fy (Ac (hR.atL az aq).1);go_wp2_with fail;refine J.out.mono ?_;clear J p0 l0;rintro e w3 ⟨I,U⟩;obtain rfl:=ag.out _ I;have ae:=aq.later U;have aB:=(hR.atL az ae).2;obtain⟨B,m1,m0,mX,aF,ae⟩:∃B,iF b1 36 #[xa qa na ma,xa qf nf mf,xa qn nn mn]∈B/\iF b0 36 #[xa ao na ac,xa fo nf fc,xa no nn nc]∈B/\(∀y∈X,y∈B)/\(X++g.T).Sublist B/\LH lb w0 w3 (a.T lb::nW ao (xa qa na ma) acts::mK fo (xa qf nf mf) fl::(Z++B)):=⟨_::_::(X++g.T),Um ..,kI,λy hy=>by simp[hy],(Vc ..).trans (Vc ..),ae.prm⟩;obtain⟨p0,l0⟩:=ae.bxB m0;obtain⟨p1,l1⟩:=ae.bxB m1;have J:=fy (Mr ae hE (hg.sm zo) hR mX (ax.out.move (λnb noff sp j e hj=>ad.out.1.r.plain e hj) (λnb noff e j hj=>(aB nb noff e j hj).trans (ad.out.2 nb noff e j hj).symm)));have HM:=fy (Rf m1 aF);clear I ag U aq aB ax ad ae m1 m0 mX aF;go_wp2_with fail;refine J.out.mono ?_;clear J p0 l0 p1 l1;rintro e w4 ⟨rfl,a',bs,js,rs,hu,hlen,aE,aC,aD,av⟩;obtain⟨z,aa⟩:=Fo av aE aC aD;have J:=fy (tX lb aa.a aa.f aa.r);obtain⟨p1,l1⟩:=av.bxB HM.out.1;clear aE aC aD;go_wp2_with fail;refine J.out.mono ?_;clear J p1 l1;intro e w5 hq;obtain⟨ra,ka,rf,kf,rn,kn,Y,rfl,U,aj,aw⟩:=hq.one aa.r;have ar:=(av.holds U aj).boxed 36 #[xa ra na ka,xa rf nf kf,xa rn nn kn];have J:=fy (BM (aa.later (MC U (gC (o:=xi #[xa ra na ka,xa rf nf kf,xa rn nn kn] 36)))) (ar.gv hE).g);obtain⟨p1,l1⟩:=ar.bxB HM.out.1;clear hq U aj av;go_wp2_with fail;refine J.out.mono ?_;clear J p1 l1;generalize w5.alloc (xi #[xa ra na ka,xa rf nf kf,xa rn nn kn] 36)=W5 at *;generalize w5.heap.size=b5 at *;rintro e w6 ⟨I,U⟩;obtain⟨⟨s2,f2,rfl⟩,ai⟩:=I.two;have au:=ar.later U;have ag:=fy ai;clear I ai U ar;obtain⟨p5,l5⟩:=au.bx (Um ..);have J:=Ac (au.lent aw aa.lens.1.1 aa.lens.1.2 aa.lens.2 (λy hy=>Ul (Wv hy)));go_wp2_with fail;refine J.mono ?_;clear J p5 l5;rintro e w7 ⟨I,U⟩;obtain rfl:=ag.out _ I;have HL:Hid (Q6 lb X w0 w7 (N+nn+3)):=Q6.up hg hu ((au.later U).sub ((((((UD _).append ((UD _).append ((UD _).append HM.out.2))).cons_cons _).trans (Xl ..)).trans (Vc ..)))) zo;clear I ag U au
 go_wp2_with (refine(lC).mono ?_)
 rintro e w8 ⟨rfl,hw8⟩;have hw:=hw8.symm;clear hw8;subst hw
 go_wp2_with (refine(lC).mono ?_)
 exact zm159
end
end Go.Proofs.YtidakhhekofkoaaGreatDoor
