import Derived.Test.YtidakhhekofkoaaGreatDoorT06
import Derived.Laws.EntriesVeiled
import Derived.Test.YtidakhhekofkoaaGreatDoorT07
import Derived.Laws.CopyOwn
set_option linter.all false
set_option maxHeartbeats 8000000
set_option maxRecDepth 100000
namespace Go.Proofs
def Vm:=@Go.Addr.add_lit
def Wx:=@Go.wpList_make_full
end Go.Proofs
namespace Go.Proofs.YtidakhhekofkoaaGreatDoor
attribute [local go_sem] TT TU TV XL
attribute [local simp] TT TU TV XL
open Go.Proofs.Tryz
open Go.RowKit Go.Deep
open Value renaming slice->xa,int->xd,string->xj,pointer->xk,bool->xn
open IntKind renaming i64->xh
open Obj renaming cells->xi
open Ending renaming returned->xm
open List renaming replicate->Ra,length->Ro,all_eq_true->RC
open World renaming cell?->RA
open Or renaming inl->Rp,inr->Rr
variable{zq:Prop}
variable{w w' W W' w2 w0:Uc}{b n cb B kb ac nn nc n1 k1 n2 k2 nx hr lb H sc wh tc M N bytes nb:Nat}{t xx:Tk}{r ks:T9}{A al:TY}{x m:T3}{fp cp o1 o2 p q pa pb o so tt fo:TX}{tk:Int}{cs xs:TW}{cur:T1}{rs:T6}{a ev:Ub}{tr:TZ}{e:Ending}{mv:Ud}{ops:Array Oper}{Q:Exit->Act->Uc->Prop}{i:TypeInfo}{f:Nat->Bool}{R:List (Nat->Bool)}{us:T5}{L:List Nd}{d:Nd}{ns:T8}
def zm29(h:zq:=by
 go_in;go_wp2
 go_loopw [5] (λx wr=>∃k:Nat,k<=n/\x=xd xh k/\Hid (w=wr)) (λx _=>n-(intOf x).toNat)
 .exact⟨0,Ux,rfl,rfl⟩
 obtain⟨k,hk,rfl,HW⟩:=hrel;have hw:=HW.out;subst hw;clear HW;rcases zc k n with⟨hlt,hkn⟩|⟨hlt,hkn⟩
 .obtain⟨b,rfl,⟨_,_,hb0⟩,hc⟩:=H.out k hlt;clear hb0;go_wp2
  go_roundw
  .exact⟨k+1,zo,zf,trivial⟩
  simp[intOf];omega
 go_wp2;go_ret;simp
 ):zq:=h
def zm31(h:zq:=by
 rintro e w1 ⟨v,rfl,hv,hb⟩;have HV:=fy hv;clear hv;go_wp2;go_ret;exact⟨v,rfl,HV.out,hb⟩
 ):zq:=h
def zm59(h:zq:=by
 have HB:=HB.out.trans (hb5.mono HB.out.size);clear h5 hb5;go_wp2;go_ret;exact⟨p5,rfl,G5,HB⟩
 ):zq:=h
def zm91(h:zq:=by
 have HB:=HB.out.trans (hb3.mono HB.out.size);clear h3 hb3;go_wp2;go_ret;exact⟨p3,rfl,G3,HB⟩
 ):zq:=h
def zm107(h:zq:=by
 obtain⟨_,h2|⟨g,cap,cur,hv,_,hh,hle,hcap,_,htake⟩⟩:=h
 .simp_all
 simp_all
 ):zq:=h
def zm120(h:zq:=by
 rintro e w4 ⟨p4,rfl,h4,hb4⟩;have G4:=h4 G3;have HB:=HB.out.trans (hb4.mono HB.out.size);clear h4 hb4;go_wp2;go_ret;exact⟨p4,rfl,G4,HB⟩
 ):zq:=h
def zm127(h:zq:=by
 go_in;go_wp2;go_ret;exact⟨ja (by rw[HB.out];rfl),gC⟩
 ):zq:=h
def zm172(h:zq:=by
 rintro e w1 ⟨rfl,hb1⟩;go_wp2;go_ret;exact⟨rfl,gC.trans (hb1.mono zp)⟩
 ):zq:=h
def zm178(h:zq:=by
 show _=_;rw[HY.out,HFA.out,iO,q9,HBAD.out,Uh rfl,iO];rfl
 ):zq:=h
def wU:List (T9):=[[105,110,105,116],[108,97,115,116],[115,111,109,101],[102,101,119],[114,101,115,112,111,110,115,101],[112,114,101,99,101,100,101],[99,104,97,105,110],[98,101,102,111,114,101],[119,105,116,104],[97,112,97,114,116],[110,101,118,101,114],[110,111,116,110,101,120,116]]
def sQ(l:T9):List (T9)->Nat->Nat
 |[],k=>k
 |x::r,k=>if l=x then k else sQ l r (k+1)
def He{l:T9}:gW l=sQ l wU 0:=rfl
def sZ(k:Nat):Ub:=⟨(wU.getD k []).toArray⟩
def kP(k:Nat):Nat:=[228,229,230,232,234,235,236,237,238,239,240,241].getD k 0
def mO(b k:Nat):Nat:=if k<=1 then b else if k<=3 then b+1+1 else b+1
def jY(k:Nat):Nat:=if k<=1 then 1 else 2
def DE(b:Nat):T1:=#[xj ⟨#[105,110,105,116]⟩,xa (TT b) 1 1,.func (.func 228) #[] #[],xj ⟨#[108,97,115,116]⟩,xa (TT b) 1 1,.func (.func 229) #[] #[],xj ⟨#[115,111,109,101]⟩,xa (TT (b+1+1)) 2 2,.func (.func 230) #[] #[],xj ⟨#[102,101,119]⟩,xa (TT (b+1+1)) 2 2,.func (.func 232) #[] #[],xj ⟨#[114,101,115,112,111,110,115,101]⟩,xa (TT (b+1)) 2 2,.func (.func 234) #[] #[],xj ⟨#[112,114,101,99,101,100,101]⟩,xa (TT (b+1)) 2 2,.func (.func 235) #[] #[],xj ⟨#[99,104,97,105,110]⟩,xa (TT (b+1)) 2 2,.func (.func 236) #[] #[],xj ⟨#[98,101,102,111,114,101]⟩,xa (TT (b+1)) 2 2,.func (.func 237) #[] #[],xj ⟨#[119,105,116,104]⟩,xa (TT (b+1)) 2 2,.func (.func 238) #[] #[],xj ⟨#[97,112,97,114,116]⟩,xa (TT (b+1)) 2 2,.func (.func 239) #[] #[],xj ⟨#[110,101,118,101,114]⟩,xa (TT (b+1)) 2 2,.func (.func 240) #[] #[],xj ⟨#[110,111,116,110,101,120,116]⟩,xa (TT (b+1)) 2 2,.func (.func 241) #[] #[]]
def Ha{k:Nat}(h:k<12):k=0\/k=1\/k=2\/k=3\/k=4\/k=5\/k=6\/k=7\/k=8\/k=9\/k=10\/k=11:=zo
def PB(b k:Nat)(h:k<12):(DE b)[k*3]?=some (xj (sZ k))/\(DE b)[k*3+1]?=some (xa (TT (mO b k)) (jY k) (jY k))/\(DE b)[k*3+2]?=some (.func (.func (kP k)) #[] #[]):=by
 rcases Ha h with rfl|rfl|rfl|rfl|rfl|rfl|rfl|rfl|rfl|rfl|rfl|rfl<;>exact⟨rfl,rfl,rfl⟩
def Ed(l:T9)(k:Nat)(h:k<12):sQ l (wU.drop k) k=if l=(sZ k).toList then k else sQ l (wU.drop (k+1)) (k+1):=by
 have I:k<wU.length:=h;have e:wU.drop k=wU.getD k []::wU.drop (k+1):=by
  rw[UK I];simp[List.getD,Uq I]
 have J:(sZ k).toList=wU.getD k []:=by rw[Ui];rfl
 rw[e,sQ,J]
structure S1(w:Uc)(b:Nat):Prop where
 b0:w.heap[b]?=some (xi #[xd xh 0] 314 (0,0))
 b1:w.heap[b+1]?=some (xi #[xd xh 0,xd xh 0] 314 (0,0))
 b2:w.heap[b+1+1]?=some (xi #[xd xh 0,xd xh 1] 314 (0,0))
def S1.later(h:S1 w b)(I:XL w w'):S1 w' b:=
 ⟨(I.block _ (dK h.b0)).trans h.b0,(I.block _ (dK h.b1)).trans h.b1,(I.block _ (dK h.b2)).trans h.b2⟩
def BB:
  Calls prog 195 #[] w λe w'=>e=xm (xa (TT (w.heap.size+1+1+1)) 12 12)/\w'=(((w.alloc (xi #[xd xh 0] 314)).alloc (xi #[xd xh 0,xd xh 0] 314)).alloc (xi #[xd xh 0,xd xh 1] 314)).alloc (xi (DE w.heap.size) 265):=by
 go_in;go_wp2;go_ret;trivial
def J9(s : Ub)(w w' : Uc)(e : Ending) : Prop :=
  XL w w' /\∃ b,w.heap.size <= b /\ S1 w' b /\
    ((gW s.toList <= 11 /\ e =xm (.tuple #[.agg #[xj (sZ (gW s.toList)),(xa (some ⟨mO b (gW s.toList),0,none⟩) (jY (gW s.toList)) (jY (gW s.toList))),(.func (.func (kP (gW s.toList))) #[] #[])],xn true])) \/
     (¬ gW s.toList <= 11 /\ e =xm (.tuple #[.agg #[xj ⟨#[]⟩,TV,.nilFunc],xn false])))
def tf{s:Ub}:Calls prog 163 #[xj s] w λe w'=>J9 s w w' e:=by
 go_in;go_wp2_with fail;refine(BB).mono ?_;rintro e w1 ⟨rfl,I⟩;have ae:(w.alloc (xi #[xj ⟨#[]⟩,TV,.nilFunc] 265)).heap.size=w.heap.size+1:=zp;rw[ae] at I;simp only[ae];have hrb:w1.heap[w.heap.size]?=some (xi #[xj ⟨#[]⟩,TV,.nilFunc] 265 (0,0)):=by
  rw[I];exact(XD zs).trans ((XD zs).trans ((XD zs).trans ((XD zp).trans (gi _ _))))
 have ar:S1 w1 (w.heap.size+1):=by
  rw[I];exact⟨(XD zp).trans ((XD zp).trans ((XD zp).trans (gu zp))),(XD zp).trans ((XD zp).trans (gu zp)),(XD zp).trans (gu zp)⟩
 have htb:w1.heap[w.heap.size+1+1+1+1]?=some (xi (DE (w.heap.size+1)) 265 (0,0)):=by
  rw[I];exact gu zp
 have hB:XL w w1:=by
  rw[I];exact(((gC.alloc zp _).alloc zs _).alloc zs _).alloc zs _
 generalize htbe:w.heap.size+1+1+1+1=tb at *;have aj:=hrb;have ak:=htb;clear I ae hrb htb htbe;go_wp2
 go_loopw [8] (λi wr=>∃k:Nat,i=xd xh (k:Int)/\k<=12/\Hid (gW s.toList=sQ s.toList (wU.drop k) k)/\XL w1 wr) (λi _=>12-(intOf i).toNat)
 .exact⟨0,rfl,zo,He,XF⟩
 obtain⟨k,rfl,hk12,H,hb⟩:=hrel;have hrb:=(hb.block _ (dK aj)).trans aj;have htb:=(hb.block _ (dK ak)).trans ak;have U:=ar.later hb;have aq:=dK hrb;have rc:=EQ hrb;have rf:=gh hrb;by_cases hk:k<12
 .obtain⟨c0,c1,c2⟩:=PB (w.heap.size+1) k hk;have d0:=(EQ htb (k*3)).trans c0;have d1:=(EQ htb (k*3+1)).trans c1;have d2:=(EQ htb (k*3+2)).trans c2;have HS:=fy (Ed s.toList k hk);clear htb c0 c1 c2;go_wp2_with fail
  .have he:s.toList=(sZ k).toList:=za;have ao:gW s.toList=k:=by rw[H.out,HS.out,Uh he]
   have J:(((wr.setCell (TU w.heap.size 0) (xj (sZ k))).setCell (TU w.heap.size 1) (xa (TT (mO (w.heap.size+1) k)) (jY k) (jY k))).setCell (TU w.heap.size 2) (.func (.func (kP k)) #[] #[])).heap[w.heap.size]?=some (xi #[xj (sZ k),(xa (TT (mO (w.heap.size+1) k)) (jY k) (jY k)),(.func (.func (kP k)) #[] #[])] 265 (0,0)):=gj (gj (gj hrb 0 _) 1 _) 2 _;have ag:=EQ J;clear rc;refine py (v:=.tuple #[.agg #[xj (sZ k),(xa (TT (mO (w.heap.size+1) k)) (jY k) (jY k)),(.func (.func (kP k)) #[] #[])],xn true]) (by simp[results,results163,go_sem,ag,aq]) rfl ?_;refine⟨((((hB.trans (hb.mono hB.size)).setCell (XH) _).setCell (XH) _).setCell (XH) _).alloc (by simp[World.setCell];omega) _,w.heap.size+1,zo,?_,Rp ⟨zo,by rw[ao]⟩⟩;have h3:=U;exact(show S1 _ _ from⟨(XE zp).trans ((XE zp).trans ((XE zp).trans h3.b0)),(XE (by show w.heap.size+1+1≠w.heap.size;omega)).trans ((XE (by show w.heap.size+1+1≠w.heap.size;omega)).trans ((XE (by show w.heap.size+1+1≠w.heap.size;omega)).trans h3.b1)),(XE (by show w.heap.size+1+1+1≠w.heap.size;omega)).trans ((XE (by show w.heap.size+1+1+1≠w.heap.size;omega)).trans ((XE (by show w.heap.size+1+1+1≠w.heap.size;omega)).trans h3.b2))⟩).later gC
  have he:¬ s.toList=(sZ k).toList:=by intro e;simp_all
  go_round
  .exact⟨k+1,zf,zo,by show _=_;rw[H.out,HS.out,T' he],hb.alloc hb.size _⟩
  simp[intOf];omega
 have an:k=12:=zo;have HK:=fy an;clear htb an;go_wp2_with fail;have ao:gW s.toList=12:=by rw[H.out,HK.out];rfl
 have J:(((wr.setCell (TU w.heap.size 0) (xj ⟨#[]⟩)).setCell (TU w.heap.size 1) TV).setCell (TU w.heap.size 2) .nilFunc).heap[w.heap.size]?=some (xi #[xj ⟨#[]⟩,TV,.nilFunc] 265 (0,0)):=gj (gj (gj hrb 0 _) 1 _) 2 _;have ag:=EQ J;clear rc;refine py (v:=.tuple #[.agg #[xj ⟨#[]⟩,TV,.nilFunc],xn false]) (by simp[results,results163,go_sem,ag]) rfl ?_;refine⟨(((hB.trans (hb.mono hB.size)).setCell (XH) _).setCell (XH) _).setCell (XH) _,w.heap.size+1,zo,?_,Rr ⟨zo,rfl⟩⟩;have h3:=U;exact⟨(XE zp).trans ((XE zp).trans ((XE zp).trans h3.b0)),(XE (by show w.heap.size+1+1≠w.heap.size;omega)).trans ((XE (by show w.heap.size+1+1≠w.heap.size;omega)).trans ((XE (by show w.heap.size+1+1≠w.heap.size;omega)).trans h3.b1)),(XE (by show w.heap.size+1+1+1≠w.heap.size;omega)).trans ((XE (by show w.heap.size+1+1+1≠w.heap.size;omega)).trans ((XE (by show w.heap.size+1+1+1≠w.heap.size;omega)).trans h3.b2))⟩
def yC{c:UInt8}(w:Uc)(hs:t.s=⟨#[c]⟩)(h1:48<=c.toNat)(h2:c.toNat<=57):
  Calls prog 161 #[jm t] w λe w'=>e=xm (xd xh ((c.toNat-48:Nat):Int))/\XL w w':=by
 unfold jm;rw[hs];clear hs;go_in;go_wp2;go_ret;refine⟨oH ?_,gC⟩;show((c.toNat:Int)-48)%256=_;omega
def FA(t:Tk):Prop:=t.k=2\/(t.k=3/\∃d:UInt8,t.s=⟨#[d]⟩/\48<=d.toNat/\d.toNat<=57)
def xH(c:UInt8):Int:=if c.toNat=110 then 0 else 1
def KL(t:Tk)(c:UInt8)(w:Uc)(hc:c=110\/c=100)(ht:FA t):
  Calls prog 194 #[jm t,xd xh (xH c)] w λe w'=>e=xm (xn (!iN [c] t))/\XL w w':=by
 rcases hc with rfl|rfl
 .have hp:xH 110=0:=rfl;rw[hp];rcases ht with hk|⟨hk,d,hd,h1,h2⟩
  .have e2:((t.k:Int)==2)=true:=nv (c:=2) hk;have HB:Hid (iN [110] t=false):=by show _=_;simp[iN,hk]
   unfold jm;clear hk hp;exact zm127
  have e2:((t.k:Int)==2)=false:=iL (c:=2) zo;have HB:Hid (iN [110] t=true):=by show _=_;simp[iN,hk]
  unfold jm;clear hk hp hd h1 h2;exact zm127
 have hp:xH 100=1:=rfl;rw[hp];rcases ht with hk|⟨hk,d,hd,h1,h2⟩
 .have e3:((t.k:Int)==3)=false:=iL (c:=3) zo;have HB:Hid (iN [100] t=true):=by show _=_;simp[iN,hk]
  unfold jm;clear hk hp;exact zm127
 have e3:((t.k:Int)==3)=true:=nv (c:=3) hk;have HB:Hid (iN [100] t=(decide (d.toNat<49)||decide (51<d.toNat))):=by show _=_;simp[iN,hk,hd]
 have HN:=fy (λw=>yC w hd h1 h2);obtain⟨m,hm⟩:∃m:Nat,m=d.toNat-48:=⟨_,rfl⟩;rw[<-hm] at HN;have HM:=fy hm;have hm9:m<=9:=zo;have HD:=fy h1;clear hk hp hd hm h1 h2;by_cases hz:(1:Int)<=(m:Int)
 .by_cases h3:(m:Int)<=3
  .have HR:Hid ((!(decide (d.toNat<49)||decide (51<d.toNat)))=true):=by
    have:=HM.out;have:=HD.out;show _=_;rw[Uy zo,Uy zo];rfl
   go_in;unfold jm at *
   go_wp2_with (go_at_call 161;refine(HN.out _).mono ?_;rintro e w1 ⟨rfl,I⟩;have U:=fy I;have J:=(I.block w.heap.size zp).trans (gi _ _);have xc:=λo=>EQ J o;have ai:w.heap.size<w1.heap.size:=dK J;clear I J)
   refine(HN.out _).mono ?_;rintro e w2 ⟨rfl,aa⟩;go_wp2;go_ret;exact⟨ja (by rw[HB.out,HR.out]),(gC.trans (U.out.mono zp)).trans (aa.mono zo)⟩
  have HR:Hid ((!(decide (d.toNat<49)||decide (51<d.toNat)))=false):=by
   have:=HM.out;have:=HD.out;show _=_;rw[UH (p:=51<d.toNat) zo];simp
  go_in;unfold jm at *
  go_wp2_with (go_at_call 161;refine(HN.out _).mono ?_;rintro e w1 ⟨rfl,I⟩;have U:=fy I;have J:=(I.block w.heap.size zp).trans (gi _ _);have xc:=λo=>EQ J o;have ai:w.heap.size<w1.heap.size:=dK J;clear I J)
  refine(HN.out _).mono ?_;rintro e w2 ⟨rfl,aa⟩;go_wp2;go_ret;exact⟨ja (by rw[HB.out,HR.out];simp_all),(gC.trans (U.out.mono zp)).trans (aa.mono zo)⟩
 have HR:Hid ((!(decide (d.toNat<49)||decide (51<d.toNat)))=false):=by
  have:=HM.out;have:=HD.out;show _=_;rw[UH (p:=d.toNat<49) zo];simp
 go_in;unfold jm at *
 go_wp2_with (go_at_call 161;refine(HN.out _).mono ?_;rintro e w1 ⟨rfl,I⟩;have U:=fy I;have J:=(I.block w.heap.size zp).trans (gi _ _);have xc:=λo=>EQ J o;have ai:w.heap.size<w1.heap.size:=dK J;clear I J)
 go_ret;exact⟨ja (by rw[HB.out,HR.out]),gC.trans (U.out.mono zp)⟩
def PD(h:n<=11):(iD n).length=jY n:=by
 unfold iD jY
 repeat' split
 all_goals rfl
def Ol{k:Nat}{c:UInt8}(h:S1 w b)(hn:n<=11)(J:(iD n).drop k=c::r):w.cell? (TU (mO b n) k)=some (xd xh (xH c))/\(c=110\/c=100)/\mO b n<w.heap.size:=by
 have I:k<(iD n).length:=by
  rcases UU k (iD n).length with h|h
  .omega
  rw[UX h] at J;cases J
 rcases vw hn with⟨ht,hl⟩|⟨ht,hl⟩|⟨ht,hl⟩
 .have U:mO b n=b:=Uh hl;rw[ht] at J I;have:k=0:=za;subst this;have hc:=((Vb J).1).symm;subst hc;rw[U];exact⟨EQ h.b0 0,Rp rfl,dK h.b0⟩
 .have U:mO b n=b+1+1:=by unfold mO;rw[T' zo,Uh hl.2]
  rw[ht] at J I;rw[U];have:k=0\/k=1:=by simp at I;omega
  rcases this with rfl|rfl
  .have hc:=((Vb J).1).symm;subst hc;exact⟨EQ h.b2 0,Rp rfl,dK h.b2⟩
  have hc:=((Vb J).1).symm;subst hc;exact⟨EQ h.b2 1,Rr rfl,dK h.b2⟩
 have U:mO b n=b+1:=by unfold mO;rw[T' zo,T' zo]
 rw[ht] at J I;rw[U];have:k=0\/k=1:=by simp at I;omega
 rcases this with rfl|rfl
 .have hc:=((Vb J).1).symm;subst hc;exact⟨EQ h.b1 0,Rp rfl,dK h.b1⟩
 have hc:=((Vb J).1).symm;subst hc;exact⟨EQ h.b1 1,Rp rfl,dK h.b1⟩
theorem nk{ty:Nat}{c:T1}(hc:CK w cb B A x)(hf:CF cb B w w')(J:w.heap[b]?=some (xi c ty m))(I:ty≠9)(h2:ty≠198):w'.heap[b]?=some (xi c ty m):=
 Cc hf J I (by
  rintro rfl;obtain⟨ao,an,ac,h3,_⟩:=hc.blk;simp_all)
structure QS(W:Uc)(kb g b tb:Nat)(r:Rl)(ac:Nat)(xx:Tk)(n:Nat):Prop where
 kx:W.heap[kb]?=some (ny r.word (TT g) r.args.length ac xx)
 gx:∃cur,W.heap[g]?=some (xi cur 201 (0,0))/\cur.toList.take (r.args.length*3)=gM r.args
 tk:S1 W b
 tx:W.heap[tb]?=some (xi #[xj (sZ n),xa (TT (mO b n)) (jY n) (jY n),.func (.func (kP n)) #[] #[]] 265 (0,0))
def QS.keep(hc:CK w cb B A x)(hf:CF cb B w w'){g tb:Nat}{r:Rl}(h:QS w kb g b tb r ac xx n):QS w' kb g b tb r ac xx n:=by
 obtain⟨cur,I,J⟩:=h.gx;exact⟨nk hc hf h.kx zp zp,⟨cur,nk hc hf I zp zp,J⟩,⟨nk hc hf h.tk.b0 zp zp,nk hc hf h.tk.b1 zp zp,nk hc hf h.tk.b2 zp zp⟩,nk hc hf h.tx zp zp⟩
def KJ{l:TY}{k:Nat}{r:TY}(h:l.drop k=t::r):Pa A (ks.drop k) (l.drop k)=q9 A (ks.drop k) t++Pa A (ks.drop (k+1)) (l.drop (k+1)):=by
 rw[h,lG h,Pa,WC]
def DT{k:Nat}{c:UInt8}(h:ks.drop k=c::r):iN (ks.drop k) t=iN [c] t:=by rw[h];rfl
def F2{k:Nat}(h:ks.length<=k):iN (ks.drop k) t=true:=by rw[UX h];rfl
def Bi(B:Nat)(A:TY)(x:T3)(r:Rl)(g:Nat)(h:CK w cb B A x)
  (hk:w.heap[kb]?=some (ny r.word (TT g) r.args.length ac xx))(hx:xx.p=r.fin)(aF:∃cur,w.heap[g]?=some (xi cur 201 (0,0))/\cur.toList.take (r.args.length*3)=gM r.args)(aj:∀t∈r.args,FA t)(hl:r.args.length<=2):
  Calls prog 160 #[xk (TT cb),xk (TT kb)] w λe w'=>e=xm (.tuple #[])/\CK w' cb B A (gS x (pW A r))/\CF cb B w w':=by
 have HC:=h;have HX:=fy hx;have aE:=fy aF;have aU:=fy aj;unfold ny at hk;have kc:=EQ hk;clear h hx aF aj;go_in;go_wp2_with fail;refine(oW HC).mono ?_;rintro e w1 ⟨rfl,a8,az⟩;have aB:=nk HC az hk zp zp;have ar:∃cur,w1.heap[g]?=some (xi cur 201 (0,0))/\cur.toList.take (r.args.length*3)=gM r.args:=by
  obtain⟨cur,h1,h2⟩:=aE.out;exact⟨cur,nk HC az h1 zp zp,h2⟩
 have ai:=fy ar;have bc:=dK aB;clear kc;have kc:=EQ aB;clear ar aE hk;go_wp2_with fail;refine(tf).mono ?_;rintro e w2 ⟨ak,b,hbb,bj,aM⟩;have aV:=a8.later ak;have aX:=az.trans (CF.below ak);have J:=(ak.block _ bc).trans aB;have au:∃cur,w2.heap[g]?=some (xi cur 201 (0,0))/\cur.toList.take (r.args.length*3)=gM r.args:=by
  obtain⟨cur,h1,h2⟩:=ai.out;exact⟨cur,(ak.block _ (dK h1)).trans h1,h2⟩
 have bt:=J;have aH:=fy au;have bd:=dK J;clear kc;have kc:=EQ J;clear ak J au aB ai a8 az;rcases aM with⟨hn,rfl⟩|⟨hn,rfl⟩
 .obtain⟨n,aQ⟩:∃n,n=gW r.word.s.toList:=⟨_,rfl⟩;rw[<-aQ] at hn|-;have ax:Hid (gS x (pW A r)=gS (gS (gS x (jw r.word)) (Pa A (iD n) r.args)) (if r.args.length<(iD n).length then [(r.fin,4)] else [])):=by
   show _=_;unfold pW;rw[<-aQ,Uh hn,iO,iO]
  have bm:=PD hn;have ay:=fy bm;clear aQ bm;go_wp2
  go_loopw [37] (λi wr=>∃(k:Nat)(y:T3),i=xd xh (k:Int)/\k<=r.args.length/\CK wr cb B A y/\CF cb B w wr/\Hid (gS (gS x (jw r.word)) (Pa A (iD n) r.args)=gS y (Pa A ((iD n).drop k) (r.args.drop k)))/\QS wr kb g b w2.heap.size r ac xx n) (λi _=>r.args.length-(intOf i).toNat)
  .obtain⟨cur,h1,h2⟩:=aH.out;refine⟨0,gS x (jw r.word),rfl,Ux,aV.alloc _,aX.trans (CF.below gC),rfl,⟨(XD bd).trans bt,⟨cur,(XD (dK h1)).trans h1,h2⟩,bj.later gC,gi _ _⟩⟩
  clear kc;obtain⟨k,y,rfl,hkk,aa,aA,HY,hq⟩:=hrel;have aC:=hq.kx;have aR:=hq.tx;unfold ny at aC;have kc:=EQ aC;have tc:=EQ aR;by_cases hlt:k<r.args.length
  .obtain⟨t,rr,ht⟩:∃t rr,r.args.drop k=t::rr:=by
    cases hd:r.args.drop k with
    |nil=>have:=congrArg Ro hd;simp at this;omega
    |cons t rr=>simp
   obtain⟨c0,c1,c2⟩:=mZ hq.gx ht;have bE:=aU.out t (Vk (by rw[ht];simp));have HFA:=fy (KJ (A:=A) (ks:=iD n) ht);clear aC aR ht
   go_upto_if 44 with fail
   go_cut [] (λwc=>CK wc cb B A (gS y (if t.k=2 then iW A t.s t.p else []))/\CF cb B w wc/\QS wc kb g b w2.heap.size r ac xx n/\wc.heap[wr.heap.size]?=some (xi #[xd xh t.k,xj t.s,xd xh t.p] 201 (0,0)))
   case first=>
    by_cases J:t.k=2
    .have e2:=nv (c:=2) J;have HT:Hid (gS y (if t.k=2 then iW A t.s t.p else [])=gS y (iW A t.s t.p)):=by show _=_;rw[Uh J]
     clear J;go_wp2_with fail;refine(sE (aa.alloc _)).mono ?_;rintro e w3 ⟨rfl,aK,aO⟩;go_wp2_with fail
     go_meet
     rw[HT.out];refine⟨aK,(aA.trans (CF.below gC)).trans aO,?_,nk (aa.alloc _) aO (gi _ _) zp zp⟩;exact QS.keep (aa.alloc _) aO (QS.keep aa (CF.below (cb:=cb) (B:=B) gC) hq)
    .have e2:=iL (c:=2) J;have HT:Hid (gS y (if t.k=2 then iW A t.s t.p else [])=y):=by show _=_;rw[T' J];rfl
     clear J;go_wp2_with fail
     go_meet
     rw[HT.out];exact⟨aa.alloc _,aA.trans (CF.below gC),QS.keep aa (CF.below (cb:=cb) (B:=B) gC) hq,gi _ _⟩
   clear kc tc c0 c1 c2;obtain⟨an,aP,aq,ad⟩:=hcut;have av:=aq.tx;have bn:=dK av;have ae:=dK ad;have tc:=EQ av;have xc:=EQ ad;clear av;generalize wr.heap.size=xb at *;by_cases hkn:(iD n).length<=k
   .have bC:((jY n:Nat):Int)<=(k:Int):=by rw[<-ay.out];omega
    have HBAD:=fy (F2 (t:=t) hkn);go_wp2_with fail;refine R' (S:=λw'=>w'.cell? (TU w2.heap.size 1)=some (xa (TT (mO b n)) (jY n) (jY n))/\w'.cell? (TU xb 0)=some (xd xh t.k)/\w'.cell? (TU xb 1)=some (xj t.s)/\w'.cell? (TU xb 2)=some (xd xh t.p)) zk ?_ (λI=>?_)
    .simp_all
    apply zt1 0 (xd xh (k:Int)) I;apply zt1 1 (xk (some (TU w2.heap.size 1))) I;apply zt1 2 (xa (TT (mO b n)) (jY n) (jY n)) I;apply zt1 3 (xd xh (jY n:Int)) I;apply zt1 4 (xn true) I;apply zt1 5 (xn true) I;apply zuH 6 I;apply zuH 7 I;apply zuH 8 I;apply zuH 9 I;apply zuH 10 I;apply zuH 11 I;apply zuH 12 I;apply zuH 13 I;apply zt1 14 (xn true) I;refine Ut zk ?_ _;clear I;clear tc xc;have xc:=EQ ad;go_wp2_with fail;refine(mG t.p 4 (an.later (XF).drew)).mono ?_;rintro e w5 ⟨rfl,bw,ba⟩;have ag:=(CF.below (cb:=cb) (B:=B) (Uo wc.heap.size wc).drew).trans (CF.grown ba);clear ba;go_wp2
    go_roundw
    .refine⟨k+1,_,zf,zo,bw,aP.trans ag,?_,QS.keep an ag aq⟩;exact zm178
    simp[intOf];omega
   have hlk:k<(iD n).length:=zo;obtain⟨c,rc,aN⟩:∃c rc,(iD n).drop k=c::rc:=by
    cases hd:(iD n).drop k with
    |nil=>have:=congrArg Ro hd;simp at this;omega
    |cons c rc=>simp
   have hlk2:k<jY n:=by rw[<-ay.out];omega
   obtain⟨pc,bA,bl⟩:=Ol aq.tk hn aN;have bC:¬ ((jY n:Nat):Int)<=(k:Int):=zo;have aJ:=DT (t:=t) aN;obtain⟨v,hv⟩:∃v,v=iN [c] t:=⟨_,rfl⟩;have aD:=fy (λW=>KL t c W bA bE);rw[<-hv] at aJ aD;have HBAD:=fy aJ;clear aN aJ hv hkn;go_wp2_with fail;refine R' (S:=λw'=>w'.cell? (TU w2.heap.size 1)=some (xa (TT (mO b n)) (jY n) (jY n))/\w'.cell? (TU xb 0)=some (xd xh t.k)/\w'.cell? (TU xb 1)=some (xj t.s)/\w'.cell? (TU xb 2)=some (xd xh t.p)/\w'.cell? (TU (mO b n) k)=some (xd xh (xH c))) zk ?_ (λI=>?_)
   .simp_all
   apply zt1 0 (xd xh (k:Int)) I;apply zt1 1 (xk (some (TU w2.heap.size 1))) I;apply zt1 2 (xa (TT (mO b n)) (jY n) (jY n)) I;apply zt1 3 (xd xh (jY n:Int)) I;apply zt1 4 (xn false) I;apply zt1 5 (xn false) I;apply zt1 6 (.agg #[xd xh t.k,xj t.s,xd xh t.p]) I;apply zt1 7 (xk (some (TU w2.heap.size 1))) I;apply zt1 8 (xa (TT (mO b n)) (jY n) (jY n)) I;apply zt1 9 (xd xh (k:Int)) I;apply zt1 10 (xk (some (TU (mO b n) k))) I;apply zt1 11 (xd xh (xH c)) I;apply zrH 12;intro K hK;go_simp
   go_wp2_with (refine(aD.out _).mono ?_;rintro e w5 ⟨rfl,U⟩)
   have bh:w5.cell? (TU w2.heap.size 1)=some (xa (TT (mO b n)) (jY n) (jY n))/\w5.cell? (TU xb 0)=some (xd xh t.k)/\w5.cell? (TU xb 1)=some (xj t.s)/\w5.cell? (TU xb 2)=some (xd xh t.p)/\w5.cell? (TU (mO b n) k)=some (xd xh (xH c)):=
    ⟨(Fd U _ _ bn).trans (tc 1),(Fd U _ _ ae).trans (xc 0),(Fd U _ _ ae).trans (xc 1),(Fd U _ _ ae).trans (xc 2),(Fd U _ _ bl).trans pc⟩
   refine hK.out _ _ bh (λI=>?_);clear hK K bh;have aW:=an.later (((XF).drew).trans U);have ag:=CF.below (cb:=cb) (B:=B) (((Uo wc.heap.size wc).drew).trans U);have a7:=(U.block _ ae).trans ad;clear U tc xc pc;apply zt1 13 (xn v) I;apply zt1 14 (xn v) I;refine Ut zk ?_ _;clear I;have xc:=EQ a7;cases v with
   |true=>
    go_wp2_with fail;refine(mG t.p 4 aW).mono ?_;rintro e w6 ⟨rfl,aL,ao⟩;have aw:=ag.trans (CF.grown ao);clear ao;go_wp2
    go_roundw
    .refine⟨k+1,_,zf,zo,aL,aP.trans aw,?_,QS.keep an aw aq⟩;exact zm178
    simp[intOf];omega
   |false=>
    go_wp2
    go_roundw
    .refine⟨k+1,_,zf,zo,aW,aP.trans ag,?_,QS.keep an ag aq⟩;show _=_;rw[HY.out,HFA.out,iO,q9,HBAD.out,iO];rfl
    simp[intOf];omega
  have bD:r.args.length<=k:=zo;have aY:Hid (gS (gS x (jw r.word)) (Pa A (iD n) r.args)=y):=by
   show _=_;rw[HY.out,UX bD,Pa];rfl
  clear aC aR;by_cases hll:r.args.length<(iD n).length
  .have bf:(r.args.length:Int)<((jY n:Nat):Int):=by rw[<-ay.out];omega
   have aG:=fy hll;clear hll;go_wp2;go_quiet (fail);go_wp2_with fail;refine(mG xx.p 4 (aa.later (iK _ _))).mono ?_;rintro e w6 ⟨rfl,aL,ao⟩;have aw:=(CF.below (cb:=cb) (B:=B) (iK wr nq)).trans (CF.grown ao);clear ao;go_wp2;go_end0;rw[ax.out,aY.out,Uh aG.out,JO,<-HX.out];exact⟨rfl,aL,aA.trans aw⟩
  have bf:¬ (r.args.length:Int)<((jY n:Nat):Int):=by rw[<-ay.out];omega
  have aG:=fy hll;clear hll;go_wp2;go_quiet (fail);go_wp2;go_end0;rw[ax.out,aY.out,T' aG.out,JN];exact⟨rfl,aa.later (iK _ _),aA.trans (CF.below (iK _ _))⟩
 have ax:Hid (gS x (pW A r)=St (gS x (jw r.word)) r.word.p 3):=by
  show _=_;unfold pW;rw[T' hn,iO];rfl
 clear hn;go_wp2_with fail;refine(mG r.word.p 3 (aV.alloc _)).mono ?_;rintro e w3 ⟨rfl,aK,bB⟩;go_wp2_with fail;refine py (v:=.tuple #[]) (by simp[results,results160,go_sem]) rfl ?_;rw[ax.out];exact⟨rfl,aK,(aX.trans (CF.below gC)).trans (CF.grown bB)⟩
theorem KQ.cf(hc:CK w cb B A x)(hf:CF cb B w w'):KQ w w':=by grind[nk,KQ]
def uP(r:Rl):TY:=if r.call=true then [] else lJ r.f
def R4.names{r:Rl}{no:TX}(h:R4 w r fp no nn nc cp):w.ownsRow 0 201 3 (xa no nn nc) (uP r).length (gM (uP r)):=by
 unfold R4 at h;unfold uP;by_cases hc:r.call=true
 .rw[Uh hc] at h;obtain⟨_,rfl,rfl,rfl,_⟩:=h;rw[Uh hc];exact XG
 rw[T' hc] at h;rw[T' hc];exact h.2.2
def oK{no:TX}{L:TY}(h:w.ownsRow 0 201 3 (xa no nn nc) L.length (gM L)):nn=L.length/\(L≠[]->∃g,no=some ⟨g,0,none⟩/\L.length<=nc/\nc<=maxLen/\∃cur,w.heap[g]?=some (xi cur 201 (0,0))/\cur.toList.take (L.length*3)=gM L):=by
 exact zm107
def BU(r:Rl):Prop:=r.call=true->(∀t∈r.args,FA t)/\r.args.length<=2/\r.args≠[]
def Bj(x:T3)(i:Nat)(r:Rl)(ts:Ub){no:TX}(h:CK w cb B A x)(hr:R4 w r fp no nn nc cp)(ak:BU r):
  Calls prog 116 #[xk (some ⟨cb,0,none⟩),xd xh (i:Int),.agg #[xd xh tk,xj ts,xd xh (r.pl:Int),xk fp,xa no nn nc,xk cp]] w λe w'=>e=xm (.tuple #[])/\CK w' cb B A (gS x (qE A i r))/\CF cb B w w':=by
 have hcl:=h.lt;obtain⟨a6,ai⟩:=oK hr.names;have az:=fy ai;have hnn1:nn<=(uP r).length:=zo;have hnn2:(uP r).length<=nn:=zo;clear ai a6;go_in
 go_upto_if 9 with fail
 go_cut [] (λwc=>CK wc cb B A (gS x (if 4<=i then [(r.pl,4)] else []))/\CF cb B w wc/\wc.heap[w.heap.size]?=some (xi #[xd xh tk,xj ts,xd xh (r.pl:Int),xk fp,xa no nn nc,xk cp] 205 (0,0)))
 case first=>
  by_cases h4:4<=i
  .have aU:(4:Int)<=(i:Int):=zo;have HT:Hid (gS x (if 4<=i then [(r.pl,4)] else [])=St x r.pl 4):=by show _=_;rw[Uh h4];rfl
   clear h4;go_wp2_with fail;refine(mG r.pl 4 (h.alloc _)).mono ?_;rintro e w1 ⟨rfl,aq,ae⟩;go_wp2_with fail
   go_meet
   rw[HT.out];exact⟨aq,(CF.below gC).trans (CF.grown ae),(ae.block _ zp zs).trans (gi _ _)⟩
  .have aU:¬ (4:Int)<=(i:Int):=zo;have HT:Hid (gS x (if 4<=i then [(r.pl,4)] else [])=x):=by show _=_;rw[T' h4];rfl
   clear h4;go_wp2_with fail
   go_meet
   rw[HT.out];exact⟨h.alloc _,CF.below gC,gi _ _⟩
 obtain⟨aq,aX,ag⟩:=hcut;have xc:=EQ ag;have ay:Hid (gS x (qE A i r)=gS (gS (gS x (if 4<=i then [(r.pl,4)] else [])) ((uP r).flatMap (λt=>iW A t.s t.p))) (if r.call=true then pW A r else [])):=by
  show _=_;unfold qE uP;rw[iO];by_cases hc:r.call=true
  .rw[Uh hc,Uh hc,Uh hc];rfl
  rw[T' hc,T' hc,T' hc];rfl
 generalize gS x (if 4<=i then [(r.pl,4)] else [])=x1 at *;generalize uP r=NMS at *;generalize wc=w1 at *;go_wp2
 go_loopw [18] (λi wr=>∃(k:Nat)(y:T3),i=xd xh (k:Int)/\k<=NMS.length/\CK wr cb B A y/\CF cb B w wr/\Hid (gS x1 (NMS.flatMap (λt=>iW A t.s t.p))=gS y ((NMS.drop k).flatMap (λt=>iW A t.s t.p)))/\wr.heap[w.heap.size]?=some (xi #[xd xh tk,xj ts,xd xh (r.pl:Int),xk fp,xa no nn nc,xk cp] 205 (0,0))) (λi _=>NMS.length-(intOf i).toNat)
 .exact⟨0,x1,rfl,Ux,aq,aX,rfl,ag⟩
 clear xc;obtain⟨k,y,rfl,hkk,av,ad,HY,aE⟩:=hrel;have xc:=EQ aE;by_cases hlt:k<NMS.length
 .obtain⟨t,rr,ht⟩:∃t rr,NMS.drop k=t::rr:=by
   cases hd:NMS.drop k with
   |nil=>have:=congrArg Ro hd;simp at this;omega
   |cons t rr=>simp
  obtain⟨g,a7,hle,aF,aJ⟩:=az.out (by intro e;simp_all);unfold maxLen at aF;have aj:∃cur,wr.heap[g]?=some (xi cur 201 (0,0))/\cur.toList.take (NMS.length*3)=gM NMS:=by
   obtain⟨cur,h1,h2⟩:=aJ;exact⟨cur,KQ.cf h ad _ _ _ _ h1 (Rp rfl),h2⟩
  obtain⟨c0,c1,c2⟩:=mZ aj ht;subst a7;have aN:Hid ((NMS.drop k).flatMap (λt=>iW A t.s t.p)=iW A t.s t.p++(NMS.drop (k+1)).flatMap (λt=>iW A t.s t.p)):=by show _=_;rw[ht,lG ht,VB]
  have aI:(k:Int)<(nn:Int):=zo;clear ht aJ aj;go_wp2_with fail;refine(sE (av.alloc _)).mono ?_;rintro e w3 ⟨rfl,ar,aa⟩;have ax:=(CF.below (cb:=cb) (B:=B) ((Uo wr.heap.size wr).alloc (XH) (xi #[xd xh t.k,xj t.s,xd xh t.p] 201))).trans aa;clear aa;go_wp2
  go_roundw
  .exact⟨k+1,_,zf,zo,ar,ad.trans ax,by show _=_;rw[HY.out,aN.out,iO],nk av ax aE zp zp⟩
  simp[intOf];omega
 have aY:NMS.length<=k:=zo;have aA:Hid (gS x1 (NMS.flatMap (λt=>iW A t.s t.p))=y):=by show _=_;rw[HY.out,UX aY];rfl
 have aI:¬ (k:Int)<(nn:Int):=zo;by_cases hcall:r.call=true
 .have I:=hr;unfold R4 at I;rw[Uh hcall] at I;obtain⟨⟨kb,ao,an,ac,xx,au,aH,aK,aD⟩,_⟩:=I;obtain⟨aB,aV,aC⟩:=ak hcall;obtain⟨aW,U⟩:=oK aD;obtain⟨g,ae,_,_,aG⟩:=U aC;subst au aW ae;have aw:=KQ.cf h ad;have aP:=aw _ _ _ _ aH (Rr (Rp rfl));have aO:Hid (∃cur,wr.heap[g]?=some (xi cur 201 (0,0))/\cur.toList.take (r.args.length*3)=gM r.args):=by
   obtain⟨cur,h1,h2⟩:=aG;exact⟨cur,aw _ _ _ _ h1 (Rp rfl),h2⟩
  have aR:=fy aK;have aM:=fy aB;have J:Hid (gS x (qE A i r)=gS y (pW A r)):=by show _=_;rw[ay.out,aA.out,Uh hcall]
  clear aH aK aG aD U aB aC hcall aw;go_wp2_with fail;refine(Bi B A y r g av aP aR.out aO.out aM.out aV).mono ?_;rintro e w3 ⟨rfl,ar,aa⟩;go_wp2;go_end0;rw[J.out];exact⟨rfl,ar,ad.trans aa⟩
 have I:=hr;unfold R4 at I;rw[T' hcall] at I;have au:=I.1;subst au;have J:Hid (gS x (qE A i r)=y):=by show _=_;rw[ay.out,aA.out,T' hcall];rfl
 clear I hcall;go_wp2;go_end0;rw[J.out];trivial
theorem vp:∀{rs:T6} {cs:TW} (k:Nat) {r:Rl} {rr:T6},Q8 w rs cs->rs.drop k=r::rr->∃I s fp no nn nc cp,cs[k*6]?=some (xd xh I)/\cs[k*6+1]?=some (xj s)/\cs[k*6+2]?=some (xd xh r.pl)/\cs[k*6+3]?=some (xk fp)/\cs[k*6+4]?=some (xa no nn nc)/\cs[k*6+5]?=some (xk cp)/\R4 w r fp no nn nc cp
 |[],_,_,_,_,_,h=>by simp at h
 |r0::rs,_,0,_,_,⟨I,s,fp,no,nn,nc,cp,rest,e,h1,_⟩,h=>by
  grind
 |r0::rs,_,k+1,_,_,⟨_,_,_,_,_,_,_,rest,e,_,h2⟩,h=>by
  obtain⟨I,s,fp,no,nn,nc,cp,g0,g1,g2,g3,g4,g5,J⟩:=vp k h2 (by simpa using h);subst e;have e0:(k+1)*6=k*6+6:=zo;refine⟨I,s,fp,no,nn,nc,cp,?_,?_,?_,?_,?_,?_,J⟩
  .simp_all
  .simp_all
  .simp_all
  .simp_all
  .simp_all
  simp_all
def Fs{no:TX}(h:w.ownsRow 0 205 6 (xa no nn nc) n cs):nn=n/\(n≠0->∃g,no=some ⟨g,0,none⟩/\n<=nc/\nc<=maxLen/\∃cur,w.heap[g]?=some (xi cur 205 (0,0))/\cur.toList.take (n*6)=cs):=by
 exact zm107
theorem Q0{k o:Nat}{v:Ud}(h:cur.toList.take n=cs)(hk:k+o<n)(hc:cs[k+o]?=some v):cur[k+o]?=some v:=by
 grind
theorem It{cells:TW}(ha:w.ownsRow 0 201 3 (xa o1 n1 k1) al.length (gM al))(hr:w.ownsRow 0 205 6 (xa o2 n2 k2) rs.length cells)(hp:Q8 w rs cells)(hg:∀r∈rs,BU r)(hal:al.length<=401)(hrs:rs.length<=401):
  Calls prog 70 #[.agg #[xa o1 n1 k1,xa o2 n2 k2]] w λe w'=>e=xm (.agg #[xd xh ((gS (0,0) (qO al rs)).1:Nat),xd xh ((gS (0,0) (qO al rs)).2:Nat)])/\XL w w':=by
 obtain⟨ba,aq⟩:=oK ha;obtain⟨bd,ar⟩:=Fs hr;have hn1a:n1<=al.length:=zo;have hn1b:al.length<=n1:=zo;have hn2a:n2<=rs.length:=zo;have hn2b:rs.length<=n2:=zo;have ay:=fy aq;have az:=fy ar;have aO:=fy hg;clear ha hr hg ba bd aq ar;have HF:Hid (gS (0,0) (qO al rs)=gS (gS (0,0) (pV al 0 al)) (pk al 0 rs)):=iO _ _ _;go_in;go_wp2_with fail;have ad:CK (((w.alloc (xi #[xa o1 n1 k1,xa o2 n2 k2] 128)).alloc (xi #[xd xh 0,xd xh 0] 80)).alloc (xi #[TV,xd xh 0,xd xh 0] 198)) (w.heap.size+1+1) w.heap.size [] (0,0):=
  ⟨⟨none,0,0,gu zp,XG⟩,zo⟩
 have aX:XL w (((w.alloc (xi #[xa o1 n1 k1,xa o2 n2 k2] 128)).alloc (xi #[xd xh 0,xd xh 0] 80)).alloc (xi #[TV,xd xh 0,xd xh 0] 198)):=
  ((gC.alloc zp _).alloc zs _)
 have av:(((w.alloc (xi #[xa o1 n1 k1,xa o2 n2 k2] 128)).alloc (xi #[xd xh 0,xd xh 0] 80)).alloc (xi #[TV,xd xh 0,xd xh 0] 198)).heap[w.heap.size]?=some (k9 o1 n1 k1 o2 n2 k2):=(XD zs).trans ((XD zp).trans (gi _ _));have aa:(((w.alloc (xi #[xa o1 n1 k1,xa o2 n2 k2] 128)).alloc (xi #[xd xh 0,xd xh 0] 80)).alloc (xi #[TV,xd xh 0,xd xh 0] 198)).heap[w.heap.size+1]?=some (xi #[xd xh 0,xd xh 0] 80 (0,0)):=(XD zp).trans (gu zp);have aT:=av;have aS:=aa;have hsz:w.heap.size+1+1+1=(((w.alloc (xi #[xa o1 n1 k1,xa o2 n2 k2] 128)).alloc (xi #[xd xh 0,xd xh 0] 80)).alloc (xi #[TV,xd xh 0,xd xh 0] 198)).heap.size:=zp;clear av aa;generalize hW0:((w.alloc (xi #[xa o1 n1 k1,xa o2 n2 k2] 128)).alloc (xi #[xd xh 0,xd xh 0] 80)).alloc (xi #[TV,xd xh 0,xd xh 0] 198)=W0 at *;clear hW0
 go_loopw [13] (λi wr=>∃(k:Nat)(y:T3),i=xd xh (k:Int)/\k<=al.length/\CK wr (w.heap.size+1+1) w.heap.size (al.take k) y/\CF (w.heap.size+1+1) w.heap.size W0 wr/\Hid (gS (0,0) (pV al 0 al)=gS y (pV al k (al.drop k)))) (λi _=>al.length-(intOf i).toNat)
 .exact⟨0,(0,0),rfl,Ux,ad,CF.refl _ _ _,rfl⟩
 obtain⟨k,y,rfl,a7,ai,U,HY⟩:=hrel;have aD:=ai;have aN:=U;have I:=aX.trans (U.low zo zo);have aK:=I;have hwl:=I.size;by_cases hlt:k<al.length
 .obtain⟨t,rr,ht⟩:∃t rr,al.drop k=t::rr:=by
   cases hd:al.drop k with
   |nil=>have:=congrArg Ro hd;simp at this;omega
   |cons t rr=>simp
  obtain⟨g,aB,a8,aj,cur,ae,J⟩:=ay.out (by intro e;simp_all);unfold maxLen at aj;have ak:=dK ae;have ax:∃cur,wr.heap[g]?=some (xi cur 201 (0,0))/\cur.toList.take (al.length*3)=gM al:=⟨cur,(I.block _ ak).trans ae,J⟩;obtain⟨c0,c1,c2⟩:=mZ ax ht;subst aB;have aP:Hid (pV al k (al.drop k)=uV (al.take k) k t++pV al (k+1) (al.drop (k+1))):=by show _=_;rw[ht,lG ht,pV]
  have aU:=fy (oO ht);have aA:(k:Int)<(n1:Int):=zo;clear ai U I ht ae J ax cur;go_wp2_with fail;refine(Cf y k t (aD.alloc _) zs zs).mono ?_;rintro e w3 ⟨rfl,aY,aG⟩;have aL:=(CF.below (cb:=w.heap.size+1+1) (B:=w.heap.size) ((Uo wr.heap.size wr).alloc (XH) (xi #[xd xh t.k,xj t.s,xd xh t.p] 201))).trans aG;clear aG;go_wp2
  go_roundw
  .exact⟨k+1,_,zf,zo,by rw[aU.out];exact aY,aN.trans aL,by grind[gQ,iO]⟩
  simp[intOf];omega
 have au:al.length<=k:=zo;have aV:Hid (gS (0,0) (pV al 0 al)=y):=by show _=_;rw[HY.out,UX au];rfl
 have aC:Hid (CK wr (w.heap.size+1+1) w.heap.size al y):=by have:=aD;rw[UF au] at this;exact this
 have aA:¬ (k:Int)<(n1:Int):=zo;have av:=nk ad U aT zp zp;have aa:=nk ad U aS zp zp;have aE:=aa;have sc:=EQ av;clear ai U I aa HY;generalize wr=w4 at *;go_wp2
 go_loopw [26] (λi wr=>∃(k:Nat)(z:T3),i=xd xh (k:Int)/\k<=rs.length/\CK wr (w.heap.size+1+1) w.heap.size al z/\CF (w.heap.size+1+1) w.heap.size w4 wr/\Hid (gS y (pk al 0 rs)=gS z (pk al k (rs.drop k)))) (λi _=>rs.length-(intOf i).toNat)
 .exact⟨0,y,rfl,Ux,aC.out,CF.refl _ _ _,rfl⟩
 clear sc;obtain⟨k,z,rfl,a7,ai,U,HZ⟩:=hrel;have I:=aK.trans (U.low zo zo);have aJ:=I.size;by_cases hlt:k<rs.length
 .obtain⟨r,rr,ht⟩:∃r rr,rs.drop k=r::rr:=by
   cases hd:rs.drop k with
   |nil=>have:=congrArg Ro hd;simp at this;omega
   |cons r rr=>simp
  obtain⟨g,aB,a8,aj,cur,ae,J⟩:=az.out zo;unfold maxLen at aj;have ak:=dK ae;obtain⟨kk,s,fp,no,nn,nc,cp,g0,g1,g2,g3,g4,g5,g6⟩:=vp k hp ht;have ag:=(I.block _ ak).trans ae;have d0:=(EQ ag (k*6)).trans (Q0 (k:=k*6) (o:=0) J zo g0);have d1:=(EQ ag (k*6+1)).trans (Q0 J zo g1);have d2:=(EQ ag (k*6+2)).trans (Q0 J zo g2);have d3:=(EQ ag (k*6+3)).trans (Q0 J zo g3);have d4:=(EQ ag (k*6+4)).trans (Q0 J zo g4);have d5:=(EQ ag (k*6+5)).trans (Q0 J zo g5);subst aB;have aR:=g6.keep (KQ.below (w:=w) (w':=wr.alloc (xi #[xd xh kk,xj s,xd xh r.pl,xk fp,xa no nn nc,xk cp] 205)) (I.alloc aJ _));have aQ:=aO.out r (Vk (by rw[ht];simp));have aP:Hid (pk al k (rs.drop k)=qE al k r++pk al (k+1) (rs.drop (k+1))):=by grind[lG,pk]
  have aA:(k:Int)<(n2:Int):=zo;clear ht ae J ag cur g0 g1 g2 g3 g4 g5 g6;go_wp2_with fail;refine(Bj z k r s (ai.alloc _) aR aQ).mono ?_;rintro e w5 ⟨rfl,a6,aH⟩;have aM:=(CF.below (cb:=w.heap.size+1+1) (B:=w.heap.size) ((Uo wr.heap.size wr).alloc (XH) (xi #[xd xh kk,xj s,xd xh r.pl,xk fp,xa no nn nc,xk cp] 205))).trans aH;clear aH;go_wp2
  go_roundw
  .exact⟨k+1,_,zf,zo,a6,U.trans aM,by grind[gQ,iO]⟩
  simp[intOf];omega
 have au:rs.length<=k:=zo;have aW:Hid (gS (0,0) (qO al rs)=z):=by show _=_;rw[HF.out,aV.out,HZ.out,UX au];rfl
 have aA:¬ (k:Int)<(n2:Int):=zo;have aa:=nk aC.out U aE zp zp;obtain⟨ao,an,ac,aF,_⟩:=ai.blk;have bc:=EQ aF;have rc:=EQ aa;have rf:=gh aa;clear aF;go_wp2_with fail;have aI:((wr.setCell (TU (w.heap.size+1) 0) (xd xh z.1)).setCell (TU (w.heap.size+1) 1) (xd xh z.2)).heap[w.heap.size+1]?=some (xi #[xd xh z.1,xd xh z.2] 80 (0,0)):=gj (gj aa 0 _) 1 _;have bf:=EQ aI;clear rc;refine py (v:=.agg #[xd xh z.1,xd xh z.2]) (by simp[results,results70,go_sem,bf]) rfl ?_;rw[aW.out];exact⟨rfl,(I.setCell zp _).setCell zp _⟩
def qm(f:Fm):Calls prog 233 #[xk p] w λe w'=>∃v,e=xm (xk v)/\(Pi w f p->Pi w' (one 4 f) v)/\XL w w':=by
 go_in;go_wp2_with fail;refine(ov 4 f).mono ?_;exact zm31
def sX(f:Fm):Calls prog 267 #[xk p] w λe w'=>∃v,e=xm (xk v)/\(Pi w f p->Pi w' (one 5 f) v)/\XL w w':=by
 go_in;go_wp2_with fail;refine(ov 5 f).mono ?_;exact zm31
def Eo(f:Fm):Calls prog 274 #[xk p] w λe w'=>∃v,e=xm (xk v)/\(Pi w f p->Pi w' (one 6 f) v)/\XL w w':=by
 go_in;go_wp2_with fail;refine(ov 6 f).mono ?_;exact zm31
def kQ(f:Fm):Calls prog 265 #[xk p] w λe w'=>∃v,e=xm (xk v)/\(Pi w f p->Pi w' (one 7 f) v)/\XL w w':=by
 go_in;go_wp2_with fail;refine(ov 7 f).mono ?_;exact zm31
def lR(f:Fm):Calls prog 270 #[xk p] w λe w'=>∃v,e=xm (xk v)/\(Pi w f p->Pi w' (one 8 f) v)/\XL w w':=by
 go_in;go_wp2_with fail;refine(ov 8 f).mono ?_;exact zm31
def LO(f g:Fm):Calls prog 273 #[xk p,xk q] w λe w'=>∃v,e=xm (xk v)/\(Pi w f p->Pi w g q->Pi w' (two 9 f g) v)/\XL w w':=by
 go_in;go_wp2_with fail;refine(kG 9 f g).mono ?_;exact zm31
def yQ(f g:Fm):Calls prog 266 #[xk p,xk q] w λe w'=>∃v,e=xm (xk v)/\(Pi w f p->Pi w g q->Pi w' (two 10 f g) v)/\XL w w':=by
 go_in;go_wp2_with fail;refine(kG 10 f g).mono ?_;exact zm31
def Qa(f g:Fm):Calls prog 272 #[xk p,xk q] w λe w'=>∃v,e=xm (xk v)/\(Pi w f p->Pi w g q->Pi w' (two 11 f g) v)/\XL w w':=by
 go_in;go_wp2_with fail;refine(kG 11 f g).mono ?_;exact zm31
def nT(f g:Fm):Calls prog 271 #[xk p,xk q] w λe w'=>∃v,e=xm (xk v)/\(Pi w f p->Pi w g q->Pi w' (two 12 f g) v)/\XL w w':=by
 go_in;go_wp2_with fail;refine(kG 12 f g).mono ?_;exact zm31
def xO(a:Ub):∀(n:Nat)(pa:TX)(w:Uc),n<=9->Pi w (ia a) pa->
  Calls prog 231 #[xk pa,xd xh (n:Int)] w λe w'=>∃v,e=xm (xk v)/\Pi w' (me a n) v/\XL w w'
 |0,pa,w,_,ha=>by
  go_in;go_wp2_with fail;refine(kQ (ia a)).mono ?_;rintro e w1 ⟨p1,rfl,U,I⟩;have G1:=U ha;clear U;go_wp2;go_ret;exact⟨p1,rfl,G1,I⟩
 |1,pa,w,_,ha=>by
  go_in;go_wp2_with fail;refine(kQ (ia a)).mono ?_;rintro e w1 ⟨p1,rfl,U,I⟩;have G1:=U ha;clear U;go_wp2;go_ret;exact⟨p1,rfl,G1,I⟩
 |n+2,pa,w,hn,ha=>by
  have HA:=fy ha;have HI:=fy (xO a (n+1));have hle:¬ ((n+2:Nat):Int)<=1:=zo;have he:((n+2:Nat):Int)-1=((n+1:Nat):Int):=zo;clear ha;generalize hm:((n+2:Nat):Int)=m at *;have hm1:m<=100:=zo;have HE:=fy he;clear he hm;go_in;go_wp2_with fail;rw[HE.out];refine(HI.out pa _ zo HA.out).mono ?_;rintro e w1 ⟨p1,rfl,U,I⟩;have HA:=fy (HA.out.later I);have J:=fy I;clear I;go_wp2_with fail;refine(sX (me a (n+1))).mono ?_;rintro e w2 ⟨p2,rfl,h2,aa⟩;have G2:=h2 U;have HA:=HA.out.later aa;have J:=fy (J.out.trans (aa.mono J.out.size));clear h2 aa;go_wp2_with fail;refine(yQ (ia a) (one 5 (me a (n+1)))).mono ?_;rintro e w3 ⟨p3,rfl,h3,ae⟩;have G3:=h3 HA G2;have J:=fy (J.out.trans (ae.mono J.out.size));clear h3 ae;go_wp2_with fail;refine(kQ (two 10 (ia a) (one 5 (me a (n+1))))).mono ?_;rintro e w4 ⟨p4,rfl,h4,ag⟩;have G4:=h4 G3;have J:=J.out.trans (ag.mono J.out.size);clear h4 ag;go_wp2;go_ret;exact⟨p4,rfl,G4,J⟩
def On(a b:Ub)(n:Nat)(w:Uc)(J:Pi w (ia a) pa):Calls prog 228 #[xk pa,xk pb,xd xh (n:Int)] w λe w'=>∃v,e=xm (xk v)/\Pi w' (jg 0 a b n) v/\XL w w':=by
 have I:=Uo w.heap.size w;go_in;go_wp2;go_ret;exact⟨pa,rfl,J,I⟩
def Oo(a b:Ub)(n:Nat)(w:Uc)(ha:Pi w (ia a) pa):Calls prog 229 #[xk pa,xk pb,xd xh (n:Int)] w λe w'=>∃v,e=xm (xk v)/\Pi w' (jg 1 a b n) v/\XL w w':=by
 have U:=fy ha;have HB:=fy (Uo w.heap.size w);clear ha;go_in;go_wp2_with fail;refine(Aw 1).mono ?_;rintro e w1 ⟨p1,rfl,h1,ae⟩;have G1:=fy h1;have U:=fy (U.out.later ae);have HB:=fy (HB.out.trans (ae.mono HB.out.size));clear h1 ae;go_wp2_with fail;refine(sX (leaf 1 ByteArray.empty 0)).mono ?_;rintro e w2 ⟨p2,rfl,h2,aa⟩;have G2:=fy (h2 G1.out);have G1:=fy (G1.out.later aa);have U:=fy (U.out.later aa);have HB:=fy (HB.out.trans (aa.mono HB.out.size));clear h2 aa;go_wp2_with fail;refine(qm (one 5 (leaf 1 ByteArray.empty 0))).mono ?_;rintro e w3 ⟨p3,rfl,h3,J⟩;have G3:=fy (h3 G2.out);have G1:=fy (G1.out.later J);have G2:=fy (G2.out.later J);have U:=fy (U.out.later J);have HB:=fy (HB.out.trans (J.mono HB.out.size));clear h3 J;go_wp2_with fail;refine(yQ (ia a) (one 4 (one 5 (leaf 1 ByteArray.empty 0)))).mono ?_;rintro e w4 ⟨p4,rfl,h4,I⟩;have G4:=h4 U.out G3.out;have G1:=G1.out.later I;have G2:=G2.out.later I;have G3:=G3.out.later I;have U:=U.out.later I;have HB:=fy (HB.out.trans (I.mono HB.out.size));clear h4 I;go_wp2_with fail;refine(kQ (two 10 (ia a) (one 4 (one 5 (leaf 1 ByteArray.empty 0))))).mono ?_;rintro e w5 ⟨p5,rfl,h5,hb5⟩;have G5:=h5 G4;exact zm59
def Oq(a b:Ub)(n:Nat)(w:Uc)(ha:Pi w (ia a) pa)(hn:n<=9):Calls prog 230 #[xk pa,xk pb,xd xh (n:Int)] w λe w'=>∃v,e=xm (xk v)/\Pi w' (jg 2 a b n) v/\XL w w':=by
 have J:=fy (Uo w.heap.size w);go_in;go_wp2_with fail;refine(xO a n _ _ hn ha).mono ?_;rintro e w1 ⟨p1,rfl,U,I⟩;have J:=J.out.trans (I.mono J.out.size);clear I;go_wp2;go_ret;exact⟨p1,rfl,U,J⟩
def PE(a b:Ub)(n:Nat)(w:Uc)(ha:Pi w (ia a) pa)(hn:n<=9):Calls prog 232 #[xk pa,xk pb,xd xh (n:Int)] w λe w'=>∃v,e=xm (xk v)/\Pi w' (jg 3 a b n) v/\XL w w':=by
 have HA:=fy ha;have I:=fy (Uo w.heap.size w);clear ha;go_in;go_wp2_with fail;refine(xO a n _ _ hn HA.out).mono ?_;rintro e w1 ⟨p1,rfl,h1,J⟩;have HA:=HA.out.later J;have I:=fy (I.out.trans (J.mono I.out.size));clear J;go_wp2_with fail;refine(qm (me a n)).mono ?_;rintro e w2 ⟨p2,rfl,h2,U⟩;have G2:=h2 h1;have I:=I.out.trans (U.mono I.out.size);clear h2 U;go_wp2;go_ret;exact⟨p2,rfl,G2,I⟩
def Ev(a b:Ub)(n:Nat)(w:Uc)(ha:Pi w (ia a) pa)(ad:Pi w (ia b) pb):Calls prog 234 #[xk pa,xk pb,xd xh (n:Int)] w λe w'=>∃v,e=xm (xk v)/\Pi w' (jg 4 a b n) v/\XL w w':=by
 have HA:=fy ha;have I:=fy ad;have HB:=fy (Uo w.heap.size w);clear ha ad;go_in;go_wp2_with fail;refine(kQ (ia b)).mono ?_;rintro e w1 ⟨p1,rfl,h1,U⟩;have G1:=fy (h1 I.out);have HA:=fy (HA.out.later U);have I:=fy (I.out.later U);have HB:=fy (HB.out.trans (U.mono HB.out.size));clear h1 U;go_wp2_with fail;refine(nT (ia a) (one 7 (ia b))).mono ?_;rintro e w2 ⟨p2,rfl,h2,J⟩;have G2:=h2 HA.out G1.out;have G1:=G1.out.later J;have HA:=HA.out.later J;have I:=I.out.later J;have HB:=fy (HB.out.trans (J.mono HB.out.size));clear h2 J;go_wp2_with fail;refine(lR (two 12 (ia a) (one 7 (ia b)))).mono ?_;rintro e w3 ⟨p3,rfl,h3,hb3⟩;have G3:=h3 G2;exact zm91
def Hc(a b:Ub)(n:Nat)(w:Uc)(ha:Pi w (ia a) pa)(aj:Pi w (ia b) pb):Calls prog 235 #[xk pa,xk pb,xd xh (n:Int)] w λe w'=>∃v,e=xm (xk v)/\Pi w' (jg 5 a b n) v/\XL w w':=by
 have HA:=fy ha;have I:=fy aj;have HB:=fy (Uo w.heap.size w);clear ha aj;go_in;go_wp2_with fail;refine(qm (ia b)).mono ?_;rintro e w1 ⟨p1,rfl,h1,ae⟩;have G1:=fy (h1 I.out);have HA:=fy (HA.out.later ae);have I:=fy (I.out.later ae);have HB:=fy (HB.out.trans (ae.mono HB.out.size));clear h1 ae;go_wp2_with fail;refine(LO (one 4 (ia b)) (ia a)).mono ?_;rintro e w2 ⟨p2,rfl,h2,aa⟩;have G2:=fy (h2 G1.out HA.out);have G1:=fy (G1.out.later aa);have HA:=fy (HA.out.later aa);have I:=fy (I.out.later aa);have HB:=fy (HB.out.trans (aa.mono HB.out.size));clear h2 aa;go_wp2_with fail;refine(qm (ia b)).mono ?_;rintro e w3 ⟨p3,rfl,h3,U⟩;have G3:=fy (h3 I.out);have G1:=fy (G1.out.later U);have G2:=fy (G2.out.later U);have HA:=fy (HA.out.later U);have I:=fy (I.out.later U);have HB:=fy (HB.out.trans (U.mono HB.out.size));clear h3 U;go_wp2_with fail;refine(lR (one 4 (ia b))).mono ?_;rintro e w4 ⟨p4,rfl,h4,J⟩;have G4:=h4 G3.out;have G1:=G1.out.later J;have G2:=G2.out.later J;have G3:=G3.out.later J;have HA:=HA.out.later J;have I:=I.out.later J;have HB:=fy (HB.out.trans (J.mono HB.out.size));clear h4 J;go_wp2_with fail;refine(Qa (two 9 (one 4 (ia b)) (ia a)) (one 8 (one 4 (ia b)))).mono ?_;rintro e w5 ⟨p5,rfl,h5,hb5⟩;have G5:=h5 G2 G4;exact zm59
def Mc(a b:Ub)(n:Nat)(w:Uc)(ha:Pi w (ia a) pa)(ad:Pi w (ia b) pb):Calls prog 236 #[xk pa,xk pb,xd xh (n:Int)] w λe w'=>∃v,e=xm (xk v)/\Pi w' (jg 6 a b n) v/\XL w w':=by
 have HA:=fy ha;have I:=fy ad;have HB:=fy (Uo w.heap.size w);clear ha ad;go_in;go_wp2_with fail;refine(sX (ia b)).mono ?_;rintro e w1 ⟨p1,rfl,h1,U⟩;have G1:=fy (h1 I.out);have HA:=fy (HA.out.later U);have I:=fy (I.out.later U);have HB:=fy (HB.out.trans (U.mono HB.out.size));clear h1 U;go_wp2_with fail;refine(nT (ia a) (one 5 (ia b))).mono ?_;rintro e w2 ⟨p2,rfl,h2,J⟩;have G2:=h2 HA.out G1.out;have G1:=G1.out.later J;have HA:=HA.out.later J;have I:=I.out.later J;have HB:=fy (HB.out.trans (J.mono HB.out.size));clear h2 J;go_wp2_with fail;refine(lR (two 12 (ia a) (one 5 (ia b)))).mono ?_;rintro e w3 ⟨p3,rfl,h3,hb3⟩;have G3:=h3 G2;exact zm91
def JR(a b:Ub)(n:Nat)(w:Uc)(ha:Pi w (ia a) pa)(aj:Pi w (ia b) pb):Calls prog 237 #[xk pa,xk pb,xd xh (n:Int)] w λe w'=>∃v,e=xm (xk v)/\Pi w' (jg 7 a b n) v/\XL w w':=by
 have HA:=fy ha;have I:=fy aj;have HB:=fy (Uo w.heap.size w);clear ha aj;go_in;go_wp2_with fail;refine(qm (ia b)).mono ?_;rintro e w1 ⟨p1,rfl,h1,ae⟩;have G1:=fy (h1 I.out);have HA:=fy (HA.out.later ae);have I:=fy (I.out.later ae);have HB:=fy (HB.out.trans (ae.mono HB.out.size));clear h1 ae;go_wp2_with fail;refine(sX (ia b)).mono ?_;rintro e w2 ⟨p2,rfl,h2,aa⟩;have G2:=fy (h2 I.out);have G1:=fy (G1.out.later aa);have HA:=fy (HA.out.later aa);have I:=fy (I.out.later aa);have HB:=fy (HB.out.trans (aa.mono HB.out.size));clear h2 aa;go_wp2_with fail;refine(nT (one 5 (ia b)) (ia a)).mono ?_;rintro e w3 ⟨p3,rfl,h3,U⟩;have G3:=fy (h3 G2.out HA.out);have G1:=fy (G1.out.later U);have G2:=fy (G2.out.later U);have HA:=fy (HA.out.later U);have I:=fy (I.out.later U);have HB:=fy (HB.out.trans (U.mono HB.out.size));clear h3 U;go_wp2_with fail;refine(lR (two 12 (one 5 (ia b)) (ia a))).mono ?_;rintro e w4 ⟨p4,rfl,h4,J⟩;have G4:=h4 G3.out;have G1:=G1.out.later J;have G2:=G2.out.later J;have G3:=G3.out.later J;have HA:=HA.out.later J;have I:=I.out.later J;have HB:=fy (HB.out.trans (J.mono HB.out.size));clear h4 J;go_wp2_with fail;refine(yQ (one 4 (ia b)) (one 8 (two 12 (one 5 (ia b)) (ia a)))).mono ?_;rintro e w5 ⟨p5,rfl,h5,hb5⟩;have G5:=h5 G1 G4;exact zm59
def Ot(a b:Ub)(n:Nat)(w:Uc)(ha:Pi w (ia a) pa)(ad:Pi w (ia b) pb):Calls prog 238 #[xk pa,xk pb,xd xh (n:Int)] w λe w'=>∃v,e=xm (xk v)/\Pi w' (jg 8 a b n) v/\XL w w':=by
 have HA:=fy ha;have I:=fy ad;have HB:=fy (Uo w.heap.size w);clear ha ad;go_in;go_wp2_with fail;refine(kQ (ia a)).mono ?_;rintro e w1 ⟨p1,rfl,h1,U⟩;have G1:=fy (h1 HA.out);have HA:=fy (HA.out.later U);have I:=fy (I.out.later U);have HB:=fy (HB.out.trans (U.mono HB.out.size));clear h1 U;go_wp2_with fail;refine(kQ (ia b)).mono ?_;rintro e w2 ⟨p2,rfl,h2,J⟩;have G2:=h2 I.out;have G1:=G1.out.later J;have HA:=HA.out.later J;have I:=I.out.later J;have HB:=fy (HB.out.trans (J.mono HB.out.size));clear h2 J;go_wp2_with fail;refine(nT (one 7 (ia a)) (one 7 (ia b))).mono ?_;rintro e w3 ⟨p3,rfl,h3,hb3⟩;have G3:=h3 G1 G2;exact zm91
def Mb(a b:Ub)(n:Nat)(w:Uc)(ha:Pi w (ia a) pa)(ag:Pi w (ia b) pb):Calls prog 239 #[xk pa,xk pb,xd xh (n:Int)] w λe w'=>∃v,e=xm (xk v)/\Pi w' (jg 9 a b n) v/\XL w w':=by
 have HA:=fy ha;have I:=fy ag;have HB:=fy (Uo w.heap.size w);clear ha ag;go_in;go_wp2_with fail;refine(kQ (ia a)).mono ?_;rintro e w1 ⟨p1,rfl,h1,aa⟩;have G1:=fy (h1 HA.out);have HA:=fy (HA.out.later aa);have I:=fy (I.out.later aa);have HB:=fy (HB.out.trans (aa.mono HB.out.size));clear h1 aa;go_wp2_with fail;refine(kQ (ia b)).mono ?_;rintro e w2 ⟨p2,rfl,h2,U⟩;have G2:=fy (h2 I.out);have G1:=fy (G1.out.later U);have HA:=fy (HA.out.later U);have I:=fy (I.out.later U);have HB:=fy (HB.out.trans (U.mono HB.out.size));clear h2 U;go_wp2_with fail;refine(yQ (one 7 (ia a)) (one 7 (ia b))).mono ?_;rintro e w3 ⟨p3,rfl,h3,J⟩;have G3:=h3 G1.out G2.out;have G1:=G1.out.later J;have G2:=G2.out.later J;have HA:=HA.out.later J;have I:=I.out.later J;have HB:=fy (HB.out.trans (J.mono HB.out.size));clear h3 J;go_wp2_with fail;refine(qm (two 10 (one 7 (ia a)) (one 7 (ia b)))).mono ?_;exact zm120
def Md(a b:Ub)(n:Nat)(w:Uc)(ha:Pi w (ia a) pa)(aj:Pi w (ia b) pb):Calls prog 240 #[xk pa,xk pb,xd xh (n:Int)] w λe w'=>∃v,e=xm (xk v)/\Pi w' (jg 10 a b n) v/\XL w w':=by
 have HA:=fy ha;have I:=fy aj;have HB:=fy (Uo w.heap.size w);clear ha aj;go_in;go_wp2_with fail;refine(qm (ia b)).mono ?_;rintro e w1 ⟨p1,rfl,h1,ae⟩;have G1:=fy (h1 I.out);have HA:=fy (HA.out.later ae);have I:=fy (I.out.later ae);have HB:=fy (HB.out.trans (ae.mono HB.out.size));clear h1 ae;go_wp2_with fail;refine(lR (one 4 (ia b))).mono ?_;rintro e w2 ⟨p2,rfl,h2,aa⟩;have G2:=fy (h2 G1.out);have G1:=fy (G1.out.later aa);have HA:=fy (HA.out.later aa);have I:=fy (I.out.later aa);have HB:=fy (HB.out.trans (aa.mono HB.out.size));clear h2 aa;go_wp2_with fail;refine(Eo (one 8 (one 4 (ia b)))).mono ?_;rintro e w3 ⟨p3,rfl,h3,U⟩;have G3:=fy (h3 G2.out);have G1:=fy (G1.out.later U);have G2:=fy (G2.out.later U);have HA:=fy (HA.out.later U);have I:=fy (I.out.later U);have HB:=fy (HB.out.trans (U.mono HB.out.size));clear h3 U;go_wp2_with fail;refine(nT (ia a) (one 6 (one 8 (one 4 (ia b))))).mono ?_;rintro e w4 ⟨p4,rfl,h4,J⟩;have G4:=h4 HA.out G3.out;have G1:=G1.out.later J;have G2:=G2.out.later J;have G3:=G3.out.later J;have HA:=HA.out.later J;have I:=I.out.later J;have HB:=fy (HB.out.trans (J.mono HB.out.size));clear h4 J;go_wp2_with fail;refine(lR (two 12 (ia a) (one 6 (one 8 (one 4 (ia b)))))).mono ?_;rintro e w5 ⟨p5,rfl,h5,hb5⟩;have G5:=h5 G4;exact zm59
def Hb(a b:Ub)(n:Nat)(w:Uc)(ha:Pi w (ia a) pa)(ag:Pi w (ia b) pb):Calls prog 241 #[xk pa,xk pb,xd xh (n:Int)] w λe w'=>∃v,e=xm (xk v)/\Pi w' (jg 11 a b n) v/\XL w w':=by
 have HA:=fy ha;have I:=fy ag;have HB:=fy (Uo w.heap.size w);clear ha ag;go_in;go_wp2_with fail;refine(sX (ia b)).mono ?_;rintro e w1 ⟨p1,rfl,h1,aa⟩;have G1:=fy (h1 I.out);have HA:=fy (HA.out.later aa);have I:=fy (I.out.later aa);have HB:=fy (HB.out.trans (aa.mono HB.out.size));clear h1 aa;go_wp2_with fail;refine(qm (one 5 (ia b))).mono ?_;rintro e w2 ⟨p2,rfl,h2,U⟩;have G2:=fy (h2 G1.out);have G1:=fy (G1.out.later U);have HA:=fy (HA.out.later U);have I:=fy (I.out.later U);have HB:=fy (HB.out.trans (U.mono HB.out.size));clear h2 U;go_wp2_with fail;refine(nT (ia a) (one 4 (one 5 (ia b)))).mono ?_;rintro e w3 ⟨p3,rfl,h3,J⟩;have G3:=h3 HA.out G2.out;have G1:=G1.out.later J;have G2:=G2.out.later J;have HA:=HA.out.later J;have I:=I.out.later J;have HB:=fy (HB.out.trans (J.mono HB.out.size));clear h3 J;go_wp2_with fail;refine(lR (two 12 (ia a) (one 4 (one 5 (ia b))))).mono ?_;exact zm120
def vA{k:Nat}(hk:k<=11)(b:Ub)(I:Pi w (ia a) pa)(J:4<=k->Pi w (ia b) pb)(hn:n<=9):
  Calls prog (kP k) #[xk pa,xk pb,xd xh (n:Int)] w λe w'=>∃v,e=xm (xk v)/\Pi w' (jg k a b n) v/\XL w w':=by
 rcases Ha (show k<12 from zo) with rfl|rfl|rfl|rfl|rfl|rfl|rfl|rfl|rfl|rfl|rfl|rfl
 .exact On a b n w I
 .exact Oo a b n w I
 .exact Oq a b n w I hn
 .exact PE a b n w I hn
 .exact Ev a b n w I (J zp)
 .exact Hc a b n w I (J zp)
 .exact Mc a b n w I (J zp)
 .exact JR a b n w I (J zp)
 .exact Ot a b n w I (J zp)
 .exact Mb a b n w I (J zp)
 .exact Md a b n w I (J zp)
 exact Hb a b n w I (J zp)
def Gx(k:Nat)(hk:5<=k)(hk':k<=9)(w:Uc)(lb:Nat)(ins:Bool)(ev:Ub)(more:Bool)(s:Ub)(i a b:Nat)(h:Sb w lb ins ev more nx hr)(J:nx<4294967296)(I:hr<4294967296)(hi:i<=31)(U:a<=31)(hb:b<=31):
  Calls prog 242 #[xk (TT lb),xd xh (i:Int),.agg #[xd xh (k:Int),xj s,xd xh (a:Int),xd xh (b:Int)]] w λe w'=>e=xm (xn (jl k ins more (ev.toList==s.toList) (hr.testBit a) (hr.testBit b) (nx.testBit a) (nx.testBit i)))/\XL w w':=by
 have h':k=5\/k=6\/k=7\/k=8\/k=9:=zo;rcases h' with rfl|rfl|rfl|rfl|rfl
 .exact NU w s i a b h J I hi U hb
 .exact NV w s i a b h J I hi U hb
 .exact Pr w s i a b h J I hi U hb
 .exact NT w s i a b h J I hi U hb
 exact Lj w s i a b h J I hi U hb
def Sb.later{ins:Bool}{more:Bool}(h:Sb w lb ins ev more nx hr)(I:XL w w'):Sb w' lb ins ev more nx hr:=(I.block lb (dK h)).trans h
def D8(k:Nat)(hk:5<=k)(U:k<=9)(w:Uc){ins:Bool}{more:Bool}(s:Ub)(i a b:Nat)(h:Sb w lb ins ev more nx hr)(J:nx<4294967296)(I:hr<4294967296)(hi:i<=31)(ha:a<=31)(hb:b<=31):
  Calls prog 197 #[xk (TT lb),xd xh (i:Int),.agg #[xd xh (k:Int),xj s,xd xh (a:Int),xd xh (b:Int)]] w λe w'=>e=xm (xn (jl k ins more (ev.toList==s.toList) (hr.testBit a) (hr.testBit b) (nx.testBit a) (nx.testBit i)))/\XL w w':=by
 have HC:=fy (λW h=>Gx k hk U W lb ins ev more s i a b h J I hi ha hb);generalize jl k ins more (ev.toList==s.toList) (hr.testBit a) (hr.testBit b) (nx.testBit a) (nx.testBit i)=B at *;clear J I hi ha hb;have h':k=5\/k=6\/k=7\/k=8\/k=9:=zo;rcases h' with rfl|rfl|rfl|rfl|rfl
 all_goals
  go_in
  go_wp2_with (refine(HC.out _ (h.later gC)).mono ?_)
  exact zm172
def K7{k:Nat}(hk:k<=12){ins:Bool}{more:Bool}{s:Ub}(i:Nat){a:Nat}(h:Sb w lb ins ev more nx hr)(J:nx<4294967296)(I:hr<4294967296)(hi:i<=31)(U:a<=31)(hb:b<=31):
  Calls prog 197 #[xk (TT lb),xd xh (i:Int),.agg #[xd xh (k:Int),xj s,xd xh (a:Int),xd xh (b:Int)]] w λe w'=>e=xm (xn (jl k ins more (ev.toList==s.toList) (hr.testBit a) (hr.testBit b) (nx.testBit a) (nx.testBit i)))/\XL w w':=by
 have h':k=0\/k=1\/k=2\/k=3\/k=4\/(5<=k/\k<=9)\/k=10\/k=11\/k=12:=zo;rcases h' with rfl|rfl|rfl|rfl|rfl|⟨h1,h2⟩|rfl|rfl|rfl
 .exact Pd w s i a b h J I hi U hb
 .exact NH w s i a b h J I hi U hb
 .exact K5 w s i a b h J I hi U hb
 .exact Pf w s i a b h J I hi U hb
 .exact Ph w s i a b h J I hi U hb
 .exact D8 k h1 h2 w s i a b h J I hi U hb
 .exact Pe w s i a b h J I hi U hb
 .exact P5 w s i a b h J I hi U hb
 exact Pg w s i a b h J I hi U hb
def xG{i:Nat}(hH:H<4294967296)(hi:i<=31):bits BinOp.or IntKind.u32 (H:Int) (2^i%4294967296)=((H|||2^i:Nat):Int):=by
 have I:(2:Nat)^i<4294967296:=Nat.lt_of_le_of_lt (VO zp hi) zp;have e:(2:Int)^i%4294967296=((2^i:Nat):Int):=by
  rw[show(2:Int)^i=((2^i:Nat):Int) from zp];generalize 2^i=z at *;omega
 rw[e];exact QG H hH I
def S6(w:Uc)(o:TX)(S:List Sp):Prop:=∀j d,S[j]?=some d->∃g,o=some ⟨g,0,none⟩/\g<w.heap.size/\w.cell? (TU g (j*4))=some (xd xh (d.k:Int))/\w.cell? (TU g (j*4+1))=some (xj d.s)/\w.cell? (TU g (j*4+2))=some (xd xh (d.a:Int))/\w.cell? (TU g (j*4+3))=some (xd xh (d.b:Int))
def S6.later{S:List Sp}(h:S6 w o S)(J:XL w w'):S6 w' o S:=λj d hd=>by
 obtain⟨g,U,I,h3,h4,h5,h6⟩:=h j d hd;exact⟨g,U,Uw I J.size,(Fd J _ _ I).trans h3,(Fd J _ _ I).trans h4,(Fd J _ _ I).trans h5,(Fd J _ _ I).trans h6⟩
def S6.of{base:Nat}{c:Nat}{S:List Sp}(h:w.ownsRow base 319 4 (xa o S.length c) S.length (pw S)):S6 w o S:=by
 intro j d U;have hj:j<S.length:=by
  rcases UU j S.length with h|h
  .omega
  simp_all
 obtain⟨_,⟨h1,h2⟩|⟨g,cap,cur,hv,_,I,hle,_,hcs,J⟩⟩:=h
 .omega
 cases hv;have key:∀m,m<4->w.cell? (TU g (j*4+m))=(Dz d)[m]? :=by
  intro m hm;rw[EQ I,<-UN,<-JB U m hm,<-J,U8,Uh zo]
 exact⟨g,rfl,dK I,key 0 zo,key 1 zo,key 2 zo,key 3 zo⟩
structure EI(S:List Sp):Prop where
 len:S.length<=31
 k:∀d∈S,d.k<=12
 a:∀d∈S,d.a<=31
 b:∀d∈S,d.b<=31
structure TB(w W:Uc)(so:TX)(n sc:Nat)(wh:Nat)(ins:Bool)(ev:Ub)(more:Bool)(nx hr:Nat):Prop where
 wk:W.heap[w.heap.size]?=some (xi #[xa so n sc,xd .u32 (wh:Int)] 149 (0,0))
 lk:Sb W (w.heap.size+1) ins ev more nx hr
 bel:XL w W
def TB.later{ins:Bool}{more:Bool}(h:TB w W so n sc wh ins ev more nx hr)(I:XL W W'):TB w W' so n sc wh ins ev more nx hr:=
 ⟨(I.block _ (dK h.wk)).trans h.wk,h.lk.later I,h.bel.trans (I.mono h.bel.size)⟩
def TB.set{ins:Bool}{more:Bool}(h:TB w W so n sc wh ins ev more nx hr)(z:Int)(I:Nat)(U:z=(I:Int)):TB w (W.setCell (TU (w.heap.size+1) 4) (xd .u32 z)) so n sc wh ins ev more nx I:=by
 subst U;refine⟨(XE zp).trans h.wk,gj h.lk 4 _,h.bel.grown (gp _ _ _ _) h.bel.size (λb J=>by cases J;omega)⟩
def Cw(w:Uc){S:List Sp}(so:TX)(sc wh:Nat)(ins:Bool)(ev:Ub)(more:Bool)(nx:Nat)(hS:S6 w so S)(hG:EI S)(ay:nx<4294967296):
  Calls prog 167 #[.agg #[xa so S.length sc,xd .u32 (wh:Int)],.agg #[xn ins,xj ev,xn more,xd .u32 (nx:Int),xd .u32 0]] w λe w'=>e=xm (xd .u32 (kO S ins ev more nx:Nat))/\XL w w':=by
 have aj:=hG.len;have an:Hid (TB w ((w.alloc (xi #[xa so S.length sc,xd .u32 (wh:Int)] 149)).alloc (xi #[xn ins,xj ev,xn more,xd .u32 (nx:Int),xd .u32 0] 277)) so S.length sc wh ins ev more nx 0):=
  ⟨(XD zp).trans (gi _ _),gu zp,gC.alloc zp _⟩
 go_in;go_wp2_with fail;generalize ((w.alloc (xi #[xa so S.length sc,xd .u32 (wh:Int)] 149)).alloc (xi #[xn ins,xj ev,xn more,xd .u32 (nx:Int),xd .u32 0] 277))=W0 at *
 go_loopw [10] (λx wr=>∃i:Nat,i<=S.length/\x=xd xh i/\Hid (TB w wr so S.length sc wh ins ev more nx (jJ S ins ev more nx i))) (λx _=>S.length-(intOf x).toNat)
 .exact⟨0,Ux,rfl,an⟩
 obtain⟨i,hi,rfl,I⟩:=hrel;rcases zc i S.length with⟨hlt,hin⟩|⟨hlt,hin⟩
 .have hd:=Uq hlt;obtain⟨g,az,hg,c0,c1,c2,c3⟩:=hS.later I.out.bel i S[i] hd;have aa:=UY hlt;have aw:=hG.k _ aa;have au:=hG.a _ aa;have av:=hG.b _ aa;have ae:Hid (jJ S ins ev more nx (i+1)=jJ S ins ev more nx i+(if jl S[i].k ins more (ev.toList==S[i].s.toList) ((jJ S ins ev more nx i).testBit S[i].a) ((jJ S ins ev more nx i).testBit S[i].b) (nx.testBit S[i].a) (nx.testBit i)=true then 2^i else 0)):=by
   show _=_;rw[jJ];unfold A4;rw[hd]
  have ad:jJ S ins ev more nx i<4294967296:=Uw (xy S ins ev more nx) (UP (VO zp (show i<=32 from zo)) zp);have ag:=fy (CC S ins ev more nx i);subst az;clear hd aa;generalize S[i]=d at *
  go_wp2_with (refine(K7 aw i ((I.out.later gC).lk) ay ad zo au av).mono ?_)
  rintro e w1 ⟨rfl,ai⟩;have J:=fy (((I.out.later ((XF).alloc (XH) (xi #[xd xh (d.k:Int),xj d.s,xd xh (d.a:Int),xd xh (d.b:Int)] 319)))).later ai);clear ai I c0 c1 c2 c3;generalize hB:jl d.k ins more (ev.toList==d.s.toList) ((jJ S ins ev more nx i).testBit d.a) ((jJ S ins ev more nx i).testBit d.b) (nx.testBit d.a) (nx.testBit i)=B at *;clear hB;have lc:=EQ J.out.lk;have lf:=gh J.out.lk;cases B with
  |false=>
   go_wp2
   go_roundw
   .exact⟨i+1,zo,zf,by rw[ae.out];simpa using J⟩
   simp[intOf];omega
  |true=>
   generalize jJ S ins ev more nx i=H at *;go_wp2_with fail
   go_region
   have U:=fy ((J.out.set (bits BinOp.or IntKind.u32 (H:Int) (2^i%4294967296)) (H+2^i) (by rw[xG ad zo,ag.out])).later ((XF).drew));generalize (w1.setCell (TU (w.heap.size+1) 4) (xd .u32 (bits BinOp.or IntKind.u32 (H:Int) (2^i%4294967296)))).drew=w2 at *;generalize bits BinOp.or IntKind.u32 (H:Int) (2^i%4294967296)=z at *;clear lc lf;go_wp2
   go_roundw
   .exact⟨i+1,zo,zf,by rw[ae.out];simpa using U⟩
   simp[intOf];omega
 have ax:i=S.length:=zo;subst ax;have ad:jJ S ins ev more nx S.length<4294967296:=Uw (xy S ins ev more nx) (UP (VO zp (show S.length<=32 from zo)) zp);have ag:=fy (CC S ins ev more nx S.length);have aq:Hid (kO S ins ev more nx=jJ S ins ev more nx S.length+(if ins=true then 2^S.length else 0)):=rfl;have lc:=EQ I.out.lk;have lf:=gh I.out.lk;have wc:=EQ I.out.wk;generalize jJ S ins ev more nx S.length=H at *;cases ins with
 |false=>
  go_wp2;go_ret;have e:kO S false ev more nx=H:=zv;rw[e];exact⟨rfl,I.out.bel⟩
 |true=>
  go_wp2_with fail
  go_region
  have U:=fy ((I.out.set (bits BinOp.or IntKind.u32 (H:Int) (2^S.length%4294967296)) (H+2^S.length) (by rw[xG ad aj,ag.out])).later ((XF).drew));have lc2:=EQ U.out.lk;generalize (wr.setCell (TU (w.heap.size+1) 4) (xd .u32 (bits BinOp.or IntKind.u32 (H:Int) (2^S.length%4294967296)))).drew=w2 at *;generalize bits BinOp.or IntKind.u32 (H:Int) (2^S.length%4294967296)=z at *;have ao:Hid (kO S true ev more nx=H+2^S.length):=by show _=_;trivial
  clear lc lf wc aq;generalize H+2^S.length=F at *;go_wp2;go_ret;rw[ao.out];exact⟨rfl,U.out.bel⟩
def xW(w:Uc){S:List Sp}(so:TX)(sc wh:Nat)(U:S6 w so S)(I:EI S):
  Calls prog 125 #[.agg #[xa so S.length sc,xd .u32 (wh:Int)]] w λe w'=>e=xm (xd .u32 (kz S []:Nat))/\XL w w':=by
 have J:=fy (λW h=>Cw W so sc wh false ⟨#[]⟩ false 0 h I zp);clear I;go_in
 go_wp2_with (refine(J.out _ (U.later gC)).mono ?_)
 exact zm172
def vX(w:Uc)(so:TX)(n sc:Nat)(p:Nat)(hw:wh<4294967296)(J:p<4294967296):
  Calls prog 127 #[.agg #[xa so n sc,xd .u32 (wh:Int)],xd .u32 (p:Int)] w λe w'=>e=xm (xn (p&&&wh==wh))/\XL w w':=by
 have I:=fy (My wh J hw);go_in;go_wp2;go_ret;refine⟨ja ?_,gC⟩;rw[I.out];rw[Vz];simp only[VE];omega
def z7{S:List Sp}(so:TX)(sc wh:Nat)(nx:Nat)(ev:Ub)(hS:S6 w so S)(hG:EI S)(ae:nx<4294967296):
  Calls prog 126 #[.agg #[xa so S.length sc,xd .u32 (wh:Int)],xd .u32 (nx:Int),xj ev] w λe w'=>e=xm (xd .u32 (kO S true ev (nx.testBit S.length) nx:Nat))/\XL w w':=by
 have HC:=fy (λW h=>Cw W so sc wh true ev (nx.testBit S.length) nx h hG ae);have HH:=fy (λW=>ic ae hG.len rfl (w:=W));clear hG;have aa:(w.alloc (xi #[xa so S.length sc,xd .u32 (wh:Int)] 149)).heap[w.heap.size]?=some (xi #[xa so S.length sc,xd .u32 (wh:Int)] 149 (0,0)):=gi _ _;have hB:=ir w (xi #[xa so S.length sc,xd .u32 (wh:Int)] 149);have ai:=hS.later hB;generalize hT:nx.testBit S.length=tb at *;clear hT;go_in;go_wp2_with fail;generalize (w.alloc (xi #[xa so S.length sc,xd .u32 (wh:Int)] 149))=W at *;have bc:=EQ aa;have ad:=dK aa;have c0:=bc 0;have c1:=bc 1;clear bc;refine R' (S:=λw'=>w'.cell? (TU w.heap.size 0)=some (xa so S.length sc)/\w'.cell? (TU w.heap.size 1)=some (xd .u32 (wh:Int))) zk ?_ (λI=>?_)
 .trivial
 apply zt1 0 (.agg #[xa so S.length sc,xd .u32 (wh:Int)]) I;apply zt1 1 (xj ev) I;apply zt1 2 (xd .u32 (nx:Int)) I;apply zt1 3 (xk (TT w.heap.size)) I;apply zt1 4 (xa so S.length sc) I;apply zt1 5 (xd xh (S.length:Int)) I;apply zt1 7 (xd .u32 (nx:Int)) I;apply zrH 6;intro K U;go_simp;refine(HH.out _).mono ?_;rintro e w5 ⟨rfl,ag⟩;have h5:=ag.symm;clear ag;subst h5;refine U.out _ _ I (λI=>?_);clear U K;apply zt1 8 (.agg #[xn true,xj ev,xn tb,xd .u32 (nx:Int),xd .u32 0]) I;apply zrH 9;intro K U;go_simp;refine(HC.out _ (ai.later ((XF).drew))).mono ?_;rintro e w6 ⟨rfl,J⟩;refine U.out _ _ ⟨(Fd J _ _ ad).trans I.1,(Fd J _ _ ad).trans I.2⟩ (λI=>?_);clear U K;have HB6:=(hB.trans ((((XF).drew).trans J).mono hB.size));clear J;apply zt1 10 (xd .u32 (kO S true ev tb nx:Nat)) I;refine Ut zk ?_ _;clear I;go_wp2;go_ret;trivial
def Hk{S:List Sp}(h:EI S)(tr:TZ):kz S tr<4294967296:=
 Uw (Mq S tr) (UP (VO zd (show S.length+1<=32 by have:=h.len;omega)) zd)
def FT{S:List Sp}(hS:S6 w so S)(hG:EI S)(hT:So w tt tr)(aE:wh<4294967296)(hn:tr.length<=10000000000000):
  Calls prog 79 #[.agg #[xa so S.length sc,xd .u32 (wh:Int)],xa tt tr.length tc] w λe w'=>e=xm (xn (kz S tr&&&wh==wh))/\XL w w':=by
 have aq:=fy (λW nx ev h h'=>z7 (w:=W) so sc wh nx ev h hG h');have au:=fy (λW h=>xW W so sc wh h hG);have ar:=fy (λW p h=>vX W so S.length sc p aE h);have aw:=fy (λl=>Hk hG l);have ae:(w.alloc (xi #[xa so S.length sc,xd .u32 (wh:Int)] 149)).heap[w.heap.size]?=some (xi #[xa so S.length sc,xd .u32 (wh:Int)] 149 (0,0)):=gi _ _;have hB:=ir w (xi #[xa so S.length sc,xd .u32 (wh:Int)] 149);have ai:=hS.later hB;have ay:=hT.later hB;clear hG hS hT;go_in
 go_wp2_with (go_at_call 125;refine(au.out _ ai).mono ?_)
 rintro e w1 ⟨rfl,aA⟩;generalize (w.alloc (xi #[xa so S.length sc,xd .u32 (wh:Int)] 149))=W at *;have aa:=dK ae;go_wp2
 go_loopw [5,6] (λpv x wr=>∃j:Nat,j<=tr.length/\pv=xd .u32 (kz S (tr.drop j):Nat)/\x=xd xh ((j:Int)-1)/\Hid (XL W wr)) (λ_ x _=>(intOf x+1).toNat)
 .exact⟨tr.length,XH,by rw[List.drop_length],rfl,aA⟩
 obtain⟨j,hj,rfl,rfl,J⟩:=hrel;have bc:=λo=>EQ ((J.out.block _ aa).trans ae) o
 have an:=dK ((J.out.block _ aa).trans ae);have c0:wr.cell? (TU w.heap.size 0)=some (xa so S.length sc):=bc 0;have c1:wr.cell? (TU w.heap.size 1)=some (xd .u32 (wh:Int)):=bc 1;clear bc;have ax:=ai.later J.out;have ag:=aw.out (tr.drop j);by_cases hj0:1<=j
 .obtain⟨k,rfl⟩:∃k,j=k+1:=⟨j-1,zo⟩;have hk:k<tr.length:=zo;have hkn:(k:Int)<(tr.length:Int):=zo;have aj:kz S (tr.drop k)=kO S true tr[k] ((kz S (tr.drop (k+1))).testBit S.length) (kz S (tr.drop (k+1))):=by
   rw[UK hk,kz]
  obtain⟨b,off,aD,aB,aC⟩:=ay.later J.out k tr[k] (Uq hk);have av:=fy aj;subst aD;clear aj;generalize tr[k]=x at *;generalize hP:kz S (tr.drop (k+1))=P at *;clear hP;have ak:((k+1:Nat):Int)-1=(k:Int):=zo;rw[ak];clear ak;go_wp2_with fail;refine R' (S:=λw'=>w'.cell? (TU w.heap.size 0)=some (xa so S.length sc)/\w'.cell? (TU w.heap.size 1)=some (xd .u32 (wh:Int))/\w'.cell? (TU b (off+k))=some (xj x)) zk ?_ (λI=>?_)
  .exact⟨c0,c1,aC⟩
  apply zt1 0 (.agg #[xa so S.length sc,xd .u32 (wh:Int)]) I;apply zt1 1 (xd .u32 (P:Int)) I;apply zt1 2 (xa (some (TU b off)) tr.length tc) I;apply zt1 3 (xd xh (k:Int)) I;apply zt1 4 (xk (some (TU b (off+k)))) I;apply zt1 5 (xj x) I;apply zrH 6;intro K hK;go_simp;refine(aq.out _ P x (ax.later ((XF).drew)) ag).mono ?_;rintro e w6 ⟨rfl,U⟩;refine hK.out _ _ ⟨(Fd U _ _ an).trans I.1,(Fd U _ _ an).trans I.2.1,(Fd U _ _ aB).trans I.2.2⟩ (λI=>?_);clear hK K;have ad:=(J.out.trans ((((XF).drew).trans U).mono J.out.size));clear U;rw[<-av.out];apply zt1 7 (xd .u32 (kz S (tr.drop k):Nat)) I;refine Ut zk ?_ _;clear I;go_wp2
  go_roundw
  .exact⟨k,zo,rfl,by go_num,ad⟩
  simp[intOf]
 obtain rfl:j=0:=zo;rw[Vt] at ag|-
 go_wp2_with (go_at_call 127;refine(ar.out _ _ ag).mono ?_)
 rintro e w6 ⟨rfl,U⟩;have ad:=(hB.trans (J.out.mono hB.size)).trans (U.mono (by have:=hB.size;have:=J.out.size;omega));clear U;go_wp2;go_ret;exact⟨rfl,ad⟩
def sk:∀(rs:T6)(S:List Sp)(w:Nat),w<2^S.length->(∀r∈rs,gO r≠ .nil)->ij rs S w<2^(gH rs S).length
 |[],S,w,h,_=>h
 |r::rs,S,w,h,hn=>by
  rw[ij,gH];have hp:=lO (hn r (Um ..));have hl:=jK (gO r) S;refine sk rs _ _ (Nat.or_lt_two_pow (Uw h (VO zp zo)) (Nat.pow_lt_pow_right zp zo)) (λJ I=>hn J (Ul I))
theorem ta:∀(f:Fm)(S:List Sp),(∀d∈S,d.a<=M/\d.b<=M)->(iu f S).length<=M->∀d∈iu f S,d.a<=M/\d.b<=M
 |.nil,S,h,_=>h
 |.node u v a l r,S,h,hl=>by
  rw[jK] at hl;have hz:gI (.node u v a l r)=1+gI l+gI r:=rfl;have e1:=jK l S;have e2:=jK r (iu l S);have J:=ta l S h zo;have h2:=ta r (iu l S) J zo;intro d I;rw[iu] at I;rcases List.mem_append.1 I with I|I
  .simp_all
  rcases List.mem_singleton.1 I with rfl
  constructor
  .show(if yx l then 0 else (iu l S).length-1)<=M
   split<;>omega
  show(if yx r then 0 else (iu r (iu l S)).length-1)<=M
  split<;>omega
theorem Er:∀(rs:T6)(S:List Sp),(∀d∈S,d.a<=M/\d.b<=M)->(gH rs S).length<=M->∀d∈gH rs S,d.a<=M/\d.b<=M:=by intro I;induction I<;>grind[ta,pA,gH,gO]
def tP(h:Q5 al rs):EI (gH rs []):=by
 have hs:Sk (gH rs []) (om rs):=by simpa using A5 rs [] [] Sk.nil
 have hl:(gH rs []).length<=16:=by rw[pA];have:=h.nodes;simp;omega
 have hk:=A8 (λr hr=>(h.fg r hr).kok);have key:∀d∈gH rs [],d.k<=12/\d.a<=31/\d.b<=31:=by
  intro d I;obtain⟨j,hj,hjd⟩:=List.mem_iff_getElem.1 I;have U:(gH rs [])[j]?=some d:=za;have J:j<(om rs).length:=by rw[<-hs.1];omega
  have ad:=hs.2 j d _ U (Uq J);have aa:=hk _ (UY J);have hz:=Er (M:=16) rs [] (λd I=>(US I).elim) hl d I;have hk12:d.k<=12:=by
   generalize (om rs)[j]=f at *;cases f with
   |nil=>trivial
   |node u v a l r=>rw[ad.1];exact aa.1
  omega
 exact⟨zo,λd I=>(key d I).1,λd I=>(key d I).2.1,λd I=>(key d I).2.2⟩
def TF(w:Uc)(o:TX)(ps:List (TX)):Prop:=∀j p,ps[j]?=some p->∃g,o=some ⟨g,0,none⟩/\g<w.heap.size/\w.cell? (TU g j)=some (xk p)
def Tu(w:Uc)(rs:T6)(ps:List (TX)):Prop:=rs.length=ps.length/\∀(j:Nat)(r:Rl)(p:TX),rs[j]?=some r->ps[j]?=some p->Pi w (gO r) p
def TF.later{ps:List (TX)}(h:TF w o ps)(J:XL w w'):TF w' o ps:=λj p hp=>by
 obtain⟨g,U,I,h3⟩:=h j p hp;exact⟨g,U,Uw I J.size,(Fd J _ _ I).trans h3⟩
def Tu.later{ps:List (TX)}(h:Tu w rs ps)(U:XL w w'):Tu w' rs ps:=⟨h.1,λj r p I J=>(h.2 j r p I J).later U⟩
structure NW(w W:Uc)(so:TX)(sc:Nat)(S:List Sp)(wh:Nat):Prop where
 rb:W.heap[w.heap.size]?=some (xi #[TV,xd .u32 0] 149 (0,0))
 wb:W.heap[w.heap.size+1]?=some (xi #[xa so S.length sc,xd .u32 (wh:Int)] 149 (0,0))
 own:W.ownsRow (w.heap.size+2) 319 4 (xa so S.length sc) S.length (pw S)
 bel:XL w W
def NW.call{S S':List Sp}(h:NW w W so sc S wh)(hp:BK (w.heap.size+2) S' (xa so S.length sc) W w2 e):
  ∃U c',e=xm (xa U S'.length c')/\NW w (w2.setCell (TU (w.heap.size+1) 0) (xa U S'.length c')) U c' S' wh/\w2.heap[w.heap.size+1]?=some (xi #[xa so S.length sc,xd .u32 (wh:Int)] 149 (0,0)):=by
 obtain⟨U,c',he,ho,hg,hat⟩:=hp;have hrb:=(hg.block _ (dK h.rb) (λe=>gz h.own e.symm h.rb zp)).trans h.rb;have I:=(hg.block _ (dK h.wb) (λe=>gz h.own e.symm h.wb zp)).trans h.wb;have J:=h.bel.grown hg h.bel.size (λb hb=>by have:=(gJ h.own b hb).1;omega);refine⟨U,c',he,⟨(XE zp).trans hrb,gj I 0 _,gy ho (gp _ _ _ _) (Rr (λe=>gz ho e I zp)),J.grown (gp _ _ _ _) J.size (λb hb=>by cases hb;omega)⟩,I⟩
def NW.set{S:List Sp}(h:NW w W so sc S wh)(z:Int)(I:Nat)(U:z=(I:Int)):NW w (W.setCell (TU (w.heap.size+1) 1) (xd .u32 z)) so sc S I:=by
 subst U;exact⟨(XE zp).trans h.rb,gj h.wb 1 _,gy h.own (gp _ _ _ _) (Rr (λe=>gz h.own e h.wb zp)),h.bel.grown (gp _ _ _ _) h.bel.size (λb J=>by cases J;omega)⟩
def NW.later{S:List Sp}(h:NW w W so sc S wh)(I:XL W W'):NW w W' so sc S wh:=
 ⟨(I.block _ (dK h.rb)).trans h.rb,(I.block _ (dK h.wb)).trans h.wb,gq h.own I,h.bel.trans (I.mono h.bel.size)⟩
def Hv(rs:T6)(w w':Uc)(e:Ending):Prop:=∃so sc,e=xm (.agg #[xa so (gH rs []).length sc,xd .u32 (ij rs [] 0:Nat)])/\S6 w' so (gH rs [])/\XL w w'
def DN{ps:List (TX)}(fc:Nat)(hF:TF w fo ps)(hP:Tu w rs ps)(hn:iw rs<=16)(hrl:rs.length<=401)(aw:∀r∈rs,gO r≠ .nil):
  Calls prog 124 #[xa fo rs.length fc] w λe w'=>Hv rs w w' e:=by
 have an:=fy aw;clear aw;have aE:Hid (NW w ((w.alloc (xi #[TV,xd .u32 0] 149)).alloc (xi #[TV,xd .u32 0] 149)) none 0 [] 0):=
  ⟨(XD zp).trans (gi _ _),gu zp,XG,gC.alloc zp _⟩
 go_in;go_wp2_with fail;generalize ((w.alloc (xi #[TV,xd .u32 0] 149)).alloc (xi #[TV,xd .u32 0] 149))=W0 at *
 go_loopw [8] (λx wr=>∃(k:Nat)(so:TX)(sc:Nat),k<=rs.length/\x=xd xh k/\Hid (NW w wr so sc (gH (rs.take k) []) (ij (rs.take k) [] 0))) (λx _=>rs.length-(intOf x).toNat)
 .exact⟨0,none,0,Ux,rfl,aE⟩
 obtain⟨k,so,sc,hk,rfl,I⟩:=hrel;rcases zc k rs.length with⟨hlt,hkn⟩|⟨hlt,hkn⟩
 .have az:=Uq hlt;obtain⟨p,aj⟩:∃p,ps[k]?=some p:=⟨_,Uq (by have:=hP.1;omega)⟩;obtain⟨g,aL,hg,hcp⟩:=hF.later I.out.bel k p aj;have aD:=(hP.later I.out.bel).2 k _ p az aj;have U:rs.take (k+1)=rs.take k++[rs[k]]:=zp;have aA:=UY hlt;have au:=an.out _ aA;have aP:(gH (rs.take k) []).length=iw (rs.take k):=by rw[pA];simp
  have aC:iw (rs.take k)+gI (gO rs[k])<=16:=by
   have h1:iw rs=iw (rs.take (k+1))+iw (rs.drop (k+1)):=by rw[<-mL,Vn]
   rw[U,mL] at h1;simp only[iw] at h1;omega
  have aG:Hid (gH (rs.take (k+1)) []=iu (gO rs[k]) (gH (rs.take k) [])):=by show _=_;rw[U,wM]
  have ao:Hid (ij (rs.take (k+1)) [] 0=(ij (rs.take k) [] 0|||2^((iu (gO rs[k]) (gH (rs.take k) [])).length-1))):=by show _=_;rw[U,EB,wM]
  have aQ:ij (rs.take k) [] 0<4294967296:=Uw (sk _ [] 0 zp (λr hr=>an.out r (VS hr))) (UP (VO zp (show _<=32 from zo)) zp);have aI:=jK (gO rs[k]) (gH (rs.take k) []);have aO:=lO au;have ha1:1<=(iu (gO rs[k]) (gH (rs.take k) [])).length:=zo;have ha2:(iu (gO rs[k]) (gH (rs.take k) [])).length<=16:=zo;have aB:(gH (rs.take k) []).length+gI (gO rs[k])<=100000:=zo;subst aL;clear az aj U aA aP aC aI aO;generalize gH (rs.take k) []=S at *;generalize ij (rs.take k) [] 0=wh at *;generalize rs[k]=r at *;have ak:=fy (λW h1 h2 h3=>lE (gO r) S W p (w.heap.size+2) so sc au h1 h2 h3 aB);generalize hfr:gO r=f at *;clear hfr aB;have wc:=EQ I.out.wb;have hwb:=dK I.out.wb
  go_wp2_with (refine(ak.out _ aD I.out.own zo).mono ?_)
  intro e w2 ay;obtain⟨o2,c2,aK,ae,ag⟩:=I.out.call ay;subst aK;have wc:=EQ ag;have wf:=gh ag;clear ay ag;generalize hS2:iu f S=S2 at *;clear hS2;obtain⟨m,hm⟩:∃m,S2.length=m+1:=⟨S2.length-1,zo⟩;go_wp2_with fail;have aa:w2.setCell (TU (w.heap.size+1) 0) (xa o2 S2.length c2)=w2.setCell (TU (w.heap.size+1) 0) (xa o2 (m+1) c2):=by rw[hm]
  rw[aa] at ae;clear aa wc wf;generalize w2.setCell (TU (w.heap.size+1) 0) (xa o2 (m+1) c2)=w3 at *;have aH:Hid (ij (rs.take (k+1)) [] 0=(wh|||2^m)):=by show _=_;rw[ao.out,hm];rfl
  have av:m<=31:=zo;have J:=ae.wb;rw[hm] at J;have wc:=EQ J;have wf:=gh J;clear J hm ao ak
  go_region
  have aF:=(ae.set (bits BinOp.or IntKind.u32 (wh:Int) (2^m%4294967296)) (wh|||2^m) (xG aQ av)).later ((XF).drew);generalize (w3.setCell (TU (w.heap.size+1) 1) (xd .u32 (bits BinOp.or IntKind.u32 (wh:Int) (2^m%4294967296)))).drew=w4 at *;generalize bits BinOp.or IntKind.u32 (wh:Int) (2^m%4294967296)=z at *;clear wc wf;go_wp2
  go_roundw
  .exact⟨k+1,o2,c2,zo,zf,by rw[aH.out,aG.out];exact aF⟩
  simp[intOf];omega
 have aM:rs.take k=rs:=UF zo;rw[aM] at I;have wc:=EQ I.out.wb;have rc:=EQ I.out.rb;have rf:=gh I.out.rb;go_wp2_with fail;have aq:=gj I.out.rb 0 (xa so (gH rs []).length sc);have ax:=gy I.out.own (gp wr w.heap.size 0 (xa so (gH rs []).length sc)) (Rr (λe=>gz I.out.own e I.out.rb zp));have ar:=gj aq 1 (xd .u32 ((ij rs [] 0:Nat):Int));have aN:=gy ax (gp _ w.heap.size 1 (xd .u32 ((ij rs [] 0:Nat):Int))) (Rr (λe=>gz ax e aq zp));have aJ:XL w ((wr.setCell (TU w.heap.size 0) (xa so (gH rs []).length sc)).setCell (TU w.heap.size 1) (xd .u32 ((ij rs [] 0:Nat):Int))):=by
  have h1:=I.out.bel.grown (gp wr w.heap.size 0 (xa so (gH rs []).length sc)) I.out.bel.size (λb hb=>za);exact h1.grown (gp _ _ _ _) h1.size (λb hb=>za)
 generalize ((wr.setCell (TU w.heap.size 0) (xa so (gH rs []).length sc)).setCell (TU w.heap.size 1) (xd .u32 ((ij rs [] 0:Nat):Int)))=wf at *;have ai:=ar;have fc:=EQ ai;refine py (v:=.agg #[xa so (gH rs []).length sc,xd .u32 ((ij rs [] 0:Nat):Int)]) (by simp[results,results124,go_sem,fc]) rfl ?_;exact⟨so,sc,rfl,S6.of aN,aJ⟩
def AF(w:Uc)(b q:Nat)(v:Ud):Prop:=∀i,i<q->w.cell? (TU b i)=some v
structure TH(v mv:Ud)(N e:Nat)(w w':Uc):Prop where
 os:w'.os=w.os
 tape:w'.tape=w.tape
 output:w'.output=w.output
 size:w.heap.size<=w'.heap.size
 block:∀k,k<w.heap.size->v.ownBlock≠some k->w'.heap[k]?=w.heap[k]?
 af:∀b q,b<w.heap.size->q<=N->AF w b q mv->AF w' b q mv
 ty:∀b,Q2 w b e->Q2 w' b e
 keeps:∀{base n:Nat},w.ownsRow base e 1 v n (List.replicate n mv)->n<=N->w'.ownsRow base e 1 v n (List.replicate n mv)
theorem AF.of_owns{base e g cap:Nat}(h:w.ownsRow base e 1 (xa (TT g) n cap) n (Ra n mv)):AF w g n mv:=by
 grind[gT,AF]
theorem TH.grown{v:Ud}{e:Nat}(h:w.grownBy w' none):TH v mv N e w w':=
 ⟨h.os,h.tape,h.output,h.size,λk U _=>h.block k U zp,λb q I _ J i hi=>by
  have:=J i hi;have e:=h.block b I zp;unfold RA at this|-;simp_all,λb ⟨c,m,I⟩=>⟨c,m,(h.block b (dK I) zp).trans I⟩,λho _=>gy ho h (by
   grind)⟩
def yD{base e size:Nat}{v:Ud}(h:w.ownsRow base e size v n xs)(hn:0<n):∃g cap,v=xa (TT g) n cap/\base<=g:=by
 obtain⟨_,⟨_,h2⟩|⟨g,cap,cur,hv,hg,_⟩⟩:=h
 .omega
 simp_all
theorem uf{m:Nat}:Ra n mv++Ra m mv=Ra (n+m) mv:=zp
theorem nI{P:Program}{rest:List Oper}{o:Oper}{a:Act}(aE:o.guard=none){s x:Operand}{t:TypeId}
  (ho:o.op=Op.call {callee:=Callee.builtin Builtin.append,args:=#[s,x],argTypes:=#[t,t]})
  (base:Nat){e:TypeId}{z:Ud}(ht:P.underlying t=some (.slice e))(hi:P.info? e=some i)(hz:i.zero=some z)(ag:i.size=1)(aM:i.bytes=bytes)(aS:z.cells.size=1)
  (v:Ud)(n:Nat)(mv:Ud)(hs:a.eval s=v)(ak:w.ownsRow base e 1 v n (Ra n mv))
  (ad:Addr)(m c:Nat)(hx:a.eval x=xa (some ad) m c)(hnews:∀j,j<m->w.cell? (ad.add j)=some mv)(h1:mv.oneCell'=true)
  (hm:0<m)(aK:n+m<=maxLen)(aj:(n+m)*bytes<=140737488355328)(hbase:base<=w.heap.size)
  (h:∀g cap w',w'.ownsRow base e 1 (xa (TT g) (n+m) cap) (n+m) (Ra (n+m) mv)->TH v mv (n+m) e w w'->(v.ownBlock=some g\/w.heap.size<=g)->wpList P ops Q rest (a.put o.dst (xa (TT g) (n+m) cap)) w'):wpList P ops Q (o::rest) a w:=by
 have aH:(Ra m mv).length=m*1:=zp;have aG:∀j u,(Ra m mv)[j]?=some u->w.cell? (ad.add j)=some u:=by
  grind
 have aI:∀u∈Ra m mv,u.oneCell'=true:=by
  simp_all
 have aa:∀(ao:TX)(cap:Nat),v=xa ao n cap->(ao=none->n=0/\cap=0)->(∀b,ao=some b->∀j u,(Ra n mv)[j]?=some u->w.cell? (b.add j)=some u)->cap<n+m->wpList P ops Q (o::rest) a w:=by
  intro ao cap hv au holds ar;refine wpList_append_grows w aE s x t ho e i z 1 bytes ht hi hz ag aM aS zp ao n cap (Ra n mv) za au zp holds ad m c (Ra m mv) hx aH aG aI ar aK aj ?_;intro v' w' U I;obtain⟨g,az,rfl,aN⟩:=yD U zo;refine h g az w' ?_ (TH.grown I) (Rr aN)
  grind[uf,im]
 obtain⟨hlen,⟨hv,aP⟩|⟨g,cap,cur,hv,hg,aJ,hle,hcap,hcs,htake⟩⟩:=id ak
 .subst aP;exact aa none 0 hv (λ_=>⟨rfl,rfl⟩) (λb hb=>zp) zo
 by_cases hr:n+m<=cap
 .refine wpList_append_fits w aE s x t ho base e i 1 ht hi ag g n cap (Ra n mv) za (hv▸ak) ad m c (Ra m mv) hx aH aG aI hr ?_;intro w' U I;rw[uf] at U;refine h g cap w' U ⟨I.os,I.tape,I.output,I.size,λk hk aQ=>I.block k hk (by intro e;apply aQ;rw[hv];exact e.symm),λb q hb hq ha=>?_,λb ⟨c',m',hb⟩=>?_,λ{base' n'} hk0 hq'=>?_⟩ (Rp (by rw[hv];rfl))
  .by_cases hbg:b=g
   .subst hbg;intro j hj;exact AF.of_owns U j zo
   intro j hj;have:=ha j hj;have e:=I.block b hb za;unfold RA at this|-;simp_all
  .by_cases hbg:b=g
   .subst hbg;obtain⟨_,⟨J,_⟩|⟨g2,aA,aB,J,_,ae,_⟩⟩:=U
    .cases J
    cases J;exact⟨_,_,ae⟩
   exact⟨c',m',(I.block b (dK hb) za).trans hb⟩
  obtain⟨k,hk⟩:∃k,k=n+m:=⟨_,rfl⟩;rw[<-hk] at hq' U;obtain⟨hl2,⟨J,hn2⟩|⟨g2,aA,aB,J,aL,ae,aF,aq,hcs2,ht2⟩⟩:=hk0
  .rw[hv] at J;cases J
  rw[hv] at J;cases J;obtain⟨_,⟨aw,_⟩|⟨g3,cap3,aC,aw,hb3,av,hle3,hcap3,aD,aR⟩⟩:=U
  .cases aw
  cases aw;refine⟨zp,Rr ⟨g,cap,aC,hv,aL,av,aF,aq,aD,?_⟩⟩;have:=congrArg (List.take (n*1)) aR
  grind
 refine aa (TT g) cap hv (λe=>by cases e) (λb hb j u hu=>?_) zo;cases hb;rw[Vm,U2,EQ aJ,<-UN]
 grind
def Q1(w:Uc)(l v:Ud)(e:Nat):Prop:=∃o n c,l=xa o n c/\n<=10000000000000/\∀i,i<n->∃b,o=some ⟨b,0,none⟩/\Q2 w b e/\w.cell? (TU b i)=some v
def BZ(w:Uc)(l:Ud){m:Ub}(h:Q1 w l (xj m) 9):
  Calls prog 66 #[l,xj m] w λe w'=>e=xm (xn true)/\w'=w:=by
 obtain⟨o,n,c,rfl,hn,h⟩:=h;have H:=fy h;clear h;exact zm29
def O':(prog.info? 4).map (λi=>(i.zero,i.size,i.bytes))=some (some (xn false),1,1):=zk
def Pc:(prog.info? 87).map (λi=>(i.zero,i.size,i.bytes))=some (some TV,1,24):=zk
structure RB(w0 w:Uc)(n:Nat)(v:Ud)(R:List (Nat->Bool))(us:T5):Prop where
 len:us.length=R.length
 own:w.ownsRow w0.heap.size 87 1 v R.length (us.map λu=>xa (TT u) (n+2) (n+2))
 row:∀(i u:Nat)(f:Nat->Bool),us[i]?=some u->R[i]?=some f->Q2 w u 4/\R9 w n f u (n+2) (n+2)
 bel:XL w0 w
def R9.later{g m c:Nat}(h:R9 w n f g m c)(hg:w'.heap[g]?=w.heap[g]?):R9 w' n f g m c:=
 ⟨h.len,h.top,λi I J=>by
  have:=h.at_ i I J;unfold RA at this|-;simp_all⟩
def RB.later{v:Ud}(h:RB w0 w n v R us)(I:XL w w'):RB w0 w' n v R us:=by
 refine⟨h.len,gq h.own I,λi u f U hf=>?_,h.bel.trans (I.mono h.bel.size)⟩;obtain⟨⟨c,m,J⟩,hr⟩:=h.row i u f U hf;have e:=I.block u (dK J);exact⟨⟨c,m,e.trans J⟩,hr.later e⟩
def RB.rows{v:Ud}(h:RB w0 w n v R us):FP w n v R:=by
 have h1:=h.len;have I:=h.own;obtain⟨o,k,rfl⟩:=ib I;refine⟨o,k,rfl,λi f hf=>?_⟩;have hi:i<R.length:=by
  rcases UU i R.length with h|h
  .omega
  simp_all
 obtain⟨g,rfl,_,hc⟩:=gT I hi;have J:us[i]?=some us[i]:=Uq zo;obtain⟨_,hr⟩:=h.row i us[i] f J hf;exact⟨g,us[i],n+2,n+2,rfl,za,hr⟩
def RB.app{v v2:Ud}(h:RB w0 w n v R us)(u:Nat)(f:Nat->Bool)(hu:Q2 w u 4)(hr:R9 w n f u (n+2) (n+2))
  (ho:w2.ownsRow w0.heap.size 87 1 v2 (R.length+1) ((us.map λu=>xa (TT u) (n+2) (n+2))++[xa (TT u) (n+2) (n+2)]))(hg:w.grownBy w2 v.ownBlock):RB w0 w2 n v2 (R++[f]) (us++[u]):=by
 have h1:=h.len;have h2:=h.own;have keep:∀b,Q2 w b 4->w2.heap[b]?=w.heap[b]? :=by
  rintro b ⟨c,m,hb⟩;exact hg.block b (dK hb) (λe=>gz h2 e.symm hb zp)
 refine⟨by simp[h1],?_,λi x y I U=>?_,?_⟩
 .rw[U1,Ur];exact ho
 .rcases UU i us.length with hi|hi
  .rw[UJ hi] at I;rw[UJ zo] at U;obtain⟨⟨c,m,J⟩,ad⟩:=h.row i x y I U;have e:=keep x ⟨c,m,J⟩;exact⟨⟨c,m,e.trans J⟩,ad.later e⟩
  rw[Uv hi] at I;rw[Uv zo] at U;have h0:i-us.length=0:=by
   rcases WI (i-us.length) with h|h
   .omega
   rw[VA zs] at I;cases I
  rw[h0] at I;rw[show i-R.length=0 from zo] at U;cases I;cases U;obtain⟨c,m,J⟩:=hu;have e:=keep u ⟨c,m,J⟩;exact⟨⟨c,m,e.trans J⟩,hr.later e⟩
 exact h.bel.grown hg h.bel.size (λb hb=>(gJ h2 b hb).1)
def GN{z:Int->Nat->Bool}{k:Nat}(h:L[k]?=some d):iq n z (L.take (k+1))=iq n z (L.take k)++[kL n z (iq n z (L.take k)) d]:=by
 rw[U5,h];exact lM n z _ d
def M6(k:Nat)(d:Nd)(i:Nat){bel:Ud}(R:List (Nat->Bool))(J:TA w tt ns)(hB:FP w ns.length bel R)(hg:BQ R.length d)(I:nt w nb k (iI d.k) d.a d.b d.t)(hi:1<=i)(hj:i<=ns.length+1)(hn:ns.length<=10000000000000):
  Calls prog 180 #[xk (TT nb),xd xh k,xd xh i,xa tt ns.length tc,bel] w λe w'=>e=xm (xn (kL ns.length (zT ns) R d i))/\∃q,w'=w.drewN q:=by
 obtain⟨j,rfl⟩:∃j,i=j+1:=⟨i-1,zo⟩;exact OS w k d j R J hB hg I zo hn
def Hu(w:Uc)(B:Nat)(L:List Nd)(T:T8)(hN:S0 w nb B L T)(hT:TA w tt ns)(hg:RY L)(ht:∀t∈T,0<=t/\t<(L.length:Int))(hn:ns.length<=10000000000000)(hL:L.length<=10000)(hTl:T.length<=10000):
  Calls prog 141 #[xk (some ⟨nb,0,none⟩),xa tt ns.length tc] w λe w'=>e=xm (xn (T.all λt=>NE (iq ns.length (zT ns) L) t 1))/\XL w w':=by
 obtain⟨v,hv⟩:=id hN;have l0:(jh L T 0).length=L.length:=by simp[jh]
 have l4:(jh L T 4).length=T.length:=by simp[jh]
 have o0:=hv.own 0;have o4:=hv.own 4;rw[l0] at o0;rw[l4] at o4;obtain⟨p0,c0,e0⟩:=ib o0;obtain⟨p4,c4,e4⟩:=ib o4;have aS:∀W,XL w W->W.cell? ⟨nb,0,none⟩=some (xa p0 L.length c0):=λW hW=>(EQ ((hW.block nb (dK hv.blk)).trans hv.blk) 0).trans (congrArg some e0)
 have aT:∀W,XL w W->W.cell? ⟨nb,4,none⟩=some (xa p4 T.length c4):=λW hW=>(EQ ((hW.block nb (dK hv.blk)).trans hv.blk) 4).trans (congrArg some e4)
 rw[e4] at o4;have ak:∀W i t,XL w W->T[i]?=some t->∃g,p4=some ⟨g,0,none⟩/\W.cell? ⟨g,i,none⟩=some (xd xh t):=λW i t hW hi=>by
  have av:i<T.length:=by
   rcases UU i T.length with h|h
   .exact h
   rw[VA h] at hi;cases hi
  obtain⟨g,h1,_,h2⟩:=gT (gq o4 hW) av;exact⟨g,h1,by rw[h2];simp[jh,hi]⟩
 have aE:=fy aS;have aG:=fy aT;have aM:=fy ak;have bj:=fy ht;clear aS aT ak ht hv o0 o4 e0 e4 l0 l4;obtain⟨i0,bC,bI,bJ,bK⟩:=Uk O';obtain⟨j0,ji,bM,bN,bO⟩:=Uk Pc;go_in;go_wp2
 go_loopw [5,6] (λbv x wr=>∃(k:Nat)(bo:TX)(bc:Nat)(us:T5),k<=L.length/\bv=xa bo k bc/\x=xd xh k/\RB w wr ns.length (xa bo k bc) (iq ns.length (zT ns) (L.take k)) us) (λ_ x _=>L.length-(intOf x).toNat)
 .exact⟨0,none,0,[],Ux,rfl,rfl,⟨rfl,XG,λi u f h=>by simp at h,XF⟩⟩
 rename Uc=>wR
 obtain⟨k,bo,bc,us,hk,rfl,rfl,hrb⟩:=hrel;have bm:=aE.out wR hrb.bel;have ar:(iq ns.length (zT ns) (L.take k)).length=k:=by rw[lL,Vi,Wu hk]
 rcases zc k L.length with⟨av,hkn⟩|⟨av,hkn⟩
 .obtain⟨d,hd⟩:∃d,L[k]?=some d:=⟨_,Uq av⟩;have HD:=fy hd;have aX:=hg k d hd;rw[<-ar] at aX;have bd:Hid (iq ns.length (zT ns) (L.take (k+1))=iq ns.length (zT ns) (L.take k)++[kL ns.length (zT ns) (iq ns.length (zT ns) (L.take k)) d]):=GN hd;have bH:=hrb.bel.size;clear hd;generalize iq ns.length (zT ns) (L.take k)=R at *
  go_wp2_with (at_make;go_must (refine Wx _ rfl _ _ 87 rfl wR.heap.size 4 i0 (xn false) 1 underlying87 bC bI bJ xh xh _ _ (ns.length+2) rfl rfl (by first|rfl|omega) (by first|rfl|omega) (by rw[bK];omega) (by unfold maxLen;omega) (XH) ?_;intro w1 ai I))
  have aU:∃cur,w1.heap[wR.heap.size]?=some (xi cur 4 (0,0))/\cur.size=ns.length+2:=by
   obtain⟨_,⟨h1,_⟩|⟨g',cap',aP,bF,_,bB,_,_,bw,_⟩⟩:=ai
   .cases h1
   cases bF;exact⟨aP,bB,by rw[bw,Wo]⟩
  obtain⟨aQ,ad,aV⟩:=aU;have hw1:=dK ad;have aI:Hid (XL wR w1):=⟨I.os,I.tape,I.output,I.size,λb hb=>I.block b hb (λe=>by cases e)⟩;clear ai I bm;go_wp2
  go_loopw [8] (λx wi=>∃(i:Nat)(cur:T1),1<=i/\i<=ns.length+2/\x=xd xh i/\wi.heap[wR.heap.size]?=some (xi cur 4 (0,0))/\cur.size=ns.length+2/\Hid (∀j,1<=j->j<i->cur[j]?=some (xn (kL ns.length (zT ns) R d j)))/\XL wR wi) (λx _=>ns.length+2-(intOf x).toNat)
  .exact⟨1,aQ,zo,zo,rfl,ad,aV,fy (λj h1 h2=>zo),aI.out⟩
  obtain⟨i,cur,bD,hi2,rfl,aa,aW,HV,ae⟩:=hrel;have aH:=hrb.bel.trans (ae.mono bH);have an:=dK aa;clear ad aI;by_cases hil:i<=ns.length+1
  .have aA:(i:Int)<=(ns.length:Int)+1:=zo
   go_wp2_with (go_at_call 180;refine(M6 k d i R (hT.later aH) (hrb.later ae).rows aX ((hN.later aH).nd HD.out) bD hil hn).mono ?_)
   rintro e w3 ⟨rfl,q,a6⟩;have az:Below _ _ w3:=a6▸iK _ q
   have au:=(az.block _ an).trans aa;have aF:=ae.trans (az.mono (by have:=ae.size;omega));have hlt3:=dK au;have cc3:w3.cell? ⟨_,i,none⟩=some cur[i]:=(EQ au i).trans (U' zo);have cf3:=gh au i;have hin:(i:Int)<(ns.length:Int)+2:=zo;clear a6 az;generalize cur[i]=old at *;go_wp2
   go_roundw
   .refine⟨i+1,cur.setIfInBounds i (xn (kL ns.length (zT ns) R d i)),zo,zo,by go_num,gj au i _,by rw[Array.size_setIfInBounds];exact aW,fy (λj h1 h2=>?_),?_⟩
    .by_cases e:j=i
     .subst e;rw[Array.getElem?_setIfInBounds_self_of_lt zo]
     rw[Xb zo];exact HV.out j h1 zo
    exact aF.grown (gp _ _ _ _) aF.size (λb hb=>by cases hb;exact XH)
   simp[intOf];omega
  have aA:¬ (i:Int)<=(ns.length:Int)+1:=zo;have hie:i=ns.length+2:=zo;have J:R9 _ ns.length (kL ns.length (zT ns) R d) _ (ns.length+2) (ns.length+2):=⟨XH,zo,λj h1 h2=>(EQ aa j).trans (HV.out j h1 zo)⟩;have aw:=(hrb.later ae).later ((XF).alloc (XH) (xi #[xa (some ⟨wR.heap.size,0,none⟩) (ns.length+2) (ns.length+2)] 87));have aL:=fy ar;clear HV hrb ar
  go_wp2_with (at_builtin;go_must (refine Uz _ rfl _ _ 296 rfl w.heap.size 87 j0 (xa none 0 0) 1 24 underlying296 ji bM bN bO rfl zd _ k (us.map λu=>xa (some ⟨u,0,none⟩) (ns.length+2) (ns.length+2)) rfl ?c0 ⟨wr.heap.size,0,none⟩ 1 1 [xa (some ⟨wR.heap.size,0,none⟩) (ns.length+2) (ns.length+2)] rfl rfl ?c1 ?c2 zd ?c3 ?c4 ?c5 (wr.heap.size+1) ?c6 ?_))
  case c0=>have:=aw.own;rw[aL.out] at this;exact this
  case c2=>first|rfl|(intro u hu;simp at hu;subst hu;rfl)
  case c3=>unfold maxLen;omega
  case c4=>omega
  case c5=>omega
  intro g8 aO q8 ax ag _ _;have aJ:=aw.app wR.heap.size _ ⟨cur,(0,0),(XD an).trans aa⟩ (J.later (XD an)) (by rw[aL.out];exact ax) ag;clear ax ag;go_wp2
  go_roundw
  .exact⟨k+1,some ⟨g8,0,none⟩,aO,_,zo,rfl,by go_num,by rw[bd.out];exact aJ⟩
  simp[intOf];omega
 have bE:L.take k=L:=UF zo;rw[bE] at hrb ar;have U:=hrb.bel;have bb4:=aG.out wR U;have bf:=hrb.rows;have ak:=λi t=>aM.out wR i t U
 have bh:=fy ak;have hkL:k=L.length:=zo;clear ak aM aG aE hrb;have HR:Hid (∀t:Int,NE (iq ns.length (zT ns) L) t=NE (iq ns.length (zT ns) L) t):=fy (λ_=>rfl);go_wp2
 go_loopw [9] (λx wq=>∃i:Nat,i<=T.length/\x=xd xh i/\wR=wq/\Hid (T.all (λt=>NE (iq ns.length (zT ns) L) t 1)=(T.drop i).all (λt=>NE (iq ns.length (zT ns) L) t 1))) (λx _=>T.length-(intOf x).toNat)
 .exact zm56
 obtain⟨i,hi,rfl,bG,HX⟩:=hrel;subst bG;rcases zc i T.length with⟨hil,aA⟩|⟨hil,aA⟩
 .obtain⟨t,l,aC⟩:=SP hil;have aB:T[i]?=some t:=by
   have:=List.getElem?_drop (xs:=T) (i:=i) (j:=0);rw[aC] at this;simpa using this.symm
  obtain⟨g4,bA,hc4⟩:=bh.out i t aB;subst bA;obtain⟨h0,h1⟩:=bj.out t (UA aB);obtain⟨m,rfl⟩:=Int.eq_ofNat_of_zero_le h0;obtain⟨bo',bc',bt,aj⟩:=bf;have aY:m<(iq ns.length (zT ns) L).length:=by rw[lL];omega
  obtain⟨bg,ua,um,uc,bu,hcm,J⟩:=aj m _ (Uq aY);cases bt;subst bu;have ad:=J.at_ 1 zo zo;have hul:1<um:=by have:=J.len;omega
  have hul':(1:Int)<(um:Int):=zo;have aK:=fy (vh (Uq aY));have ay:=fy aC;have hmk:(m:Int)<(L.length:Int):=h1;clear aj J aB aC h0 HR;generalize (iq ns.length (zT ns) L)[m]=fm at *;cases hb:fm 1 with
  |false=>
   rw[hb] at ad;have HF:Hid ((T.all λt=>NE (iq ns.length (zT ns) L) t 1)=false):=by show _=_;rw[HX.out,ay.out,Wd,aK.out,hb];rfl
   clear HX hb;go_wp2;go_ret;exact⟨by rw[HF.out];rfl,U⟩
  |true=>
   rw[hb] at ad;have HF:Hid ((T.all λt=>NE (iq ns.length (zT ns) L) t 1)=(T.drop (i+1)).all λt=>NE (iq ns.length (zT ns) L) t 1):=by
    show _=_;rw[HX.out,lG ay.out,ay.out,Wd,aK.out,hb];rfl
   clear HX hb;go_wp2
   go_roundw
   .exact⟨i+1,zo,by go_num,trivial,HF⟩
   simp[intOf];omega
 go_wp2;go_ret;refine⟨?_,U⟩;rw[HX.out,UX zo];rfl
def C9{x:Ub}:(kC x 0 al<0)=(iB al x=false):=by
 rcases r9 x 0 al with⟨h,j,t,_,_,h3⟩|⟨h,h2⟩
 .rw[h,h3];simp
 rw[h,h2];simp
def sd(al:TY)(tr:TZ):TW:=tr.map λx=>xd xh (kC x 0 al)
def Gv(al:TY)(tr:TZ)(x:Ub):sd al (tr++[x])=sd al tr++[xd xh (kC x 0 al)]:=by simp[sd]
def Li{base:Nat}{c:Nat}(h:w.ownsRow base 3 1 (xa o tr.length c) tr.length (sd al tr)):TA w o (tr.map λx=>kC x 0 al):=by
 intro j x I;have hj:j<tr.length:=by
  rcases UU j tr.length with h|h
  .exact h
  rw[VA (by simpa using h)] at I;cases I
 obtain⟨g,J,U,h3⟩:=gT h hj;refine⟨g,J,U,h3.trans ?_⟩;rw[sd,UG];rw[UG] at I;cases ht:tr[j]? with
 |none=>rw[ht] at I;cases I
 |some y=>rw[ht] at I;cases I;rfl
def FJ(B:Nat){T:T8}(hl:ns.length=n)(U:S0 w nb B L T)(hT:TA w tt ns)(hg:RY L)(ht:∀t∈T,0<=t/\t<(L.length:Int))(hn:n<=10000000000000)(J:L.length<=10000)(I:T.length<=10000):
  Calls prog 141 #[xk (TT nb),xa tt n tc] w λe w'=>e=xm (xn (T.all λt=>NE (iq n (zT ns) L) t 1))/\XL w w':=by
 subst hl;exact Hu w B L T U hT hg ht hn J I
def BN(s:Ub)(w:Uc)(hT:So w tt tr)(hn:tr.length<=10000000000000):
  Calls prog 95 #[xj s,xa tt tr.length tc] w λe w'=>e=xm (.tuple #[xn (jQ s tr).1,xd xh (jQ s tr).2])/\XL w w':=by
 obtain⟨j0,ji,bd,bf,bg⟩:=Uk Gf;go_in
 go_wp2_with (go_at_call 137;refine(wV s _).mono ?_)
 rintro e w1 ⟨U,hm⟩;have HH:Hid (jQ s tr=match iz s with
  |.error x=>(false,x.2)
  |.ok (al,rs)=>if tr.all (λx=>iB al x)=true then (rs.all (λr=>jA tr.length (n9 tr) (gO r) 1),0) else (false,3)):=rfl
 cases hr:iz s with
 |error x=>
  rw[hr] at hm;have aE:=my hr;have HX:Hid (jQ s tr=(false,x.2)):=by show _=_;rw[HH.out,hr]
  obtain⟨xp,xe⟩:=x;replace aE:xe≠0:=aE;have hxi:(xe:Int)≠0:=zo;subst hm;clear HH hr;go_wp2_with fail;refine py (v:=.tuple #[xn false,xd xh xe]) (by simp[results,results95,go_sem]) rfl ?_;rw[HX.out];exact⟨rfl,U.alloc U.size _⟩
 |ok m=>
  obtain⟨al,rs⟩:=m;rw[hr] at hm;obtain⟨o1,n1,k1,o2,n2,k2,rfl,au,aA⟩:=hm;have HX:Hid (jQ s tr=if tr.all (λx=>iB al x)=true then (rs.all (λr=>jA tr.length (n9 tr) (gO r) 1),0) else (false,3)):=by show _=_;rw[HH.out,hr]
  have hg:=lK hr;have av:=hg.alen;have aY:=hg.rlen;have aj:=ir w1 (xi #[xa o1 n1 k1,xa o2 n2 k2] 228);have hmb:(w1.alloc (xi #[xa o1 n1 k1,xa o2 n2 k2] 228)).heap[w1.heap.size]?=some (xi #[xa o1 n1 k1,xa o2 n2 k2] 228 (0,0)):=gi _ _;have HA:=(KT.below aj).acts au;have HR:=aA.later aj;have HB:=U.alloc U.size (xi #[xa o1 n1 k1,xa o2 n2 k2] 228);clear au aA hr HH U aj;go_wp2_with fail;generalize w1.alloc (xi #[xa o1 n1 k1,xa o2 n2 k2] 228)=W at *;have bc:w1.heap.size<W.heap.size:=dK hmb
  go_loopw [9,10] (λlv x wr=>∃(k:Nat)(lo:TX)(lc:Nat),k<=tr.length/\lv=xa lo k lc/\x=xd xh k/\Hid (wr.ownsRow W.heap.size 3 1 (xa lo k lc) k (sd al (tr.take k)))/\Hid (XL W wr)/\Hid (∀x∈tr.take k,iB al x=true)) (λ_ x _=>tr.length-(intOf x).toNat)
  .exact⟨0,none,0,Ux,rfl,rfl,XG,XF,fy (λx hx=>by simp at hx)⟩
  obtain⟨k,lo,lc,hk,rfl,rfl,HO,I,HK⟩:=hrel;have hmc:=λo=>EQ ((I.out.block _ bc).trans hmb) o
  have a7:=I.out.size;rcases zc k tr.length with⟨hlt,hkn⟩|⟨hlt,hkn⟩
  .obtain⟨b,off,ba,ax,ay⟩:=hT k tr[k] (Uq hlt);subst ba;have hcx':wr.cell? (TU b (off+k))=some (xj tr[k]):=(Fd (HB.trans (I.out.mono HB.size)) _ _ ax).trans ay;have aB:tr.take (k+1)=tr.take k++[tr[k]]:=by rw[U5,Uq hlt];rfl
   have ar:=fy aB;have ag:tr[k]∈tr:=UY hlt;have aK:=(KT.below I.out).acts HA;have aP:=fy ag;clear ay aB ag;generalize tr[k]=x at *;go_wp2;go_quiet (first|(go_at_call 139;refine WS (Ef x ((KT.below (iK _ _)).acts aK) av)));cases hN:iB al x with
   |false=>
    have az:kC x 0 al<0:=by rw[C9];exact hN
    have HF:Hid (jQ s tr=(false,3)):=by
     show _=_;rw[HX.out,T'];intro e;rw[RC] at e;have:=e x aP.out;rw[hN] at this;cases this
    clear hN HX;generalize kC x 0 al=y at *;go_wp2_with fail;refine py (v:=.tuple #[xn false,xd xh 3]) (by simp[results,results95,go_sem]) rfl ?_;rw[HF.out];exact⟨rfl,(HB.trans (I.out.mono HB.size)).trans ((iK _ _).mono (by have:=HB.size;omega))⟩
   |true=>
    have az:¬ kC x 0 al<0:=by rw[C9,hN];decide
    have aR:=fy hN;have aq:=gq HO.out (iK wr nq);have ad:=I.out.trans ((iK wr nq).mono a7);clear hN HO;generalize hwq:wr.drewN nq=wq at *;have a6:W.heap.size<=wq.heap.size:=ad.size;clear hwq;generalize hy:kC x 0 al=y at *;have HY:=fy hy;clear hy
    go_wp2_with (at_builtin;go_must (refine Uz _ rfl _ _ 33 rfl W.heap.size 3 j0 (xd xh 0) 1 8 underlying33 ji bd bf bg rfl zd _ k (sd al (tr.take k)) rfl ?c0 (TU wq.heap.size 0) 1 1 [xd xh y] rfl rfl ?c1 ?c2 zd ?c3 ?c4 ?c5 (wq.heap.size+1) ?c6 ?_))
    case c0=>exact gq aq gC
    case c2=>rfl
    case c3=>unfold maxLen;omega
    case c4=>omega
    case c5=>omega
    intro g8 ae q8 ai J _ _;have aQ:Hid (q8.ownsRow W.heap.size 3 1 (xa (TT g8) (k+1) ae) (k+1) (sd al (tr.take (k+1)))):=by
     show World.ownsRow _ _ _ _ _ _ _;rw[ar.out,Gv,HY.out];exact ai
    have aM:=(ad.alloc a6 _).grown J (by have:=J.size;simp;omega) (λb hb=>(gJ aq b hb).1);have aO:Hid (∀x∈tr.take (k+1),iB al x=true):=by
     show ∀_,_;rw[ar.out];intro z hz;rcases List.mem_append.1 hz with hz|hz
     .exact HK.out z hz
     rcases List.mem_singleton.1 hz with rfl
     exact aR.out
    clear ai J;go_wp2
    go_roundw
    .exact⟨k+1,TT g8,ae,zo,rfl,by go_num,aQ,aM,aO⟩
    simp[intOf];omega
  have aV:tr.take k=tr:=UF zo;rw[aV] at HO HK;have aW:k=tr.length:=zo;subst aW;have HF:Hid (jQ s tr=(rs.all (λr=>jA tr.length (n9 tr) (gO r) 1),0)):=by
   show _=_;rw[HX.out,Uh];rw[RC];exact HK.out
  clear HX
  go_wp2_with (go_at_call 140;refine(vZ tS ((KT.below I.out).acts HA) (HR.later I.out) av aY hg.call hg.fg (by have:=hg.nodes;omega)).mono ?_)
  rintro e w5 ⟨nb,B,rfl,h1,h2,h3,h4⟩;have ak:=rC al rs ([],[]);have aS:=gq HO.out h4;have HS:=fy (yB hg HK.out);have aU:=uQ tS al rs ([],[]) hg.fg (λk d h=>by simp at h);have aD:=uR al rs ([],[]) (λt h=>by simp at h);have aC:=sw tS al rs ([],[]) hg.fg (λt h=>by simp at h);have aX:(iH al rs ([],[])).1.length<=10000:=by rw[ak.1];have:=hg.nodes;simp;omega
  have a8:(iH al rs ([],[])).2.length<=10000:=by rw[ak.2];simp;omega
  have aT:Hid (∀t∈(iH al rs ([],[])).2,0<=t/\t<((iH al rs ([],[])).1.length:Int)):=fy (λt h=>⟨aC t h,aD t h⟩);have ao:=(HB.trans (I.out.mono HB.size)).trans (h4.mono (by have:=HB.size;omega));clear ak aD aC h1 h2
  go_wp2_with (go_at_call 141;refine(FJ B zp h3 (Li aS) aU aT.out hn aX a8).mono ?_)
  rintro e w6 ⟨rfl,aw⟩;rw[HS.out];have aL:=ao.trans (aw.mono ao.size);clear aw;go_wp2_with fail;refine py (v:=.tuple #[xn (rs.all λr=>jA tr.length (n9 tr) (gO r) 1),xd xh 0]) (by simp[results,results95,go_sem]) rfl ?_;rw[HF.out];exact⟨rfl,aL⟩
end Go.Proofs.YtidakhhekofkoaaGreatDoor
