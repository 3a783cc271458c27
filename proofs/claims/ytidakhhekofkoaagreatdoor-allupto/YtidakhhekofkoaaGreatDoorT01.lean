import Derived.Test.YtidakhhekofkoaaGreatDoorT0b
import Derived.Shelf.Strings.Search3
import Derived.Test.YtidakhhekofkoaaGreatDoorProg
import Derived.Shelf.Strconv.Itoa3
import Derived.Shelf.Strconv.Clone
import Derived.Shelf.Sort.Plain
import Derived.Shelf.Slices.In.SortNone
import Derived.WalkSpells
import Derived.WalkLawsBesides
import Derived.Deep.Trees
import Derived.Shelf.Slices.Turned
import Derived.Shelf.Slices.Clone
import Derived.Shelf.Strings.OnBuilder
set_option linter.all false
set_option maxHeartbeats 2000000
set_option maxRecDepth 100000
namespace Go.Proofs
def py:=@Go.bodyPost_ret
def Uf:=@Go.RowKit.Below.heap_alloc
def XD:=λ{a b c}=>@Go.RowKit.Below.heap_alloc a b c
def Ug:=@Go.RowKit.Below.heap_setCell
def XE:=λ{a b c d}=>@Go.RowKit.Below.heap_setCell a b c d
def Ui:=@Go.ByteArray.toList_eq
def Uk:=@Go.info_parts
def Uo:=@Go.RowKit.Below.refl
def XF:=λ{a b}=>@Go.RowKit.Below.refl a b
def UO:=@Go.World.ownsRow_nil
def XG:=λ{a b c d}=>@Go.World.ownsRow_nil a b c d
def U0:=@Go.wpList_append_own
def Vq:=@Go.Proofs.Tryz.underlying9
def Vw:=@Go.Proofs.Tryz.zeroValue9
def VC:=@Go.Proofs.Tryz.underlying4
def VD:=@Go.Proofs.Tryz.underlying3
def VH:=@Go.Proofs.Tryz.zeroValue4
def VI:=@Go.Proofs.Tryz.zeroValue3
def VJ:=@Go.Proofs.Tryz.results244
def VP:=@Go.Proofs.Tryz.underlying5
def VQ:=@Go.Proofs.Tryz.underlying0
def VR:=@Go.Proofs.Tryz.sizeOf9
def VT:=@Go.Proofs.Tryz.zeroValue5
def VU:=@Go.Proofs.Tryz.zeroValue0
def VZ:=@Go.Proofs.Tryz.isAgg9
def V1:=@Go.Lib.extract_data
def V5:=@Go.World.cell?_of_block
def V6:=@Go.Proofs.Tryz.sizeOf4
def V7:=@Go.Proofs.Tryz.sizeOf3
def V9:=@Go.World.grownBy_alloc
def We:=@Go.Proofs.Tryz.isAgg4
def Wf:=@Go.Proofs.Tryz.isAgg3
def Wr:=@Go.Proofs.Tryz.sizeOf5
def Ws:=@Go.Proofs.Tryz.sizeOf0
def WD:=@Go.Proofs.Tryz.underlying51
def WE:=@Go.Proofs.Tryz.underlying25
def WG:=@Go.Proofs.Tryz.isAgg5
def WH:=@Go.Proofs.Tryz.isAgg0
def WK:=@Go.Proofs.Tryz.zeroValue51
def WL:=@Go.Proofs.Tryz.zeroValue25
def Xs:=@Go.Proofs.Tryz.sizeOf51
def Xt:=@Go.Proofs.Tryz.sizeOf25
def Xw:=@Go.Proofs.Tryz.underlying210
def Xx:=@Go.Proofs.Tryz.underlying163
def Xy:=@Go.Proofs.Tryz.underlying146
attribute [local go_sem] TT TU TV XL
attribute [local simp] TT TU TV XL
open Go.Shelf
open Value renaming slice->xa,int->xd,string->xj,pointer->xk,bool->xn
open IntKind renaming i64->xh
open Obj renaming cells->xi
open Ending renaming returned->xm
variable{zq:Prop}
def zm23(h:zq:=by
 clear he
 go_wp2_with (refine(re (HPS1.alloc _)).mono ?_)
 rintro e w2 ⟨rfl,hp2,hg2⟩;have hrb2:=
  (hg2.block _ (by simp;omega) (by simp;omega)).trans ((XD hz).trans hrb)
 have hbx2:=
  (hg2.block _ (by simp) (by simp;omega)).trans (gi _ _)
 have r0:=EQ hrb2 0;have r1:=EQ hrb2 1;have r2:=EQ hrb2 2;have f0:=gh hrb2 0;have f1:=gh hrb2 1;have f2:=gh hrb2 2;have b0:=EQ hbx2 0;have b1:=EQ hbx2 1;have b2:=EQ hbx2 2;have HG2:=(gL HG).trans hg2;simp at r0 r1 r2 b0 b1 b2;clear hg2 hrb2 hbx2 c0 c1 c2;go_wp2;have hgl:=h.gLt;refine py (v:=ki t) ?_ rfl ⟨rfl,?_,?_⟩
 .simp[results,Tryz.results246,go_sem,ki,r0,r1,r2]
 .exact((hp2.setOther _ _ _ (by omega) (by omega)).setOther _ _ _ (by omega) (by omega)).setOther _ _ _ (by omega) (by omega)
 exact gD (gD (gD HG2 (XH) _ _) (XH) _ _) (XH) _ _
 ):zq:=h
def zm48(h:zq:=by
 simp only[iy,Bool.or_eq_false_iff,V3] at hb'|-;omega
 ):zq:=h
def zm65(h:zq:=by
 exact⟨0,Ux,rfl,rfl⟩
 ):zq:=h
def zm70(h:zq:=by
 rw[ByteArray.size_extract];omega
 ):zq:=h
def zm75(h:zq:=by
 go_wp2;go_ret;exact⟨oH (by rw[HE.out]),rfl⟩
 ):zq:=h
def zm132(h:zq:=by
 go_wp2;go_ret;exact⟨_,rfl,by rw[HR.out];exact HO2.out,HB2⟩
 ):zq:=h
def zm147(h:zq:=by
 exact⟨0,s.size+1,[],Ux,by omega,XH,rfl,rfl,XG,XF⟩
 ):zq:=h
def zm150(h:zq:=by
 have h0:=pR iy s i;have h1:=nU iy s i h;have h2:=sL h1;have h3:=zG h1
 grind[uJ]
 ):zq:=h
def Tryz.lays144_ren:Go.Shelf.Ren:=⟨λ|144=>169|143=>198|219=>243|217=>275|225=>276|224=>277|267=>278|266=>287|314=>288|n=>n,λ|9=>9|4=>4|3=>3|5=>5|46=>163|146=>381|51=>146|n=>n,λ|1=>3|n=>n⟩
def Tryz.lays144:Go.Proofs.Lays.n144 Tryz.prog Tryz.lays144_ren:={
 mixed:=by kernel_rfl
 f143:=Tryz.func198.trans (congrArg some (by kernel_rfl))
 f144:=Tryz.func169.trans (congrArg some (by kernel_rfl))
 f217:=Tryz.func275.trans (congrArg some (by kernel_rfl))
 f219:=Tryz.func243.trans (congrArg some (by kernel_rfl))
 f224:=Tryz.func277.trans (congrArg some (by kernel_rfl))
 f225:=Tryz.func276.trans (congrArg some (by kernel_rfl))
 f266:=Tryz.func287.trans (congrArg some (by kernel_rfl))
 f267:=Tryz.func278.trans (congrArg some (by kernel_rfl))
 f314:=Tryz.func288.trans (congrArg some (by kernel_rfl))
 t3:=VD
 a3:=Wf
 z3:=V7
 v3:=VI
 t4:=VC
 a4:=We
 z4:=V6
 v4:=VH
 t5:=VP
 a5:=WG
 z5:=Wr
 v5:=VT
 t9:=Vq
 a9:=VZ
 z9:=VR
 v9:=Vw
 t46:=Xx
 a46:=Tryz.isAgg163
 z46:=Tryz.sizeOf163
 v46:=Tryz.zeroValue163
 t51:=Xy
 a51:=Tryz.isAgg146
 z51:=Tryz.sizeOf146
 v51:=Tryz.zeroValue146
 t146:=Tryz.underlying381
 a146:=Tryz.isAgg381
 z146:=Tryz.sizeOf381
 v146:=Tryz.zeroValue381
 g1:=by kernel_rfl}
open Go.RowKit Go.Lib in
def Tryz.strings_Contains_one(s:Ub)(c:UInt8)(w:Uc):
  Calls Tryz.prog 169 #[xj s,xj ⟨#[c]⟩] w λe w'=>e=xm (xn (decide (0<=Lib.indexByte s.data.toList c)))/\w'=w:=Any.strings_Contains_one Tryz.lays144 s c w
end Go.Proofs
namespace Go.Proofs.YtidakhhekofkoaaGreatDoor
attribute [local go_sem] TT TU TV XL
attribute [local simp] TT TU TV XL
open Value renaming slice->xa,int->xd,string->xj,pointer->xk,bool->xn
open IntKind renaming i64->xh
open Obj renaming cells->xi
open Ending renaming returned->xm
variable{i j n a f mx:Nat}{x y:T9}{r w:T5}{b:T7}{A:Nat->Prop}{α:Type}{to to':T0}{m:List (T7)}
def GE(c:UInt8):Bool:=decide (97<=c.toNat)&&decide (c.toNat<=122)
def iy(c:UInt8):Bool:=c.toNat==32||(c.toNat==9||c.toNat==10)
def Su(p:UInt8->Bool):T9->Nat
 |[]=>0
 |c::r=>if p c then Su p r+1 else 0
def gV(p:UInt8->Bool)(s:Ub)(i:Nat):Nat:=i+Su p (s.data.toList.drop i)
theorem LT(s:Ub):s.data.toList.length=s.size:=rfl
theorem Q4(s:Ub)(i:Nat)(h:i<s.size):s.data.toList.drop i=s[i]::s.data.toList.drop (i+1):=by
 have I:i<s.data.toList.length:=zv;rw[UK I];rfl
theorem Of(p:UInt8->Bool)(l:T9):Su p l<=l.length:=by
 induction l with
 |nil=>exact XH
 |cons c r ih=>grind[Su]
theorem oy(p:UInt8->Bool)(s:Ub)(i:Nat)(h:i<s.size)(hp:p s[i]=true):gV p s i=gV p s (i+1):=by
 grind[Q4,gV,Su]
theorem qP(p:UInt8->Bool)(s:Ub)(i:Nat)(h:i<s.size)(hp:p s[i]=false):gV p s i=i:=by
 grind[Q4,gV,Su]
def tQ(p:UInt8->Bool){s:Ub}(h:s.size<=i):gV p s i=i:=by
 unfold gV;rw[UX zv];rfl
theorem pR(p:UInt8->Bool)(s:Ub)(i:Nat):i<=gV p s i:=by unfold gV;omega
theorem nU(p:UInt8->Bool)(s:Ub)(i:Nat)(h:i<=s.size):gV p s i<=s.size:=by
 grind[Of,LT,gV]
def lX(l:T9)(c:UInt8):Bool:=
 match l with
 |[]=>false
 |d::r=>if d.toNat=c.toNat then true else lX r c
def KS(s:Ub)(c:UInt8)(k:Nat)(h:k<s.size)(e:s[k].toNat=c.toNat):lX (s.data.toList.drop k) c=true:=by
 grind[Q4,lX]
def Nt(s:Ub)(c:UInt8)(k:Nat)(h:k<s.size)(e:¬ s[k].toNat=c.toNat):lX (s.data.toList.drop k) c=lX (s.data.toList.drop (k+1)) c:=by
 grind[Q4,lX]
def KR(s:Ub)(c:UInt8)(k:Nat)(h:s.size<=k):lX (s.data.toList.drop k) c=false:=by
 rw[UX zv];rfl
structure Tk where
 k:Nat
 s:Ub
 p:Nat
abbrev TY:=List Tk
def Q7(l:T9):Bool:=l==[97,99,116,115]||(l==[114,117,108,101]||(l==[116,114,117,101]||(l==[102,97,108,115,101]||l==[101,110,100])))
def jC(l:T9):Nat:=
 if l=[97,99,116,115] then 4 else if l=[114,117,108,101] then 5 else if l=[116,114,117,101] then 6 else if l=[102,97,108,115,101] then 7 else if l=[101,110,100] then 8 else 2
def ju(c:Nat):Nat:=
 if c=88 then 9 else if c=78 then 10 else if c=70 then 11 else if c=71 then 12 else if c=85 then 13 else
 if c=124 then 15 else if c=38 then 16 else if c=33 then 17 else if c=40 then 18 else if c=41 then 19 else if c=44 then 20 else if c=59 then 21 else 1
def gY(s:Ub)(j:Nat):Tk:=
 if h:j<s.size then
  if GE s[j] then ⟨jC (s.extract j (gV GE s j)).data.toList,s.extract j (gV GE s j),j⟩
  else if 48<=s[j].toNat/\s[j].toNat<=57 then ⟨3,s.extract j (j+1),j⟩
  else if h2:j+1<s.size then
   if s[j].toNat=45/\s[j+1].toNat=62 then ⟨14,⟨#[45,62]⟩,j⟩
   else ⟨ju s[j].toNat,s.extract j (j+1),j⟩
  else ⟨ju s[j].toNat,s.extract j (j+1),j⟩
 else ⟨0,ByteArray.empty,s.size⟩
def E8(s:Ub)(k:Nat)(h:s.size<=k):gY s k=⟨0,ByteArray.empty,s.size⟩:=by
 grind[gY]
def CV{s:Ub}{k:Nat}(h:k<s.size)(hl:GE s[k]=true):gY s k=⟨jC (s.extract k (gV GE s k)).data.toList,s.extract k (gV GE s k),k⟩:=by
 unfold gY;simp_all
def AD{s:Ub}{k:Nat}(h:k<s.size)(h1:48<=s[k].toNat)(h2:s[k].toNat<=57):gY s k=⟨3,s.extract k (k+1),k⟩:=by
 grind[gY,GE]
def AB{s:Ub}{k:Nat}(h:k<s.size)(h1:s[k].toNat=45)(h2:k+1<s.size)(h3:s[k+1].toNat=62):gY s k=⟨14,⟨#[45,62]⟩,k⟩:=by
 grind[gY,GE]
def xB{s:Ub}{k:Nat}(h:k<s.size)(hl:GE s[k]=false)(hd:¬ (48<=s[k].toNat/\s[k].toNat<=57))(ha:¬ (s[k].toNat=45/\∃h2:k+1<s.size,s[k+1].toNat=62)):
  gY s k=⟨ju s[k].toNat,s.extract k (k+1),k⟩:=by
 grind[gY]
def DJ{s:Ub}{k:Nat}(h:k<s.size)(e:k<gV GE s k):GE s[k]=true:=by
 grind[qP]
def J2(s:Ub)(k:Nat)(h:k<s.size)(e:gV GE s k=k):GE s[k]=false:=by
 grind[pR,oy]
def y8{l:T9}:Q7 l=true->4<=jC l/\jC l<=8:=by
 grind[jC,Q7]
def Hm{l:T9}:Q7 l=false->jC l=2:=by
 grind[jC,Q7]
def vS:T9:=[88,78,70,71,85,124,38,33,40,41,44,59]
def Jz{c:UInt8}:lX vS c=true->9<=ju c.toNat:=by
 intro h;have I:c.toNat=88\/c.toNat=78\/c.toNat=70\/c.toNat=71\/c.toNat=85\/c.toNat=124\/c.toNat=38\/c.toNat=33\/c.toNat=40\/c.toNat=41\/c.toNat=44\/c.toNat=59:=by
  simp[lX,vS] at h;omega
 clear h;generalize c.toNat=n at I;rcases I with h|h|h|h|h|h|h|h|h|h|h|h<;>subst h<;>decide
def Ep{c:UInt8}:lX vS c=false->ju c.toNat=1:=by
 intro h;have h':¬ (c.toNat=88\/c.toNat=78\/c.toNat=70\/c.toNat=71\/c.toNat=85\/c.toNat=124\/c.toNat=38\/c.toNat=33\/c.toNat=40\/c.toNat=41\/c.toNat=44\/c.toNat=59):=by
  simp[lX,vS] at h;omega
 grind[ju]
def sL{s:Ub}(h:j<=s.size):(gY s j).p=j:=by
 grind[gY]
def zG{s:Ub}(h:j<=s.size):j+(gY s j).s.size<=s.size:=by
 unfold gY
 split
 .rename_i hj
  split
  .have:=nU GE s j h;show j+(s.extract j (gV GE s j)).size<=_;exact zm70
  split
  .show j+(s.extract j (j+1)).size<=_;exact zm70
  split
  .split
   .trivial
   show j+(s.extract j (j+1)).size<=_;exact zm70
  show j+(s.extract j (j+1)).size<=_;exact zm70
 trivial
theorem uJ(s:Ub)(j:Nat)(h:j<=s.size)(U:(gY s j).k≠0):1<=(gY s j).s.size:=by
 revert U;unfold gY
 split
 .rename_i J
  intro _
  split
  .rename_i hl
   have h1:=nU GE s j h;have I:=pR GE s (j+1);rw[<-oy GE s j J hl] at I;show 1<=(s.extract j (gV GE s j)).size;exact zm70
  split
  .show 1<=(s.extract j (j+1)).size;exact zm70
  split
  .split
   .show 1<=2;omega
   show 1<=(s.extract j (j+1)).size;exact zm70
  show 1<=(s.extract j (j+1)).size;exact zm70
 simp
def jr(s:Ub):Nat->Nat->TY
 |0,_=>[]
 |n+1,i=>let t:=gY s (gV iy s i);if t.k<=1 then [t] else t::jr s n (t.p+t.s.size)
theorem mq(s:Ub)(n i:Nat)(h:(gY s (gV iy s i)).k<=1):jr s (n+1) i=[gY s (gV iy s i)]:=by
 rw[jr];simp_all
theorem oC(s:Ub)(n i:Nat)(h:¬ (gY s (gV iy s i)).k<=1):jr s (n+1) i=gY s (gV iy s i)::jr s n ((gY s (gV iy s i)).p+(gY s (gV iy s i)).s.size):=by
 rw[jr];exact T' h
def sN{s:Ub}(h:i<=s.size)(hk:¬ (gY s (gV iy s i)).k<=1):
  i+1<=(gY s (gV iy s i)).p+(gY s (gV iy s i)).s.size/\(gY s (gV iy s i)).p+(gY s (gV iy s i)).s.size<=s.size:=by
 exact zm150
def DD(n c:Nat):Nat:=(n*251+c+1)%65521
def lS(n:Nat)(l:T9):Nat:=l.foldl (λn c=>DD n c.toNat) n
def Oi{c:Nat}:DD n c<65521:=Nat.mod_lt _ zp
def vU(hn:n<65521):∀l:T9,lS n l<65521:=by
 intro l
 induction l generalizing n with
 |nil=>exact hn
 |cons c r ih=>exact ih (Oi)
def wO(n:Nat)(l r:T9):lS n (l++r)=lS (lS n l) r:=by unfold lS;simp
def u8(n:Nat):UInt8:=UInt8.ofNat n
def vC{b:Nat}(ha:a<256)(hb:b<256)(h:u8 a=u8 b):a=b:=by
 have:=congrArg UInt8.toNat h;unfold u8 at this;rw[UInt8.toNat_ofNat',UInt8.toNat_ofNat'] at this;omega
theorem kK(ha:a<256):(u8 a).toNat=a:=by
 unfold u8;simp_all
def nH(l:T9):T9:=[u8 (lS 3 l / 256),u8 (lS 3 l%256)]
structure Tb where
 acts:TZ
 fl:T5
 nx:T0
variable{t t' u:Tb}{o o':Option Tb}
def jB:TZ->T9
 |[]=>[]
 |a::r=>u8 a.size::(a.data.toList++jB r)
def iX:T5->T0->T9
 |f::fs,r::rs=>u8 f::(r.map u8++iX fs rs)
 |_,_=>[]
def iM(t:Tb):T9:=83::1::u8 t.acts.length::(jB t.acts++u8 t.nx.length::iX t.fl t.nx)
def iG(t:Tb):T9:=iM t++nH (iM t)
structure EJ(t:Tb):Prop where
 al:t.acts.length<256
 aZ:∀a∈t.acts,a.size<256
 nl:t.nx.length<256
 fl:t.fl.length=t.nx.length
 fs:∀f∈t.fl,f<256
 rs:∀r∈t.nx,r.length=t.acts.length/\∀x∈r,x<256
def C2:∀{r I:T5} {x y:T9},r.length=I.length->(∀a∈r,a<256)->(∀a∈I,a<256)->r.map u8++x=I.map u8++y->r=I/\x=y
 |[],[],_,_,_,_,_,h=>⟨rfl,h⟩
 |[],_::_,_,_,hl,_,_,_=>zv
 |_::_,[],_,_,hl,_,_,_=>zv
 |a::r,b::I,x,y,hl,h1,h2,h=>by
  rw[UZ,UZ,UE,UE] at h;obtain⟨U,e2⟩:=Vb h;have:=vC (h1 a (Um ..)) (h2 b (Um ..)) U;obtain⟨e3,e4⟩:=C2 za (λz J=>h1 z (Ul J)) (λz J=>h2 z (Ul J)) e2;simp_all
def Ah:∀{l I:TZ} {x y:T9},l.length=I.length->(∀a∈l,a.size<256)->(∀a∈I,a.size<256)->jB l++x=jB I++y->l=I/\x=y
 |[],[],_,_,_,_,_,h=>⟨rfl,h⟩
 |[],_::_,_,_,hl,_,_,_=>zv
 |_::_,[],_,_,hl,_,_,_=>zv
 |a::r,b::r',x,y,hl,h1,h2,h=>by
  rw[jB,jB,UE,UE,UI,UI] at h;obtain⟨e1,e2⟩:=Vb h;have hs:=vC (h1 a (Um ..)) (h2 b (Um ..)) e1;have J:a.data.toList.length=b.data.toList.length:=zv;obtain⟨e3,e4⟩:=List.append_inj e2 J;obtain⟨e5,e6⟩:=Ah za (λz U=>h1 z (Ul U)) (λz U=>h2 z (Ul U)) e4;have:=Xz (Wk.1 e3);simp_all
def A2:∀{f U:T5} {l J:T0} {x y:T9},f.length=l.length->U.length=J.length->l.length=J.length->(∀a∈f,a<256)->(∀a∈U,a<256)->(∀r∈l,r.length=n/\∀a∈r,a<256)->(∀r∈J,r.length=n/\∀a∈r,a<256)->iX f l++x=iX U J++y->f=U/\l=J/\x=y
 |[],[],[],[],_,_,_,_,_,_,_,_,_,h=>⟨rfl,rfl,h⟩
 |[],_,_::_,_,_,_,h1,_,_,_,_,_,_,_=>zv
 |_::_,_,[],_,_,_,h1,_,_,_,_,_,_,_=>zv
 |_,[],_,_::_,_,_,_,h2,_,_,_,_,_,_=>zv
 |_,_::_,_,[],_,_,_,h2,_,_,_,_,_,_=>zv
 |[],_::_,[],_::_,_,_,_,_,h3,_,_,_,_,_=>zv
 |_::_,[],_::_,[],_,_,_,_,h3,_,_,_,_,_=>zv
 |a::f,b::U,r::l,r'::J,x,y,h1,h2,h3,h4,h5,h6,h7,h=>by
  rw[iX,iX,UE,UE,UI,UI] at h;obtain⟨e1,e2⟩:=Vb h;have hs:=vC (h4 a (Um ..)) (h5 b (Um ..)) e1;have k6:=h6 r (Um ..);have k7:=h7 r' (Um ..);obtain⟨e3,e4⟩:=C2 (k6.1.trans k7.1.symm) k6.2 k7.2 e2;obtain⟨e5,e6,e7⟩:=A2 za za za (λz I=>h4 z (Ul I)) (λz I=>h5 z (Ul I)) (λz I=>h6 z (Ul I)) (λz I=>h7 z (Ul I)) e4;simp_all
def Kr(h:EJ t)(I:EJ t')(e:iM t++x=iM t'++y):t=t'/\x=y:=by
 unfold iM at e;simp only[UE,UI,List.cons.injEq,true_and] at e;obtain⟨U,e2⟩:=e;have J:=vC h.al I.al U;obtain⟨e3,e4⟩:=Ah J h.aZ I.aZ e2;obtain⟨e5,e6⟩:=Vb e4;have hn:=vC h.nl I.nl e5;obtain⟨e7,e8,e9⟩:=A2 h.fl I.fl hn h.fs I.fs (λr hr=>⟨(h.rs r hr).1.trans J,(h.rs r hr).2⟩) I.rs e6;cases t;simp_all
def Ng(h:EJ t)(I:EJ t')(e:iG t=iG t'):t=t':=(Kr h I e).1
def LE(t:Tb)(i:Nat):Prop:=∀P:Nat->Prop,(∀i f:Nat,t.fl[i]?=some f->f%2=1->P i)->(∀(i j:Nat)(r:T5),t.nx[i]?=some r->j∈r->P j->P i)->P i
def LE.acc(I:t.fl[i]?=some f)(J:f%2=1):LE t i:=λ_ a _=>a i f I J
def LE.step(I:t.nx[i]?=some r)(J:j∈r)(h:LE t j):LE t i:=λP a s=>s i j r I J (h P a s)
def LE.ind{motive:(i:Nat)->LE t i->Prop}(acc:∀{i f:Nat} (I:t.fl[i]?=some f) (J:f%2=1),motive i (.acc I J))
  (step:∀{i j:Nat} {r:T5} (I:t.nx[i]?=some r) (J:j∈r) (h:LE t j),motive j h->motive i (.step I J h))(h:LE t i):motive i h:=
 (h (λi=>∃h:LE t i,motive i h) (λ_ _ I J=>⟨.acc I J,acc I J⟩) (λ_ _ _ I J ⟨U,h4⟩=>⟨.step I J U,step I J U h4⟩)).elim λ_ k=>k
def lv(l:T7)(i:Nat):Bool:=l[i]?.getD false
def CW{l:T7}(I:∀i,lv l i=true->LE t i)(acc:∀i f,t.fl[i]?=some f->f%2=1->lv l i=true)
  (closed:∀i r j,t.nx[i]?=some r->j∈r->lv l j=true->lv l i=true):lv l i=true↔LE t i:=
 ⟨I i,λh=>by
  induction h using LE.ind with
  |acc h1 h2=>simp_all
  |step h1 h2 _ ih=>exact closed _ _ _ h1 h2 ih⟩
def ky(t:Tb)(l:T7)(i:Nat):T7:=l.set i (lv l i||((t.nx[i]?.getD []).any (lv l)))
def l6(t:Tb)(l:T7):T7:=(List.range l.length).foldl (ky t) l
def R3(l l':T7):Prop:=l.length=l'.length/\∀i,lv l i=true->lv l' i=true
theorem R3.refl(l:T7):R3 l l:=⟨rfl,λ_ h=>h⟩
def R3.trans{a c:T7}(h:R3 a b)(k:R3 b c):R3 a c:=by grind[R3]
theorem sP(l:T7)(i j:Nat)(b:Bool):lv (l.set i b) j=if i=j/\i<l.length then b else lv l j:=by
 grind[lv]
theorem CZ(t:Tb)(l:T7)(i:Nat):R3 l (ky t l i):=by
 grind[sP,ky,R3]
def xv(t:Tb):∀(is:T5)(l:T7),R3 l (is.foldl (ky t) l):=by intro I;induction I<;>grind[R3.refl,CZ,R3,ky]
def pd(t:Tb)(l:T7):R3 l (l6 t l):=xv t _ l
def R3.anti{a:T7}(h:R3 a b)(k:R3 b a):a=b:=by
 refine WX h.1 λi U h2=>?_
 have I:=h.2 i;have J:=k.2 i;unfold lv at I J;rw[Uq U,Uq h2] at I J;simp only[Wl] at I J;cases ha:a[i]<;>cases hb:b[i]<;>simp_all
def R3.count:∀{a b:T7},R3 a b->a.count true<=b.count true/\(a≠b->a.count true<b.count true)
 |[],[],_=>⟨XH,λh=>(h rfl).elim⟩
 |[],_::_,h=>by have:=h.1;trivial
 |_::_,[],h=>by have:=h.1;trivial
 |x::a,y::b,h=>by
  have I:R3 a b:=⟨by simpa using h.1,λi hi=>by have:=h.2 (i+1);grind[lv]⟩;have hh:x=true->y=true:=λhx=>by have:=h.2 0;grind[lv]
  obtain⟨k1,k2⟩:=R3.count I;rw[Xh,Xh];cases x<;>cases y
  .simp_all
  .grind
  .trivial
  simp_all
theorem zH{l:T7}(h:l6 t l=l)(hi:i<l.length)(hr:t.nx[i]?=some r)(hj:j∈r)(hl:lv l j=true):lv l i=true:=by
 have I:∀(is:T5),R3 (is.foldl (ky t) l) l->∀k∈is,ky t l k=l:=by
  intro is
  induction is with
  |nil=>simp
  |cons a is ih=>
   intro J k hk;have e:=((CZ t l a).anti ((xv t is (ky t l a)).trans J)).symm
   grind
 have e:=I (List.range l.length) (by grind[R3,l6]) i (List.mem_range.2 hi)
 grind[lv,ky]
theorem Ec{l:T7}(h:∀i,lv l i=true->LE t i)(k:Nat):∀i,lv (ky t l k) i=true->LE t i:=by
 intro i hi;unfold ky at hi;rw[sP] at hi
 split at hi
 .rename_i he
  obtain⟨rfl,_⟩:=he;rcases Bool.or_eq_true_iff.1 hi with hi|hi
  .exact h _ hi
  obtain⟨j,I,J⟩:=WQ.1 hi;cases hr:t.nx[k]? with
  |none=>grind
  |some r=>rw[hr] at I;exact .step hr I (h j J)
 exact h _ hi
def D0:∀(is:T5) {l:T7},(∀i,lv l i=true->LE t i)->∀i,lv (is.foldl (ky t) l) i=true->LE t i:=by intro I;induction I<;>grind[Ec]
def jL(t:Tb):Nat->T7->T7
 |0,l=>l
 |n+1,l=>jL t n (l6 t l)
def CY{l:T7}(h:l6 t l=l):∀n,jL t n l=l:=by intro I;induction I<;>grind[jL]
def pU(t:Tb):∀n (l:T7),R3 l (jL t n l)
 |0,l=>R3.refl l
 |n+1,l=>(pd t l).trans (pU t n _)
def sO:∀n {l:T7},(∀i,lv l i=true->LE t i)->∀i,lv (jL t n l) i=true->LE t i
 |0,_,h=>h
 |n+1,_,h=>sO n (D0 _ h)
def tY(t:Tb):∀n (l:T7),l.length<=l.count true+n->l6 t (jL t n l)=jL t n l
 |0,l,h=>by
  have hc:=(pd t l).count;rw[jL];apply Classical.byContradiction;intro I;have J:=hc.2 (λe=>I e.symm);have h2:=List.count_le_length (a:=true) (l:=l6 t l);have U:=(pd t l).1;omega
 |n+1,l,h=>by
  rw[jL];by_cases e:l6 t l=l
  .rw[e,CY e];omega
  have J:=(pd t l).count.2 (λx=>e x.symm);have U:=(pd t l).1;exact tY t n _ zo
def rq(t:Tb):T7:=t.fl.map λf=>f%2==1
def Gm(hf:t.fl.length=t.nx.length)(i:Nat):lv (jL t t.fl.length (rq t)) i=true↔LE t i:=by
 have hlen:(jL t t.fl.length (rq t)).length=t.fl.length:=(pU t _ _).1.symm.trans (by unfold rq;simp);have hfix:=tY t t.fl.length (rq t) (by unfold rq;simp);have I:∀i f,t.fl[i]?=some f->(lv (rq t) i=true↔f%2=1):=λi f h=>by
  unfold lv rq;simp_all
 refine CW (sO _ λi hi=>?_) (λi f J U=>(pU t _ _).2 i ((I i f J).2 U)) (λi r j hr hj hl=>?_)
 .grind[lv,rq,LE]
 grind[zH]
section
variable{σ τ : Type}[DecidableEq σ][DecidableEq τ]
def iV(s:σ):List σ->Nat->Ua
 |[],_=>none
 |x::r,i=>if x=s then some i else iV s r (i+1)
def jx(l:List σ)(s:σ):List σ × Nat:=
 match iV s l 0 with
 |some i=>(l,i)
 |none=>(l++[s],l.length)
def jv(st:σ->Nat->σ)(s:σ):T5->List σ->List σ × T5
 |[],l=>(l,[])
 |a::aZ,l=>((jv st s aZ (jx l (st s a)).1).1,(jx l (st s a)).2::(jv st s aZ (jx l (st s a)).1).2)
def kE(st:σ->Nat->σ)(acts:T5)(mx:Nat):Nat->Nat->List σ->T0->Option (List σ × T0)
 |0,_,_,_=>none
 |n+1,k,l,rows=>
  match l[k]? with
  |none=>some (l,rows)
  |some s=>if mx<(jv st s acts l).1.length then none else kE st acts mx n (k+1) (jv st s acts l).1 (rows++[(jv st s acts l).2])
def RL(R:σ->τ->Prop):List σ->List τ->Prop
 |[],[]=>True
 |s::l,s'::l'=>R s s'/\RL R l l'
 |_,_=>False
def RL.nil{R:σ->τ->Prop}:RL R [] []:=trivial
def RL.cons{R:σ->τ->Prop}{s:σ}{s':τ}{l:List σ}{I:List τ}(h:R s s')(k:RL R l I):RL R (s::l) (s'::I):=⟨h,k⟩
def RL.ind{R:σ->τ->Prop}{motive:(l:List σ)->(I:List τ)->RL R l I->Prop}(nil:motive [] [] .nil)
  (cons:∀{s:σ} {s':τ} {l:List σ} {I:List τ} (h:R s s') (k:RL R l I),motive l I k->motive (s::l) (s'::I) (.cons h k)):∀{l:List σ} {I:List τ} (h:RL R l I),motive l I h
 |[],[],_=>nil
 |[],_::_,h=>False.elim h
 |_::_,[],h=>False.elim h
 |_::_,_::_,h=>cons h.1 h.2 (RL.ind nil cons h.2)
def RL.length{R:σ->τ->Prop}{l:List σ}{I:List τ}(h:RL R l I):l.length=I.length:=by
 induction h using RL.ind with
 |nil=>rfl
 |cons _ _ ih=>simp[ih]
def RL.snoc{R:σ->τ->Prop}{l:List σ}{I:List τ}(h:RL R l I){s:σ}{s':τ}(hs:R s s'):RL R (l++[s]) (I++[s']):=by
 induction h using RL.ind with
 |nil=>exact .cons hs .nil
 |cons h1 _ ih=>exact .cons h1 ih
def RL.get{R:σ->τ->Prop}{l:List σ}{I:List τ}(h:RL R l I):∀k:Nat,(l[k]?=none/\I[k]?=none)\/∃s s',l[k]?=some s/\I[k]?=some s'/\R s s':=by
 induction h using RL.ind with
 |nil=>simp
 |cons h1 _ ih=>
  grind
def Nq{R:σ->τ->Prop}(hR:∀s s' r J,R s s'->R r J->(s=r↔s'=J)){l:List σ}{I:List τ}(h:RL R l I){s:σ}{s':τ}(hs:R s s'):∀i,iV s l i=iV s' I i:=by
 induction h using RL.ind with
 |nil=>intro i;rfl
 |@cons x x' _ _ h1 _ ih=>
  grind[iV]
theorem Lh{R:σ->τ->Prop}(U:∀s s' r J,R s s'->R r J->(s=r↔s'=J)){l:List σ}{I:List τ}(h:RL R l I){s:σ}{s':τ}(hs:R s s'):
  RL R (jx l s).1 (jx I s').1/\(jx l s).2=(jx I s').2:=by
 have e:=Nq U h hs 0;unfold jx;rw[<-e];cases iV s l 0 with
 |some i=>trivial
 |none=>exact⟨h.snoc hs,h.length⟩
def LD{R:σ->τ->Prop}(hR:∀s s' r U,R s s'->R r U->(s=r↔s'=U)){st:σ->Nat->σ}{I:τ->Nat->τ}{s:σ}{s':τ}:
  ∀(aZ:T5) {l:List σ} {J:List τ},(∀a∈aZ,R (st s a) (I s' a))->RL R l J->RL R (jv st s aZ l).1 (jv I s' aZ J).1/\(jv st s aZ l).2=(jv I s' aZ J).2:=by intro q0;induction q0<;>grind[Lh,jv]
def EM{R:σ->τ->Prop}(hR:∀s s' r r',R s s'->R r r'->(s=r↔s'=r')){st:σ->Nat->σ}{I:τ->Nat->τ}(acts:T5)(J:∀s s',R s s'->∀a∈acts,R (st s a) (I s' a))(mx:Nat):
  ∀(n k:Nat)(l:List σ)(U:List τ)(rows:T0),RL R l U->
   (kE st acts mx n k l rows=none/\kE I acts mx n k U rows=none)\/∃m m' r,kE st acts mx n k l rows=some (m,r)/\kE I acts mx n k U rows=some (m',r)/\RL R m m'
 |0,_,_,_,_,_=>Or.inl ⟨rfl,rfl⟩
 |n+1,k,l,U,rows,h=>by
  rw[kE,kE];rcases h.get k with⟨e1,e2⟩|⟨s,s',e1,e2,hs⟩
  .grind
  rw[e1,e2];have h2:=LD hR acts (J s s' hs) h;simp only;rw[<-h2.1.length];by_cases hm:mx<(jv st s acts l).1.length
  .simp_all
  rw[T' hm,T' hm,<-h2.2];exact EM hR acts J mx n (k+1) _ _ _ h2.1
end
def kY{π:Type}(p0:π)(ah:π->Nat->π):T5->π
 |[]=>p0
 |a::v=>ah (kY p0 ah v) a
def vT{π:Type}(ah:π->Nat->π)(S:π->Bool)(a:Nat):π->Bool:=λp=>S (ah p a)
def lh{π:Type}(ah:π->Nat->π):(π->Bool)->T5->(π->Bool)
 |S,[]=>S
 |S,a::u=>lh ah (vT ah S a) u
theorem nQ{π:Type}(p0:π)(ah:π->Nat->π):∀(u:T5)(S:π->Bool)(v:T5),lh ah S u (kY p0 ah v)=S (kY p0 ah (u++v))
 |[],_,_=>rfl
 |a::u,S,v=>by
  rw[lh,nQ p0 ah u (vT ah S a) v];rfl
def GZ{π ρ:Type}{p0:π}{ah:π->Nat->π}{keep:π->Bool}{U:ρ}{J:ρ->Nat->ρ}{I:ρ->Bool} 
  (same:∀v,(∀a∈v,A a)->keep (kY p0 ah v)=I (kY U J v)){u:T5}(hu:∀a∈u,A a)(hw:∀a∈w,A a):
  (∀v,(∀a∈v,A a)->lh ah keep u (kY p0 ah v)=lh ah keep w (kY p0 ah v))↔(∀v,(∀a∈v,A a)->lh J I u (kY U J v)=lh J I w (kY U J v)):=by
 grind[nQ]
section
variable{σ : Type}[DecidableEq σ]
def mE{s:σ}:∀{l:List σ} {i j:Nat},iV s l i=some j->i<=j/\l[j-i]?=some s
 |[],_,_,h=>by cases h
 |x::r,i,j,h=>by
  rw[iV] at h;by_cases e:x=s
  .simp_all
  rw[T' e] at h;have ⟨h1,h2⟩:=mE h
  grind
theorem Cx{s:σ}:∀{l:List σ} {i:Nat},iV s l i=none->s∉l:=by intro I;induction I<;>grind[iV]
def Ja(l:List σ)(s:σ):(∃x,(jx l s).1=l++x/\∀y∈x,y=s)/\(jx l s).1[(jx l s).2]?=some s/\(l.Nodup->(jx l s).1.Nodup):=by
 unfold jx;cases h:iV s l 0 with
 |some i=>exact⟨⟨[],zp,λy I=>(US I).elim⟩,by simpa using (mE h).2,id⟩
 |none=>
  grind[Cx]
def uF{l x:List α}{k:Nat}{a:α}(h:l[k]?=some a):(l++x)[k]?=some a:=by
 grind
def oI(st:σ->Nat->σ)(s:σ):∀(aZ:T5)(l:List σ),(∃x,(jv st s aZ l).1=l++x/\∀y∈x,∃a∈aZ,y=st s a)/\(jv st s aZ l).2.length=aZ.length/\
  (∀(k a:Nat),aZ[k]?=some a->∃j,(jv st s aZ l).2[k]?=some j/\(jv st s aZ l).1[j]?=some (st s a))/\(l.Nodup->(jv st s aZ l).1.Nodup)
 |[],l=>⟨⟨[],by simp[jv],λy I=>(US I).elim⟩,rfl,λk a h=>zv,id⟩
 |a::aZ,l=>by
  obtain⟨⟨x,hx,hxs⟩,h2,h3⟩:=Ja l (st s a);obtain⟨⟨y,I,hys⟩,k2,k3,k4⟩:=oI st s aZ (jx l (st s a)).1;rw[jv]
  grind
structure R7(st:σ->Nat->σ)(acts:T5)(s0:σ)(k:Nat)(l:List σ)(rows:T0):Prop where
 first:l[0]?=some s0
 nodup:l.Nodup
 le:k<=l.length
 len:rows.length=k
 row:∀(i:Nat)(s:σ),i<k->l[i]?=some s->∃r,rows[i]?=some r/\r.length=acts.length/\∀(j a:Nat),acts[j]?=some a->∃m,r[j]?=some m/\l[m]?=some (st s a)
 met:∀(j:Nat)(s:σ),l[j+1]?=some s->∃(i:Nat)(s':σ),i<=j/\i<k/\l[i]?=some s'/\∃a∈acts,s=st s' a
def R7.start(st:σ->Nat->σ)(acts:T5)(s0:σ):R7 st acts s0 0 [s0] []:=
 ⟨rfl,zp,Ux,rfl,λi s h=>absurd h (V2 _),λj s h=>zv⟩
def R7.step{st:σ->Nat->σ}{acts:T5}{s0:σ}{k:Nat}{l:List σ}{rows:T0}(h:R7 st acts s0 k l rows){s:σ}(hs:l[k]?=some s):
  R7 st acts s0 (k+1) (jv st s acts l).1 (rows++[(jv st s acts l).2]):=by
 obtain⟨⟨x,J,aa⟩,h2,h3,h4⟩:=oI st s acts l;have hk:=(List.getElem?_eq_some_iff.1 hs).1;refine⟨?_,h4 h.nodup,?_,by simp[h.len],λi s' hi I=>?_,λj s' I=>?_⟩
 .rw[J];exact uF h.first
 .grind
 .rcases UU i k with hlt|hge
  .rw[J,UJ zo] at I;obtain⟨r,r1,r2,r3⟩:=h.row i s' hlt I
   grind
  obtain rfl:i=k:=zo;rw[J,UJ hk,hs] at I;cases I;refine⟨_,by rw[Uv (by rw[h.len];simp),h.len,Wn];rfl,h2,λj a U=>h3 j a U⟩
 rcases UU (j+1) l.length with hlt|hge
 .rw[J,UJ hlt] at I;obtain⟨i,ad,i1,i2,i3,i4⟩:=h.met j s' I;exact⟨i,ad,i1,zo,by rw[J];exact uF i3,i4⟩
 rw[J,Uv hge] at I;obtain⟨a,U,e⟩:=aa s' (UA I);exact⟨k,s,zo,zo,by rw[J];exact uF hs,a,U,e⟩
def B7{st:σ->Nat->σ}{acts:T5}{s0:σ}:∀(n k:Nat)(l:List σ)(rows:T0),R7 st acts s0 k l rows->l.length<=max mx 1->∀m r,kE st acts mx n k l rows=some (m,r)->
  R7 st acts s0 m.length m r/\m.length<=max mx 1
 |0,_,_,_,_,_,_,_,h=>by cases h
 |n+1,k,l,rows,hb,hl,m,r,h=>by
  rw[kE] at h;cases e:l[k]? with
  |none=>
   rw[e] at h;cases h;have:=Nat.le_antisymm hb.le (List.getElem?_eq_none_iff.1 e);simp_all
  |some s=>
   rw[e] at h;simp only at h;by_cases hm:mx<(jv st s acts l).1.length
   .simp_all
   rw[T' hm] at h;exact B7 n (k+1) _ _ (hb.step e) zo m r h
end
section
variable{π : Type}[DecidableEq π]
def vP{p0:π}{ah:π->Nat->π}{l:List π}(h:R7 ah (List.range n) p0 l.length l to):∀v:T5,(∀a∈v,a<n)->kY p0 ah v∈l
 |[],_=>UA h.first
 |a::v,hv=>by
  obtain⟨i,hi⟩:=List.mem_iff_getElem?.1 (vP h v (λb I=>hv b (Ul I)));obtain⟨r,_,_,J⟩:=h.row i _ (List.getElem?_eq_some_iff.1 hi).1 hi;obtain⟨m,_,m2⟩:=J a a (Vs (hv a (Um ..)));exact UA m2
def sT{p0:π}{ah:π->Nat->π}{l:List π}(h:R7 ah (List.range n) p0 l.length l to):∀(k j:Nat)(p:π),j<=k->l[j]?=some p->∃v:T5,(∀a∈v,a<n)/\p=kY p0 ah v
 |0,j,p,hj,hp=>by
  obtain rfl:j=0:=zo;rw[h.first] at hp;cases hp;exact⟨[],λa I=>(US I).elim,rfl⟩
 |k+1,j,p,hj,hp=>by
  cases j with
  |zero=>exact sT h k 0 p zo hp
  |succ j=>
   obtain⟨i,s',i1,_,U,a,I,e⟩:=h.met j p hp;obtain⟨v,hv,J⟩:=sT h k i s' zo U;refine⟨a::v,λb hb=>?_,by rw[e,J];rfl⟩
   grind
def setB(to:T0)(b:T7)(a:Nat):T7:=to.map λr=>(b[(r[a]?).getD 0]?).getD false
theorem tK{p0:π}{ah:π->Nat->π}{l:List π}(h:R7 ah (List.range n) p0 l.length l to)(S:π->Bool)(I:a<n):setB to (l.map S) a=l.map (vT ah S a):=by
 refine List.ext_getElem? λi=>?_
 unfold setB;rw[UG,UG];cases hp:l[i]? with
 |none=>
  have:to[i]?=none:=VA (by rw[h.len];grind);simp_all
 |some p=>
  obtain⟨r,r1,_,J⟩:=h.row i p (List.getElem?_eq_some_iff.1 hp).1 hp;obtain⟨m,m1,m2⟩:=J a a (Vs I)
  grind[vT]
theorem qH(ah:π->Nat->π):∀(u:T5)(S:π->Bool)(a:Nat),lh ah S (u++[a])=vT ah (lh ah S u) a
 |[],_,_=>rfl
 |_::u,_,a=>qH ah u _ a
def wG{p0:π}{ah:π->Nat->π}{l:List π}(h:R7 ah (List.range n) p0 l.length l to)(S I:π->Bool):
  l.map S=l.map I↔ ∀v:T5,(∀a∈v,a<n)->S (kY p0 ah v)=I (kY p0 ah v):=by
 rw[List.map_inj_left];refine⟨λe v J=>e _ (vP h v J),λe p hp=>?_⟩;obtain⟨j,U⟩:=List.mem_iff_getElem?.1 hp;obtain⟨v,J,rfl⟩:=sT h j j p (XH) U;simp_all
end
section
variable{π ρ : Type}[DecidableEq π][DecidableEq ρ]
def FC(n:Nat)(ah:π->Nat->π)(keep:π->Bool)(l:List π)(ah':ρ->Nat->ρ)(keep':ρ->Bool)(l':List ρ)(b b':T7):Prop:=
 ∃u:T5,(∀a∈u,a<n)/\b=l.map (lh ah keep u)/\b'=l'.map (lh ah' keep' u)
def DG{p0:π}{ah:π->Nat->π}{keep:π->Bool}{q0:ρ}{J:ρ->Nat->ρ}{I:ρ->Bool}{l:List π}{U:List ρ} 
  (h:R7 ah (List.range n) p0 l.length l to)(h':R7 J (List.range n) q0 U.length U to')(same:∀v:T5,(∀a∈v,a<n)->keep (kY p0 ah v)=I (kY q0 J v))(mx N:Nat):
  (kE (setB to) (List.range n) mx N 0 [l.map keep] []=none/\kE (setB to') (List.range n) mx N 0 [U.map I] []=none)\/
   ∃m m' r,kE (setB to) (List.range n) mx N 0 [l.map keep] []=some (m,r)/\kE (setB to') (List.range n) mx N 0 [U.map I] []=some (m',r)/\RL (FC n ah keep l J I U) m m':=by
 refine EM (R:=FC n ah keep l J I U) ?_ (List.range n) ?_ mx N 0 _ _ [] (.cons ⟨[],λa ha=>(US ha).elim,rfl,rfl⟩ .nil)
 .rintro _ _ _ _ ⟨u,hu,rfl,rfl⟩ ⟨w,hw,rfl,rfl⟩;rw[wG h,wG h'];exact GZ (A:=λa=>a<n) same hu hw
 rintro _ _ ⟨u,hu,rfl,rfl⟩ a ha;have ha':=List.mem_range.1 ha;refine⟨u++[a],λb hb=>?_,by grind[tK,qH],by grind[tK,qH]⟩
 grind
end
section
variable{π : Type}[DecidableEq π]
def xM{p0:π}{ah:π->Nat->π}{keep:π->Bool}{l:List π}{r:T0}
  (h:R7 ah (List.range n) p0 l.length l to)(hm:R7 (setB to) (List.range n) (l.map keep) m.length m r):∀(k j:Nat)(b:T7),j<=k->m[j]?=some b->∃u:T5,(∀a∈u,a<n)/\b=l.map (lh ah keep u)
 |0,j,b,hj,hb=>by
  obtain rfl:j=0:=zo;rw[hm.first] at hb;cases hb;exact⟨[],λa I=>(US I).elim,rfl⟩
 |k+1,j,b,hj,hb=>by
  cases j with
  |zero=>exact xM h hm k 0 b zo hb
  |succ j=>
   obtain⟨i,s',i1,_,J,a,I,e⟩:=hm.met j b hb;obtain⟨u,hu,e2⟩:=xM h hm k i s' zo J;have ha':=List.mem_range.1 I;refine⟨u++[a],λc hc=>?_,by grind[tK,qH]⟩
   grind
def PJ{k:Nat}(h:(b[k]?).getD false=true):true∈b:=by
 grind
def AE{p0:π}{ah:π->Nat->π}{keep:π->Bool}{l:List π} 
  (h:R7 ah (List.range n) p0 l.length l to)(hm:R7 (setB to) (List.range n) (l.map keep) m.length m t.nx)
  (hf:∀(i:Nat)(b:T7),m[i]?=some b->∃f,t.fl[i]?=some f/\(f%2=1↔(b[0]?).getD false=true))(J:m[i]?=some b):LE t i↔true∈b:=by
 constructor
 .intro hL
  induction hL using LE.ind generalizing b with
  |acc h1 h2=>
   grind
  |step hr hj _ ih=>
   obtain⟨r',r1,r2,r3⟩:=hm.row _ _ (List.getElem?_eq_some_iff.1 J).1 J;rw[hr] at r1;cases r1;obtain⟨q,hq⟩:=List.mem_iff_getElem?.1 hj;have ad:q<n:=by
    grind
   obtain⟨j,j1,j2⟩:=r3 q q (Vs ad)
   grind[setB]
 intro ht;have key:∀(v:T5)(i:Nat)(S:π->Bool),(∀a∈v,a<n)->m[i]?=some (l.map S)->S (kY p0 ah v)=true->LE t i:=by
  intro v
  induction v with
  |nil=>
   intro i S _ hi I;obtain⟨f,f1,f2⟩:=hf _ _ hi;refine .acc f1 (f2.2 ?_);rw[UG,h.first];exact I
  |cons a v ih=>
   intro i S U hi I;have ha:=U a (Um ..);obtain⟨r',r1,_,r3⟩:=hm.row _ _ (List.getElem?_eq_some_iff.1 hi).1 hi;obtain⟨j,j1,j2⟩:=r3 a a (Vs ha);rw[tK h S ha] at j2;exact .step r1 (UA j1) (ih j (vT ah S a) (λc hc=>U c (Ul hc)) j2 I)
 obtain⟨u,_,rfl⟩:=xM h hm i i b (XH) J;obtain⟨p,hp,I⟩:=List.mem_map.1 ht;obtain⟨k,hk⟩:=List.mem_iff_getElem?.1 hp;obtain⟨v,U,rfl⟩:=sT h k k p (XH) hk;exact key v i _ U J I
end
def kM(t:Tb)(i:Nat):Bool:=(t.fl[i]?.getD 0)%2==1
structure Tz where
 acts:TZ
 fl:T8
 nx:List (T8)
def zI(l:T5):T8:=l.map λn:Nat=>(n:Int)
def Tb.z(t:Tb):Tz:=⟨t.acts,zI t.fl,t.nx.map zI⟩
def J5{a b:T5}(h:zI a=zI b):a=b:=by
 unfold zI at h;exact(V8 (f:=λn:Nat=>(n:Int)) (λx y e=>Int.ofNat.inj e)).1 h
theorem Tb.z_inj(h:t.z=u.z):t=u:=by
 cases t;cases u;unfold Tb.z at h;simp only[Tz.mk.injEq] at h;obtain⟨I,J,U⟩:=h;rw[I,J5 J,(V8 (λx y e=>J5 e)).1 U]
structure pE(s:Ub):Prop where
 n1:1<=s.size
 n8:s.size<=8
 lt:∀c∈s.data.toList,GE c=true
 wd:Q7 s.data.toList=false
structure n5(l:TZ):Prop where
 n1:1<=l.length
 n6:l.length<=6
 nm:∀a∈l,pE a
 nd:l.Nodup
structure Fn(t:Tb):Prop where
 acts:n5 t.acts
 n1:1<=t.nx.length
 n100:t.nx.length<=100
 fl:t.fl.length=t.nx.length
 rs:∀r∈t.nx,r.length=t.acts.length/\∀x∈r,x<t.nx.length
 fs:∀f∈t.fl,f<=3
 alive:∀(i f:Nat),t.fl[i]?=some f->(2<=f↔LE t i)
def iS(z:Tz):Prop:=∃t:Tb,z=t.z/\Fn t
def Fn.s(h:Fn t):EJ t:=
 ⟨by have:=h.acts.n6;omega,λa I=>by have:=(h.acts.nm a I).n8;omega,by have:=h.n100;omega,h.fl,λf hf=>by have:=h.fs f hf;omega,
  λr hr=>⟨(h.rs r hr).1,λx J=>by have:=(h.rs r hr).2 x J;have:=h.n100;omega⟩⟩
def Ag:∀(l:TZ),(∀a∈l,a.size<=8)->(jB l).length<=9*l.length:=by intro I;induction I<;>grind[LT,jB]
def vk(n:Nat):∀(fs:T5)(l:T0),(∀r∈l,r.length<=n)->(iX fs l).length<=(n+1)*l.length
 |[],l,_=>by cases l<;>simp[iX]
 |_::_,[],_=>by simp[iX]
 |f::fs,r::l,h=>by
  have h1:=h r (Um ..);have h2:=vk n fs l (λb I=>h b (Ul I));rw[iX,UM,Ur,UL,UM,W7];omega
def Fn.few(h:Fn t):(iG t).length<=1000:=by
 have h1:=Ag t.acts (λa I=>(h.acts.nm a I).n8);have h2:=vk 6 t.fl t.nx (λr hr=>by rw[(h.rs r hr).1];exact h.acts.n6);have h3:=h.acts.n6;have h4:=h.n100
 grind[nH,iM,iG]
def Fn.many(h:Fn t):10<=(iG t).length:=by
 have h1:=h.acts.n1;have h2:=h.n1;have h3:=h.fl;have:(nH (iM t)).length=2:=rfl;unfold iG;rw[Ur,this];unfold iM;simp only[UM,Ur];have ha:2<=(jB t.acts).length:=by
  cases hc:t.acts with
  |nil=>simp_all
  |cons a r=>
   have:=(h.acts.nm a za).n1
   grind[LT,jB]
 have hr:2<=(iX t.fl t.nx).length:=by
  cases hc:t.nx with
  |nil=>simp_all
  |cons r l=>
   cases hf:t.fl with
   |nil=>simp_all
   |cons f fs=>
    have:=(h.rs r za).1
    grind[iX]
 omega
def RZ(b:T9):Option Tb->Prop
 |some t=>Fn t/\iG t=b
 |none=>∀t,Fn t->iG t≠b
def RZ.uniq{b:T9}(h:RZ b o)(I:RZ b o'):o=o':=by
 cases o with
 |none=>
  cases o' with
  |none=>rfl
  |some t=>exact absurd I.2 (h t I.1)
 |some t=>
  cases o' with
  |none=>exact absurd h.2 (I t h.1)
  |some u=>rw[Ng h.1.s I.1.s (h.2.trans I.2.symm)]
def iv:T9->Nat × T9
 |[]=>(0,[])
 |c::r=>(c.toNat,r)
def jt:Nat->T9->T5 × T9
 |0,l=>([],l)
 |n+1,l=>((iv l).1::(jt n (iv l).2).1,(jt n (iv l).2).2)
def lT(n:Nat)(l:T9):Ub × T9:=(⟨(l.take n).toArray⟩,l.drop n)
def iJ:Nat->T9->TZ × T9
 |0,l=>([],l)
 |n+1,l=>((lT (iv l).1 (iv l).2).1::(iJ n (lT (iv l).1 (iv l).2).2).1,(iJ n (lT (iv l).1 (iv l).2).2).2)
def jG(k:Nat):Nat->T9->(T5 × T0) × T9
 |0,l=>(([],[]),l)
 |n+1,l=>(((iv l).1::(jG k n (jt k (iv l).2).2).1.1,(jt k (iv l).2).1::(jG k n (jt k (iv l).2).2).1.2),(jG k n (jt k (iv l).2).2).2)
def nF(b:T9):TZ × T9:=iJ (iv (b.drop 2)).1 (iv (b.drop 2)).2
def pM(b:T9):Tb:=⟨(nF b).1,(jG (nF b).1.length (iv (nF b).2).1 (iv (nF b).2).2).1.1,(jG (nF b).1.length (iv (nF b).2).1 (iv (nF b).2).2).1.2⟩
def sR(h:n<256)(r:T9):iv (u8 n::r)=(n,r):=by rw[iv,kK h]
def AI:∀(l:T5)(r:T9),(∀x∈l,x<256)->jt l.length (l.map u8++r)=(l,r)
 |[],r,_=>rfl
 |a::l,r,h=>by
  rw[UM,jt,UZ,UE,sR (h a (Um ..))];simp only;rw[AI l r (λx I=>h x (Ul I))]
def Mg(s:Ub)(r:T9):lT s.size (s.data.toList++r)=(s,r):=by
 unfold lT;simp
def wj:∀(l:TZ)(r:T9),(∀a∈l,a.size<256)->iJ l.length (jB l++r)=(l,r)
 |[],r,_=>rfl
 |a::l,r,h=>by
  rw[UM,iJ,jB,UE,sR (h a (Um ..))];simp only;rw[UI,Mg];simp only;rw[wj l r (λx I=>h x (Ul I))]
def wJ{k:Nat}:∀(fs:T5)(l:T0)(r:T9),fs.length=l.length->(∀f∈fs,f<256)->(∀x∈l,x.length=k/\∀y∈x,y<256)->jG k l.length (iX fs l++r)=((fs,l),r)
 |[],[],r,_,_,_=>rfl
 |[],_::_,_,h,_,_=>zv
 |_::_,[],_,h,_,_=>zv
 |f::fs,x::l,r,h1,h2,h3=>by
  have I:=h3 x (Um ..);rw[UM,jG,iX,UE,sR (h2 f (Um ..))];simp only;rw[UI,<-I.1,AI x _ I.2];simp only;rw[I.1,wJ fs l r za (λy J=>h2 y (Ul J)) (λy J=>h3 y (Ul J))]
def Lq(h:EJ t):pM (iG t)=t:=by
 have e:(iG t).drop 2=u8 t.acts.length::(jB t.acts++(u8 t.nx.length::(iX t.fl t.nx++nH (iM t)))):=by
  grind[iG,iM]
 have hA:nF (iG t)=(t.acts,u8 t.nx.length::(iX t.fl t.nx++nH (iM t))):=by
  unfold nF;rw[e,sR h.al];exact wj _ _ h.aZ
 unfold pM;rw[hA];simp only;rw[sR h.nl];simp only;rw[wJ t.fl t.nx _ h.fl h.fs h.rs]
def RZ.not{b:T9}(h:Fn (pM b)->iG (pM b)≠b):RZ b none:=λt I e=>by
 have:pM b=t:=by rw[<-e];exact Lq I.s
 simp_all
def qN{l:T9}:(iv l).1<256:=by
 cases l with
 |nil=>decide
 |cons c r=>exact c.toNat_lt
def Lg(l:T9):(iv l).2.length<=l.length:=by
 cases l with
 |nil=>decide
 |cons c r=>exact W8 _
def nZ(n:Nat)(x:Int):Bool:=decide (0<=x)&&decide (x<(n:Int))
theorem tO{x:Int}:nZ n x=true↔0<=x/\x<(n:Int):=by unfold nZ;simp
structure n7(z:Tz):Prop where
 n1:1<=z.nx.length
 n100:z.nx.length<=100
 fl:z.fl.length=z.nx.length
 rs:∀r∈z.nx,r.length=z.acts.length/\r.all (nZ z.nx.length)=true
def nu(z:Tz):Tb:=⟨z.acts,z.fl.map λf=>(f%2).toNat,z.nx.map λr=>r.map Int.toNat⟩
def pD(z:Tz):Prop:=∀(i:Nat)(f:Int),z.fl[i]?=some f->0<=f/\f<=3/\(2<=f↔LE (nu z) i)
theorem I2(hn:t.nx=u.nx)(hf:∀(i f:Nat),t.fl[i]?=some f->f%2=1->∃g,u.fl[i]?=some g/\g%2=1)(h:LE t i):LE u i:=by
 induction h using LE.ind with
 |acc h1 h2=>
  grind[LE]
 |step h1 h2 _ ih=>exact .step (hn▸h1) h2 ih
def Om(l:T5):(zI l).map Int.toNat=l:=by
 unfold zI;rw[Vp]
 conv=>rhs;rw[<-VW l]
 rfl
def vV{l:T8}(h:∀x∈l,0<=x):zI (l.map Int.toNat)=l:=by
 unfold zI;rw[Vp]
 conv=>rhs;rw[<-VW l]
 exact Vd λa I=>Int.toNat_of_nonneg (h a I)
theorem Ib(t:Tb)(i:Nat):LE (nu t.z) i↔LE t i:=by
 have hn:(nu t.z).nx=t.nx:=by
  unfold nu Tb.z;simp only;rw[Vp]
  conv=>rhs;rw[<-VW t.nx]
  exact Vd λr _=>Om r
 have hfl:∀i:Nat,(nu t.z).fl[i]?=(t.fl[i]?).map (· %2):=λi=>by
  unfold nu Tb.z zI
  grind
 grind[I2]
def AT(z:Tz):iS z↔n5 z.acts/\n7 z/\pD z:=by
 constructor
 .rintro⟨t,rfl,h⟩;have J:t.z.nx.length=t.nx.length:=by unfold Tb.z;simp
  refine⟨h.acts,⟨by rw[J];exact h.n1,by rw[J];exact h.n100,by rw[J];unfold Tb.z zI;simp only[UL];exact h.fl,λr hr=>?_⟩,λi f hi=>?_⟩
  .have ai:=hr;obtain⟨q,hq,rfl⟩:=List.mem_map.1 ai;have k:=h.rs q hq;refine⟨by unfold zI;rw[UL];exact k.1,List.all_eq_true.2 λx hx=>?_⟩
   grind[tO,zI]
  rw[Ib];have I:(zI t.fl)[i]?=some f:=hi;unfold zI at I;rw[UG] at I;cases e:t.fl[i]? with
  |none=>simp_all
  |some g=>
   rw[e] at I;have hg:(g:Int)=f:=Ue I;have h3:=h.fs g (UA e);have h4:=h.alive i g e
   grind
 rintro⟨h1,U,h3⟩;have ae:∀x∈z.fl,0<=x:=λx hx=>by
  obtain⟨i,hi⟩:=List.mem_iff_getElem?.1 hx;exact(h3 i x hi).1
 have aj:=λr hr x hx=>(tO.1 (List.all_eq_true.1 (U.rs r hr).2 x hx)).1
 have hz:z=Tb.z ⟨z.acts,z.fl.map Int.toNat,z.nx.map λr=>r.map Int.toNat⟩:=by
  unfold Tb.z;simp only;rw[vV ae,Vp];have:z.nx.map (zI∘λr=>r.map Int.toNat)=z.nx:=by
   conv=>rhs;rw[<-VW z.nx]
   exact Vd λr hr=>vV (aj r hr)
  rw[this]
 refine⟨⟨z.acts,z.fl.map Int.toNat,z.nx.map λr=>r.map Int.toNat⟩,hz,h1,by simpa using U.n1,by simpa using U.n100,by simpa using U.fl,λr hr=>?_,λf hf=>?_,λi f hi=>?_⟩
 .obtain⟨q,hq,rfl⟩:=List.mem_map.1 hr;have k:=U.rs q hq
  grind[tO]
 .obtain⟨g,hg,rfl⟩:=List.mem_map.1 hf;obtain⟨i,hi⟩:=List.mem_iff_getElem?.1 hg;have:=h3 i g hi;omega
 grind[Ib,pD]
end Go.Proofs.YtidakhhekofkoaaGreatDoor
namespace Go.Proofs
attribute [local go_sem] TT TU TV XL
attribute [local simp] TT TU TV XL
open Go.Shelf
open Value renaming slice->xa,int->xd,string->xj,pointer->xk,bool->xn
open IntKind renaming i64->xh
open Obj renaming cells->xi
open Ending renaming returned->xm
def Tryz.laysM171_ren:Go.Shelf.Ren:=⟨λ|171=>112|243=>150|246=>189|283=>220|284=>221|285=>222|286=>223|129=>219|317=>260|318=>261|319=>262|320=>263|337=>284|338=>285|n=>n,λ|3=>3|9=>9|2=>2|4=>4|171=>346|0=>0|53=>345|37=>51|5=>5|173=>348|212=>370|51=>146|20=>20|213=>371|46=>163|232=>383|233=>384|n=>n,λ|17=>4|18=>5|19=>6|n=>n⟩
def Tryz.laysM171:Go.Proofs.LaysM.n171 Tryz.prog Tryz.laysM171_ren:={
 mixed:=by kernel_rfl
 f129:=Tryz.func219.trans (congrArg some (by kernel_rfl))
 f171:=Tryz.func112.trans (congrArg some (by kernel_rfl))
 f243:=Tryz.func150.trans (congrArg some (by kernel_rfl))
 f246:=Tryz.func189.trans (congrArg some (by kernel_rfl))
 f283:=Tryz.func220.trans (congrArg some (by kernel_rfl))
 f284:=Tryz.func221.trans (congrArg some (by kernel_rfl))
 f285:=Tryz.func222.trans (congrArg some (by kernel_rfl))
 f286:=Tryz.func223.trans (congrArg some (by kernel_rfl))
 f317:=Tryz.func260.trans (congrArg some (by kernel_rfl))
 f318:=Tryz.func261.trans (congrArg some (by kernel_rfl))
 f319:=Tryz.func262.trans (congrArg some (by kernel_rfl))
 f320:=Tryz.func263.trans (congrArg some (by kernel_rfl))
 f337:=Tryz.func284.trans (congrArg some (by kernel_rfl))
 f338:=Tryz.func285.trans (congrArg some (by kernel_rfl))
 t0:=VQ
 a0:=WH
 z0:=Ws
 v0:=VU
 t2:=Tryz.underlying2
 a2:=Tryz.isAgg2
 z2:=Tryz.sizeOf2
 v2:=Tryz.zeroValue2
 t3:=VD
 a3:=Wf
 z3:=V7
 v3:=VI
 t4:=VC
 a4:=We
 z4:=V6
 v4:=VH
 t5:=VP
 a5:=WG
 z5:=Wr
 v5:=VT
 t9:=Vq
 a9:=VZ
 z9:=VR
 v9:=Vw
 t20:=Tryz.underlying20
 a20:=Tryz.isAgg20
 z20:=Tryz.sizeOf20
 v20:=Tryz.zeroValue20
 t37:=WD
 a37:=Tryz.isAgg51
 z37:=Xs
 v37:=WK
 t46:=Xx
 a46:=Tryz.isAgg163
 z46:=Tryz.sizeOf163
 v46:=Tryz.zeroValue163
 t51:=Xy
 a51:=Tryz.isAgg146
 z51:=Tryz.sizeOf146
 v51:=Tryz.zeroValue146
 t53:=Tryz.underlying345
 a53:=Tryz.isAgg345
 z53:=Tryz.sizeOf345
 v53:=Tryz.zeroValue345
 t171:=Tryz.underlying346
 a171:=Tryz.isAgg346
 z171:=Tryz.sizeOf346
 v171:=Tryz.zeroValue346
 t173:=Tryz.underlying348
 a173:=Tryz.isAgg348
 z173:=Tryz.sizeOf348
 v173:=Tryz.zeroValue348
 t212:=Tryz.underlying370
 a212:=Tryz.isAgg370
 z212:=Tryz.sizeOf370
 v212:=Tryz.zeroValue370
 t213:=Tryz.underlying371
 a213:=Tryz.isAgg371
 z213:=Tryz.sizeOf371
 t232:=Tryz.underlying383
 a232:=Tryz.isAgg383
 z232:=Tryz.sizeOf383
 v232:=Tryz.zeroValue383
 t233:=Tryz.underlying384
 a233:=Tryz.isAgg384
 z233:=Tryz.sizeOf384
 v233:=Tryz.zeroValue384
 g17:=by kernel_rfl
 g18:=by kernel_rfl
 g19:=by kernel_rfl
 i0:=by kernel_rfl
 i2:=by kernel_rfl
 i3:=by kernel_rfl
 i4:=by kernel_rfl
 i5:=by kernel_rfl
 i9:=by kernel_rfl
 i20:=by kernel_rfl
 i37:=by kernel_rfl
 i46:=by kernel_rfl
 i51:=by kernel_rfl
 i53:=by kernel_rfl
 i171:=by kernel_rfl
 i173:=by kernel_rfl
 i212:=by kernel_rfl
 i232:=by kernel_rfl
 i233:=by kernel_rfl
 m17:=by kernel_rfl
 m18:=by kernel_rfl
 m19:=by kernel_rfl}
open Go.RowKit Go.Sort Go.Lib in
def Tryz.strconv_Itoa(n:Int)(J:-9223372036854775808<=n)(U:n<=9223372036854775807)(w:Uc)(I:Lib.TabIs Tryz.prog w "internal/strconv.uint64pow10" .u64 Lib.pow10Tab):
  Calls Tryz.prog 112 #[xd xh n] w λe w'=>e=xm (xj ⟨(Lib.itoa n).toArray⟩)/\∃k os,w'=grow (w.drewN k) os:=Any.strconv_Itoa Tryz.laysM171 n J U w I
def Tryz.laysM316_ren:Go.Shelf.Ren:=⟨λ|316=>90|n=>n,λ|9=>9|3=>3|4=>4|37=>51|0=>0|127=>210|5=>5|n=>n,λ|n=>n⟩
def Tryz.laysM316:Go.Proofs.LaysM.n316 Tryz.prog Tryz.laysM316_ren:={
 mixed:=by kernel_rfl
 f316:=Tryz.func90.trans (congrArg some (by kernel_rfl))
 t0:=VQ
 a0:=WH
 z0:=Ws
 v0:=VU
 t3:=VD
 a3:=Wf
 z3:=V7
 v3:=VI
 t4:=VC
 a4:=We
 z4:=V6
 v4:=VH
 t9:=Vq
 a9:=VZ
 z9:=VR
 v9:=Vw
 t37:=WD
 a37:=Tryz.isAgg51
 z37:=Xs
 v37:=WK
 t127:=Xw
 a127:=Tryz.isAgg210
 z127:=Tryz.sizeOf210
 v127:=Tryz.zeroValue210
 t5:=VP
 a5:=WG
 z5:=Wr
 v5:=VT
 i0:=by kernel_rfl
 i3:=by kernel_rfl
 i4:=by kernel_rfl
 i5:=by kernel_rfl
 i9:=by kernel_rfl
 i37:=by kernel_rfl
 i127:=by kernel_rfl}
open Go.RowKit in
def Tryz.stringslite_Clone(s:Ub)(w:Uc)(I:s.size<=281474976710656):
  Calls Tryz.prog 90 #[xj s] w λe w'=>e=xm (xj s)/\XL w w':=Any.stringslite_Clone Tryz.laysM316 s w I
def Tryz.lays190_ren:Go.Shelf.Ren:=⟨λ|190=>149|125=>188|258=>187|128=>218|129=>219|302=>209|303=>210|304=>211|305=>212|306=>213|307=>214|308=>215|309=>216|310=>217|333=>254|329=>255|330=>256|334=>257|335=>258|336=>259|344=>283|n=>n,λ|31=>25|9=>9|3=>3|46=>163|0=>0|51=>146|53=>345|4=>4|183=>338|182=>337|131=>167|5=>5|218=>362|222=>366|228=>378|229=>379|n=>n,λ|n=>n⟩
def Tryz.lays190:Go.Proofs.Lays.n190 Tryz.prog Tryz.lays190_ren:={
 mixed:=by kernel_rfl
 f125:=Tryz.func188.trans (congrArg some (by kernel_rfl))
 f128:=Tryz.func218.trans (congrArg some (by kernel_rfl))
 f129:=Tryz.func219.trans (congrArg some (by kernel_rfl))
 f190:=Tryz.func149.trans (congrArg some (by kernel_rfl))
 f258:=Tryz.func187.trans (congrArg some (by kernel_rfl))
 f302:=Tryz.func209.trans (congrArg some (by kernel_rfl))
 f303:=Tryz.func210.trans (congrArg some (by kernel_rfl))
 f304:=Tryz.func211.trans (congrArg some (by kernel_rfl))
 f305:=Tryz.func212.trans (congrArg some (by kernel_rfl))
 f306:=Tryz.func213.trans (congrArg some (by kernel_rfl))
 f307:=Tryz.func214.trans (congrArg some (by kernel_rfl))
 f308:=Tryz.func215.trans (congrArg some (by kernel_rfl))
 f309:=Tryz.func216.trans (congrArg some (by kernel_rfl))
 f310:=Tryz.func217.trans (congrArg some (by kernel_rfl))
 f329:=Tryz.func255.trans (congrArg some (by kernel_rfl))
 f330:=Tryz.func256.trans (congrArg some (by kernel_rfl))
 f333:=Tryz.func254.trans (congrArg some (by kernel_rfl))
 f334:=Tryz.func257.trans (congrArg some (by kernel_rfl))
 f335:=Tryz.func258.trans (congrArg some (by kernel_rfl))
 f336:=Tryz.func259.trans (congrArg some (by kernel_rfl))
 f344:=Tryz.func283.trans (congrArg some (by kernel_rfl))
 t0:=VQ
 a0:=WH
 z0:=Ws
 v0:=VU
 t3:=VD
 a3:=Wf
 z3:=V7
 v3:=VI
 t4:=VC
 a4:=We
 z4:=V6
 v4:=VH
 t5:=VP
 a5:=WG
 z5:=Wr
 v5:=VT
 t9:=Vq
 a9:=VZ
 z9:=VR
 v9:=Vw
 t31:=WE
 a31:=Tryz.isAgg25
 z31:=Xt
 v31:=WL
 t46:=Xx
 a46:=Tryz.isAgg163
 z46:=Tryz.sizeOf163
 v46:=Tryz.zeroValue163
 t51:=Xy
 a51:=Tryz.isAgg146
 z51:=Tryz.sizeOf146
 v51:=Tryz.zeroValue146
 t53:=Tryz.underlying345
 a53:=Tryz.isAgg345
 z53:=Tryz.sizeOf345
 v53:=Tryz.zeroValue345
 t131:=Tryz.underlying167
 a131:=Tryz.isAgg167
 z131:=Tryz.sizeOf167
 v131:=Tryz.zeroValue167
 t182:=Tryz.underlying337
 a182:=Tryz.isAgg337
 z182:=Tryz.sizeOf337
 v182:=Tryz.zeroValue337
 t183:=Tryz.underlying338
 a183:=Tryz.isAgg338
 z183:=Tryz.sizeOf338
 v183:=Tryz.zeroValue338
 t218:=Tryz.underlying362
 a218:=Tryz.isAgg362
 z218:=Tryz.sizeOf362
 v218:=Tryz.zeroValue362
 t222:=Tryz.underlying366
 a222:=Tryz.isAgg366
 z222:=Tryz.sizeOf366
 v222:=Tryz.zeroValue366
 t228:=Tryz.underlying378
 a228:=Tryz.isAgg378
 z228:=Tryz.sizeOf378
 v228:=Tryz.zeroValue378
 t229:=Tryz.underlying379
 a229:=Tryz.isAgg379
 z229:=Tryz.sizeOf379
 v229:=Tryz.zeroValue379}
open Go.Sort Go.RowKit in
def Tryz.slices_Sort_string(blk off cap:Nat)(J:List (T9))(w:Uc)(hH:Holds encStr w blk off J.toArray)(I:blk<w.heap.size)(U:J.length<4611686018427387904):
  Calls Tryz.prog 149 #[xa (some (TU blk off)) J.length cap] w λe w'=>
   e=xm (.tuple #[])/\∃n os,w'=grow (putRow encStr (Sort.ahead w n) blk off (J.mergeSort λx y=>decide (x<=y)).toArray) os:=Any.slices_Sort_string Tryz.lays190 blk off cap J w hH I U
def Tryz.slices_Sort_none(p:TX)(cap:Nat)(w:Uc):
  Calls Tryz.prog 149 #[xa p 0 cap] w λe w'=>e=xm (.tuple #[])/\w'=w:=Any.slices_Sort_string_none Tryz.lays190 p cap w
end Go.Proofs
namespace Go.Proofs.YtidakhhekofkoaaGreatDoor
attribute [local go_sem] TT TU TV XL
attribute [local simp] TT TU TV XL
open Go.RowKit
open Value renaming slice->xa,int->xd,string->xj,pointer->xk,bool->xn
open IntKind renaming i64->xh
open Obj renaming cells->xi
open Ending renaming returned->xm
variable{w w' W w2:Uc}{b size:Nat}{o:Obj}{p:Prop}{a:Bool}{xs:TW}{t:Tk}{r:TY}
def Qm(h:XL w w')(e:w.heap[b]?=some o):w'.heap[b]?=some o:=by
 rcases UU b w.heap.size with hb|hb
 .exact(h.block b hb).trans e
 simp_all
def gC:XL w (w.alloc o):=(XF).alloc (XH) _
def ir(w:Uc)(o:Obj):XL w (w.alloc o):=gC
def MC{a:Uc}(h:XL a w)(k:XL w w'):XL a w':=h.trans (k.mono h.size)
def fy(h:p):Hid p:=h
theorem gQ(h:Hid p):p:=h
def ja{b:Bool}(h:a=b):xm (xn a)=xm (xn b):=by rw[h]
def oH{k:IntKind}{a b:Int}(h:a=b):xm (xd k a)=xm (xd k b):=by rw[h]
def gq{base e n:Nat}{v:Ud}(h:w.ownsRow base e size v n xs)(hb:XL w w'):w'.ownsRow base e size v n xs:=by
 obtain⟨U,J⟩:=h;refine⟨U,?_⟩;rcases J with J|⟨g,cap,cur,hv,hg,hh,r⟩
 .simp_all
 have I:g<w.heap.size:=by
  grind
 exact Or.inr ⟨g,cap,cur,hv,hg,by rw[hb.block g I];omega,r⟩
def gJ{base e n:Nat}{v:Ud}(h:w.ownsRow base e size v n xs):∀k,v.ownBlock=some k->base<=k/\k<w.heap.size:=by
 intro k I;obtain⟨_,J|⟨g,cap,cur,U,hg,hh,_⟩⟩:=h
 .rw[J.1] at I;cases I
 rw[U] at I;cases I
 grind
def te{row:Ua}(hg:W.grownBy w2 row)(I:b<W.heap.size)(hr:∀k,row=some k->k≠b)(o:Nat):w2.cell? (TU b o)=W.cell? (TU b o):=
 V5 (a:=⟨b,o,none⟩) (hg.block b I (λe=>hr b e.symm rfl))
open Go.Deep
abbrev Fm:=BT (Nat × Ub × Nat)
def leaf(k:Nat)(s:Ub)(p:Nat):Fm:=.node 0 0 (k,s,p) .nil .nil
def one(k:Nat)(f:Fm):Fm:=.node 0 0 (k,ByteArray.empty,0) f .nil
def two(k:Nat)(f g:Fm):Fm:=.node 0 0 (k,ByteArray.empty,0) f g
def ph(k:Nat):Nat:=if k=17 then 4 else if k=9 then 5 else if k=10 then 6 else if k=11 then 7 else if k=12 then 8 else 0
abbrev Rd:=Except Nat (Fm × TY)
def gF(l:TY):Nat:=match l with|[]=>0|t::_=>t.k
def MF(l:TY):Ub:=match l with|[]=>ByteArray.empty|t::_=>t.s
def ig(l:TY):Nat:=match l with|[]=>0|t::_=>t.p
def pf:Nat->Nat->Fm->TY->Rd
 |0,_,_,l=>.error (ig l)
 |n+1,0,_,l=>match pf n 1 .nil l with
  |.error q=>.error q
  |.ok (a,l1)=>if gF l1=14 then (match pf n 0 .nil l1.tail with| .error q=>.error q| .ok (b,l2)=>.ok (two 12 a b,l2)) else .ok (a,l1)
 |n+1,1,_,l=>match pf n 2 .nil l with
  |.error q=>.error q
  |.ok (a,l1)=>pf n 5 a l1
 |n+1,2,_,l=>match pf n 3 .nil l with
  |.error q=>.error q
  |.ok (a,l1)=>pf n 6 a l1
 |n+1,3,_,l=>match pf n 4 .nil l with
  |.error q=>.error q
  |.ok (a,l1)=>if gF l1=13 then (match pf n 4 .nil l1.tail with| .error q=>.error q| .ok (b,l2)=>.ok (two 9 a b,l2)) else .ok (a,l1)
 |n+1,4,_,l=>
   if ph (gF l)≠0 then (match pf n 4 .nil l.tail with| .error q=>.error q| .ok (a,l1)=>.ok (one (ph (gF l)) a,l1))
   else if gF l=18 then (match pf n 0 .nil l.tail with| .error q=>.error q| .ok (a,l1)=>if gF l1=19 then .ok (a,l1.tail) else .error (ig l1))
   else if gF l=6\/gF l=7\/gF l=8 then .ok (leaf (gF l-5) ByteArray.empty 0,l.tail)
   else if gF l=2 then .ok (leaf 0 (MF l) (ig l),l.tail)
   else .error (ig l)
 |n+1,5,f,l=>if gF l=15 then (match pf n 2 .nil l.tail with| .error q=>.error q| .ok (b,l1)=>pf n 5 (two 11 f b) l1) else .ok (f,l)
 |n+1,6,f,l=>if gF l=16 then (match pf n 3 .nil l.tail with| .error q=>.error q| .ok (b,l1)=>pf n 6 (two 10 f b) l1) else .ok (f,l)
 |_+1,_+7,f,l=>.ok (f,l)
def jz:∀n ae f l J I,pf n ae f l=.ok (J,I)->I.length<=l.length
 |0,_,_,_,_,_,h=>zv
 |n+1,0,f,l,J,I,h=>by
  rw[pf] at h
  split at h
  .cases h
  rename_i a l1 e
  have U:=jz n 1 .nil l a l1 e
  split at h
  .split at h
   .cases h
   rename_i b l2 e2
   have h2:=jz n 0 .nil l1.tail b l2 e2;cases h;simp at h2;omega
  simp_all
 |n+1,1,f,l,J,I,h=>by
  rw[pf] at h
  split at h
  .cases h
  rename_i a l1 e
  have U:=jz n 2 .nil l a l1 e;have h2:=jz n 5 a l1 J I h;omega
 |n+1,2,f,l,J,I,h=>by
  rw[pf] at h
  split at h
  .cases h
  rename_i a l1 e
  have U:=jz n 3 .nil l a l1 e;have h2:=jz n 6 a l1 J I h;omega
 |n+1,3,f,l,J,I,h=>by
  rw[pf] at h
  split at h
  .cases h
  rename_i a l1 e
  have U:=jz n 4 .nil l a l1 e
  split at h
  .split at h
   .cases h
   rename_i b l2 e2
   have h2:=jz n 4 .nil l1.tail b l2 e2;cases h;simp at h2;omega
  simp_all
 |n+1,4,f,l,J,I,h=>by
  rw[pf] at h
  split at h
  .split at h
   .cases h
   rename_i a l1 e
   have U:=jz n 4 .nil l.tail a l1 e;cases h;simp at U;omega
  split at h
  .split at h
   .cases h
   rename_i a l1 e
   have U:=jz n 0 .nil l.tail a l1 e
   grind
  grind
 |n+1,5,f,l,J,I,h=>by
  rw[pf] at h
  split at h
  .split at h
   .cases h
   rename_i b l1 e
   have U:=jz n 2 .nil l.tail b l1 e;have h2:=jz n 5 _ l1 J I h;simp at U;omega
  simp_all
 |n+1,6,f,l,J,I,h=>by
  rw[pf] at h
  split at h
  .split at h
   .cases h
   rename_i b l1 e
   have U:=jz n 3 .nil l.tail b l1 e;have h2:=jz n 6 _ l1 J I h;simp at U;omega
  simp_all
 |n+1,k+7,f,l,J,I,h=>by
  rw[pf] at h;simp_all
def R8:TY->Prop
 |[]=>False
 |[t]=>t.k<=1
 |t::r=>2<=t.k/\R8 r
def R8.ne{l:TY}(h:R8 l):l≠[]:=by rintro rfl;exact h
def R8.tail(h:R8 (t::r))(hk:2<=t.k):R8 r:=by
 grind[R8]
def lH(k:Nat):T9:=
 if k=4 then [97,99,116,115] else if k=5 then [114,117,108,101] else if k=6 then [116,114,117,101] else if k=7 then [102,97,108,115,101] else if k=8 then [101,110,100] else
 if k=9 then [88] else if k=10 then [78] else if k=11 then [70] else if k=12 then [71] else if k=13 then [85] else if k=14 then [45,62] else
 if k=15 then [124] else if k=16 then [38] else if k=17 then [33] else if k=18 then [40] else if k=19 then [41] else if k=20 then [44] else if k=21 then [59] else []
def sr(t:Tk):Prop:=t.k<=21/\(4<=t.k->t.s.data.toList=lH t.k)/\(t.k=3->∃c:UInt8,t.s.data.toList=[c]/\48<=c.toNat/\c.toNat<=57)/\(t.k<=3->t.s.data.toList≠[40])
def IY:∀a:Fin 22,∀b:Fin 22,4<=a.val->4<=b.val->lH a.val=lH b.val->a=b:=zd
def CI{a:Nat}(ha:a<=21)(hb:b<=21)(I:4<=a)(J:4<=b)(h:lH a=lH b):a=b:=by
 have:=IY ⟨a,zo⟩ ⟨b,zo⟩ I J h;simp_all
theorem mS(s:Ub)(j:Nat)(h:j<s.size):(s.extract j (j+1)).data.toList=[s[j]]:=by
 rw[V1,Q4 s j h];simp
def Hn(l:T9):jC l<=21/\(4<=jC l->l=lH (jC l))/\jC l≠3:=by
 grind[jC,lH]
def yR(c:UInt8):ju c.toNat<=21/\(4<=ju c.toNat->[c]=lH (ju c.toNat))/\ju c.toNat≠3:=by
 have aux:∀n:Nat,∀hn:n<256,ju n<=21/\(4<=ju n->[UInt8.ofNat n]=lH (ju n))/\ju n≠3:=by
  intro n hn;have:=(by decide+kernel:∀m:Fin 256,ju m.val<=21/\(4<=ju m.val->[UInt8.ofNat m.val]=lH (ju m.val))/\ju m.val≠3) ⟨n,hn⟩;exact this
 have:=aux c.toNat (UInt8.toNat_lt c);simp_all
def Cq(s:Ub)(j k:Nat)(h:j<s.size)(hk:j<k):∃r,(s.extract j k).data.toList=s[j]::r:=by
 rw[V1,Q4 s j h];obtain⟨m,hm⟩:∃m,k-j=m+1:=⟨k-j-1,zo⟩;simp_all
theorem Dy(c:UInt8)(h:ju c.toNat<=3):[c]≠[40]:=by
 intro e;have:c=40:=za;subst this;trivial
theorem CQ(s:Ub)(j:Nat):sr (gY s j):=by
 unfold gY sr
 split
 .rename_i I
  split
  .rename_i J
   have:=Hn (s.extract j (gV GE s j)).data.toList;refine⟨this.1,this.2.1,λh=>absurd h this.2.2,λ_=>?_⟩;have U:=pR GE s (j+1);rw[<-oy GE s j I J] at U;obtain⟨r,hr⟩:=Cq s j (gV GE s j) I zo;show(s.extract j (gV GE s j)).data.toList≠[40];rw[hr];intro e;have:s[j]=40:=za;rw[this] at J;trivial
  split
  .rename_i hd
   refine⟨zp,λh=>absurd (show 4<=3 from h) zo,λ_=>⟨s[j],mS s j I,hd⟩,λ_=>?_⟩;show(s.extract j (j+1)).data.toList≠[40];rw[mS s j I];intro e;simp_all
  split
  .split
   .exact⟨zp,λ_=>rfl,λh=>absurd (show 14=3 from h) zo,λh=>absurd (show 14<=3 from h) zo⟩
   have:=yR s[j]
   grind[mS,Dy]
  have:=yR s[j]
  grind[mS,Dy]
 simp
def vN(s:Ub):∀n i,∀t∈jr s n i,sr t:=by intro I;induction I<;>grind[mq,CQ,oC,jr,gY,gV,iy]
def AA(s:Ub):∀n i,i<=s.size->s.size<n+i->R8 (jr s n i)
 |0,i,h,h'=>zo
 |n+1,i,h,h'=>by
  by_cases hk:(gY s (gV iy s i)).k<=1
  .rw[mq s n i hk];exact hk
  rw[oC s n i hk];have I:=sN h hk;have:=AA s n _ I.2 zo;cases hr:jr s n ((gY s (gV iy s i)).p+(gY s (gV iy s i)).s.size) with
  |nil=>rw[hr] at this;exact absurd this id
  |cons u r=>rw[hr] at this;exact⟨zo,this⟩
def rm(s:Ub):∀n i,i<=s.size->(jr s n i).length+i<=s.size+1
 |0,i,h=>by simp[jr];omega
 |n+1,i,h=>by
  by_cases hk:(gY s (gV iy s i)).k<=1
  .grind[mq]
  rw[oC s n i hk];have I:=sN h hk;have:=rm s n _ I.2;simp;omega
structure Rl where
 pl:Nat
 call:Bool
 word:Tk
 args:TY
 fin:Nat
 f:Fm
abbrev T6:=List Rl
def lg(l:TY):Tk:=match l with|[]=>⟨0,ByteArray.empty,0⟩|t::_=>t
def vz:Tk:=⟨0,ByteArray.empty,0⟩
def gZ(l : TY) : Except Nat (Rl × TY) :=
  if gF l = 2 /\ gF l.tail = 18 then
    (if gF l.tail.tail = 2 then
      (if gF l.tail.tail.tail = 20 then
        (if gF l.tail.tail.tail.tail = 2 \/ gF l.tail.tail.tail.tail = 3 then
          (if gF l.tail.tail.tail.tail.tail = 19 then .ok (⟨0,true,lg l,[lg l.tail.tail,lg l.tail.tail.tail.tail],ig l.tail.tail.tail.tail.tail,.nil⟩,l.tail.tail.tail.tail.tail.tail)
           else .error (ig l.tail.tail.tail.tail.tail))
         else .error (ig l.tail.tail.tail.tail))
       else if gF l.tail.tail.tail = 19 then .ok (⟨0,true,lg l,[lg l.tail.tail],ig l.tail.tail.tail,.nil⟩,l.tail.tail.tail.tail)
       else .error (ig l.tail.tail.tail))
     else .error (ig l.tail.tail))
  else (match pf (6*l.length + 5) 0 .nil l with
    |.error q =>.error q
    |.ok (f,l1) =>.ok (⟨0,false,vz,[],0,f⟩,l1))
def iZ : Nat -> TY -> Except Nat (TY × TY)
  |0,l =>.error (ig l)
  |n + 1,l =>if gF l = 2 then
      (if gF l.tail = 20 then (match iZ n l.tail.tail with | .error q =>.error q | .ok (ts,l1) =>.ok (lg l :: ts,l1))
       else .ok ([lg l],l.tail))
    else .error (ig l)
def iR:Nat->TY->Except Nat (T6)
 |0,l=>.error (ig l)
 |n+1,l=>if gF l=0 then .ok []
  else if gF l=5 then (match gZ l.tail with
   |.error q=>.error q
   |.ok (r,l1)=>if gF l1=21 then (match iR n l1.tail with| .error q=>.error q| .ok rs=>.ok ({r with pl:=ig l}::rs)) else .error (ig l1))
  else .error (ig l)
def ie(l:TY):Except Nat (TY × T6):=
 if gF l=4 then (match iZ l.length l.tail with
  |.error q=>.error q
  |.ok (aZ,l1)=>if gF l1=21 then (match iR l1.length l1.tail with| .error q=>.error q| .ok rs=>.ok (aZ,rs)) else .error (ig l1))
 else .error (ig l)
def Se(x:T3)(p e:Nat):T3:=if x.2=0\/p<x.1\/(p=x.1/\e<x.2) then (p,e) else x
def Fr(x:T3)(l:List (T3)):T3:=l.foldl (λx f=>Se x f.1 f.2) x
theorem jX(x:T3)(l m:List (T3)):Fr x (l++m)=Fr (Fr x l) m:=V'
def iB(al:TY)(s:Ub):Bool:=
 match al with
 |[]=>false
 |t::r=>if t.s.toList=s.toList then true else iB r s
def iW(al:TY)(s:Ub)(p:Nat):List (T3):=(if 8<s.size then [(p,1)] else [])++(if iB al s=true then [] else [(p,3)])
def qx(al:TY):Fm->List (T3)
 |.nil=>[]
 |.node _ _ a l r=>(if a.1=0 then iW al a.2.1 a.2.2 else [])++(qx al l++qx al r)
def gW(l:T9):Nat:=
 if l=[105,110,105,116] then 0 else if l=[108,97,115,116] then 1 else if l=[115,111,109,101] then 2 else if l=[102,101,119] then 3 else
 if l=[114,101,115,112,111,110,115,101] then 4 else if l=[112,114,101,99,101,100,101] then 5 else if l=[99,104,97,105,110] then 6 else if l=[98,101,102,111,114,101] then 7 else
 if l=[119,105,116,104] then 8 else if l=[97,112,97,114,116] then 9 else if l=[110,101,118,101,114] then 10 else if l=[110,111,116,110,101,120,116] then 11 else 12
def iD(k:Nat):T9:=if k<=1 then [110] else if k<=3 then [110,100] else if k<=11 then [110,110] else []
def ia(s:Ub):Fm:=leaf 0 s 0
def me(a:Ub):Nat->Fm
 |0=>one 7 (ia a)
 |1=>one 7 (ia a)
 |n+2=>one 7 (two 10 (ia a) (one 5 (me a (n+1))))
def jg(k:Nat)(a b:Ub)(n:Nat):Fm:=
 if k=0 then ia a
 else if k=1 then one 7 (two 10 (ia a) (one 4 (one 5 (leaf 1 ByteArray.empty 0))))
 else if k=2 then me a n
 else if k=3 then one 4 (me a n)
 else if k=4 then one 8 (two 12 (ia a) (one 7 (ia b)))
 else if k=5 then two 11 (two 9 (one 4 (ia b)) (ia a)) (one 8 (one 4 (ia b)))
 else if k=6 then one 8 (two 12 (ia a) (one 5 (ia b)))
 else if k=7 then two 10 (one 4 (ia b)) (one 8 (two 12 (one 5 (ia b)) (ia a)))
 else if k=8 then two 12 (one 7 (ia a)) (one 7 (ia b))
 else if k=9 then one 4 (two 10 (one 7 (ia a)) (one 7 (ia b)))
 else if k=10 then one 8 (two 12 (ia a) (one 6 (one 8 (one 4 (ia b)))))
 else one 8 (two 12 (ia a) (one 4 (one 5 (ia b))))
def gI:Fm->Nat
 |.nil=>0
 |.node _ _ _ l r=>1+gI l+gI r
def iN(kinds:T9)(t:Tk):Bool:=
 match kinds with
 |[]=>true
 |c::_=>if t.k=2 then !(c.toNat==110) else if c.toNat=100 then (match t.s.data.toList with|d::_=>decide (d.toNat<49)||decide (51<d.toNat)|[]=>false) else true
def q9(al:TY)(kinds:T9)(t:Tk):List (T3):=(if t.k=2 then iW al t.s t.p else [])++(if iN kinds t=true then [(t.p,4)] else [])
def Pa(al:TY):T9->TY->List (T3)
 |_,[]=>[]
 |kinds,t::r=>q9 al kinds t++Pa al kinds.tail r
def nj(al:TY)(r:Rl):List (T3):=
 (if 8<r.word.s.size then [(r.word.p,1)] else [])++((if gW r.word.s.toList<=11 then [] else [(r.word.p,3)])++(Pa al (iD (gW r.word.s.toList)) r.args++(if r.args.length<(iD (gW r.word.s.toList)).length then [(r.fin,4)] else [])))
end Go.Proofs.YtidakhhekofkoaaGreatDoor
namespace Go.Proofs
attribute [local go_sem] TT TU TV XL
attribute [local simp] TT TU TV XL
open Go.Shelf
open Value renaming slice->xa,int->xd,string->xj,pointer->xk,bool->xn
open IntKind renaming i64->xh
open Obj renaming cells->xi
open Ending renaming returned->xm
def Tryz.lays110_ren:Go.Shelf.Ren:=⟨λ|110=>77|109=>123|n=>n,λ|31=>25|9=>9|4=>4|3=>3|0=>0|n=>n,λ|n=>n⟩
def Tryz.lays110:Go.Proofs.Lays.n110 Tryz.prog Tryz.lays110_ren:={
 mixed:=by kernel_rfl
 f109:=Tryz.func123.trans (congrArg some (by kernel_rfl))
 f110:=Tryz.func77.trans (congrArg some (by kernel_rfl))
 t0:=VQ
 a0:=WH
 z0:=Ws
 v0:=VU
 t3:=VD
 a3:=Wf
 z3:=V7
 v3:=VI
 t4:=VC
 a4:=We
 z4:=V6
 v4:=VH
 t9:=Vq
 a9:=VZ
 z9:=VR
 v9:=Vw
 t31:=WE
 a31:=Tryz.isAgg25
 z31:=Xt
 v31:=WL}
open Go.Lib in
def Tryz.slices_Contains_string(b off n c:Nat)(zs:TZ)(x:Ub)(w:Uc)(J:n<=zs.length)(I:n<=9223372036854775807)(hc:∀j,j<zs.length->w.cell? (TU b (off+j))=some (xj (zs.getD j ByteArray.empty))):
  Calls Tryz.prog 77 #[xa (some (TU b off)) n c,xj x] w λe w'=>e=xm (xn (Lib.containsS (zs.take n) x))/\w'=w:=Any.slices_Contains_string Tryz.lays110 b off n c zs x w J I hc
def Tryz.laysNm216_ren:Go.Shelf.Ren:=⟨λ|16=>82|n=>n,λ|24=>25|9=>9|4=>4|n=>n,λ|n=>n⟩
def Tryz.laysNm216:Go.Proofs.Lays2.n16 Tryz.prog Tryz.laysNm216_ren:={
 mixed:=by kernel_rfl
 f16:=Tryz.func82.trans (congrArg some (by kernel_rfl))
 t4:=VC
 a4:=We
 z4:=V6
 v4:=VH
 t9:=Vq
 a9:=VZ
 z9:=VR
 v9:=Vw
 t24:=WE
 a24:=Tryz.isAgg25
 z24:=Xt
 v24:=WL
 i9:=by kernel_rfl}
open Go.RowKit Go.Lib in
def Tryz.slices_Clone_string(b off n c:Nat)(zs:TZ)(w:Uc)(U:n<=zs.length)(I:n*16<=140737488355328)(hc:∀j,j<zs.length->w.cell? (TU b (off+j))=some (xj (zs.getD j ByteArray.empty))):
  Calls Tryz.prog 82 #[xa (some (TU b off)) n c] w λe w'=>∃J,e=xm J/\w'.ownsRow w.heap.size 9 1 J n ((zs.take n).map (xj))/\J≠ TV/\XL w w':=Any.slices_Clone_string Tryz.laysNm216 b off n c zs w U I hc
def Tryz.lays169_ren:Go.Shelf.Ren:=⟨λ|169=>76|n=>n,λ|70=>134|9=>9|0=>0|72=>136|37=>51|127=>210|3=>3|5=>5|n=>n,λ|n=>n⟩
def Tryz.lays169:Go.Proofs.Lays.n169 Tryz.prog Tryz.lays169_ren:={
 mixed:=by kernel_rfl
 f169:=Tryz.func76.trans (congrArg some (by kernel_rfl))
 t0:=VQ
 a0:=WH
 z0:=Ws
 v0:=VU
 t3:=VD
 a3:=Wf
 z3:=V7
 v3:=VI
 t9:=Vq
 a9:=VZ
 z9:=VR
 v9:=Vw
 t37:=WD
 a37:=Tryz.isAgg51
 z37:=Xs
 v37:=WK
 t70:=Tryz.underlying134
 a70:=Tryz.isAgg134
 z70:=Tryz.sizeOf134
 v70:=Tryz.zeroValue134
 t72:=Tryz.underlying136
 a72:=Tryz.isAgg136
 z72:=Tryz.sizeOf136
 v72:=Tryz.zeroValue136
 t127:=Xw
 a127:=Tryz.isAgg210
 z127:=Tryz.sizeOf210
 v127:=Tryz.zeroValue210}
def Tryz.Builder_Extra_169:Builder.Extra Tryz.prog Tryz.lays169_ren:={
 sizeBuilder:=by kernel_rfl
 liesBuilder:=by kernel_rfl
 t5:=VP
 a5:=WG
 z5:=Wr
 v5:=VT
 infoByte:=by kernel_rfl
 cellsByte:=by kernel_rfl
 sizeByte:=by kernel_rfl
 neB5:=by decide}
open Go.RowKit in
def Tryz.Builder_String_any(B b:Nat)(l:T9)(w:Uc)(h:Lib.IsBuilder 136 5 B b (Lib.byteCells l) w)(I:B<=w.heap.size):
  Calls Tryz.prog 76 #[xk (TT b)] w λe w'=>e=xm (xj ⟨l.toArray⟩)/\Below B w w':=Any.Builder_String_any Tryz.lays169 Tryz.Builder_Extra_169 B b l w h I
def Tryz.lays156_ren:Go.Shelf.Ren:=⟨λ|156=>74|165=>121|166=>73|169=>76|240=>120|241=>165|276=>164|277=>196|n=>n,λ|31=>25|9=>9|3=>3|4=>4|0=>0|20=>20|72=>136|76=>139|70=>134|37=>51|75=>138|127=>210|164=>271|5=>5|80=>83|n=>n,λ|n=>n⟩
def Tryz.lays156:Go.Proofs.Lays.n156 Tryz.prog Tryz.lays156_ren:={
 mixed:=by kernel_rfl
 f156:=Tryz.func74.trans (congrArg some (by kernel_rfl))
 f165:=Tryz.func121.trans (congrArg some (by kernel_rfl))
 f166:=Tryz.func73.trans (congrArg some (by kernel_rfl))
 f169:=Tryz.func76.trans (congrArg some (by kernel_rfl))
 f240:=Tryz.func120.trans (congrArg some (by kernel_rfl))
 f241:=Tryz.func165.trans (congrArg some (by kernel_rfl))
 f276:=Tryz.func164.trans (congrArg some (by kernel_rfl))
 f277:=Tryz.func196.trans (congrArg some (by kernel_rfl))
 t0:=VQ
 a0:=WH
 z0:=Ws
 v0:=VU
 t3:=VD
 a3:=Wf
 z3:=V7
 v3:=VI
 t4:=VC
 a4:=We
 z4:=V6
 v4:=VH
 t9:=Vq
 a9:=VZ
 z9:=VR
 v9:=Vw
 t20:=Tryz.underlying20
 a20:=Tryz.isAgg20
 z20:=Tryz.sizeOf20
 v20:=Tryz.zeroValue20
 t31:=WE
 a31:=Tryz.isAgg25
 z31:=Xt
 v31:=WL
 t37:=WD
 a37:=Tryz.isAgg51
 z37:=Xs
 v37:=WK
 t70:=Tryz.underlying134
 a70:=Tryz.isAgg134
 z70:=Tryz.sizeOf134
 v70:=Tryz.zeroValue134
 t72:=Tryz.underlying136
 a72:=Tryz.isAgg136
 z72:=Tryz.sizeOf136
 v72:=Tryz.zeroValue136
 t75:=Tryz.underlying138
 a75:=Tryz.isAgg138
 z75:=Tryz.sizeOf138
 v75:=Tryz.zeroValue138
 t76:=Tryz.underlying139
 a76:=Tryz.isAgg139
 z76:=Tryz.sizeOf139
 v76:=Tryz.zeroValue139
 t127:=Xw
 a127:=Tryz.isAgg210
 z127:=Tryz.sizeOf210
 v127:=Tryz.zeroValue210
 t164:=Tryz.underlying271
 a164:=Tryz.isAgg271
 z164:=Tryz.sizeOf271
 v164:=Tryz.zeroValue271}
def Tryz.Builder_Extra_156:Builder.Extra Tryz.prog Tryz.lays156_ren:={
 sizeBuilder:=by kernel_rfl
 liesBuilder:=by kernel_rfl
 t5:=VP
 a5:=WG
 z5:=Wr
 v5:=VT
 infoByte:=by kernel_rfl
 cellsByte:=by kernel_rfl
 sizeByte:=by kernel_rfl
 neB5:=by decide}
open Go.RowKit in
def Tryz.strings_Join(bk o c:Nat)(xs:TZ)(sep:Ub)(w:Uc)(I:∀(j:Nat) x,xs[j]?=some x->w.cell? (TU bk (o+j))=some (xj x))(aa:bk<w.heap.size)(hN:xs.length<=140737488355328)(J:xs.length<=c)(U:(Lib.join (xs.map (·.data.toList)) sep.data.toList).length<=140737488355328):
  Calls Tryz.prog 74 #[xa (some (TU bk o)) xs.length c,xj sep] w λe w'=>e=xm (xj ⟨(Lib.join (xs.map (·.data.toList)) sep.data.toList).toArray⟩)/\XL w w':=Any.strings_Join Tryz.lays156 Tryz.Builder_Extra_156 bk o c xs sep w I aa hN J U
end Go.Proofs
namespace Go.Proofs.YtidakhhekofkoaaGreatDoor
attribute [local go_sem] TT TU TV XL
attribute [local simp] TT TU TV XL
open Go.RowKit
open Value renaming slice->xa,int->xd,string->xj,pointer->xk,bool->xn
open IntKind renaming i64->xh
open Obj renaming cells->xi
open Ending renaming returned->xm
variable{w w':Uc}{i b pb cap:Nat}{t u:Tk}{a p:Int}{m:T3}{o:Obj}{L r:TY}{bad:Bool}{f:Fm}{vf vg:TX}
def oZ{c:UInt8}:
  Calls Tryz.prog 186 #[xd .u8 (c.toNat:Int)] w λe w'=>e=xm (xn (GE c))/\w'=w:=by
 by_cases h:(97:Int)<=(c.toNat:Int)
 all_goals
  go_in;go_wp2;go_ret
 .refine⟨ja ?_,rfl⟩;have I:97<=c.toNat:=zo;simp only[GE,I,decide_true,VL];rw[decide_eq_decide];omega
 .refine⟨ja ?_,rfl⟩;have I:¬ 97<=c.toNat:=zo;simp[GE,I]
def xU(s:Ub)(w:Uc):
  Calls Tryz.prog 185 #[xj s] w λe w'=>e=xm (xn (Q7 s.data.toList))/\w'=w:=by
 rw[<-Ui];go_in;go_wp2
 all_goals (go_ret;exact⟨by simp[Q7,Bool.or_assoc, *],rfl⟩)
def y7{s:Ub}{c:UInt8}(hs:s.size<=maxLen):
  Calls Tryz.prog 279 #[xj s,xd .u8 (c.toNat:Int)] w λe w'=>e=xm (xn (lX s.data.toList c))/\w'=w:=by
 unfold maxLen at hs;go_in;go_wp2
 go_loop [5] (λi=>∃k:Nat,k<=s.size/\i=xd xh k/\Hid (lX s.data.toList c=lX (s.data.toList.drop k) c)) (λi=>s.size-(intOf i).toNat)
 .exact zm65
 obtain⟨k,hk,rfl,H⟩:=hrel;by_cases hlt:k<s.size
 .go_wp2
  .go_ret;have e:((s[k].toNat:Int)==(c.toNat:Int))=true:=by assumption
   exact⟨ja (by rw[H.out,KS s c k hlt (by have:=eq_of_beq e;omega)]),rfl⟩
  have e:((s[k].toNat:Int)==(c.toNat:Int))=false:=by assumption
  go_round
  .exact⟨k+1,zo,zf,H.out.trans (Nt s c k hlt (by have:=ne_of_beq_false e;omega))⟩
  simp[intOf];omega
 go_wp2;go_ret;exact⟨ja (by rw[H.out,KR s c k zo]),rfl⟩
def gR(k:Nat):Int:=if k=0 then 101 else if k=1 then 63 else if k=2 then 110 else if k=3 then 100 else if k<=8 then 119 else 111
def ki(t:Tk):Ud:=.agg #[xd .u8 (gR t.k),xj t.s,xd xh t.p]
def Js{k:Nat}(h:4<=k/\k<=8):gR k=119:=by unfold gR;omega
def Jr{k:Nat}(h:9<=k):gR k=111:=by unfold gR;omega
def rL{s:Ub}{k:Nat}(I:Hid (gV iy s i=k))(h:gY s k=t){b:Ub}(J:gR t.k=a)(U:t.s=b)(hp:(t.p:Int)=p):
  xm (.agg #[xd .u8 a,xj b,xd xh p])=xm (ki (gY s (gV iy s i))):=by
 rw[I.out,h,ki,J,U,hp]
def JQ(s:Ub)(i:Nat)(hs:s.size<=maxLen)(hi:i<=s.size):Calls Tryz.prog 244 #[xj s,xd xh i] w λe w'=>e=xm (ki (gY s (gV iy s i)))/\XL w w':=by
 unfold maxLen at hs;have fin:∀c1:T1,XL w (w.alloc (xi c1 232)):=λc1=>gC
 have I:=fy fin;clear fin;go_in;go_wp2_with fail
 go_loop [1] (λx=>∃k:Nat,k<=s.size/\x=xd xh k/\Hid (gV iy s i=gV iy s k)) (λx=>s.size-(intOf x).toNat)
 .exact⟨i,hi,rfl,rfl⟩
 obtain⟨k,hk,rfl,H⟩:=hrel;by_cases hlt:k<s.size
 .by_cases hb:iy s[k]=true
  .have HB:=fy hb;clear hb;go_wp2_with fail
   rotate_right
   .exfalso;have h1:(((s[k].toNat:Int)==32)=false/\((s[k].toNat:Int)==9)=false)/\((s[k].toNat:Int)==10)=false:=by assumption
    have:=HB.out;simp only[iy,Bool.or_eq_true,VE,V3] at this h1;omega
   all_goals
    go_round
    case rel=>exact⟨k+1,zo,zf,H.out.trans (oy iy s k hlt HB.out)⟩
    case measure=>simp[intOf];omega
  have hb':iy s[k]=false:=za;have h32:((s[k].toNat:Int)==32)=false:=by
   exact zm48
  have h9:((s[k].toNat:Int)==9)=false:=by
   exact zm48
  have h10:((s[k].toNat:Int)==10)=false:=by
   exact zm48
  have hz:((k:Int)==(s.size:Int))=false:=V3.2 zo;have U:=fy (H.out.trans (qP iy s k hlt hb'));clear hb hb' H;go_wp2_with fail
  go_loop [5] (λx=>∃j:Nat,k<=j/\j<=s.size/\x=xd xh j/\Hid (gV GE s k=gV GE s j)) (λx=>s.size-(intOf x).toNat)
  .exact⟨k,XH,zo,rfl,rfl⟩
  obtain⟨j,hj1,hj2,rfl,HJ⟩:=hrel;by_cases hgo:∃h:j<s.size,GE s[j]=true
  .obtain⟨J,hl⟩:=hgo
   go_wp2_with (refine(oZ).mono ?_;rintro e w' ⟨rfl,rfl⟩)
   go_round
   .exact⟨j+1,zo,zo,zf,HJ.out.trans (oy GE s j J hl)⟩
   simp[intOf];omega
  have hJ:gV GE s k=j:=by
   refine HJ.out.trans ?_;by_cases J:j<s.size
   .exact qP GE s j J za
   exact tQ GE zo
  have ad:=fy hJ;have HG:=fy hgo;clear hJ HJ hgo;have hg:∀h:j<s.size,GE s[j]=false:=λh=>by cases hl:GE s[j] with|false=>rfl|true=>exact absurd ⟨h,hl⟩ HG.out
  clear HG;by_cases hkj:k<j
  .have HN:Hid (gY s k=⟨jC (s.extract k j).data.toList,s.extract k j,k⟩):=by
    have:=CV hlt (DJ hlt (by rw[ad.out];omega))
    rwa [ad.out] at this
   by_cases hw:Q7 (s.extract k j).data.toList=true
   .have HW:=fy hw;clear hw;by_cases J:j<s.size
    all_goals
     go_wp2_with (first|(refine(oZ).mono ?_;rintro e w' ⟨rfl,rfl⟩)|(refine(xU _ _).mono ?_;rintro e w' ⟨rfl,rfl⟩;rw[HW.out]))
     exact py (v:=.agg #[xd .u8 119,xj (s.extract k j),xd xh (k:Int)]) (by simp[results,VJ,go_sem]) rfl ⟨rL U HN.out (Js (y8 HW.out)) rfl rfl,I.out _⟩
   have ai:Q7 (s.extract k j).data.toList=false:=za;have HW:=fy ai;clear hw ai;by_cases J:j<s.size
   all_goals
    go_wp2_with (first|(refine(oZ).mono ?_;rintro e w' ⟨rfl,rfl⟩)|(refine(xU _ _).mono ?_;rintro e w' ⟨rfl,rfl⟩;rw[HW.out]))
    exact py (v:=.agg #[xd .u8 110,xj (s.extract k j),xd xh (k:Int)]) (by simp[results,VJ,go_sem]) rfl ⟨rL U HN.out (by rw[Hm HW.out];rfl) rfl rfl,I.out _⟩
  have ak:j=k:=zo;subst ak;have hl:=hg hlt;have HL:=fy hl
  go_wp2_with (first|(refine(oZ).mono ?_;rintro e w' ⟨rfl,rfl⟩)|(refine(y7 zd).mono ?_;rintro e w' ⟨rfl,rfl⟩))
  all_goals first
   |(have h1:(48:Int)<=(s[j].toNat:Int):=(by assumption);have h2:(s[j].toNat:Int)<=57:=(by assumption);exact py (v:=.agg #[xd .u8 100,xj (s.extract j (j+1)),xd xh (j:Int)]) (by simp[results,VJ,go_sem]) rfl ⟨rL U (AD hlt zo zo) rfl rfl rfl,I.out _⟩)
   |(have h1:((s[j+1].toNat:Int)==62)=true:=(by assumption);exact py (v:=.agg #[xd .u8 111,xj ⟨#[45,62]⟩,xd xh (j:Int)]) (by simp[results,VJ,go_sem]) rfl ⟨rL U (AB hlt zo zo (by have:=eq_of_beq h1;omega)) rfl rfl rfl,I.out _⟩)
   |(have h1:lX [88,78,70,71,85,124,38,33,40,41,44,59] s[j]=true:=(by assumption);have hn:=xB hlt HL.out zo (by rintro⟨a,h2,b⟩;first|omega|simp_all);exact py (v:=.agg #[xd .u8 111,xj (s.extract j (j+1)),xd xh (j:Int)]) (by simp[results,VJ,go_sem]) rfl ⟨rL U hn (Jr (Jz h1)) rfl rfl,I.out _⟩)
   |(have h1:lX [88,78,70,71,85,124,38,33,40,41,44,59] s[j]=false:=(by assumption);have hn:=xB hlt HL.out zo (by rintro⟨a,h2,b⟩;first|omega|simp_all);exact py (v:=.agg #[xd .u8 63,xj (s.extract j (j+1)),xd xh (j:Int)]) (by simp[results,VJ,go_sem]) rfl ⟨rL U hn (by rw[Ep h1];rfl) rfl rfl,I.out _⟩)
 have hz:((k:Int)==(s.size:Int))=true:=VE.2 zo;have U:=fy (H.out.trans (tQ iy zo));clear H;go_wp2_with fail;exact py (v:=.agg #[xd .u8 101,xj ⟨#[]⟩,xd xh (k:Int)]) (by simp[results,VJ,go_sem]) rfl ⟨rL U (E8 s k zo) rfl rfl za,I.out _⟩
def iP(L:TY):TW:=L.flatMap λt=>[xd .u8 (gR t.k),xj t.s,xd xh t.p]
def uk(L:TY)(t:Tk):iP (L++[t])=iP L++[xd .u8 (gR t.k),xj t.s,xd xh t.p]:=by
 simp[iP]
def Tryz.infoTok:(Tryz.prog.info? 232).map (λi=>(i.zero,i.size,i.bytes))=some (some (.agg #[xd .u8 0,xj ⟨#[]⟩,xd xh 0]),3,32):=zk
def rI(k:Nat):(gR k==101)=decide (k=0):=by
 unfold gR;repeat' split
 all_goals simp_all
def yJ(k:Nat):(gR k==63)=decide (k=1):=by
 unfold gR;repeat' split
 all_goals simp_all
def FR(s:Ub)(w:Uc)(hs:s.size<=400):
  Calls Tryz.prog 199 #[xj s] w λe w'=>∃v,e=xm v/\w'.ownsRow w.heap.size 232 3 v (jr s (s.size+1) 0).length (iP (jr s (s.size+1) 0))/\XL w w':=by
 have ar:s.size<=maxLen:=by unfold maxLen;omega
 obtain⟨i0,hi,av,aw,ax⟩:=Uk Tryz.infoTok;go_in;go_wp2
 go_loopw [3,4] (λv x wr=>∃(k n:Nat)(acc:TY),k<=s.size/\s.size<n+k/\acc.length<=k/\x=xd xh k/\Hid (jr s (s.size+1) 0=acc++jr s n k)/\
   wr.ownsRow w.heap.size 232 3 v acc.length (iP acc)/\XL w wr) (λ_ x _=>s.size-(intOf x).toNat)
 .exact zm147
 obtain⟨k,n,acc,hk,hn,hacc,rfl,H,ag,I⟩:=hrel
 go_wp2_with (refine(JQ s k ar hk).mono ?_)
 rintro e w1 ⟨rfl,ad⟩;have U:=sN hk;have aj:=mq s (n-1) k;have an:=oC s (n-1) k;generalize gY s (gV iy s k)=t at *;have HA:=fy U;have HS:=fy aj;have HG:=fy an;clear U aj an;simp only[ki]
 go_wp2_with (at_builtin;go_must (refine U0 _ rfl _ _ 225 rfl w.heap.size 232 i0 (.agg #[xd .u8 0,xj ⟨#[]⟩,xd xh 0]) 3 32 Tryz.underlying225 hi av aw ax rfl zd _ acc.length (iP acc) rfl ?c0 (TU (w1.heap.size+1) 0) 1 1 [xd .u8 (gR t.k),xj t.s,xd xh t.p] rfl rfl ?c1 ?c2 ?c3 ?c4 ?c5 ?_))
 case c0=>exact((gq ag ad).alloc _).alloc _
 case c1=>
  intro j u hj
  match j,hj with
  |0,hj=>simp at hj;subst hj;simp[Addr.add]
  |1,hj=>simp at hj;subst hj;simp[Addr.add]
  |2,hj=>simp at hj;subst hj;simp[Addr.add]
  |j+3,hj=>simp at hj
 case c2=>intro u hu;simp at hu;rcases hu with rfl|rfl|rfl<;>rfl
 case c3=>unfold maxLen;omega
 case c4=>omega
 case c5=>have:=I.size;have:=ad.size;simp;omega
 intro v' w2 ai J _;have ae:=gJ ag;have au:=ad.size;have hc0:w2.cell? (TU w1.heap.size 0)=some (xd .u8 (gR t.k)):=(te J zs (λk hk=>by have:=ae k hk;omega) 0).trans zp;have hc1:w2.cell? (TU w1.heap.size 1)=some (xj t.s):=(te J zs (λk hk=>by have:=ae k hk;omega) 1).trans zp;have hc2:w2.cell? (TU w1.heap.size 2)=some (xd xh t.p):=(te J zs (λk hk=>by have:=ae k hk;omega) 2).trans zp;have HB2:=((((I.trans (ad.mono I.size)).alloc (by have:=I.size;omega) _).alloc (by have:=I.size;simp;omega) _).grown J (by have:=I.size;simp;omega) (λk hk=>(ae k hk).1));have HO2:Hid (w2.ownsRow w.heap.size 232 3 v' (acc++[t]).length (iP (acc++[t]))):=by
  rw[uk,Ur];exact ai
 have ao:n-1+1=n:=zo;rw[ao] at HS HG;clear ai J ag ae ao ad I au;by_cases h0:t.k<=1
 .have HR:Hid (jr s (s.size+1) 0=acc++[t]):=by rw[H.out,HS.out h0];rfl
  by_cases h00:t.k=0
  .have e1:(gR t.k==101)=true:=by rw[rI];simp_all
   clear h00 h0;exact zm132
  have e1:(gR t.k==101)=false:=by rw[rI];simp_all
  have e2:(gR t.k==63)=true:=by rw[yJ];simp;omega
  clear h00 h0;exact zm132
 have HR:Hid (jr s (s.size+1) 0=(acc++[t])++jr s (n-1) (t.p+t.s.size)):=by show _=_;rw[H.out,HG.out h0];simp
 have U:=HA.out h0;have e1:(gR t.k==101)=false:=by rw[rI];simp;omega
 have e2:(gR t.k==63)=false:=by rw[yJ];simp;omega
 clear h0;go_wp2
 go_roundw
 .exact⟨t.p+t.s.size,n-1,acc++[t],U.2,zo,zs,zf,HR.out,HO2.out,HB2⟩
 simp[intOf];omega
def P9:MemPlace->Nat
 |.cell b off=>b*128+off
 |.map b=>b*128+127
def yv:Nat->T5->Bool
 |_,[]=>true
 |acc,k::r=>Nat.beq (Nat.land acc (2^k)) 0&&yv (Nat.lor acc (2^k)) r
def Ax:∀(l:T5)(acc:Nat),yv acc l=true->l.Nodup/\∀k∈l,acc.testBit k=false
 |[],_,_=>⟨List.Pairwise.nil,λk J=>(US J).elim⟩
 |k::r,acc,h=>by
  rw[yv,Vu] at h;obtain⟨h1,h2⟩:=h;obtain⟨h3,h4⟩:=Ax r _ h2;have J:acc.testBit k=false:=by
   have e:=Nat.eq_of_beq_eq_true h1;have U:(acc&&&2^k).testBit k=(0:Nat).testBit k:=congrArg (λx=>x.testBit k) e;rw[Nat.testBit_and,Xv,XA,Nat.zero_testBit] at U;omega
  have h5:∀x∈r,(acc|||2^k).testBit x=false:=h4;refine⟨List.Pairwise.cons (λx I e=>?_) h3,λx I=>?_⟩
  .have:=h5 x I;rw[<-e,Nat.testBit_or,Xv,Bool.or_true] at this;trivial
  rcases List.mem_cons.1 I with rfl|I
  .omega
  simp_all
def D5{P:Program}{l:List (String × DataW Unit)}(fuel:Nat)(h:(DataW.laidRun P w fuel (l.map (·.1))).map (·.1)=some l)
  (hr:(DataW.laidRun P w fuel (l.map (·.1))).map (λx=>yv 0 (x.2.map P9)&&laidRowsB P w x.2)=some true):laidMet P l w:=by
 cases hx:DataW.laidRun P w fuel (l.map (·.1)) with
 |none=>simp[hx] at h
 |some x=>
  obtain⟨l',ps⟩:=x;simp only[hx,Xf,Option.some.injEq] at h hr;subst h;simp only[Vu] at hr;have hn:ps.Nodup:=by
   have:=(Ax _ _ hr.1).1;exact List.Pairwise.imp (λ{a b} hab e=>hab (by rw[e])) (List.pairwise_map.1 this)
  exact laidMet_of_run fuel hx (UH hn) hr.2
open Go.Deep
structure PS(w:Uc)(pb g cap:Nat)(L:TY)(i:Nat)(bad:Bool):Prop where
 blk:w.heap[pb]?=some (xi #[xa (TT g) L.length cap,xd xh i,xn bad] 325 (0,0))
 row:∃cur,w.heap[g]?=some (xi cur 232 (0,0))/\cur.toList.take (L.length*3)=iP L
 le:L.length<=cap
 capLe:cap<=maxLen
 len:L.length<=401
 lt:i<L.length
 ends:R8 (L.drop i)
 ok:∀t∈L,sr t
theorem EQ{ty:Nat}{c:T1}(h:w.heap[b]?=some (xi c ty m))(o:Nat):w.cell? (TU b o)=c[o]? :=by
 simp[World.cell?,h]
theorem gh{ty:Nat}{c:T1}(h:w.heap[b]?=some (xi c ty (0,0)))(o:Nat):w.frozen? (TU b o)=false:=by
 simp[World.frozen?,h]
def dK(h:w.heap[b]?=some o):b<w.heap.size:=by
 rcases UU b w.heap.size with h'|h'
 .omega
 simp_all
theorem gi(w:Uc)(o:Obj):(w.alloc o).heap[w.heap.size]?=some o:=by
 show(w.heap.push o)[w.heap.size]? =_;simp
def yY(L:TY)(i:Nat)(t:Tk)(r:TY)(h:L.drop i=t::r):
  (iP L)[i*3]?=some (xd .u8 (gR t.k))/\(iP L)[i*3+1]?=some (xj t.s)/\(iP L)[i*3+2]?=some (xd xh t.p):=by
 induction L generalizing i with
 |nil=>simp at h
 |cons u L ih=>
  cases i with
  |zero=>simp at h;obtain⟨rfl,rfl⟩:=h;trivial
  |succ i=>
   have:=ih i zv;have e:iP (u::L)=[xd .u8 (gR u.k),xj u.s,xd xh u.p]++iP L:=zf;rw[e];refine⟨?_,?_,?_⟩
   .rw[Uv zs];simpa [Nat.add_mul] using this.1
   .rw[Uv zs];have I:(i+1)*3+1-3=i*3+1:=zo;simp_all
   rw[Uv zs];have I:(i+1)*3+2-3=i*3+2:=zo;simp_all
def PS.cells{g:Nat}(h:PS w pb g cap L i bad):
  w.cell? (TU pb 0)=some (xa (TT g) L.length cap)/\w.cell? (TU pb 1)=some (xd xh i)/\w.cell? (TU pb 2)=some (xn bad):=by
 refine⟨?_,?_,?_⟩<;>rw[EQ h.blk]<;>rfl
def PS.tok{g:Nat}(h:PS w pb g cap L i bad)(j:Nat)(t:Tk)(r:TY)(I:L.drop j=t::r):
  w.cell? (TU g (j*3))=some (xd .u8 (gR t.k))/\w.cell? (TU g (j*3+1))=some (xj t.s)/\w.cell? (TU g (j*3+2))=some (xd xh t.p):=by
 obtain⟨cur,J,U⟩:=h.row;have h3:=yY L j t r I;have hj:j<L.length:=by
  rcases UU j L.length with h|h
  .omega
  rw[UX h] at I;cases I
 rw[<-U,U8,U8,U8,Uh zo,Uh zo,Uh zo] at h3;refine⟨?_,?_,?_⟩<;>rw[EQ J,<-UN]
 .simp_all
 .simp_all
 simp_all
def jH{g:Nat}(h:PS w pb g cap L i bad)(J:L.drop i=t::r):
  Calls Tryz.prog 201 #[xk (TT pb)] w λe w'=>e=xm (ki t)/\XL w w':=by
 obtain⟨c0,c1,c2⟩:=h.cells;obtain⟨t0,t1,t2⟩:=h.tok i t r J;have hlt:=h.lt;have hp:=dK h.blk;have hg:g<w.heap.size:=by obtain⟨cur,I,_⟩:=h.row;exact dK I
 go_in;go_wp2
 go_region
 go_wp2;exact py (v:=ki t) (by simp[results,Tryz.results201,go_sem,ki]) rfl ⟨rfl,gC.drew⟩
def pJ(h:L.drop i=t::r):t∈L:=Vk (i:=i) za
def Pw{k:Nat}(h:k<=21):((gR k==111)||(gR k==119))=decide (4<=k):=by
 unfold gR;repeat' split
 all_goals simp_all
 all_goals omega
def PS.later{g:Nat}(h:PS w pb g cap L i bad)(I:XL w w'):PS w' pb g cap L i bad:=by
 obtain⟨cur,J,U⟩:=h.row;exact⟨by rw[I.block pb (dK h.blk)];exact h.blk,⟨cur,by rw[I.block g (dK J)];omega,U⟩,h.le,h.capLe,h.len,h.lt,h.ends,h.ok⟩
def PS.ne{g:Nat}(h:PS w pb g cap L i bad):g≠pb:=by
 rintro rfl;obtain⟨cur,h1,_⟩:=h.row;have h2:=h.blk;simp_all
theorem gj{ty:Nat}{c:T1}(h:w.heap[b]?=some (xi c ty m))(o:Nat)(v:Ud):(w.setCell (TU b o) v).heap[b]?=some (xi (c.setIfInBounds o v) ty m):=by
 simp[World.setCell,WB,h]
theorem gp(w:Uc)(b o:Nat)(v:Ud):w.grownBy (w.setCell (TU b o) v) (some b):=
 ⟨rfl,rfl,rfl,zp,λk _ hk=>XE za⟩
def gE(h:XL w w')(row:Ua):w.grownBy w' row:=⟨h.os,h.tape,h.output,h.size,λk I _=>h.block k I⟩
def PS.setI{g:Nat}(h:PS w pb g cap L i bad)(J:L.drop i=t::u::r):
  PS (w.setCell (TU pb 1) (xd xh ((i:Int)+1))) pb g cap L (i+1) bad:=by
 obtain⟨cur,h1,U⟩:=h.row;have I:L.drop (i+1)=u::r:=by rw[<-Xn,J];rfl
 refine⟨?_,⟨cur,by rw[XE h.ne];omega,U⟩,h.le,h.capLe,h.len,?_,?_,h.ok⟩
 .rw[gj h.blk];simp
 .have:=congrArg List.length I;simp at this;omega
 rw[I];have:=h.ends;rw[J] at this;exact this.2
def PS.setBad{g:Nat}(h:PS w pb g cap L i bad):PS (w.setCell (TU pb 2) (xn true)) pb g cap L i true:=by
 obtain⟨cur,h1,I⟩:=h.row;refine⟨?_,⟨cur,by rw[XE h.ne];omega,I⟩,h.le,h.capLe,h.len,h.lt,h.ends,h.ok⟩;rw[gj h.blk];simp
def PS.setOther{g:Nat}(h:PS w pb g cap L i bad)(b o:Nat)(v:Ud)(I:b≠pb)(J:b≠g):PS (w.setCell (TU b o) v) pb g cap L i bad:=by
 obtain⟨cur,r1,U⟩:=h.row;exact⟨by rw[XE (Ne.symm I)];exact h.blk,⟨cur,by rw[XE (Ne.symm J)];omega,U⟩,h.le,h.capLe,h.len,h.lt,h.ends,h.ok⟩
def PS.alloc{g:Nat}(h:PS w pb g cap L i bad)(o:Obj):PS (w.alloc o) pb g cap L i bad:=h.later gC
def PS.gLt{g:Nat}(h:PS w pb g cap L i bad):g<w.heap.size:=by obtain⟨cur,I,_⟩:=h.row;exact dK I
theorem gD{row:Ua}(h:w.grownBy w' row)(hb:w.heap.size<=b)(o:Nat)(v:Ud):w.grownBy (w'.setCell (TU b o) v) row:=
 ⟨h.os,h.tape,h.output,by simpa [World.setCell] using h.size,λk I hr=>(XE (by show k≠b;omega)).trans (h.block k I hr)⟩
def gL{row:Ua}(h:w.grownBy w' row):w.grownBy (w'.alloc o) row:=h.trans (V9 _ _ _)
def re{g:Nat}(h:PS w pb g cap L i bad):
  Calls Tryz.prog 280 #[xk (TT pb)] w λe w'=>e=xm (.tuple #[])/\PS w' pb g cap L i true/\w.grownBy w' (some pb):=by
 obtain⟨c0,c1,c2⟩:=h.cells;have hf:=gh h.blk 2;have I:=h.setBad;go_in;go_wp2;go_end0;exact⟨rfl,I,gp _ _ _ _⟩
def IX{s:Ub}{k:Nat}{g:Nat}(h:PS w pb g cap L i bad)(ht:L.drop i=t::r)
  (hs:s.data.toList=lH k)(hk:4<=k)(aa:k<=21):
  Calls Tryz.prog 281 #[xk (TT pb),xj s] w λe w'=>e=xm (xn (!bad&&t.k==k))/\XL w w':=by
 have I:=h.ok t (pJ ht);have J:(!bad&&(((gR t.k==111)||(gR t.k==119))&&(t.s.toList==s.toList)))=(!bad&&t.k==k):=by
  congr 1
  rw[Pw I.1,Ui,Ui,hs];by_cases h4:4<=t.k
  .rw[I.2.1 h4];simp only[h4,decide_true,VL];rw[Vz];simp only[VE];exact⟨λe=>CI I.1 aa h4 hk e,λe=>by rw[e]⟩
  simp only[h4,decide_false,Xp];symm;rw[V3];omega
 have HR:=fy J;have HT:=fy ht;clear J I hs ht;go_in
 go_wp2_with (refine(jH h HT.out).mono ?_)
 rintro e w1 ⟨rfl,U⟩;simp only[ki];obtain⟨c0,c1,c2⟩:=(h.later U).cells;have hp1:=dK (h.later U).blk;cases bad
 .go_wp2
  all_goals
   go_ret;refine⟨ja ?_,U.alloc U.size _⟩;rw[<-HR.out];simp[*]
 go_wp2;go_ret;exact⟨rfl,U.alloc U.size _⟩
def pQ{s:Ub}{k:Nat}{g:Nat}(h:PS w pb g cap L i false)(ht:L.drop i=t::u::r)
  (hs:s.data.toList=lH k)(hk:4<=k)(U:k<=21)(e:t.k=k):
  Calls Tryz.prog 247 #[xk (TT pb),xj s] w λe w'=>e=xm (xn true)/\PS w' pb g cap L (i+1) false/\w.grownBy w' (some pb):=by
 have HT:=fy ht;have he:(t.k==k)=true:=by simp[e]
 have hlt:=h.lt;have hlen:=h.len;have J:=fy hs;clear ht e hs;go_in
 go_wp2_with (refine(IX h HT.out J.out hk U).mono ?_)
 rintro e w1 ⟨rfl,hb⟩;have I:=h.later hb;obtain⟨c0,c1,c2⟩:=I.cells;have hf:=gh I.blk 1;simp only[he,Bool.not_false,VL];go_wp2;go_ret;exact⟨rfl,I.setI HT.out,(gE hb _).trans (gp _ _ _ _)⟩
def nh{s:Ub}(k:Nat){g:Nat}(h:PS w pb g cap L i bad)(ht:L.drop i=t::r)
  (hs:s.data.toList=lH k)(hk:4<=k)(U:k<=21)(e:bad=true\/t.k≠k):
  Calls Tryz.prog 247 #[xk (TT pb),xj s] w λe w'=>e=xm (xn false)/\PS w' pb g cap L i bad/\w.grownBy w' (some pb):=by
 have HT:=fy ht;have he:(!bad&&t.k==k)=false:=by rcases e with rfl|e<;>simp[*]
 have J:=fy hs;clear ht e hs;go_in
 go_wp2_with (refine(IX h HT.out J.out hk U).mono ?_)
 rintro e w1 ⟨rfl,hb⟩;have I:=h.later hb;rw[he];go_wp2;go_ret;exact⟨rfl,I,gE hb _⟩
def xC{s:Ub}{k:Nat}{g:Nat}(h:PS w pb g cap L i false)(U:L.drop i=t::u::r)
  (hs:s.data.toList=lH k)(hk:4<=k)(J:k<=21)(e:t.k=k):
  Calls Tryz.prog 245 #[xk (TT pb),xj s] w λe w'=>e=xm (.tuple #[])/\PS w' pb g cap L (i+1) false/\w.grownBy w' (some pb):=by
 have HT:=fy U;have I:=fy hs;have HE:=fy e;clear U e hs;go_in
 go_wp2_with (refine(pQ h HT.out I.out hk J HE.out).mono ?_)
 rintro e w1 ⟨rfl,hp,hg⟩;go_wp2;go_end0;trivial
def zL{s:Ub}(k:Nat){g:Nat}(h:PS w pb g cap L i bad)(ht:L.drop i=t::r)
  (hs:s.data.toList=lH k)(hk:4<=k)(U:k<=21)(e:bad=true\/t.k≠k):
  Calls Tryz.prog 245 #[xk (TT pb),xj s] w λe w'=>e=xm (.tuple #[])/\PS w' pb g cap L i true/\w.grownBy w' (some pb):=by
 have HT:=fy ht;have I:=fy hs;have HE:=fy e;clear ht e hs;go_in
 go_wp2_with (refine(nh k h HT.out I.out hk U HE.out).mono ?_)
 rintro e w1 ⟨rfl,hp,hg⟩
 go_wp2_with (refine(re hp).mono ?_)
 rintro e w2 ⟨rfl,aa,J⟩;go_wp2;go_end0;exact⟨rfl,aa,hg.trans J⟩
def qg(k:Nat):(gR k !=110)= !(k==2):=by
 unfold gR;repeat' split
 all_goals simp_all
def C7{g:Nat}(h:PS w pb g cap L i false)(ht:L.drop i=t::u::r)(e:t.k=2):
  Calls Tryz.prog 246 #[xk (TT pb)] w λe w'=>e=xm (ki t)/\PS w' pb g cap L (i+1) false/\w.grownBy w' (some pb):=by
 have U:=fy ht;have hp:=dK h.blk;have he:(gR t.k !=110)=false:=by rw[qg];simp[e]
 have hlt:=h.lt;have hlen:=h.len;clear ht e;go_in
 go_wp2_with (refine(jH (h.later ?b) U.out).mono ?_)
 case b=>exact gC
 rintro e w1 ⟨rfl,J⟩;simp only[ki];have I:=(h.later ((XF).alloc (XH) (xi #[xd .u8 0,xj ⟨#[]⟩,xd xh 0] 232))).later J;obtain⟨c0,c1,c2⟩:=I.cells;have hf:=gh I.blk 1;have hp1:=dK I.blk;have hz:w.heap.size<w1.heap.size:=by have:=J.size;simp at this;omega
 have hrb:=(J.block _ zp).trans (gi _ _);have r0:=EQ hrb 0;have r1:=EQ hrb 1;have r2:=EQ hrb 2;have f0:=gh hrb 0;have f1:=gh hrb 1;have f2:=gh hrb 2;have HG:=gE (((Uo w.heap.size w).alloc (XH) _).trans (J.mono zp)) (some pb);simp at r0 r1 r2;clear J hrb;go_wp2;have hgl:=h.gLt;refine py (v:=ki t) ?_ rfl ⟨rfl,?_,?_⟩
 .simp[results,Tryz.results246,go_sem,ki,hz,r0,r1,r2]
 .exact((((I.setI U.out).setOther _ _ _ zo zo).setOther _ _ _ zo zo).setOther _ _ _ zo zo).alloc _
 exact gL (gD (gD (gD (HG.trans (gp _ _ _ _)) (XH) _ _) (XH) _ _) (XH) _ _)
def NO(w:Uc)(g:Nat)(L:TY)(i:Nat)(t:Tk)(r:TY)(h:PS w pb g cap L i bad)(J:L.drop i=t::r)(e:bad=true\/t.k≠2):
  Calls Tryz.prog 246 #[xk (TT pb)] w λe w'=>e=xm (ki t)/\PS w' pb g cap L i true/\w.grownBy w' (some pb):=by
 have U:=fy J;have he:bad=false->(gR t.k !=110)=true:=by intro I;rcases e with e|e<;>simp_all [qg]
 clear J e;go_in
 go_wp2_with (refine(jH (h.later ?b) U.out).mono ?_)
 case b=>exact gC
 rintro e w1 ⟨rfl,I⟩;simp only[ki];have HPS1:=(h.later ((XF).alloc (XH) (xi #[xd .u8 0,xj ⟨#[]⟩,xd xh 0] 232))).later I;obtain⟨c0,c1,c2⟩:=HPS1.cells;have hp1:=dK HPS1.blk;have hz:w.heap.size<w1.heap.size:=by have:=I.size;simp at this;omega
 have hrb:=(I.block _ zp).trans (gi _ _);have HG:=gE (((Uo w.heap.size w).alloc (XH) _).trans (I.mono zp)) (some pb);have hpne:=dK h.blk;clear I;cases bad
 .have he':=he rfl;exact zm23
 exact zm23
def EU:T1:=#[xj ⟨#[]⟩,xj ⟨#[116,114,117,101]⟩,xj ⟨#[102,97,108,115,101]⟩,xj ⟨#[101,110,100]⟩,xj ⟨#[33]⟩,xj ⟨#[88]⟩,xj ⟨#[78]⟩,xj ⟨#[70]⟩,xj ⟨#[71]⟩,xj ⟨#[85]⟩,xj ⟨#[38]⟩,xj ⟨#[124]⟩,xj ⟨#[45,62]⟩]
def qt:T1:=#[xj ⟨#[97,99,116,115]⟩,xd xh 4,xj ⟨#[114,117,108,101]⟩,xd xh 5,xj ⟨#[116,114,117,101]⟩,xd xh 6,xj ⟨#[102,97,108,115,101]⟩,xd xh 7,xj ⟨#[101,110,100]⟩,xd xh 8]
def sV:T1:=#[xj ⟨#[88]⟩,xd xh 9,xj ⟨#[78]⟩,xd xh 10,xj ⟨#[70]⟩,xd xh 11,xj ⟨#[71]⟩,xd xh 12,xj ⟨#[85]⟩,xd xh 13,xj ⟨#[45,62]⟩,xd xh 14,xj ⟨#[124]⟩,xd xh 15,xj ⟨#[38]⟩,xd xh 16,xj ⟨#[33]⟩,xd xh 17,xj ⟨#[40]⟩,xd xh 18,xj ⟨#[41]⟩,xd xh 19,xj ⟨#[44]⟩,xd xh 20,xj ⟨#[59]⟩,xd xh 21]
structure GV(w:Uc):Prop where
 ws:∃t m,w.heap[2]?=some (xi qt t m)
 rs:∃t m,w.heap[1]?=some (xi sV t m)
def GV.later(h:GV w)(U:XL w w'):GV w':=by
 obtain⟨⟨t2,m2,I⟩,⟨t3,m3,J⟩⟩:=h;exact⟨⟨t2,m2,(U.block _ (dK I)).trans I⟩,⟨t3,m3,(U.block _ (dK J)).trans J⟩⟩
def GV.alloc(h:GV w)(o:Obj):GV (w.alloc o):=h.later gC
structure SS(w:Uc):Prop where
 fs:∃t m,w.heap[0]?=some (xi EU t m)
 ws:∃t m,w.heap[2]?=some (xi qt t m)
 rs:∃t m,w.heap[1]?=some (xi sV t m)
def SS.later(h:SS w)(I:XL w w'):SS w':=by
 obtain⟨⟨t1,m1,J⟩,⟨t2,m2,U⟩,⟨t3,m3,h3⟩⟩:=h;exact⟨⟨t1,m1,(I.block _ (dK J)).trans J⟩,⟨t2,m2,(I.block _ (dK U)).trans U⟩,⟨t3,m3,(I.block _ (dK h3)).trans h3⟩⟩
def SS.alloc(h:SS w)(o:Obj):SS (w.alloc o):=h.later gC
def SS.g(h:SS w):GV w:=⟨h.ws,h.rs⟩
def iI(k:Nat):Int:=if k=0 then 97 else if k=1 then 116 else if k=2 then 102 else if k=3 then 101 else if k=4 then 33 else if k=5 then 88 else if k=6 then 78 else if k=7 then 70 else if k=8 then 71 else if k=9 then 85 else if k=10 then 38 else if k=11 then 124 else 62
def Q9(w:Uc):Fm->TX->Prop
 |.nil,p=>p=none
 |.node _ _ a l r,p=>∃b pl pr,p=some ⟨b,0,none⟩/\w.heap[b]?=some (xi #[xd .u8 (iI a.1),xj a.2.1,xd xh a.2.2,xk pl,xk pr] 292 (0,0))/\Q9 w l pl/\Q9 w r pr
def Q9.keep{row:Ua}(hg:w.grownBy w' row)(hr:∀k c m,row=some k->w.heap[k]? ≠some (xi c 292 m)):∀{f:Fm} {v:TX},Q9 w f v->Q9 w' f v
 |.nil,_,h=>h
 |.node _ _ _ _ _,_,⟨b,vl,vr,hv,hb,hl,hr'⟩=>⟨b,vl,vr,hv,(hg.block b (dK hb) (λe=>hr b _ _ e.symm hb)).trans hb,Q9.keep hg hr hl,Q9.keep hg hr hr'⟩
def Q9.keepP{g:Nat}(h:PS w pb g cap L i bad)(hg:w.grownBy w' (some pb)){v:TX}(hf:Q9 w f v):Q9 w' f v:=
 hf.keep hg (λk c m e=>by cases e;rw[h.blk];simp)
def Q9.later(I:XL w w'){v:TX}(hf:Q9 w f v):Q9 w' f v:=
 hf.keep (gE I none) (λk c m e=>by cases e)
def kr(k:Nat){c:Int}{g:Fm}(hf:Q9 w f vf)(hg:Q9 w g vg)(hc:c=iI k):
  Calls Tryz.prog 252 #[xd .u8 c,xk vf,xk vg] w λe w'=>∃v,e=xm (xk v)/\Q9 w' (two k f g) v/\XL w w':=by
 subst hc;go_in;go_wp2;go_ret;have I:=ir w (xi #[xd .u8 (iI k),xj ⟨#[]⟩,xd xh 0,xk vf,xk vg] 292);exact⟨_,rfl,⟨w.heap.size,vf,vg,rfl,gi _ _,hf.later I,hg.later I⟩,I⟩
def Sr(L:TY)(pb g cap:Nat)(w w':Uc)(e:Ending)(x:Rd):Prop:=
 w.grownBy w' (some pb)/\∃p,e=xm (xk p)/\(match x with
  |.ok (f,l)=>Q9 w' f p/\∃i,L.drop i=l/\PS w' pb g cap L i false
  |.error q=>∃i,ig (L.drop i)=q/\PS w' pb g cap L i true)
def jc(h:i<L.length):∃t r,L.drop i=t::r:=by
 cases hd:L.drop i with
 |nil=>have:=congrArg List.length hd;simp at this;omega
 |cons t r=>simp
def jl(k:Nat)(inside more y u v u' x:Bool):Bool:=
 if k=0 then inside&&y else if k=1 then true else if k=2 then false else if k=3 then !inside else if k=4 then !u
 else if k=5 then more&&u' else if k=6 then !more||u' else if k=7 then inside&&(u||x) else if k=8 then !inside||(u&&x)
 else if k=9 then inside&&(v||(u&&x)) else if k=10 then u&&v else if k=11 then u||v else !u||v
def tU{s:Ub}(i:Nat)(hs:s.size<=maxLen)(hi:i<=s.size):Calls Tryz.prog 151 #[xj s,xd xh i] w λe w'=>e=xm (xd xh (gV iy s i:Nat))/\w'=w:=by
 unfold maxLen at hs;go_in;go_wp2_with fail
 go_loop [1] (λx=>∃k:Nat,k<=s.size/\x=xd xh k/\Hid (gV iy s i=gV iy s k)) (λx=>s.size-(intOf x).toNat)
 .exact⟨i,hi,rfl,rfl⟩
 obtain⟨k,hk,rfl,H⟩:=hrel;by_cases hlt:k<s.size
 .by_cases hb:iy s[k]=true
  .have I:=fy hb;clear hb;go_wp2_with fail
   all_goals first
    |(go_round;(case rel=>exact⟨k+1,zo,zf,H.out.trans (oy iy s k hlt I.out)⟩);simp[intOf];omega)
    |(exfalso;have J:(((s[k].toNat:Int)==32)=false/\((s[k].toNat:Int)==9)=false)/\((s[k].toNat:Int)==10)=false:=zo;have:=I.out;simp only[iy,Bool.or_eq_true,VE,V3] at this J;omega)
  have hb':iy s[k]=false:=za;have h32:((s[k].toNat:Int)==32)=false:=by
   exact zm48
  have h9:((s[k].toNat:Int)==9)=false:=by
   exact zm48
  have h10:((s[k].toNat:Int)==10)=false:=by
   exact zm48
  have HE:=fy (H.out.trans (qP iy s k hlt hb'));clear hb hb' H;exact zm75
 have HE:=fy (H.out.trans (tQ iy zo));clear H;exact zm75
def sK(s:Ub)(w:Uc)(hs:s.size<=maxLen):
  Calls Tryz.prog 170 #[xj s] w λe w'=>e=xm (xd xh (gV GE s 0:Nat))/\w'=w:=by
 unfold maxLen at hs;go_in;go_wp2_with fail
 go_loop [3] (λx=>∃k:Nat,k<=s.size/\x=xd xh k/\Hid (gV GE s 0=gV GE s k)) (λx=>s.size-(intOf x).toNat)
 .exact zm65
 obtain⟨k,hk,rfl,H⟩:=hrel;by_cases hlt:k<s.size
 .by_cases h1:(97:Int)<=(s[k].toNat:Int)
  .by_cases h2:(s[k].toNat:Int)<=122
   .go_wp2
    go_round
    .exact⟨k+1,zo,zf,H.out.trans (oy GE s k hlt (by simp[GE];omega))⟩
    simp[intOf];omega
   have HE:=fy (H.out.trans (qP GE s k hlt (by simp[GE];omega)));clear H;exact zm75
  have HE:=fy (H.out.trans (qP GE s k hlt (by simp[GE];omega)));clear H;exact zm75
 have HE:=fy (H.out.trans (tQ GE zo));clear H;exact zm75
def vW(s p:Ub):
  Calls Tryz.prog 224 #[xj s,xj p] w λe w'=>e=xm (xn (s.toList.take p.size==p.toList))/\w'=w:=by
 by_cases h:p.size<=s.size
 .have e:(s.extract 0 p.size).toList=s.toList.take p.size:=by
   rw[Ui,Ui,V1];simp
  go_in;go_wp2;go_ret;exact⟨by simp[e],rfl⟩
 have e:¬ s.toList.take p.size=p.toList:=by
  intro e;have:=congrArg List.length e;rw[Ui,Ui] at this;simp[] at this;omega
 go_in;go_wp2;go_ret;exact⟨by simp[e],rfl⟩
def Bm{s p:Ub}:
  Calls Tryz.prog 190 #[xj s,xj p] w λe w'=>e=xm (xn (s.toList.take p.size==p.toList))/\w'=w:=by
 go_in;go_wp2_with fail;refine(vW s p).mono ?_;rintro e w' ⟨rfl,rfl⟩;go_wp2;go_ret;simp
def My{a:Nat}(b:Nat)(ha:a<4294967296)(hb:b<4294967296):bits .and .u32 (a:Int) (b:Int)=((a&&&b:Nat):Int):=by
 have hx:a&&&b<2^32:=Nat.and_lt_two_pow _ zo;have I:(BitVec.ofInt 32 (a:Int)).toNat=a:=by
  simp_all
 have J:(BitVec.ofInt 32 (b:Int)).toNat=b:=by
  simp_all
 show IntKind.u32.wrap ((BitVec.ofInt 32 (a:Int)&&&BitVec.ofInt 32 (b:Int)).toNat:Int)=_;rw[BitVec.toNat_and,I,J,IntKind.wrap_u32];omega
def QG(a:Nat)(ha:a<4294967296)(hb:b<4294967296):bits .or .u32 (a:Int) (b:Int)=((a|||b:Nat):Int):=by
 have hx:a|||b<2^32:=Nat.or_lt_two_pow zo zo;have I:(BitVec.ofInt 32 (a:Int)).toNat=a:=by
  simp_all
 have J:(BitVec.ofInt 32 (b:Int)).toNat=b:=by
  simp_all
 show IntKind.u32.wrap ((BitVec.ofInt 32 (a:Int)|||BitVec.ofInt 32 (b:Int)).toNat:Int)=_;rw[BitVec.toNat_or,I,J,IntKind.wrap_u32];omega
def PW(p i:Nat)(J:p<4294967296):(bits BinOp.and IntKind.u32 ((p:Int) / 2^i) 1==1)=p.testBit i:=by
 have e:(p:Int) / 2^i=((p / 2^i:Nat):Int):=zf;have I:p / 2^i<4294967296:=Nat.lt_of_le_of_lt (Nat.div_le_self _ _) J;rw[e];have h:=My 1 I zp;rw[show((1:Nat):Int)=1 from rfl] at h;rw[h,Nat.and_one_is_mod,Nat.testBit_eq_decide_div_mod_eq];by_cases hb:p / 2^i%2=1
 .simp_all
 simp_all
def ic{p:Nat}(J:p<4294967296)(hi:i<=31){b:Bool}(I:p.testBit i=b):
  Calls Tryz.prog 168 #[xd .u32 (p:Int),xd xh (i:Int)] w λe w'=>e=xm (xn b)/\w'=w:=by
 go_in;go_wp2;go_ret;exact⟨ja ((PW p i J).trans I),rfl⟩
end Go.Proofs.YtidakhhekofkoaaGreatDoor
