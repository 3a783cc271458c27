import Derived.Test.YtidakhhekofkoaaGreatDoorT0b
import Derived.Shelf.Strings.Search3
import Derived.Test.YtidakhhekofkoaaGreatDoorProg
import Derived.Shelf.Strconv.Itoa3
import Derived.Shelf.Strconv.Clone
import Derived.WalkSpells
import Derived.WalkLawsBesides
import Derived.Deep.Trees
import Derived.Shelf.Slices.Turned
import Derived.Shelf.Slices.Clone
set_option linter.all false
set_option maxHeartbeats 2000000
namespace Go.Proofs
open Go.Shelf
open Value renaming slice -> xa, int -> xd, string -> xj, pointer -> xk, bool -> xn
open IntKind renaming i64 -> xh
open Obj renaming cells -> xi
open Ending renaming returned -> xm
variable {zq:Prop}
theorem zm45(h:zq:=by
 simp only[gZ,Bool.or_eq_false_iff,beq_eq_false_iff_ne] at hb'|-;omega
 ):zq:=h
theorem zm70(h:zq:=by
 rw[ByteArray.size_extract];omega
 ):zq:=h
theorem zm77(h:zq:=by
 exact⟨0,Nat.zero_le _,rfl,rfl⟩
 ):zq:=h
theorem zm79(h:zq:=by
 have:=DW s[j];exact⟨this.1,fun h=>(lY s j hj).trans (this.2.1 h),fun h=>absurd h this.2.2,fun h=>by show(s.extract j (j+1)).data.toList≠[40];rw[lY s j hj];exact Ij h⟩
 ):zq:=h
theorem zm132(h:zq:=by
 go_wp2;go_ret;exact⟨_,rfl,by rw[HR.out];exact HO2.out,HB2.out⟩
 ):zq:=h
theorem zm139(h:zq:=by
 unfold gM;repeat' split
 all_goals simp_all
 ):zq:=h
theorem zm158(h:zq:=by
 exact⟨0,s.size+1,[],Nat.zero_le _,by omega,Nat.le_refl _,rfl,rfl,World.ownsRow_nil _ _ _ _,Below.refl _ _⟩
 ):zq:=h
theorem zm173(h:zq:=by
 have:=(List.getElem?_eq_some_iff.1 hq).1;simp_all
 ):zq:=h
def Tryz.lays144_ren:Go.Shelf.Ren:=⟨fun|144=>169|143=>198|219=>243|217=>275|225=>276|224=>277|267=>278|266=>287|314=>288|n=>n,fun|9=>9|4=>4|3=>3|5=>5|46=>163|146=>381|51=>146|n=>n,fun|1=>3|n=>n⟩
theorem Tryz.lays144:Go.Proofs.Lays.n144 Tryz.prog Tryz.lays144_ren:={
 mixed:=by kernel_rfl
 f143:=Tryz.func198.trans (congrArg some (by kernel_rfl))
 f144:=Tryz.func169.trans (congrArg some (by kernel_rfl))
 f217:=Tryz.func275.trans (congrArg some (by kernel_rfl))
 f219:=Tryz.func243.trans (congrArg some (by kernel_rfl))
 f224:=Tryz.func277.trans (congrArg some (by kernel_rfl))
 f225:=Tryz.func276.trans (congrArg some (by kernel_rfl))
 f266:=Tryz.func287.trans (congrArg some (by kernel_rfl))
 f267:=Tryz.func278.trans (congrArg some (by kernel_rfl))
 f314:=Tryz.func288.trans (congrArg some (by kernel_rfl))
 t3:=Tryz.underlying3
 a3:=Tryz.isAgg3
 z3:=Tryz.sizeOf3
 v3:=Tryz.zeroValue3
 t4:=Tryz.underlying4
 a4:=Tryz.isAgg4
 z4:=Tryz.sizeOf4
 v4:=Tryz.zeroValue4
 t5:=Tryz.underlying5
 a5:=Tryz.isAgg5
 z5:=Tryz.sizeOf5
 v5:=Tryz.zeroValue5
 t9:=Tryz.underlying9
 a9:=Tryz.isAgg9
 z9:=Tryz.sizeOf9
 v9:=Tryz.zeroValue9
 t46:=Tryz.underlying163
 a46:=Tryz.isAgg163
 z46:=Tryz.sizeOf163
 v46:=Tryz.zeroValue163
 t51:=Tryz.underlying146
 a51:=Tryz.isAgg146
 z51:=Tryz.sizeOf146
 v51:=Tryz.zeroValue146
 t146:=Tryz.underlying381
 a146:=Tryz.isAgg381
 z146:=Tryz.sizeOf381
 v146:=Tryz.zeroValue381
 g1:=by kernel_rfl}
open Go.RowKit Go.Lib in
theorem Tryz.strings_Contains_one(s:ByteArray)(c:UInt8)(w:World):
  Calls Tryz.prog 169 #[xj s,xj ⟨#[c]⟩] w fun e w'=>e=xm (xn (decide (0<=Lib.indexByte s.data.toList c)))/\w'=w:=Any.strings_Contains_one Tryz.lays144 s c w
end Go.Proofs
namespace Go.Proofs.YtidakhhekofkoaaGreatDoor
open Value renaming slice -> xa, int -> xd, string -> xj, pointer -> xk, bool -> xn
open IntKind renaming i64 -> xh
open Obj renaming cells -> xi
open Ending renaming returned -> xm
variable {c:UInt8} {j n a i f mx:Nat} {x y:List UInt8} {r w:List Nat} {b:List Bool} {π ρ α:Type} {A:Nat->Prop} {rows to to':List (List Nat)} {m:List (List Bool)}
def isLet(c:UInt8):Bool:=decide (97<=c.toNat)&&decide (c.toNat<=122)
def gZ(c:UInt8):Bool:=c.toNat==32||(c.toNat==9||c.toNat==10)
def span(p:UInt8->Bool):List UInt8->Nat
 |[]=>0
 |c::r=>if p c then span p r+1 else 0
def gP(p:UInt8->Bool)(s:ByteArray)(i:Nat):Nat:=i+span p (s.data.toList.drop i)
theorem size_data(s:ByteArray):s.data.toList.length=s.size:=rfl
theorem drop_at(s:ByteArray)(i:Nat)(h:i<s.size):s.data.toList.drop i=s[i]::s.data.toList.drop (i+1):=by
 have I:i<s.data.toList.length:=zv;rw[List.drop_eq_getElem_cons I];rfl
theorem JZ(p:UInt8->Bool)(l:List UInt8):span p l<=l.length:=by
 induction l with
 |nil=>exact Nat.le_refl _
 |cons c r ih=>unfold span;split<;>simp<;>omega
theorem ny(p:UInt8->Bool)(s:ByteArray)(i:Nat)(h:i<s.size)(I:p s[i]=true):gP p s i=gP p s (i+1):=by
 unfold gP;rw[drop_at s i h,span,if_pos I];omega
theorem pN(p:UInt8->Bool)(s:ByteArray)(i:Nat)(h:i<s.size)(I:p s[i]=false):gP p s i=i:=by
 unfold gP;rw[drop_at s i h,span,I];rfl
theorem sn(p:UInt8->Bool)(s:ByteArray)(i:Nat)(h:s.size<=i):gP p s i=i:=by
 unfold gP;rw[List.drop_eq_nil_of_le zv];rfl
theorem nL(p:UInt8->Bool)(s:ByteArray)(i:Nat):i<=gP p s i:=by unfold gP;omega
theorem l8(p:UInt8->Bool)(s:ByteArray)(i:Nat)(h:i<=s.size):gP p s i<=s.size:=by
 have:=JZ p (s.data.toList.drop i);rw[List.length_drop,size_data] at this;unfold gP;omega
def lC(l:List UInt8)(c:UInt8):Bool:=
 match l with
 |[]=>false
 |d::r=>if d.toNat=c.toNat then true else lC r c
theorem GY(s:ByteArray)(c:UInt8)(k:Nat)(h:k<s.size)(e:s[k].toNat=c.toNat):lC (s.data.toList.drop k) c=true:=by
 rw[drop_at s k h,lC,if_pos e]
theorem Jr(s:ByteArray)(c:UInt8)(k:Nat)(h:k<s.size)(e:¬ s[k].toNat=c.toNat):lC (s.data.toList.drop k) c=lC (s.data.toList.drop (k+1)) c:=by
 rw[drop_at s k h,lC,if_neg e]
theorem GX(s:ByteArray)(c:UInt8)(k:Nat)(h:s.size<=k):lC (s.data.toList.drop k) c=false:=by
 rw[List.drop_eq_nil_of_le zv];rfl
structure Tk where
 k:Nat
 s:ByteArray
 p:Nat
def isWord(l:List UInt8):Bool:=l==[97,99,116,115]||(l==[114,117,108,101]||(l==[116,114,117,101]||(l==[102,97,108,115,101]||l==[101,110,100])))
def jx(l:List UInt8):Nat:=
 if l=[97,99,116,115] then 4 else if l=[114,117,108,101] then 5 else if l=[116,114,117,101] then 6 else if l=[102,97,108,115,101] then 7 else if l=[101,110,100] then 8 else 2
def jo(c:Nat):Nat:=
 if c=88 then 9 else if c=78 then 10 else if c=70 then 11 else if c=71 then 12 else if c=85 then 13 else
 if c=124 then 15 else if c=38 then 16 else if c=33 then 17 else if c=40 then 18 else if c=41 then 19 else if c=44 then 20 else if c=59 then 21 else 1
def gT(s:ByteArray)(j:Nat):Tk:=
 if h:j<s.size then
  if isLet s[j] then ⟨jx (s.extract j (gP isLet s j)).data.toList,s.extract j (gP isLet s j),j⟩
  else if 48<=s[j].toNat/\s[j].toNat<=57 then ⟨3,s.extract j (j+1),j⟩
  else if h2:j+1<s.size then
   if s[j].toNat=45/\s[j+1].toNat=62 then ⟨14,⟨#[45,62]⟩,j⟩
   else ⟨jo s[j].toNat,s.extract j (j+1),j⟩
  else ⟨jo s[j].toNat,s.extract j (j+1),j⟩
 else ⟨0,ByteArray.empty,s.size⟩
theorem CN(s:ByteArray)(k:Nat)(h:s.size<=k):gT s k=⟨0,ByteArray.empty,s.size⟩:=by
 unfold gT;rw[dif_neg zo]
theorem AV(s:ByteArray)(k:Nat)(h:k<s.size)(hl:isLet s[k]=true):gT s k=⟨jx (s.extract k (gP isLet s k)).data.toList,s.extract k (gP isLet s k),k⟩:=by
 unfold gT;simp_all
theorem yK(s:ByteArray)(k:Nat)(h:k<s.size)(I:48<=s[k].toNat)(J:s[k].toNat<=57):gT s k=⟨3,s.extract k (k+1),k⟩:=by
 unfold gT;rw[dif_pos h,if_neg (by simp[isLet];omega),if_pos ⟨I,J⟩]
theorem yJ(s:ByteArray)(k:Nat)(h:k<s.size)(I:s[k].toNat=45)(J:k+1<s.size)(R:s[k+1].toNat=62):gT s k=⟨14,⟨#[45,62]⟩,k⟩:=by
 unfold gT;rw[dif_pos h,if_neg (by simp[isLet];omega),if_neg zo,dif_pos J,if_pos ⟨I,R⟩]
theorem vu(s:ByteArray)(k:Nat)(h:k<s.size)(J:isLet s[k]=false)(I:¬ (48<=s[k].toNat/\s[k].toNat<=57))(ha:¬ (s[k].toNat=45/\ ∃h2:k+1<s.size,s[k+1].toNat=62)):
  gT s k=⟨jo s[k].toNat,s.extract k (k+1),k⟩:=by
 unfold gT;rw[dif_pos h,if_neg (by simp[J]),if_neg I];simp_all
theorem BJ(s:ByteArray)(k:Nat)(h:k<s.size)(e:k<gP isLet s k):isLet s[k]=true:=by
 cases hl:isLet s[k] with
 |true=>rfl
 |false=>rw[pN isLet s k h hl] at e;omega
theorem Gb(s:ByteArray)(k:Nat)(h:k<s.size)(e:gP isLet s k=k):isLet s[k]=false:=by
 cases hl:isLet s[k] with
 |false=>rfl
 |true=>have:=nL isLet s (k+1);rw[ny isLet s k h hl] at e;omega
theorem xH(l:List UInt8):isWord l=true->4<=jx l/\jx l<=8:=by
 intro h;unfold jx;simp only[isWord,Bool.or_eq_true,beq_iff_eq] at h
 repeat (split;· omega)
 simp_all
theorem Ee{l:List UInt8}:isWord l=false->jx l=2:=by
 intro h;unfold jx;simp only[isWord,Bool.or_eq_false_iff,beq_eq_false_iff_ne] at h;simp_all
def uu:List UInt8:=[88,78,70,71,85,124,38,33,40,41,44,59]
theorem FJ:lC uu c=true->9<=jo c.toNat:=by
 intro h;have I:c.toNat=88\/c.toNat=78\/c.toNat=70\/c.toNat=71\/c.toNat=85\/c.toNat=124\/c.toNat=38\/c.toNat=33\/c.toNat=40\/c.toNat=41\/c.toNat=44\/c.toNat=59:=by
  simp[lC,uu] at h;omega
 generalize c.toNat=n at I;rcases I with h|h|h|h|h|h|h|h|h|h|h|h<;>subst h<;>decide
theorem Co:lC uu c=false->jo c.toNat=1:=by
 intro h;have I:¬ (c.toNat=88\/c.toNat=78\/c.toNat=70\/c.toNat=71\/c.toNat=85\/c.toNat=124\/c.toNat=38\/c.toNat=33\/c.toNat=40\/c.toNat=41\/c.toNat=44\/c.toNat=59):=by
  simp[lC,uu] at h;omega
 generalize c.toNat=n at I;simp only[not_or] at I;obtain⟨a,b,c,d,e,f,g,h,i,j,k,l⟩:=I;simp only[jo,a,b,c,d,e,f,g,h,i,j,k,l,if_false]
theorem pD(s:ByteArray)(j:Nat)(h:j<=s.size):(gT s j).p=j:=by
 unfold gT
 split
 ·repeat' split
  all_goals rfl
 show s.size=j;omega
theorem um(s:ByteArray)(j:Nat)(h:j<=s.size):j+(gT s j).s.size<=s.size:=by
 unfold gT
 split
 ·rename_i hj
  split
  ·have:=l8 isLet s j h;show j+(s.extract j (gP isLet s j)).size<=_;exact zm70
  split
  ·show j+(s.extract j (j+1)).size<=_;exact zm70
  split
  ·split
   ·trivial
   show j+(s.extract j (j+1)).size<=_;exact zm70
  show j+(s.extract j (j+1)).size<=_;exact zm70
 trivial
theorem qA(s:ByteArray)(h:j<=s.size)(R:(gT s j).k≠0):1<=(gT s j).s.size:=by
 revert R;unfold gT
 split
 ·rename_i J
  intro _
  split
  ·rename_i U
   have h1:=l8 isLet s j h;have I:=nL isLet s (j+1);rw[<-ny isLet s j J U] at I;show 1<=(s.extract j (gP isLet s j)).size;exact zm70
  split
  ·show 1<=(s.extract j (j+1)).size;exact zm70
  split
  ·split
   ·show 1<=2;omega
   show 1<=(s.extract j (j+1)).size;exact zm70
  show 1<=(s.extract j (j+1)).size;exact zm70
 simp
def jg(s:ByteArray):Nat->Nat->List Tk
 |0,_=>[]
 |n+1,i=>let t:=gT s (gP gZ s i);if t.k<=1 then [t] else t::jg s n (t.p+t.s.size)
theorem lI(s:ByteArray)(n i:Nat)(h:(gT s (gP gZ s i)).k<=1):jg s (n+1) i=[gT s (gP gZ s i)]:=by
 rw[jg];simp_all
theorem nA(s:ByteArray)(n i:Nat)(h:¬ (gT s (gP gZ s i)).k<=1):jg s (n+1) i=gT s (gP gZ s i)::jg s n ((gT s (gP gZ s i)).p+(gT s (gP gZ s i)).s.size):=by
 rw[jg];exact if_neg h
theorem re(s:ByteArray)(i:Nat)(h:i<=s.size)(hk:¬ (gT s (gP gZ s i)).k<=1):
  i+1<=(gT s (gP gZ s i)).p+(gT s (gP gZ s i)).s.size/\(gT s (gP gZ s i)).p+(gT s (gP gZ s i)).s.size<=s.size:=by
 have h0:=nL gZ s i;have I:=l8 gZ s i h;have h2:=pD s _ I;have h3:=um s _ I;have h4:=qA s I zo;omega
def BC(n c:Nat):Nat:=(n * 251+c+1)%65521
def ly(n:Nat)(l:List UInt8):Nat:=l.foldl (fun n c=>BC n c.toNat) n
theorem J2{c:Nat}:BC n c<65521:=Nat.mod_lt _ zp
theorem uv(hn:n<65521): ∀l:List UInt8,ly n l<65521:=by
 intro l
 induction l generalizing n with
 |nil=>exact hn
 |cons c r ih=>exact ih (J2)
theorem uS(n:Nat)(l r:List UInt8):ly n (l++r)=ly (ly n l) r:=by unfold ly;simp
def u8(n:Nat):UInt8:=UInt8.ofNat n
theorem tW{b:Nat}(ha:a<256)(hb:b<256)(h:u8 a=u8 b):a=b:=by
 have:=congrArg UInt8.toNat h;unfold u8 at this;rw[UInt8.toNat_ofNat',UInt8.toNat_ofNat'] at this;omega
theorem ku(ha:a<256):(u8 a).toNat=a:=by
 unfold u8;simp_all
def lP(l:List UInt8):List UInt8:=[u8 (ly 3 l / 256),u8 (ly 3 l%256)]
structure Tb where
 acts:List ByteArray
 fl:List Nat
 nx:List (List Nat)
variable {t t' u:Tb} {o o':Option Tb}
def jl:List ByteArray->List UInt8
 |[]=>[]
 |a::r=>u8 a.size::(a.data.toList++jl r)
def iQ:List Nat->List (List Nat)->List UInt8
 |f::fs,r::rs=>u8 f::(r.map u8++iQ fs rs)
 |_,_=>[]
def iA(t:Tb):List UInt8:=83::1::u8 t.acts.length::(jl t.acts++u8 t.nx.length::iQ t.fl t.nx)
def iC(t:Tb):List UInt8:=iA t++lP (iA t)
structure Cw (t:Tb):Prop where
 al:t.acts.length<256
 aZ: ∀a∈t.acts,a.size<256
 nl:t.nx.length<256
 fl:t.fl.length=t.nx.length
 fs: ∀f∈t.fl,f<256
 rs: ∀r∈t.nx,r.length=t.acts.length/\ ∀x∈r,x<256
theorem A2: ∀{r I:List Nat} {x y:List UInt8},r.length=I.length->(∀a∈r,a<256)->(∀a∈I,a<256)->r.map u8++x=I.map u8++y->r=I/\x=y
 |[],[],_,_,_,_,_,h=>⟨rfl,h⟩
 |[],_::_,_,_,hl,_,_,_=>zv
 |_::_,[],_,_,hl,_,_,_=>zv
 |a::r,b::I,x,y,hl,h1,h2,h=>by
  rw[List.map_cons,List.map_cons,List.cons_append,List.cons_append] at h;obtain⟨R,U⟩:=List.cons.inj h;have:=tW (h1 a (List.mem_cons_self ..)) (h2 b (List.mem_cons_self ..)) R;obtain⟨e3,e4⟩:=A2 za (fun z J=>h1 z (List.mem_cons_of_mem _ J)) (fun z J=>h2 z (List.mem_cons_of_mem _ J)) U;simp_all
theorem yn: ∀{l I:List ByteArray} {x y:List UInt8},l.length=I.length->(∀a∈l,a.size<256)->(∀a∈I,a.size<256)->jl l++x=jl I++y->l=I/\x=y
 |[],[],_,_,_,_,_,h=>⟨rfl,h⟩
 |[],_::_,_,_,hl,_,_,_=>zv
 |_::_,[],_,_,hl,_,_,_=>zv
 |a::r,b::r',x,y,hl,h1,h2,h=>by
  rw[jl,jl,List.cons_append,List.cons_append,List.append_assoc,List.append_assoc] at h;obtain⟨U,e2⟩:=List.cons.inj h;have hs:=tW (h1 a (List.mem_cons_self ..)) (h2 b (List.mem_cons_self ..)) U;have J:a.data.toList.length=b.data.toList.length:=zv;obtain⟨e3,e4⟩:=List.append_inj e2 J;obtain⟨e5,e6⟩:=yn za (fun z R=>h1 z (List.mem_cons_of_mem _ R)) (fun z R=>h2 z (List.mem_cons_of_mem _ R)) e4;have:=ByteArray.ext (Array.toList_inj.1 e3);simp_all
theorem zg: ∀{f R:List Nat} {l J:List (List Nat)} {x y:List UInt8},f.length=l.length->R.length=J.length->l.length=J.length->(∀a∈f,a<256)->(∀a∈R,a<256)->(∀r∈l,r.length=n/\ ∀a∈r,a<256)->(∀r∈J,r.length=n/\ ∀a∈r,a<256)->iQ f l++x=iQ R J++y->f=R/\l=J/\x=y
 |[],[],[],[],_,_,_,_,_,_,_,_,_,h=>⟨rfl,rfl,h⟩
 |[],_,_::_,_,_,_,h1,_,_,_,_,_,_,_=>zv
 |_::_,_,[],_,_,_,h1,_,_,_,_,_,_,_=>zv
 |_,[],_,_::_,_,_,_,h2,_,_,_,_,_,_=>zv
 |_,_::_,_,[],_,_,_,h2,_,_,_,_,_,_=>zv
 |[],_::_,[],_::_,_,_,_,_,h3,_,_,_,_,_=>zv
 |_::_,[],_::_,[],_,_,_,_,h3,_,_,_,_,_=>zv
 |a::f,b::R,r::l,r'::J,x,y,h1,h2,h3,h4,h5,h6,h7,h=>by
  rw[iQ,iQ,List.cons_append,List.cons_append,List.append_assoc,List.append_assoc] at h;obtain⟨e1,e2⟩:=List.cons.inj h;have hs:=tW (h4 a (List.mem_cons_self ..)) (h5 b (List.mem_cons_self ..)) e1;have U:=h6 r (List.mem_cons_self ..);have k7:=h7 r' (List.mem_cons_self ..);obtain⟨e3,e4⟩:=A2 (U.1.trans k7.1.symm) U.2 k7.2 e2;obtain⟨e5,e6,e7⟩:=zg za za za (fun z I=>h4 z (List.mem_cons_of_mem _ I)) (fun z I=>h5 z (List.mem_cons_of_mem _ I)) (fun z I=>h6 z (List.mem_cons_of_mem _ I)) (fun z I=>h7 z (List.mem_cons_of_mem _ I)) e4;simp_all
theorem Gx(h:Cw t)(I:Cw t')(e:iA t++x=iA t'++y):t=t'/\x=y:=by
 unfold iA at e;simp only[List.cons_append,List.append_assoc,List.cons.injEq,true_and] at e;obtain⟨R,U⟩:=e;have J:=tW h.al I.al R;obtain⟨e3,e4⟩:=yn J h.aZ I.aZ U;obtain⟨e5,e6⟩:=List.cons.inj e4;have hn:=tW h.nl I.nl e5;obtain⟨e7,e8,e9⟩:=zg h.fl I.fl hn h.fs I.fs (fun r hr=>⟨(h.rs r hr).1.trans J,(h.rs r hr).2⟩) I.rs e6;cases t;simp_all
theorem Jh(h:Cw t)(I:Cw t')(e:iC t=iC t'):t=t':=(Gx h I e).1
def Lives(t:Tb)(i:Nat):Prop:= ∀P:Nat->Prop,(∀i f:Nat,t.fl[i]? =some f->f%2=1->P i)->(∀(i j:Nat) (r:List Nat),t.nx[i]? =some r->j∈r->P j->P i)->P i
theorem Lives.acc(I:t.fl[i]? =some f)(J:f%2=1):Lives t i:=fun _ a _=>a i f I J
theorem Lives.step(I:t.nx[i]? =some r)(J:j∈r)(h:Lives t j):Lives t i:=fun P a s=>s i j r I J (h P a s)
theorem Lives.ind{motive:(i:Nat)->Lives t i->Prop}(acc: ∀{i f:Nat} (I:t.fl[i]? =some f) (J:f%2=1),motive i (.acc I J))
  (step: ∀{i j:Nat} {r:List Nat} (I:t.nx[i]? =some r) (J:j∈r) (h:Lives t j),motive j h->motive i (.step I J h))(h:Lives t i):motive i h:=
 (h (fun i=> ∃h:Lives t i,motive i h) (fun _ _ I J=>⟨.acc I J,acc I J⟩) (fun _ _ _ I J ⟨R,U⟩=>⟨.step I J R,step I J R U⟩)).elim fun _ k=>k
def lv(l:List Bool)(i:Nat):Bool:=l[i]?.getD false
theorem AW{l:List Bool}(I: ∀i,lv l i=true->Lives t i)(acc: ∀i f,t.fl[i]? =some f->f%2=1->lv l i=true)
  (closed: ∀i r j,t.nx[i]? =some r->j∈r->lv l j=true->lv l i=true)(i:Nat):lv l i=true↔Lives t i:=
 ⟨I i,fun h=>by
  induction h using Lives.ind with
  |acc h1 h2=>simp_all
  |step h1 h2 _ ih=>exact closed _ _ _ h1 h2 ih⟩
def ke(t:Tb)(l:List Bool)(i:Nat):List Bool:=l.set i (lv l i||((t.nx[i]?.getD []).any (lv l)))
def lE(t:Tb)(l:List Bool):List Bool:=(List.range l.length).foldl (ke t) l
def LvLe(l l':List Bool):Prop:=l.length=l'.length/\ ∀i,lv l i=true->lv l' i=true
theorem LvLe.refl(l:List Bool):LvLe l l:=⟨rfl,fun _ h=>h⟩
theorem LvLe.trans{a c:List Bool}(h:LvLe a b)(k:LvLe b c):LvLe a c:=⟨h.1.trans k.1,fun i hi=>k.2 i (h.2 i hi)⟩
theorem pZ(l:List Bool)(i j:Nat)(b:Bool):lv (l.set i b) j=if i=j/\i<l.length then b else lv l j:=by
 unfold lv;rw[List.getElem?_set];by_cases h:i=j
 ·subst h;by_cases h2:i<l.length
  ·simp[h2]
  simp[h2]
 simp[h]
theorem AY(t:Tb)(l:List Bool)(i:Nat):LvLe l (ke t l i):=by
 refine⟨by unfold ke;simp,fun j hj=> ?_⟩;unfold ke;rw[pZ];simp_all
theorem rR(t:Tb): ∀(I:List Nat) (l:List Bool),LvLe l (I.foldl (ke t) l)
 |[],l=>LvLe.refl l
 |i::r,l=>(AY t l i).trans (rR t r _)
theorem nW(t:Tb)(l:List Bool):LvLe l (lE t l):=rR t _ l
theorem LvLe.anti{a:List Bool}(h:LvLe a b)(k:LvLe b a):a=b:=by
 refine List.ext_getElem h.1 fun i R U=> ?_
 have I:=h.2 i;have J:=k.2 i;unfold lv at I J;rw[List.getElem?_eq_getElem R,List.getElem?_eq_getElem U] at I J;simp only[Option.getD_some] at I J;cases ha:a[i]<;>cases hb:b[i]<;>simp_all
theorem LvLe.count: ∀{a b:List Bool},LvLe a b->a.count true<=b.count true/\(a≠b->a.count true<b.count true)
 |[],[],_=>⟨Nat.le_refl _,fun h=>(h rfl).elim⟩
 |[],_::_,h=>by have:=h.1;trivial
 |_::_,[],h=>by have:=h.1;trivial
 |x::a,y::b,h=>by
  have I:LvLe a b:=⟨by simpa using h.1,fun i hi=>by have:=h.2 (i+1);unfold lv at this hi|-;simpa using this (by simpa using hi)⟩;have hh:x=true->y=true:=fun J=>by have:=h.2 0;unfold lv at this;simpa using this (by simpa using J)
  obtain⟨k1,k2⟩:=LvLe.count I;rw[List.count_cons,List.count_cons];cases x<;>cases y
  ·simp_all
  ·refine⟨zs,fun _=>zs⟩
  ·trivial
  simp_all
theorem xS{l:List Bool}(h:lE t l=l)(hi:i<l.length)(hr:t.nx[i]? =some r)(hj:j∈r)(hl:lv l j=true):lv l i=true:=by
 have I: ∀(J:List Nat),LvLe (J.foldl (ke t) l) l-> ∀k∈J,ke t l k=l:=by
  intro J
  induction J with
  |nil=>simp
  |cons a J ih=>
   intro U k hk;have e:=((AY t l a).anti ((rR t J (ke t l a)).trans U)).symm;rcases List.mem_cons.1 hk with rfl|hk
   ·omega
   simp_all
 have e:=I (List.range l.length) (by show LvLe (lE t l) l;rw[h];exact LvLe.refl l) i (List.mem_range.2 hi);have R:=congrArg (fun l=>lv l i) e;unfold ke at R;rw[pZ,if_pos ⟨rfl,hi⟩,hr] at R;rw[<-R];have:=List.any_eq_true.2 ⟨j,hj,hl⟩;simp_all
theorem Cf{l:List Bool}(h: ∀i,lv l i=true->Lives t i)(k:Nat): ∀i,lv (ke t l k) i=true->Lives t i:=by
 intro i hi;unfold ke at hi;rw[pZ] at hi
 split at hi
 ·rename_i he
  obtain⟨rfl,_⟩:=he;rcases Bool.or_eq_true_iff.1 hi with hi|hi
  ·exact h _ hi
  obtain⟨j,I,J⟩:=List.any_eq_true.1 hi;cases hr:t.nx[k]? with
  |none=>rw[hr] at I;exact(List.not_mem_nil I).elim
  |some r=>rw[hr] at I;exact .step hr I (h j J)
 exact h _ hi
theorem uD: ∀(I:List Nat) {l:List Bool},(∀i,lv l i=true->Lives t i)-> ∀i,lv (I.foldl (ke t) l) i=true->Lives t i
 |[],_,h=>h
 |k::r,_,h=>uD r (Cf h k)
def jB(t:Tb):Nat->List Bool->List Bool
 |0,l=>l
 |n+1,l=>jB t n (lE t l)
theorem td{l:List Bool}(h:lE t l=l): ∀n,jB t n l=l
 |0=>rfl
 |n+1=>by rw[jB,h];exact td h n
theorem oz(t:Tb): ∀n (l:List Bool),LvLe l (jB t n l)
 |0,l=>LvLe.refl l
 |n+1,l=>(nW t l).trans (oz t n _)
theorem rh: ∀n {l:List Bool},(∀i,lv l i=true->Lives t i)-> ∀i,lv (jB t n l) i=true->Lives t i
 |0,_,h=>h
 |n+1,_,h=>rh n (uD _ h)
theorem sw(t:Tb): ∀n (l:List Bool),l.length<=l.count true+n->lE t (jB t n l)=jB t n l
 |0,l,h=>by
  have hc:=(nW t l).count;rw[jB];apply Classical.byContradiction;intro I;have J:=hc.2 (fun e=>I e.symm);have h2:=List.count_le_length (a:=true) (l:=lE t l);have R:=(nW t l).1;omega
 |n+1,l,h=>by
  rw[jB];by_cases e:lE t l=l
  ·rw[e,td e];omega
  have J:=(nW t l).count.2 (fun x=>e x.symm);have R:=(nW t l).1;exact sw t n _ zo
def pY(t:Tb):List Bool:=t.fl.map fun f=>f%2==1
theorem Dy(hf:t.fl.length=t.nx.length)(i:Nat):lv (jB t t.fl.length (pY t)) i=true↔Lives t i:=by
 have J:(jB t t.fl.length (pY t)).length=t.fl.length:=(oz t _ _).1.symm.trans (by unfold pY;simp);have I:=sw t t.fl.length (pY t) (by unfold pY;simp);have R: ∀i f,t.fl[i]? =some f->(lv (pY t) i=true↔f%2=1):=fun i f h=>by
  unfold lv pY;simp_all
 refine AW (rh _ fun i hi=> ?_) (fun i f U h2=>(oz t _ _).2 i ((R i f U).2 h2)) (fun i r j hr hj hl=> ?_) i
 ·cases h:t.fl[i]? with
  |none=>unfold lv pY at hi;rw[List.getElem?_map,h] at hi;simp at hi
  |some f=>exact .acc h ((R i f h).1 hi)
 refine xS I ?_ hr hj hl;rw[J,hf];exact(List.getElem?_eq_some_iff.1 hr).1
section
variable {σ τ : Type} [DecidableEq σ] [DecidableEq τ]
def iX(s:σ):List σ->Nat->Option Nat
 |[],_=>none
 |x::r,i=>if x=s then some i else iX s r (i+1)
def jr(l:List σ)(s:σ):List σ × Nat:=
 match iX s l 0 with
 |some i=>(l,i)
 |none=>(l++[s],l.length)
def jh(st:σ->Nat->σ)(s:σ):List Nat->List σ->List σ × List Nat
 |[],l=>(l,[])
 |a::aZ,l=>((jh st s aZ (jr l (st s a)).1).1,(jr l (st s a)).2::(jh st s aZ (jr l (st s a)).1).2)
def jU(st:σ->Nat->σ)(acts:List Nat)(mx:Nat):Nat->Nat->List σ->List (List Nat)->Option (List σ × List (List Nat))
 |0,_,_,_=>none
 |n+1,k,l,rows=>
  match l[k]? with
  |none=>some (l,rows)
  |some s=>if mx<(jh st s acts l).1.length then none else jU st acts mx n (k+1) (jh st s acts l).1 (rows++[(jh st s acts l).2])
def RL(R:σ->τ->Prop):List σ->List τ->Prop
 |[],[]=>True
 |s::l,s'::l'=>R s s'/\RL R l l'
 |_,_=>False
theorem RL.nil{R:σ->τ->Prop}:RL R [] []:=trivial
theorem RL.cons{R:σ->τ->Prop}{s:σ}{s':τ}{l:List σ}{I:List τ}(h:R s s')(k:RL R l I):RL R (s::l) (s'::I):=⟨h,k⟩
theorem RL.ind{R:σ->τ->Prop}{motive:(l:List σ)->(I:List τ)->RL R l I->Prop}(nil:motive [] [] .nil)
  (cons: ∀{s:σ} {s':τ} {l:List σ} {I:List τ} (h:R s s') (k:RL R l I),motive l I k->motive (s::l) (s'::I) (.cons h k)): ∀{l:List σ} {I:List τ} (h:RL R l I),motive l I h
 |[],[],_=>nil
 |[],_::_,h=>False.elim h
 |_::_,[],h=>False.elim h
 |_::_,_::_,h=>cons h.1 h.2 (RL.ind nil cons h.2)
theorem RL.length{R:σ->τ->Prop}{l:List σ}{I:List τ}(h:RL R l I):l.length=I.length:=by
 induction h using RL.ind with
 |nil=>rfl
 |cons _ _ ih=>simp[ih]
theorem RL.snoc{R:σ->τ->Prop}{l:List σ}{I:List τ}(h:RL R l I){s:σ}{s':τ}(hs:R s s'):RL R (l++[s]) (I++[s']):=by
 induction h using RL.ind with
 |nil=>exact .cons hs .nil
 |cons h1 _ ih=>exact .cons h1 ih
theorem RL.get{R:σ->τ->Prop}{l:List σ}{I:List τ}(h:RL R l I): ∀k:Nat,(l[k]? =none/\I[k]? =none)\/ ∃s s',l[k]? =some s/\I[k]? =some s'/\R s s':=by
 induction h using RL.ind with
 |nil=>simp
 |cons h1 _ ih=>
  intro k;cases k with
  |zero=>simp_all
  |succ k=>simp_all
theorem Jo{R:σ->τ->Prop}(I: ∀s s' r U,R s s'->R r U->(s=r↔s'=U)){l:List σ}{J:List τ}(h:RL R l J){s:σ}{s':τ}(hs:R s s'): ∀i,iX s l i=iX s' J i:=by
 induction h using RL.ind with
 |nil=>intro i;rfl
 | @cons x x' _ _ h1 _ ih=>
  intro i;rw[iX,iX];by_cases e:x=s
  ·rw[if_pos e,if_pos ((I _ _ _ _ h1 hs).1 e)]
  rw[if_neg e,if_neg (fun x=>e ((I _ _ _ _ h1 hs).2 x))];simp_all
theorem Ho{R:σ->τ->Prop}(U: ∀s s' r J,R s s'->R r J->(s=r↔s'=J)){l:List σ}{I:List τ}(h:RL R l I){s:σ}{s':τ}(hs:R s s'):
  RL R (jr l s).1 (jr I s').1/\(jr l s).2=(jr I s').2:=by
 have e:=Jo U h hs 0;unfold jr;rw[<-e];cases iX s l 0 with
 |some i=>trivial
 |none=>exact⟨h.snoc hs,h.length⟩
theorem Bl{R:σ->τ->Prop}(U: ∀s s' r r',R s s'->R r r'->(s=r↔s'=r')){st:σ->Nat->σ}{I:τ->Nat->τ}{s:σ}{s':τ}:
  ∀(aZ:List Nat) {l:List σ} {J:List τ},(∀a∈aZ,R (st s a) (I s' a))->RL R l J->RL R (jh st s aZ l).1 (jh I s' aZ J).1/\(jh st s aZ l).2=(jh I s' aZ J).2
 |[],_,_,_,h=>⟨h,rfl⟩
 |a::aZ,l,J,hst,h=>by
  have h1:=Ho U h (hst a (List.mem_cons_self ..));have h2:=Bl U aZ (fun b hb=>hst b (List.mem_cons_of_mem _ hb)) h1.1;rw[jh,jh];simp_all
theorem Cx{R:σ->τ->Prop}(hR: ∀s s' r r',R s s'->R r r'->(s=r↔s'=r')){st:σ->Nat->σ}{I:τ->Nat->τ}(acts:List Nat)(J: ∀s s',R s s'-> ∀a∈acts,R (st s a) (I s' a))(mx:Nat):
  ∀(n k:Nat) (l:List σ) (U:List τ) (rows:List (List Nat)),RL R l U->
   (jU st acts mx n k l rows=none/\jU I acts mx n k U rows=none)\/ ∃m m' r,jU st acts mx n k l rows=some (m,r)/\jU I acts mx n k U rows=some (m',r)/\RL R m m'
 |0,_,_,_,_,_=>Or.inl ⟨rfl,rfl⟩
 |n+1,k,l,U,rows,h=>by
  rw[jU,jU];rcases h.get k with⟨e1,e2⟩|⟨s,s',e1,e2,hs⟩
  ·rw[e1,e2];exact Or.inr ⟨l,U,rows,rfl,rfl,h⟩
  rw[e1,e2];have h2:=Bl hR acts (J s s' hs) h;simp only;rw[<-h2.1.length];by_cases hm:mx<(jh st s acts l).1.length
  ·simp_all
  rw[if_neg hm,if_neg hm,<-h2.2];exact Cx hR acts J mx n (k+1) _ _ _ h2.1
end
def kQ{π:Type}(p0:π)(ah:π->Nat->π):List Nat->π
 |[]=>p0
 |a::v=>ah (kQ p0 ah v) a
def xB{π:Type}(ah:π->Nat->π)(S:π->Bool)(a:Nat):π->Bool:=fun p=>S (ah p a)
def ki{π:Type}(ah:π->Nat->π):(π->Bool)->List Nat->(π->Bool)
 |S,[]=>S
 |S,a::u=>ki ah (xB ah S a) u
theorem jt(p0:π)(ah:π->Nat->π): ∀(u:List Nat) (S:π->Bool) (v:List Nat),ki ah S u (kQ p0 ah v)=S (kQ p0 ah (u++v))
 |[],_,_=>rfl
 |a::u,S,v=>by
  rw[ki,jt p0 ah u (xB ah S a) v];rfl
theorem DV{p0:π}{ah:π->Nat->π}{keep:π->Bool}{q0:ρ}{J:ρ->Nat->ρ}{I:ρ->Bool} 
  (same: ∀v,(∀a∈v,A a)->keep (kQ p0 ah v)=I (kQ q0 J v)){u:List Nat}(hu: ∀a∈u,A a)(hw: ∀a∈w,A a):
  (∀v,(∀a∈v,A a)->ki ah keep u (kQ p0 ah v)=ki ah keep w (kQ p0 ah v))↔(∀v,(∀a∈v,A a)->ki J I u (kQ q0 J v)=ki J I w (kQ q0 J v)):=by
 have R: ∀{x v:List Nat},(∀a∈x,A a)->(∀a∈v,A a)-> ∀a∈x++v,A a:=fun hx U a ha=>by
  rcases List.mem_append.1 ha with h|h
  ·exact hx a h
  exact U a h
 refine⟨fun h v U=> ?_,fun h v U=> ?_⟩
 ·have:=h v U;rw[jt,jt,same _ (R hu U),same _ (R hw U)] at this;rw[jt,jt,this]
 have:=h v U;rw[jt,jt,<-same _ (R hu U),<-same _ (R hw U)] at this;rw[jt,jt,this]
section
variable {σ : Type} [DecidableEq σ]
theorem rQ{s:σ}: ∀{l:List σ} {i j:Nat},iX s l i=some j->i<=j/\l[j - i]? =some s
 |[],_,_,h=>by cases h
 |x::r,i,j,h=>by
  rw[iX] at h;by_cases e:x=s
  ·simp_all
  rw[if_neg e] at h;have ⟨h1,h2⟩:=rQ h;obtain⟨k,rfl⟩: ∃k,j=i+1+k:=⟨j - (i+1),zo⟩;refine⟨zo, ?_⟩;rw[show i+1+k - i=k+1 from zo];simp_all
theorem AE{s:σ}: ∀{l:List σ} {i:Nat},iX s l i=none->s∉l
 |[],_,_=>List.not_mem_nil
 |x::r,i,h=>by
  rw[iX] at h;by_cases e:x=s
  ·simp_all
  rw[if_neg e] at h;intro hm;rcases List.mem_cons.1 hm with h1|h1
  ·simp_all
  exact AE h h1
theorem Fi(l:List σ)(s:σ):(∃x,(jr l s).1=l++x/\ ∀y∈x,y=s)/\(jr l s).1[(jr l s).2]? =some s/\(l.Nodup->(jr l s).1.Nodup):=by
 unfold jr;cases h:iX s l 0 with
 |some i=>exact⟨⟨[],zp,fun y I=>(List.not_mem_nil I).elim⟩,by simpa using (rQ h).2,id⟩
 |none=>
  refine⟨⟨[s],rfl,fun y I=>List.mem_singleton.1 I⟩,zp,fun hn=> ?_⟩;rw[List.nodup_append];refine⟨hn,zp,fun a R b J=> ?_⟩;rw[List.mem_singleton] at J;subst J;intro e;exact AE h (e▸R)
theorem oG{l x:List α}{k:Nat}{a:α}(h:l[k]? =some a):(l++x)[k]? =some a:=by
 rw[List.getElem?_append_left (List.getElem?_eq_some_iff.1 h).1];omega
theorem nF(st:σ->Nat->σ)(s:σ): ∀(aZ:List Nat) (l:List σ),(∃x,(jh st s aZ l).1=l++x/\ ∀y∈x,∃a∈aZ,y=st s a)/\(jh st s aZ l).2.length=aZ.length/\
  (∀(k a:Nat),aZ[k]? =some a-> ∃j,(jh st s aZ l).2[k]? =some j/\(jh st s aZ l).1[j]? =some (st s a))/\(l.Nodup->(jh st s aZ l).1.Nodup)
 |[],l=>⟨⟨[],by simp[jh],fun y J=>(List.not_mem_nil J).elim⟩,rfl,fun k a h=>zv,id⟩
 |a::aZ,l=>by
  obtain⟨⟨x,hx,I⟩,R,U⟩:=Fi l (st s a);obtain⟨⟨y,J,hys⟩,k2,k3,k4⟩:=nF st s aZ (jr l (st s a)).1;rw[jh];refine⟨⟨x++y,za,fun z hz=> ?_⟩,by simp[k2],fun k b hk=> ?_,fun hn=>k4 (U hn)⟩
  ·rcases List.mem_append.1 hz with h|h
   ·exact⟨a,List.mem_cons_self ..,I z h⟩
   simp_all
  cases k with
  |zero=>
   obtain rfl:a=b:=za;refine⟨(jr l (st s a)).2,zp, ?_⟩;simp only;rw[J];exact oG R
  |succ k=>
   simp_all
structure Bfs (st:σ->Nat->σ) (acts:List Nat) (s0:σ) (k:Nat) (l:List σ) (rows:List (List Nat)):Prop where
 first:l[0]? =some s0
 nodup:l.Nodup
 le:k<=l.length
 len:rows.length=k
 row: ∀(i:Nat) (s:σ),i<k->l[i]? =some s-> ∃r,rows[i]? =some r/\r.length=acts.length/\ ∀(j a:Nat),acts[j]? =some a-> ∃m,r[j]? =some m/\l[m]? =some (st s a)
 met: ∀(j:Nat) (s:σ),l[j+1]? =some s-> ∃(i:Nat) (s':σ),i<=j/\i<k/\l[i]? =some s'/\ ∃a∈acts,s=st s' a
theorem Bfs.start(st:σ->Nat->σ)(acts:List Nat)(s0:σ):Bfs st acts s0 0 [s0] []:=
 ⟨rfl,zp,Nat.zero_le _,rfl,fun i s h=>absurd h (Nat.not_lt_zero _),fun j s h=>zv⟩
theorem Bfs.step{st:σ->Nat->σ}{acts:List Nat}{s0:σ}{k:Nat}{l:List σ}(h:Bfs st acts s0 k l rows){s:σ}(hs:l[k]? =some s):
  Bfs st acts s0 (k+1) (jh st s acts l).1 (rows++[(jh st s acts l).2]):=by
 obtain⟨⟨x,J,U⟩,h2,h3,h4⟩:=nF st s acts l;have hk:=(List.getElem?_eq_some_iff.1 hs).1;refine⟨?_,h4 h.nodup, ?_,by simp[h.len],fun i s' hi I=> ?_,fun j s' I=> ?_⟩
 ·rw[J];exact oG h.first
 ·rw[J,List.length_append];omega
 ·rcases Nat.lt_or_ge i k with hlt|hge
  ·rw[J,List.getElem?_append_left zo] at I;obtain⟨r,r1,r2,r3⟩:=h.row i s' hlt I;refine⟨r,oG r1,r2,fun j a R=> ?_⟩;obtain⟨m,m1,m2⟩:=r3 j a R;exact⟨m,m1,by rw[J];exact oG m2⟩
  obtain rfl:i=k:=zo;rw[J,List.getElem?_append_left hk,hs] at I;cases I;refine⟨_,by rw[List.getElem?_append_right (by rw[h.len];simp),h.len,Nat.sub_self];rfl,h2,fun j a R=>h3 j a R⟩
 rcases Nat.lt_or_ge (j+1) l.length with hlt|hge
 ·rw[J,List.getElem?_append_left hlt] at I;obtain⟨i,aa,i1,i2,i3,i4⟩:=h.met j s' I;exact⟨i,aa,i1,zo,by rw[J];exact oG i3,i4⟩
 rw[J,List.getElem?_append_right hge] at I;obtain⟨a,R,e⟩:=U s' (List.mem_of_getElem? I);exact⟨k,s,zo,zo,by rw[J];exact oG hs,a,R,e⟩
theorem uZ{st:σ->Nat->σ}{acts:List Nat}{s0:σ}: ∀(n k:Nat) (l:List σ) (rows:List (List Nat)),Bfs st acts s0 k l rows->l.length<=max mx 1-> ∀m r,jU st acts mx n k l rows=some (m,r)->
  Bfs st acts s0 m.length m r/\m.length<=max mx 1
 |0,_,_,_,_,_,_,_,h=>by cases h
 |n+1,k,l,rows,hb,hl,m,r,h=>by
  rw[jU] at h;cases e:l[k]? with
  |none=>
   rw[e] at h;cases h;have:=Nat.le_antisymm hb.le (List.getElem?_eq_none_iff.1 e);simp_all
  |some s=>
   rw[e] at h;simp only at h;by_cases hm:mx<(jh st s acts l).1.length
   ·simp_all
   rw[if_neg hm] at h;exact uZ n (k+1) _ _ (hb.step e) zo m r h
end
section
variable {π : Type} [DecidableEq π]
theorem uo{p0:π}{ah:π->Nat->π}{l:List π}(h:Bfs ah (List.range n) p0 l.length l to): ∀v:List Nat,(∀a∈v,a<n)->kQ p0 ah v∈l
 |[],_=>List.mem_of_getElem? h.first
 |a::v,hv=>by
  obtain⟨i,hi⟩:=List.mem_iff_getElem?.1 (uo h v (fun b I=>hv b (List.mem_cons_of_mem _ I)));obtain⟨r,_,_,R⟩:=h.row i _ (List.getElem?_eq_some_iff.1 hi).1 hi;obtain⟨m,_,J⟩:=R a a (List.getElem?_range (hv a (List.mem_cons_self ..)));exact List.mem_of_getElem? J
theorem rz{p0:π}{ah:π->Nat->π}{l:List π}(h:Bfs ah (List.range n) p0 l.length l to): ∀(k j:Nat) (p:π),j<=k->l[j]? =some p-> ∃v:List Nat,(∀a∈v,a<n)/\p=kQ p0 ah v
 |0,j,p,hj,hp=>by
  obtain rfl:j=0:=zo;rw[h.first] at hp;cases hp;exact⟨[],fun a I=>(List.not_mem_nil I).elim,rfl⟩
 |k+1,j,p,hj,hp=>by
  cases j with
  |zero=>exact rz h k 0 p zo hp
  |succ j=>
   obtain⟨i,s',i1,_,U,a,I,e⟩:=h.met j p hp;obtain⟨v,hv,R⟩:=rz h k i s' zo U;refine⟨a::v,fun b J=> ?_,by rw[e,R];rfl⟩;rcases List.mem_cons.1 J with rfl|J
   ·simp_all
   simp_all
def setB(to:List (List Nat))(b:List Bool)(a:Nat):List Bool:=to.map fun r=>(b[(r[a]?).getD 0]?).getD false
theorem sg{p0:π}{ah:π->Nat->π}{l:List π}(h:Bfs ah (List.range n) p0 l.length l to)(S:π->Bool)(I:a<n):setB to (l.map S) a=l.map (xB ah S a):=by
 refine List.ext_getElem? fun i=> ?_
 unfold setB;rw[List.getElem?_map,List.getElem?_map];cases hp:l[i]? with
 |none=>
  have:to[i]? =none:=List.getElem?_eq_none (by rw[h.len];exact List.getElem?_eq_none_iff.1 hp);simp_all
 |some p=>
  obtain⟨r,R,_,U⟩:=h.row i p (List.getElem?_eq_some_iff.1 hp).1 hp;obtain⟨m,m1,J⟩:=U a a (List.getElem?_range I);rw[R];simp only[Option.map_some];rw[m1,Option.getD_some,List.getElem?_map,J];rfl
theorem py(ah:π->Nat->π): ∀(u:List Nat) (S:π->Bool) (a:Nat),ki ah S (u++[a])=xB ah (ki ah S u) a
 |[],_,_=>rfl
 |_::u,_,a=>py ah u _ a
theorem uG{p0:π}{ah:π->Nat->π}{l:List π}(h:Bfs ah (List.range n) p0 l.length l to)(S I:π->Bool):
  l.map S=l.map I↔ ∀v:List Nat,(∀a∈v,a<n)->S (kQ p0 ah v)=I (kQ p0 ah v):=by
 rw[List.map_inj_left];refine⟨fun e v J=>e _ (uo h v J),fun e p U=> ?_⟩;obtain⟨j,R⟩:=List.mem_iff_getElem?.1 U;obtain⟨v,J,rfl⟩:=rz h j j p (Nat.le_refl _) R;simp_all
end
section
variable {π ρ : Type} [DecidableEq π] [DecidableEq ρ]
def C7(n:Nat)(ah:π->Nat->π)(keep:π->Bool)(l:List π)(ah':ρ->Nat->ρ)(keep':ρ->Bool)(l':List ρ)(b b':List Bool):Prop:=
 ∃u:List Nat,(∀a∈u,a<n)/\b=l.map (ki ah keep u)/\b'=l'.map (ki ah' keep' u)
theorem BF{p0:π}{ah:π->Nat->π}{keep:π->Bool}{q0:ρ}{J:ρ->Nat->ρ}{I:ρ->Bool}{l:List π}{U:List ρ} 
  (h:Bfs ah (List.range n) p0 l.length l to)(h':Bfs J (List.range n) q0 U.length U to')(same: ∀v:List Nat,(∀a∈v,a<n)->keep (kQ p0 ah v)=I (kQ q0 J v))(mx N:Nat):
  (jU (setB to) (List.range n) mx N 0 [l.map keep] []=none/\jU (setB to') (List.range n) mx N 0 [U.map I] []=none)\/
   ∃m m' r,jU (setB to) (List.range n) mx N 0 [l.map keep] []=some (m,r)/\jU (setB to') (List.range n) mx N 0 [U.map I] []=some (m',r)/\RL (C7 n ah keep l J I U) m m':=by
 refine Cx (R:=C7 n ah keep l J I U) ?_ (List.range n) ?_ mx N 0 _ _ [] (.cons ⟨[],fun a ha=>(List.not_mem_nil ha).elim,rfl,rfl⟩ .nil)
 ·rintro _ _ _ _ ⟨u,hu,rfl,rfl⟩ ⟨w,hw,rfl,rfl⟩;rw[uG h,uG h'];exact DV (A:=fun a=>a<n) same hu hw
 rintro _ _ ⟨u,hu,rfl,rfl⟩ a ha;have aa:=List.mem_range.1 ha;refine⟨u++[a],fun b hb=> ?_,by rw[sg h _ aa,py],by rw[sg h' _ aa,py]⟩;rcases List.mem_append.1 hb with hb|hb
 ·simp_all
 simp_all
end
section
variable {π : Type} [DecidableEq π]
theorem vD{p0:π}{ah:π->Nat->π}{keep:π->Bool}{l:List π}{r:List (List Nat)}
  (h:Bfs ah (List.range n) p0 l.length l to)(hm:Bfs (setB to) (List.range n) (l.map keep) m.length m r): ∀(k j:Nat) (b:List Bool),j<=k->m[j]? =some b-> ∃u:List Nat,(∀a∈u,a<n)/\b=l.map (ki ah keep u)
 |0,j,b,hj,hb=>by
  obtain rfl:j=0:=zo;rw[hm.first] at hb;cases hb;exact⟨[],fun a I=>(List.not_mem_nil I).elim,rfl⟩
 |k+1,j,b,hj,hb=>by
  cases j with
  |zero=>exact vD h hm k 0 b zo hb
  |succ j=>
   obtain⟨i,s',i1,_,U,a,I,e⟩:=hm.met j b hb;obtain⟨u,hu,R⟩:=vD h hm k i s' zo U;have J:=List.mem_range.1 I;refine⟨u++[a],fun c hc=> ?_,by rw[e,R,sg h _ J,py]⟩;rcases List.mem_append.1 hc with hc|hc
   ·simp_all
   simp_all
theorem uH{k:Nat}(h:(b[k]?).getD false=true):true∈b:=by
 cases e:b[k]? with
 |none=>simp_all
 |some x=>rw[e] at h;exact List.mem_of_getElem? (e.trans (congrArg some h))
theorem yL{p0:π}{ah:π->Nat->π}{keep:π->Bool}{l:List π} 
  (h:Bfs ah (List.range n) p0 l.length l to)(hm:Bfs (setB to) (List.range n) (l.map keep) m.length m t.nx)
  (hf: ∀(i:Nat) (b:List Bool),m[i]? =some b-> ∃f,t.fl[i]? =some f/\(f%2=1↔(b[0]?).getD false=true))(J:m[i]? =some b):Lives t i↔true∈b:=by
 constructor
 ·intro hL
  induction hL using Lives.ind generalizing b with
  |acc h1 h2=>
   obtain⟨f,R,f2⟩:=hf _ _ J;rw[h1] at R;cases R;exact uH (f2.1 h2)
  |step hr hj _ ih=>
   obtain⟨r',r1,r2,r3⟩:=hm.row _ _ (List.getElem?_eq_some_iff.1 J).1 J;rw[hr] at r1;cases r1;obtain⟨q,hq⟩:=List.mem_iff_getElem?.1 hj;have ai:q<n:=by
    exact zm173
   obtain⟨j,j1,j2⟩:=r3 q q (List.getElem?_range ai);rw[hq] at j1;cases j1;have:=ih j2;unfold setB at this;obtain⟨_,_,e⟩:=List.mem_map.1 this;exact uH e
 intro ht;have key: ∀(v:List Nat) (i:Nat) (S:π->Bool),(∀a∈v,a<n)->m[i]? =some (l.map S)->S (kQ p0 ah v)=true->Lives t i:=by
  intro v
  induction v with
  |nil=>
   intro i S _ hi I;obtain⟨f,R,f2⟩:=hf _ _ hi;refine .acc R (f2.2 ?_);rw[List.getElem?_map,h.first];exact I
  |cons a v ih=>
   intro i S U hi I;have ha:=U a (List.mem_cons_self ..);obtain⟨r',r1,_,r3⟩:=hm.row _ _ (List.getElem?_eq_some_iff.1 hi).1 hi;obtain⟨j,j1,j2⟩:=r3 a a (List.getElem?_range ha);rw[sg h S ha] at j2;exact .step r1 (List.mem_of_getElem? j1) (ih j (xB ah S a) (fun c hc=>U c (List.mem_cons_of_mem _ hc)) j2 I)
 obtain⟨u,_,rfl⟩:=vD h hm i i b (Nat.le_refl _) J;obtain⟨p,hp,I⟩:=List.mem_map.1 ht;obtain⟨k,hk⟩:=List.mem_iff_getElem?.1 hp;obtain⟨v,U,rfl⟩:=rz h k k p (Nat.le_refl _) hk;exact key v i _ U J I
end
def uX(t:Tb)(i:Nat):Bool:=(t.fl[i]?.getD 0)%2==1
section
variable {π : Type} [DecidableEq π]
end
structure Tz where
 acts:List ByteArray
 fl:List Int
 nx:List (List Int)
def zI(l:List Nat):List Int:=l.map fun n:Nat=>(n:Int)
def Tb.z(t:Tb):Tz:=⟨t.acts,zI t.fl,t.nx.map zI⟩
theorem Gc{a b:List Nat}(h:zI a=zI b):a=b:=by
 unfold zI at h;exact(List.map_inj_right (f:=fun n:Nat=>(n:Int)) (fun x y e=>Int.ofNat.inj e)).1 h
theorem Tb.z_inj(h:t.z=u.z):t=u:=by
 cases t;cases u;unfold Tb.z at h;simp only[Tz.mk.injEq] at h;obtain⟨I,J,R⟩:=h;rw[I,Gc J,(List.map_inj_right (fun x y e=>Gc e)).1 R]
structure oe (s:ByteArray):Prop where
 n1:1<=s.size
 n8:s.size<=8
 lt: ∀c∈s.data.toList,isLet c=true
 wd:isWord s.data.toList=false
structure mT (l:List ByteArray):Prop where
 n1:1<=l.length
 n6:l.length<=6
 nm: ∀a∈l,oe a
 nd:l.Nodup
structure RightT (t:Tb):Prop where
 acts:mT t.acts
 n1:1<=t.nx.length
 n100:t.nx.length<=100
 fl:t.fl.length=t.nx.length
 rs: ∀r∈t.nx,r.length=t.acts.length/\ ∀x∈r,x<t.nx.length
 fs: ∀f∈t.fl,f<=3
 alive: ∀(i f:Nat),t.fl[i]? =some f->(2<=f↔Lives t i)
def iS(z:Tz):Prop:= ∃t:Tb,z=t.z/\RightT t
theorem RightT.s(h:RightT t):Cw t:=
 ⟨by have:=h.acts.n6;omega,fun a I=>by have:=(h.acts.nm a I).n8;omega,by have:=h.n100;omega,h.fl,fun f hf=>by have:=h.fs f hf;omega,
  fun r hr=>⟨(h.rs r hr).1,fun x J=>by have:=(h.rs r hr).2 x J;have:=h.n100;omega⟩⟩
theorem sM: ∀(l:List ByteArray),(∀a∈l,a.size<=8)->(jl l).length<=9 * l.length
 |[],_=>Nat.le_refl _
 |a::r,h=>by
  have h1:=h a (List.mem_cons_self ..);have h2:=sM r (fun b I=>h b (List.mem_cons_of_mem _ I));rw[jl,List.length_cons,List.length_append,size_data,List.length_cons];omega
theorem tG(n:Nat): ∀(fs:List Nat) (l:List (List Nat)),(∀r∈l,r.length<=n)->(iQ fs l).length<=(n+1) * l.length
 |[],l,_=>by cases l<;>simp[iQ]
 |_::_,[],_=>by simp[iQ]
 |f::fs,r::l,h=>by
  have h1:=h r (List.mem_cons_self ..);have h2:=tG n fs l (fun b I=>h b (List.mem_cons_of_mem _ I));rw[iQ,List.length_cons,List.length_append,List.length_map,List.length_cons,Nat.mul_add];omega
theorem RightT.few(h:RightT t):(iC t).length<=1000:=by
 have h1:=sM t.acts (fun a I=>(h.acts.nm a I).n8);have h2:=tG 6 t.fl t.nx (fun r hr=>by rw[(h.rs r hr).1];exact h.acts.n6);have h3:=h.acts.n6;have h4:=h.n100;have:(lP (iA t)).length=2:=rfl;unfold iC;rw[List.length_append,this];unfold iA;simp only[List.length_cons,List.length_append];omega
theorem RightT.many(h:RightT t):10<=(iC t).length:=by
 have h1:=h.acts.n1;have h2:=h.n1;have h3:=h.fl;have:(lP (iA t)).length=2:=rfl;unfold iC;rw[List.length_append,this];unfold iA;simp only[List.length_cons,List.length_append];have ha:2<=(jl t.acts).length:=by
  cases hc:t.acts with
  |nil=>simp_all
  |cons a r=>
   have:=(h.acts.nm a za).n1;rw[jl,List.length_cons,List.length_append,size_data];omega
 have hr:2<=(iQ t.fl t.nx).length:=by
  cases hc:t.nx with
  |nil=>simp_all
  |cons r l=>
   cases hf:t.fl with
   |nil=>simp_all
   |cons f fs=>
    have:=(h.rs r za).1;rw[iQ,List.length_cons,List.length_append,List.length_map];omega
 omega
def DecR(b:List UInt8):Option Tb->Prop
 |some t=>RightT t/\iC t=b
 |none=> ∀t,RightT t->iC t≠b
theorem DecR.uniq{b:List UInt8}(h:DecR b o)(I:DecR b o'):o=o':=by
 cases o with
 |none=>
  cases o' with
  |none=>rfl
  |some t=>exact absurd I.2 (h t I.1)
 |some t=>
  cases o' with
  |none=>exact absurd h.2 (I t h.1)
  |some u=>rw[Jh h.1.s I.1.s (h.2.trans I.2.symm)]
def ia:List UInt8->Nat × List UInt8
 |[]=>(0,[])
 |c::r=>(c.toNat,r)
def iY:Nat->List UInt8->List Nat × List UInt8
 |0,l=>([],l)
 |n+1,l=>((ia l).1::(iY n (ia l).2).1,(iY n (ia l).2).2)
def lz(n:Nat)(l:List UInt8):ByteArray × List UInt8:=(⟨(l.take n).toArray⟩,l.drop n)
def iD:Nat->List UInt8->List ByteArray × List UInt8
 |0,l=>([],l)
 |n+1,l=>((lz (ia l).1 (ia l).2).1::(iD n (lz (ia l).1 (ia l).2).2).1,(iD n (lz (ia l).1 (ia l).2).2).2)
def jw(k:Nat):Nat->List UInt8->(List Nat × List (List Nat)) × List UInt8
 |0,l=>(([],[]),l)
 |n+1,l=>(((ia l).1::(jw k n (iY k (ia l).2).2).1.1,(iY k (ia l).2).1::(jw k n (iY k (ia l).2).2).1.2),(jw k n (iY k (ia l).2).2).2)
def mD(b:List UInt8):List ByteArray × List UInt8:=iD (ia (b.drop 2)).1 (ia (b.drop 2)).2
def om(b:List UInt8):Tb:=⟨(mD b).1,(jw (mD b).1.length (ia (mD b).2).1 (ia (mD b).2).2).1.1,(jw (mD b).1.length (ia (mD b).2).1 (ia (mD b).2).2).1.2⟩
theorem rj(h:n<256)(r:List UInt8):ia (u8 n::r)=(n,r):=by rw[ia,ku h]
theorem yR: ∀(l:List Nat) (r:List UInt8),(∀x∈l,x<256)->iY l.length (l.map u8++r)=(l,r)
 |[],r,_=>rfl
 |a::l,r,h=>by
  rw[List.length_cons,iY,List.map_cons,List.cons_append,rj (h a (List.mem_cons_self ..))];simp only;rw[yR l r (fun x I=>h x (List.mem_cons_of_mem _ I))]
theorem IM(s:ByteArray)(r:List UInt8):lz s.size (s.data.toList++r)=(s,r):=by
 unfold lz;simp
theorem uz: ∀(l:List ByteArray) (r:List UInt8),(∀a∈l,a.size<256)->iD l.length (jl l++r)=(l,r)
 |[],r,_=>rfl
 |a::l,r,h=>by
  rw[List.length_cons,iD,jl,List.cons_append,rj (h a (List.mem_cons_self ..))];simp only;rw[List.append_assoc,IM];simp only;rw[uz l r (fun x I=>h x (List.mem_cons_of_mem _ I))]
theorem uN(k:Nat): ∀(fs:List Nat) (l:List (List Nat)) (r:List UInt8),fs.length=l.length->(∀f∈fs,f<256)->(∀x∈l,x.length=k/\ ∀y∈x,y<256)->jw k l.length (iQ fs l++r)=((fs,l),r)
 |[],[],r,_,_,_=>rfl
 |[],_::_,_,h,_,_=>zv
 |_::_,[],_,h,_,_=>zv
 |f::fs,x::l,r,h1,h2,h3=>by
  have I:=h3 x (List.mem_cons_self ..);rw[List.length_cons,jw,iQ,List.cons_append,rj (h2 f (List.mem_cons_self ..))];simp only;rw[List.append_assoc,<-I.1,yR x _ I.2];simp only;rw[I.1,uN k fs l r za (fun y J=>h2 y (List.mem_cons_of_mem _ J)) (fun y J=>h3 y (List.mem_cons_of_mem _ J))]
theorem Hv(h:Cw t):om (iC t)=t:=by
 have e:(iC t).drop 2=u8 t.acts.length::(jl t.acts++(u8 t.nx.length::(iQ t.fl t.nx++lP (iA t)))):=by
  unfold iC;generalize lP (iA t)=y;unfold iA;simp
 have hA:mD (iC t)=(t.acts,u8 t.nx.length::(iQ t.fl t.nx++lP (iA t))):=by
  unfold mD;rw[e,rj h.al];exact uz _ _ h.aZ
 unfold om;rw[hA];simp only;rw[rj h.nl];simp only;rw[uN t.acts.length t.fl t.nx _ h.fl h.fs h.rs]
theorem DecR.not{b:List UInt8}(h:RightT (om b)->iC (om b)≠b):DecR b none:=fun t I e=>by
 have:om b=t:=by rw[<-e];exact Hv I.s
 simp_all
theorem pI(l:List UInt8):(ia l).1<256:=by
 cases l with
 |nil=>decide
 |cons c r=>exact c.toNat_lt
theorem Hn(l:List UInt8):(ia l).2.length<=l.length:=by
 cases l with
 |nil=>decide
 |cons c r=>exact Nat.le_succ _
def mS(n:Nat)(x:Int):Bool:=decide (0<=x)&&decide (x<(n:Int))
theorem sj{x:Int}:mS n x=true↔0<=x/\x<(n:Int):=by unfold mS;simp
structure mU (z:Tz):Prop where
 n1:1<=z.nx.length
 n100:z.nx.length<=100
 fl:z.fl.length=z.nx.length
 rs: ∀r∈z.nx,r.length=z.acts.length/\r.all (mS z.nx.length)=true
def mi(z:Tz):Tb:=⟨z.acts,z.fl.map fun f=>(f%2).toNat,z.nx.map fun r=>r.map Int.toNat⟩
def pC(z:Tz):Prop:= ∀(i:Nat) (f:Int),z.fl[i]? =some f->0<=f/\f<=3/\(2<=f↔Lives (mi z) i)
theorem yM(hn:t.nx=u.nx)(hf: ∀(i f:Nat),t.fl[i]? =some f->f%2=1-> ∃g,u.fl[i]? =some g/\g%2=1)(h:Lives t i):Lives u i:=by
 induction h using Lives.ind with
 |acc h1 h2=>
  obtain⟨g,g1,g2⟩:=hf _ _ h1 h2;exact .acc g1 g2
 |step h1 h2 _ ih=>exact .step (hn▸h1) h2 ih
theorem J5(l:List Nat):(zI l).map Int.toNat=l:=by
 unfold zI;rw[List.map_map]
 conv=>rhs;rw[<-List.map_id l]
 rfl
theorem uw{l:List Int}(h: ∀x∈l,0<=x):zI (l.map Int.toNat)=l:=by
 unfold zI;rw[List.map_map]
 conv=>rhs;rw[<-List.map_id l]
 exact List.map_congr_left fun a I=>Int.toNat_of_nonneg (h a I)
theorem Es(t:Tb)(i:Nat):Lives (mi t.z) i↔Lives t i:=by
 have hn:(mi t.z).nx=t.nx:=by
  unfold mi Tb.z;simp only;rw[List.map_map]
  conv=>rhs;rw[<-List.map_id t.nx]
  exact List.map_congr_left fun r _=>J5 r
 have J: ∀i:Nat,(mi t.z).fl[i]? =(t.fl[i]?).map (· %2):=fun i=>by
  unfold mi Tb.z zI;simp only[List.getElem?_map];cases t.fl[i]? with
  |none=>rfl
  |some f=>rfl
 constructor
 ·refine yM hn fun i f I R=> ?_
  rw[J] at I;cases e:t.fl[i]? with
  |none=>simp_all
  |some g=>
   rw[e] at I;have:g%2=f:=Option.some.inj I;exact⟨g,rfl,zo⟩
 refine yM hn.symm fun i f I R=>⟨f%2, ?_,zo⟩
 simp_all
theorem yZ(z:Tz):iS z↔mT z.acts/\mU z/\pC z:=by
 constructor
 ·rintro⟨t,rfl,h⟩;have J:t.z.nx.length=t.nx.length:=by unfold Tb.z;simp
  refine⟨h.acts,⟨by rw[J];exact h.n1,by rw[J];exact h.n100,by rw[J];unfold Tb.z zI;simp only[List.length_map];exact h.fl,fun r hr=> ?_⟩,fun i f hi=> ?_⟩
  ·have ag:=hr;obtain⟨q,hq,rfl⟩:=List.mem_map.1 ag;have k:=h.rs q hq;refine⟨by unfold zI;rw[List.length_map];exact k.1,List.all_eq_true.2 fun x R=> ?_⟩;unfold zI at R;obtain⟨y,hy,rfl⟩:=List.mem_map.1 R;rw[J,sj];simp_all
  rw[Es];have I:(zI t.fl)[i]? =some f:=hi;unfold zI at I;rw[List.getElem?_map] at I;cases e:t.fl[i]? with
  |none=>simp_all
  |some g=>
   rw[e] at I;have hg:(g:Int)=f:=Option.some.inj I;have h3:=h.fs g (List.mem_of_getElem? e);have h4:=h.alive i g e;refine⟨zo,zo, ?_⟩;rw[<-h4];omega
 rintro⟨h1,U,h3⟩;have ad: ∀x∈z.fl,0<=x:=fun x R=>by
  obtain⟨i,hi⟩:=List.mem_iff_getElem?.1 R;exact(h3 i x hi).1
 have ai:=fun r hr x R=>(sj.1 (List.all_eq_true.1 (U.rs r hr).2 x R)).1
 have hz:z=Tb.z ⟨z.acts,z.fl.map Int.toNat,z.nx.map fun r=>r.map Int.toNat⟩:=by
  unfold Tb.z;simp only;rw[uw ad,List.map_map];have:z.nx.map (zI∘fun r=>r.map Int.toNat)=z.nx:=by
   conv=>rhs;rw[<-List.map_id z.nx]
   exact List.map_congr_left fun r hr=>uw (ai r hr)
  rw[this]
 refine⟨⟨z.acts,z.fl.map Int.toNat,z.nx.map fun r=>r.map Int.toNat⟩,hz,h1,by simpa using U.n1,by simpa using U.n100,by simpa using U.fl,fun r hr=> ?_,fun f hf=> ?_,fun i f hi=> ?_⟩
 ·obtain⟨q,hq,rfl⟩:=List.mem_map.1 hr;have k:=U.rs q hq;refine⟨by rw[List.length_map];exact k.1,fun x R=> ?_⟩;obtain⟨y,hy,rfl⟩:=List.mem_map.1 R;have:=sj.1 (List.all_eq_true.1 k.2 y hy);simp only[List.length_map];omega
 ·obtain⟨g,hg,rfl⟩:=List.mem_map.1 hf;obtain⟨i,hi⟩:=List.mem_iff_getElem?.1 hg;have:=h3 i g hi;omega
 simp only[List.getElem?_map] at hi;cases e:z.fl[i]? with
 |none=>rw[e] at hi;cases hi
 |some g=>
  rw[e] at hi;have hg:=Option.some.inj hi;have k:=h3 i g e;rw[<-Es,<-hz,<-k.2.2];omega
end Go.Proofs.YtidakhhekofkoaaGreatDoor
namespace Go.Proofs
open Go.Shelf
open Value renaming slice -> xa, int -> xd, string -> xj, pointer -> xk, bool -> xn
open IntKind renaming i64 -> xh
open Obj renaming cells -> xi
open Ending renaming returned -> xm
def Tryz.laysM171_ren:Go.Shelf.Ren:=⟨fun|171=>112|243=>150|246=>189|283=>220|284=>221|285=>222|286=>223|129=>219|317=>260|318=>261|319=>262|320=>263|337=>284|338=>285|n=>n,fun|3=>3|9=>9|2=>2|4=>4|171=>346|0=>0|53=>345|37=>51|5=>5|173=>348|212=>370|51=>146|20=>20|213=>371|46=>163|232=>383|233=>384|n=>n,fun|17=>4|18=>5|19=>6|n=>n⟩
theorem Tryz.laysM171:Go.Proofs.LaysM.n171 Tryz.prog Tryz.laysM171_ren:={
 mixed:=by kernel_rfl
 f129:=Tryz.func219.trans (congrArg some (by kernel_rfl))
 f171:=Tryz.func112.trans (congrArg some (by kernel_rfl))
 f243:=Tryz.func150.trans (congrArg some (by kernel_rfl))
 f246:=Tryz.func189.trans (congrArg some (by kernel_rfl))
 f283:=Tryz.func220.trans (congrArg some (by kernel_rfl))
 f284:=Tryz.func221.trans (congrArg some (by kernel_rfl))
 f285:=Tryz.func222.trans (congrArg some (by kernel_rfl))
 f286:=Tryz.func223.trans (congrArg some (by kernel_rfl))
 f317:=Tryz.func260.trans (congrArg some (by kernel_rfl))
 f318:=Tryz.func261.trans (congrArg some (by kernel_rfl))
 f319:=Tryz.func262.trans (congrArg some (by kernel_rfl))
 f320:=Tryz.func263.trans (congrArg some (by kernel_rfl))
 f337:=Tryz.func284.trans (congrArg some (by kernel_rfl))
 f338:=Tryz.func285.trans (congrArg some (by kernel_rfl))
 t0:=Tryz.underlying0
 a0:=Tryz.isAgg0
 z0:=Tryz.sizeOf0
 v0:=Tryz.zeroValue0
 t2:=Tryz.underlying2
 a2:=Tryz.isAgg2
 z2:=Tryz.sizeOf2
 v2:=Tryz.zeroValue2
 t3:=Tryz.underlying3
 a3:=Tryz.isAgg3
 z3:=Tryz.sizeOf3
 v3:=Tryz.zeroValue3
 t4:=Tryz.underlying4
 a4:=Tryz.isAgg4
 z4:=Tryz.sizeOf4
 v4:=Tryz.zeroValue4
 t5:=Tryz.underlying5
 a5:=Tryz.isAgg5
 z5:=Tryz.sizeOf5
 v5:=Tryz.zeroValue5
 t9:=Tryz.underlying9
 a9:=Tryz.isAgg9
 z9:=Tryz.sizeOf9
 v9:=Tryz.zeroValue9
 t20:=Tryz.underlying20
 a20:=Tryz.isAgg20
 z20:=Tryz.sizeOf20
 v20:=Tryz.zeroValue20
 t37:=Tryz.underlying51
 a37:=Tryz.isAgg51
 z37:=Tryz.sizeOf51
 v37:=Tryz.zeroValue51
 t46:=Tryz.underlying163
 a46:=Tryz.isAgg163
 z46:=Tryz.sizeOf163
 v46:=Tryz.zeroValue163
 t51:=Tryz.underlying146
 a51:=Tryz.isAgg146
 z51:=Tryz.sizeOf146
 v51:=Tryz.zeroValue146
 t53:=Tryz.underlying345
 a53:=Tryz.isAgg345
 z53:=Tryz.sizeOf345
 v53:=Tryz.zeroValue345
 t171:=Tryz.underlying346
 a171:=Tryz.isAgg346
 z171:=Tryz.sizeOf346
 v171:=Tryz.zeroValue346
 t173:=Tryz.underlying348
 a173:=Tryz.isAgg348
 z173:=Tryz.sizeOf348
 v173:=Tryz.zeroValue348
 t212:=Tryz.underlying370
 a212:=Tryz.isAgg370
 z212:=Tryz.sizeOf370
 v212:=Tryz.zeroValue370
 t213:=Tryz.underlying371
 a213:=Tryz.isAgg371
 z213:=Tryz.sizeOf371
 t232:=Tryz.underlying383
 a232:=Tryz.isAgg383
 z232:=Tryz.sizeOf383
 v232:=Tryz.zeroValue383
 t233:=Tryz.underlying384
 a233:=Tryz.isAgg384
 z233:=Tryz.sizeOf384
 v233:=Tryz.zeroValue384
 g17:=by kernel_rfl
 g18:=by kernel_rfl
 g19:=by kernel_rfl
 i0:=by kernel_rfl
 i2:=by kernel_rfl
 i3:=by kernel_rfl
 i4:=by kernel_rfl
 i5:=by kernel_rfl
 i9:=by kernel_rfl
 i20:=by kernel_rfl
 i37:=by kernel_rfl
 i46:=by kernel_rfl
 i51:=by kernel_rfl
 i53:=by kernel_rfl
 i171:=by kernel_rfl
 i173:=by kernel_rfl
 i212:=by kernel_rfl
 i232:=by kernel_rfl
 i233:=by kernel_rfl
 m17:=by kernel_rfl
 m18:=by kernel_rfl
 m19:=by kernel_rfl}
open Go.RowKit Go.Sort Go.Lib in
theorem Tryz.strconv_Itoa(n:Int)(J: -9223372036854775808<=n)(R:n<=9223372036854775807)(w:World)(I:Lib.TabIs Tryz.prog w "internal/strconv.uint64pow10" .u64 Lib.pow10Tab):
  Calls Tryz.prog 112 #[xd xh n] w fun e w'=>e=xm (xj ⟨(Lib.itoa n).toArray⟩)/\ ∃k os,w'=grow (w.drewN k) os:=Any.strconv_Itoa Tryz.laysM171 n J R w I
def Tryz.laysM316_ren:Go.Shelf.Ren:=⟨fun|316=>90|n=>n,fun|9=>9|3=>3|4=>4|37=>51|0=>0|127=>210|5=>5|n=>n,fun|n=>n⟩
theorem Tryz.laysM316:Go.Proofs.LaysM.n316 Tryz.prog Tryz.laysM316_ren:={
 mixed:=by kernel_rfl
 f316:=Tryz.func90.trans (congrArg some (by kernel_rfl))
 t0:=Tryz.underlying0
 a0:=Tryz.isAgg0
 z0:=Tryz.sizeOf0
 v0:=Tryz.zeroValue0
 t3:=Tryz.underlying3
 a3:=Tryz.isAgg3
 z3:=Tryz.sizeOf3
 v3:=Tryz.zeroValue3
 t4:=Tryz.underlying4
 a4:=Tryz.isAgg4
 z4:=Tryz.sizeOf4
 v4:=Tryz.zeroValue4
 t9:=Tryz.underlying9
 a9:=Tryz.isAgg9
 z9:=Tryz.sizeOf9
 v9:=Tryz.zeroValue9
 t37:=Tryz.underlying51
 a37:=Tryz.isAgg51
 z37:=Tryz.sizeOf51
 v37:=Tryz.zeroValue51
 t127:=Tryz.underlying210
 a127:=Tryz.isAgg210
 z127:=Tryz.sizeOf210
 v127:=Tryz.zeroValue210
 t5:=Tryz.underlying5
 a5:=Tryz.isAgg5
 z5:=Tryz.sizeOf5
 v5:=Tryz.zeroValue5
 i0:=by kernel_rfl
 i3:=by kernel_rfl
 i4:=by kernel_rfl
 i5:=by kernel_rfl
 i9:=by kernel_rfl
 i37:=by kernel_rfl
 i127:=by kernel_rfl}
open Go.RowKit in
theorem Tryz.stringslite_Clone(s:ByteArray)(w:World)(I:s.size<=281474976710656):
  Calls Tryz.prog 90 #[xj s] w fun e w'=>e=xm (xj s)/\Below w.heap.size w w':=Any.stringslite_Clone Tryz.laysM316 s w I
end Go.Proofs
namespace Go.Proofs.YtidakhhekofkoaaGreatDoor
open Go.RowKit
open Value renaming slice -> xa, int -> xd, string -> xj, pointer -> xk, bool -> xn
open IntKind renaming i64 -> xh
open Obj renaming cells -> xi
open Ending renaming returned -> xm
variable {w w' W w2:World} {b base:Nat} {o:Obj} {p:Prop} {a:Bool} {v:Value} {xs:List Value} {t:Tk} {r:List Tk} {c:UInt8}
theorem vW(h:Below w.heap.size w w')(e:w.heap[b]? =some o):w'.heap[b]? =some o:=by
 rcases Nat.lt_or_ge b w.heap.size with hb|hb
 ·exact(h.block b hb).trans e
 simp_all
theorem gz:Below w.heap.size w (w.alloc o):=(Below.refl _ _).alloc (Nat.le_refl _) _
theorem iz(w:World)(o:Obj):Below w.heap.size w (w.alloc o):=gz
theorem Kw{a:World}(h:Below a.heap.size a w)(k:Below w.heap.size w w'):Below a.heap.size a w':=h.trans (k.mono h.size)
theorem fa(h:p):Hid p:=h
theorem Mp(h:Hid p):p:=h
theorem jG{b:Bool}(h:a=b):xm (xn a)=xm (xn b):=by rw[h]
theorem pL{k:IntKind}{a b:Int}(h:a=b):xm (xd k a)=xm (xd k b):=by rw[h]
theorem fL{e size n:Nat}(h:w.ownsRow base e size v n xs)(U:Below w.heap.size w w'):w'.ownsRow base e size v n xs:=by
 obtain⟨R,J⟩:=h;refine⟨R, ?_⟩;rcases J with J|⟨g,cap,cur,hv,hg,hh,r⟩
 ·simp_all
 have I:g<w.heap.size:=by
  rcases Nat.lt_or_ge g w.heap.size with h|h
  ·omega
  simp_all
 exact Or.inr ⟨g,cap,cur,hv,hg,by rw[U.block g I];omega,r⟩
theorem gG{e size n:Nat}(h:w.ownsRow base e size v n xs): ∀k,v.ownBlock=some k->base<=k/\k<w.heap.size:=by
 intro k I;obtain⟨_,J|⟨g,cap,cur,R,hg,hh,_⟩⟩:=h
 ·rw[J.1] at I;cases I
 rw[R] at I;cases I;refine⟨hg, ?_⟩;rcases Nat.lt_or_ge g w.heap.size with h|h
 ·omega
 simp_all
theorem rM{row:Option Nat}(hg:W.grownBy w2 row)(I:b<W.heap.size)(hr: ∀k,row=some k->k≠b)(o:Nat):w2.cell? ⟨b,o,none⟩=W.cell? ⟨b,o,none⟩:=
 World.cell?_of_block (a:=⟨b,o,none⟩) (hg.block b I (fun e=>hr b e.symm rfl))
open Go.Deep
abbrev Fm:=BT (Nat × ByteArray × Nat)
def leaf(k:Nat)(s:ByteArray)(p:Nat):Fm:= .node 0 0 (k,s,p) .nil .nil
def one(k:Nat)(f:Fm):Fm:= .node 0 0 (k,ByteArray.empty,0) f .nil
def two(k:Nat)(f g:Fm):Fm:= .node 0 0 (k,ByteArray.empty,0) f g
def lj(k:Nat):Nat:=if k=17 then 4 else if k=9 then 5 else if k=10 then 6 else if k=11 then 7 else if k=12 then 8 else 0
abbrev Rd:=Except Nat (Fm × List Tk)
def gu(l:List Tk):Nat:=match l with|[]=>0|t::_=>t.k
def I6(l:List Tk):ByteArray:=match l with|[]=>ByteArray.empty|t::_=>t.s
def gQ(l:List Tk):Nat:=match l with|[]=>0|t::_=>t.p
def pf:Nat->Nat->Fm->List Tk->Rd
 |0,_,_,l=> .error (gQ l)
 |n+1,0,_,l=>match pf n 1 .nil l with
  | .error q=> .error q
  | .ok (a,l1)=>if gu l1=14 then (match pf n 0 .nil l1.tail with| .error q=> .error q| .ok (b,l2)=> .ok (two 12 a b,l2)) else .ok (a,l1)
 |n+1,1,_,l=>match pf n 2 .nil l with
  | .error q=> .error q
  | .ok (a,l1)=>pf n 5 a l1
 |n+1,2,_,l=>match pf n 3 .nil l with
  | .error q=> .error q
  | .ok (a,l1)=>pf n 6 a l1
 |n+1,3,_,l=>match pf n 4 .nil l with
  | .error q=> .error q
  | .ok (a,l1)=>if gu l1=13 then (match pf n 4 .nil l1.tail with| .error q=> .error q| .ok (b,l2)=> .ok (two 9 a b,l2)) else .ok (a,l1)
 |n+1,4,_,l=>
   if lj (gu l)≠0 then (match pf n 4 .nil l.tail with| .error q=> .error q| .ok (a,l1)=> .ok (one (lj (gu l)) a,l1))
   else if gu l=18 then (match pf n 0 .nil l.tail with| .error q=> .error q| .ok (a,l1)=>if gu l1=19 then .ok (a,l1.tail) else .error (gQ l1))
   else if gu l=6\/gu l=7\/gu l=8 then .ok (leaf (gu l - 5) ByteArray.empty 0,l.tail)
   else if gu l=2 then .ok (leaf 0 (I6 l) (gQ l),l.tail)
   else .error (gQ l)
 |n+1,5,f,l=>if gu l=15 then (match pf n 2 .nil l.tail with| .error q=> .error q| .ok (b,l1)=>pf n 5 (two 11 f b) l1) else .ok (f,l)
 |n+1,6,f,l=>if gu l=16 then (match pf n 3 .nil l.tail with| .error q=> .error q| .ok (b,l1)=>pf n 6 (two 10 f b) l1) else .ok (f,l)
 |_+1,_+7,f,l=> .ok (f,l)
theorem ju: ∀n ad f l J I,pf n ad f l= .ok (J,I)->I.length<=l.length
 |0,_,_,_,_,_,h=>zv
 |n+1,0,f,l,J,I,h=>by
  rw[pf] at h
  split at h
  ·cases h
  rename_i a l1 e
  have R:=ju n 1 .nil l a l1 e
  split at h
  ·split at h
   ·cases h
   rename_i b l2 e2
   have U:=ju n 0 .nil l1.tail b l2 e2;cases h;simp at U;omega
  simp_all
 |n+1,1,f,l,J,I,h=>by
  rw[pf] at h
  split at h
  ·cases h
  rename_i a l1 e
  have R:=ju n 2 .nil l a l1 e;have U:=ju n 5 a l1 J I h;omega
 |n+1,2,f,l,J,I,h=>by
  rw[pf] at h
  split at h
  ·cases h
  rename_i a l1 e
  have R:=ju n 3 .nil l a l1 e;have U:=ju n 6 a l1 J I h;omega
 |n+1,3,f,l,J,I,h=>by
  rw[pf] at h
  split at h
  ·cases h
  rename_i a l1 e
  have R:=ju n 4 .nil l a l1 e
  split at h
  ·split at h
   ·cases h
   rename_i b l2 e2
   have U:=ju n 4 .nil l1.tail b l2 e2;cases h;simp at U;omega
  simp_all
 |n+1,4,f,l,J,I,h=>by
  rw[pf] at h
  split at h
  ·split at h
   ·cases h
   rename_i a l1 e
   have R:=ju n 4 .nil l.tail a l1 e;cases h;simp at R;omega
  split at h
  ·split at h
   ·cases h
   rename_i a l1 e
   have R:=ju n 0 .nil l.tail a l1 e
   split at h
   ·cases h;simp at R|-;omega
   cases h
  split at h
  ·cases h;simp
  split at h
  ·cases h;simp
  cases h
 |n+1,5,f,l,J,I,h=>by
  rw[pf] at h
  split at h
  ·split at h
   ·cases h
   rename_i b l1 e
   have R:=ju n 2 .nil l.tail b l1 e;have U:=ju n 5 _ l1 J I h;simp at R;omega
  simp_all
 |n+1,6,f,l,J,I,h=>by
  rw[pf] at h
  split at h
  ·split at h
   ·cases h
   rename_i b l1 e
   have R:=ju n 3 .nil l.tail b l1 e;have U:=ju n 6 _ l1 J I h;simp at R;omega
  simp_all
 |n+1,k+7,f,l,J,I,h=>by
  rw[pf] at h;simp_all
def Ends:List Tk->Prop
 |[]=>False
 |[t]=>t.k<=1
 |t::r=>2<=t.k/\Ends r
theorem Ends.ne{l:List Tk}(h:Ends l):l≠[]:=by rintro rfl;exact h
theorem Ends.tail(h:Ends (t::r))(hk:2<=t.k):Ends r:=by
 cases r with
 |nil=>exact absurd (show t.k<=1 from h) zo
 |cons u r=>exact h.2
def lB(k:Nat):List UInt8:=
 if k=4 then [97,99,116,115] else if k=5 then [114,117,108,101] else if k=6 then [116,114,117,101] else if k=7 then [102,97,108,115,101] else if k=8 then [101,110,100] else
 if k=9 then [88] else if k=10 then [78] else if k=11 then [70] else if k=12 then [71] else if k=13 then [85] else if k=14 then [45,62] else
 if k=15 then [124] else if k=16 then [38] else if k=17 then [33] else if k=18 then [40] else if k=19 then [41] else if k=20 then [44] else if k=21 then [59] else []
def qI(t:Tk):Prop:=t.k<=21/\(4<=t.k->t.s.data.toList=lB t.k)/\(t.k=3-> ∃c:UInt8,t.s.data.toList=[c]/\48<=c.toNat/\c.toNat<=57)/\(t.k<=3->t.s.data.toList≠[40])
theorem E6: ∀a:Fin 22,∀b:Fin 22,4<=a.val->4<=b.val->lB a.val=lB b.val->a=b:=zd
theorem AO{a:Nat}(ha:a<=21)(hb:b<=21)(I:4<=a)(J:4<=b)(h:lB a=lB b):a=b:=by
 have:=E6 ⟨a,zo⟩ ⟨b,zo⟩ I J h;simp_all
theorem lY(s:ByteArray)(j:Nat)(h:j<s.size):(s.extract j (j+1)).data.toList=[s[j]]:=by
 rw[Lib.extract_data,drop_at s j h];simp
theorem Ef(l:List UInt8):jx l<=21/\(4<=jx l->l=lB (jx l))/\jx l≠3:=by
 unfold jx
 repeat' split
 all_goals (refine⟨zo,fun h=> ?_,zo⟩)
 all_goals trivial
theorem DW(c:UInt8):jo c.toNat<=21/\(4<=jo c.toNat->[c]=lB (jo c.toNat))/\jo c.toNat≠3:=by
 have aux: ∀n:Nat,∀hn:n<256,jo n<=21/\(4<=jo n->[UInt8.ofNat n]=lB (jo n))/\jo n≠3:=by
  intro n hn;have:=(by decide+kernel: ∀m:Fin 256,jo m.val<=21/\(4<=jo m.val->[UInt8.ofNat m.val]=lB (jo m.val))/\jo m.val≠3) ⟨n,hn⟩;exact this
 have:=aux c.toNat (UInt8.toNat_lt c);simp_all
theorem Ax(s:ByteArray)(j k:Nat)(h:j<s.size)(hk:j<k): ∃r,(s.extract j k).data.toList=s[j]::r:=by
 rw[Lib.extract_data,drop_at s j h];obtain⟨m,hm⟩: ∃m,k - j=m+1:=⟨k - j - 1,zo⟩;simp_all
theorem Ij(h:jo c.toNat<=3):[c]≠[40]:=by
 intro e;have:c=40:=za;subst this;trivial
theorem vt(s:ByteArray)(j:Nat):qI (gT s j):=by
 unfold gT qI
 split
 ·rename_i hj
  split
  ·rename_i I
   have:=Ef (s.extract j (gP isLet s j)).data.toList;refine⟨this.1,this.2.1,fun h=>absurd h this.2.2,fun _=> ?_⟩;have J:=nL isLet s (j+1);rw[<-ny isLet s j hj I] at J;obtain⟨r,hr⟩:=Ax s j (gP isLet s j) hj zo;show(s.extract j (gP isLet s j)).data.toList≠[40];rw[hr];intro e;have:s[j]=40:=za;rw[this] at I;trivial
  split
  ·rename_i R
   refine⟨zp,fun h=>absurd (show 4<=3 from h) zo,fun _=>⟨s[j],lY s j hj,R⟩,fun _=> ?_⟩;show(s.extract j (j+1)).data.toList≠[40];rw[lY s j hj];intro e;simp_all
  split
  ·split
   ·exact⟨zp,fun _=>rfl,fun h=>absurd (show 14=3 from h) zo,fun h=>absurd (show 14<=3 from h) zo⟩
   exact zm79
  exact zm79
 simp
theorem q9(s:ByteArray): ∀n i,∀t∈jg s n i,qI t
 |0,_,t,h=>by simp[jg] at h
 |n+1,i,t,h=>by
  by_cases hk:(gT s (gP gZ s i)).k<=1
  ·rw[lI s n i hk] at h;simp at h;subst h;exact vt s _
  rw[nA s n i hk] at h;rcases List.mem_cons.1 h with rfl|h
  ·exact vt s _
  exact q9 s n _ t h
theorem yI(s:ByteArray): ∀n i,i<=s.size->s.size<n+i->Ends (jg s n i)
 |0,i,h,h'=>zo
 |n+1,i,h,h'=>by
  by_cases hk:(gT s (gP gZ s i)).k<=1
  ·rw[lI s n i hk];exact hk
  rw[nA s n i hk];have I:=re s i h hk;have:=yI s n _ I.2 zo;cases hr:jg s n ((gT s (gP gZ s i)).p+(gT s (gP gZ s i)).s.size) with
  |nil=>rw[hr] at this;exact absurd this id
  |cons u r=>rw[hr] at this;exact⟨zo,this⟩
theorem pX(s:ByteArray): ∀n i,i<=s.size->(jg s n i).length+i<=s.size+1
 |0,i,h=>by simp[jg];omega
 |n+1,i,h=>by
  by_cases hk:(gT s (gP gZ s i)).k<=1
  ·rw[lI s n i hk];simp;omega
  rw[nA s n i hk];have I:=re s i h hk;have:=pX s n _ I.2;simp;omega
structure Rl where
 pl:Nat
 call:Bool
 word:Tk
 args:List Tk
 fin:Nat
 f:Fm
def kX(l:List Tk):Tk:=match l with|[]=>⟨0,ByteArray.empty,0⟩|t::_=>t
def tU:Tk:=⟨0,ByteArray.empty,0⟩
def gS(l : List Tk) : Except Nat (Rl × List Tk) :=
  if gu l = 2 /\ gu l.tail = 18 then
    (if gu l.tail.tail = 2 then
      (if gu l.tail.tail.tail = 20 then
        (if gu l.tail.tail.tail.tail = 2 \/ gu l.tail.tail.tail.tail = 3 then
          (if gu l.tail.tail.tail.tail.tail = 19 then .ok (⟨0, true, kX l, [kX l.tail.tail, kX l.tail.tail.tail.tail], gQ l.tail.tail.tail.tail.tail, .nil⟩, l.tail.tail.tail.tail.tail.tail)
           else .error (gQ l.tail.tail.tail.tail.tail))
         else .error (gQ l.tail.tail.tail.tail))
       else if gu l.tail.tail.tail = 19 then .ok (⟨0, true, kX l, [kX l.tail.tail], gQ l.tail.tail.tail, .nil⟩, l.tail.tail.tail.tail)
       else .error (gQ l.tail.tail.tail))
     else .error (gQ l.tail.tail))
  else (match pf (6 * l.length + 5) 0 .nil l with
    | .error q => .error q
    | .ok (f, l1) => .ok (⟨0, false, tU, [], 0, f⟩, l1))
def iG : Nat -> List Tk -> Except Nat (List Tk × List Tk)
  | 0, l => .error (gQ l)
  | n + 1, l => if gu l = 2 then
      (if gu l.tail = 20 then (match iG n l.tail.tail with | .error q => .error q | .ok (ts, l1) => .ok (kX l :: ts, l1))
       else .ok ([kX l], l.tail))
    else .error (gQ l)
def iI:Nat->List Tk->Except Nat (List Rl)
 |0,l=> .error (gQ l)
 |n+1,l=>if gu l=0 then .ok []
  else if gu l=5 then (match gS l.tail with
   | .error q=> .error q
   | .ok (r,l1)=>if gu l1=21 then (match iI n l1.tail with| .error q=> .error q| .ok rs=> .ok ({r with pl:=gQ l}::rs)) else .error (gQ l1))
  else .error (gQ l)
def gW(l:List Tk):Except Nat (List Tk × List Rl):=
 if gu l=4 then (match iG l.length l.tail with
  | .error q=> .error q
  | .ok (aZ,l1)=>if gu l1=21 then (match iI l1.length l1.tail with| .error q=> .error q| .ok rs=> .ok (aZ,rs)) else .error (gQ l1))
 else .error (gQ l)
def meet(x:Nat × Nat)(p e:Nat):Nat × Nat:=if x.2=0\/p<x.1\/(p=x.1/\e<x.2) then (p,e) else x
def meets(x:Nat × Nat)(l:List (Nat × Nat)):Nat × Nat:=l.foldl (fun x f=>meet x f.1 f.2) x
theorem jF(x:Nat × Nat)(l m:List (Nat × Nat)):meets x (l++m)=meets (meets x l) m:=List.foldl_append
def iH(al:List Tk)(s:ByteArray):Bool:=
 match al with
 |[]=>false
 |t::r=>if t.s.toList=s.toList then true else iH r s
def iW(al:List Tk)(s:ByteArray)(p:Nat):List (Nat × Nat):=(if 8<s.size then [(p,1)] else [])++(if iH al s=true then [] else [(p,3)])
def pT(al:List Tk):Fm->List (Nat × Nat)
 | .nil=>[]
 | .node _ _ a l r=>(if a.1=0 then iW al a.2.1 a.2.2 else [])++(pT al l++pT al r)
def gR(l:List UInt8):Nat:=
 if l=[105,110,105,116] then 0 else if l=[108,97,115,116] then 1 else if l=[115,111,109,101] then 2 else if l=[102,101,119] then 3 else
 if l=[114,101,115,112,111,110,115,101] then 4 else if l=[112,114,101,99,101,100,101] then 5 else if l=[99,104,97,105,110] then 6 else if l=[98,101,102,111,114,101] then 7 else
 if l=[119,105,116,104] then 8 else if l=[97,112,97,114,116] then 9 else if l=[110,101,118,101,114] then 10 else if l=[110,111,116,110,101,120,116] then 11 else 12
def ir(k:Nat):List UInt8:=if k<=1 then [110] else if k<=3 then [110,100] else if k<=11 then [110,110] else []
def gV(s:ByteArray):Fm:=leaf 0 s 0
def lg(a:ByteArray):Nat->Fm
 |0=>one 7 (gV a)
 |1=>one 7 (gV a)
 |n+2=>one 7 (two 10 (gV a) (one 5 (lg a (n+1))))
def i'(k:Nat)(a b:ByteArray)(n:Nat):Fm:=
 if k=0 then gV a
 else if k=1 then one 7 (two 10 (gV a) (one 4 (one 5 (leaf 1 ByteArray.empty 0))))
 else if k=2 then lg a n
 else if k=3 then one 4 (lg a n)
 else if k=4 then one 8 (two 12 (gV a) (one 7 (gV b)))
 else if k=5 then two 11 (two 9 (one 4 (gV b)) (gV a)) (one 8 (one 4 (gV b)))
 else if k=6 then one 8 (two 12 (gV a) (one 5 (gV b)))
 else if k=7 then two 10 (one 4 (gV b)) (one 8 (two 12 (one 5 (gV b)) (gV a)))
 else if k=8 then two 12 (one 7 (gV a)) (one 7 (gV b))
 else if k=9 then one 4 (two 10 (one 7 (gV a)) (one 7 (gV b)))
 else if k=10 then one 8 (two 12 (gV a) (one 6 (one 8 (one 4 (gV b)))))
 else one 8 (two 12 (gV a) (one 4 (one 5 (gV b))))
def gF:Fm->Nat
 | .nil=>0
 | .node _ _ _ l r=>1+gF l+gF r
def iq(kinds:List UInt8)(t:Tk):Bool:=
 match kinds with
 |[]=>true
 |c::_=>if t.k=2 then !(c.toNat==110) else if c.toNat=100 then (match t.s.data.toList with|d::_=>decide (d.toNat<49)||decide (51<d.toNat)|[]=>false) else true
def qK(al:List Tk)(kinds:List UInt8)(t:Tk):List (Nat × Nat):=(if t.k=2 then iW al t.s t.p else [])++(if iq kinds t=true then [(t.p,4)] else [])
def fArgs(al:List Tk):List UInt8->List Tk->List (Nat × Nat)
 |_,[]=>[]
 |kinds,t::r=>qK al kinds t++fArgs al kinds.tail r
def l9(al:List Tk)(r:Rl):List (Nat × Nat):=
 (if 8<r.word.s.size then [(r.word.p,1)] else [])++((if gR r.word.s.toList<=11 then [] else [(r.word.p,3)])++(fArgs al (ir (gR r.word.s.toList)) r.args++(if r.args.length<(ir (gR r.word.s.toList)).length then [(r.fin,4)] else [])))
end Go.Proofs.YtidakhhekofkoaaGreatDoor
namespace Go.Proofs
open Go.Shelf
open Value renaming slice -> xa, int -> xd, string -> xj, pointer -> xk, bool -> xn
open IntKind renaming i64 -> xh
open Obj renaming cells -> xi
open Ending renaming returned -> xm
def Tryz.lays110_ren:Go.Shelf.Ren:=⟨fun|110=>77|109=>123|n=>n,fun|31=>25|9=>9|4=>4|3=>3|0=>0|n=>n,fun|n=>n⟩
theorem Tryz.lays110:Go.Proofs.Lays.n110 Tryz.prog Tryz.lays110_ren:={
 mixed:=by kernel_rfl
 f109:=Tryz.func123.trans (congrArg some (by kernel_rfl))
 f110:=Tryz.func77.trans (congrArg some (by kernel_rfl))
 t0:=Tryz.underlying0
 a0:=Tryz.isAgg0
 z0:=Tryz.sizeOf0
 v0:=Tryz.zeroValue0
 t3:=Tryz.underlying3
 a3:=Tryz.isAgg3
 z3:=Tryz.sizeOf3
 v3:=Tryz.zeroValue3
 t4:=Tryz.underlying4
 a4:=Tryz.isAgg4
 z4:=Tryz.sizeOf4
 v4:=Tryz.zeroValue4
 t9:=Tryz.underlying9
 a9:=Tryz.isAgg9
 z9:=Tryz.sizeOf9
 v9:=Tryz.zeroValue9
 t31:=Tryz.underlying25
 a31:=Tryz.isAgg25
 z31:=Tryz.sizeOf25
 v31:=Tryz.zeroValue25}
open Go.Lib in
theorem Tryz.slices_Contains_string(b off n c:Nat)(J:List ByteArray)(x:ByteArray)(w:World)(R:n<=J.length)(I:n<=9223372036854775807)(hc: ∀j,j<J.length->w.cell? ⟨b,off+j,none⟩=some (xj (J.getD j ByteArray.empty))):
  Calls Tryz.prog 77 #[xa (some ⟨b,off,none⟩) n c,xj x] w fun e w'=>e=xm (xn (Lib.containsS (J.take n) x))/\w'=w:=Any.slices_Contains_string Tryz.lays110 b off n c J x w R I hc
def Tryz.laysNm216_ren:Go.Shelf.Ren:=⟨fun|16=>82|n=>n,fun|24=>25|9=>9|4=>4|n=>n,fun|n=>n⟩
theorem Tryz.laysNm216:Go.Proofs.Lays2.n16 Tryz.prog Tryz.laysNm216_ren:={
 mixed:=by kernel_rfl
 f16:=Tryz.func82.trans (congrArg some (by kernel_rfl))
 t4:=Tryz.underlying4
 a4:=Tryz.isAgg4
 z4:=Tryz.sizeOf4
 v4:=Tryz.zeroValue4
 t9:=Tryz.underlying9
 a9:=Tryz.isAgg9
 z9:=Tryz.sizeOf9
 v9:=Tryz.zeroValue9
 t24:=Tryz.underlying25
 a24:=Tryz.isAgg25
 z24:=Tryz.sizeOf25
 v24:=Tryz.zeroValue25
 i9:=by kernel_rfl}
open Go.RowKit Go.Lib in
theorem Tryz.slices_Clone_string(b off n c:Nat)(J:List ByteArray)(w:World)(U:n<=J.length)(I:n * 16<=140737488355328)(hc: ∀j,j<J.length->w.cell? ⟨b,off+j,none⟩=some (xj (J.getD j ByteArray.empty))):
  Calls Tryz.prog 82 #[xa (some ⟨b,off,none⟩) n c] w fun e w'=> ∃R,e=xm R/\w'.ownsRow w.heap.size 9 1 R n ((J.take n).map (xj))/\R≠ xa none 0 0/\Below w.heap.size w w':=Any.slices_Clone_string Tryz.laysNm216 b off n c J w U I hc
end Go.Proofs
namespace Go.Proofs.YtidakhhekofkoaaGreatDoor
open Go.RowKit
open Value renaming slice -> xa, int -> xd, string -> xj, pointer -> xk, bool -> xn
open IntKind renaming i64 -> xh
open Obj renaming cells -> xi
open Ending renaming returned -> xm
variable {t:Tk} {a p:Int} {b:ByteArray} {w:World}
theorem nU(c:UInt8)(w:World):
  Calls Tryz.prog 186 #[xd .u8 (c.toNat:Int)] w fun e w'=>e=xm (xn (isLet c))/\w'=w:=by
 by_cases h:(97:Int)<=(c.toNat:Int)
 all_goals
  go_in;go_wp2;go_ret
 ·refine⟨jG ?_,rfl⟩;have I:97<=c.toNat:=zo;simp only[isLet,I,decide_true,Bool.true_and];rw[decide_eq_decide];omega
 ·refine⟨jG ?_,rfl⟩;have I:¬ 97<=c.toNat:=zo;simp[isLet,I]
theorem vK(s:ByteArray)(w:World):
  Calls Tryz.prog 185 #[xj s] w fun e w'=>e=xm (xn (isWord s.data.toList))/\w'=w:=by
 rw[<-ByteArray.toList_eq];go_in;go_wp2
 all_goals (go_ret;exact⟨by simp[isWord,Bool.or_assoc, *],rfl⟩)
theorem xG(s:ByteArray)(c:UInt8)(w:World)(hs:s.size<=maxLen):
  Calls Tryz.prog 279 #[xj s,xd .u8 (c.toNat:Int)] w fun e w'=>e=xm (xn (lC s.data.toList c))/\w'=w:=by
 unfold maxLen at hs;go_in;go_wp2
 go_loop [5] (fun i=> ∃k:Nat,k<=s.size/\i=xd xh k/\Hid (lC s.data.toList c=lC (s.data.toList.drop k) c)) (fun i=>s.size - (intOf i).toNat)
 ·exact zm77
 obtain⟨k,hk,rfl,H⟩:=hrel;by_cases hlt:k<s.size
 ·go_wp2
  ·go_ret;have e:((s[k].toNat:Int)==(c.toNat:Int))=true:=by assumption
   exact⟨jG (by rw[H.out,GY s c k hlt (by have:=eq_of_beq e;omega)]),rfl⟩
  have e:((s[k].toNat:Int)==(c.toNat:Int))=false:=by assumption
  go_round
  ·exact⟨k+1,zo,zf,H.trans (Jr s c k hlt (by have:=ne_of_beq_false e;omega))⟩
  simp[intOf];omega
 go_wp2;go_ret;exact⟨jG (by rw[H.out,GX s c k zo]),rfl⟩
def gM(k:Nat):Int:=if k=0 then 101 else if k=1 then 63 else if k=2 then 110 else if k=3 then 100 else if k<=8 then 119 else 111
def jY(t:Tk):Value:= .agg #[xd .u8 (gM t.k),xj t.s,xd xh t.p]
theorem FD{k:Nat}(h:4<=k/\k<=8):gM k=119:=by unfold gM;omega
theorem FC{k:Nat}(h:9<=k):gM k=111:=by unfold gM;omega
theorem qq{s:ByteArray}{i k:Nat}(I:Hid (gP gZ s i=k))(h:gT s k=t)(J:gM t.k=a)(R:t.s=b)(U:(t.p:Int)=p):
  xm (.agg #[xd .u8 a,xj b,xd xh p])=xm (jY (gT s (gP gZ s i))):=by
 rw[I.out,h,jY,J,R,U]
theorem FZ(s:ByteArray)(i:Nat)(hs:s.size<=maxLen)(hi:i<=s.size):Calls Tryz.prog 244 #[xj s,xd xh i] w fun e w'=>e=xm (jY (gT s (gP gZ s i)))/\Below w.heap.size w w':=by
 unfold maxLen at hs;have fin: ∀c1:Array Value,Below w.heap.size w (w.alloc (xi c1 232)):=fun c1=>gz
 have I:=fa fin;go_in;go_wp2
 go_loop [1] (fun x=> ∃k:Nat,k<=s.size/\x=xd xh k/\Hid (gP gZ s i=gP gZ s k)) (fun x=>s.size - (intOf x).toNat)
 ·exact⟨i,hi,rfl,rfl⟩
 obtain⟨k,hk,rfl,H⟩:=hrel;by_cases hlt:k<s.size
 ·by_cases hb:gZ s[k]=true
  ·have HB:=fa hb;go_wp2
   rotate_right
   ·exfalso;have U:(((s[k].toNat:Int)==32)=false/\((s[k].toNat:Int)==9)=false)/\((s[k].toNat:Int)==10)=false:=by assumption
    have:=HB.out;simp only[gZ,Bool.or_eq_true,beq_iff_eq,beq_eq_false_iff_ne] at this U;omega
   all_goals
    go_round
    case rel=>exact⟨k+1,zo,zf,H.trans (ny gZ s k hlt HB)⟩
    case measure=>simp[intOf];omega
  have hb':gZ s[k]=false:=za;have h32:((s[k].toNat:Int)==32)=false:=by
   exact zm45
  have h9:((s[k].toNat:Int)==9)=false:=by
   exact zm45
  have h10:((s[k].toNat:Int)==10)=false:=by
   exact zm45
  have hz:((k:Int)==(s.size:Int))=false:=beq_eq_false_iff_ne.2 zo;have R:=fa (H.trans (pN gZ s k hlt hb'));go_wp2
  go_loop [5] (fun x=> ∃j:Nat,k<=j/\j<=s.size/\x=xd xh j/\Hid (gP isLet s k=gP isLet s j)) (fun x=>s.size - (intOf x).toNat)
  ·exact⟨k,Nat.le_refl _,zo,rfl,rfl⟩
  obtain⟨j,hj1,hj2,rfl,HJ⟩:=hrel;by_cases hgo: ∃h:j<s.size,isLet s[j]=true
  ·obtain⟨J,hl⟩:=hgo
   go_wp2_with (refine(nU _ _).mono ?_;rintro e w' ⟨rfl,rfl⟩)
   go_round
   ·exact⟨j+1,zo,zo,zf,HJ.trans (ny isLet s j J hl)⟩
   simp[intOf];omega
  have hJ:gP isLet s k=j:=by
   refine HJ.trans ?_;by_cases J:j<s.size
   ·exact pN isLet s j J za
   exact sn isLet s j zo
  have aa:=fa hJ;have HG:=fa hgo;have hg: ∀h:j<s.size,isLet s[j]=false:=fun h=>by cases hl:isLet s[j] with|false=>rfl|true=>exact absurd ⟨h,hl⟩ HG
  by_cases hkj:k<j
  ·have HN:Hid (gT s k=⟨jx (s.extract k j).data.toList,s.extract k j,k⟩):=by
    have:=AV s k hlt (BJ s k hlt (by rw[aa.out];omega))
    rwa [aa] at this
   by_cases hw:isWord (s.extract k j).data.toList=true
   ·have HW:=fa hw;by_cases J:j<s.size
    all_goals
     go_wp2_with (first|(refine(nU _ _).mono ?_;rintro e w' ⟨rfl,rfl⟩)|(refine(vK _ _).mono ?_;rintro e w' ⟨rfl,rfl⟩;rw[HW.out]))
     exact bodyPost_ret (v:= .agg #[xd .u8 119,xj (s.extract k j),xd xh (k:Int)]) (by simp[results,Tryz.results244,go_sem]) rfl ⟨qq R HN (FD (xH _ HW)) rfl rfl,I _⟩
   have ag:isWord (s.extract k j).data.toList=false:=za;have HW:=fa ag;by_cases J:j<s.size
   all_goals
    go_wp2_with (first|(refine(nU _ _).mono ?_;rintro e w' ⟨rfl,rfl⟩)|(refine(vK _ _).mono ?_;rintro e w' ⟨rfl,rfl⟩;rw[HW.out]))
    exact bodyPost_ret (v:= .agg #[xd .u8 110,xj (s.extract k j),xd xh (k:Int)]) (by simp[results,Tryz.results244,go_sem]) rfl ⟨qq R HN (by rw[Ee HW.out];rfl) rfl rfl,I _⟩
  have aj:j=k:=zo;subst aj;have hl:=hg hlt;have HL:=fa hl
  go_wp2_with (first|(refine(nU _ _).mono ?_;rintro e w' ⟨rfl,rfl⟩)|(refine(xG _ _ _ zd).mono ?_;rintro e w' ⟨rfl,rfl⟩))
  all_goals first
   |(have U:(48:Int)<=(s[j].toNat:Int):=(by assumption);have h2:(s[j].toNat:Int)<=57:=(by assumption);exact bodyPost_ret (v:= .agg #[xd .u8 100,xj (s.extract j (j+1)),xd xh (j:Int)]) (by simp[results,Tryz.results244,go_sem]) rfl ⟨qq R (yK s j hlt zo zo) rfl rfl rfl,I _⟩)
   |(have U:((s[j+1].toNat:Int)==62)=true:=(by assumption);exact bodyPost_ret (v:= .agg #[xd .u8 111,xj ⟨#[45,62]⟩,xd xh (j:Int)]) (by simp[results,Tryz.results244,go_sem]) rfl ⟨qq R (yJ s j hlt zo zo (by have:=eq_of_beq U;omega)) rfl rfl rfl,I _⟩)
   |(have U:lC [88,78,70,71,85,124,38,33,40,41,44,59] s[j]=true:=(by assumption);have hn:=vu s j hlt HL zo (by rintro⟨a,h2,b⟩;first|omega|simp_all);exact bodyPost_ret (v:= .agg #[xd .u8 111,xj (s.extract j (j+1)),xd xh (j:Int)]) (by simp[results,Tryz.results244,go_sem]) rfl ⟨qq R hn (FC (FJ U)) rfl rfl,I _⟩)
   |(have U:lC [88,78,70,71,85,124,38,33,40,41,44,59] s[j]=false:=(by assumption);have hn:=vu s j hlt HL zo (by rintro⟨a,h2,b⟩;first|omega|simp_all);exact bodyPost_ret (v:= .agg #[xd .u8 63,xj (s.extract j (j+1)),xd xh (j:Int)]) (by simp[results,Tryz.results244,go_sem]) rfl ⟨qq R hn (by rw[Co U];rfl) rfl rfl,I _⟩)
 have hz:((k:Int)==(s.size:Int))=true:=beq_iff_eq.2 zo;have R:=fa (H.trans (sn gZ s k zo));go_wp2;exact bodyPost_ret (v:= .agg #[xd .u8 101,xj ⟨#[]⟩,xd xh (k:Int)]) (by simp[results,Tryz.results244,go_sem]) rfl ⟨qq R (CN s k zo) rfl rfl za,I _⟩
def iK(L:List Tk):List Value:=L.flatMap fun t=>[xd .u8 (gM t.k),xj t.s,xd xh t.p]
theorem sH(L:List Tk)(t:Tk):iK (L++[t])=iK L++[xd .u8 (gM t.k),xj t.s,xd xh t.p]:=by
 simp[iK]
theorem Tryz.infoTok:(Tryz.prog.info? 232).map (fun i=>(i.zero,i.size,i.bytes))=some (some (.agg #[xd .u8 0,xj ⟨#[]⟩,xd xh 0]),3,32):=zk
theorem ql(k:Nat):(gM k==101)=decide (k=0):=by
 exact zm139
theorem wW(k:Nat):(gM k==63)=decide (k=1):=by
 exact zm139
theorem De(s:ByteArray)(w:World)(hs:s.size<=400):
  Calls Tryz.prog 199 #[xj s] w fun e w'=> ∃v,e=xm v/\w'.ownsRow w.heap.size 232 3 v (jg s (s.size+1) 0).length (iK (jg s (s.size+1) 0))/\Below w.heap.size w w':=by
 have aq:s.size<=maxLen:=by unfold maxLen;omega
 obtain⟨i0,hi,au,av,aw⟩:=info_parts Tryz.infoTok;go_in;go_wp2
 go_loopw [3,4] (fun v x wr=> ∃(k n:Nat) (acc:List Tk),k<=s.size/\s.size<n+k/\acc.length<=k/\x=xd xh k/\Hid (jg s (s.size+1) 0=acc++jg s n k)/\
   wr.ownsRow w.heap.size 232 3 v acc.length (iK acc)/\Below w.heap.size w wr) (fun _ x _=>s.size - (intOf x).toNat)
 ·exact zm158
 obtain⟨k,n,acc,hk,hn,hacc,rfl,H,ae,I⟩:=hrel
 go_wp2_with (refine(FZ s k aq hk).mono ?_)
 rintro e w1 ⟨rfl,aa⟩;have R:=re s k hk;have ai:=lI s (n - 1) k;have ak:=nA s (n - 1) k;generalize gT s (gP gZ s k)=t at *;have HA:=fa R;have HS:=fa ai;have HG:=fa ak;simp only[jY]
 go_wp2_with (at_builtin;go_must (refine wpList_append_own _ rfl _ _ 225 rfl w.heap.size 232 i0 (.agg #[xd .u8 0,xj ⟨#[]⟩,xd xh 0]) 3 32 Tryz.underlying225 hi au av aw rfl zd _ acc.length (iK acc) rfl ?c0 ⟨w1.heap.size+1,0,none⟩ 1 1 [xd .u8 (gM t.k),xj t.s,xd xh t.p] rfl rfl ?c1 ?c2 ?c3 ?c4 ?c5 ?_))
 case c0=>exact((fL ae aa).alloc _).alloc _
 case c1=>
  intro j u U
  match j,U with
  |0,U=>simp at U;subst U;simp[Addr.add]
  |1,U=>simp at U;subst U;simp[Addr.add]
  |2,U=>simp at U;subst U;simp[Addr.add]
  |j+3,U=>simp at U
 case c2=>intro u hu;simp at hu;rcases hu with rfl|rfl|rfl<;>rfl
 case c3=>unfold maxLen;omega
 case c4=>omega
 case c5=>have:=I.size;have:=aa.size;simp;omega
 intro v' w2 ag J _;have ad:=gG ae;have ar:=aa.size;have hc0:w2.cell? ⟨w1.heap.size,0,none⟩=some (xd .u8 (gM t.k)):=(rM J zs (fun k hk=>by have:=ad k hk;omega) 0).trans zp;have hc1:w2.cell? ⟨w1.heap.size,1,none⟩=some (xj t.s):=(rM J zs (fun k hk=>by have:=ad k hk;omega) 1).trans zp;have hc2:w2.cell? ⟨w1.heap.size,2,none⟩=some (xd xh t.p):=(rM J zs (fun k hk=>by have:=ad k hk;omega) 2).trans zp;have HB2:=fa (((((I.trans (aa.mono I.size)).alloc (by have:=I.size;omega) _).alloc (by have:=I.size;simp;omega) _).grown J (by have:=I.size;simp;omega) (fun k hk=>(ad k hk).1)));have HO2:Hid (w2.ownsRow w.heap.size 232 3 v' (acc++[t]).length (iK (acc++[t]))):=by
  rw[sH,List.length_append];exact ag
 have an:n - 1+1=n:=zo;rw[an] at HS HG;by_cases h0:t.k<=1
 ·have HR:Hid (jg s (s.size+1) 0=acc++[t]):=by rw[H.out,HS.out h0];rfl
  by_cases h00:t.k=0
  ·have e1:(gM t.k==101)=true:=by rw[ql];simp_all
   clear h00 h0;exact zm132
  have e1:(gM t.k==101)=false:=by rw[ql];simp_all
  have e2:(gM t.k==63)=true:=by rw[wW];simp;omega
  exact zm132
 have HR:Hid (jg s (s.size+1) 0=(acc++[t])++jg s (n - 1) (t.p+t.s.size)):=by show _=_;rw[H.out,HG.out h0];simp
 have R:=HA h0;have e1:(gM t.k==101)=false:=by rw[ql];simp;omega
 have e2:(gM t.k==63)=false:=by rw[wW];simp;omega
 go_wp2
 go_roundw
 ·exact⟨t.p+t.s.size,n - 1,acc++[t],R.2,zo,zs,zf,HR,HO2,HB2⟩
 simp[intOf];omega
def Lr:MemPlace->Nat
 | .cell b off=>b * 128+off
 | .map b=>b * 128+127
def wu:Nat->List Nat->Bool
 |_,[]=>true
 |acc,k::r=>Nat.beq (Nat.land acc (2^k)) 0&&wu (Nat.lor acc (2^k)) r
theorem yG: ∀(l:List Nat) (acc:Nat),wu acc l=true->l.Nodup/\ ∀k∈l,acc.testBit k=false
 |[],_,_=>⟨List.Pairwise.nil,fun k J=>(List.not_mem_nil J).elim⟩
 |k::r,acc,h=>by
  rw[wu,Bool.and_eq_true] at h;obtain⟨U,h2⟩:=h;obtain⟨h3,h4⟩:=yG r _ h2;have J:acc.testBit k=false:=by
   have e:=Nat.eq_of_beq_eq_true U;have R:(acc&&&2^k).testBit k=(0:Nat).testBit k:=congrArg (fun x=>x.testBit k) e;rw[Nat.testBit_and,Nat.testBit_two_pow_self,Bool.and_true,Nat.zero_testBit] at R;omega
  have h5: ∀x∈r,(acc|||2^k).testBit x=false:=h4;refine⟨List.Pairwise.cons (fun x I e=> ?_) h3,fun x I=> ?_⟩
  ·have:=h5 x I;rw[<-e,Nat.testBit_or,Nat.testBit_two_pow_self,Bool.or_true] at this;trivial
  rcases List.mem_cons.1 I with rfl|I
  ·omega
  simp_all
theorem B8{P:Program}{l:List (String × DataW Unit)}(fuel:Nat)(h:(DataW.laidRun P w fuel (l.map (·.1))).map (·.1)=some l)
  (hr:(DataW.laidRun P w fuel (l.map (·.1))).map (fun x=>wu 0 (x.2.map Lr)&&laidRowsB P w x.2)=some true):laidMet P l w:=by
 cases hx:DataW.laidRun P w fuel (l.map (·.1)) with
 |none=>simp[hx] at h
 |some x=>
  obtain⟨l',ps⟩:=x;simp only[hx,Option.map_some,Option.some.injEq] at h hr;subst h;simp only[Bool.and_eq_true] at hr;have hn:ps.Nodup:=by
   have:=(yG _ _ hr.1).1;exact List.Pairwise.imp (fun {a b} hab e=>hab (by rw[e])) (List.pairwise_map.1 this)
  exact laidMet_of_run fuel hx (decide_eq_true hn) hr.2
end Go.Proofs.YtidakhhekofkoaaGreatDoor
