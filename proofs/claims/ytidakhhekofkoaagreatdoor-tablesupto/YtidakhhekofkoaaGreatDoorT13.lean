import Derived.Test.YtidakhhekofkoaaGreatDoorT11
import Derived.Test.YtidakhhekofkoaaGreatDoorT10
import Derived.Laws.CopyOwn
import Derived.Lib.BufSteps
set_option linter.all false
set_option maxRecDepth 100000
set_option maxHeartbeats 4000000
namespace Go.Proofs.YtidakhhekofkoaaGreatDoor
variable {zq:Prop}
theorem zm32(h:zq:=by
 go_in;go_wp2
 go_loopw [5] (fun x wr=> ∃k:Nat,k<=n/\x=xd xh k/\Hid (w=wr)) (fun x _=>n - (intOf x).toNat)
 ·exact⟨0,Nat.zero_le _,rfl,rfl⟩
 obtain⟨k,hk,rfl,HW⟩:=hrel;have hw:=HW.out;subst hw;clear HW;rcases zc k n with⟨hlt,hkn⟩|⟨hlt,hkn⟩
 ·obtain⟨b,rfl,⟨_,_,hb0⟩,hc⟩:=H.out k hlt;clear hb0;go_wp2
  go_roundw
  ·exact⟨k+1,zo,zf,trivial⟩
  simp[intOf];omega
 go_wp2;go_ret;simp
 ):zq:=h
theorem zm147(h:zq:=by
 rintro e w1 ⟨rfl,hb1⟩;have HB1:=fa hb1;clear hb1;go_wp2;go_ret;exact⟨rfl,gz.trans (HB1.out.mono zp)⟩
 ):zq:=h
theorem zm148(h:zq:=by
 show [xd .u8 83,xd .u8 1,xd .u8 (na:Int)]=jH [83,1,u8 na];unfold jH;simp[ku (show na<256 from zo)]
 ):zq:=h
theorem zm156(h:zq:=by
 go_wp2
 go_roundw
 ·exact⟨k+1,zo,by rw[HTK.out];unfold BC;go_num,zf,trivial⟩
 simp[intOf];omega
 ):zq:=h
theorem zm167(h:zq:=by
 simp only[List.length_cons,List.length_nil];omega
 ):zq:=h
theorem zm172(h:zq:=by
 rw[mR,kA,oH,if_neg (Nat.lt_irrefl _)]
 congr 1
 exact wM (fun i hi=>za)
 ):zq:=h
theorem zm182(h:zq:=by
 unfold jN;generalize (b[0]?).getD false=x;generalize b.any id=y;cases x<;>cases y<;>decide
 ):zq:=h
theorem zm185(h:zq:=by
 clear hbel;go_wp2
 go_roundw
 ·exact⟨k+1,zo,zf,HBF3⟩
 simp[intOf];omega
 ):zq:=h
end Go.Proofs.YtidakhhekofkoaaGreatDoor
namespace Go.Proofs.YtidakhhekofkoaaGreatDoor.Rt
open Go.Proofs.Tryz
open Go.Deep
open Value renaming slice -> xa, int -> xd, string -> xj, pointer -> xk, bool -> xn
open IntKind renaming i64 -> xh
open Obj renaming cells -> xi
open Ending renaming returned -> xm
open List renaming getElem?_eq_getElem -> Mr, replicate -> Ms, getElem_mem -> Mu, take_add_one -> Mx, range -> My, length_append -> MC, take_of_length_le -> MD, getElem?_map -> MF, not_mem_nil -> MJ, cons_append -> MK, mem_of_mem_take -> ML, mem_cons_self -> MN, getElem?_take -> MO, getD_eq_getElem?_getD -> MQ, append_assoc -> MR, take_length -> MT, length_take -> MU, length_map -> MX, getElem?_eq_none -> MY, mem_cons_of_mem -> M', map_cons -> Nb, any_eq_true -> Ni, length_cons -> Nj, getElem_map -> Nk
open Or renaming inr -> Mt, inl -> MM
open Nat renaming lt_of_lt_of_le -> Mw, pow_le_pow_right -> Mz, le_refl -> MH, zero_le -> MI, testBit_and -> MV, eq_of_testBit_eq -> MZ, testBit_two_pow -> Nc, le_trans -> Nf, zero_add -> Nh
open Lib renaming wpList_append_byte -> ME, OwnBuf -> Na
open Go.RowKit.Below renaming refl -> MG, heap_setCell -> MP, heap_alloc -> Nl
open Addr renaming add_lit -> Ng
open Option renaming map_some -> Nn
theorem FE.refl: ∀f:Fm,FE f f
 | .nil=>trivial
 | .node _ _ _ l r=>⟨rfl,fun _=>rfl,FE.refl l,FE.refl r⟩
theorem FE.size: ∀{f g:Fm},FE f g->gF f=gF g
 | .nil,.nil,_=>rfl
 | .node _ _ _ _ _,.node _ _ _ _ _,h=>by show 1+_+_=1+_+_;rw[FE.size h.2.2.1,FE.size h.2.2.2]
 | .nil,.node _ _ _ _ _,h=>False.elim h
 | .node _ _ _ _ _,.nil,h=>False.elim h
end Go.Proofs.YtidakhhekofkoaaGreatDoor.Rt
namespace Go.Proofs.YtidakhhekofkoaaGreatDoor
open Go.Proofs.Tryz
open Rt
open Value renaming slice -> xa, int -> xd, string -> xj, pointer -> xk, bool -> xn
open IntKind renaming i64 -> xh
open Obj renaming cells -> xi
open Ending renaming returned -> xm
open List renaming getElem?_eq_getElem -> Mr, replicate -> Ms, getElem_mem -> Mu, take_add_one -> Mx, range -> My, length_append -> MC, take_of_length_le -> MD, getElem?_map -> MF, not_mem_nil -> MJ, cons_append -> MK, mem_of_mem_take -> ML, mem_cons_self -> MN, getElem?_take -> MO, getD_eq_getElem?_getD -> MQ, append_assoc -> MR, take_length -> MT, length_take -> MU, length_map -> MX, getElem?_eq_none -> MY, mem_cons_of_mem -> M', map_cons -> Nb, any_eq_true -> Ni, length_cons -> Nj, getElem_map -> Nk
open Or renaming inr -> Mt, inl -> MM
open Nat renaming lt_of_lt_of_le -> Mw, pow_le_pow_right -> Mz, le_refl -> MH, zero_le -> MI, testBit_and -> MV, eq_of_testBit_eq -> MZ, testBit_two_pow -> Nc, le_trans -> Nf, zero_add -> Nh
open Lib renaming wpList_append_byte -> ME, OwnBuf -> Na
open Go.RowKit.Below renaming refl -> MG, heap_setCell -> MP, heap_alloc -> Nl
open Addr renaming add_lit -> Ng
open Option renaming map_some -> Nn
variable {al:List Tk} {rs:List Rl} {tr:List ByteArray} {L:List Nd} {ev a:ByteArray} {nx j mx n lb hr base c sc wh M N e B x:Nat} {u':Bool} {G:List Fm} {rows tw':List (List Nat)} {t:Tb} {m:List (List Bool)} {b b':List Bool} {o':Option Tb} {w w' W W' w2 W0 wr:World} {o so:Option Addr} {st:Nat->Nat->Nat} {fr by_:List Int} {mv v:Value} {xs:List Value} {ops:Array Oper} {Q:Exit->Act->World->Prop} {r:List Nat}
def wo:ByteArray:=⟨#[97,99,116,115,32,97,44,98,59,114,117,108,101,32,114,101,115,112,111,110,115,101,40,97,44,98,41,59]⟩
theorem Ly(v:List Nat)(t:Int): ∀i,zT (v.map fun a:Nat=>(a:Int)) t i=zV v t i
 |0=>rfl
 |j+1=>by
  simp only[zT,zV,MF];cases v[j]? with
  |none=>simp
  |some a=>
   simp only[Nn,Option.some.injEq];rfl
def mg(tops:List Int)(p:Bool × List Bool):Bool:=tops.all fun t=>kh p.2 t
theorem B6(h:MGood al rs)(R:NdLow (iF al rs ([],[])).1)(U: ∀x∈tr,iH al x=true){v:List Nat}(J:(tr.map fun x=>oj x 0 al)=v.map fun a:Nat=>(a:Int)):
  mg (iF al rs ([],[])).2 (kQ (rq (iF al rs ([],[])).1) (nP (iF al rs ([],[])).1) v)=rs.all (fun r=>jQ tr.length (sr tr) (gL r) 1):=by
 rw[<-DC h U,KU R v];have I:tr.length=v.length:=by simpa using congrArg List.length J
 have hz:zT (tr.map fun x=>oj x 0 al)=zV v:=by
  rw[J];funext t i;exact Ly v t i
 unfold mg;rw[hz,I];simp only[lH]
theorem AllGood.low(h:AllGood L):NdLow L:=fun i d I=>by
 rcases h i d I with⟨h1,h2,h3⟩|⟨_,h1,⟨a,h2,h3⟩,h4⟩|⟨_,h1,⟨a,h2,h3⟩,b,h4,h5⟩
 ·omega
 ·omega
 omega
theorem MGood.low(h:MGood al rs):NdLow (iF al rs ([],[])).1:=(ti vR al rs _ h.fg (fun i d I=>by simp at I)).low
open Go.Deep
def xA(S:List Sp)(ins:Bool)(ev:ByteArray)(more:Bool)(nx hr k:Nat):Bool:=match S[k]? with
 |some d=>jd d.k ins more (ev.toList==d.s.toList) (hr.testBit d.a) (hr.testBit d.b) (nx.testBit d.a) (nx.testBit k)
 |none=>false
def jv(S:List Sp)(ins:Bool)(ev:ByteArray)(more:Bool)(nx:Nat):Nat->Nat
 |0=>0
 |k+1=>jv S ins ev more nx k+(if xA S ins ev more nx (jv S ins ev more nx k) k=true then 2^k else 0)
def kA(S:List Sp)(ins:Bool)(ev:ByteArray)(more:Bool)(nx:Nat):Nat:=jv S ins ev more nx S.length+(if ins=true then 2^S.length else 0)
theorem oH(S:List Sp)(ins:Bool)(ev:ByteArray)(more:Bool)(nx:Nat): ∀k,jv S ins ev more nx k=mR (fun j=>xA S ins ev more nx (jv S ins ev more nx j) j) k
 |0=>rfl
 |k+1=>by rw[jv,mR,<-oH S ins ev more nx k]
theorem vn(S:List Sp)(ins:Bool)(ev:ByteArray)(more:Bool)(nx k:Nat):jv S ins ev more nx k<2^k:=by rw[oH];exact ur _ _
theorem AJ(S:List Sp)(ins:Bool)(ev:ByteArray)(more:Bool)(nx k:Nat):jv S ins ev more nx k|||2^k=jv S ins ev more nx k+2^k:=by rw[oH];exact JQ
theorem vm{S:List Sp}{ins:Bool}{more:Bool}:kA S ins ev more nx<2^(S.length+1):=by
 have:=vn S ins ev more nx S.length;unfold kA;rw[Nat.pow_succ]
 split<;>omega
theorem EO{S:List Sp}{ins:Bool}{more:Bool}(I:j<S.length):(kA S ins ev more nx).testBit j=xA S ins ev more nx (jv S ins ev more nx j) j:=by
 have e:kA S ins ev more nx=mR (fun i=>if i<S.length then xA S ins ev more nx (jv S ins ev more nx i) i else ins) (S.length+1):=by
  exact zm172
 rw[e,r8 _ _ _ zo,if_pos I]
theorem EP(S:List Sp)(ins:Bool)(ev:ByteArray)(more:Bool)(nx:Nat):(kA S ins ev more nx).testBit S.length=ins:=by
 have e:kA S ins ev more nx=mR (fun i=>if i<S.length then xA S ins ev more nx (jv S ins ev more nx i) i else ins) (S.length+1):=by
  exact zm172
 rw[e,r8 _ _ _ zo,if_neg (Nat.lt_irrefl _)]
theorem EX{S:List Sp}{ins:Bool}{more:Bool}{k:Nat}(I:j<k):(jv S ins ev more nx k).testBit j=xA S ins ev more nx (jv S ins ev more nx j) j:=by
 rw[oH,r8 _ _ _ I]
def Gf(G:List Fm)(n:Nat)(y:ByteArray->Nat->Bool)(p i:Nat):Prop:=(∀j f,G[j]? =some f->p.testBit j=jQ n y f i)/\p.testBit G.length=decide (i<=n)
def vN:Fm->Prop
 | .nil=>True
 | .node _ _ a l r=>a.1<=12/\(a.1=0\/a.1=1\/a.1=2\/a.1=3\/l≠ .nil)/\(a.1<9\/r≠ .nil)/\vN l/\vN r
theorem Fg.kok{Q:Tk->Prop}: ∀{f:Fm},Fg Q f->vN f
 | .nil,h=>False.elim h
 | .node _ _ a l r,h=>by
  rcases h with⟨h1,_,rfl,rfl⟩|⟨h1,rfl,rfl⟩|⟨h1,h2,rfl⟩|⟨h1,h2,h3⟩
  ·exact⟨zo,MM h1,MM zo,trivial,trivial⟩
  ·exact⟨zo,zo,MM zo,trivial,trivial⟩
  ·exact⟨zo,Mt (Mt (Mt (Mt h2.ne))),MM zo,Fg.kok h2,trivial⟩
  exact⟨zo,Mt (Mt (Mt (Mt h2.ne))),Mt h3.ne,Fg.kok h2,Fg.kok h3⟩
theorem vI: ∀{f:Fm},vN f-> ∀g∈kF f,vN g
 | .nil,_,g,hg=>(MJ hg).elim
 | .node u v a l r,h,g,hg=>by
  rw[kF] at hg;rcases List.mem_append.1 hg with hg|hg
  ·rcases List.mem_append.1 hg with hg|hg
   ·exact vI h.2.2.2.1 g hg
   exact vI h.2.2.2.2 g hg
  rcases List.mem_singleton.1 hg with rfl
  exact h
theorem zi(h: ∀r∈rs,vN (gL r)): ∀g∈n7 rs,vN g:=by
 intro g hg;unfold n7 at hg;obtain⟨l,J,I⟩:=List.mem_flatten.1 hg;obtain⟨r,hr,rfl⟩:=List.mem_map.1 J;exact vI (h r hr) g I
theorem pA{k:Nat}(h:k=0\/k=1\/k=2\/k=3){ins more y u v x u2 J I R:Bool}:jd k ins more y u v u' x=jd k ins more y u2 J I R:=by
 rcases h with rfl|rfl|rfl|rfl<;>rfl
theorem FO{k:Nat}(h:k<9){ins more y u v x:Bool}(I:Bool):jd k ins more y u v u' x=jd k ins more y u I u' x:=by
 have h:k=0\/k=1\/k=2\/k=3\/k=4\/k=5\/k=6\/k=7\/k=8:=zo;rcases h with rfl|rfl|rfl|rfl|rfl|rfl|rfl|rfl|rfl<;>rfl
theorem CC{S:List Sp}(hs:StOk S G)(hk: ∀g∈G,vN g)(n:Nat)(y:ByteArray->Nat->Bool)(yy:ByteArray->Nat->Bool)(hy: ∀s i,y s i=(decide (i<=n)&&yy s i))(ev:ByteArray)(i:Nat)
  (hev:i<=n-> ∀s,yy s i=(ev.toList==s.toList))(nx:Nat)(ag:i<=n->Gf G n y nx (i+1)):
  Gf G n y (kA S (decide (i<=n)) ev (decide (i+1<=n)) nx) i:=by
 have key: ∀k,k<=S.length-> ∀j,j<k-> ∀f,G[j]? =some f->xA S (decide (i<=n)) ev (decide (i+1<=n)) nx (jv S (decide (i<=n)) ev (decide (i+1<=n)) nx j) j=jQ n y f i:=by
  intro k
  induction k with
  |zero=>simp
  |succ k ih=>
   intro hkl j hj f hf;by_cases R:j<k
   ·exact ih zo j R f hf
   have R:j=k:=zo;subst R;have ih:=ih zo;obtain⟨d,hd⟩: ∃d,S[j]? =some d:=⟨_,Mr zo⟩;have an:=hs.2 j d f hd hf;have U:=hk f (List.mem_of_getElem? hf);cases f with
   |nil=>trivial
   |node u v a l r=>
    obtain⟨h1,h2,h3,h4⟩:=an;unfold xA;rw[hd];show jd d.k _ _ _ _ _ _ _=mC a.1 (y a.2.1 i) (jQ n y l) (jQ n y r) i n;rw[hy,vy a.1 (yy a.2.1) (jQ n y l) (jQ n y r) i n U.1,h1,h2];have ad:jd a.1 (decide (i<=n)) (decide (i+1<=n)) (ev.toList==a.2.1.toList) (jQ n y l i) (jQ n y r i) (jQ n y l (i+1)) (mC a.1 (decide (i+1<=n)&&yy a.2.1 (i+1)) (jQ n y l) (jQ n y r) (i+1) n)=jd a.1 (decide (i<=n)) (decide (i+1<=n)) (yy a.2.1 i) (jQ n y l i) (jQ n y r i) (jQ n y l (i+1)) (mC a.1 (decide (i+1<=n)&&yy a.2.1 (i+1)) (jQ n y l) (jQ n y r) (i+1) n):=by
     by_cases hi:i<=n
     ·simp_all
     by_cases hk0:a.1=0
     ·rw[hk0,decide_eq_false hi];rfl
     unfold jd;rw[if_neg hk0,if_neg hk0]
    rw[<-ad];have J:i<=n->nx.testBit j=mC a.1 (decide (i+1<=n)&&yy a.2.1 (i+1)) (jQ n y l) (jQ n y r) (i+1) n:=by
     intro hi;rw[(ag hi).1 j _ hf];show mC a.1 (y a.2.1 (i+1)) _ _ _ _=_;rw[hy]
    have hx: ∀u' x u2 x2:Bool,(i<=n->u'=u2)->(i<=n->x=x2)-> ∀u v,jd a.1 (decide (i<=n)) (decide (i+1<=n)) (ev.toList==a.2.1.toList) u v u' x=jd a.1 (decide (i<=n)) (decide (i+1<=n)) (ev.toList==a.2.1.toList) u v u2 x2:=by
     intro u' x u2 x2 e1 e2 u v;by_cases hi:i<=n
     ·simp_all
     rw[decide_eq_false hi,decide_eq_false (show ¬ i+1<=n from zo)];rfl
    have I: ∀b g,b<j->G[b]? =some g->(jv S (decide (i<=n)) ev (decide (i+1<=n)) nx j).testBit b=jQ n y g i:=by
     intro b g hb hg;rw[EX hb];simp_all
    rcases U.2.1 with hk0|hk0|hk0|hk0|hln
    ·exact pA (MM hk0)
    ·exact pA (Mt (MM hk0))
    ·exact pA (Mt (Mt (MM hk0)))
    ·exact pA (Mt (Mt (Mt hk0)))
    rcases h3 with h3|⟨h3,h3'⟩
    ·trivial
    have hl:=I d.a l h3 h3';have ae:=fun hi=>(ag hi).1 d.a l h3'
    rcases U.2.2.1 with hk9|hrn
    ·rw[hl,FO hk9 (jQ n y r i)];exact hx _ _ _ _ ae J _ _
    rcases h4 with h4|⟨h4,h4'⟩
    ·trivial
    rw[hl,I d.b r h4 h4'];exact hx _ _ _ _ ae J _ _
 refine⟨fun j f hf=> ?_, ?_⟩
 ·have hj:j<S.length:=by
   rw[hs.1];rcases Nat.lt_or_ge j G.length with h|h
   ·omega
   simp_all
  rw[EO hj];exact key S.length (MH _) j hj f hf
 rw[<-hs.1,EP]
def n9(S:List Sp):List ByteArray->Nat
 |[]=>kA S false ⟨#[]⟩ false 0
 |ev::r=>kA S true ev ((n9 S r).testBit S.length) (n9 S r)
def yT(tr:List ByteArray)(s:ByteArray)(i:Nat):Bool:=match i with
 |0=>false
 |j+1=>(tr.getD j ⟨#[]⟩).toList==s.toList
theorem I2(tr:List ByteArray)(s:ByteArray)(i:Nat):sr tr s i=(decide (i<=tr.length)&&yT tr s i):=by
 cases i with
 |zero=>rfl
 |succ j=>
  simp only[sr,yT];by_cases h:j<tr.length
  ·rw[Mr h,decide_eq_true (show j+1<=tr.length from zo),Bool.true_and,MQ,Mr h];rfl
  rw[MY zo,decide_eq_false (show ¬ j+1<=tr.length from zo)];rfl
theorem C4{S:List Sp}(hs:StOk S G)(I: ∀g∈G,vN g)(tr:List ByteArray): ∀(c j:Nat),j+c=tr.length->Gf G tr.length (sr tr) (n9 S (tr.drop j)) (j+1)
 |0,j,h=>by
  rw[List.drop_eq_nil_of_le zo,n9];have:=CC hs I tr.length (sr tr) (yT tr) (I2 tr) ⟨#[]⟩ (j+1) (fun U=>zo) 0 (fun U=>zo);rw[decide_eq_false (show ¬ j+1<=tr.length from zo),decide_eq_false (show ¬ j+1+1<=tr.length from zo)] at this;exact this
 |c+1,j,h=>by
  have J:j<tr.length:=zo;have R:=C4 hs I tr c (j+1) zo;have hd:=List.drop_eq_getElem_cons J;rw[hd,n9,hs.1,R.2];have:=CC hs I tr.length (sr tr) (yT tr) (I2 tr) tr[j] (j+1) (fun _ s=>by simp only[yT,MQ,Mr J,Option.getD_some]) (n9 S (tr.drop (j+1))) (fun _=>R);rw[decide_eq_true (show j+1<=tr.length from zo)] at this;exact this
def gY:List Rl->List Sp->Nat->Nat
 |[],_,w=>w
 |r::rs,S,w=>gY rs (hY (gL r) S) (w|||2^((hY (gL r) S).length - 1))
theorem uW(r:Rl): ∀(rs:List Rl) (S:List Sp) (w:Nat),gY (rs++[r]) S w=(gY rs S w|||2^((gD (rs++[r]) S).length - 1))
 |[],S,w=>rfl
 |x::rs,S,w=>by rw[MK,gY,uW r rs];rfl
theorem Dh(p w t:Nat):(p&&&(w|||2^t)==(w|||2^t))=((p&&&w==w)&&p.testBit t):=by
 rw[Bool.eq_iff_iff,Bool.and_eq_true,beq_iff_eq,beq_iff_eq];constructor
 ·intro h;have hb: ∀j,(p.testBit j&&(w.testBit j||decide (t=j)))=(w.testBit j||decide (t=j)):=by
   intro j;have:=congrArg (fun x=>x.testBit j) h;simpa [MV,Nat.testBit_or,Nc] using this
  refine⟨MZ (fun j=> ?_), ?_⟩
  ·simp_all
  simp_all
 rintro⟨I,h2⟩;refine MZ (fun j=> ?_);rw[MV,Nat.testBit_or,Nc];have:=congrArg (fun x=>x.testBit j) I;simp only[MV] at this;by_cases e:t=j
 ·simp_all
 simp_all
theorem BK(n:Nat)(y:ByteArray->Nat->Bool)(p i:Nat): ∀(rs:List Rl) (S:List Sp) (G:List Fm) (w:Nat),StOk S G->(∀r∈rs,gL r≠ .nil)->(∀j f,(G++n7 rs)[j]? =some f->p.testBit j=jQ n y f i)->
  (p&&&gY rs S w==gY rs S w)=((p&&&w==w)&&rs.all (fun r=>jQ n y (gL r) i))
 |[],S,G,w,_,_,_=>by simp[gY]
 |r::rs,S,G,w,hs,hn,hp=>by
  have hr:=hn r (MN ..);have J:=uh (gL r) S G hs;rw[gY,BK n y p i rs _ (G++kF (gL r)) _ J (fun R I=>hn R (M' _ I)) (fun j f hf=>hp j f (by rw[sk,<-MR];omega)),Dh,List.all_cons,Bool.and_assoc]
  congr 2
  have hl:=tN hr G;have e:(hY (gL r) S).length - 1=G.length+gF (gL r) - 1:=by rw[jm,hs.1]
  rw[e];refine hp _ _ ?_;rw[sk,<-MR,List.getElem?_append_left]
  ·omega
  rw[MC,lO];have:=kD hr;omega
theorem G8(h:MGood al rs)(tr:List ByteArray):
  (n9 (gD rs []) tr&&&gY rs [] 0==gY rs [] 0)=rs.all (fun r=>jQ tr.length (sr tr) (gL r) 1):=by
 have hs:StOk (gD rs []) (n7 rs):=by simpa using tM rs [] [] StOk.nil
 have hw:=C4 hs (zi (fun r hr=>(h.fg r hr).kok)) tr tr.length 0 zo;have:=BK tr.length (sr tr) (n9 (gD rs []) tr) 1 rs [] [] 0 StOk.nil (fun r hr=>(h.fg r hr).ne) (fun j f hf=>hw.1 j f zv);simp_all
def oJ(al:List Tk)(a:Nat):ByteArray:=((al[a]?).map (·.s)).getD ⟨#[]⟩
def qD(S:List Sp):Nat:=kA S false ⟨#[]⟩ false 0
def mV(S:List Sp)(al:List Tk)(p a:Nat):Nat:=kA S true (oJ al a) (p.testBit S.length) p
def keepP(w p:Nat):Bool:=p&&&w==w
theorem KS(S:List Sp)(al:List Tk): ∀v:List Nat,kQ (qD S) (mV S al) v=n9 S (v.map (oJ al))
 |[]=>rfl
 |a::v=>by
  rw[kQ,KS S al v];rfl
theorem CQ(R:Aa al){a:Nat}(J:a<al.length):iH al (oJ al a)=true/\oj (oJ al a) 0 al=(a:Int):=by
 have I:=Mr J;have hn:oJ al a=al[a].s:=by unfold oJ;simp_all
 have hm: ∀(l:List Tk) (t:Tk),t∈l->iH l t.s=true:=by
  intro l t
  induction l with
  |nil=>simp
  |cons x r ih=>
   intro h;rw[iH];by_cases e:x.s.toList=t.s.toList
   ·simp_all
   rw[if_neg e];rcases List.mem_cons.1 h with h|h
   ·simp_all
   simp_all
 have U:iH al (oJ al a)=true:=za;refine⟨U, ?_⟩;rcases tp (oJ al a) 0 al with⟨_,j,t,h1,h2,h3⟩|⟨h,_⟩
 ·have:=R j a t al[a] h1 I (h2.trans (by rw[hn]));omega
 simp_all
theorem Dv(h:MGood al rs)(v:List Nat)(J: ∀a∈v,a<al.length):
  mg (iF al rs ([],[])).2 (kQ (rq (iF al rs ([],[])).1) (nP (iF al rs ([],[])).1) v)=keepP (gY rs [] 0) (kQ (qD (gD rs [])) (mV (gD rs []) al) v):=by
 have R: ∀x∈v.map (oJ al),iH al x=true:=fun x U=>by
  obtain⟨a,I,rfl⟩:=List.mem_map.1 U;exact(CQ h.dist (J a I)).1
 have hn:((v.map (oJ al)).map fun x=>oj x 0 al)=v.map fun a:Nat=>(a:Int):=by
  rw[List.map_map];exact List.map_congr_left fun a I=>(CQ h.dist (J a I)).2
 rw[B6 h h.low R hn,KS];exact(G8 h (v.map (oJ al))).symm
theorem vx: ∀(B:Nat) (l:List Nat),l.Nodup->(∀x∈l,x<B)->l.length<=B
 |0,l,_,h=>by
  cases l with
  |nil=>simp
  |cons x r=>exact absurd (h x (MN ..)) (Nat.not_lt_zero _)
 |B+1,l,hn,h=>by
  have J:=vx B (l.erase B) (hn.erase B) (fun x I=>by
   have hx':=h x (List.mem_of_mem_erase I);have hne:x≠B:=fun e=>by
    rw[e] at I;exact(hn.not_mem_erase) I
   omega)
  rw[List.length_erase] at J
  split at J<;>omega
section
variable {σ : Type} [DecidableEq σ]
theorem Jd{st:σ->Nat->σ}{acts:List Nat}{k:Nat}{l:List σ}(h:l.length<=k):jU st acts mx (n+1) k l rows=some (l,rows):=by
 rw[jU,MY h]
theorem Gs{st:σ->Nat->σ}{acts:List Nat}{k:Nat}{l:List σ}{s:σ}(h:l[k]? =some s)(hm:¬ mx<(jh st s acts l).1.length):
  jU st acts mx (n+1) k l rows=jU st acts mx n (k+1) (jh st s acts l).1 (rows++[(jh st s acts l).2]):=by
 rw[jU,h];simp only;rw[if_neg hm]
theorem Ah{st:σ->Nat->σ}{acts:List Nat}{k:Nat}{l:List σ}{s:σ}(h:l[k]? =some s)(hm:mx<(jh st s acts l).1.length):
  jU st acts mx (n+1) k l rows=none:=by
 rw[jU,h];simp_all
end
theorem DG{S:List Sp}{k:Nat}{l:List Nat}{tw:List (List Nat)}(h:Bfs (mV S al) (My n) (qD S) k l tw):l.length<=2^(S.length+1)/\ ∀p∈l,p<2^(S.length+1):=by
 have J: ∀p∈l,p<2^(S.length+1):=fun p R=>by
  obtain⟨j,I⟩:=List.mem_iff_getElem?.1 R;cases j with
  |zero=>
   rw[h.first] at I;cases I;exact vm
  |succ j=>
   obtain⟨_,_,_,_,_,_,_,e⟩:=h.met j p I;rw[e];exact vm
 exact⟨vx _ _ h.nodup J,J⟩
def jN(b:List Bool):Nat:=(if (b[0]?).getD false=true then 1 else 0)+(if b.any id=true then 2 else 0)
def D0(names:List ByteArray)(m:List (List Bool))(rows:List (List Nat)):Tb:=⟨names,m.map jN,rows⟩
theorem Jl(b:List Bool):jN b%2=1↔(b[0]?).getD false=true:=by
 exact zm182
theorem Jm(b:List Bool):2<=jN b↔true∈b:=by
 have e:b.any id=true↔true∈b:=by
  simp
 rw[<-e];exact zm182
theorem EU(b:List Bool):jN b<=3:=by unfold jN;split<;>split<;>omega
def CmpR{π:Type}[DecidableEq π](p0:π)(ah:π->Nat->π)(keep:π->Bool)(names:List ByteArray)(o:Option Tb):Prop:=
 ∃(l:List π) (tw:List (List Nat)),Bfs ah (My names.length) p0 l.length l tw/\o=(jU (setB tw) (My names.length) 100 102 0 [l.map keep] []).map fun x=>D0 names x.1 x.2
section
variable {π : Type} [DecidableEq π]
structure CmpT (p0:π) (ah:π->Nat->π) (keep:π->Bool) (t:Tb) (l:List π) (tw:List (List Nat)) (m:List (List Bool)):Prop where
 pl:Bfs ah (List.range t.acts.length) p0 l.length l tw
 st:Bfs (setB tw) (List.range t.acts.length) (l.map keep) m.length m t.nx
 fl:t.fl=m.map jN
 few:m.length<=100
theorem CmpR.some{p0:π}{ah:π->Nat->π}{keep:π->Bool}{names:List ByteArray}(h:CmpR p0 ah keep names (some t)):t.acts=names/\ ∃l tw m,CmpT p0 ah keep t l tw m:=by
 obtain⟨l,tw,J,I⟩:=h;cases e:jU (setB tw) (My names.length) 100 102 0 [l.map keep] [] with
 |none=>simp_all
 |some x=>
  obtain⟨m,rows⟩:=x;rw[e] at I;have R:=Option.some.inj I;obtain⟨k1,k2⟩:=uZ 102 0 [l.map keep] [] (Bfs.start _ _ _) zp m rows e;subst R;exact⟨rfl,l,tw,m,J,k1,rfl,zo⟩
theorem CmpT.hf{p0:π}{ah:π->Nat->π}{keep:π->Bool}{l:List π}{tw:List (List Nat)}(h:CmpT p0 ah keep t l tw m):
  ∀(i:Nat) (b:List Bool),m[i]? =some b-> ∃f,t.fl[i]? =some f/\(f%2=1↔(b[0]?).getD false=true):=fun i b I=>
 ⟨jN b,by rw[h.fl,MF,I];rfl,Jl b⟩
theorem CmpT.right{p0:π}{ah:π->Nat->π}{keep:π->Bool}{l:List π}{tw:List (List Nat)}(h:CmpT p0 ah keep t l tw m)(ha:mT t.acts):RightT t:=by
 have hm1:1<=m.length:=by have:=(List.getElem?_eq_some_iff.1 h.st.first).1;omega
 have R:=h.st.len;refine⟨ha,zo,by have:=h.few;omega,by rw[h.fl,MX,R],fun r hr=> ?_,fun f hf=> ?_,fun i f hi=> ?_⟩
 ·obtain⟨i,hi⟩:=List.mem_iff_getElem?.1 hr;have I:i<m.length:=by have:=(List.getElem?_eq_some_iff.1 hi).1;omega
  obtain⟨r',r1,r2,r3⟩:=h.st.row i m[i] I (Mr I);rw[hi] at r1;cases r1;rw[List.length_range] at r2;refine⟨r2,fun x hx=> ?_⟩;obtain⟨q,hq⟩:=List.mem_iff_getElem?.1 hx;have U:q<t.acts.length:=by have:=(List.getElem?_eq_some_iff.1 hq).1;omega
  obtain⟨k,k1,k2⟩:=r3 q q (List.getElem?_range U);rw[hq] at k1;cases k1;have:=(List.getElem?_eq_some_iff.1 k2).1;omega
 ·rw[h.fl] at hf;obtain⟨b,_,rfl⟩:=List.mem_map.1 hf;exact EU b
 rw[h.fl,MF] at hi;cases hb:m[i]? with
 |none=>simp_all
 |some b=>
  rw[hb] at hi;have J:=Option.some.inj hi;rw[<-J,Jm,yL h.pl h.st h.hf hb]
end
section
variable {π ρ : Type} [DecidableEq π] [DecidableEq ρ]
theorem ET{p0:π}{ah:π->Nat->π}{keep:π->Bool}{q0:ρ}{J:ρ->Nat->ρ}{I:ρ->Bool}{l:List π}{tw:List (List Nat)}{l':List ρ} 
  (h:Bfs ah (My n) p0 l.length l tw)(h':Bfs J (My n) q0 l'.length l' tw')(same: ∀v:List Nat,(∀a∈v,a<n)->keep (kQ p0 ah v)=I (kQ q0 J v))(hb:C7 n ah keep l J I l' b b'):jN b=jN b':=by
 obtain⟨u,hu,rfl,rfl⟩:=hb;have R: ∀{v:List Nat},(∀a∈v,a<n)-> ∀a∈u++v,a<n:=fun U a ha=>by
  rcases List.mem_append.1 ha with h|h
  ·simp_all
  simp_all
 have e0:((l.map (ki ah keep u))[0]?).getD false=((l'.map (ki J I u))[0]?).getD false:=by
  rw[MF,MF,h.first,h'.first];have k1:=jt p0 ah u keep [];have k2:=jt q0 J u I [];show ki ah keep u p0=ki J I u q0;have k3:=same (u++[]) (R (fun a ha=>(MJ ha).elim));exact k1.trans (k3.trans k2.symm)
 have e1:(l.map (ki ah keep u)).any id=(l'.map (ki J I u)).any id:=by
  rw[Bool.eq_iff_iff,Ni,Ni];constructor
  ·rintro⟨x,hx,e⟩;obtain⟨p,hp,rfl⟩:=List.mem_map.1 hx;obtain⟨j,hj⟩:=List.mem_iff_getElem?.1 hp;obtain⟨v,U,rfl⟩:=rz h j j p (MH _) hj;refine⟨ki J I u (kQ q0 J v),List.mem_map.2 ⟨_,uo h' v U,rfl⟩, ?_⟩;have e':=e;rw[jt,same _ (R U),<-jt q0 J u I v] at e';exact e'
  rintro⟨x,hx,e⟩;obtain⟨p,hp,rfl⟩:=List.mem_map.1 hx;obtain⟨j,hj⟩:=List.mem_iff_getElem?.1 hp;obtain⟨v,U,rfl⟩:=rz h' j j p (MH _) hj;refine⟨ki ah keep u (kQ p0 ah v),List.mem_map.2 ⟨_,uo h v U,rfl⟩, ?_⟩;have e':=e;rw[jt,<-same _ (R U),<-jt p0 ah u keep v] at e';exact e'
 unfold jN;simp_all
theorem CmpR.alike{p0:π}{ah:π->Nat->π}{keep:π->Bool}{q0:ρ}{J:ρ->Nat->ρ}{I:ρ->Bool}{names:List ByteArray}{o:Option Tb}
  (h:CmpR p0 ah keep names o)(h':CmpR q0 J I names o')(same: ∀v:List Nat,(∀a∈v,a<names.length)->keep (kQ p0 ah v)=I (kQ q0 J v)):o=o':=by
 obtain⟨l,tw,U,rfl⟩:=h;obtain⟨l',tw',R,rfl⟩:=h';rcases BF U R same 100 102 with⟨e1,e2⟩|⟨m,m',r,e1,e2,hR⟩
 ·simp_all
 rw[e1,e2];simp only[Nn];have:m.map jN=m'.map jN:=by
  clear e1 e2
  induction hR using RL.ind with
  |nil=>rfl
  |cons hb _ ih=>rw[Nb,Nb,ih,ET U R same hb]
 unfold D0;rw[this]
end
def nN(al:List Tk)(rs:List Rl)(o:Option Tb):Prop:=CmpR (qD (gD rs [])) (mV (gD rs []) al) (keepP (gY rs [] 0)) (al.map (·.s)) o
def qv(al:List Tk)(rs:List Rl)(o:Option Tb):Prop:=CmpR (rq (iF al rs ([],[])).1) (nP (iF al rs ([],[])).1) (mg (iF al rs ([],[])).2) (al.map (·.s)) o
theorem yv(h:MGood al rs){o:Option Tb}(I:nN al rs o)(hf:qv al rs o'):o=o':=
 CmpR.alike I hf (fun v hv=>(Dv h v (fun a ha=>za)).symm)
theorem yA: ∀{l:List Tk} {i:Nat},lL al i l=[]->(∀t∈l,t.s.size<=8)/\(l≠[]->i+l.length<=6)
 |[],_,_=>⟨fun t I=>(MJ I).elim,fun h=>absurd rfl h⟩
 |a::r,i,h=>by
  rw[lL] at h;obtain⟨J,R⟩:=List.append_eq_nil_iff.1 h;unfold xP at J;obtain⟨U,h4⟩:=List.append_eq_nil_iff.1 J;obtain⟨_,h5⟩:=List.append_eq_nil_iff.1 h4;obtain⟨k1,k2⟩:=yA R;have ha:a.s.size<=8:=by
   unfold jq at U;simp_all
  have hi:i<6:=by
   simp_all
  refine⟨fun t I=> ?_,fun _=> ?_⟩
  ·rcases List.mem_cons.1 I with rfl|I
   ·omega
   simp_all
  rw[Nj];by_cases hr:r=[]
  ·rw[hr];simp;omega
  have:=k2 hr;omega
theorem ug{s:ByteArray}(h:iy s= .ok (al,rs)):mT (al.map (·.s)):=by
 have I:=pw h;obtain⟨h1,h2⟩:=yA (List.append_eq_nil_iff.1 I.nof).1;have h3:=h2 I.ne;have h4:=(Rt.readM_nm h).1;have hd:=I.dist;refine⟨?_,za,fun a ha=> ?_, ?_⟩
 ·rw[MX];cases hc:al with
  |nil=>exact absurd hc I.ne
  |cons _ _=>simp
 ·obtain⟨t,U,rfl⟩:=List.mem_map.1 ha;obtain⟨k1,k2⟩:=h4 t U;obtain⟨k3,k4,k5⟩:=k1.1 k2;refine⟨?_,h1 t U,k4,k5⟩;cases hc:t.s.data.toList with
  |nil=>trivial
  |cons _ _=>rw[<-size_data,hc];simp
 show List.Pairwise _ _;rw[List.pairwise_iff_getElem];intro i j hi hj hij e;have J:i<al.length:=by simpa using hi
 have R:j<al.length:=by simpa using hj
 rw[Nk,Nk] at e;have:=hd i j al[i] al[j] (Mr J) (Mr R) (by rw[e]);omega
theorem vX{s:ByteArray}(h:iy s= .ok (al,rs))(hc:nN al rs (some t)):RightT t:=by
 obtain⟨e,l,tw,m,I⟩:=CmpR.some hc;exact I.right (by rw[e];exact ug h)
def Dk(al:List Tk)(rs:List Rl):Bool:=
 match jU (mV (gD rs []) al) (My (al.map (·.s)).length) 100 102 0 [qD (gD rs [])] [] with
 |some (l,tw)=>(jU (setB tw) (My (al.map (·.s)).length) 100 102 0 [l.map (keepP (gY rs [] 0))] []).isSome
 |none=>false
def ER:Bool:=
 match iy wo with
 | .ok (al,rs)=>Dk al rs
 | .error _=>false
theorem B4:ER=true:=by decide+kernel
theorem GB(h:Dk al rs=true): ∃T,nN al rs (some T):=by
 unfold Dk at h;cases e:jU (mV (gD rs []) al) (My (al.map (·.s)).length) 100 102 0 [qD (gD rs [])] [] with
 |none=>simp_all
 |some x=>
  obtain⟨l,tw⟩:=x;rw[e] at h;have hB:=(uZ 102 0 _ _ (Bfs.start _ _ _) zp l tw e).1;cases e2:jU (setB tw) (My (al.map (·.s)).length) 100 102 0 [l.map (keepP (gY rs [] 0))] [] with
  |none=>simp_all
  |some y=>exact⟨D0 (al.map (·.s)) y.1 y.2,l,tw,hB,za⟩
theorem EG{o:Option Tb}(h:nN al rs o)(I:nN al rs o'):o=o':=CmpR.alike h I (fun _ _=>rfl)
theorem ES: ∃al rs T,iy wo= .ok (al,rs)/\nN al rs (some T):=by
 have h:=B4;unfold ER at h;cases e:iy wo with
 |error x=>simp_all
 |ok m=>
  obtain⟨al,rs⟩:=m;rw[e] at h;obtain⟨T,I⟩:=GB h;exact⟨al,rs,T,rfl,I⟩
open Go.RowKit
theorem DD(k:Nat)(hk:5<=k)(hk':k<=9)(w:World)(lb:Nat)(ins:Bool)(ev:ByteArray)(more:Bool)(nx hr:Nat)(s:ByteArray)(i a b:Nat)(h:LkAt w lb ins ev more nx hr)(J:nx<4294967296)(I:hr<4294967296)(hi:i<=31)(R:a<=31)(U:b<=31):
  Calls prog 242 #[xk (some ⟨lb,0,none⟩),xd xh (i:Int),.agg #[xd xh (k:Int),xj s,xd xh (a:Int),xd xh (b:Int)]] w fun e w'=>e=xm (xn (jd k ins more (ev.toList==s.toList) (hr.testBit a) (hr.testBit b) (nx.testBit a) (nx.testBit i)))/\Below w.heap.size w w':=by
 have h':k=5\/k=6\/k=7\/k=8\/k=9:=zo;rcases h' with rfl|rfl|rfl|rfl|rfl
 ·exact JJ w lb ins ev more nx hr s i a b h J I hi R U
 ·exact JK w lb ins ev more nx hr s i a b h J I hi R U
 ·exact KR w lb ins ev more nx hr s i a b h J I hi R U
 ·exact JI w lb ins ev more nx hr s i a b h J I hi R U
 exact Hp w lb ins ev more nx hr s i a b h J I hi R U
theorem LkAt.later{ins:Bool}{more:Bool}(h:LkAt w lb ins ev more nx hr)(I:Below w.heap.size w w'):LkAt w' lb ins ev more nx hr:=(I.block lb (fh h)).trans h
theorem Cb(k:Nat)(hk:5<=k)(R:k<=9)(w:World)(lb:Nat)(ins:Bool)(ev:ByteArray)(more:Bool)(nx hr:Nat)(s:ByteArray)(i a b:Nat)(h:LkAt w lb ins ev more nx hr)(J:nx<4294967296)(I:hr<4294967296)(hi:i<=31)(U:a<=31)(hb:b<=31):
  Calls prog 197 #[xk (some ⟨lb,0,none⟩),xd xh (i:Int),.agg #[xd xh (k:Int),xj s,xd xh (a:Int),xd xh (b:Int)]] w fun e w'=>e=xm (xn (jd k ins more (ev.toList==s.toList) (hr.testBit a) (hr.testBit b) (nx.testBit a) (nx.testBit i)))/\Below w.heap.size w w':=by
 have HC:=fa (fun W h=>DD k hk R W lb ins ev more nx hr s i a b h J I hi U hb);have HL:=fa h;generalize jd k ins more (ev.toList==s.toList) (hr.testBit a) (hr.testBit b) (nx.testBit a) (nx.testBit i)=B at *;have h':k=5\/k=6\/k=7\/k=8\/k=9:=zo;rcases h' with rfl|rfl|rfl|rfl|rfl
 all_goals
  go_in
  go_wp2_with (refine(HC _ (HL.later gz)).mono ?_)
  exact zm147
theorem Hf(k:Nat)(hk:k<=12)(lb:Nat)(ins:Bool)(ev:ByteArray)(more:Bool)(nx hr:Nat)(s:ByteArray)(i a b:Nat)(h:LkAt w lb ins ev more nx hr)(J:nx<4294967296)(I:hr<4294967296)(hi:i<=31)(R:a<=31)(U:b<=31):
  Calls prog 197 #[xk (some ⟨lb,0,none⟩),xd xh (i:Int),.agg #[xd xh (k:Int),xj s,xd xh (a:Int),xd xh (b:Int)]] w fun e w'=>e=xm (xn (jd k ins more (ev.toList==s.toList) (hr.testBit a) (hr.testBit b) (nx.testBit a) (nx.testBit i)))/\Below w.heap.size w w':=by
 have h':k=0\/k=1\/k=2\/k=3\/k=4\/(5<=k/\k<=9)\/k=10\/k=11\/k=12:=zo;rcases h' with rfl|rfl|rfl|rfl|rfl|⟨h1,h2⟩|rfl|rfl|rfl
 ·exact KG w lb ins ev more nx hr s i a b h J I hi R U
 ·exact JA w lb ins ev more nx hr s i a b h J I hi R U
 ·exact Hc w lb ins ev more nx hr s i a b h J I hi R U
 ·exact KI w lb ins ev more nx hr s i a b h J I hi R U
 ·exact KK w lb ins ev more nx hr s i a b h J I hi R U
 ·exact Cb k h1 h2 w lb ins ev more nx hr s i a b h J I hi R U
 ·exact KH w lb ins ev more nx hr s i a b h J I hi R U
 ·exact Lp w lb ins ev more nx hr s i a b h J I hi R U
 exact KJ w lb ins ev more nx hr s i a b h J I hi R U
theorem vz(H i:Nat)(hH:H<4294967296)(hi:i<=31):bits BinOp.or IntKind.u32 (H:Int) (2^i%4294967296)=((H|||2^i:Nat):Int):=by
 have I:(2:Nat)^i<4294967296:=Nat.lt_of_le_of_lt (Mz zp hi) zp;have e:(2:Int)^i%4294967296=((2^i:Nat):Int):=by
  rw[show(2:Int)^i=((2^i:Nat):Int) from zp];generalize 2^i=z at *;omega
 rw[e];exact L9 H (2^i) hH I
def StS(w:World)(o:Option Addr)(S:List Sp):Prop:= ∀j d,S[j]? =some d-> ∃g,o=some ⟨g,0,none⟩/\g<w.heap.size/\w.cell? ⟨g,j * 4,none⟩=some (xd xh (d.k:Int))/\w.cell? ⟨g,j * 4+1,none⟩=some (xj d.s)/\w.cell? ⟨g,j * 4+2,none⟩=some (xd xh (d.a:Int))/\w.cell? ⟨g,j * 4+3,none⟩=some (xd xh (d.b:Int))
theorem StS.later{S:List Sp}(h:StS w o S)(J:Below w.heap.size w w'):StS w' o S:=fun j d hd=>by
 obtain⟨g,R,I,U,h4,h5,h6⟩:=h j d hd;exact⟨g,R,Mw I J.size,(bcell3 J _ _ I).trans U,(bcell3 J _ _ I).trans h4,(bcell3 J _ _ I).trans h5,(bcell3 J _ _ I).trans h6⟩
theorem StS.of{S:List Sp}(h:w.ownsRow base 319 4 (xa o S.length c) S.length (n5 S)):StS w o S:=by
 intro j d R;have hj:j<S.length:=by
  rcases Nat.lt_or_ge j S.length with h|h
  ·omega
  simp_all
 obtain⟨_,⟨h1,h2⟩|⟨g,cap,cur,U,_,I,hle,_,hcs,J⟩⟩:=h
 ·omega
 cases U;have key: ∀m,m<4->w.cell? ⟨g,j * 4+m,none⟩=(Bx d)[m]? :=by
  intro m hm;rw[cell_of_blk I,<-Array.getElem?_toList,<-FL R m hm,<-J,MO,if_pos zo]
 exact⟨g,rfl,fh I,key 0 zo,key 1 zo,key 2 zo,key 3 zo⟩
structure I0 (S:List Sp):Prop where
 len:S.length<=31
 k: ∀d∈S,d.k<=12
 a: ∀d∈S,d.a<=31
 b: ∀d∈S,d.b<=31
structure FSt (w W:World) (so:Option Addr) (n sc:Nat) (wh:Nat) (ins:Bool) (ev:ByteArray) (more:Bool) (nx hr:Nat):Prop where
 wk:W.heap[w.heap.size]? =some (xi #[xa so n sc,xd .u32 (wh:Int)] 149 (0,0))
 lk:LkAt W (w.heap.size+1) ins ev more nx hr
 bel:Below w.heap.size w W
theorem FSt.later{ins:Bool}{more:Bool}(h:FSt w W so n sc wh ins ev more nx hr)(I:Below W.heap.size W W'):FSt w W' so n sc wh ins ev more nx hr:=
 ⟨(I.block _ (fh h.wk)).trans h.wk,h.lk.later I,h.bel.trans (I.mono h.bel.size)⟩
theorem FSt.set{ins:Bool}{more:Bool}(h:FSt w W so n sc wh ins ev more nx hr)(z:Int)(I:Nat)(R:z=(I:Int)):FSt w (W.setCell ⟨w.heap.size+1,4,none⟩ (xd .u32 z)) so n sc wh ins ev more nx I:=by
 subst R;refine⟨(MP _ _ _ _ zp).trans h.wk,fj h.lk 4 _,h.bel.grown (fK _ _ _ _) h.bel.size (fun b J=>by cases J;omega)⟩
theorem AD(w:World)(S:List Sp)(so:Option Addr)(sc wh:Nat)(ins:Bool)(ev:ByteArray)(more:Bool)(nx:Nat)(hS:StS w so S)(hG:I0 S)(ay:nx<4294967296):
  Calls prog 167 #[.agg #[xa so S.length sc,xd .u32 (wh:Int)],.agg #[xn ins,xj ev,xn more,xd .u32 (nx:Int),xd .u32 0]] w fun e w'=>e=xm (xd .u32 (kA S ins ev more nx:Nat))/\Below w.heap.size w w':=by
 have HS:=fa hS;have HG:=fa hG;have ai:=hG.len;have aj:Hid (FSt w ((w.alloc (xi #[xa so S.length sc,xd .u32 (wh:Int)] 149)).alloc (xi #[xn ins,xj ev,xn more,xd .u32 (nx:Int),xd .u32 0] 277)) so S.length sc wh ins ev more nx 0):=
  ⟨(Nl _ _ _ zp).trans (ft _ _),fk _ _ _ zp,gz.alloc zp _⟩
 go_in;go_wp2;generalize ((w.alloc (xi #[xa so S.length sc,xd .u32 (wh:Int)] 149)).alloc (xi #[xn ins,xj ev,xn more,xd .u32 (nx:Int),xd .u32 0] 277))=W0 at *
 go_loopw [10] (fun x wr=> ∃i:Nat,i<=S.length/\x=xd xh i/\Hid (FSt w wr so S.length sc wh ins ev more nx (jv S ins ev more nx i))) (fun x _=>S.length - (intOf x).toNat)
 ·exact⟨0,MI _,rfl,aj⟩
 obtain⟨i,hi,rfl,I⟩:=hrel;rcases zc i S.length with⟨hlt,hin⟩|⟨hlt,hin⟩
 ·have hd:=Mr hlt;obtain⟨g,az,hg,c0,c1,c2,c3⟩:=HS.later I.bel i S[i] hd;have U:=Mu hlt;have aw:=HG.k _ U;have au:=HG.a _ U;have av:=HG.b _ U;have ad:Hid (jv S ins ev more nx (i+1)=jv S ins ev more nx i+(if jd S[i].k ins more (ev.toList==S[i].s.toList) ((jv S ins ev more nx i).testBit S[i].a) ((jv S ins ev more nx i).testBit S[i].b) (nx.testBit S[i].a) (nx.testBit i)=true then 2^i else 0)):=by
   show _=_;rw[jv];unfold xA;rw[hd]
  have aa:jv S ins ev more nx i<4294967296:=Mw (vn S ins ev more nx i) (Nf (Mz zp (show i<=32 from zo)) zp);have ae:=fa (AJ S ins ev more nx i);subst az;generalize S[i]=d at *
  go_wp2_with (refine(Hf d.k aw (w.heap.size+1) ins ev more nx (jv S ins ev more nx i) d.s i d.a d.b ((I.later gz).lk) ay aa zo au av).mono ?_)
  rintro e w1 ⟨rfl,ag⟩;have J:=fa (((I.later ((MG _ _).alloc (MH _) (xi #[xd xh (d.k:Int),xj d.s,xd xh (d.a:Int),xd xh (d.b:Int)] 319)))).later ag);generalize hB:jd d.k ins more (ev.toList==d.s.toList) ((jv S ins ev more nx i).testBit d.a) ((jv S ins ev more nx i).testBit d.b) (nx.testBit d.a) (nx.testBit i)=B at *;have lc:=cell_of_blk J.lk;have lf:=fi J.lk;cases B with
  |false=>
   go_wp2
   go_roundw
   ·exact⟨i+1,zo,zf,by rw[ad.out];simpa using J⟩
   simp[intOf];omega
  |true=>
   generalize jv S ins ev more nx i=H at *;go_wp2
   go_region
   have R:=fa ((J.set (bits BinOp.or IntKind.u32 (H:Int) (2^i%4294967296)) (H+2^i) (by rw[vz H i aa zo,ae.out])).later ((MG _ _).drew));generalize (w1.setCell ⟨w.heap.size+1,4,none⟩ (xd .u32 (bits BinOp.or IntKind.u32 (H:Int) (2^i%4294967296)))).drew=w2 at *;generalize bits BinOp.or IntKind.u32 (H:Int) (2^i%4294967296)=z at *;go_wp2
   go_roundw
   ·exact⟨i+1,zo,zf,by rw[ad.out];simpa using R⟩
   simp[intOf];omega
 have ax:i=S.length:=zo;subst ax;have aa:jv S ins ev more nx S.length<4294967296:=Mw (vn S ins ev more nx S.length) (Nf (Mz zp (show S.length<=32 from zo)) zp);have ae:=fa (AJ S ins ev more nx S.length);have an:Hid (kA S ins ev more nx=jv S ins ev more nx S.length+(if ins=true then 2^S.length else 0)):=rfl;have lc:=cell_of_blk I.lk;have lf:=fi I.lk;have wc:=cell_of_blk I.wk;generalize jv S ins ev more nx S.length=H at *;cases ins with
 |false=>
  go_wp2;go_ret;have e:kA S false ev more nx=H:=zv;rw[e];exact⟨rfl,I.bel⟩
 |true=>
  go_wp2
  go_region
  have R:=fa ((I.set (bits BinOp.or IntKind.u32 (H:Int) (2^S.length%4294967296)) (H+2^S.length) (by rw[vz H S.length aa ai,ae.out])).later ((MG _ _).drew));have lc2:=cell_of_blk R.lk;generalize (wr.setCell ⟨w.heap.size+1,4,none⟩ (xd .u32 (bits BinOp.or IntKind.u32 (H:Int) (2^S.length%4294967296)))).drew=w2 at *;generalize bits BinOp.or IntKind.u32 (H:Int) (2^S.length%4294967296)=z at *;have ak:Hid (kA S true ev more nx=H+2^S.length):=by show _=_;trivial
  generalize H+2^S.length=F at *;go_wp2;go_ret;rw[ak.out];exact⟨rfl,R.bel⟩
theorem C6(w:World)(S:List Sp)(so:Option Addr)(sc wh:Nat)(J:StS w so S)(I:I0 S):
  Calls prog 125 #[.agg #[xa so S.length sc,xd .u32 (wh:Int)]] w fun e w'=>e=xm (xd .u32 (n9 S []:Nat))/\Below w.heap.size w w':=by
 have R:=fa (fun W h=>AD W S so sc wh false ⟨#[]⟩ false 0 h I zp);have U:=fa J;go_in
 go_wp2_with (refine(R _ (U.later gz)).mono ?_)
 exact zm147
theorem BL(w:World)(so:Option Addr)(n sc wh p:Nat)(hw:wh<4294967296)(J:p<4294967296):
  Calls prog 127 #[.agg #[xa so n sc,xd .u32 (wh:Int)],xd .u32 (p:Int)] w fun e w'=>e=xm (xn (p&&&wh==wh))/\Below w.heap.size w w':=by
 have I:=fa (I1 p wh J hw);go_in;go_wp2;go_ret;refine⟨jG ?_,gz⟩;rw[I.out];rw[Bool.eq_iff_iff];simp only[beq_iff_eq];omega
theorem Eh(w:World)(S:List Sp)(so:Option Addr)(sc wh:Nat)(nx:Nat)(ev:ByteArray)(hS:StS w so S)(hG:I0 S)(ag:nx<4294967296):
  Calls prog 126 #[.agg #[xa so S.length sc,xd .u32 (wh:Int)],xd .u32 (nx:Int),xj ev] w fun e w'=>e=xm (xd .u32 (kA S true ev (nx.testBit S.length) nx:Nat))/\Below w.heap.size w w':=by
 have HC:=fa (fun W h=>AD W S so sc wh true ev (nx.testBit S.length) nx h hG ag);have HH:=fa (fun W=>gX nx S.length ag hG.len rfl W);have HS:=fa hS;have ad:(w.alloc (xi #[xa so S.length sc,xd .u32 (wh:Int)] 149)).heap[w.heap.size]? =some (xi #[xa so S.length sc,xd .u32 (wh:Int)] 149 (0,0)):=ft _ _;have hB:=iz w (xi #[xa so S.length sc,xd .u32 (wh:Int)] 149);have R:=fa ad;have U:=fa hB;have aj:=fa (HS.later hB);generalize hT:nx.testBit S.length=tb at *;go_in;go_wp2;generalize (w.alloc (xi #[xa so S.length sc,xd .u32 (wh:Int)] 149))=W at *;have bc:=cell_of_blk R;have ae:=fh R;have c0:=bc 0;have c1:=bc 1;refine wp_region_held_drew (S:=fun w'=>w'.cell? ⟨w.heap.size,0,none⟩=some (xa so S.length sc)/\w'.cell? ⟨w.heap.size,1,none⟩=some (xd .u32 (wh:Int))) zk ?_ (fun I=> ?_)
 ·trivial
 apply zt1 0 (.agg #[xa so S.length sc,xd .u32 (wh:Int)]) I;apply zt1 1 (xj ev) I;apply zt1 2 (xd .u32 (nx:Int)) I;apply zt1 3 (xk (some ⟨w.heap.size,0,none⟩)) I;apply zt1 4 (xa so S.length sc) I;apply zt1 5 (xd xh (S.length:Int)) I;apply zt1 7 (xd .u32 (nx:Int)) I;apply zrH 6;intro K hK;go_simp;refine(HH _).mono ?_;rintro e w5 ⟨rfl,ai⟩;have h5:=ai.symm;subst h5;refine hK _ _ I (fun I=> ?_);apply zt1 8 (.agg #[xn true,xj ev,xn tb,xd .u32 (nx:Int),xd .u32 0]) I;apply zrH 9;intro K hK;go_simp;refine(HC _ (aj.later ((MG _ _).drew))).mono ?_;rintro e w6 ⟨rfl,J⟩;refine hK _ _ ⟨(bcell3 J _ _ ae).trans I.1,(bcell3 J _ _ ae).trans I.2⟩ (fun I=> ?_);have HB6:=fa ((U.trans ((((MG _ _).drew).trans J).mono U.size)));apply zt1 10 (xd .u32 (kA S true ev tb nx:Nat)) I;refine wpAnyH_done zk ?_ _;go_wp2;go_ret;trivial
theorem tX: ∀(rs:List Rl) (S:List Sp) (w:Nat),w<2^S.length->(∀r∈rs,gL r≠ .nil)->gY rs S w<2^(gD rs S).length
 |[],S,w,h,_=>h
 |r::rs,S,w,h,hn=>by
  rw[gY,gD];have hp:=kD (hn r (MN ..));have hl:=jm (gL r) S;refine tX rs _ _ (Nat.or_lt_two_pow (Mw h (Mz zp zo)) (Nat.pow_lt_pow_right zp zo)) (fun J I=>hn J (M' _ I))
theorem rK: ∀(f:Fm) (S:List Sp),(∀d∈S,d.a<=M/\d.b<=M)->(hY f S).length<=M-> ∀d∈hY f S,d.a<=M/\d.b<=M
 | .nil,S,h,_=>h
 | .node u v a l r,S,h,hl=>by
  rw[jm] at hl;have hz:gF (.node u v a l r)=1+gF l+gF r:=rfl;have e1:=jm l S;have e2:=jm r (hY l S);have J:=rK l S h zo;have h2:=rK r (hY l S) J zo;intro d I;rw[hY] at I;rcases List.mem_append.1 I with I|I
  ·simp_all
  rcases List.mem_singleton.1 I with rfl
  constructor
  ·show(if wB l then 0 else (hY l S).length - 1)<=M
   split<;>omega
  show(if wB r then 0 else (hY r (hY l S)).length - 1)<=M
  split<;>omega
theorem uR: ∀(rs:List Rl) (S:List Sp),(∀d∈S,d.a<=M/\d.b<=M)->(gD rs S).length<=M-> ∀d∈gD rs S,d.a<=M/\d.b<=M
 |[],S,h,_=>h
 |r::rs,S,h,hl=>by
  rw[gD] at hl|-;refine uR rs _ (rK (gL r) S h ?_) hl;rw[mP] at hl;omega
theorem Bz(h:MGood al rs):I0 (gD rs []):=by
 have hs:StOk (gD rs []) (n7 rs):=by simpa using tM rs [] [] StOk.nil
 have hl:(gD rs []).length<=16:=by rw[mP];have:=h.nodes;simp;omega
 have hk:=zi (fun r hr=>(h.fg r hr).kok);have key: ∀d∈gD rs [],d.k<=12/\d.a<=31/\d.b<=31:=by
  intro d I;obtain⟨j,hj,hjd⟩:=List.mem_iff_getElem.1 I;have R:(gD rs [])[j]? =some d:=za;have J:j<(n7 rs).length:=by rw[<-hs.1];omega
  have aa:=hs.2 j d _ R (Mr J);have U:=hk _ (Mu J);have hz:=uR (M:=16) rs [] (fun d I=>(MJ I).elim) hl d I;have hk12:d.k<=12:=by
   generalize (n7 rs)[j]=f at *;cases f with
   |nil=>trivial
   |node u v a l r=>rw[aa.1];exact U.1
  omega
 exact⟨zo,fun d I=>(key d I).1,fun d I=>(key d I).2.1,fun d I=>(key d I).2.2⟩
def FpS(w:World)(o:Option Addr)(ps:List (Option Addr)):Prop:= ∀j p,ps[j]? =some p-> ∃g,o=some ⟨g,0,none⟩/\g<w.heap.size/\w.cell? ⟨g,j,none⟩=some (xk p)
def PsG(w:World)(rs:List Rl)(ps:List (Option Addr)):Prop:=rs.length=ps.length/\ ∀(j:Nat) (r:Rl) (p:Option Addr),rs[j]? =some r->ps[j]? =some p->IsG w (gL r) p
theorem FpS.later{ps:List (Option Addr)}(h:FpS w o ps)(J:Below w.heap.size w w'):FpS w' o ps:=fun j p hp=>by
 obtain⟨g,R,I,U⟩:=h j p hp;exact⟨g,R,Mw I J.size,(bcell3 J _ _ I).trans U⟩
theorem PsG.later{ps:List (Option Addr)}(h:PsG w rs ps)(R:Below w.heap.size w w'):PsG w' rs ps:=⟨h.1,fun j r p I J=>(h.2 j r p I J).later R⟩
structure NW (w W:World) (so:Option Addr) (sc:Nat) (S:List Sp) (wh:Nat):Prop where
 rb:W.heap[w.heap.size]? =some (xi #[xa none 0 0,xd .u32 0] 149 (0,0))
 wb:W.heap[w.heap.size+1]? =some (xi #[xa so S.length sc,xd .u32 (wh:Int)] 149 (0,0))
 own:W.ownsRow (w.heap.size+2) 319 4 (xa so S.length sc) S.length (n5 S)
 bel:Below w.heap.size w W
theorem NW.call{S U:List Sp}{e:Ending}(h:NW w W so sc S wh)(hp:z7 (w.heap.size+2) U (xa so S.length sc) W w2 e):
  ∃o' J,e=xm (xa o' U.length J)/\NW w (w2.setCell ⟨w.heap.size+1,0,none⟩ (xa o' U.length J)) o' J U wh/\w2.heap[w.heap.size+1]? =some (xi #[xa so S.length sc,xd .u32 (wh:Int)] 149 (0,0)):=by
 obtain⟨o',J,he,ho,hg,hat⟩:=hp;have hrb:=(hg.block _ (fh h.rb) (fun e=>gp h.own e.symm h.rb zp)).trans h.rb;have I:=(hg.block _ (fh h.wb) (fun e=>gp h.own e.symm h.wb zp)).trans h.wb;have R:=h.bel.grown hg h.bel.size (fun b hb=>by have:=(gG h.own b hb).1;omega);refine⟨o',J,he,⟨(MP _ _ _ _ zp).trans hrb,fj I 0 _,gq ho (fK _ _ _ _) (Mt (fun e=>gp ho e I zp)),R.grown (fK _ _ _ _) R.size (fun b hb=>by cases hb;omega)⟩,I⟩
theorem NW.set{S:List Sp}(h:NW w W so sc S wh)(z:Int)(I:Nat)(R:z=(I:Int)):NW w (W.setCell ⟨w.heap.size+1,1,none⟩ (xd .u32 z)) so sc S I:=by
 subst R;exact⟨(MP _ _ _ _ zp).trans h.rb,fj h.wb 1 _,gq h.own (fK _ _ _ _) (Mt (fun e=>gp h.own e h.wb zp)),h.bel.grown (fK _ _ _ _) h.bel.size (fun b J=>by cases J;omega)⟩
theorem NW.later{S:List Sp}(h:NW w W so sc S wh)(I:Below W.heap.size W W'):NW w W' so sc S wh:=
 ⟨(I.block _ (fh h.rb)).trans h.rb,(I.block _ (fh h.wb)).trans h.wb,fL h.own I,h.bel.trans (I.mono h.bel.size)⟩
def Em(rs:List Rl)(w w':World)(e:Ending):Prop:= ∃so sc,e=xm (.agg #[xa so (gD rs []).length sc,xd .u32 (gY rs [] 0:Nat)])/\StS w' so (gD rs [])/\Below w.heap.size w w'
theorem BO(w:World)(rs:List Rl)(ps:List (Option Addr))(fo:Option Addr)(fc:Nat)(hF:FpS w fo ps)(hP:PsG w rs ps)(hn:ib rs<=16)(hrl:rs.length<=401)(au: ∀r∈rs,gL r≠ .nil):
  Calls prog 124 #[xa fo rs.length fc] w fun e w'=>Em rs w w' e:=by
 have HF:=fa hF;have HP:=fa hP;have ai:=fa au;clear hF hP au;have aD:Hid (NW w ((w.alloc (xi #[xa none 0 0,xd .u32 0] 149)).alloc (xi #[xa none 0 0,xd .u32 0] 149)) none 0 [] 0):=
  ⟨(Nl _ _ _ zp).trans (ft _ _),fk _ _ _ zp,World.ownsRow_nil _ _ _ _,gz.alloc zp _⟩
 go_in;go_wp2_with fail;generalize ((w.alloc (xi #[xa none 0 0,xd .u32 0] 149)).alloc (xi #[xa none 0 0,xd .u32 0] 149))=W0 at *
 go_loopw [8] (fun x wr=> ∃(k:Nat) (so:Option Addr) (sc:Nat),k<=rs.length/\x=xd xh k/\Hid (NW w wr so sc (gD (rs.take k) []) (gY (rs.take k) [] 0))) (fun x _=>rs.length - (intOf x).toNat)
 ·exact⟨0,none,0,MI _,rfl,aD⟩
 obtain⟨k,so,sc,hk,rfl,I⟩:=hrel;rcases zc k rs.length with⟨hlt,hkn⟩|⟨hlt,hkn⟩
 ·have ax:=Mr hlt;obtain⟨p,ae⟩: ∃p,ps[k]? =some p:=⟨_,Mr (by have:=HP.1;omega)⟩;obtain⟨g,aK,hg,hcp⟩:=HF.later I.bel k p ae;have aC:=fa ((HP.later I.bel).2 k _ p ax ae);have htk:rs.take (k+1)=rs.take k++[rs[k]]:=zp;have ay:=Mu hlt;have aq:=ai _ ay;have aO:(gD (rs.take k) []).length=ib (rs.take k):=by rw[mP];simp
  have aA:ib (rs.take k)+gF (gL rs[k])<=16:=by
   exact zm107
  have aF:Hid (gD (rs.take (k+1)) []=hY (gL rs[k]) (gD (rs.take k) [])):=by show _=_;rw[htk,qM]
  have aj:Hid (gY (rs.take (k+1)) [] 0=(gY (rs.take k) [] 0|||2^((hY (gL rs[k]) (gD (rs.take k) [])).length - 1))):=by show _=_;rw[htk,uW,qM]
  have aP:gY (rs.take k) [] 0<4294967296:=Mw (tX _ [] 0 zp (fun r hr=>ai.out r (ML hr))) (Nf (Mz zp (show _<=32 from zo)) zp);have aH:=jm (gL rs[k]) (gD (rs.take k) []);have aN:=kD aq;have ha1:1<=(hY (gL rs[k]) (gD (rs.take k) [])).length:=zo;have ha2:(hY (gL rs[k]) (gD (rs.take k) [])).length<=16:=zo;have az:(gD (rs.take k) []).length+gF (gL rs[k])<=100000:=zo;subst aK;clear ax ae htk ay aO aA aH aN;generalize gD (rs.take k) []=S at *;generalize gY (rs.take k) [] 0=wh at *;generalize rs[k]=r at *;have ag:=fa (fun W h1 h2 h3=>kV (gL r) S W p (w.heap.size+2) so sc aq h1 h2 h3 az);generalize hfr:gL r=f at *;clear hfr az;have wc:=cell_of_blk I.out.wb;have hwb:=fh I.out.wb
  go_wp2_with (refine(ag.out _ aC.out I.out.own zo).mono ?_)
  intro e w2 aw;obtain⟨o2,c2,aJ,ak,aa⟩:=I.call aw;subst aJ;have U:=fa ak;have wc:=cell_of_blk aa;have wf:=fi aa;clear ak aw aa;generalize hS2:hY f S=S2 at *;clear hS2;obtain⟨m,hm⟩: ∃m,S2.length=m+1:=⟨S2.length - 1,zo⟩;go_wp2_with fail;have R:w2.setCell ⟨w.heap.size+1,0,none⟩ (xa o2 S2.length c2)=w2.setCell ⟨w.heap.size+1,0,none⟩ (xa o2 (m+1) c2):=by rw[hm]
  rw[R] at U;clear R wc wf;generalize w2.setCell ⟨w.heap.size+1,0,none⟩ (xa o2 (m+1) c2)=w3 at *;have aG:Hid (gY (rs.take (k+1)) [] 0=(wh|||2^m)):=by show _=_;rw[aj.out,hm];rfl
  have ar:m<=31:=zo;have J:=U.wb;rw[hm] at J;have wc:=cell_of_blk J;have wf:=fi J;clear J hm aj ag
  go_region
  have aE:=fa ((U.set (bits BinOp.or IntKind.u32 (wh:Int) (2^m%4294967296)) (wh|||2^m) (vz wh m aP ar)).later ((MG _ _).drew));generalize (w3.setCell ⟨w.heap.size+1,1,none⟩ (xd .u32 (bits BinOp.or IntKind.u32 (wh:Int) (2^m%4294967296)))).drew=w4 at *;generalize bits BinOp.or IntKind.u32 (wh:Int) (2^m%4294967296)=z at *;clear wc wf;go_wp2
  go_roundw
  ·exact⟨k+1,o2,c2,zo,zf,by rw[aG.out,aF.out];exact aE⟩
  simp[intOf];omega
 have aL:rs.take k=rs:=MD zo;rw[aL] at I;have wc:=cell_of_blk I.wb;have rc:=cell_of_blk I.rb;have rf:=fi I.rb;go_wp2_with fail;have an:=fj I.rb 0 (xa so (gD rs []).length sc);have av:=gq I.own (fK wr w.heap.size 0 (xa so (gD rs []).length sc)) (Mt (fun e=>gp I.own e I.rb zp));have ao:=fj an 1 (xd .u32 ((gY rs [] 0:Nat):Int));have aM:=gq av (fK _ w.heap.size 1 (xd .u32 ((gY rs [] 0:Nat):Int))) (Mt (fun e=>gp av e an zp));have aI:Below w.heap.size w ((wr.setCell ⟨w.heap.size,0,none⟩ (xa so (gD rs []).length sc)).setCell ⟨w.heap.size,1,none⟩ (xd .u32 ((gY rs [] 0:Nat):Int))):=by
  have h1:=I.bel.grown (fK wr w.heap.size 0 (xa so (gD rs []).length sc)) I.bel.size (fun b hb=>za);exact h1.grown (fK _ _ _ _) h1.size (fun b hb=>za)
 generalize ((wr.setCell ⟨w.heap.size,0,none⟩ (xa so (gD rs []).length sc)).setCell ⟨w.heap.size,1,none⟩ (xd .u32 ((gY rs [] 0:Nat):Int)))=wf at *;have ad:=ao;have fc:=cell_of_blk ad;refine bodyPost_ret (v:= .agg #[xa so (gD rs []).length sc,xd .u32 ((gY rs [] 0:Nat):Int)]) (by simp[results,results124,go_sem,fc]) rfl ?_;exact⟨so,sc,rfl,StS.of aM,aI⟩
section
variable {σ : Type} [DecidableEq σ]
end
structure ParOk (st:Nat->Nat->Nat) (A N s0:Nat) (l:List Nat) (fr by_:List Int):Prop where
 n1:fr.length=N
 n2:by_.length=N
 lt: ∀z∈l,z<N
 no: ∀z,z<N->z∉l->fr[z]? =some 0
 at0:l[0]? =some s0
 f0:fr[s0]? =some (-1)
 par: ∀(j z:Nat),l[j+1]? =some z-> ∃i y a:Nat,i<=j/\l[i]? =some y/\fr[z]? =some ((y:Int)+1)/\by_[z]? =some (a:Int)/\a<A/\z=st y a
 nd:l.Nodup
theorem ParOk.at{A s0:Nat}{l:List Nat}(h:ParOk st A N s0 l fr by_){z:Nat}(I:l[j]? =some z):
  (z=s0/\fr[z]? =some (-1))\/ ∃i y a:Nat,i<j/\l[i]? =some y/\fr[z]? =some ((y:Int)+1)/\by_[z]? =some (a:Int)/\a<A/\z=st y a:=by
 cases j with
 |zero=>
  rw[h.at0] at I;cases I;exact MM ⟨rfl,h.f0⟩
 |succ j=>
  obtain⟨i,y,a,h1,J⟩:=h.par j z I;exact Mt ⟨i,y,a,zo,J⟩
def AF(w:World)(b q:Nat)(v:Value):Prop:= ∀i,i<q->w.cell? ⟨b,i,none⟩=some v
structure MkF (v mv:Value) (N e:Nat) (w w':World):Prop where
 os:w'.os=w.os
 tape:w'.tape=w.tape
 output:w'.output=w.output
 size:w.heap.size<=w'.heap.size
 block: ∀k,k<w.heap.size->v.ownBlock≠some k->w'.heap[k]? =w.heap[k]?
 af: ∀b q,b<w.heap.size->q<=N->AF w b q mv->AF w' b q mv
 ty: ∀b,TyAt w b e->TyAt w' b e
 keeps: ∀{base n:Nat},w.ownsRow base e 1 v n (List.replicate n mv)->n<=N->w'.ownsRow base e 1 v n (List.replicate n mv)
theorem AF.of_owns{g cap:Nat}(h:w.ownsRow base e 1 (xa (some ⟨g,0,none⟩) n cap) n (Ms n mv)):AF w g n mv:=by
 intro i hi;obtain⟨g',h1,_,h2⟩:=hD h hi;simp_all
theorem MkF.grown(h:w.grownBy w' none):MkF v mv N e w w':=
 ⟨h.os,h.tape,h.output,h.size,fun k R _=>h.block k R zp,fun b q I _ J i hi=>by
  have:=J i hi;have e:=h.block b I zp;unfold World.cell? at this|-;simp_all,fun b ⟨c,m,I⟩=>⟨c,m,(h.block b (fh I) zp).trans I⟩,fun ho _=>gq ho h (by
   cases hv:v.ownBlock with
   |none=>simp
   |some k=>simp)⟩
theorem wJ{size:Nat}(h:w.ownsRow base e size v n xs)(hn:0<n): ∃g cap,v=xa (some ⟨g,0,none⟩) n cap/\base<=g:=by
 obtain⟨_,⟨_,h2⟩|⟨g,cap,cur,hv,hg,_⟩⟩:=h
 ·omega
 simp_all
theorem sD{m:Nat}:Ms n mv++Ms m mv=Ms (n+m) mv:=zp
theorem jf{P:Program}{rest:List Oper}{o:Oper}{a:Act}(aF:o.guard=none){s x:Operand}(t:TypeId)
  (ho:o.op=Op.call {callee:=Callee.builtin Builtin.append,args:= #[s,x],argTypes:= #[t,t]})
  (base:Nat)(e:TypeId)(i:TypeInfo)(z:Value)(bytes:Nat)(ht:P.underlying t=some (.slice e))(hi:P.info? e=some i)(hz:i.zero=some z)(ae:i.size=1)(aN:i.bytes=bytes)(aU:z.cells.size=1)
  (v:Value)(n:Nat)(mv:Value)(hs:a.eval s=v)(aj:w.ownsRow base e 1 v n (Ms n mv))
  (ad:Addr)(m c:Nat)(hx:a.eval x=xa (some ad) m c)(hnews: ∀j,j<m->w.cell? (ad.add j)=some mv)(h1:mv.oneCell'=true)
  (hm:0<m)(aL:n+m<=maxLen)(ai:(n+m) * bytes<=140737488355328)(an:base<=w.heap.size)
  (h: ∀g cap w',w'.ownsRow base e 1 (xa (some ⟨g,0,none⟩) (n+m) cap) (n+m) (Ms (n+m) mv)->MkF v mv (n+m) e w w'->(v.ownBlock=some g\/w.heap.size<=g)->wpList P ops Q rest (a.put o.dst (xa (some ⟨g,0,none⟩) (n+m) cap)) w'):wpList P ops Q (o::rest) a w:=by
 have aI:(Ms m mv).length=m * 1:=zp;have aH: ∀j u,(Ms m mv)[j]? =some u->w.cell? (ad.add j)=some u:=by
  intro j u hu;rw[List.getElem?_replicate] at hu;simp_all
 have aJ: ∀u∈Ms m mv,u.oneCell'=true:=by
  simp_all
 have U: ∀(ao:Option Addr) (cap:Nat),v=xa ao n cap->(ao=none->n=0/\cap=0)->(∀b,ao=some b-> ∀j u,(Ms n mv)[j]? =some u->w.cell? (b.add j)=some u)->cap<n+m->wpList P ops Q (o::rest) a w:=by
  intro ao cap hv au holds ar;refine wpList_append_grows w aF s x t ho e i z 1 bytes ht hi hz ae aN aU zp ao n cap (Ms n mv) za au zp holds ad m c (Ms m mv) hx aI aH aJ ar aL ai ?_;intro v' w' I J;obtain⟨g,aA,rfl,aO⟩:=wJ I zo;refine h g aA w' ?_ (MkF.grown J) (Mt aO);rw[sD] at I;exact ig I an
 obtain⟨hlen,⟨hv,aQ⟩|⟨g,cap,cur,hv,hg,aK,hle,hcap,hcs,aw⟩⟩:=id aj
 ·subst aQ;exact U none 0 hv (fun _=>⟨rfl,rfl⟩) (fun b hb=>zp) zo
 by_cases hr:n+m<=cap
 ·refine wpList_append_fits w aF s x t ho base e i 1 ht hi ae g n cap (Ms n mv) za (hv▸aj) ad m c (Ms m mv) hx aI aH aJ hr ?_;intro w' I J;rw[sD] at I;refine h g cap w' I ⟨J.os,J.tape,J.output,J.size,fun k hk aR=>J.block k hk (by intro e;apply aR;rw[hv];exact e.symm),fun b q hb hq ha=> ?_,fun b ⟨c',m',hb⟩=> ?_,fun {base' n'} hk0 hq'=> ?_⟩ (MM (by rw[hv];rfl))
  ·by_cases hbg:b=g
   ·subst hbg;intro j hj;exact AF.of_owns I j zo
   intro j hj;have:=ha j hj;have e:=J.block b hb za;unfold World.cell? at this|-;simp_all
  ·by_cases hbg:b=g
   ·subst hbg;obtain⟨_,⟨R,_⟩|⟨g2,aB,aC,R,_,aa,_⟩⟩:=I
    ·cases R
    cases R;exact⟨_,_,aa⟩
   exact⟨c',m',(J.block b (fh hb) za).trans hb⟩
  obtain⟨k,hk⟩: ∃k,k=n+m:=⟨_,rfl⟩;rw[<-hk] at hq' I;obtain⟨hl2,⟨R,hn2⟩|⟨g2,aB,aC,R,aM,aa,aG,aq,hcs2,ht2⟩⟩:=hk0
  ·rw[hv] at R;cases R
  rw[hv] at R;cases R;obtain⟨_,⟨ax,_⟩|⟨g3,cap3,aD,ax,hb3,av,hle3,hcap3,aE,aS⟩⟩:=I
  ·cases ax
  cases ax;refine⟨zp,Mt ⟨g,cap,aD,hv,aM,av,aG,aq,aE, ?_⟩⟩;have:=congrArg (List.take (n * 1)) aS;rw[List.take_take,Nat.min_eq_left zo] at this;simp_all
 refine U (some ⟨g,0,none⟩) cap hv (fun e=>by cases e) (fun b hb j u hu=> ?_) zo;cases hb;rw[Ng,Nh,cell_of_blk aK,<-Array.getElem?_toList];rw[<-aw,MO] at hu;simp_all
def AllM(w:World)(l v:Value)(e:Nat):Prop:= ∃o n c,l=xa o n c/\n<=10000000000000/\ ∀i,i<n-> ∃b,o=some ⟨b,0,none⟩/\TyAt w b e/\w.cell? ⟨b,i,none⟩=some v
theorem nQ{l:Value}{m:ByteArray}(h:AllM w l (xj m) 9):
  Calls prog 66 #[l,xj m] w fun e w'=>e=xm (xn true)/\w'=w:=by
 obtain⟨o,n,c,rfl,hn,h⟩:=h;have H:=fa h;exact zm32
def jH(l:List UInt8):List Value:=l.map fun b=>xd .u8 (b.toNat:Int)
theorem vd(l r:List UInt8):jH (l++r)=jH l++jH r:=by unfold jH;simp
theorem Gy(l:List UInt8):(jH l).length=l.length:=by unfold jH;simp
def Ki(w:World)(o:Option Addr)(l:List UInt8):Prop:= ∀(j:Nat) (x:UInt8),l[j]? =some x-> ∃b off,o=some ⟨b,off,none⟩/\b<w.heap.size/\w.cell? ⟨b,off+j,none⟩=some (xd .u8 (x.toNat:Int))
theorem OwnF.bys{l:List UInt8}(h:w.ownsRowF B e 1 (xa o n c) n (jH l)):Ki w o l:=fun j x U=>by
 have hj:=(List.getElem?_eq_some_iff.1 U).1;obtain⟨J,⟨_,hn⟩|⟨g,cap,cur,fz,R,_,hg,_,hle,_,hcs,I⟩⟩:=h
 ·rw[Gy] at J;omega
 cases R;refine⟨g,0,rfl,fh hg, ?_⟩;rw[Nh,cell_of_blk hg,<-Array.getElem?_toList];have:(jH l)[j]? =some (xd .u8 (x.toNat:Int)):=by unfold jH;simp_all
 rw[<-I,MO] at this;simp_all
theorem rH(a:ByteArray): ∀l:List ByteArray,jl (l++[a])=jl l++([u8 a.size]++a.data.toList)
 |[]=>by simp[jl]
 |x::l=>by rw[MK,jl,rH a l,jl];simp
theorem xf(f:Nat)(r:List Nat): ∀(fs:List Nat) (l:List (List Nat)),fs.length=l.length->iQ (fs++[f]) (l++[r])=iQ fs l++(u8 f::r.map u8)
 |[],[],_=>by simp[iQ]
 |[],_::_,h=>zv
 |_::_,[],h=>zv
 |x::fs,y::l,h=>by rw[MK,MK,iQ,xf f r fs l za,iQ];simp
theorem J3(w:World)(J:Option Addr)(n R:Nat)(l:List UInt8)(h:Ki w J l)(hn:l.length=n)(hl:n<=10000000000000):
  Calls prog 88 #[xa J n R] w fun e w'=>e=xm (xd xh (ly 3 l:Nat))/\w'=w:=by
 subst hn;have H:=fa h;go_in;go_wp2
 go_loopw [3,8] (fun s x wr=> ∃k:Nat,k<=l.length/\s=xd xh (ly 3 (l.take k):Nat)/\x=xd xh k/\Hid (w=wr)) (fun _ x _=>l.length - (intOf x).toNat)
 ·exact zm68
 obtain⟨k,hk,rfl,rfl,I⟩:=hrel;have hw:=I.out;subst hw;rcases zc k l.length with⟨hlt,hkn⟩|⟨hlt,hkn⟩
 ·obtain⟨b,off,rfl,hb,hc⟩:=H k l[k] (Mr hlt);have HTK:Hid (ly 3 (l.take (k+1))=BC (ly 3 (l.take k)) l[k].toNat):=by
   show _=_;rw[Mx,Mr hlt,uS];rfl
  have hs:=uv (n:=3) zp (l.take k);have hc8:=l[k].toNat_lt;generalize l[k].toNat=c at *;generalize ly 3 (l.take k)=S at *;exact zm156
 rw[MD zo];go_wp2;go_ret;simp
theorem Tryz.infoU8:(prog.info? 5).map (fun i=>(i.zero,i.size,i.bytes))=some (some (xd .u8 0),1,1):=zk
def Bf(B:Nat)(W0 wr:World)(v:Value)(l:List UInt8):Prop:=Na B 5 v l.length (jH l) W0 wr
theorem Bf.of{l:List UInt8}(h:Na B 5 v n xs W0 wr)(hn:n=l.length)(I:xs=jH l):Bf B W0 wr v l:=by
 subst hn;subst I;exact h
theorem BA(s:ByteArray):Lib.strCells s=jH s.data.toList:=rfl
def jM(t:Tb)(k:Nat):List UInt8:=[83,1,u8 t.acts.length]++jl (t.acts.take k)
def jC(t:Tb)(k:Nat):List UInt8:=jM t t.acts.length++[u8 t.nx.length]++iQ (t.fl.take k) (t.nx.take k)
theorem yV{k:Nat}(h:t.acts[k]? =some a):jM t (k+1)=jM t k++[u8 a.size]++a.data.toList:=by
 unfold jM;rw[Mx,h];show _++jl (t.acts.take k++[a])=_;rw[rH];simp
theorem tB{k f:Nat}(I:t.fl.length=t.nx.length)(hf:t.fl[k]? =some f)(h:t.nx[k]? =some r):jC t (k+1)=jC t k++[u8 f]++r.map u8:=by
 unfold jC;rw[Mx,Mx,h,hf];show _++iQ (t.fl.take k++[f]) (t.nx.take k++[r])=_;rw[xf f r _ _ (by simp[I])];simp
theorem Be(t:Tb)(I:t.fl.length=t.nx.length):jC t t.nx.length=iA t:=by
 unfold jC jM iA;rw[MT,MT,<-I,MT];simp
theorem uq(h:RightT t)(k:Nat):(jM t k).length<=60:=by
 have I:=sM (t.acts.take k) (fun a J=>(h.acts.nm a (ML J)).n8);have h2:=h.acts.n6;unfold jM;rw[MC];rw[MU] at I;exact zm167
theorem xW(h:RightT t)(k:Nat):(jC t k).length<=900:=by
 have h1:=uq h t.acts.length;have I:=tG 6 (t.fl.take k) (t.nx.take k) (fun r hr=>by rw[(h.rs r (ML hr)).1];exact h.acts.n6);have h3:=h.n100;rw[MU] at I;unfold jC;rw[MC,MC];exact zm167
theorem zZ{l:List Nat}{k:Nat}(h:l[k]? =some x):(zI l)[k]? =some (x:Int):=by unfold zI;simp_all
theorem lG(l:List Nat):(zI l).length=l.length:=by unfold zI;simp
theorem Gz(h:n<256):[xd .u8 (n:Int)]=jH [u8 n]:=by
 unfold jH;rw[Nb,List.map_nil,ku h]
theorem Bf.byte{l r:List UInt8}{m:Nat}(hn:n<256)(h:Na B 5 v m (jH l++[xd .u8 (n:Int)]) W0 wr)(hm:m=l.length+1)(hr:r=l++[u8 n]):Bf B W0 wr v r:=by
 subst hr;exact Bf.of h za (by rw[vd,Gz hn])
theorem Bf.text{l r:List UInt8}{s:ByteArray}{m:Nat}(h:Na B 5 v m (jH l++Lib.strCells s) W0 wr)(hm:m=l.length+s.size)(hr:r=l++s.data.toList):Bf B W0 wr v r:=by
 subst hr;exact Bf.of h za (by rw[vd,BA])
theorem Bf.slice{l:List UInt8}(h:Bf B W0 wr v l)(hl:l≠[]): ∃g c,v=xa (some ⟨g,0,none⟩) l.length c/\Ki wr (some ⟨g,0,none⟩) l/\B<=g:=by
 have I:=h.1;obtain⟨_,⟨_,hn⟩|⟨g,cap,cur,fz,J,R,_⟩⟩:=id I
 ·simp_all
 refine⟨g,cap,J, ?_,R⟩;rw[J] at I;exact OwnF.bys I
theorem yg(w:World)(ao fo no:Option Addr)(ac fc nc:Nat){na nf nn:Nat}(t:Tb)(hI:TbI w ao fo no ac t.z)(hR:RightT t)(aI:na=t.acts.length)(aV:nf=t.fl.length)(aW:nn=t.nx.length):
  Calls prog 46 #[.agg #[xa ao na ac,xa fo nf fc,xa no nn nc]] w fun e w'=>e=xm (xj ⟨(iC t).toArray⟩)/\Below w.heap.size w w':=by
 obtain⟨i0,aa,ae,ag,ai⟩:=info_parts Tryz.infoU8;have hB:=iz w (xi #[xa ao na ac,xa fo nf fc,xa no nn nc] 36);have J:=fa (ft w (xi #[xa ao na ac,xa fo nf fc,xa no nn nc] 36));have HI:=fa (hI.later hB);have HR:=fa hR;have HB:=fa hB;have hna6:na<=6:=by have:=hR.acts.n6;omega
 have hnn6:nn<=100:=by have:=hR.n100;omega
 have hnf1:nf<=nn:=by have:=hR.fl;omega
 have hnf2:nn<=nf:=by have:=hR.fl;omega
 have aN:=fa aI;have bd:=fa aV;have aE:=fa aW;have aL:Hid (Bf (w.heap.size+1) (w.alloc (xi #[xa ao na ac,xa fo nf fc,xa no nn nc] 36)) ((w.alloc (xi #[xa ao na ac,xa fo nf fc,xa no nn nc] 36)).alloc (xi #[xd .u8 83,xd .u8 1,xd .u8 (na:Int)] 5)) (xa (some ⟨w.heap.size+1,0,none⟩) 3 3) (jM t 0)):=by
  have e:jM t 0=[83,1,u8 na]:=by unfold jM;rw[aI];rfl
  rw[e];refine⟨⟨zf,.inr ⟨w.heap.size+1,3,_,(0,0),rfl,MH _,fk _ _ _ zp,MI _,MH _,zd,rfl, ?_⟩⟩, ?_,zp⟩
  ·exact zm148
  have:=(MG (w.alloc (xi #[xa ao na ac,xa fo nf fc,xa no nn nc] 36)).heap.size (w.alloc (xi #[xa ao na ac,xa fo nf fc,xa no nn nc] 36))).alloc (MH _) (xi #[xd .u8 83,xd .u8 1,xd .u8 (na:Int)] 5);simpa using this
 clear hI hB hR aI aV aW;go_in;go_wp2_with fail;generalize hW0:w.alloc (xi #[xa ao na ac,xa fo nf fc,xa no nn nc] 36)=W0 at *;have aC:W0.heap.size=w.heap.size+1:=by rw[<-hW0];simp
 have ak:=fa aC;clear hW0 aC
 go_loopw [3,19] (fun bv x wr=> ∃k:Nat,k<=na/\x=xd xh k/\Hid (Bf (w.heap.size+1) W0 wr bv (jM t k))) (fun _ x _=>na - (intOf x).toNat)
 ·exact⟨0,MI _,rfl,aL⟩
 obtain⟨k,hk,rfl,I⟩:=hrel;have hbel:Below W0.heap.size W0 wr:=by rw[ak.out];exact I.2.1
 have hpl:=uq HR k;rcases zc k na with⟨hlt,hkn⟩|⟨hlt,hkn⟩
 ·have ad:k<t.acts.length:=by have:=aN.out;omega
  obtain⟨b,off,rfl,hb,aF⟩:=(HI.later hbel).acts k t.acts[k] (Mr ad);have HX:=fa (Mr ad);have ha8:=(HR.acts.nm _ (Mu ad)).n8;clear hbel;generalize t.acts[k]=a at *
  go_wp2_with (at_builtin;go_must (refine ME rfl _ _ 51 rfl (w.heap.size+1) 5 i0 underlying51 aa ae ag ai _ (jM t k).length (jH (jM t k)) rfl W0 wr (a.size:Int) ?c0 rfl zo ?_))
  case c0=>exact I
  intro v1 w1 an;have R:=fa (Bf.byte (n:=a.size) zo an zp rfl);clear an
  go_wp2_with (at_builtin;go_must (refine Lib.wpList_append_text rfl _ _ 51 9 rfl (w.heap.size+1) 5 i0 underlying51 underlying9 aa ae ag ai v1 (jM t k++[u8 a.size]).length (jH (jM t k++[u8 a.size])) rfl W0 R.out a rfl ?c1 ?_))
  case c1=>simp;omega
  intro v2 w2 aq;have aj:=fa (Bf.text aq zp (yV HX.out));clear aq;go_wp2
  go_roundw
  ·exact⟨k+1,zo,zf,aj⟩
  simp[intOf];omega
 have aH:k=t.acts.length:=by have:=aN.out;omega
 subst aH;have U:wr.cell? ⟨w.heap.size,2,none⟩=some (xa no nn nc):=(bcell3 hbel _ _ (fh J.out)).trans (cell_of_blk J.out 2);clear hbel
 go_wp2_with (at_builtin;go_must (refine ME rfl _ _ 51 rfl (w.heap.size+1) 5 i0 underlying51 aa ae ag ai _ (jM t t.acts.length).length (jH (jM t t.acts.length)) rfl W0 wr (nn:Int) ?d0 rfl ?d1 ?_))
 case d0=>exact I
 case d1=>omega
 intro v1 w1 an;have R:=fa (Bf.byte (n:=nn) (r:=jC t 0) zo an zp (by unfold jC;rw[aE.out];simp[iQ]));have ar:Below W0.heap.size W0 w1:=by rw[ak.out];exact R.2.1
 clear an U;have U:w1.cell? ⟨w.heap.size,2,none⟩=some (xa no nn nc):=(bcell3 ar _ _ (fh J)).trans (cell_of_blk J 2);clear ar;go_wp2_with fail;clear U I
 rename World=>wR
 go_loopw [3,43] (fun bv x wr=> ∃k:Nat,k<=nn/\x=xd xh k/\Hid (Bf (w.heap.size+1) W0 wr bv (jC t k))) (fun _ x _=>nn - (intOf x).toNat)
 ·exact⟨0,MI _,rfl,R⟩
 obtain⟨k,hk,rfl,I⟩:=hrel;have hbel:Below W0.heap.size W0 wr:=by rw[ak.out];exact I.2.1
 have aT:wr.cell? ⟨w.heap.size,1,none⟩=some (xa fo nf fc):=(bcell3 hbel _ _ (fh J)).trans (cell_of_blk J 1);have U:wr.cell? ⟨w.heap.size,2,none⟩=some (xa no nn nc):=(bcell3 hbel _ _ (fh J)).trans (cell_of_blk J 2);have aX:=xW HR k;rcases zc k nn with⟨hlt,hkn⟩|⟨hlt,hkn⟩
 ·have hkf:(k:Int)<(nf:Int):=zo;have ad:k<t.nx.length:=by have:=aE.out;omega
  have av:k<t.fl.length:=by have:=bd.out;omega
  obtain⟨b,off,ro,rc,bt,aO,aB,a6⟩:=HI.nx k (zI t.nx[k]) (by show(t.nx.map zI)[k]? =_;simp_all);have aF:=(bcell3 hbel _ _ aO).trans aB;clear aB aO;obtain⟨fb,foff,br,bo,bq⟩:=(HI.later hbel).fl k (t.fl[k]:Nat) (zZ (Mr av));have HX:=fa (Mr ad);have HY:=fa (Mr av);have hf3:=HR.fs _ (Mu av);have aY:=HR.rs _ (Mu ad);rw[lG] at aF;have hr6a:t.nx[k].length<=6:=zo;have bg:Hid (∀x∈t.nx[k],x<256):=fun x hx=>by have:=aY.2 x hx;have:=HR.n100;omega
  clear aY;subst bt;subst br;generalize t.nx[k]=r at *;generalize t.fl[k]=f at *;have bh:=fa a6;clear a6 hbel
  go_wp2_with (at_builtin;go_must (refine ME rfl _ _ 51 rfl (w.heap.size+1) 5 i0 underlying51 aa ae ag ai _ (jC t k).length (jH (jC t k)) rfl W0 wr (f:Int) ?e0 rfl ?e1 ?_))
  case e0=>exact I
  case e1=>omega
  intro v2 w2 aq;have aj:=fa (Bf.byte (n:=f) zo aq zp rfl);clear aq aT U aF bo bq;have bf:=fa (tB HR.fl HY HX);go_wp2_with fail
  rename World=>wS
  go_loopw [3,59] (fun bv x wr=> ∃j:Nat,j<=r.length/\x=xd xh j/\Hid (Bf (w.heap.size+1) W0 wr bv (jC t k++[u8 f]++(r.take j).map u8))) (fun _ x _=>r.length - (intOf x).toNat)
  ·exact⟨0,MI _,rfl,by simpa using aj⟩
  obtain⟨j,hj,rfl,HBF3⟩:=hrel;have hbel:Below W0.heap.size W0 wr:=by rw[ak.out];exact HBF3.2.1
  rcases zc j r.length with⟨hjl,hjn⟩|⟨hjl,hjn⟩
  ·obtain⟨qb,qoff,bu,hqb,hqc⟩:=bh.later hbel j (r[j]:Nat) (zZ (Mr hjl));have bA:=bg r[j] (Mu hjl);have hlen:(jC t k++[u8 f]++(r.take j).map u8).length<=1000:=by
    simp only[MC,MX,MU,Nj,List.length_nil];omega
   have bl:Hid (jC t k++[u8 f]++(r.take (j+1)).map u8=(jC t k++[u8 f]++(r.take j).map u8)++[u8 r[j]]):=by
    show _=_;rw[Mx,Mr hjl];show jC t k++[u8 f]++(r.take j++[r[j]]).map u8=_;rw[List.map_append,<-MR];rfl
   subst bu;clear hbel;generalize r[j]=x at *;generalize jC t k++[u8 f]++(r.take j).map u8=P at *
   go_wp2_with (at_builtin;go_must (refine ME rfl _ _ 51 rfl (w.heap.size+1) 5 i0 underlying51 aa ae ag ai _ P.length (jH P) rfl W0 wr (x:Int) ?f0 rfl ?f1 ?_))
   case f0=>exact HBF3
   case f1=>omega
   intro v3 w3 aP;have aM:=fa (Bf.byte (n:=x) bA aP zp bl);clear aP;go_wp2
   go_roundw
   ·exact⟨j+1,zo,zf,aM⟩
   simp[intOf];omega
  rw[MD zo,<-bf.out] at HBF3;exact zm185
 have aH:k=t.nx.length:=by have:=aE.out;omega
 subst aH;rw[Be t HR.fl] at I aX;have hsum:=uv (n:=3) zp (iA t);have aD:Hid (iC t=iA t++[u8 (ly 3 (iA t) / 256),u8 (ly 3 (iA t)%256)]):=rfl;clear aT U;obtain⟨g,c,hv,aS,hg⟩:=Bf.slice I (by unfold iA;simp);have ba:=fa aS;subst hv;clear aS;generalize iA t=P at *;have bj:=fa (J3 wr (some ⟨g,0,none⟩) P.length c P ba rfl zo);generalize ly 3 P=S at *;go_wp2_with fail;refine bj.mono ?_;rintro e w5 ⟨rfl,a7⟩;have h5:=a7.symm;clear a7;subst h5
 go_wp2_with (at_builtin;go_must (refine wpList_append_ownF _ rfl _ _ 51 rfl (w.heap.size+1) 5 i0 (xd .u8 0) 1 1 underlying51 aa ae ag ai rfl zd _ P.length (jH P) rfl ?g0 ⟨wr.heap.size,0,none⟩ 2 2 (jH [u8 (S / 256),u8 (S%256)]) rfl rfl ?g1 ?g2 ?g3 ?g4 ?g5 ?_))
 case g0=>exact I.alloc _|>.1
 case g1=>
  intro j u hj;have bw:((u8 (S / 256)).toNat:Int)=(S:Int) / 256:=by rw[ku zo];omega
  have bx:((u8 (S%256)).toNat:Int)=(S:Int)%256:=by rw[ku zo];omega
  have aR:=fk wr (xi #[xd .u8 ((S:Int) / 256),xd .u8 ((S:Int)%256)] 5) wr.heap.size rfl
  match j,hj with
  |0,hj=>simp[jH] at hj;subst hj;rw[bw];exact cell_of_blk aR 0
  |1,hj=>simp[jH] at hj;subst hj;rw[bx];exact cell_of_blk aR 1
  |j+2,hj=>trivial
 case g2=>intro u hu;simp[jH] at hu;rcases hu with rfl|rfl<;>rfl
 case g3=>unfold maxLen;omega
 case g4=>omega
 case g5=>simp;have:=I.2.2;omega
 intro v8 w8 ay aG _;rw[<-vd,<-aD.out] at ay;have aQ:Below W0.heap.size W0 w8:=by
  have k0:=(I.alloc (xi #[xd .u8 ((S:Int) / 256),xd .u8 ((S:Int)%256)] 5)).2.1;rw[ak.out];exact k0.grown aG (by have:=I.2.2;simp;omega) (fun b hb=>by cases hb;omega)
 have a':=fa (HB.trans (aQ.mono HB.size));clear hbel aQ;have aU:P.length+2=(iC t).length:=by rw[aD.out];simp
 rw[aU] at ay;obtain⟨g9,c9,bz,aA,_⟩:=Bf.slice (B:=w.heap.size+1) (W0:=w8) (wr:=w8) (l:=iC t) ⟨ay,MG _ _,by have:=aG.size;have:=I.2.2;simp at *;omega⟩ (by rw[aD.out];simp);subst bz;have hcv:=run_convert_bytes_back (P:=prog) w8 51 9 5 ⟨g9,0,none⟩ c9 (iC t) underlying51 underlying5 underlying9 (fun j hj=>by
  obtain⟨b',off',e1,_,e3⟩:=aA j (iC t)[j] (Mr hj);cases e1;rw[Ng];omega)
 clear aA ay aG aU;generalize hE:iC t=E at *;have HE:=fa hE;clear hE;go_wp2;go_ret;exact⟨by rw[HE.out];rfl,a'⟩
def xY(S:Nat):List UInt8:=[u8 (S / 256),u8 (S%256)]
theorem K6(l:List UInt8):lP l=xY (ly 3 l):=rfl
theorem FP(w:World){S:Nat}(hS:S<65521)(j:Nat)(U:j<(xY S).length):(w.alloc (xi #[xd .u8 ((S:Int) / 256),xd .u8 ((S:Int)%256)] 5)).cell? ((⟨w.heap.size,0,none⟩:Addr).add j)=some (xd .u8 ((xY S)[j].toNat:Int)):=by
 have J:((u8 (S / 256)).toNat:Int)=(S:Int) / 256:=by rw[ku zo];omega
 have R:((u8 (S%256)).toNat:Int)=(S:Int)%256:=by rw[ku zo];omega
 have I:=fk w (xi #[xd .u8 ((S:Int) / 256),xd .u8 ((S:Int)%256)] 5) w.heap.size rfl;rw[Ng,Nh,cell_of_blk I]
 match j,U with
 |0,_=>show some (xd .u8 ((S:Int) / 256))=some (xd .u8 ((u8 (S / 256)).toNat:Int));rw[J]
 |1,_=>show some (xd .u8 ((S:Int)%256))=some (xd .u8 ((u8 (S%256)).toNat:Int));rw[R]
 |j+2,U=>trivial
theorem Gh(w:World)(s:ByteArray)(hs:s.size<=10000000000000):
  Calls prog 147 #[xj s] w fun e w'=>e=xm (xj ⟨(lP s.data.toList).toArray⟩)/\Below w.heap.size w w':=by
 go_in;go_wp2
 go_loopw [3,4] (fun n x wr=> ∃k:Nat,k<=s.size/\n=xd xh ((ly 3 (s.data.toList.take k):Nat):Int)/\x=xd xh k/\Hid (w=wr)) (fun _ x _=>s.size - (intOf x).toNat)
 ·exact zm68
 obtain⟨k,hk,rfl,rfl,HW⟩:=hrel;have hw:=HW.out;subst hw;rcases zc k s.size with⟨hlt,hkn⟩|⟨hlt,hkn⟩
 ·have I:s.data.toList[k]? =some s[k]:=by
   rw[Array.getElem?_toList];exact Array.getElem?_eq_getElem hlt
  have HTK:Hid (ly 3 (s.data.toList.take (k+1))=BC (ly 3 (s.data.toList.take k)) s[k].toNat):=by
   show _=_;rw[Mx,I,uS];rfl
  have J:=uv (n:=3) zp (s.data.toList.take k);have hc8:=s[k].toNat_lt;generalize ly 3 (s.data.toList.take k)=S at *;exact zm156
 have R:s.data.toList.take k=s.data.toList:=MD (by rw[Array.length_toList];show s.size<=k;omega);rw[R];have J:=uv (n:=3) zp s.data.toList;have U:=fa (K6 s.data.toList);generalize ly 3 s.data.toList=S at *;have aa:=run_convert_bytes_back (P:=prog) (w.alloc (xi #[xd .u8 ((S:Int) / 256),xd .u8 ((S:Int)%256)] 5)) 51 9 5 ⟨w.heap.size,0,none⟩ 2 (xY S) underlying51 underlying5 underlying9 (FP w J);rw[show(xY S).length=2 from rfl] at aa;generalize xY S=E at *;go_wp2;refine bodyPost_ret (v:= xj ⟨E.toArray⟩) (by simp[results,results147,go_sem]) rfl ?_;exact⟨by rw[U.out],gz⟩
end Go.Proofs.YtidakhhekofkoaaGreatDoor
