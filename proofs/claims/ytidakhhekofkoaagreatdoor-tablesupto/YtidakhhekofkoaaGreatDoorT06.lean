import Derived.Test.YtidakhhekofkoaaGreatDoorT05
set_option linter.all false
set_option maxHeartbeats 2000000
set_option maxRecDepth 100000
namespace Go.Proofs.YtidakhhekofkoaaGreatDoor
open Go.Proofs.Tryz
open Go.Deep
open Value renaming slice -> xa, int -> xd, string -> xj, pointer -> xk, bool -> xn
open IntKind renaming i64 -> xh
open Obj renaming cells -> xi
open Ending renaming returned -> xm
open List renaming length_append -> Mr, getElem?_eq_getElem -> Ms, getElem?_append_left -> Mt, append_assoc -> Mu, map_cons -> Mw, mem_cons_self -> Mx, mem_cons_of_mem -> My, map_append -> Mz, mem_of_getElem? -> MC, cons_append -> MD, map_nil -> ME, getElem?_append_right -> MF, take_add_one -> MH, length_map -> MI, nil_sublist -> MK, append_nil -> ML, take_of_length_le -> MN, getElem?_eq_none -> MO, flatMap_append -> MP, flatMap_cons -> MU, head?_append -> MV, all_eq_true -> MZ, not_mem_nil -> Na, length_cons -> Nb, getElem_mem -> Nc, all_append -> Nf, nil_append -> Ng
open Nat renaming le_refl -> MG, testBit_lt_two_pow -> MM, add_comm -> MR, lt_of_lt_of_le -> MT, zero_le -> MY
open Addr renaming add -> MJ
open Or renaming inr -> MQ
open Lib renaming containsS_iff -> MX
open Go.RowKit.Below renaming heap_alloc -> M', refl -> Nh
variable {zq:Prop}
variable {f:Fm} {G H:List Fm} {b u v u' v':Nat->Bool} {n j pb cap B i q q1 c q' p lo hi off ac:Nat} {w w' w1 w2:World} {L r NM a l' al:List Tk} {t:Tk} {bad b1 bad' y:Bool} {α:Type} {rs:List Rl} {m d:List (Nat × Nat)} {x:Nat × Nat} {z':Int->Nat->Bool} {M:List Nd} {o:Option Addr}
theorem zm65(h:zq:=by
 go_wp2;go_ret;exact⟨TellsB.no HN.out,HB.out⟩
 ):zq:=h
theorem zm68(h:zq:=by
 exact⟨0,Nat.zero_le _,rfl,rfl,rfl⟩
 ):zq:=h
theorem zm117(h:zq:=by
 go_wp2
 go_roundw
 ·exact⟨k+1,zo,zf,trivial,HK2⟩
 simp[intOf];omega
 ):zq:=h
theorem zm150(h:zq:=by
 go_wp2;go_ret;exact⟨TellsB.no HN.out,Below.refl _ _⟩
 ):zq:=h
theorem zm165(h:zq:=by
 go_wp2;go_ret;exact⟨jG HF.out.symm,rfl⟩
 ):zq:=h
theorem zm176(h:zq:=by
 rw[List.take_of_length_le zo] at HK;go_wp2;go_ret;exact⟨jG HK.out.symm,rfl⟩
 ):zq:=h
theorem zm181(h:zq:=by
 by_cases h:k<0
 ·simp_all
 rw[if_neg h,if_neg h,List.getElem?_map];cases R[k.toNat]? <;>rfl
 ):zq:=h
theorem sQ(al:List Tk): ∀(f:Fm) (L:List Nd),(gJ al f L).1.length=L.length+gF f
 | .nil,L=>rfl
 | .node _ _ a l r,L=>by
  rw[gJ];show((gJ al r (gJ al l L).1).1++[_]).length=L.length+(1+gF l+gF r);rw[Mr,sQ al r,sQ al l];simp;omega
def iF(al:List Tk):List Rl->List Nd × List Int->List Nd × List Int
 |[],p=>p
 |r::rs,p=>iF al rs ((gJ al (gL r) p.1).1,p.2++[(gJ al (gL r) p.1).2])
theorem yP(al:List Tk)(r:Rl): ∀(rs:List Rl) (p:List Nd × List Int),iF al (rs++[r]) p=((gJ al (gL r) (iF al rs p).1).1,(iF al rs p).2++[(gJ al (gL r) (iF al rs p).1).2])
 |[],p=>rfl
 |x::rs,p=>by rw[MD,iF,yP al r rs];rfl
theorem qe(al:List Tk): ∀(rs:List Rl) (p:List Nd × List Int),(iF al rs p).1.length=p.1.length+ib rs/\(iF al rs p).2.length=p.2.length+rs.length
 |[],p=>⟨rfl,rfl⟩
 |r::rs,p=>by
  obtain⟨I,J⟩:=qe al rs ((gJ al (gL r) p.1).1,p.2++[(gJ al (gL r) p.1).2]);rw[iF];refine⟨?_, ?_⟩
  ·rw[I,sQ,ib];omega
  rw[J,Mr];simp;omega
theorem yQ(al:List Tk): ∀(rs:List Rl) (p:List Nd × List Int),(∀t∈p.2,t<(p.1.length:Int))-> ∀t∈(iF al rs p).2,t<((iF al rs p).1.length:Int)
 |[],p,h=>h
 |r::rs,p,h=>by
  rw[iF];refine yQ al rs _ (fun t I=> ?_);obtain⟨⟨M,e⟩,g⟩:=og al (gL r) p.1;rcases List.mem_append.1 I with I|I
  ·have:=h t I;show t<((gJ al (gL r) p.1).1.length:Int);rw[e,Mr];omega
  simp_all
theorem A8(al:List Tk)(n:Nat)(y:ByteArray->Nat->Bool)(z:Int->Nat->Bool): ∀(rs:List Rl) (p:List Nd × List Int),(∀r∈rs,Nm (fun s=> ∀i,z (kY s 0 al (-1)) i=y s i) (gL r))->(∀t∈p.2,t<(p.1.length:Int))->
  (iF al rs p).2.all (fun t=>rowAt (iM n z (iF al rs p).1) t 1)=(p.2.all (fun t=>rowAt (iM n z p.1) t 1)&&rs.all (fun r=>jQ n y (gL r) 1))
 |[],p,_,_=>by simp[iF]
 |r::rs,p,hn,h=>by
  obtain⟨⟨M,e⟩,g⟩:=og al (gL r) p.1;obtain⟨S,U⟩:=ze n z p.1 M;rw[iF,A8 al n y z rs _ (fun r' J=>hn r' (My _ J)) ?_]
  ·have R:=uY al n y z (gL r) p.1 (hn r (Mx ..));show((p.2++[(gJ al (gL r) p.1).2]).all (fun t=>rowAt (iM n z (gJ al (gL r) p.1).1) t 1)&&rs.all _)=_;rw[Nf,List.all_cons,List.all_nil,Bool.and_true,R,List.all_cons,<-Bool.and_assoc]
   congr 2
   rw[e,U];rw[Bool.eq_iff_iff,MZ,MZ];refine forall₂_congr (fun t I=> ?_);rw[y7 (by rw[mE];simp_all)]
  intro t I;rcases List.mem_append.1 I with I|I
  ·have:=h t I;show t<((gJ al (gL r) p.1).1.length:Int);rw[e,Mr];omega
  simp_all
def kF:Fm->List Fm
 | .nil=>[]
 | .node u v a l r=>kF l++kF r++[.node u v a l r]
theorem lO: ∀f:Fm,(kF f).length=gF f
 | .nil=>rfl
 | .node _ _ a l r=>by
  rw[kF,Mr,Mr,lO l,lO r];show gF l+gF r+1=1+gF l+gF r;omega
structure Sp where
 k:Nat
 s:ByteArray
 a:Nat
 b:Nat
def wB:Fm->Bool
 | .nil=>true
 | .node _ _ _ _ _=>false
theorem EZ(h:f≠ .nil):wB f=false:=by
 cases f with
 |nil=>trivial
 |node _ _ _ _ _=>rfl
def hY:Fm->List Sp->List Sp
 | .nil,S=>S
 | .node _ _ a l r,S=>hY r (hY l S)++[⟨a.1,a.2.1,if wB l then 0 else (hY l S).length - 1,if wB r then 0 else (hY r (hY l S)).length - 1⟩]
theorem jm: ∀(f:Fm) (S:List Sp),(hY f S).length=S.length+gF f
 | .nil,S=>rfl
 | .node _ _ a l r,S=>by
  rw[hY,Mr,jm r,jm l];show S.length+gF l+gF r+1=S.length+(1+gF l+gF r);omega
def StAt(G:List Fm)(k:Nat)(d:Sp)(f:Fm):Prop:=match f with
 | .nil=>False
 | .node _ _ a l r=>d.k=a.1/\d.s=a.2.1/\(l= .nil\/(d.a<k/\G[d.a]? =some l))/\(r= .nil\/(d.b<k/\G[d.b]? =some r))
def StOk(S:List Sp)(G:List Fm):Prop:=S.length=G.length/\ ∀k d f,S[k]? =some d->G[k]? =some f->StAt G k d f
theorem StAt.more{k:Nat}{d:Sp}(hk:k<=G.length)(h:StAt G k d f):StAt (G++H) k d f:=by
 cases f with
 |nil=>exact h
 |node u v a l r=>
  obtain⟨I,J,R,U⟩:=h;refine⟨I,J, ?_, ?_⟩
  ·rcases R with h|⟨h,h'⟩
   ·simp_all
   exact MQ ⟨h,by rw[Mt zo];omega⟩
  rcases U with h|⟨h,h'⟩
  ·simp_all
  exact MQ ⟨h,by rw[Mt zo];omega⟩
theorem tN(h:f≠ .nil)(G:List Fm):(G++kF f)[G.length+gF f - 1]? =some f:=by
 cases f with
 |nil=>trivial
 |node u v a l r=>
  rw[kF,<-Mu];have:G.length+gF (.node u v a l r) - 1=(G++(kF l++kF r)).length:=by
   rw[Mr,Mr,lO,lO];show G.length+(1+gF l+gF r) - 1=_;omega
  simp_all
theorem kD(h:f≠ .nil):0<gF f:=by
 cases f with
 |nil=>trivial
 |node u v a l r=>show 0<1+gF l+gF r;omega
theorem uh: ∀(f:Fm) (S:List Sp) (G:List Fm),StOk S G->StOk (hY f S) (G++kF f)
 | .nil,S,G,h=>by rw[kF,ML];exact h
 | .node u v a l r,S,G,h=>by
  have h1:=uh l S G h;have R:=uh r (hY l S) (G++kF l) h1;rw[hY,kF,<-Mu,<-Mu];refine⟨by rw[Mr,Mr,R.1];rfl,fun k d f J hf=> ?_⟩;have hl2:=R.1;have hg2:(G++kF l++kF r).length=G.length+gF l+gF r:=by rw[Mr,Mr,lO,lO]
  rcases Nat.lt_trichotomy k (G++kF l++kF r).length with hk|hk|hk
  ·rw[Mt zo] at J;rw[Mt hk] at hf;exact(R.2 k d f J hf).more zo
  ·rw[MF zo,show k - (hY r (hY l S)).length=0 from zo] at J;rw[MF zo,show k - (G++kF l++kF r).length=0 from zo] at hf;cases J;cases hf;have aa:=h.1;refine⟨rfl,rfl, ?_, ?_⟩
   ·by_cases e:l= .nil
    ·simp_all
    have:=kD e;show l= .nil\/((if wB l then 0 else (hY l S).length - 1)<k/\_[if wB l then 0 else (hY l S).length - 1]? =some l);rw[if_neg (by rw[EZ e];simp)];have I:=jm l S;refine MQ ⟨zo, ?_⟩;have:=tN e G;rw[Mu,Mu,<-Mu G,Mt (by rw[Mr,lO];omega)];simp_all
   by_cases e:r= .nil
   ·simp_all
   have:=kD e;show r= .nil\/((if wB r then 0 else (hY r (hY l S)).length - 1)<k/\_[if wB r then 0 else (hY r (hY l S)).length - 1]? =some r);rw[if_neg (by rw[EZ e];simp)];have I:=jm l S;have U:=jm r (hY l S);refine MQ ⟨zo, ?_⟩;have:=tN e (G++kF l);rw[Mt zo];rw[U,I,aa];rw[Mr,lO] at this;omega
  rw[MO (by rw[Mr,List.length_singleton];omega)] at hf;cases hf
def gD:List Rl->List Sp->List Sp
 |[],S=>S
 |r::rs,S=>gD rs (hY (gL r) S)
def n7(rs:List Rl):List Fm:=(rs.map (fun r=>kF (gL r))).flatten
theorem sk(r:Rl)(rs:List Rl):n7 (r::rs)=kF (gL r)++n7 rs:=zf
theorem qM(r:Rl): ∀(rs:List Rl) (S:List Sp),gD (rs++[r]) S=hY (gL r) (gD rs S)
 |[],S=>rfl
 |x::rs,S=>by rw[MD,gD,qM r rs];rfl
theorem tM: ∀(rs:List Rl) (S:List Sp) (G:List Fm),StOk S G->StOk (gD rs S) (G++n7 rs)
 |[],S,G,h=>by simpa [n7,gD] using h
 |r::rs,S,G,h=>by
  rw[gD,sk,<-Mu];exact tM rs _ _ (uh _ _ _ h)
theorem mP: ∀(rs:List Rl) (S:List Sp),(gD rs S).length=S.length+ib rs
 |[],S=>rfl
 |r::rs,S=>by rw[gD,mP rs,jm,ib];omega
theorem StOk.nil:StOk [] []:=⟨rfl,fun k d f h=>by simp at h⟩
def mR(b:Nat->Bool):Nat->Nat
 |0=>0
 |k+1=>mR b k+(if b k then 2^k else 0)
theorem ur(b:Nat->Bool): ∀k,mR b k<2^k
 |0=>by show 0<1;omega
 |k+1=>by
  have:=ur b k;rw[mR,Nat.pow_succ]
  split<;>omega
theorem r8(b:Nat->Bool): ∀(k j:Nat),j<k->(mR b k).testBit j=b j
 |0,j,h=>zo
 |k+1,j,h=>by
  have I:=ur b k;rw[mR];by_cases e:j=k
  ·subst e;cases hb:b j with
   |false=>simp only[Bool.false_eq_true,if_false,Nat.add_zero];exact MM I
   |true=>simp only[if_true];rw[MR,Nat.testBit_two_pow_add_eq,MM I];rfl
  have J:j<k:=zo;have ih:=r8 b k j J;cases hb:b k with
  |false=>trivial
  |true=>simp only[if_true];rw[MR,Nat.testBit_two_pow_add_gt J];omega
theorem JQ{k:Nat}:mR b k|||2^k=mR b k+2^k:=by
 have I:=ur b k;have:=Nat.two_pow_add_eq_or_of_lt I 1;rw[Nat.mul_one] at this;rw[Nat.or_comm,<-this,MR]
theorem wM{c:Nat->Bool}: ∀{k:Nat},(∀j,j<k->b j=c j)->mR b k=mR c k
 |0,_=>rfl
 |k+1,h=>by rw[mR,mR,wM (fun j hj=>h j zo),h k zo]
open Go.RowKit
def gK(L:List Tk):List Value:=L.flatMap fun t=>[xd xh t.k,xj t.s,xd xh t.p]
theorem lV(L:List Tk)(t:Tk):gK (L++[t])=gK L++[xd xh t.k,xj t.s,xd xh t.p]:=by
 simp[gK]
theorem Tryz.infoTokP:(prog.info? 201).map (fun i=>(i.zero,i.size,i.bytes))=some (some (.agg #[xd xh 0,xj ⟨#[]⟩,xd xh 0]),3,32):=zk
theorem Il:jo n≠0:=by
 unfold jo
 repeat' split
 all_goals omega
theorem IX{l:List UInt8}:jx l≠0:=by
 unfold jx
 repeat' split
 all_goals omega
theorem Ha(s:ByteArray)(j:Nat)(h:j<s.size):(gT s j).k≠0:=by
 unfold gT;rw[dif_pos h]
 repeat' split
 all_goals first|exact IX|exact Il|(simp)|simp
theorem Ic(s:ByteArray)(w:World)(hs:s.size<=400)(hG:GV w):
  Calls prog 113 #[xj s] w fun e w'=> ∃v,e=xm v/\w'.ownsRow w.heap.size 201 3 v (lh s (s.size+1) 0).length (gK (lh s (s.size+1) 0))/\Below w.heap.size w w':=by
 have au:s.size<=maxLen:=by unfold maxLen;omega
 obtain⟨i0,hi,aE,aF,aG⟩:=info_parts Tryz.infoTokP;have HG:=fa hG;clear hG;go_in;go_wp2_with fail;refine(ss s 0 au (MY _)).mono ?_;rintro e w0 ⟨rfl,aC⟩;have aN:=aC.symm;clear aC;subst aN;go_wp2
 go_loopw [3,4] (fun v x wr=> ∃(i n:Nat) (acc:List Tk),i<=s.size/\s.size<n+i/\acc.length<=i/\x=xd xh (gP gZ s i:Nat)/\Hid (lh s (s.size+1) 0=acc++lh s n i)/\
   wr.ownsRow w.heap.size 201 3 v acc.length (gK acc)/\Below w.heap.size w wr) (fun _ x _=>s.size - (intOf x).toNat)
 ·exact zm158
 obtain⟨i,n,acc,ax,hn,hacc,rfl,H,aa,I⟩:=hrel;have az:=l8 gZ s i ax;have hge:=nL gZ s i;have ag:=fa (rY s i ax);have ad:=fa (oI s (n - 1) i);have an:=fa (pE s (n - 1) i);have ao:=fa (Ha s (gP gZ s i));have ai:=fa (CN s (gP gZ s i));have HP:=fa (pD s _ az);have aj:=fa (qA s az);have aA:n - 1+1=n:=zo;rw[aA] at ad an;clear aA;have aq:=fa (fun W h hG=>Ct s (gP gZ s i) W au h hG);generalize gT s (gP gZ s i)=t at *;generalize gP gZ s i=a at *;by_cases ha:a<s.size
 ·have ar:=ao ha;have av:=ag ar;have hp:=HP.out;have hpos:=aj ar;have HR:Hid (lh s (s.size+1) 0=(acc++[t])++lh s (n - 1) (t.p+t.s.size)):=by show _=_;rw[H.out,an.out ar];simp
  have aK:=fa hp;have hpl:t.p<=a:=zo;have hpg:a<=t.p:=zo;clear ad an ao ai ag HP H aj hp;go_wp2_with fail;refine(aq _ ha (HG.later I)).mono ?_;rintro e w1 ⟨rfl,ak⟩;clear aq;simp only[je]
  go_wp2_with (at_builtin;go_must (refine wpList_append_own _ rfl _ _ 125 rfl w.heap.size 201 i0 (.agg #[xd xh 0,xj ⟨#[]⟩,xd xh 0]) 3 32 underlying125 hi aE aF aG rfl zd _ acc.length (gK acc) rfl ?c0 ⟨w1.heap.size+1,0,none⟩ 1 1 [xd xh t.k,xj t.s,xd xh t.p] rfl rfl ?c1 ?c2 ?c3 ?c4 ?c5 ?_))
  case c0=>exact((fL aa ak).alloc _).alloc _
  case c1=>
   intro j u R
   match j,R with
   |0,R=>simp at R;subst R;simp[MJ]
   |1,R=>simp at R;subst R;simp[MJ]
   |2,R=>simp at R;subst R;simp[MJ]
   |j+3,R=>simp at R
  case c2=>intro u hu;simp at hu;rcases hu with rfl|rfl|rfl<;>rfl
  case c3=>omega
  case c4=>omega
  case c5=>have:=I.size;have:=ak.size;simp;omega
  intro v' w2 U J _;have ae:=gG aa;have aM:=ak.size;have hc1:w2.cell? ⟨w1.heap.size,1,none⟩=some (xj t.s):=(rM J zs (fun k hk=>by have:=ae k hk;omega) 1).trans zp;have HB2:=fa (((((I.trans (ak.mono I.size)).alloc (by have:=I.size;omega) _).alloc (by have:=I.size;simp;omega) _).grown J (by have:=I.size;simp;omega) (fun k hk=>(ae k hk).1)));have HO2:Hid (w2.ownsRow w.heap.size 201 3 v' (acc++[t]).length (gK (acc++[t]))):=by
   rw[lV,Mr];exact U
  clear U J aa ae ak I aM;have htl:t.s.size<=s.size:=zo;have hts:(a:Int)+(t.s.size:Int)<=400:=zo;go_wp2_with fail;refine(ss s (a+t.s.size) au zo).mono ?_;rintro e w3 ⟨rfl,aD⟩;have aO:=aD.symm;clear aD;subst aO;have aw:=nL gZ s (a+t.s.size);have aI:=fa aw;clear aw;go_wp2
  go_roundw
  ·exact⟨t.p+t.s.size,n - 1,acc++[t],av.2,zo,zs,by rw[aK.out],HR,HO2,HB2⟩
  simp[intOf];have:=aI.out;omega
 have aL:a=s.size:=zo;have ht:=ai zo;subst ht;have HR:Hid (lh s (s.size+1) 0=acc++[⟨0,ByteArray.empty,s.size⟩]):=by show _=_;rw[H.out,ad.out rfl]
 clear ad an ao ai ag HP H aq aj;have hsa:acc.length<=400:=zo;subst aL
 go_wp2_with (at_builtin;go_must (refine wpList_append_own _ rfl _ _ 125 rfl w.heap.size 201 i0 (.agg #[xd xh 0,xj ⟨#[]⟩,xd xh 0]) 3 32 underlying125 hi aE aF aG rfl zd _ acc.length (gK acc) rfl ?c0 ⟨wr.heap.size,0,none⟩ 1 1 [xd xh 0,xj ⟨#[]⟩,xd xh (s.size:Int)] rfl rfl ?c1 ?c2 ?c3 ?c4 ?c5 ?_))
 case c0=>exact aa.alloc _
 case c1=>
  intro j u R
  match j,R with
  |0,R=>simp at R;subst R;simp[MJ]
  |1,R=>simp at R;subst R;simp[MJ]
  |2,R=>simp at R;subst R;simp[MJ]
  |j+3,R=>simp at R
 case c2=>intro u hu;simp at hu;rcases hu with rfl|rfl|rfl<;>rfl
 case c3=>unfold maxLen;omega
 case c4=>omega
 case c5=>have:=I.size;simp;omega
 intro v' w2 U J _;have ae:=gG aa;have HB2:=fa ((I.alloc I.size _).grown J (by have:=I.size;simp;omega) (fun k hk=>(ae k hk).1));have HO2:Hid (w2.ownsRow w.heap.size 201 3 v' (acc++[(⟨0,ByteArray.empty,s.size⟩:Tk)]).length (gK (acc++[⟨0,ByteArray.empty,s.size⟩]))):=by
  rw[lV,Mr];exact U
 clear U J aa ae I;exact zm132
theorem s5{row:Option Nat}(h:w.grownBy w' row):w.grownBy w'.drew row:=⟨h.os,h.tape,h.output,h.size,h.block⟩
structure PP (w:World) (pb g cap B:Nat) (L:List Tk) (i:Nat) (bad:Bool) (q:Nat) (NM:List Tk):Prop where
 blk: ∃no nn nc,w.heap[pb]? =some (xi #[xa (some ⟨g,i * 3,none⟩) (L.length - i) (cap - i),xn bad,xd xh q,xa no nn nc] 194 (0,0))/\w.ownsRow B 201 3 (xa no nn nc) NM.length (gK NM)
 row: ∃cur,w.heap[g]? =some (xi cur 201 (0,0))/\cur.toList.take (L.length * 3)=gK L
 le:L.length<=cap
 capLe:cap<=maxLen
 len:L.length<=401
 lt:i<L.length
 fe:FE L
 ok: ∀t∈L,Gi 400 t
 gB:g<B
 pB:pb<B
 hB:B<=w.heap.size
 nm:bad=false->NM.length<=i
theorem Cr(L:List Tk)(i:Nat)(t:Tk)(r:List Tk)(h:L.drop i=t::r):
  (gK L)[i * 3]? =some (xd xh t.k)/\(gK L)[i * 3+1]? =some (xj t.s)/\(gK L)[i * 3+2]? =some (xd xh t.p):=by
 induction L generalizing i with
 |nil=>simp at h
 |cons u L ih=>
  cases i with
  |zero=>simp at h;obtain⟨rfl,rfl⟩:=h;trivial
  |succ i=>
   have:=ih i zv;have e:gK (u::L)=[xd xh u.k,xj u.s,xd xh u.p]++gK L:=zf;exact zm58
theorem l5{g:Nat}(h: ∃cur,w.heap[g]? =some (xi cur 201 (0,0))/\cur.toList.take (L.length * 3)=gK L)(ht:L.drop j=t::r):
  w.cell? ⟨g,j * 3,none⟩=some (xd xh t.k)/\w.cell? ⟨g,j * 3+1,none⟩=some (xj t.s)/\w.cell? ⟨g,j * 3+2,none⟩=some (xd xh t.p):=by
 obtain⟨cur,h1,h2⟩:=h;have h3:=Cr L j t r ht;exact zm48
theorem PP.tok{g:Nat}(h:PP w pb g cap B L i bad q NM)(I:PL L i=t::r):
  w.cell? ⟨g,i * 3,none⟩=some (xd xh t.k)/\w.cell? ⟨g,i * 3+1,none⟩=some (xj t.s)/\w.cell? ⟨g,i * 3+2,none⟩=some (xd xh t.p):=by
 obtain⟨r',hr⟩:=ue I;exact l5 h.row hr
theorem PP.gLt{g:Nat}(h:PP w pb g cap B L i bad q NM):g<w.heap.size:=by
 obtain⟨cur,I,_⟩:=h.row;exact fh I
theorem PP.pLt{g:Nat}(h:PP w pb g cap B L i bad q NM):pb<w.heap.size:=by
 obtain⟨_,_,_,I,_⟩:=h.blk;exact fh I
theorem PP.ne{g:Nat}(h:PP w pb g cap B L i bad q NM):g≠pb:=by
 rintro rfl;obtain⟨cur,h1,_⟩:=h.row;obtain⟨_,_,_,h2,_⟩:=h.blk;simp_all
theorem PP.later{g:Nat}(h:PP w pb g cap B L i bad q NM)(I:Below w.heap.size w w'):PP w' pb g cap B L i bad q NM:=by
 obtain⟨no,nn,nc,J,U⟩:=h.blk;obtain⟨cur,R,h4⟩:=h.row;exact⟨⟨no,nn,nc,(I.block _ (fh J)).trans J,fL U I⟩,⟨cur,(I.block _ (fh R)).trans R,h4⟩,h.le,h.capLe,h.len,h.lt,h.fe,h.ok,h.gB,h.pB,by have:=I.size;have:=h.hB;omega,h.nm⟩
theorem PP.alloc{g:Nat}(h:PP w pb g cap B L i bad q NM)(o:Obj):PP (w.alloc o) pb g cap B L i bad q NM:=
 h.later gz
def LJ(g cap n i:Nat)(bad:Bool)(q:Nat)(no:Option Addr)(nn nc:Nat):Obj:=
 xi #[xa (some ⟨g,i * 3,none⟩) (n - i) (cap - i),xn bad,xd xh q,xa no nn nc] 194 (0,0)
structure Mv (w w':World) (pb g cap n i:Nat) (bad:Bool) (q j:Nat) (bad':Bool) (q':Nat):Prop where
 gr:w.grownBy w' (some pb)
 onto: ∀no nn nc,w.heap[pb]? =some (LJ g cap n i bad q no nn nc)->w'.heap[pb]? =some (LJ g cap n j bad' q' no nn nc)
theorem Mv.trans{g k J:Nat}{b b2:Bool}(h:Mv w w1 pb g cap n i b q j b1 q1)(I:Mv w1 w2 pb g cap n j b1 q1 k b2 J):Mv w w2 pb g cap n i b q k b2 J:=
 ⟨h.gr.trans I.gr,fun no nn nc e=>I.onto no nn nc (h.onto no nn nc e)⟩
theorem Mv.refl(w:World)(pb g cap n i:Nat)(b:Bool)(q:Nat):Mv w w pb g cap n i b q i b q:=⟨World.grownBy.refl _ _,fun _ _ _ e=>e⟩
theorem Mv.alloc{g:Nat}{b:Bool}(h:Mv w w1 pb g cap n i b q j b1 q1)(o:Obj):Mv w (w1.alloc o) pb g cap n i b q j b1 q1:=
 ⟨gI h.gr o,fun no nn nc e=>by have:=h.onto no nn nc e;exact(M' _ _ _ (fh this)).trans this⟩
theorem Mv.setNew{g:Nat}{b:Bool}(h:Mv w w1 pb g cap n i b q j b1 q1)(hc:w.heap.size<=c)(hp:pb<w.heap.size)(o:Nat)(v:Value):Mv w (w1.setCell ⟨c,o,none⟩ v) pb g cap n i b q j b1 q1:=
 ⟨gy h.gr hc o v,fun no nn nc e=>(Below.heap_setCell _ _ _ _ (by show pb≠c;omega)).trans (h.onto no nn nc e)⟩
theorem Mv.setNew3{g:Nat}{b:Bool}(h:Mv w w1 pb g cap n i b q j b1 q1)(hc:w.heap.size<=c)(I:pb<w.heap.size)(v0 v1 J:Value):Mv w (((w1.setCell ⟨c,0,none⟩ v0).setCell ⟨c,1,none⟩ v1).setCell ⟨c,2,none⟩ J) pb g cap n i b q j b1 q1:=
 ((h.setNew hc I 0 v0).setNew hc I 1 v1).setNew hc I 2 J
theorem PP.move{g:Nat}(h:PP w pb g cap B L i bad q NM)(hm:Mv w w' pb g cap L.length i bad q j bad' q')
  (hj:j<L.length)(hn:bad'=false->NM.length<=j):PP w' pb g cap B L j bad' q' NM:=by
 obtain⟨no,nn,nc,U,J⟩:=h.blk;obtain⟨cur,R,h4⟩:=h.row;have I:(xa no nn nc).ownBlock≠some pb:=by
  intro e;have:=gG J pb e;have:=h.pB;omega
 exact⟨⟨no,nn,nc,hm.onto _ _ _ U,gq J hm.gr (MQ I)⟩,⟨cur,(hm.gr.block _ (fh R) (by have:=h.ne;simp_all)).trans R,h4⟩,h.le,h.capLe,h.len,hj,h.fe,h.ok,h.gB,h.pB,by have:=hm.gr.size;have:=h.hB;omega,hn⟩
def fq(bad:Bool)(q p:Nat):Nat:=if bad=true then q else p
theorem jc(pb g cap B:Nat)(L:List Tk)(i:Nat)(bad:Bool)(q:Nat)(NM:List Tk)(t:Tk)(r:List Tk)(h:PP w pb g cap B L i bad q NM)(J:PL L i=t::r):
  Calls prog 155 #[xk (some ⟨pb,0,none⟩)] w fun e w'=>e=xm (xd xh t.k)/\w'=w:=by
 obtain⟨no,nn,nc,I,_⟩:=h.blk;obtain⟨t0,t1,t2⟩:=h.tok J;have hlt:=h.lt;have bc:=cell_of_blk I;clear h I J;go_in;go_wp2;go_ret;simp
theorem Fs(pb g cap B:Nat)(L:List Tk)(i:Nat)(bad:Bool)(q:Nat)(NM:List Tk)(t:Tk)(r:List Tk)(h:PP w pb g cap B L i bad q NM)(ht:PL L i=t::r):
  Calls prog 191 #[xk (some ⟨pb,0,none⟩)] w fun e w'=>e=xm (.tuple #[])/\Mv w w' pb g cap L.length i bad q (L.length - 1) true (fq bad q t.p):=by
 obtain⟨no,nn,nc,J,_⟩:=h.blk;obtain⟨t0,t1,t2⟩:=h.tok ht;have hlt:=h.lt;have hlen:=h.len;have hcap:=h.le;have I:=h.capLe;unfold maxLen at I;have bc:=cell_of_blk J;have bf:=fi J;have HP:=fa h;have H1:=fa J;clear h J ht;go_in;have e1:i * 3+(L.length - i - 1) * 3=(L.length - 1) * 3:=zo;have e2:L.length - i - (L.length - i - 1)=L.length - (L.length - 1):=zo;have e3:cap - i - (L.length - i - 1)=cap - (L.length - 1):=zo;have R:=fa e1;have U:=fa e2;have E3:=fa e3;clear e1 e2 e3;cases bad
 ·go_wp2_with fail
  go_region
  rw[R.out,U.out,E3.out];go_end0;have hg:=s5 ((fK w pb 1 (xn true)).trans ((fK _ pb 2 (xd xh t.p)).trans (fK _ pb 0 (xa (some ⟨g,(L.length - 1) * 3,none⟩) (L.length - (L.length - 1)) (cap - (L.length - 1))))));exact⟨rfl,hg,fun no nn nc h=>fj (fj (fj h 1 _) 2 _) 0 _⟩
 go_wp2_with fail
 go_region
 rw[R.out,U.out,E3.out];go_end0;have hg:=s5 (fK w pb 0 (xa (some ⟨g,(L.length - 1) * 3,none⟩) (L.length - (L.length - 1)) (cap - (L.length - 1))));exact⟨rfl,hg,fun no nn nc h=>fj h 0 _⟩
theorem qk(k:Nat)(w:World)(pb g cap B:Nat)(L:List Tk)(i:Nat)(bad:Bool)(q:Nat)(NM:List Tk)(t:Tk)(r:List Tk)(h:PP w pb g cap B L i bad q NM)(ht:PL L i=t::r)(hk:t.k≠k):
  Calls prog 153 #[xk (some ⟨pb,0,none⟩),xd xh (k:Int)] w fun e w'=>e=xm (je t)/\Mv w w' pb g cap L.length i bad q (L.length - 1) true (fq bad q t.p):=by
 obtain⟨no,nn,nc,h1,_⟩:=h.blk;obtain⟨t0,t1,t2⟩:=h.tok ht;have hlt:=h.lt;have hp:=h.pLt;have hg:=h.gLt;have bc:=cell_of_blk h1;have hkb:((t.k:Int) !=(k:Int))=true:=zs;have HP:=fa h;have HT:=fa ht;clear h h1 ht hk;go_in;go_wp2_with fail;refine(Fs pb g cap B L i bad q NM t r ((HP.alloc _).alloc _) HT).mono ?_;rintro e w1 ⟨rfl,J⟩;have I:=J.gr;have hrb:=(I.block _ zs zs).trans ((M' _ _ _ zp).trans (ft _ _));have R:w1.heap[w.heap.size+1]? =some (xi #[xd xh t.k,xj t.s,xd xh t.p] 201 (0,0)):=(I.block _ zp zs).trans (fk _ _ _ zp);have HM:=fa ((((Mv.refl w pb g cap L.length i bad q).alloc _).alloc _).trans J);have rc:=cell_of_blk hrb;have rf:=fi hrb;have xc:=cell_of_blk R;have aa:=fa hrb;clear I J hrb R bc t0 t1 t2;go_wp2_with fail;clear rc;have U:(((w1.setCell ⟨w.heap.size,0,none⟩ (xd xh t.k)).setCell ⟨w.heap.size,1,none⟩ (xj t.s)).setCell ⟨w.heap.size,2,none⟩ (xd xh t.p)).heap[w.heap.size]? =some (xi #[xd xh t.k,xj t.s,xd xh t.p] 201 (0,0)):=fj (fj (fj aa 0 _) 1 _) 2 _;have rc:=cell_of_blk U;refine bodyPost_ret (v:=je t) (by simp[results,results153,go_sem,rc,je]) rfl ⟨rfl,HM.setNew3 (MG _) hp _ _ _⟩
theorem kG(k:Nat)(w:World)(pb g cap B:Nat)(L:List Tk)(i:Nat)(bad:Bool)(q:Nat)(NM:List Tk)(t:Tk)(r:List Tk)(h:PP w pb g cap B L i bad q NM)(U:PL L i=t::r)(hk:t.k=k)(R:2<=k):
  Calls prog 153 #[xk (some ⟨pb,0,none⟩),xd xh (k:Int)] w fun e w'=>e=xm (je t)/\Mv w w' pb g cap L.length i bad q (i+1) bad q:=by
 obtain⟨no,nn,nc,J,_⟩:=h.blk;obtain⟨t0,t1,t2⟩:=h.tok U;have hnx:=h.fe.nextLt U zo;have hle:=h.le;have I:=h.capLe;unfold maxLen at I;have hp:=h.pLt;have hg:=h.gLt;have bc:=cell_of_blk J;have bf:=fi J;have hkb:((t.k:Int) !=(k:Int))=false:=zs;have hkz:((k:Int) !=0)=true:=zs;have hc1:¬ cap - i=1:=zo;have e1:i * 3+3=(i+1) * 3:=zo;have e2:L.length - i - 1=L.length - (i+1):=zo;have e3:cap - i - 1=cap - (i+1):=zo;have E1:=fa e1;have E2:=fa e2;have E3:=fa e3;clear h J U hk e1 e2 e3 R;go_in;go_wp2_with fail;rw[E1.out,E2.out,E3.out];refine bodyPost_ret (v:=je t) (by simp[results,results153,go_sem,je]) rfl ⟨rfl, ?_⟩;have hm:Mv w (w.setCell ⟨pb,0,none⟩ (xa (some ⟨g,(i+1) * 3,none⟩) (L.length - (i+1)) (cap - (i+1)))) pb g cap L.length i bad q (i+1) bad q:=⟨fK _ _ _ _,fun no nn nc h=>fj h 0 _⟩;exact(hm.alloc _).alloc _
theorem yX(w:World)(pb g cap B:Nat)(L:List Tk)(i:Nat)(bad:Bool)(q:Nat)(NM:List Tk)(t:Tk)(r:List Tk)(h:PP w pb g cap B L i bad q NM)(J:PL L i=t::r)(R:t.k=0):
  Calls prog 153 #[xk (some ⟨pb,0,none⟩),xd xh 0] w fun e w'=>e=xm (je t)/\Mv w w' pb g cap L.length i bad q i bad q:=by
 obtain⟨no,nn,nc,I,_⟩:=h.blk;obtain⟨t0,t1,t2⟩:=h.tok J;have hlt:=h.lt;have hp:=h.pLt;have hg:=h.gLt;have bc:=cell_of_blk I;have hkb:((t.k:Int) !=0)=false:=zs;clear h I J R;go_in;go_wp2_with fail;refine bodyPost_ret (v:=je t) (by simp[results,results153,go_sem,je]) rfl ⟨rfl, ?_⟩;exact((Mv.refl _ _ _ _ _ _ _ _).alloc _).alloc _
theorem lp(k:Nat){g:Nat}(h:PP w pb g cap B L i bad q NM)(I:PL L i=t::r)(U:t.k≠k):
  Calls prog 154 #[xk (some ⟨pb,0,none⟩),xd xh (k:Int)] w fun e w'=>e=xm (xn false)/\w'=w:=by
 have hkb:((t.k:Int) !=(k:Int))=true:=zs;have J:=fa h;have R:=fa I;clear h I U;go_in;go_wp2_with fail;refine(jc pb g cap B L i bad q NM t r J R).mono ?_;rintro e w1 ⟨rfl,rfl⟩;go_wp2;go_ret;simp
theorem nE(k:Nat){g:Nat}(h:PP w pb g cap B L i bad q NM)(ht:PL L i=t::r)(U:t.k=k)(I:2<=k):
  Calls prog 154 #[xk (some ⟨pb,0,none⟩),xd xh (k:Int)] w fun e w'=>e=xm (xn true)/\Mv w w' pb g cap L.length i bad q (i+1) bad q:=by
 have hkb:((t.k:Int) !=(k:Int))=false:=zs;have J:=fa h;have R:=fa ht;have HK:=fa U;clear h ht U;go_in;go_wp2_with fail;refine(jc pb g cap B L i bad q NM t r J R).mono ?_;rintro e w1 ⟨rfl,rfl⟩;go_wp2_with fail;refine(kG k _ pb g cap B L i bad q NM t r J R HK I).mono ?_;rintro e w2 ⟨rfl,hm⟩;have HM:=fa hm;clear hm;go_wp2;go_ret;trivial
def kJ:Fm->List Tk
 | .nil=>[]
 | .node _ _ a l r=>(if a.1=0 then [⟨2,a.2.1,a.2.2⟩] else [])++(kJ l++kJ r)
theorem CO{k:Nat}(hk:k≠0)(f:Fm):kJ (one k f)=kJ f:=by
 show(if k=0 then _ else [])++(kJ f++[])=kJ f;simp_all
theorem pF{k:Nat}(hk:k≠0)(f g:Fm):kJ (two k f g)=kJ f++kJ g:=by
 show(if k=0 then _ else [])++(kJ f++kJ g)=_;simp_all
theorem AZ{k:Nat}(hk:k≠0)(s:ByteArray)(p:Nat):kJ (leaf k s p)=[]:=by
 show(if k=0 then _ else [])++([]++[])=[];simp_all
theorem A0(s:ByteArray)(p:Nat):kJ (leaf 0 s p)=[⟨2,s,p⟩]:=rfl
theorem ui(al:List Tk): ∀f,pT al f=(kJ f).flatMap (fun t=>iW al t.s t.p)
 | .nil=>rfl
 | .node _ _ a l r=>by
  rw[pT,kJ,MP,MP,<-ui al l,<-ui al r]
  congr 1
  split
  ·simp
  rfl
theorem kr{l:List α}:l.tail.Sublist l:=List.tail_sublist l
theorem ou{m I l l1 l2:List α}(h:(m++l1).Sublist l)(J:(I++l2).Sublist l1):((m++I)++l2).Sublist l:=by
 rw[Mu];exact(List.Sublist.append (List.Sublist.refl m) J).trans h
theorem Iz{m l l1 l2:List α}(h:(m++l1).Sublist l)(I:l2.Sublist l1):(m++l2).Sublist l:=(List.Sublist.append (List.Sublist.refl m) I).trans h
theorem kK: ∀n ae f l J l',pf n ae f l= .ok (J,l')->ae<=6-> ∃ms,kJ J=(if 5<=ae then kJ f else [])++ms/\(ms++l').Sublist l
 |0,_,_,_,_,_,h,_=>zv
 |n+1,0,f,l,J,l',h,_=>by
  rw[pf] at h
  split at h
  ·cases h
  rename_i a l1 e
  obtain⟨m1,R,I⟩:=kK n 1 .nil l a l1 e zo
  split at h
  ·split at h
   ·cases h
   rename_i b l2 e2
   obtain⟨U,g2,s2⟩:=kK n 0 .nil l1.tail b l2 e2 zo;cases h;exact⟨m1++U,by rw[pF zp,R,g2];rfl,ou I (s2.trans (kr))⟩
  simp_all
 |n+1,1,f,l,J,l',h,_=>by
  rw[pf] at h
  split at h
  ·cases h
  rename_i a l1 e
  obtain⟨m1,R,I⟩:=kK n 2 .nil l a l1 e zo;obtain⟨U,e2,s2⟩:=kK n 5 a l1 J l' h zo;exact⟨m1++U,za,ou I s2⟩
 |n+1,2,f,l,J,l',h,_=>by
  rw[pf] at h
  split at h
  ·cases h
  rename_i a l1 e
  obtain⟨m1,R,I⟩:=kK n 3 .nil l a l1 e zo;obtain⟨U,e2,s2⟩:=kK n 6 a l1 J l' h zo;exact⟨m1++U,za,ou I s2⟩
 |n+1,3,f,l,J,l',h,_=>by
  rw[pf] at h
  split at h
  ·cases h
  rename_i a l1 e
  obtain⟨m1,R,I⟩:=kK n 4 .nil l a l1 e zo
  split at h
  ·split at h
   ·cases h
   rename_i b l2 e2
   obtain⟨U,g2,s2⟩:=kK n 4 .nil l1.tail b l2 e2 zo;cases h;exact⟨m1++U,by rw[pF zp,R,g2];rfl,ou I (s2.trans (kr))⟩
  simp_all
 |n+1,4,f,l,J,l',h,_=>by
  rw[pf] at h
  split at h
  ·rename_i ag
   split at h
   ·cases h
   rename_i a l1 e
   obtain⟨m1,R,I⟩:=kK n 4 .nil l.tail a l1 e zo;cases h;exact⟨m1,by rw[CO ag,R];rfl,I.trans (kr)⟩
  split at h
  ·split at h
   ·cases h
   rename_i a l1 e
   obtain⟨m1,R,I⟩:=kK n 0 .nil l.tail a l1 e zo
   split at h
   ·cases h;exact⟨m1,R,Iz (I.trans (kr)) (kr)⟩
   cases h
  split at h
  ·rename_i hw
   cases h;exact⟨[],by rw[AZ zo];rfl,kr⟩
  split at h
  ·rename_i hk
   cases h;obtain⟨t,r,hl,ht⟩:=rV hk zp;subst hl;refine⟨[t], ?_,List.Sublist.refl _⟩;rw[A0];cases t with
   |mk k s p=>cases ht;rfl
  cases h
 |n+1,5,f,l,J,l',h,_=>by
  rw[pf] at h
  split at h
  ·split at h
   ·cases h
   rename_i b l1 e
   obtain⟨m1,R,I⟩:=kK n 2 .nil l.tail b l1 e zo;obtain⟨U,e2,s2⟩:=kK n 5 _ l1 J l' h zo;exact⟨m1++U,by rw[e2,if_pos zp,pF zp,R,if_neg zp];simp,(ou I s2).trans (kr)⟩
  simp_all
 |n+1,6,f,l,J,l',h,_=>by
  rw[pf] at h
  split at h
  ·split at h
   ·cases h
   rename_i b l1 e
   obtain⟨m1,R,I⟩:=kK n 3 .nil l.tail b l1 e zo;obtain⟨U,e2,s2⟩:=kK n 6 _ l1 J l' h zo;exact⟨m1++U,by rw[e2,if_pos zp,pF zp,R,if_neg zp];simp,(ou I s2).trans (kr)⟩
  simp_all
 |n+1,k+7,f,l,J,l',h,hl=>zo
def se(r:Rl):List Nat:=if r.call=true then r.word.p::(r.args.map Tk.p++[r.fin]) else (kJ r.f).map Tk.p
theorem BB{b:List Tk}(h:a.Sublist b):(a.map Tk.p).Sublist (b.map Tk.p):=h.map _
theorem jz{l:List Tk}{k:Nat}(h:gu l=k)(I:k≠0):l.map Tk.p=gQ l::l.tail.map Tk.p:=by
 obtain⟨t,r,rfl,_⟩:=rV h I;rfl
theorem uk(l:List Tk):(kX l).p=gQ l:=by cases l<;>rfl
theorem Bn{l:List Tk}{r:Rl}(h:gS l= .ok (r,l')):(se r++l'.map Tk.p).Sublist (l.map Tk.p):=by
 unfold gS at h
 split at h
 ·rename_i I
  obtain⟨I,U⟩:=I
  split at h
  ·rename_i h3
   split at h
   ·rename_i R
    split at h
    ·rename_i J
     split at h
     ·rename_i h6
      cases h;unfold se;rw[if_pos rfl,jz I zp,jz U zp,jz h3 zp,jz R zp];have h7:l.tail.tail.tail.tail.map Tk.p=gQ l.tail.tail.tail.tail::l.tail.tail.tail.tail.tail.map Tk.p:=by
       rcases J with J|J<;>exact jz J zp
      rw[jz h6 zp] at h7;simp only[Mw,ME,uk,MD,Ng];refine List.Sublist.cons_cons _ (List.Sublist.cons _ (List.Sublist.cons_cons _ (List.Sublist.cons _ ?_)));rw[h7];exact List.Sublist.refl _
     cases h
    cases h
   split at h
   ·rename_i R
    cases h;unfold se;rw[if_pos rfl,jz I zp,jz U zp,jz h3 zp,jz R zp];simp only[Mw,ME,uk,MD,Ng];exact List.Sublist.cons_cons _ (List.Sublist.cons _ (List.Sublist.refl _))
   cases h
  cases h
 split at h
 ·cases h
 rename_i f l1 e
 cases h;obtain⟨ms,e1,s1⟩:=kK _ _ _ _ _ _ e zo;have:kJ f=ms:=zv;unfold se;rw[if_neg zp,this,<-Mz];exact BB s1
theorem sO: ∀n l ts l',iG n l= .ok (ts,l')->(ts.map Tk.p++l'.map Tk.p).Sublist (l.map Tk.p)
 |0,_,_,_,h=>by simp[iG] at h
 |n+1,l,ts,l',h=>by
  rw[iG] at h
  split at h
  ·rename_i I
   split at h
   ·rename_i h2
    split at h
    ·cases h
    rename_i ts1 l1 e
    cases h;have:=sO n _ _ _ e;rw[jz I zp,Mw,uk,MD];exact List.Sublist.cons_cons _ (this.trans (BB (kr)))
   cases h;rw[jz I zp,Mw,uk];exact List.Sublist.refl _
  cases h
theorem sE: ∀n l rs,iI n l= .ok rs->(rs.flatMap (fun r=>r.pl::se r)).Sublist (l.map Tk.p)
 |0,_,_,h=>by simp[iI] at h
 |n+1,l,rs,h=>by
  rw[iI] at h
  split at h
  ·cases h;exact MK _
  split at h
  ·rename_i J
   split at h
   ·cases h
   rename_i r l1 e
   split at h
   ·split at h
    ·cases h
    rename_i rs1 I
    cases h;have R:=Bn e;have U:=sE n _ _ I;rw[jz J zp,MU,MD];refine List.Sublist.cons_cons _ ((List.Sublist.append (List.Sublist.refl _) (U.trans (BB (kr)))).trans ?_);exact R
   cases h
  cases h
theorem zH{l:List Tk}(h:gW l= .ok (al,rs)):(al.map Tk.p++rs.flatMap (fun r=>r.pl::se r)).Sublist (l.map Tk.p):=by
 unfold gW at h
 split at h
 ·split at h
  ·cases h
  rename_i al1 l1 e
  split at h
  ·split at h
   ·cases h
   rename_i rs1 I
   cases h;have J:=sO _ _ _ _ e;have R:=sE _ _ _ I;exact(List.Sublist.append (List.Sublist.refl _) (R.trans (BB (kr)))).trans (J.trans (BB (kr)))
  cases h
 cases h
theorem CM(s:ByteArray): ∀n i,i<=s.size->(∀t∈jg s n i,i<=t.p)/\((jg s n i).map Tk.p).Pairwise (· <·)
 |0,i,_=>⟨fun _ h=>zv,List.Pairwise.nil⟩
 |n+1,i,hi=>by
  have J:=l8 gZ s i hi;have h2:=pD s _ J;have h0:=nL gZ s i;by_cases hk:(gT s (gP gZ s i)).k<=1
  ·rw[lI s n i hk];simp_all
  rw[nA s n i hk];have U:=re s i hi hk;have h4:=qA s J zo;obtain⟨R,i2⟩:=CM s n _ U.2;refine⟨fun t I=> ?_, ?_⟩
  ·rcases List.mem_cons.1 I with rfl|I
   ·omega
   have:=R t I;omega
  rw[Mw];refine List.Pairwise.cons (fun p hp=> ?_) i2;obtain⟨t,I,rfl⟩:=List.mem_map.1 hp;have:=R t I;omega
def Blk(p lo hi:Nat)(l:List (Nat × Nat)):Prop:=(∀f∈l,f.1=p/\lo<=f.2/\f.2<=hi)/\l.Pairwise (fun f g=>f.2<=g.2)
theorem Blk.nil(p lo hi:Nat):Blk p lo hi []:=⟨fun _ h=>(Na h).elim,List.Pairwise.nil⟩
theorem Blk.one{e:Nat}(h:lo<=e)(h':e<=hi):Blk p lo hi [(p,e)]:=⟨fun f hf=>za,List.pairwise_singleton _ _⟩
theorem Blk.ite{c:Prop}[Decidable c]{l:List (Nat × Nat)}(h:Blk p lo hi l)(k:Blk p lo hi m):Blk p lo hi (if c then l else m):=by split<;>assumption
theorem Blk.append{mid mid':Nat}{l:List (Nat × Nat)}(h:Blk p lo mid l)(k:Blk p mid' hi m)(hm:mid<=mid')(hlo:lo<=mid')(hhi:mid<=hi):Blk p lo hi (l++m):=by
 refine⟨fun f hf=> ?_,List.pairwise_append.2 ⟨h.2,k.2,fun a I b J=> ?_⟩⟩
 ·rcases List.mem_append.1 hf with hf|hf
  ·have:=h.1 f hf;omega
  have:=k.1 f hf;omega
 have h1:=h.1 a I;have h2:=k.1 b J;omega
def Cov:List Nat->List (Nat × Nat)->Prop
 |[],l=>l=[]
 |p::ps,l=> ∃a b,l=a++b/\(∃lo hi,Blk p lo hi a)/\Cov ps b
theorem Cov.append: ∀{ps I:List Nat} {l m:List (Nat × Nat)},Cov ps l->Cov I m->Cov (ps++I) (l++m)
 |[],_,l,m,h,k=>by cases h;exact k
 |p::ps,I,l,m,⟨a,b,e,h1,h2⟩,k=>⟨a,b++m,za,h1,Cov.append h2 k⟩
theorem Cov.one{l:List (Nat × Nat)}(h:Blk p lo hi l):Cov [p] l:=⟨l,[],zp,⟨lo,hi,h⟩,rfl⟩
theorem Cov.cons{ps:List Nat}{l:List (Nat × Nat)}(h:Blk p lo hi l)(k:Cov ps m):Cov (p::ps) (l++m):=⟨l,m,rfl,⟨lo,hi,h⟩,k⟩
def IZ(l:List (Nat × Nat)):Prop:=l.Pairwise (fun f g=>f.1<g.1\/(f.1=g.1/\f.2<=g.2))
theorem Cov.mem: ∀{ps:List Nat} {l:List (Nat × Nat)},Cov ps l-> ∀f∈l,f.1∈ps
 |[],_,h,f,hf=>by cases h;trivial
 |p::ps,l,⟨a,b,e,⟨lo,hi,h1⟩,h2⟩,f,hf=>by
  rw[e] at hf;rcases List.mem_append.1 hf with hf|hf
  ·rw[(h1.1 f hf).1];simp
  exact My _ (Cov.mem h2 f hf)
theorem Cov.srt: ∀{ps:List Nat} {l:List (Nat × Nat)},Cov ps l->ps.Pairwise (· <·)->IZ l
 |[],_,h,_=>by cases h;exact List.Pairwise.nil
 |p::ps,l,⟨a,b,e,⟨lo,hi,h1⟩,h2⟩,hp=>by
  rw[e];obtain⟨I,J⟩:=List.pairwise_cons.1 hp;refine List.pairwise_append.2 ⟨?_,Cov.srt h2 J,fun x R y hy=>Or.inl ?_⟩
  ·exact h1.2.imp_of_mem (fun R hy U=>MQ ⟨by rw[(h1.1 _ R).1,(h1.1 _ hy).1],U⟩)
  rw[(h1.1 x R).1];exact I _ (Cov.mem h2 y hy)
theorem yD(al:List Tk){s:ByteArray}:Blk p 1 3 (iW al s p):=
 Blk.append (mid:=1) (mid':=3) (Blk.ite (Blk.one zo zo) (Blk.nil _ _ _)) (Blk.ite (Blk.nil _ _ _) (Blk.one zo zo)) zo zo zo
theorem As(a:Tk): ∀l,Blk a.p 3 3 (nu l a)
 |[]=>Blk.nil _ _ _
 |_::r=>Blk.append (mid:=3) (mid':=3) (Blk.ite (Blk.one zo zo) (Blk.nil _ _ _)) (As a r) zo zo zo
theorem GK{pre:List Tk}(i:Nat)(a:Tk):Blk a.p 1 4 (xP pre i a):=
 Blk.append (mid:=1) (mid':=3) (Blk.ite (Blk.one zo zo) (Blk.nil _ _ _)) (Blk.append (mid:=3) (mid':=4) (As a pre) (Blk.ite (Blk.one zo zo) (Blk.nil _ _ _)) zo zo zo) zo zo zo
theorem yz(al:List Tk): ∀i l,Cov (l.map Tk.p) (lL al i l)
 |_,[]=>rfl
 |i,a::r=>Cov.cons (GK i a) (yz al (i+1) r)
theorem GM(al:List Tk)(ks:List UInt8)(t:Tk):Blk t.p 1 4 (qK al ks t):=
 Blk.append (mid:=3) (mid':=4) (Blk.ite (yD al) (Blk.nil _ _ _)) (Blk.ite (Blk.one zo zo) (Blk.nil _ _ _)) zo zo zo
theorem yC(al:List Tk): ∀(ks:List UInt8) (l:List Tk),Cov (l.map Tk.p) (fArgs al ks l)
 |_,[]=>by rw[fArgs];exact rfl
 |ks,t::r=>by rw[fArgs];exact Cov.cons (GM al ks t) (yC al _ r)
theorem yO(al:List Tk): ∀l:List Tk,Cov (l.map Tk.p) (l.flatMap (fun t=>iW al t.s t.p))
 |[]=>rfl
 |_::r=>Cov.cons (yD al) (yO al r)
theorem EK(al:List Tk)(r:Rl):Cov (r.word.p::(r.args.map Tk.p++[r.fin])) (l9 al r):=by
 unfold l9;rw[<-Mu];refine Cov.cons (lo:=1) (hi:=3) (Blk.append (mid:=1) (mid':=3) (Blk.ite (Blk.one zo zo) (Blk.nil _ _ _)) (Blk.ite (Blk.nil _ _ _) (Blk.one zo zo)) zo zo zo) ?_;exact Cov.append (yC al _ _) (Cov.one (lo:=4) (hi:=4) (Blk.ite (Blk.one zo zo) (Blk.nil _ _ _)))
def Af(r:Rl):Prop:=r.call=true->r.f= .nil
theorem EL(al:List Tk)(i:Nat)(r:Rl)(h:Af r):Cov (r.pl::se r) (pd al i r):=by
 unfold pd;refine Cov.cons (lo:=4) (hi:=4) (Blk.ite (Blk.one zo zo) (Blk.nil _ _ _)) ?_;unfold se;by_cases hc:r.call=true
 ·rw[if_pos hc,if_pos hc,h hc];exact EK al r
 rw[if_neg hc,if_neg hc,ML,ui];exact yO al _
theorem wj(al:List Tk): ∀i (rs:List Rl),(∀r∈rs,Af r)->Cov (rs.flatMap (fun r=>r.pl::se r)) (kI al i rs)
 |_,[],_=>rfl
 |i,r::l,h=>by
  rw[MU,kI];exact Cov.append (EL al i r (h r Mx)) (wj al (i+1) l (fun x I=>h x (My _ I)))
theorem Dp{l:List Tk}(h:gW l= .ok (al,rs))(I:(l.map Tk.p).Pairwise (· <·))(hf: ∀r∈rs,Af r):IZ (jW al rs):=
 Cov.srt (Cov.append (yz al 0 al) (wj al 0 rs hf)) (List.Pairwise.sublist (zH h) I)
def tell(x:Nat × Nat)(p e:Nat):Nat × Nat:=if x.2=0\/p<x.1 then (p,e) else x
def gO(x:Nat × Nat)(l:List (Nat × Nat)):Nat × Nat:=l.foldl (fun x f=>tell x f.1 f.2) x
theorem iJ(x:Nat × Nat)(l m:List (Nat × Nat)):gO x (l++m)=gO (gO x l) m:=List.foldl_append
theorem xD(I:x.2≠0): ∀{l:List (Nat × Nat)},(∀f∈l,x.1<=f.1)->gO x l=x
 |[],_=>rfl
 |f::l,h=>by
  have h1:=h f Mx;show gO (tell x f.1 f.2) l=x;have:tell x f.1 f.2=x:=if_neg zo;rw[this];exact xD I (fun g hg=>h g (My _ hg))
theorem wE(I:x.2≠0): ∀{l:List (Nat × Nat)},(∀f∈l,x.1<f.1\/(x.1=f.1/\x.2<=f.2))->meets x l=x
 |[],_=>rfl
 |f::l,h=>by
  have h1:=h f Mx;show meets (meet x f.1 f.2) l=x;have:meet x f.1 f.2=x:=if_neg zo;rw[this];exact wE I (fun g hg=>h g (My _ hg))
theorem FY{l:List (Nat × Nat)}(h:IZ l)(he:Errs l):gO (0,0) l=(l.head?).getD (0,0):=by
 cases l with
 |nil=>rfl
 |cons f l=>
  show gO (tell (0,0) f.1 f.2) l=f;have:tell (0,0) f.1 f.2=f:=if_pos (Or.inl rfl);rw[this];exact xD (he f Mx) (fun g hg=>by have:=(List.pairwise_cons.1 h).1 g hg;omega)
theorem Fc{l:List (Nat × Nat)}(h:IZ l)(he:Errs l):meets (0,0) l=(l.head?).getD (0,0):=by
 cases l with
 |nil=>rfl
 |cons f l=>
  show meets (meet (0,0) f.1 f.2) l=f;have:meet (0,0) f.1 f.2=f:=if_pos (Or.inl rfl);rw[this];exact wE (he f Mx) (List.pairwise_cons.1 h).1
def tA(pre:List Tk)(i:Nat)(a:Tk):List (Nat × Nat):=jq a++((if iH pre a.s=true then [(a.p,3)] else [])++(if 6<=i then [(a.p,4)] else []))
def oB(al:List Tk):Nat->List Tk->List (Nat × Nat)
 |_,[]=>[]
 |i,a::r=>tA (al.take i) i a++oB al (i+1) r
def oC(al:List Tk)(r:Rl):List (Nat × Nat):=
 jq r.word++(if gR r.word.s.toList<=11 then fArgs al (ir (gR r.word.s.toList)) r.args++(if r.args.length<(ir (gR r.word.s.toList)).length then [(r.fin,4)] else []) else [(r.word.p,3)])
def pk(al:List Tk)(i:Nat)(r:Rl):List (Nat × Nat):=(if 4<=i then [(r.pl,4)] else [])++(if r.call=true then oC al r else (kJ r.f).flatMap (fun t=>iW al t.s t.p))
def nY(al:List Tk):Nat->List Rl->List (Nat × Nat)
 |_,[]=>[]
 |i,r::l=>pk al i r++nY al (i+1) l
def pK(al:List Tk)(rs:List Rl):List (Nat × Nat):=oB al 0 al++nY al 0 rs
def Hd(a b:List (Nat × Nat)):Prop:=a.Sublist b/\a.head? =b.head?
theorem Hd.refl(a:List (Nat × Nat)):Hd a a:=⟨List.Sublist.refl _,rfl⟩
theorem Hd.append{a b c:List (Nat × Nat)}(h:Hd a b)(k:Hd c d):Hd (a++c) (b++d):=⟨h.1.append k.1,by rw[MV,MV,h.2,k.2]⟩
theorem CB(a:Tk): ∀l,Hd (if iH l a.s=true then [(a.p,3)] else []) (nu l a)
 |[]=>Hd.refl _
 |t::r=>by
  rw[iH,nu];by_cases h:t.s.toList=a.s.toList
  ·rw[if_pos h,if_pos h,if_pos rfl];exact⟨List.Sublist.cons_cons _ (MK _),rfl⟩
  rw[if_neg h,if_neg h];exact CB a r
theorem A9(al:List Tk): ∀i l,Hd (oB al i l) (lL al i l)
 |_,[]=>Hd.refl _
 |i,a::r=>Hd.append (Hd.append (Hd.refl _) (Hd.append (CB a _) (Hd.refl _))) (A9 al (i+1) r)
theorem Ht(al:List Tk)(r:Rl):Hd (oC al r) (l9 al r):=by
 unfold oC l9;refine Hd.append (Hd.refl _) ?_;by_cases h:gR r.word.s.toList<=11
 ·rw[if_pos h,if_pos h];exact Hd.refl _
 rw[if_neg h,if_neg h];exact⟨List.Sublist.cons_cons _ (MK _),rfl⟩
theorem Hu(al:List Tk)(i:Nat)(r:Rl)(h:Af r):Hd (pk al i r) (pd al i r):=by
 unfold pk pd;refine Hd.append (Hd.refl _) ?_;by_cases hc:r.call=true
 ·rw[if_pos hc,if_pos hc,h hc];exact Ht al r
 rw[if_neg hc,if_neg hc,ML,ui];exact Hd.refl _
theorem yU(al:List Tk): ∀i (rs:List Rl),(∀r∈rs,Af r)->Hd (nY al i rs) (kI al i rs)
 |_,[],_=>Hd.refl _
 |i,r::l,h=>Hd.append (Hu al i r (h r Mx)) (yU al (i+1) l (fun x I=>h x (My _ I)))
theorem IF{l:List Tk}(h:gW l= .ok (al,rs))(U:(l.map Tk.p).Pairwise (· <·))(hf: ∀r∈rs,Af r):gO (0,0) (pK al rs)=meets (0,0) (jW al rs):=by
 have I:Hd (pK al rs) (jW al rs):=Hd.append (A9 al 0 al) (yU al 0 rs hf);have J:=Dp h U hf;have R:=oy al rs;rw[FY (List.Pairwise.sublist I.1 J) (fun f hf=>R f (I.1.subset hf)),Fc J R,I.2]
def kh(V:List Bool)(k:Int):Bool:=if k<0 then true else (V[k.toNat]?).getD true
theorem lH(R:List (Nat->Bool))(k:Int)(i:Nat):kh (R.map fun f=>f i) k=rowAt R k i:=by
 unfold kh rowAt;exact zm181
theorem sS{V S:List Bool}{k:Int}(h:k<V.length):kh (V++S) k=kh V k:=by
 unfold kh;by_cases h0:k<0
 ·simp_all
 rw[if_neg h0,if_neg h0,Mt zo]
def qj(P:List Bool)(inside more:Bool)(act:Int)(V:List Bool)(d:Nd):List Bool:=
 V++[jd d.k inside more (decide (d.t=act)) (kh V d.a) (kh V d.b) (kh P d.a) (kh P V.length)]
def j7(P:List Bool)(inside more:Bool)(act:Int)(L:List Nd):List Bool:=L.foldl (qj P inside more act) []
theorem oL(P:List Bool)(inside more:Bool)(act:Int)(L:List Nd)(d:Nd):j7 P inside more act (L++[d])=qj P inside more act (j7 P inside more act L) d:=by
 unfold j7;simp
theorem oO(R:List (Nat->Bool))(k:Int):rowAt (R.map fun f j=>f (j+1)) k=fun j=>rowAt R k (j+1):=by
 unfold rowAt;exact zm181
theorem oo{M:List α->Prop}(h0:M [])(h1: ∀l a,M l->M (l++[a]))(l:List α):M l:=by
 have: ∀n (l:List α),l.length=n->M l:=by
  intro n
  induction n with
  |zero=>intro l J;rw[List.length_eq_zero_iff.1 J];exact h0
  |succ n ih=>
   intro l J;have I:l≠[]:=fun e=>za
   rw[<-List.dropLast_concat_getLast I];exact h1 _ _ (ih _ za)
 exact this _ l rfl
theorem xr{z:Int->Nat->Bool}(h: ∀t j,z' t (j+1)=z t j)(L:List Nd):(iM (n+1) z' L).map (fun f j=>f (j+1))=iM n z L:=by
 induction L using oo with
 |h0=>rfl
 |h1 L d ih=>
  rw[kZ,kZ,Mz,ih]
  congr 1
  rw[Mw,ME]
  congr 1
  funext j;unfold o8;rw[yS,h,<-ih,oO,oO]
def NdLow(L:List Nd):Prop:= ∀(i:Nat) (d:Nd),L[i]? =some d->d.k<=12/\d.a<i/\d.b<i
theorem NdLow.pre{L:List Nd}(h:NdLow (L++M)):NdLow L:=fun i d I=>h i d (by rw[Mt (List.getElem?_eq_some_iff.1 I).1];omega)
theorem DN{z:Int->Nat->Bool}{act:Int}(h: ∀t j,z' t (j+1)=z t j)(R: ∀t,z' t 1=decide (t=act))(hz: ∀t j,z' t j=true->j<=n+1)(P:List Bool)(L:List Nd):
  NdLow L->(∃S,P=(iM n z L).map (fun f=>f 1)++S)->j7 P true (decide (1<=n)) act L=(iM (n+1) z' L).map fun f=>f 1:=by
 induction L using oo with
 |h0=>intro _ _;rfl
 |h1 L d ih=>
  rintro hl ⟨S,J⟩;obtain⟨hk,ha,hb⟩:=hl L.length d zp;rw[kZ,Mz,Mu] at J;have U:=ih hl.pre ⟨_,J⟩;rw[oL,U,kZ,Mz];unfold qj
  congr 1
  rw[Mw,ME]
  congr 1
  rw[lH,lH];have I: ∀j,(decide (j<=n+1)&&z' d.t j)=z' d.t j:=fun j=>by
   cases e:z' d.t j with
   |false=>simp
   |true=>simp[hz _ _ e]
  have e:=vy d.k (z' d.t) (rowAt (iM (n+1) z' L) d.a) (rowAt (iM (n+1) z' L) d.b) 1 (n+1) hk;have e4:mC d.k (z' d.t (1+1)) (rowAt (iM (n+1) z' L) d.a) (rowAt (iM (n+1) z' L) d.b) (1+1) (n+1)=mC d.k (z d.t 1) (rowAt (iM n z L) d.a) (rowAt (iM n z L) d.b) 1 n:=by
   rw[yS,h,<-oO,<-oO,xr h]
  rw[I,I,e4,R] at e;have d1:decide (1<=n+1)=true:=zp;have d2:decide (1+1<=n+1)=decide (1<=n):=zp;rw[d1,d2] at e;unfold o8;rw[R,e];have e2:kh P d.a=rowAt (iM (n+1) z' L) d.a (1+1):=by
   rw[J,sS (by rw[MI,mE];omega),lH,<-xr h,oO]
  have e3:kh P ((iM (n+1) z' L).map fun f=>f 1).length=mC d.k (z d.t 1) (rowAt (iM n z L) d.a) (rowAt (iM n z L) d.b) 1 n:=by
   rw[J,MI,mE];unfold kh;rw[if_neg zo,MF (by rw[MI,mE];omega),MI,mE];simp[o8]
  simp_all
theorem sV: ∀(c i:Nat),(∀j,i<=j->u j=u' j)->(∀j,i<=j->v j=v' j)->oD u v c i=oD u' v' c i
 |0,_,_,_=>rfl
 |c+1,i,h1,h2=>by rw[oD,oD,h1 i (MG _),h2 i (MG _),sV c (i+1) (fun j I=>h1 j zo) (fun j I=>h2 j zo)]
theorem yo: ∀(c i:Nat),(∀j,i<=j->u j=u' j)->pO u c i=pO u' c i
 |0,_,_=>rfl
 |c+1,i,h1=>by rw[pO,pO,h1 i (MG _),yo c (i+1) (fun j hj=>h1 j zo)]
theorem Fk{k:Nat}(I: ∀j,i<=j->u j=u' j)(J: ∀j,i<=j->v j=v' j):mC k y u v i n=mC k y u' v' i n:=by
 unfold mC;rw[I i (MG _),I (i+1) zo,J i (MG _),sV (u:=fun _=>true) (u':=fun _=>true) _ _ (fun _ _=>rfl) I,sV _ _ I J,yo _ _ I]
theorem DO{z I:Int->Nat->Bool}(h: ∀t j,1<=j->z t j=I t j)(L:List Nd): ∀j,1<=j->((iM n z L).map fun f=>f j)=(iM n I L).map fun f=>f j:=by
 induction L using oo with
 |h0=>intro _ _;rfl
 |h1 L d ih=>
  intro j J;have hr: ∀(k:Int) i,1<=i->rowAt (iM n z L) k i=rowAt (iM n I L) k i:=fun k i hi=>by rw[<-lH,<-lH,ih i hi]
  rw[kZ,kZ,Mz,Mz,ih j J]
  congr 1
  rw[Mw,ME,Mw,ME]
  congr 1
  unfold o8;rw[h d.t j J];exact Fk (fun i hi=>hr _ i zo) (fun i hi=>hr _ i zo)
theorem KY(k:Nat)(y J u v a b I b2:Bool):jd k false false y u v a b=jd k false false J u v I b2:=by
 rfl
theorem Ci{z:Int->Nat->Bool}(U: ∀t j,z t j=true->j<=0)(P:List Bool)(act:Int)(L:List Nd):NdLow L->j7 P false false act L=(iM 0 z L).map fun f=>f 1:=by
 induction L using oo with
 |h0=>intro _;rfl
 |h1 L d ih=>
  intro J;obtain⟨R,_,_⟩:=J L.length d zp;rw[oL,ih J.pre,kZ,Mz];unfold qj
  congr 1
  rw[Mw,ME]
  congr 1
  rw[lH,lH];have I:(decide (1<=0)&&z d.t 1)=z d.t 1:=by
   cases e:z d.t 1 with
   |false=>rfl
   |true=>have:=U _ _ e;omega
  have e:=vy d.k (z d.t) (rowAt (iM 0 z L) d.a) (rowAt (iM 0 z L) d.b) 1 0 R;rw[I] at e;unfold o8;rw[e];rfl
def zV(v:List Nat)(t:Int):Nat->Bool
 |0=>false
 |j+1=>decide ((v[j]?).map (fun a:Nat=>(a:Int))=some t)
def rq(L:List Nd):Bool × List Bool:=(true,j7 [] false false (-1) L)
def nP(L:List Nd)(p:Bool × List Bool)(a:Nat):Bool × List Bool:=(false,j7 p.2 true (!p.1) a L)
theorem KU{L:List Nd}(J:NdLow L): ∀v:List Nat,kQ (rq L) (nP L) v=(v.isEmpty,(iM v.length (zV v) L).map fun f=>f 1)
 |[]=>by
  rw[kQ,rq,Ci (z:=zV []) (fun t j h=> ?_) _ _ L J]
  ·rfl
  cases j with
  |zero=>simp
  |succ j=>trivial
 |a::v=>by
  rw[kQ,KU J v];unfold nP;have I:(!v.isEmpty)=decide (1<=v.length):=by cases v<;>simp
  have hP:((iM v.length (zV v) L).map fun f=>f 1)=((iM v.length (fun t j=>zV (a::v) t (j+1)) L).map fun f=>f 1):=
   DO (fun t j hj=>by
    obtain⟨i,rfl⟩: ∃i,j=i+1:=⟨j - 1,zo⟩;rfl) L 1 (MG _)
  simp only[I];rw[DN (n:=v.length) (z:=fun t j=>zV (a::v) t (j+1)) (z':=zV (a::v)) (act:=(a:Int)) (fun _ _=>rfl) (fun t=> ?_) (fun t j h=> ?_) _ L J ⟨[],za⟩]
  ·rfl
  ·unfold zV;by_cases e:t=(a:Int)
   ·simp_all
   rw[decide_eq_false e];simp;omega
  cases j with
  |zero=>simp
  |succ j=>
   apply Classical.byContradiction;intro hlt;have e:(a::v)[j]? =none:=MO (by simp only[Nb];omega);have h':decide (((a::v)[j]?).map (fun a:Nat=>(a:Int))=some t)=true:=h;simp_all
def InS(w:World)(o:Option Addr)(l:List Int):Prop:= ∀(j:Nat) (x:Int),l[j]? =some x-> ∃b off,o=some ⟨b,off,none⟩/\b<w.heap.size/\w.cell? ⟨b,off+j,none⟩=some (xd xh x)
def Kg(w:World)(o:Option Addr)(l:List Bool):Prop:= ∀(j:Nat) (x:Bool),l[j]? =some x-> ∃b off,o=some ⟨b,off,none⟩/\b<w.heap.size/\w.cell? ⟨b,off+j,none⟩=some (xn x)
def RwS(w:World)(o:Option Addr)(l:List (List Int)):Prop:= ∀(j:Nat) (r:List Int),l[j]? =some r-> ∃b off ro rc,o=some ⟨b,off,none⟩/\b<w.heap.size/\w.cell? ⟨b,off+j,none⟩=some (xa ro r.length rc)/\InS w ro r
theorem InS.later{l:List Int}(h:InS w o l)(J:Below w.heap.size w w'):InS w' o l:=fun j x hx=>by
 obtain⟨b,off,R,I,U⟩:=h j x hx;exact⟨b,off,R,MT I J.size,(bcell3 J _ _ I).trans U⟩
theorem RwS.later{l:List (List Int)}(h:RwS w o l)(I:Below w.heap.size w w'):RwS w' o l:=fun j x hx=>by
 obtain⟨b,off,ro,rc,R,J,U,h4⟩:=h j x hx;exact⟨b,off,ro,rc,R,MT J I.size,(bcell3 I _ _ J).trans U,h4.later I⟩
def TellsB(p:Prop)(e:Ending):Prop:= ∃b,e=xm (xn b)/\(b=true↔p)
theorem TellsB.yes{p:Prop}(h:p):TellsB p (xm (xn true)):=⟨true,rfl,fun _=>h,fun _=>rfl⟩
theorem TellsB.no{p:Prop}(h:¬ p):TellsB p (xm (xn false)):=⟨false,rfl,fun e=>Bool.noConfusion e,fun k=>absurd k h⟩
theorem oq{p:UInt8->Bool}: ∀{l:List UInt8},span p l=l.length↔ ∀c∈l,p c=true
 |[]=>⟨fun _ c hc=>(Na hc).elim,fun _=>rfl⟩
 |c::r=>by
  rw[span,Nb];by_cases h:p c=true
  ·rw[if_pos h];have ih:=oq (p:=p) (l:=r);simp_all
  simp_all
theorem zj{l:List UInt8}:jx l=2↔isWord l=false:=by
 unfold jx isWord;by_cases h1:l=[97,99,116,115]
 ·simp[h1]
 by_cases h2:l=[114,117,108,101]
 ·simp[h2]
 by_cases h3:l=[116,114,117,101]
 ·simp[h3]
 by_cases h4:l=[102,97,108,115,101]
 ·simp[h4]
 simp_all
theorem Db(s:ByteArray)(w:World)(hG:GV w):
  Calls prog 131 #[xj s] w fun e w'=>TellsB (oe s) e/\Below w.heap.size w w':=by
 have HG:=fa hG;clear hG;by_cases h1:1<=s.size
 ·by_cases h8:s.size<=8
  ·have HL:=fa (qZ s w (by unfold maxLen;omega));have ad:(1:Int)<=(s.size:Int):=zo;have aj:(s.size:Int)<=8:=zo;have hu:gP isLet s 0=span isLet s.data.toList:=by unfold gP;simp
   by_cases hal: ∀c∈s.data.toList,isLet c=true
   ·have U:gP isLet s 0=s.size:=by rw[hu,oq.2 hal,size_data]
    rw[U] at HL;have HW:=fa (tZ s w HG);by_cases hwd:isWord s.data.toList=false
    ·have HN:Hid (oe s):=⟨h1,h8,hal,hwd⟩;have R:jx s.toList=2:=(zj).2 (by rw[ByteArray.toList_eq];omega);rw[R] at HW;clear hal hu U hwd R;go_in
     go_wp2_with (refine HL.mono ?_)
     rintro e w1 ⟨rfl,I⟩;have h2:=I.symm;clear I;subst h2
     go_wp2_with (refine HW.mono ?_)
     rintro e w2 ⟨rfl,J⟩;have HB:=fa J;clear J;go_wp2;go_ret;exact⟨TellsB.yes HN,HB⟩
    have HN:Hid (¬ oe s):=fun h=>hwd h.wd
    have R:jx s.toList≠2:=fun e=>hwd ((zj).1 (by rw[<-e,ByteArray.toList_eq]))
    have hk3:(((jx s.toList:Nat):Int)==2)=false:=by rw[beq_eq_false_iff_ne];omega
    clear hal hu U hwd R;go_in
    go_wp2_with (refine HL.mono ?_)
    rintro e w1 ⟨rfl,I⟩;have h2:=I.symm;clear I;subst h2
    go_wp2_with (refine HW.mono ?_)
    rintro e w2 ⟨rfl,J⟩;have HB:=fa J;clear J;exact zm65
   have HN:Hid (¬ oe s):=fun h=>hal h.lt
   have U:¬ (gP isLet s 0:Int)=(s.size:Int):=by
    rw[hu];intro e;exact hal (oq.1 (by rw[size_data];omega))
   clear hal hu;go_in
   go_wp2_with (refine HL.mono ?_)
   rintro e w1 ⟨rfl,I⟩;have h2:=I.symm;clear I;subst h2;exact zm150
  have HN:Hid (¬ oe s):=fun h=>h8 h.n8
  have ad:(1:Int)<=(s.size:Int):=zo;have aj:¬ (s.size:Int)<=8:=zo;go_in;exact zm150
 have HN:Hid (¬ oe s):=fun h=>h1 h.n1
 have ad:¬ (1:Int)<=(s.size:Int):=zo;go_in;exact zm150
theorem qQ{p:α->Bool}{l:List α}{k:Nat}{x:α}(I:l[k]? =some x)(h:p x=false):l.all p=false:=by
 rw[List.all_eq_false];exact⟨x,MC I,za⟩
theorem zt{p:α->Bool}{l:List α}{k:Nat}{x:α}(J:l[k]? =some x)(h:p x=true)(I:(l.take k).all p=true):(l.take (k+1)).all p=true:=by
 rw[MH,J,Nf,I];simp[h]
theorem zx{p:α->Bool}{l:List α}{k:Nat}{x:α}(I:l[k]? =some x)(h:p x=true):l.any p=true:=by
 rw[List.any_eq_true];exact⟨x,MC I,h⟩
theorem any_take_succ{p:α->Bool}{l:List α}{k:Nat}{x:α}(J:l[k]? =some x)(h:p x=false)(I:(l.take k).any p=false):(l.take (k+1)).any p=false:=by
 rw[MH,J,List.any_append,I];simp[h]
theorem zn(w:World)(ro:Option Addr)(rc:Nat)(r:List Int)(n:Nat)(h:InS w ro r)(hl:r.length<=10000000000000):
  Calls prog 132 #[xa ro r.length rc,xd xh (n:Int)] w fun e w'=>e=xm (xn (r.all (mS n)))/\w'=w:=by
 have H:=fa h;clear h;go_in;go_wp2
 go_loopw [9] (fun x wr=> ∃k:Nat,k<=r.length/\x=xd xh k/\Hid (w=wr)/\Hid ((r.take k).all (mS n)=true)) (fun x _=>r.length - (intOf x).toNat)
 ·exact zm68
 obtain⟨k,hk,rfl,J,HK⟩:=hrel;have hw:=J.out;subst hw;clear J;rcases zc k r.length with⟨hlt,hkn⟩|⟨hlt,hkn⟩
 ·obtain⟨b,off,rfl,hb,hc⟩:=H k r[k] (Ms hlt);have I:=fa (Ms hlt);generalize r[k]=x at *;by_cases h0:x<0
  ·have HF:=fa (qQ (p:=mS n) I (by unfold mS;rw[decide_eq_false zo];rfl));exact zm165
  by_cases h1:(n:Int)<=x
  ·have HF:=fa (qQ (p:=mS n) I (by unfold mS;simp_all));exact zm165
  have HF:=fa (zt (p:=mS n) I (by unfold mS;simp_all) HK);go_wp2
  go_roundw
  ·exact⟨k+1,zo,zf,trivial,HF⟩
  simp[intOf];omega
 exact zm176
theorem B9(w:World)(ro:Option Addr)(rc:Nat)(r:List Int)(so:Option Addr)(sc:Nat)(L:List Bool)(h:InS w ro r)(U:Kg w so L)(hr:r.all (mS L.length)=true)(hl:r.length<=10000000000000)(hl2:L.length<=10000000000000):
  Calls prog 172 #[xa ro r.length rc,xa so L.length sc] w fun e w'=>e=xm (xn (r.any fun x=>lv L x.toNat))/\w'=w:=by
 have H:=fa h;have HL:=fa U;have HR:=fa hr;clear h U hr;go_in;go_wp2
 go_loopw [9] (fun x wr=> ∃k:Nat,k<=r.length/\x=xd xh k/\Hid (w=wr)/\Hid ((r.take k).any (fun x=>lv L x.toNat)=false)) (fun x _=>r.length - (intOf x).toNat)
 ·exact zm68
 obtain⟨k,hk,rfl,I,HK⟩:=hrel;have hw:=I.out;subst hw;clear I;rcases zc k r.length with⟨hlt,hkn⟩|⟨hlt,hkn⟩
 ·obtain⟨b,off,rfl,hb,hc⟩:=H k r[k] (Ms hlt);have J:=fa (Ms hlt);have hx:=List.all_eq_true.1 HR r[k] (Nc hlt);generalize r[k]=x at *;unfold mS at hx;have hx0:0<=x:=za;have hx1:x<(L.length:Int):=za;clear hx;obtain⟨y,rfl⟩: ∃y:Nat,x=(y:Int):=⟨x.toNat,zo⟩;have hy:y<L.length:=zo;obtain⟨b2,off2,rfl,hb2,hc2⟩:=HL y L[y] (Ms hy);have R:Hid (lv L ((y:Int)).toNat=L[y]):=by
   show _=_;unfold lv;simp_all
  generalize hz:L[y]=z at *;clear hz;cases z with
  |true=>
   have HF:=fa (zx (p:=fun x=>lv L x.toNat) J.out R.out);exact zm165
  |false=>
   have HF:=fa (any_take_succ (p:=fun x=>lv L x.toNat) J.out R.out HK.out);go_wp2
   go_roundw
   ·exact⟨k+1,zo,zf,trivial,HF⟩
   simp[intOf];omega
 exact zm176
theorem TxS.cells{b:Nat}{l:List ByteArray}(h:TxS w (some ⟨b,off,none⟩) l): ∀j,j<l.length->w.cell? ⟨b,off+j,none⟩=some (xj (l.getD j ByteArray.empty)):=fun j I=>by
 obtain⟨b',off',h1,_,h3⟩:=h j l[j] (Ms I);simp_all
theorem zK(ao:Option Addr)(ac:Nat)(l:List ByteArray)(hT:TxS w ao l)(hc:l.length<=ac)(hG:GV w)(hl:l.length<=10000000000000):
  Calls prog 85 #[xa ao l.length ac] w fun e w'=>TellsB (mT l) e/\Below w.heap.size w w':=by
 have HT:=fa hT;have HG:=fa hG;clear hT hG;by_cases h1:1<=l.length
 ·by_cases h6:l.length<=6
  ·have ae:¬ (l.length:Int)<1:=zo;have aq:¬ (6:Int)<(l.length:Int):=zo;go_in;go_wp2
   go_loopw [15] (fun x wr=> ∃k:Nat,k<=l.length/\x=xd xh k/\Hid (Below w.heap.size w wr)/\Hid ((∀a∈l.take k,oe a)/\(l.take k).Nodup)) (fun x _=>l.length - (intOf x).toNat)
   ·exact⟨0,MY _,rfl,Nh _ _,fun a ha=>by simp at ha,zp⟩
   obtain⟨k,hk,rfl,R,HK⟩:=hrel;rcases zc k l.length with⟨hlt,hkn⟩|⟨hlt,hkn⟩
   ·obtain⟨b,off,rfl,hb,hcx⟩:=HT.later R k l[k] (Ms hlt);have HX:=fa (Ms hlt);have HN:=fa (Db l[k] wr (HG.later R));have ai:=fa (fun (W:World) (hb:Below w.heap.size w W)=>Tryz.slices_Contains_string b off k ac l l[k] W zo zo (HT.later hb).cells);generalize l[k]=a at *
    go_wp2_with (refine HN.mono ?_)
    rintro e w1 ⟨⟨n,rfl,hn⟩,ad⟩;have I:=fa (R.trans (ad.mono R.size));clear ad;cases n with
    |false=>
     have J:Hid (¬ mT l):=fun h=>by
      have:=hn.2 (h.nm a (MC HX));trivial
     clear hn;go_wp2;go_ret;exact⟨TellsB.no J,I⟩
    |true=>
     have ak:=fa (hn.1 rfl);clear hn;have hkc:k<=ac:=zo;have HC:=fa (ai w1 I);generalize hcs:Lib.containsS (l.take k) a=cs at *;have U:=fa hcs;clear hcs
     go_wp2_with (refine HC.mono ?_)
     rintro e w2 ⟨rfl,ag⟩;have h2:=ag.symm;clear ag;subst h2;cases cs with
     |true=>
      have J:Hid (¬ mT l):=fun h=>by
       have hm:=(MX _ _).1 U;obtain⟨i,hi⟩:=List.mem_iff_getElem?.1 hm;rw[List.getElem?_take] at hi
       split at hi
       ·rename_i hik
        have hil:=(List.getElem?_eq_some_iff.1 hi).1;have e:l[i]=l[k]:=by
         have e1:=hi.trans HX.symm;simp_all
        have:=(List.getElem_inj h.nd).1 e;omega
       trivial
      go_wp2;go_ret;exact⟨TellsB.no J,I⟩
     |false=>
      have aj:Hid ((∀a∈l.take (k+1),oe a)/\(l.take (k+1)).Nodup):=by
       have hnm:a∉l.take k:=fun hm=>by
        have:=(MX _ _).2 hm;rw[U.out] at this;trivial
       show _/\_;rw[MH,HX.out];refine⟨fun c hc=> ?_, ?_⟩
       ·rcases List.mem_append.1 hc with hc|hc
        ·exact HK.1 c hc
        have:c=a:=za;rw[this];exact ak
       rw[List.nodup_append];refine⟨HK.2,zp,fun x hx y hy=> ?_⟩;have:y=a:=za;subst this;intro e;simp_all
      go_wp2
      go_roundw
      ·exact⟨k+1,zo,zf,I,aj⟩
      simp[intOf];omega
   rw[MN zo] at HK;go_wp2;go_ret;exact⟨TellsB.yes (⟨h1,h6,HK.1,HK.2⟩),R⟩
  have J:Hid (¬ mT l):=fun h=>h6 h.n6
  have ae:¬ (l.length:Int)<1:=zo;have aq:(6:Int)<(l.length:Int):=zo;go_in;go_wp2;go_ret;exact⟨TellsB.no J,Nh _ _⟩
 have J:Hid (¬ mT l):=fun h=>h1 h.n1
 have ae:(l.length:Int)<1:=zo;go_in;go_wp2;go_ret;exact⟨TellsB.no J,Nh _ _⟩
structure TbI (w:World) (ao fo no:Option Addr) (ac:Nat) (z:Tz):Prop where
 acts:TxS w ao z.acts
 fl:InS w fo z.fl
 nx:RwS w no z.nx
 ac:z.acts.length<=ac
 al:z.acts.length<=10000000000000
 fll:z.fl.length<=10000000000000
 nxl:z.nx.length<=10000000000000
 rl: ∀r∈z.nx,r.length<=10000000000000
theorem TbI.later{J R no:Option Addr}{z:Tz}(h:TbI w J R no ac z)(I:Below w.heap.size w w'):TbI w' J R no ac z:=
 ⟨h.acts.later I,h.fl.later I,h.nx.later I,h.ac,h.al,h.fll,h.nxl,h.rl⟩
theorem zL(w:World)(J R no:Option Addr)(ac fc nc:Nat)(z:Tz)(hI:TbI w J R no ac z):
  Calls prog 86 #[.agg #[xa J z.acts.length ac,xa R z.fl.length fc,xa no z.nx.length nc]] w fun e w'=>TellsB (mU z) e/\Below w.heap.size w w':=by
 have hB:=iz w (xi #[xa J z.acts.length ac,xa R z.fl.length fc,xa no z.nx.length nc] 36);have HI:=fa (hI.later hB);have HB:=fa hB;have aj:=fa (ft w (xi #[xa J z.acts.length ac,xa R z.fl.length fc,xa no z.nx.length nc] 36));have hl3:=hI.nxl;clear hI hB;by_cases h1:1<=z.nx.length
 ·by_cases h6:z.nx.length<=100
  ·by_cases hf:z.fl.length=z.nx.length
   ·have I:¬ (z.nx.length:Int)<1:=zo;have U:¬ (100:Int)<(z.nx.length:Int):=zo;have au:(z.fl.length:Int)=(z.nx.length:Int):=zo;have HF:=fa hf;clear hf;go_in;go_wp2_with fail;generalize w.alloc (xi #[xa J z.acts.length ac,xa R z.fl.length fc,xa no z.nx.length nc] 36)=W at *;have mc:=cell_of_blk aj
    go_loopw [25] (fun x wr=> ∃k:Nat,k<=z.nx.length/\x=xd xh k/\Hid (W=wr)/\Hid (∀r∈z.nx.take k,r.length=z.acts.length/\r.all (mS z.nx.length)=true)) (fun x _=>z.nx.length - (intOf x).toNat)
    ·exact⟨0,MY _,rfl,rfl,fun r hr=>zv⟩
    obtain⟨k,hk,rfl,HW,HK⟩:=hrel;have hw:=HW.out;subst hw;clear HW;rcases zc k z.nx.length with⟨hlt,hkn⟩|⟨hlt,hkn⟩
    ·obtain⟨b,off,ro,rc,rfl,hb,ar,ae⟩:=HI.nx k z.nx[k] (Ms hlt);have HX:=fa (Ms hlt);have ad:=HI.rl z.nx[k] (Nc hlt);generalize z.nx[k]=r at *;have HA:=fa (zn W ro rc r z.nx.length ae ad);clear ae;by_cases hne:r.length=z.acts.length
     ·rw[hne] at HA ar ad;have HNE:=fa hne;clear hne;generalize hal:r.all (mS z.nx.length)=al at *;have ai:=fa hal;clear hal
      go_wp2_with (refine HA.mono ?_)
      rintro e w2 ⟨rfl,ag⟩;have h2:=ag.symm;clear ag;subst h2;cases al with
      |false=>
       have HN:Hid (¬ mU z):=fun h=>by
        have:=(h.rs r (MC HX)).2;rw[ai.out] at this;trivial
       exact zm65
      |true=>
       have HK2:Hid (∀r∈z.nx.take (k+1),r.length=z.acts.length/\r.all (mS z.nx.length)=true):=by
        intro q hq;rw[MH,HX.out] at hq;rcases List.mem_append.1 hq with hq|hq
        ·exact HK q hq
        have:q=r:=za;rw[this];trivial
       exact zm117
     have hie:¬ (r.length:Int)=(z.acts.length:Int):=zo;have HN:Hid (¬ mU z):=fun h=>hne (h.rs r (MC HX)).1
     exact zm65
    rw[MN zo] at HK;go_wp2;go_ret;exact⟨TellsB.yes (⟨h1,h6,HF,HK⟩),HB⟩
   have HN:Hid (¬ mU z):=fun h=>hf h.fl
   have I:¬ (z.nx.length:Int)<1:=zo;have U:¬ (100:Int)<(z.nx.length:Int):=zo;have au:¬ (z.fl.length:Int)=(z.nx.length:Int):=zo;go_in;exact zm65
  have HN:Hid (¬ mU z):=fun h=>h6 h.n100
  have I:¬ (z.nx.length:Int)<1:=zo;have U:(100:Int)<(z.nx.length:Int):=zo;go_in;exact zm65
 have HN:Hid (¬ mU z):=fun h=>h1 h.n1
 have I:(z.nx.length:Int)<1:=zo;go_in;exact zm65
end Go.Proofs.YtidakhhekofkoaaGreatDoor
