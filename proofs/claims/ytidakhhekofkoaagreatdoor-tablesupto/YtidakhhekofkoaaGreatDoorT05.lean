import Derived.Test.YtidakhhekofkoaaGreatDoorT04
import Derived.Deep.DeepCutAuto
set_option linter.all false
set_option maxHeartbeats 8000000
set_option maxRecDepth 100000
namespace Go.Proofs.YtidakhhekofkoaaGreatDoor
open Go.Proofs.Tryz
open Go.RowKit Go.Deep
open Value renaming slice -> xa, int -> xd, string -> xj, pointer -> xk, bool -> xn
open IntKind renaming i64 -> xh
open Obj renaming cells -> xi
open Ending renaming returned -> xm
open Nat renaming le_refl -> Mr, zero_le -> Mw, zero_add -> MH
open List renaming drop_eq_nil_of_le -> Ms, mem_cons_self -> Mx, mem_cons_of_mem -> My, not_mem_nil -> MD, length -> ME, mem_of_mem_drop -> MF, mem_singleton -> MG, append_nil -> MI
open Or renaming inr -> Mt, inl -> Mu
open Go.RowKit.Below renaming refl -> Mz, heap_alloc -> MC
variable {zq:Prop}
variable {w wr w' W W' w2:World} {x y:Nat × Nat} {o1 o2 o p:Option Addr} {n1 k1 n2 k2 n m m' e base i mb nb B j:Nat} {a b c d:Int} {Q:Tk->Prop} {t:Tk} {f:Fm} {α:Type} {al r L:List Tk} {rs:List Rl} {cc:Array Value} {xs:List Value} {y':Bool} {u:Nat->Bool} {v:Fin 5->Value}
theorem zm17(h:zq:=by
 go_wp2;go_quiet (fail);go_wp2_with fail;refine(jV fb (meets y fN) t.p 4 (H4.out.later (jA _ _)).fbx).mono ?_;rintro e w6 ⟨rfl,hf6,hg6⟩;have H6:=fa ((H4.out.later (jA _ _)).call hf6 hg6 hfl);clear hf6 hg6;go_wp2
 go_roundw
 ·exact⟨i+1,_,zo,zf,(FBD.out HBA.out _ H6.out).1,(FBD.out HBA.out _ H6.out).2⟩
 simp[intOf];omega
 ):zq:=h
theorem zm131(h:zq:=by
 rw[ha,ht] at hlen;exact absurd zp hlen
 ):zq:=h
theorem zm136(h:zq:=by
 go_wp2;go_quiet (fail);go_wp2
 go_roundw
 ·exact⟨i+1,_,zo,zf,H4.out.later (jA _ _),FOK.out HBA.out⟩
 simp[intOf];omega
 ):zq:=h
theorem zm186(h:zq:=by
 have:=rW h3 zo (ij (ij (ij (ij hq))));simp_all
 ):zq:=h
structure AS (w wr:World) (fb:Nat) (x:Nat × Nat) (o1:Option Addr) (n1 k1:Nat) (o2:Option Addr) (n2 k2:Nat) (a b:Int) (s:ByteArray) (c:Int) (o:Option Addr) (n k:Nat) (d:Int) (p:Option Addr):Prop where
 fbx:FB wr fb x
 mbx:wr.heap[w.heap.size]? =some (xi #[xa o1 n1 k1,xa o2 n2 k2] 228 (0,0))
 rbx:wr.heap[w.heap.size+1]? =some (xi #[xd xh a,xd .u8 b,xj s,xd xh c,xa o n k,xd xh d,xk p] 235 (0,0))
 kt:KT w wr
 gr:w.grownBy wr (some fb)
theorem AS.later{fb:Nat}{s:ByteArray}{k:Nat}(h:AS w wr fb x o1 n1 k1 o2 n2 k2 a b s c o n k d p)(I:Below wr.heap.size wr w'):AS w w' fb x o1 n1 k1 o2 n2 k2 a b s c o n k d p:=
 ⟨h.fbx.later I,(I.block _ (fh h.mbx)).trans h.mbx,(I.block _ (fh h.rbx)).trans h.rbx,h.kt.trans (KT.below I),h.gr.trans (gC I _)⟩
theorem AS.call{fb:Nat}{s:ByteArray}{k:Nat}(h:AS w wr fb x o1 n1 k1 o2 n2 k2 a b s c o n k d p)(hf:FB w' fb y)(hg:wr.grownBy w' (some fb))(hfb:fb<w.heap.size):AS w w' fb y o1 n1 k1 o2 n2 k2 a b s c o n k d p:=
 ⟨hf,(hg.block _ (fh h.mbx) zs).trans h.mbx,(hg.block _ (fh h.rbx) zs).trans h.rbx,h.kt.trans (KT.fb h.fbx hg),h.gr.trans hg⟩
theorem jA(w:World): ∀n,Below w.heap.size w (w.drewN n)
 |0=>Mz _ _
 |n+1=>(jA w n).drew
theorem IE{s:ByteArray}(K:ByteArray)(ok:Bool)(J:K=⟨(ir (gR s.toList)).toArray⟩)(I:ok=decide (gR s.toList<=11)):
  Calls prog 203 #[xj s] w fun e w'=>e=xm (.tuple #[xj K,xn ok])/\w'=w:=by
 subst J I;exact FU s w
theorem Dl(al:List Tk)(K:ByteArray)(args:List Tk)(i:Nat)(t:Tk)(r:List Tk)(h:args.drop i=t::r):fArgs al (K.data.toList.drop i) (args.drop i)=qK al (K.data.toList.drop i) t++fArgs al (K.data.toList.drop (i+1)) (args.drop (i+1)):=by
 rw[h,fArgs,List.tail_drop,drop_tail h]
theorem zy(al:List Tk)(aN:al.length<=401)(fb:Nat)(r:Rl){s:ByteArray}{k:Nat} 
  (ha:ActsAre w o1 n1 k1 al)(hf:FB w fb x)(h:RlIs w r a b s c o n k d p)(hc:r.call=true)(hargs:r.args.length<=2)(bh:0<r.args.length)(aj: ∀t∈r.args,(t.k=2\/t.k=3)/\t.s.size<=400/\(t.k=3-> ∃e:UInt8,t.s=⟨#[e]⟩))(hws:r.word.s.size<=400):
  Calls prog 176 #[.agg #[xa o1 n1 k1,xa o2 n2 k2],xk (some ⟨fb,0,none⟩),jR a b s c o n k d p] w fun e w'=>e=xm (.tuple #[])/\FB w' fb (meets x (l9 al r))/\w.grownBy w' (some fb):=by
 obtain⟨-,h2⟩:=h;rw[if_pos hc] at h2;obtain⟨-,hs,bf,ho,hd,hp⟩:=h2;subst hs bf hd hp;have ao:ActsAre w o n k r.args:=ho;have hn:=ao.len;subst hn;obtain⟨t00,l00,aw⟩:=jn bh;obtain⟨g,aF, -⟩:=ao.tok aw;subst aF;clear aw;have HA:=fa ha;have aU:=fa ao;have aW:=fa aj;have hfl:=fh hf;have h0:AS w ((w.alloc (xi #[xa o1 n1 k1,xa o2 n2 k2] 228)).alloc (xi #[xd xh a,xd .u8 b,xj r.word.s,xd xh r.word.p,xa (some ⟨g,0,none⟩) r.args.length k,xd xh r.fin,xk none] 235)) fb x o1 n1 k1 o2 n2 k2 a b r.word.s r.word.p (some ⟨g,0,none⟩) r.args.length k r.fin none:=
  ⟨(hf.later gz).later gz,(MC _ _ _ zp).trans (ft _ _),fk _ _ _ zp,(KT.alloc _ _).trans (KT.alloc _ _),gI (gI (World.grownBy.refl _ _) _) _⟩
 have H0:=fa h0;clear ha ao ho hf h0 aj hc;simp only[jR];obtain⟨f1,aJ⟩: ∃f,f=if 8<r.word.s.size then [(r.word.p,1)] else []:=⟨_,rfl⟩;obtain⟨f2,aK⟩: ∃f,f=if gR r.word.s.toList<=11 then [] else [(r.word.p,3)]:=⟨_,rfl⟩;have ax:=fa aJ;have ay:=fa aK;clear aJ aK;go_in
 go_upto_if 14 with fail
 go_cut [] (fun wc=>AS w wc fb (meets x f1) o1 n1 k1 o2 n2 k2 a b r.word.s r.word.p (some ⟨g,0,none⟩) r.args.length k r.fin none)
 case first=>
  rcases zc 8 r.word.s.size with⟨hl,hL⟩|⟨hl,hL⟩
  ·have HL:=fa hl;clear hl
   go_wp2_with (refine(jV fb x r.word.p 1 H0.fbx).mono ?_)
   rintro e w1 ⟨rfl,U,ai⟩;have H1:=fa (H0.call U ai hfl);clear U ai;go_wp2_with fail
   go_meet
   rw[ax.out,if_pos HL.out];exact H1
  ·have HL:=fa hl;clear hl;go_wp2_with fail
   go_meet
   rw[ax.out,if_neg HL.out];exact H0
 case rest=>
 have H1:=fa hcut;clear hcut H0;have rc:=cell_of_blk H1.rbx;obtain⟨K,hK⟩: ∃K:ByteArray,K=⟨(ir (gR r.word.s.toList)).toArray⟩:=⟨_,rfl⟩;obtain⟨ok,aO⟩: ∃b,b=decide (gR r.word.s.toList<=11):=⟨_,rfl⟩;have aI:K.data.toList=ir (gR r.word.s.toList):=by rw[hK]
 have aX:=fa aI;have HK:=fa hK;have ak:=fa aO;clear hK aI aO
 go_upto_if 28 with (refine(IE K ok HK ak).mono ?_;rintro e w' ⟨rfl,rfl⟩)
 go_cut [7] (fun _ wc=>AS w wc fb (meets x (f1++f2)) o1 n1 k1 o2 n2 k2 a b r.word.s r.word.p (some ⟨g,0,none⟩) r.args.length k r.fin none)
 case first=>
  cases ok with
  |true=>
   go_wp2_with fail
   go_meet
   rw[ay.out,if_pos (of_decide_eq_true ak.symm),MI];exact H1
  |false=>
   go_wp2_with (refine(jV fb (meets x f1) r.word.p 3 H1.fbx).mono ?_)
   rintro e w1 ⟨rfl,U,ai⟩;have H2:=fa (H1.call U ai hfl);clear U ai;go_wp2_with fail
   go_meet
   rw[ay.out,if_neg (of_decide_eq_false ak.symm),jF];exact H2
 case rest=>
 have H2:=fa hcut;clear hcut H1 rc HK ak ok;go_wp2
 go_loopw [8] (fun v wr=> ∃(i:Nat) (y:Nat × Nat),i<=r.args.length/\v=xd xh i/\AS w wr fb y o1 n1 k1 o2 n2 k2 a b r.word.s r.word.p (some ⟨g,0,none⟩) r.args.length k r.fin none/\Hid (meets (meets x (f1++f2)) (fArgs al K.data.toList r.args)=meets y (fArgs al (K.data.toList.drop i) (r.args.drop i)))) (fun v _=>r.args.length - (intOf v).toNat)
 ·exact⟨0,_,Mw _,rfl,H2,rfl⟩
 clear H2;obtain⟨i,y,hi,rfl,has,HY⟩:=hrel;have H3:=fa has;have rc:=cell_of_blk has.rbx;have mc:=cell_of_blk has.mbx;have hzr:=fh has.rbx;have hzr0:w.heap.size<wr.heap.size:=zo;by_cases hlt:i<r.args.length
 ·obtain⟨t,l,ht⟩:=jn hlt;obtain⟨g',aF,hg,_,t0,t1,t2⟩:=(has.kt.acts aU).tok ht;cases aF;have av:=pS ht;have an:=fa (aW t av);have aV:=fa (Dl al K r.args i t l ht);clear ht av has;obtain⟨fN,aM⟩: ∃f,f=if t.k=2 then iW al t.s t.p else []:=⟨_,rfl⟩;have az:=fa aM;clear aM
  go_upto_if 48 with fail
  go_cut [] (fun wc=>AS w wc fb (meets y fN) o1 n1 k1 o2 n2 k2 a b r.word.s r.word.p (some ⟨g,0,none⟩) r.args.length k r.fin none/\wc.heap[wr.heap.size]? =some (xi #[xd .u8 (gM t.k),xj t.s,xd xh t.p] 232 (0,0)))
  case first=>
   have H4:=fa (H3.later ((Mz wr.heap.size wr).alloc (Mr _) (xi #[xd .u8 (gM t.k),xj t.s,xd xh t.p] 232)));rcases an.1 with hk|hk
   ·have e1:(gM t.k==110)=true:=by rw[hk];rfl
    have aB:=fa hk;clear hk
    go_wp2_with (refine(yN y (H4.kt.acts HA) aN H4.fbx an.2.1).mono ?_)
    rintro e w5 ⟨rfl,aL,aE⟩;have H5:=fa (H4.call aL aE hfl);have HB5:=fa ((aE.block wr.heap.size zp (by have:=fh H3.fbx;simp;omega)).trans (ft _ _));clear aL aE;go_wp2_with fail
    go_meet
    rw[az.out,if_pos aB.out];trivial
   ·have e1:(gM t.k==110)=false:=by rw[hk];rfl
    have aB:=fa hk;clear hk;go_wp2_with fail
    go_meet
    rw[az.out,if_neg (by rw[aB.out];simp)];exact⟨H4,ft _ _⟩
  case rest=>
  obtain⟨au,ag⟩:=hcut;have H4:=fa au;have bc:=cell_of_blk ag;have HBX:=fa ag;clear au H3 ag t0 t1 t2 rc mc;have ad:meets y (fArgs al (K.data.toList.drop i) (r.args.drop i))=meets (meets (meets y fN) (if iq (K.data.toList.drop i) t=true then [(t.p,4)] else [])) (fArgs al (K.data.toList.drop (i+1)) (r.args.drop (i+1))):=by
   rw[aV.out,qK,<-az.out,jF,jF]
  have aG:=fa ad;clear ad;have aa:iq (K.data.toList.drop i) t=true-> ∀W,AS w W fb (meet (meets y fN) t.p 4) o1 n1 k1 o2 n2 k2 a b r.word.s r.word.p (some ⟨g,0,none⟩) r.args.length k r.fin none->AS w W fb (meet (meets y fN) t.p 4) o1 n1 k1 o2 n2 k2 a b r.word.s r.word.p (some ⟨g,0,none⟩) r.args.length k r.fin none/\Hid (meets (meets x (f1++f2)) (fArgs al K.data.toList r.args)=meets (meet (meets y fN) t.p 4) (fArgs al (K.data.toList.drop (i+1)) (r.args.drop (i+1)))):=by
   intro hb W hW;refine⟨hW, ?_⟩;show _=_;rw[HY.out,aG.out,if_pos hb];rfl
  have ae:iq (K.data.toList.drop i) t=false->Hid (meets (meets x (f1++f2)) (fArgs al K.data.toList r.args)=meets (meets y fN) (fArgs al (K.data.toList.drop (i+1)) (r.args.drop (i+1)))):=by
   intro hb;show _=_;rw[HY.out,aG.out,if_neg (by simp[hb])];rfl
  have FBD:=fa aa;have FOK:=fa ae;clear aa ae;by_cases hki:i<K.size
  ·have hlt':(i:Int)<(K.size:Int):=zo;have hge':decide (K.size<=i)=false:=zs;have J:=drop_at K i hki;rcases an.1 with hk|hk
   ·have e1:(gM t.k==100)=false:=by rw[hk];rfl
    by_cases hc:K[i].toNat=110
    ·have I:iq (K.data.toList.drop i) t=false:=by rw[J,iq,if_pos hk];simp[hc]
     have HBA:=fa I;have e2:((K[i].toNat:Int) !=gM t.k)=false:=by rw[hk,hc];rfl
     clear I J hk hc;exact zm136
    have I:iq (K.data.toList.drop i) t=true:=by rw[J,iq,if_pos hk];simp[hc]
    have HBA:=fa I;have e2:((K[i].toNat:Int) !=gM t.k)=true:=by rw[hk,bne_iff_ne];show(K[i].toNat:Int)≠110;omega
    clear I J hk hc;exact zm17
   have e1:(gM t.k==100)=true:=by rw[hk];rfl
   by_cases hc:K[i].toNat=100
   ·obtain⟨ch,R⟩:=an.2.2 hk;have e2:((K[i].toNat:Int) !=gM t.k)=false:=za;have hsz:0<t.s.size:=by rw[R];exact Nat.zero_lt_one
    have aD:t.s[0].toNat=ch.toNat:=by simp only[R];rfl
    by_cases hl1:ch.toNat<49
    ·have I:iq (K.data.toList.drop i) t=true:=by rw[J,iq,if_neg zo,if_pos hc,R];simp;omega
     have HBA:=fa I;have d1:(t.s[0].toNat:Int)<49:=zo;clear I J hk hc R aD;exact zm17
    by_cases hl2:51<ch.toNat
    ·have I:iq (K.data.toList.drop i) t=true:=by rw[J,iq,if_neg zo,if_pos hc,R];simp;omega
     have HBA:=fa I;have d1:¬ (t.s[0].toNat:Int)<49:=zo;have d2:(51:Int)<(t.s[0].toNat:Int):=zo;clear I J hk hc R aD;exact zm17
    have I:iq (K.data.toList.drop i) t=false:=by rw[J,iq,if_neg zo,if_pos hc,R];simp;omega
    have HBA:=fa I;have d1:¬ (t.s[0].toNat:Int)<49:=zo;have d2:¬ (51:Int)<(t.s[0].toNat:Int):=zo;clear I J hk hc R aD;exact zm136
   have I:iq (K.data.toList.drop i) t=true:=by rw[J,iq,if_neg zo,if_neg hc]
   have HBA:=fa I;have e2:((K[i].toNat:Int) !=gM t.k)=true:=by rw[hk,bne_iff_ne];show(K[i].toNat:Int)≠100;omega
   clear I J hk hc;exact zm17
  have I:iq (K.data.toList.drop i) t=true:=by rw[Ms za];rfl
  have HBA:=fa I;have hge:(K.size:Int)<=(i:Int):=zo;clear I hki;exact zm17
 have bg:i=r.args.length:=zo;subst bg;have aP:meets (meets x (f1++f2)) (fArgs al K.data.toList r.args)=y:=by
  rw[HY.out,Ms (Mr _)];rfl
 have ar:meets x (l9 al r)=meets y (if r.args.length<K.size then [(r.fin,4)] else []):=by
  rw[l9,<-ax.out,<-ay.out,<-aX.out,size_data,<-List.append_assoc,jF,jF,aP]
 have aq:=fa ar;clear ar aP hlt hi;by_cases hfew:r.args.length<K.size
 ·have aA:=fa hfew;go_wp2_with fail;refine(jV fb y r.fin 4 has.fbx).mono ?_;rintro e w6 ⟨rfl,hf6,hg6⟩;have H6:=fa (has.call hf6 hg6 hfl);clear hf6 hg6;go_wp2;go_end0;refine⟨rfl, ?_,H6.gr⟩;rw[aq.out,if_pos aA.out];exact H6.fbx
 have aA:=fa hfew;go_wp2;go_end0;refine⟨rfl, ?_,has.gr⟩;rw[aq.out,if_neg aA.out];exact has.fbx
def Fg(Q:Tk->Prop):Fm->Prop
 | .nil=>False
 | .node _ _ a l r=>(a.1=0/\(∃t,Q t/\t.k=2/\t.s=a.2.1/\t.p=a.2.2)/\l= .nil/\r= .nil)\/
   ((1<=a.1/\a.1<=3)/\l= .nil/\r= .nil)\/((4<=a.1/\a.1<=8)/\Fg Q l/\r= .nil)\/((9<=a.1/\a.1<=12)/\Fg Q l/\Fg Q r)
theorem Fg.leaf(h:Q t)(I:t.k=2):Fg Q (leaf 0 t.s t.p):=Mu ⟨rfl,⟨t,h,I,rfl,rfl⟩,rfl,rfl⟩
theorem Fg.word{k:Nat}{s:ByteArray}{p:Nat}(h:1<=k/\k<=3):Fg Q (Go.Proofs.YtidakhhekofkoaaGreatDoor.leaf k s p):=Mt (Mu ⟨h,rfl,rfl⟩)
theorem Fg.one{k:Nat}(h:4<=k/\k<=8)(hf:Fg Q f):Fg Q (one k f):=Mt (Mt (Mu ⟨h,hf,rfl⟩))
theorem Fg.two{k:Nat}{g:Fm}(h:9<=k/\k<=12)(hf:Fg Q f)(hg:Fg Q g):Fg Q (two k f g):=Mt (Mt (Mt ⟨h,hf,hg⟩))
theorem pz(k:Nat)(s:ByteArray)(p:Nat):gF (leaf k s p)=1:=rfl
theorem tK(k:Nat)(f:Fm):gF (one k f)=1+gF f:=rfl
theorem nJ(k:Nat)(f g:Fm):gF (two k f g)=1+gF f+gF g:=rfl
theorem DE{k:Nat}(h:lj k≠0):4<=lj k/\lj k<=8:=by
 revert h;unfold lj;repeat' split
 all_goals simp
theorem rV{l:List Tk}{k:Nat}(h:gu l=k)(I:k≠0): ∃t r,l=t::r/\t.k=k:=by
 cases l with
 |nil=>exact absurd h.symm I
 |cons t r=>exact⟨t,r,rfl,h⟩
theorem mz{l:List Tk}(h:gu l≠0):l.tail.length+1=l.length:=by
 cases l with
 |nil=>trivial
 |cons t r=>simp
theorem ij{l:List Tk}(h: ∀t∈l,Q t): ∀t∈l.tail,Q t:=fun t I=>h t (List.mem_of_mem_tail I)
theorem jZ(Q:Tk->Prop): ∀n ae f l R U,pf n ae f l= .ok (R,U)->ae<=6->(5<=ae->Fg Q f)->(∀t∈l,Q t)->
  Fg Q R/\(∀t∈U,Q t)/\gF R+U.length<=(if 5<=ae then gF f else 0)+l.length
 |0,_,_,_,_,_,h,_,_,_=>zv
 |n+1,0,f,l,R,U,h,_,_,hq=>by
  rw[pf] at h
  split at h
  ·cases h
  rename_i a l1 e
  have I:=jZ Q n 1 .nil l a l1 e zo zo hq
  split at h
  ·rename_i hk
   split at h
   ·cases h
   rename_i b l2 e2
   have J:=jZ Q n 0 .nil l1.tail b l2 e2 zo zo (ij I.2.1);have hl:=mz (l:=l1) zo;cases h;refine⟨Fg.two zo I.1 J.1,J.2.1, ?_⟩;have s1:=I.2.2;have s2:=J.2.2;simp at s1 s2|-;rw[nJ];omega
  simp_all
 |n+1,1,f,l,R,U,h,_,_,hq=>by
  rw[pf] at h
  split at h
  ·cases h
  rename_i a l1 e
  have I:=jZ Q n 2 .nil l a l1 e zo zo hq;have J:=jZ Q n 5 a l1 R U h zo (fun _=>I.1) I.2.1;have s1:=I.2.2;have s2:=J.2.2;simp at s1 s2;exact⟨J.1,J.2.1,zs⟩
 |n+1,2,f,l,R,U,h,_,_,hq=>by
  rw[pf] at h
  split at h
  ·cases h
  rename_i a l1 e
  have I:=jZ Q n 3 .nil l a l1 e zo zo hq;have J:=jZ Q n 6 a l1 R U h zo (fun _=>I.1) I.2.1;have s1:=I.2.2;have s2:=J.2.2;simp at s1 s2;exact⟨J.1,J.2.1,zs⟩
 |n+1,3,f,l,R,U,h,_,_,hq=>by
  rw[pf] at h
  split at h
  ·cases h
  rename_i a l1 e
  have I:=jZ Q n 4 .nil l a l1 e zo zo hq
  split at h
  ·rename_i hk
   split at h
   ·cases h
   rename_i b l2 e2
   have J:=jZ Q n 4 .nil l1.tail b l2 e2 zo zo (ij I.2.1);have hl:=mz (l:=l1) zo;cases h;refine⟨Fg.two zo I.1 J.1,J.2.1, ?_⟩;have s1:=I.2.2;have s2:=J.2.2;simp at s1 s2|-;rw[nJ];omega
  simp_all
 |n+1,4,f,l,R,U,h,_,_,hq=>by
  rw[pf] at h
  split at h
  ·rename_i ho
   split at h
   ·cases h
   rename_i a l1 e
   have I:=jZ Q n 4 .nil l.tail a l1 e zo zo (ij hq);have hl:=mz (l:=l) (by intro e0;rw[e0] at ho;trivial);have s1:=I.2.2;simp at s1;cases h;refine⟨Fg.one (DE ho) I.1,I.2.1, ?_⟩;rw[tK];simp;omega
  split at h
  ·rename_i hk
   split at h
   ·cases h
   rename_i a l1 e
   have I:=jZ Q n 0 .nil l.tail a l1 e zo zo (ij hq);have s1:=I.2.2;simp at s1
   split at h
   ·cases h;exact⟨I.1,ij I.2.1,zs⟩
   cases h
  split at h
  ·rename_i hk
   cases h;have hl:=mz (l:=l) zo;refine⟨Fg.word zo,ij hq, ?_⟩;rw[pz];simp;omega
  split at h
  ·rename_i hk
   cases h;obtain⟨t,r,rfl,ht⟩:=rV hk zo;exact⟨Fg.leaf (hq t Mx) ht,ij hq,by rw[pz];simp;omega⟩
  cases h
 |n+1,5,f,l,R,U,h,_,hf,hq=>by
  rw[pf] at h
  split at h
  ·rename_i hk
   split at h
   ·cases h
   rename_i b l1 e
   have I:=jZ Q n 2 .nil l.tail b l1 e zo zo (ij hq);have J:=jZ Q n 5 _ l1 R U h zo (fun _=>Fg.two zo (hf zo) I.1) I.2.1;have hl:=mz (l:=l) zo;have s1:=I.2.2;have s2:=J.2.2;rw[nJ] at s2;simp at s1 s2;exact⟨J.1,J.2.1,zs⟩
  simp_all
 |n+1,6,f,l,R,U,h,_,hf,hq=>by
  rw[pf] at h
  split at h
  ·rename_i hk
   split at h
   ·cases h
   rename_i b l1 e
   have I:=jZ Q n 3 .nil l.tail b l1 e zo zo (ij hq);have J:=jZ Q n 6 _ l1 R U h zo (fun _=>Fg.two zo (hf zo) I.1) I.2.1;have hl:=mz (l:=l) zo;have s1:=I.2.2;have s2:=J.2.2;rw[nJ] at s2;simp at s1 s2;exact⟨J.1,J.2.1,zs⟩
  simp_all
 |n+1,k+7,f,l,R,U,h,hk,_,_=>zo
def RlGood(Q:Tk->Prop)(m:Nat)(r:Rl):Prop:=
 (r.call=true/\Q r.word/\r.word.k=2/\r.f= .nil/\ ∃x,Q x/\x.k=2/\(r.args=[x]\/ ∃y,Q y/\(y.k=2\/y.k=3)/\r.args=[x,y]))\/
 (r.call=false/\Fg Q r.f/\gF r.f<=m/\r.args=[])
theorem rW{l:List Tk}{k:Nat}(h:gu l=k)(I:k≠0)(J: ∀t∈l,Q t):Q (kX l)/\(kX l).k=k:=by
 obtain⟨t,r,rfl,R⟩:=rV h I;exact⟨J t Mx,R⟩
theorem zN(Q:Tk->Prop)(l:List Tk)(r:Rl)(J:List Tk)(h:gS l= .ok (r,J))(hq: ∀t∈l,Q t):RlGood Q l.length r/\(∀t∈J,Q t):=by
 unfold gS at h
 split at h
 ·rename_i U
  have w0:=rW U.1 zo hq
  split at h
  ·rename_i h1
   have I:=rW h1 zo (ij (ij hq))
   split at h
   ·split at h
    ·rename_i h3
     have R:Q (kX l.tail.tail.tail.tail)/\((kX l.tail.tail.tail.tail).k=2\/(kX l.tail.tail.tail.tail).k=3):=by
      rcases h3 with h3|h3
      ·exact zm186
      exact zm186
     split at h
     ·cases h;exact⟨Mu ⟨rfl,w0.1,w0.2,rfl,_,I.1,I.2,Mt ⟨_,R.1,R.2,rfl⟩⟩,ij (ij (ij (ij (ij (ij hq)))))⟩
     cases h
    cases h
   split at h
   ·cases h;exact⟨Mu ⟨rfl,w0.1,w0.2,rfl,_,I.1,I.2,Mu rfl⟩,ij (ij (ij (ij hq)))⟩
   cases h
  cases h
 split at h
 ·cases h
 rename_i f l1 e
 cases h;have:=jZ Q _ 0 .nil l f J e zo zo hq;have s1:=this.2.2;simp at s1;exact⟨Mt ⟨rfl,this.1,by show gF f<=_;omega,rfl⟩,this.2.1⟩
theorem sq(Q:Tk->Prop): ∀n l ts I,iG n l= .ok (ts,I)->(∀t∈l,Q t)->(∀t∈ts,Q t/\t.k=2)/\ts≠[]/\ts.length<=n/\(∀t∈I,Q t)
 |0,l,ts,I,h,_=>zv
 |n+1,l,ts,I,h,hq=>by
  rw[iG] at h
  split at h
  ·rename_i R
   have w0:=rW R zo hq
   split at h
   ·split at h
    ·cases h
    rename_i J l1 e
    have:=sq Q n l.tail.tail J l1 e (ij (ij hq));cases h;simp_all
   cases h;exact⟨fun t ht=>za,zp,zp,ij hq⟩
  cases h
theorem RlGood.mono{r:Rl}(h:RlGood Q m r)(hm:m<=m'):RlGood Q m' r:=by
 rcases h with h|⟨h1,h2,h3,h4⟩
 ·exact Mu h
 exact Mt ⟨h1,h2,zo,h4⟩
theorem rD(Q:Tk->Prop)(m:Nat): ∀n l rs,iI n l= .ok rs->l.length<=m->(∀t∈l,Q t)->(∀r∈rs,RlGood Q m r)/\rs.length<=n
 |0,l,rs,h,_,_=>zv
 |n+1,l,rs,h,hm,hq=>by
  rw[iI] at h
  split at h
  ·simp_all
  split at h
  ·split at h
   ·cases h
   rename_i r l1 e
   have hr:=zN Q l.tail r l1 e (ij hq);have hl:=qm l.tail r l1 e
   split at h
   ·split at h
    ·cases h
    rename_i J R
    have U:=rD Q m n l1.tail J R (by simp at hl|-;omega) (ij hr.2);cases h;refine⟨fun x I=> ?_,zs⟩;rcases List.mem_cons.1 I with rfl|I
    ·exact(show RlGood Q _ r from hr.1).mono zs
    exact U.1 x I
   cases h
  cases h
theorem mJ(Q:Tk->Prop)(l:List Tk)(al:List Tk)(rs:List Rl)(h:gW l= .ok (al,rs))(U: ∀t∈l,Q t):
  (∀t∈al,Q t/\t.k=2)/\al≠[]/\al.length<=l.length/\(∀r∈rs,RlGood Q l.length r)/\rs.length<=l.length:=by
 unfold gW at h
 split at h
 ·split at h
  ·cases h
  rename_i ts l1 e
  have I:=sq Q _ _ _ _ e (ij U);have J:=sN _ _ _ _ e
  split at h
  ·split at h
   ·cases h
   rename_i rs1 R
   have hr:=rD Q l.length _ _ _ R (by simp at J|-;omega) (ij I.2.2.2);cases h;exact⟨I.1,I.2.1,I.2.2.1,hr.1,by simp at J;omega⟩
  cases h
 cases h
theorem pj(s:ByteArray): ∀n i,i<=s.size-> ∀t∈jg s n i,t.s.size<=s.size/\t.p<=s.size
 |0,_,_,t,h=>zv
 |n+1,i,hi,t,h=>by
  have I:=l8 gZ s i hi;have h2:=um s _ I;have h3:=pD s _ I;by_cases hk:(gT s (gP gZ s i)).k<=1
  ·rw[lI s n i hk] at h;simp at h;subst h;omega
  rw[nA s n i hk] at h;have J:=re s i hi hk;rcases List.mem_cons.1 h with rfl|h
  ·omega
  exact pj s n _ J.2 t h
def nu(pre:List Tk)(a:Tk):List (Nat × Nat):=
 match pre with
 |[]=>[]
 |t::r=>(if t.s.toList=a.s.toList then [(a.p,3)] else [])++nu r a
def jq(a:Tk):List (Nat × Nat):=if 8<a.s.size then [(a.p,1)] else []
def xP(pre:List Tk)(i:Nat)(a:Tk):List (Nat × Nat):=jq a++(nu pre a++(if 6<=i then [(a.p,4)] else []))
def lL(al:List Tk):Nat->List Tk->List (Nat × Nat)
 |_,[]=>[]
 |i,a::r=>xP (al.take i) i a++lL al (i+1) r
def pd(al:List Tk)(i:Nat)(r:Rl):List (Nat × Nat):=(if 4<=i then [(r.pl,4)] else [])++(pT al r.f++(if r.call=true then l9 al r else []))
def kI(al:List Tk):Nat->List Rl->List (Nat × Nat)
 |_,[]=>[]
 |i,r::l=>pd al i r++kI al (i+1) l
def jW(al:List Tk)(rs:List Rl):List (Nat × Nat):=lL al 0 al++kI al 0 rs
def ib:List Rl->Nat
 |[]=>0
 |r::l=>gF (gL r)+ib l
def tE(n:Nat):Except Nat (List Tk × List Rl)->Except (Nat × Nat) (List Tk × List Rl)
 | .error q=> .error (q,2)
 | .ok (al,rs)=>if (meets (0,0) (jW al rs)).2≠0 then .error (meets (0,0) (jW al rs)) else if 16<ib rs then .error (n,4) else .ok (al,rs)
def iy(s:ByteArray):Except (Nat × Nat) (List Tk × List Rl):=if 400<s.size then .error (0,1) else tE s.size (gW (jg s (s.size+1) 0))
theorem nT{l:List α}{k:Nat}{x:α}{r:List α}(h:l.drop k=x::r):l.drop (k+1)=r:=by
 have:=congrArg List.tail h;simpa using this
theorem nK{l:List α}{k:Nat}{x:α}{r:List α}(h:l.drop k=x::r):l.take (k+1)=l.take k++[x]:=by
 rw[List.take_add_one];have:l[k]? =some x:=by
  have:=congrArg (fun l=>l[0]?) h;simpa using this
 simp_all
def Errs(l:List (Nat × Nat)):Prop:= ∀f∈l,f.2≠0
theorem Errs.append{l m:List (Nat × Nat)}(h:Errs l)(k:Errs m):Errs (l++m):=fun f hf=>(List.mem_append.1 hf).elim (h f) (k f)
theorem Errs.nil:Errs []:=fun _ h=>(MD h).elim
theorem Errs.ite{p:Prop}[Decidable p]{l m:List (Nat × Nat)}(h:Errs l)(k:Errs m):Errs (if p then l else m):=by split<;>assumption
theorem Errs.one{a b:Nat}(h:b≠0):Errs [(a,b)]:=fun f hf=>za
theorem CP(x:Nat × Nat){p:Nat}(he:e≠0):(meet x p e).2≠0:=by
 unfold meet;split
 ·omega
 omega
theorem A3: ∀(l:List (Nat × Nat)) (x:Nat × Nat),Errs l->x.2≠0->(meets x l).2≠0
 |[],_,_,h=>h
 |f::l,x,he,_=>A3 l _ (fun g hg=>he g (My _ hg)) (CP x (he f Mx))
theorem r4{l:List (Nat × Nat)}(he:Errs l)(h:(meets (0,0) l).2=0):l=[]:=by
 cases l with
 |nil=>rfl
 |cons f l=>exact absurd h (A3 l _ (fun g hg=>he g (My _ hg)) (CP _ (he f Mx)))
theorem wi(al:List Tk){s:ByteArray}{p:Nat}:Errs (iW al s p):=(Errs.ite (Errs.one zp) Errs.nil).append (Errs.ite Errs.nil (Errs.one zp))
theorem vk(al:List Tk): ∀f,Errs (pT al f)
 | .nil=>Errs.nil
 | .node _ _ _ l r=>(Errs.ite (wi al) Errs.nil).append ((vk al l).append (vk al r))
theorem wg(al:List Tk): ∀(k:List UInt8) (l:List Tk),Errs (fArgs al k l)
 |_,[]=>by rw[fArgs];exact Errs.nil
 |k,t::r=>by rw[fArgs];exact((Errs.ite (wi al) Errs.nil).append (Errs.ite (Errs.one zp) Errs.nil)).append (wg al _ r)
theorem Dm(al:List Tk)(r:Rl):Errs (l9 al r):=(Errs.ite (Errs.one zp) Errs.nil).append ((Errs.ite Errs.nil (Errs.one zp)).append ((wg al _ _).append (Errs.ite (Errs.one zp) Errs.nil)))
theorem yx(a:Tk): ∀l,Errs (nu l a)
 |[]=>Errs.nil
 |_::r=>(Errs.ite (Errs.one zp) Errs.nil).append (yx a r)
theorem we(al:List Tk): ∀i l,Errs (lL al i l)
 |_,[]=>Errs.nil
 |i,a::r=>((Errs.ite (Errs.one zp) Errs.nil).append ((yx a _).append (Errs.ite (Errs.one zp) Errs.nil))).append (we al (i+1) r)
theorem uC(al:List Tk): ∀i l,Errs (kI al i l)
 |_,[]=>Errs.nil
 |i,r::l=>((Errs.ite (Errs.one zp) Errs.nil).append ((vk al _).append (Errs.ite (Dm al r) Errs.nil))).append (uC al (i+1) l)
theorem oy(al:List Tk)(rs:List Rl):Errs (jW al rs):=(we al _ _).append (uC al _ _)
theorem mI: ∀{i:Nat} {rs:List Rl},kI al i rs=[]-> ∀r∈rs,pT al r.f=[]/\(r.call=true->l9 al r=[])
 |_,[],_,r,hr=>(MD hr).elim
 |i,x::l,h,r,hr=>by
  rw[kI,pd] at h;obtain⟨I,J⟩:=List.append_eq_nil_iff.1 h;obtain⟨h3,R⟩:=List.append_eq_nil_iff.1 I;obtain⟨h5,h6⟩:=List.append_eq_nil_iff.1 R;rcases List.mem_cons.1 hr with rfl|hr
  ·simp_all
  exact mI J r hr
theorem vY(h:qI t)(J:t.k=3): ∃c:UInt8,t.s=⟨#[c]⟩/\48<=c.toNat/\c.toNat<=57:=by
 obtain⟨c,hc,I⟩:=h.2.2.1 J;refine⟨c, ?_,I⟩;cases hs:t.s with
 |mk d=>
  rw[hs] at hc;have:d= #[c]:=by rw[<-Array.toList_inj];omega
  rw[this]
theorem tP(h:n<=11):(ir n=[110]/\n<=1)\/(ir n=[110,100]/\2<=n/\n<=3)\/(ir n=[110,110]/\4<=n):=by
 unfold ir
 split
 ·simp_all
 split
 ·exact Mt (Mu ⟨rfl,zo,by assumption⟩)
 exact Mt (Mt ⟨rfl,zo⟩)
theorem xN{r:Rl}(hQ: ∀t,Q t->qI t)(hg:RlGood Q m r)(hc:r.call=true)(h:l9 al r=[]):qP r:=by
 rcases hg with⟨_,_,_,_,x,hx,hxk,hargs⟩|⟨h1,_⟩
 ·unfold l9 at h;obtain⟨_,h2⟩:=List.append_eq_nil_iff.1 h;obtain⟨h3,h4⟩:=List.append_eq_nil_iff.1 h2;obtain⟨R,h6⟩:=List.append_eq_nil_iff.1 h4;have hn:gR r.word.s.toList<=11:=by
   simp_all
  have hlen:¬ r.args.length<(ir (gR r.word.s.toList)).length:=by
   simp_all
  have I: ∀{ks:List UInt8} {t:Tk} {l:List Tk},fArgs al ks (t::l)=[]->iq ks t=false/\fArgs al ks.tail l=[]:=by
   intro ks t l he;rw[fArgs,qK] at he;simp_all
  rcases tP hn with⟨ht,hk⟩|⟨ht,hk⟩|⟨ht,hk⟩
  ·rcases hargs with ha|⟨y,hy,hyk,ha⟩
   ·exact Mu ⟨hk,x,ha⟩
   rw[ha,ht] at R;have:=I (I R).2;exact absurd this.1 (by simp[iq])
  ·rcases hargs with ha|⟨y,hy,hyk,ha⟩
   ·exact zm131
   rw[ha,ht] at R;have hb:=(I (I R).2).1;rcases hyk with hyk|hyk
   ·simp[iq,hyk] at hb
   obtain⟨c,J,hc2,U⟩:=vY (hQ y hy) hyk;simp[iq,hyk,J] at hb;exact Mt (Mu ⟨hk.1,hk.2,x,y,ha,c,J,zo,U⟩)
  rcases hargs with ha|⟨y,hy,hyk,ha⟩
  ·exact zm131
  exact Mt (Mt ⟨hk,hn,x,y,ha⟩)
 rw[h1] at hc;cases hc
theorem uT(a:ByteArray): ∀n,gF (lg a n)<=2+4 * n
 |0=>by show 1+(1+0+0)+0<=2;omega
 |1=>by show 1+(1+0+0)+0<=6;omega
 |n+2=>by
  have:=uT a (n+1);show 1+(1+(1+0+0)+(1+gF (lg a (n+1))+0))+0<=_;omega
theorem F2(k:Nat)(a b:ByteArray)(n:Nat):gF (i' k a b n)<=12+4 * n:=by
 have:=uT a n;unfold i'
 split
 ·show 1+0+0<=_;omega
 split
 ·show 1+(1+(1+0+0)+(1+(1+(1+0+0)+0)+0))+0<=_;omega
 split
 ·omega
 split
 ·show 1+gF (lg a n)+0<=_;omega
 repeat' split
 all_goals (simp only[nJ,tK,gV,pz];omega)
theorem xt{r:Rl}(hg:RlGood Q m r)(I:r.call=true->qP r):gF (gL r)<=48+m:=by
 unfold gL;rcases hg with⟨hc,_⟩|⟨J,_,h3,_⟩
 ·rw[if_pos hc];have J:=F2 (gR r.word.s.toList) (mq r.args 0) (mq r.args 1) (kv (mq r.args 1));rcases I hc with⟨hk,x,ha⟩|⟨hk,hk2,x,y,ha,c,hc1,hc2,hc3⟩|⟨hk,hk2,x,y,ha⟩
  ·have:kv (mq r.args 1)=0:=by rw[ha];rfl
   omega
  ·have:kv (mq r.args 1)<=9:=by rw[ha];show kv y.s<=9;rw[hc1];show c.toNat - 48<=9;omega
   omega
  have h2:gF (i' (gR r.word.s.toList) (mq r.args 0) (mq r.args 1) (kv (mq r.args 1)))<=12:=by
   unfold i';rw[if_neg zo,if_neg zo,if_neg zo,if_neg zo]
   repeat' split
   all_goals (simp only[nJ,tK,gV,pz];omega)
  omega
 rw[if_neg (by simp[J])];omega
def Kn(s:ByteArray)(w w':World)(e:Ending):Prop:=
 Below w.heap.size w w'/\(match iy s with
  | .error x=>e=xm (.tuple #[.agg #[xa none 0 0,xa none 0 0],xd xh x.1,xd xh x.2])
  | .ok (al,rs)=> ∃o1 n1 k1 o2 n2 k2,e=xm (.tuple #[.agg #[xa o1 n1 k1,xa o2 n2 k2],xd xh 0,xd xh 0])/\ActsAre w' o1 n1 k1 al/\RowR w' o2 n2 k2 rs)
structure RS (w W:World) (mb:Nat) (x:Nat × Nat) (o1:Option Addr) (n1 k1:Nat) (o2:Option Addr) (n2 k2:Nat) (al:List Tk) (rs:List Rl):Prop where
 rbx:W.heap[w.heap.size]? =some (xi #[xa none 0 0,xa none 0 0] 228 (0,0))
 mbx:W.heap[mb]? =some (xi #[xa o1 n1 k1,xa o2 n2 k2] 228 (0,0))
 fbx:FB W (mb+1) x
 act:ActsAre W o1 n1 k1 al
 rul:RowR W o2 n2 k2 rs
 bel:Below w.heap.size w W
 lt:w.heap.size<mb
theorem RowR.fb{fb:Nat}{k:Nat}(h:RowR w o n k rs)(hf:FB w fb x)(hg:w.grownBy w' (some fb)):RowR w' o n k rs:=by
 obtain⟨cells,I,J⟩:=h;refine⟨cells,gq I hg ?_,(KT.fb hf hg).rules J⟩;rcases hb:(xa o n k).ownBlock with _|b
 ·simp
 refine Mt (fun e=> ?_);cases e;exact gp I hb hf zp
theorem RowR.keepTy{rb ty:Nat}{m:Nat × Nat}{k:Nat}(h:RowR w o n k rs)(hk:KT w w')(U:w.heap[rb]? =some (xi cc ty m))(I:ty≠235)(hg:w.grownBy w' (some rb)):RowR w' o n k rs:=by
 obtain⟨cells,J,R⟩:=h;refine⟨cells,gq J hg ?_,hk.rules R⟩;rcases hb':(xa o n k).ownBlock with _|b
 ·simp
 refine Mt (fun e=> ?_);cases e;exact gp J hb' U I
theorem iw{size:Nat}{v:Value}(h:w.ownsRow base e size v n xs): ∃o k,v=xa o n k:=by
 obtain⟨_,⟨h1,h2⟩|⟨g,cap,cur,hv,_⟩⟩:=h
 ·simp_all
 simp_all
theorem hD{k:Nat}(h:w.ownsRow base e 1 (xa o n k) n xs)(hi:i<n): ∃g,o=some ⟨g,0,none⟩/\g<w.heap.size/\w.cell? ⟨g,i,none⟩=xs[i]? :=by
 obtain⟨_,⟨h1,h2⟩|⟨g,cap,cur,R,_,I,hle,_,hcs,J⟩⟩:=h
 ·omega
 cases R;refine⟨g,rfl,fh I, ?_⟩;rw[cell_of_blk I,<-Array.getElem?_toList,<-J,List.getElem?_take,if_pos zo]
theorem FsAre.at: ∀{rs:List Rl} {ps:List (Option Addr)} {j:Nat} {r:Rl} {l:List Rl},FsAre w rs ps->rs.drop j=r::l-> ∃p,ps[j]? =some p/\IsF w (gL r) p
 |[],_,j,r,l,_,h=>by simp at h
 |x::xs,ps,0,r,l,⟨p,ps',e,h1,_⟩,h=>by
  simp_all
 |x::xs,ps,j+1,r,l,⟨p,ps',e,_,h2⟩,h=>by
  obtain⟨q,hq,hf⟩:=h2.at (j:=j) (r:=r) (l:=l) zv;simp_all
theorem ni: ∀a b:List Rl,ib (a++b)=ib a+ib b
 |[],b=>by simp[ib]
 |r::l,b=>by rw[List.cons_append,ib,ib,ni l b];omega
theorem qC(m:Nat): ∀l:List Rl,(∀r∈l,gF (gL r)<=m)->ib l<=l.length * m
 |[],_=>by simp[ib]
 |r::l,h=>by
  have h1:=h r Mx;have h2:=qC m l (fun x I=>h x (My _ I));rw[ib,List.length_cons,Nat.succ_mul];omega
theorem RS.later(h:RS w W mb x o1 n1 k1 o2 n2 k2 al rs)(I:Below W.heap.size W W'):RS w W' mb x o1 n1 k1 o2 n2 k2 al rs:=
 ⟨(I.block _ (fh h.rbx)).trans h.rbx,(I.block _ (fh h.mbx)).trans h.mbx,h.fbx.later I,(KT.below I).acts h.act,h.rul.later I,h.bel.trans (I.mono h.bel.size),h.lt⟩
theorem RS.alloc(h:RS w W mb x o1 n1 k1 o2 n2 k2 al rs)(o:Obj):RS w (W.alloc o) mb x o1 n1 k1 o2 n2 k2 al rs:=h.later gz
theorem RS.call(h:RS w W mb x o1 n1 k1 o2 n2 k2 al rs)(hf:FB W' (mb+1) y)(hg:W.grownBy W' (some (mb+1))):RS w W' mb y o1 n1 k1 o2 n2 k2 al rs:=
 ⟨(hg.block _ (fh h.rbx) (by have:=h.lt;simp;omega)).trans h.rbx,(hg.block _ (fh h.mbx) zp).trans h.mbx,hf,(KT.fb h.fbx hg).acts h.act,h.rul.fb h.fbx hg,qJ h.bel hg (by have:=h.lt;omega),h.lt⟩
theorem GL(h:al.drop i=t::r):lL al i (al.drop i)=xP (al.take i) i t++lL al (i+1) (al.drop (i+1)):=by
 rw[h,lL,nT h]
theorem EM{t:Rl}{r:List Rl}(h:rs.drop i=t::r):kI al i (rs.drop i)=pd al i t++kI al (i+1) (rs.drop (i+1)):=by
 rw[h,kI,nT h]
theorem Jg{l:List Tk}{a:Tk}{k:Nat}(h:l.drop k=t::r):nu (l.drop k) a=(if t.s.toList=a.s.toList then [(a.p,3)] else [])++nu (l.drop (k+1)) a:=by
 rw[h,nu,nT h]
theorem Fg.leaf_size(I: ∀t,Q t->t.s.size<=m): ∀{f:Fm} {s:ByteArray} {p:Nat},Fg Q f->Ac f s p->s.size<=m
 | .nil,_,_,h,_=>False.elim h
 | .node _ _ a l r,s,p,h,hl=>by
  rcases hl with⟨h0,hs,hp⟩|hl|hl
  ·rcases h with⟨_,⟨t,ht,_,h1,_⟩,_⟩|⟨h1,_⟩|⟨h1,_⟩|⟨h1,_⟩
   ·rw[<-hs,<-h1];exact I t ht
   all_goals omega
  ·rcases h with⟨_,_,hn,_⟩|⟨_,hn,_⟩|⟨_,hf,_⟩|⟨_,hf,_⟩
   ·rw[hn] at hl;trivial
   ·rw[hn] at hl;trivial
   ·exact hf.leaf_size I hl
   exact hf.leaf_size I hl
  rcases h with⟨_,_,_,hn⟩|⟨_,_,hn⟩|⟨_,_,hn⟩|⟨_,_,hf⟩
  ·rw[hn] at hl;trivial
  ·rw[hn] at hl;trivial
  ·rw[hn] at hl;trivial
  exact hf.leaf_size I hl
def vS(t:Tk):Prop:=qI t/\t.s.size<=400
theorem Gg(s:ByteArray)(w:World):Calls prog 137 #[xj s] w fun e w'=>Kn s w w' e:=by
 by_cases hs:400<s.size
 ·have HL:Hid (iy s= .error (0,1)):=by show _=_;unfold iy;simp_all
  have cq:(400:Int)<(s.size:Int):=zo;clear hs;go_in;go_wp2_with fail;have rc:=fun o=>cell_of_blk (ft w (xi #[xa none 0 0,xa none 0 0] 228)) o
  exact bodyPost_ret (v:= .tuple #[.agg #[xa none 0 0,xa none 0 0],xd xh 0,xd xh 1]) (by simp[results,results137,go_sem,rc]) rfl ⟨gz,by rw[HL.out];rfl⟩
 have cq:¬ (400:Int)<(s.size:Int):=zo;have HS:=fa (show s.size<=400 from zo);have aO:Hid (iy s=tE s.size (gW (jg s (s.size+1) 0))):=by show _=_;unfold iy;rw[if_neg hs]
 have HP:=fa (fun W=>Eo s W HS);have bL:(jg s (s.size+1) 0).length<=401:=by have:=pX s (s.size+1) 0 (Mw _);omega
 have HQ:Hid (∀t∈jg s (s.size+1) 0,vS t):=fun t ht=>⟨q9 s _ _ t ht,by have:=pj s _ 0 (Mw _) t ht;omega⟩
 generalize jg s (s.size+1) 0=L at *;clear hs;go_in
 go_wp2_with (refine(HP _).mono ?_)
 rintro e U ⟨aQ,o1,n1,k1,o2,n2,k2,hx⟩;have bN:w.heap.size<U.heap.size:=by have:=aQ.size;simp at this;omega
 have aB:=fa (show U.heap[w.heap.size]? =some (xi #[xa none 0 0,xa none 0 0] 228 (0,0)) from(aQ.block _ zp).trans (ft _ _));have aJ:=fa (((Mz w.heap.size w).alloc (Mr _) (xi #[xa none 0 0,xa none 0 0] 228)).trans (aQ.mono zp));clear aQ;cases hm:gW L with
 |error q=>
  rw[hm] at hx;have aT:=hx;clear hx;subst aT;have HL:Hid (iy s= .error (q,2)):=by show _=_;rw[aO.out,hm];rfl
  clear hm aO;have rf:=fi aB;have rc:=cell_of_blk aB;go_wp2_with fail;refine bodyPost_ret (v:= .tuple #[.agg #[xa none 0 0,xa none 0 0],xd xh q,xd xh 2]) ?_ rfl ?_
  ·have J:(((U.setCell ⟨w.heap.size,0,none⟩ (xa none 0 0)).setCell ⟨w.heap.size,1,none⟩ (xa none 0 0)).alloc (xi #[xa o1 n1 k1,xa o2 n2 k2] 228)).heap[w.heap.size]? =some (xi #[xa none 0 0,xa none 0 0] 228 (0,0)):=(MC _ _ _ zs).trans (fj (fj aB 0 _) 1 _);clear rc rf;have rc:=cell_of_blk J;simp[results,results137,go_sem,rc]
  refine⟨((aJ.setCell (Mr _) _).setCell (Mr _) _).alloc zs _, ?_⟩;rw[HL.out];rfl
 |ok m=>
  obtain⟨al,rs⟩:=m;rw[hm] at hx;obtain⟨rfl,ha,hr⟩:=hx;have HL:Hid (iy s=if (meets (0,0) (jW al rs)).2≠0 then .error (meets (0,0) (jW al rs)) else if 16<ib rs then .error (s.size,4) else .ok (al,rs)):=by show _=_;rw[aO.out,hm];rfl
  have bm:=mJ vS L al rs hm HQ;have bh:al.length<=401:=zo;have cp:rs.length<=401:=zo;have HG:=fa (fun r hr=>(bm.2.2.2.1 r hr).mono bL);have ck:=ActsAre.len ha;have cl:=RowR.len hr;subst ck cl;have h0:RS w ((U.alloc (xi #[xa o1 al.length k1,xa o2 rs.length k2] 228)).alloc (xi #[xd xh 0,xd xh 0] 284)) U.heap.size (0,0) o1 al.length k1 o2 rs.length k2 al rs:=by
   have aR:=((Mz U.heap.size U).alloc (Mr _) (xi #[xa o1 al.length k1,xa o2 rs.length k2] 228)).alloc zp (xi #[xd xh 0,xd xh 0] 284);exact⟨(aR.block _ bN).trans aB,(MC _ _ _ zp).trans (ft _ _),fk _ _ _ zp,(KT.below aR).acts ha,(show RowR U _ _ _ _ from hr).later aR,aJ.trans (aR.mono aJ.size),bN⟩
  have H0:=fa h0;have b4:=fa bm.2.1;clear ha hr hm bm h0 aO HP aB aJ HQ bL;go_wp2_with fail;obtain⟨g,rfl⟩: ∃g,o1=some ⟨g,0,none⟩:=by
   obtain⟨t,l,ht⟩:=jn (L:=al) (i:=0) (by have:=b4.out;exact List.length_pos_iff.2 this);obtain⟨g,aj,_⟩:=H0.act.tok ht;simp_all
  go_loopw [8] (fun v wr=> ∃(i:Nat) (y:Nat × Nat),i<=al.length/\v=xd xh i/\RS w wr U.heap.size y (some ⟨g,0,none⟩) al.length k1 o2 rs.length k2 al rs/\Hid (meets (0,0) (jW al rs)=meets y (lL al i (al.drop i)++kI al 0 rs))) (fun v _=>al.length - (intOf v).toNat)
  ·exact⟨0,_,Mw _,rfl,H0,rfl⟩
  clear H0;obtain⟨i,y,hi,rfl,av,HY⟩:=hrel;have H1:=fa av;have mc:=cell_of_blk av.mbx;have cv:=fh av.fbx;by_cases hlt:i<al.length
  ·obtain⟨t,l,ht⟩:=jn hlt;obtain⟨g',aj,hg, -,t0,t1,t2⟩:=av.act.tok ht;cases aj;have HT:=fa ht;clear av ht
   go_upto_if 46 with fail
   go_cut [] (fun wc=>RS w wc U.heap.size (meets y (jq t)) (some ⟨g,0,none⟩) al.length k1 o2 rs.length k2 al rs/\wc.heap[wr.heap.size]? =some (xi #[xd .u8 (gM t.k),xj t.s,xd xh t.p] 232 (0,0)))
   case first=>
    have H2:=fa (H1.alloc (xi #[xd .u8 (gM t.k),xj t.s,xd xh t.p] 232));rcases zc 8 t.s.size with⟨hl,hL⟩|⟨hl,hL⟩
    ·have an:=fa (show jq t=[(t.p,1)] from if_pos hl);clear hl;go_wp2_with fail;refine(jV (U.heap.size+1) y t.p 1 H2.fbx).mono ?_;rintro e w3 ⟨rfl,bF,aS⟩;have H3:=fa (H2.call bF aS);have bd:=fa ((aS.block wr.heap.size zp zs).trans (ft _ _));clear bF aS;go_wp2_with fail
     go_meet
     rw[an.out];trivial
    ·have an:=fa (show jq t=[] from if_neg hl);clear hl;go_wp2_with fail
     go_meet
     rw[an.out];exact⟨H2,ft _ _⟩
   case rest=>
   obtain⟨a',aY⟩:=hcut;have H2:=fa a';have br:=fa aY;clear a' H1 aY t0 t1 t2 mc;generalize wr.heap.size=b0 at *;clear hg;go_wp2
   go_loopw [10] (fun v wq=> ∃(k:Nat) (z:Nat × Nat),k<=i/\v=xd xh k/\RS w wq U.heap.size z (some ⟨g,0,none⟩) al.length k1 o2 rs.length k2 al rs/\wq.heap[b0]? =some (xi #[xd .u8 (gM t.k),xj t.s,xd xh t.p] 232 (0,0))/\Hid (meets (meets y (jq t)) (nu (al.take i) t)=meets z (nu ((al.take i).drop k) t))) (fun v _=>i - (intOf v).toNat)
   ·exact⟨0,_,Mw _,rfl,H2,br,rfl⟩
   clear H2 br;obtain⟨k,z,hk,rfl,I,ag,HZ⟩:=hrel;have H3:=fa I;have bd:=fa ag;have mc:=cell_of_blk I.mbx;have bc:=cell_of_blk ag;have aU:=fh ag;by_cases hki:k<i
   ·obtain⟨u,l2,hu⟩:=jn (L:=al) (i:=k) zo;obtain⟨g',aj,aS, -,u0,u1,u2⟩:=I.act.tok hu;cases aj;have bE:(al.take i).drop k=u::((al.take i).drop (k+1)):=by
     have h1:k<(al.take i).length:=zs;rw[List.drop_eq_getElem_cons h1]
     congr 1
     have h2:al[k]? =some u:=by have:=congrArg (fun l=>l[0]?) hu;simpa using this
     have h3:k<al.length:=zo;simp_all
    have bt:=fa (Jg (a:=t) bE);clear hu bE I ag;cases he:(u.s.toList==t.s.toList) with
    |true=>
     have HE:=fa (beq_iff_eq.1 he);go_wp2;go_quiet (fail);go_wp2_with fail;refine(jV (U.heap.size+1) z t.p 3 (H3.later (jA _ _)).fbx).mono ?_;rintro e w4 ⟨rfl,aD,au⟩;have H4:=fa ((H3.later (jA _ _)).call aD au);have bV:=fa ((au.block b0 zv zs).trans (((jA wr nq).block b0 aU).trans bd));clear aD au;go_wp2
     go_roundw
     ·exact⟨k+1,_,zo,zf,H4,bV,by show _=_;rw[HZ.out,bt.out,if_pos HE.out];rfl⟩
     simp[intOf];omega
    |false=>
     have HE:=fa (beq_eq_false_iff_ne.1 he);go_wp2;go_quiet (fail);go_wp2
     go_roundw
     ·exact⟨k+1,_,zo,zf,H3.later (jA _ _),((jA wr nq).block b0 aU).trans bd,by show _=_;rw[HZ.out,bt.out,if_neg HE.out];rfl⟩
     simp[intOf];omega
   have cj:k=i:=zo;subst cj;have hz:meets (meets y (jq t)) (nu (al.take k) t)=z:=by
    rw[HZ.out,Ms zs];rfl
   have HN:Hid (meets (0,0) (jW al rs)=meets z ((if 6<=k then [(t.p,4)] else [])++(lL al (k+1) (al.drop (k+1))++kI al 0 rs))):=by
    show _=_;rw[HY.out,GL HT.out,xP,<-hz];simp only[jF]
   clear hz HZ HY I ag;by_cases h6:6<=k
   ·have b9:(6:Int)<=(k:Int):=zo;rw[if_pos h6] at HN;go_wp2_with fail;refine(jV (U.heap.size+1) z t.p 4 H3.fbx).mono ?_;rintro e w4 ⟨rfl,aD,au⟩;have H4:=fa (H3.call aD au);clear aD au;go_wp2
    go_roundw
    ·exact⟨k+1,_,zo,zf,H4,HN⟩
    simp[intOf];omega
   have b9:¬ (6:Int)<=(k:Int):=zo;rw[if_neg h6] at HN;go_wp2
   go_roundw
   ·exact⟨k+1,_,zo,zf,H3,HN⟩
   simp[intOf];omega
  have cg:i=al.length:=zo;subst cg;have bA:Hid (meets (0,0) (jW al rs)=meets y (kI al 0 (rs.drop 0))):=by
   show _=_;rw[HY.out,Ms (Mr _)];rfl
  clear HY av hlt hi;go_wp2_with fail;clear mc cv
  go_loopw [11] (fun v wq=> ∃(j:Nat) (z:Nat × Nat),j<=rs.length/\v=xd xh j/\RS w wq U.heap.size z (some ⟨g,0,none⟩) al.length k1 o2 rs.length k2 al rs/\Hid (meets (0,0) (jW al rs)=meets z (kI al j (rs.drop j)))) (fun v _=>rs.length - (intOf v).toNat)
  ·exact⟨0,_,Mw _,rfl,H1,bA⟩
  clear H1 bA;obtain⟨j,z,hj,rfl,I,HZ⟩:=hrel;have H3:=fa I;have mc:=cell_of_blk I.mbx;have aU:=fh I.fbx;by_cases hjl:j<rs.length
  ·obtain⟨r,l,hr⟩: ∃r l,rs.drop j=r::l:=by
    cases hd:rs.drop j with
    |nil=>have:=congrArg ME hd;simp at this;omega
    |cons r l=>simp
   obtain⟨g2,aj,cd, -,a,b,s',c,o',n',k',d,p,bo,q0,q1,q2,q3,q4,q5,q6⟩:=I.rul.at hr;have ha:=bo.1;subst aj ha;have bx:=fa bo;have bZ:=fa (HG r (MF (i:=j) za));have bu:=fa (EM (al:=al) hr);clear bo hr I
   go_upto_if 88 with fail
   go_cut [] (fun wc=>RS w wc U.heap.size (meets z (if 4<=j then [(r.pl,4)] else [])) (some ⟨g,0,none⟩) al.length k1 (some ⟨g2,0,none⟩) rs.length k2 al rs/\wc.heap[wr.heap.size]? =some (xi #[xd xh r.pl,xd .u8 b,xj s',xd xh c,xa o' n' k',xd xh d,xk p] 235 (0,0))/\RlIs wc r r.pl b s' c o' n' k' d p)
   case first=>
    have H4:=fa (H3.alloc (xi #[xd xh r.pl,xd .u8 b,xj s',xd xh c,xa o' n' k',xd xh d,xk p] 235));have aW:=fa ((KT.alloc wr (xi #[xd xh r.pl,xd .u8 b,xj s',xd xh c,xa o' n' k',xd xh d,xk p] 235)).rl bx);by_cases hl:4<=j
    ·have hL:(4:Int)<=(j:Int):=zo;have an:=fa hl;clear hl;go_wp2_with fail;refine(jV (U.heap.size+1) z r.pl 4 H4.fbx).mono ?_;rintro e w5 ⟨rfl,bG,aF⟩;have H5:=fa (H4.call bG aF);have ae:=fa ((KT.fb H4.fbx aF).rl aW);have aK:=fa ((aF.block wr.heap.size zp zs).trans (ft _ _));clear bG aF;go_wp2_with fail
     go_meet
     rw[if_pos an.out];exact⟨H5,aK,ae⟩
    ·have hL:¬ (4:Int)<=(j:Int):=zo;have an:=fa hl;clear hl;go_wp2_with fail
     go_meet
     rw[if_neg an.out];exact⟨H4,ft _ _,aW⟩
   case rest=>
   obtain⟨ba,aq,a8⟩:=hcut;have bO:=fh aq;have H5:=fa ba;have aK:=fa aq;have ae:=fa a8;have bc:=cell_of_blk aq;clear ba aq a8 H3 bx mc q0 q1 q2 q3 q4 q5 q6 cd;have mc:=cell_of_blk H5.mbx;rcases bZ.out with⟨hcall,hwq,_,hfn,x,hxq,hxk,hargs⟩|⟨hcall,hfg,_,_⟩
   ·have hp:=ae.2;rw[if_pos hcall] at hp;obtain⟨-,cr,ca,cm,cb,cn⟩:=hp;subst cr ca cb cn;clear cm;have aN:=fa hcall;have aM:=fa hfn;have b7:=fa hwq.2;have b3:Hid (∀t∈r.args,(t.k=2\/t.k=3)/\t.s.size<=400/\(t.k=3-> ∃e:UInt8,t.s=⟨#[e]⟩)):=by
     intro t ht;rcases hargs with ha|⟨y',hyq,hyk,ha⟩
     ·rw[ha,MG] at ht;subst ht;exact⟨Mu hxk,hxq.2,fun h=>zo⟩
     rw[ha] at ht;rcases List.mem_cons.1 ht with rfl|ht
     ·exact⟨Mu hxk,hxq.2,fun h=>zo⟩
     rw[MG] at ht;subst ht;exact⟨hyk,hyq.2,fun h=>by obtain⟨e,he,_⟩:=vY hyq.1 h;simp_all⟩
    have aX:r.args.length<=2/\0<r.args.length:=by
     rcases hargs with ha|⟨y',hyq,hyk,ha⟩<;>rw[ha]<;>simp
    clear hcall hfn hwq hxq hxk hargs x;go_wp2_with fail;refine(qB al bh .nil _ _ _ _ _ _ _ (U.heap.size+1) _ none H5.act H5.fbx rfl (fun _ _ h=>False.elim h)).mono ?_;rintro e w6 ⟨rfl,aE,ai⟩;have H6:=fa (H5.call aE ai);have aL:=fa ((ai.block wr.heap.size bO zs).trans aK);have bz:=fa ((KT.fb H5.fbx ai).rl ae);have cu:=fh aL;clear aE ai mc bc;have mc:=cell_of_blk H6.mbx;have bc:=cell_of_blk aL;go_wp2_with fail;refine(zy al bh (U.heap.size+1) r H6.act H6.fbx bz aN aX.1 aX.2 b3 b7).mono ?_;rintro e w7 ⟨rfl,bH,bI⟩;have H7:=fa (H6.call bH bI);clear bH bI;go_wp2
    go_roundw
    ·exact⟨j+1,_,zo,zf,H7,by show _=_;rw[HZ.out,bu.out,pd,aM.out,if_pos aN.out];simp only[jF];try rfl⟩
    simp[intOf];omega
   have hp:=ae.2;rw[if_neg za] at hp;obtain⟨aG,aH⟩:=hp;obtain⟨pp,rfl⟩:=Option.isSome_iff_exists.1 aH;have bf:=fa aG;have aN:=fa hcall;have aC:Hid (∀s p,Ac r.f s p->s.size<=400):=fun s p hl=>hfg.leaf_size (fun t ht=>ht.2) hl
   clear aG aH hcall hfg;go_wp2_with fail;refine(qB al bh r.f _ _ _ _ _ _ _ (U.heap.size+1) _ _ H5.act H5.fbx bf aC).mono ?_;rintro e w6 ⟨rfl,aE,ai⟩;have H6:=fa (H5.call aE ai);have aL:=fa ((ai.block wr.heap.size bO zs).trans aK);clear aE ai mc bc;have bc:=cell_of_blk aL;go_wp2
   go_roundw
   ·exact⟨j+1,_,zo,zf,H6,by show _=_;rw[HZ.out,bu.out,pd,if_neg (show ¬ r.call=true by simp[aN.out])];simp only[jF,MI]⟩
   simp[intOf];omega
  have bn:j=rs.length:=zo;subst bn;have bg:Hid (meets (0,0) (jW al rs)=z):=by
   show _=_;rw[HZ.out,Ms (Mr _)];rfl
  have fc:=cell_of_blk I.fbx;have rc:=cell_of_blk I.rbx;have rf:=fi I.rbx;clear HZ hjl hj I;rw[bg.out] at HL;by_cases hx:z.2=0
  ·have aT:((z.2:Nat):Int)=0:=zo;rw[if_neg zo] at HL;have aM:=fa (r4 (oy al rs) (by rw[bg.out];exact hx));have bw:=fa (fun r hr hc=>xN (fun t h=>h.1) (HG r hr) hc ((mI (List.append_eq_nil_iff.1 aM).2 r hr).2 hc));have aC:=fa (fun r hr=>by have:=xt (HG r hr) (bw r hr);omega);clear aM hx bg;go_wp2_with fail;refine(sK rs H3.rul cp bw).mono ?_;rintro e w5 ⟨v5,ps,rfl,ao,a6,bD⟩;have H5:=fa (H3.later bD);obtain⟨o5,c5,rfl⟩:=iw ao;have b5:=fa ao;have bX:=fa a6;clear ao a6 bD mc fc rc rf aU H3 aT;go_wp2
   go_loopw [13,15] (fun va vb wq=> ∃(j:Nat),j<=rs.length/\va=xd xh (ib (rs.take j))/\vb=xd xh j/\Below w5.heap.size w5 wq) (fun _ v _=>rs.length - (intOf v).toNat)
   ·exact⟨0,Mw _,rfl,rfl,Mz _ _⟩
   obtain⟨j,hj,rfl,rfl,R⟩:=hrel;have aA:=fa R;by_cases hjl:j<rs.length
   ·obtain⟨r,l,hr⟩: ∃r l,rs.drop j=r::l:=by
     cases hd:rs.drop j with
     |nil=>have:=congrArg ME hd;simp at this;omega
     |cons r l=>simp
    obtain⟨g5,aj,aF,bj⟩:=hD (fL b5 R) hjl;obtain⟨p,hp,aG⟩:=(bX.later R).at hr;subst aj;rw[List.getElem?_map,hp] at bj;have hcl':=bj;have hszr:=aC r (MF (i:=j) za);have bM:ib (rs.take j)<=401 * 449:=by
     have h1:=qC 449 (rs.take j) (fun x hx=>aC x (List.mem_of_mem_take hx));have h2:(rs.take j).length<=401:=zs;omega
    have b6:Hid (ib (rs.take (j+1))=ib (rs.take j)+gF (gL r)):=by
     show _=_;rw[nK hr,ni];rfl
    have bf:=fa aG;clear aG hr hp bj R;generalize ib (rs.take j)=N at *;go_wp2_with fail;refine(vE (gL r) _ _ bf zo).mono ?_;rintro e w6 ⟨rfl,n6,rfl⟩;generalize gF (gL r)=M at *;go_wp2
    go_roundw
    ·exact⟨j+1,zo,by rw[b6.out];rfl,zf,aA.trans ((jA wr n6).mono aA.size)⟩
    simp[intOf];omega
   have bn:j=rs.length:=zo;subst bn;clear hjl hj;have bM:ib rs<=401 * 449:=by
    have h1:=qC 449 rs aC;omega
   rw[List.take_length];have H6:=fa (H5.later R);clear R aA;have mc:=cell_of_blk H6.mbx;have rc:=cell_of_blk H6.rbx;have rf:=fi H6.rbx;have cu:=fh H6.fbx;by_cases h16:16<ib rs
   ·rw[if_pos h16] at HL;have bC:(16:Int)<(ib rs:Int):=zo;go_wp2_with fail;have J:((wr.setCell ⟨w.heap.size,0,none⟩ (xa none 0 0)).setCell ⟨w.heap.size,1,none⟩ (xa none 0 0)).heap[w.heap.size]? =some (xi #[xa none 0 0,xa none 0 0] 228 (0,0)):=fj (fj H6.rbx 0 _) 1 _;clear rc rf mc;have rc:=cell_of_blk J;refine bodyPost_ret (v:= .tuple #[.agg #[xa none 0 0,xa none 0 0],xd xh s.size,xd xh 4]) (by simp[results,results137,go_sem,rc]) rfl ?_;refine⟨(H6.bel.setCell (Mr _) _).setCell (Mr _) _, ?_⟩;rw[HL.out];rfl
   rw[if_neg h16] at HL;have bC:¬ (16:Int)<(ib rs:Int):=zo;go_wp2_with fail;have J:((wr.setCell ⟨w.heap.size,0,none⟩ (xa (some ⟨g,0,none⟩) al.length k1)).setCell ⟨w.heap.size,1,none⟩ (xa o2 rs.length k2)).heap[w.heap.size]? =some (xi #[xa (some ⟨g,0,none⟩) al.length k1,xa o2 rs.length k2] 228 (0,0)):=fj (fj H6.rbx 0 _) 1 _;clear rc rf mc;have rc:=cell_of_blk J;refine bodyPost_ret (v:= .tuple #[.agg #[xa (some ⟨g,0,none⟩) al.length k1,xa o2 rs.length k2],xd xh 0,xd xh 0]) (by simp[results,results137,go_sem,rc]) rfl ?_;refine⟨(H6.bel.setCell (Mr _) _).setCell (Mr _) _, ?_⟩;have bJ:=(fK wr w.heap.size 0 (xa (some ⟨g,0,none⟩) al.length k1)).trans (fK _ w.heap.size 1 (xa o2 rs.length k2));have bK:=KT.grown bJ ⟨_,_,H6.rbx⟩ zp zp;rw[HL.out];exact⟨_,_,_,_,_,_,rfl,bK.acts H6.act,H6.rul.keepTy bK H6.rbx zp bJ⟩
  have aT:¬ ((z.2:Nat):Int)=0:=zo;rw[if_pos hx] at HL;go_wp2_with fail
  go_region
  go_wp2_with fail;have J:((wr.setCell ⟨w.heap.size,0,none⟩ (xa none 0 0)).setCell ⟨w.heap.size,1,none⟩ (xa none 0 0)).heap[w.heap.size]? =some (xi #[xa none 0 0,xa none 0 0] 228 (0,0)):=fj (fj H3.rbx 0 _) 1 _;have bl:=J;clear rc rf mc fc;have rc:=cell_of_blk bl;refine bodyPost_ret (v:= .tuple #[.agg #[xa none 0 0,xa none 0 0],xd xh z.1,xd xh z.2]) (by simp[results,results137,go_sem,rc]) rfl ?_;refine⟨((H3.bel.setCell (Mr _) _).setCell (Mr _) _).drew, ?_⟩;rw[HL.out]
theorem oM{s:ByteArray}(h:iy s= .error x):x.2≠0:=by
 unfold iy at h
 split at h
 ·cases h;simp
 cases hm:gW (jg s (s.size+1) 0) with
 |error q=>rw[hm] at h;cases h;simp
 |ok m=>
  obtain⟨al,rs⟩:=m;rw[hm,tE] at h
  split at h
  ·simp_all
  split at h
  ·cases h;simp
  cases h
structure MGood (al:List Tk) (rs:List Rl):Prop where
 acts: ∀t∈al,vS t/\t.k=2
 ne:al≠[]
 alen:al.length<=401
 rules: ∀r∈rs,RlGood vS 401 r
 rlen:rs.length<=401
 nof:jW al rs=[]
 nodes:ib rs<=16
theorem pw{s:ByteArray}(h:iy s= .ok (al,rs)):MGood al rs:=by
 unfold iy at h
 split at h
 ·cases h
 rename_i hs
 cases hm:gW (jg s (s.size+1) 0) with
 |error q=>rw[hm] at h;cases h
 |ok m=>
  obtain⟨al',rs'⟩:=m;rw[hm,tE] at h
  split at h
  ·cases h
  rename_i h0
  split at h
  ·cases h
  rename_i h16
  cases h;have I:(jg s (s.size+1) 0).length<=401:=by have:=pX s (s.size+1) 0 (Mw _);omega
  have hg:=mJ vS _ _ _ hm (fun t J=>⟨q9 s _ _ t J,by have:=pj s _ 0 (Mw _) t J;omega⟩);exact⟨hg.1,hg.2.1,zo,fun r hr=>(hg.2.2.2.1 r hr).mono I,zo,r4 (oy _ _) zo,zo⟩
theorem pJ:Calls prog 93 #[xd xh a] w fun e w'=>e=xm (xd xh a)/\w'=w:=by
 go_in;go_wp2;go_ret;simp
def oK(p q:Option Addr):Array Value:= #[xd xh 1,xd xh 0,xj ⟨#[97,99,116,115,32,97,44,98,59,114,117,108,101,32,114,101,115,112,111,110,115,101,40,97,44,98,41,59]⟩,xj ⟨#[]⟩,xa none 0 0,xa none 0 0,xa none 0 0,xd xh 1,xd xh 0,xj ⟨#[97,99,116,115,32,97]⟩,xj ⟨#[]⟩,xa none 0 0,xa none 0 0,xa none 0 0,xd xh 2,xd xh 0,xj ⟨#[97,99,116,115,32,97,44,98,59,114,117,108,101,32,114,101,115,112,111,110,115,101,40,97,44,98,41,59]⟩,xj ⟨#[]⟩,xa p 2 2,xa none 0 0,xa none 0 0,xd xh 2,xd xh 0,xj ⟨#[97,99,116,115,32,97,44,98,59,114,117,108,101,32,114,101,115,112,111,110,115,101,40,97,44,98,41,59]⟩,xj ⟨#[]⟩,xa q 1 1,xa none 0 0,xa none 0 0,xd xh 3,xd xh 0,xj ⟨#[97,99,116,115,32,97,44,98,59,114,117,108,101,32,114,101,115,112,111,110,115,101,40,97,44,98,41,59]⟩,xj ⟨#[]⟩,xa none 0 0,xa none 0 0,xa none 0 0,xd xh 3,xd xh 0,xj ⟨#[97,99,116,115]⟩,xj ⟨#[]⟩,xa none 0 0,xa none 0 0,xa none 0 0,xd xh 4,xd xh 0,xj ⟨#[]⟩,xj ⟨#[]⟩,xa none 0 0,xa none 0 0,xa none 0 0,xd xh 5,xd xh 0,xj ⟨#[97,99,116,115,32,97,44,98,59,114,117,108,101,32,114,101,115,112,111,110,115,101,40,97,44,98,41,59]⟩,xj ⟨#[]⟩,xa none 0 0,xa none 0 0,xa none 0 0,xd xh 6,xd xh 0,xj ⟨#[83]⟩,xj ⟨#[]⟩,xa none 0 0,xa none 0 0,xa none 0 0,xd xh 7,xd xh 0,xj ⟨#[97,99,116,115,32,97,44,98,59,114,117,108,101,32,114,101,115,112,111,110,115,101,40,97,44,98,41,59]⟩,xj ⟨#[]⟩,xa none 0 0,xa none 0 0,xa none 0 0,xd xh 8,xd xh 0,xj ⟨#[]⟩,xj ⟨#[]⟩,xa none 0 0,xa none 0 0,xa none 0 0,xd xh 9,xd xh 0,xj ⟨#[97,99,116,115,32,97,44,98,59,114,117,108,101,32,114,101,115,112,111,110,115,101,40,97,44,98,41,59]⟩,xj ⟨#[]⟩,xa none 0 0,xa none 0 0,xa none 0 0,xd xh 10,xd xh 0,xj ⟨#[120]⟩,xj ⟨#[]⟩,xa none 0 0,xa none 0 0,xa none 0 0,xd xh 11,xd xh 0,xj ⟨#[120]⟩,xj ⟨#[97]⟩,xa none 0 0,xa none 0 0,xa none 0 0,xd xh 12,xd xh 0,xj ⟨#[120]⟩,xj ⟨#[]⟩,xa none 0 0,xa none 0 0,xa none 0 0,xd xh 13,xd xh 0,xj ⟨#[120]⟩,xj ⟨#[]⟩,xa none 0 0,xa none 0 0,xa none 0 0,xd xh 14,xd xh 0,xj ⟨#[120]⟩,xj ⟨#[]⟩,xa none 0 0,xa none 0 0,xa none 0 0,xd xh 15,xd xh 0,xj ⟨#[]⟩,xj ⟨#[]⟩,xa none 0 0,xa none 0 0,xa none 0 0]
theorem Ch:Calls prog 35 #[] w fun e w'=>e=xm (xa (some ⟨w.heap.size+2,0,none⟩) 18 18)/\w'=((w.alloc (xi #[xj ⟨#[97]⟩,xj ⟨#[98]⟩] 9)).alloc (xi #[xj ⟨#[99]⟩] 9)).alloc (xi (oK (some ⟨w.heap.size,0,none⟩) (some ⟨w.heap.size+1,0,none⟩)) 74):=by
 go_in;go_wp2;go_ret;trivial
def oD(u v:Nat->Bool):Nat->Nat->Bool
 |0,_=>false
 |c+1,i=>v i||(u i&&oD u v c (i+1))
def pO(u:Nat->Bool):Nat->Nat->Bool
 |0,_=>true
 |c+1,i=>u i&&pO u c (i+1)
def mC(k:Nat)(y:Bool)(u v:Nat->Bool)(i n:Nat):Bool:=
 if k=0 then y else if k=1 then true else if k=2 then false else if k=3 then decide (n<i) else if k=4 then !u i
 else if k=5 then decide (i+1<=n)&&u (i+1) else if k=6 then decide (n<i+1)||u (i+1)
 else if k=7 then oD (fun _=>true) u (n+1 - i) i else if k=8 then pO u (n+1 - i) i else if k=9 then oD u v (n+1 - i) i
 else if k=10 then u i&&v i else if k=11 then u i||v i else !u i||v i
def jQ(n:Nat)(y:ByteArray->Nat->Bool):Fm->Nat->Bool
 | .nil,_=>true
 | .node _ _ a l r,i=>mC a.1 (y a.2.1 i) (jQ n y l) (jQ n y r) i n
structure Nd where
 k:Nat
 a:Int
 b:Int
 t:Int
def kY(s:ByteArray):Nat->List Tk->Int->Int
 |_,[],x=>x
 |i,t::r,x=>kY s (i+1) r (if t.s.toList=s.toList then (i:Int) else x)
def gJ(al:List Tk):Fm->List Nd->List Nd × Int
 | .nil,L=>(L, -1)
 | .node _ _ a l r,L=>
  ((gJ al r (gJ al l L).1).1++[⟨a.1,(gJ al l L).2,(gJ al r (gJ al l L).1).2,if a.1=0 then kY a.2.1 0 al (-1) else -1⟩],((gJ al r (gJ al l L).1).1.length:Int))
def rowAt(R:List (Nat->Bool))(k:Int):Nat->Bool:=if k<0 then fun _=>true else (R[k.toNat]?).getD (fun _=>true)
def o8(n:Nat)(z:Int->Nat->Bool)(R:List (Nat->Bool))(d:Nd):Nat->Bool:=fun i=>mC d.k (z d.t i) (rowAt R d.a) (rowAt R d.b) i n
def iM(n:Nat)(z:Int->Nat->Bool)(L:List Nd):List (Nat->Bool):=L.foldl (fun R d=>R++[o8 n z R d]) []
theorem kZ(n:Nat)(z:Int->Nat->Bool)(L:List Nd)(d:Nd):iM n z (L++[d])=iM n z L++[o8 n z (iM n z L) d]:=by
 unfold iM;simp
theorem sZ(n:Nat)(z:Int->Nat->Bool): ∀(L:List Nd) (R:List (Nat->Bool)),∃S,L.foldl (fun R d=>R++[o8 n z R d]) R=R++S/\S.length=L.length
 |[],R=>⟨[],zp,rfl⟩
 |d::L,R=>by
  obtain⟨S,h1,h2⟩:=sZ n z L (R++[o8 n z R d]);simp_all
theorem mE(n:Nat)(z:Int->Nat->Bool)(L:List Nd):(iM n z L).length=L.length:=by
 obtain⟨S,h1,h2⟩:=sZ n z L [];unfold iM;simp_all
theorem ze(n:Nat)(z:Int->Nat->Bool)(L M:List Nd): ∃S,iM n z (L++M)=iM n z L++S:=by
 unfold iM;rw[List.foldl_append];obtain⟨S,h1,_⟩:=sZ n z M (L.foldl (fun R d=>R++[o8 n z R d]) []);simp_all
theorem y7{R S:List (Nat->Bool)}{k:Int}(h:k<R.length):rowAt (R++S) k=rowAt R k:=by
 unfold rowAt
 split
 ·rfl
 rw[List.getElem?_append_left zo]
theorem og(al:List Tk): ∀(f:Fm) (L:List Nd),(∃M,(gJ al f L).1=L++M)/\(gJ al f L).2<((gJ al f L).1.length:Int)
 | .nil,L=>⟨⟨[],by simp[gJ]⟩,by show(-1:Int)<_;omega⟩
 | .node _ _ a l r,L=>by
  obtain⟨⟨I,h1⟩,_⟩:=og al l L;obtain⟨⟨M2,h2⟩,_⟩:=og al r (gJ al l L).1;refine⟨⟨I++(M2++[⟨a.1,(gJ al l L).2,(gJ al r (gJ al l L).1).2,if a.1=0 then kY a.2.1 0 al (-1) else -1⟩]), ?_⟩, ?_⟩
  ·rw[gJ];simp_all
  rw[gJ];show((gJ al r (gJ al l L).1).1.length:Int)<_;simp;omega
def Nm(P:ByteArray->Prop):Fm->Prop
 | .nil=>True
 | .node _ _ a l r=>(a.1=0->P a.2.1)/\Nm P l/\Nm P r
theorem Lq{k:Nat}(h:k≠0){y:Bool}{v:Nat->Bool}:mC k y u v i n=mC k y' u v i n:=by
 unfold mC;rw[if_neg h,if_neg h]
theorem uY(al:List Tk)(n:Nat)(y:ByteArray->Nat->Bool)(z:Int->Nat->Bool): ∀(f:Fm) (L:List Nd),Nm (fun s=> ∀i,z (kY s 0 al (-1)) i=y s i) f->
  rowAt (iM n z (gJ al f L).1) (gJ al f L).2=jQ n y f
 | .nil,L,_=>by
  rfl
 | .node _ _ a l r,L,⟨ha,hl,hr⟩=>by
  have h1:=uY al n y z l L hl;have R:=uY al n y z r (gJ al l L).1 hr;obtain⟨_,g1⟩:=og al l L;obtain⟨⟨M2,I⟩,g2⟩:=og al r (gJ al l L).1;obtain⟨S2,U⟩:=ze n z (gJ al l L).1 M2;rw[gJ];show rowAt (iM n z ((gJ al r (gJ al l L).1).1++[_])) ((gJ al r (gJ al l L).1).1.length:Int)=_;rw[kZ];have J:rowAt (iM n z (gJ al r (gJ al l L).1).1) (gJ al l L).2=jQ n y l:=by
   rw[I,U,y7 (by rw[mE];omega)];omega
  unfold rowAt;rw[if_neg zo,show((gJ al r (gJ al l L).1).1.length:Int).toNat=(iM n z (gJ al r (gJ al l L).1).1).length by rw[mE];omega,List.getElem?_append_right (Mr _),Nat.sub_self];show o8 n z _ _=_;funext i;unfold o8;rw[J,R];show mC a.1 _ _ _ i n=mC a.1 _ _ _ i n;by_cases hk:a.1=0
  ·simp_all
  exact Lq hk
theorem Aw(u v:Nat->Bool)(i n:Nat):oD u v (n+1 - i) i=(decide (i<=n)&&(v i||(u i&&oD u v (n+1 - (i+1)) (i+1)))):=by
 by_cases h:i<=n
 ·rw[show n+1 - i=(n+1 - (i+1))+1 from zo,oD,decide_eq_true h,Bool.true_and]
 rw[show n+1 - i=0 from zo,oD,decide_eq_false h,Bool.false_and]
theorem Gl(u:Nat->Bool)(i n:Nat):pO u (n+1 - i) i=(!decide (i<=n)||(u i&&pO u (n+1 - (i+1)) (i+1))):=by
 by_cases h:i<=n
 ·rw[show n+1 - i=(n+1 - (i+1))+1 from zo,pO,decide_eq_true h];rfl
 rw[show n+1 - i=0 from zo,pO,decide_eq_false h];rfl
theorem vy(k:Nat)(y:Nat->Bool)(u v:Nat->Bool)(i n:Nat)(hk:k<=12):
  mC k (decide (i<=n)&&y i) u v i n=jd k (decide (i<=n)) (decide (i+1<=n)) (y i) (u i) (v i) (u (i+1)) (mC k (decide (i+1<=n)&&y (i+1)) u v (i+1) n):=by
 have h:k=0\/k=1\/k=2\/k=3\/k=4\/k=5\/k=6\/k=7\/k=8\/k=9\/k=10\/k=11\/k=12:=zo;rcases h with rfl|rfl|rfl|rfl|rfl|rfl|rfl|rfl|rfl|rfl|rfl|rfl|rfl
 ·rfl
 ·rfl
 ·rfl
 ·show decide (n<i)= !decide (i<=n);by_cases h:i<=n
  ·simp_all
  simp_all
 ·rfl
 ·rfl
 ·show(decide (n<i+1)||u (i+1))=(!decide (i+1<=n)||u (i+1));by_cases h:i+1<=n
  ·rw[decide_eq_true h,decide_eq_false (show ¬ n<i+1 from zo)];rfl
  simp_all
 ·show oD (fun _=>true) u (n+1 - i) i=_;rw[Aw,Bool.true_and];rfl
 ·show pO u (n+1 - i) i=_;rw[Gl];rfl
 ·show oD u v (n+1 - i) i=_;rw[Aw];rfl
 ·rfl
 ·rfl
 rfl
def oj(s:ByteArray):Nat->List Tk->Int
 |_,[]=> -1
 |i,t::r=>if t.s.toList=s.toList then (i:Int) else oj s (i+1) r
theorem tp(s:ByteArray): ∀(i:Nat) (l:List Tk),(iH l s=true/\ ∃(j:Nat) (t:Tk),l[j]? =some t/\t.s.toList=s.toList/\oj s i l=((i+j:Nat):Int))\/(iH l s=false/\oj s i l= -1)
 |i,[]=>Mt ⟨rfl,rfl⟩
 |i,t::r=>by
  by_cases h:t.s.toList=s.toList
  ·refine Mu ⟨by rw[iH,if_pos h],0,t,rfl,h, ?_⟩;rw[oj,if_pos h];rfl
  rw[iH,if_neg h,oj,if_neg h];rcases tp s (i+1) r with⟨h1,j,u,h2,h3,h4⟩|h1
  ·exact Mu ⟨h1,j+1,u,zv,h3,zo⟩
  simp_all
theorem rX(s:ByteArray): ∀(i:Nat) (l:List Tk) (x:Int),(iH l s=true/\ ∃(j:Nat) (t:Tk),l[j]? =some t/\t.s.toList=s.toList/\kY s i l x=((i+j:Nat):Int))\/(iH l s=false/\kY s i l x=x)
 |i,[],x=>Mt ⟨rfl,rfl⟩
 |i,t::r,x=>by
  rw[kY];by_cases h:t.s.toList=s.toList
  ·rw[if_pos h,iH,if_pos h];rcases rX s (i+1) r (i:Int) with⟨_,j,u,h2,h3,h4⟩|⟨_,h1⟩
   ·exact Mu ⟨rfl,j+1,u,zv,h3,zo⟩
   exact Mu ⟨rfl,0,t,rfl,h,zo⟩
  rw[if_neg h,iH,if_neg h];rcases rX s (i+1) r x with⟨h1,j,u,h2,h3,h4⟩|h1
  ·exact Mu ⟨h1,j+1,u,zv,h3,zo⟩
  simp_all
def Aa(al:List Tk):Prop:= ∀(i j:Nat) (t u:Tk),al[i]? =some t->al[j]? =some u->t.s.toList=u.s.toList->i=j
theorem At{a:Tk}: ∀{l:List Tk},nu l a=[]-> ∀t∈l,t.s.toList≠a.s.toList
 |[],_,t,ht=>(MD ht).elim
 |x::r,h,t,ht=>by
  rw[nu] at h;obtain⟨h1,I⟩:=List.append_eq_nil_iff.1 h;rcases List.mem_cons.1 ht with rfl|ht
  ·simp_all
  exact At I t ht
theorem yB: ∀{i:Nat} {l:List Tk},lL al i l=[]-> ∀(j:Nat) (a:Tk),l[j]? =some a->nu (al.take (i+j)) a=[]/\a.s.size<=8/\i+j<6
 |i,[],_,j,a,h=>zv
 |i,x::r,h,j,a,hj=>by
  rw[lL,xP] at h;obtain⟨I,J⟩:=List.append_eq_nil_iff.1 h;obtain⟨R,U⟩:=List.append_eq_nil_iff.1 I;obtain⟨h5,h6⟩:=List.append_eq_nil_iff.1 U;cases j with
  |zero=>
   rw[List.getElem?_cons_zero] at hj;cases hj;refine⟨h5, ?_, ?_⟩
   ·unfold jq at R;simp_all
   simp_all
  |succ j=>
   rw[List.getElem?_cons_succ] at hj;have:=yB J j a hj;rw[show i+(j+1)=i+1+j from zo];omega
theorem Jf(h:lL al 0 al=[]):Aa al:=by
 have key: ∀(i j:Nat) (t u:Tk),i<j->al[i]? =some t->al[j]? =some u->t.s.toList≠u.s.toList:=by
  intro i j t u hij hi I;obtain⟨J,_⟩:=yB h j u I;rw[MH] at J;refine At J t ?_;have:(al.take j)[i]? =some t:=za;exact List.mem_of_getElem? this
 intro i j t u hi I he;rcases Nat.lt_trichotomy i j with hlt|heq|hgt
 ·exact absurd he (key i j t u hlt hi I)
 ·omega
 exact absurd he.symm (key j i u t hgt I hi)
theorem KO(I:Aa al){x s:ByteArray}(hx:iH al x=true)(hs:iH al s=true):(oj x 0 al==kY s 0 al (-1))=(x.toList==s.toList):=by
 rcases tp x 0 al with⟨_,i,t,h1,h2,h3⟩|⟨h,_⟩
 ·rcases rX s 0 al (-1) with⟨_,j,u,g1,g2,g3⟩|⟨h,_⟩
  ·rw[h3,g3,MH,MH];by_cases e:x.toList=s.toList
   ·have:=I i j t u h1 g1 za;simp_all
   have:i≠j:=by
    intro hij;simp_all
   rw[beq_eq_false_iff_ne.2 e];simp;omega
  simp_all
 simp_all
def AA(i:Fin 5):Nat:=if i=0 then 5 else 3
structure NS (w:World) (nb B:Nat) (v:Fin 5->Value) (x:Fin 5->List Value):Prop where
 blk:w.heap[nb]? =some (xi #[v 0,v 1,v 2,v 3,v 4] 294 (0,0))
 own: ∀i,w.ownsRow B (AA i) 1 (v i) (x i).length (x i)
 dis: ∀i j,i≠j-> ∀k,(v i).ownBlock=some k->(v j).ownBlock≠some k
 low:B<=w.heap.size
def nM{α:Type}(f:Fin 5->α)(i:Fin 5)(a:α):Fin 5->α:=fun j=>if j=i then a else f j
theorem qt(f:Fin 5->α)(i:Fin 5)(a:α):nM f i a i=a:=if_pos rfl
theorem lW{f:Fin 5->α}{i j:Fin 5}{a:α}(h:j≠i):nM f i a j=f j:=if_neg h
theorem NS.later{x:Fin 5->List Value}(h:NS w nb B v x)(I:Below w.heap.size w w'):NS w' nb B v x:=
 ⟨(I.block _ (fh h.blk)).trans h.blk,fun i=>fL (h.own i) I,h.dis,Nat.le_trans h.low I.size⟩
structure NF (nb B:Nat) (w w':World):Prop where
 kt:KT w w'
 os:w'.os=w.os
 tape:w'.tape=w.tape
 output:w'.output=w.output
 size:w.heap.size<=w'.heap.size
 low: ∀b,b<B->b≠nb->w'.heap[b]? =w.heap[b]?
theorem NF.trans{a b c:World}(h:NF nb B a b)(k:NF nb B b c):NF nb B a c:=
 ⟨h.kt.trans k.kt,k.os.trans h.os,k.tape.trans h.tape,k.output.trans h.output,Nat.le_trans h.size k.size,fun x I J=>(k.low x I J).trans (h.low x I J)⟩
theorem NF.refl(nb B:Nat)(w:World):NF nb B w w:=⟨KT.refl w,rfl,rfl,rfl,Mr _,fun _ _ _=>rfl⟩
theorem NF.below(h:Below w.heap.size w w')(hB:B<=w.heap.size):NF nb B w w':=
 ⟨KT.below h,h.os,h.tape,h.output,h.size,fun b h1 _=>h.block b zo⟩
theorem NS.app{x:Fin 5->List Value}(h:NS w nb B v x)(i:Fin 5)(u:Value){g cap:Nat}(ho:w2.ownsRow B (AA i) 1 (xa (some ⟨g,0,none⟩) ((x i).length+1) cap) ((x i).length+1) (x i++[u]))(hg:w.grownBy w2 (v i).ownBlock)(ad:(v i).ownBlock=some g\/g=w.heap.size):
  NS (w2.setCell ⟨nb,i.val,none⟩ (xa (some ⟨g,0,none⟩) ((x i).length+1) cap)) nb B (nM v i (xa (some ⟨g,0,none⟩) ((x i).length+1) cap)) (nM x i (x i++[u]))/\NF nb B w (w2.setCell ⟨nb,i.val,none⟩ (xa (some ⟨g,0,none⟩) ((x i).length+1) cap)):=by
 have aa: ∀i:Fin 5,294≠AA i:=zd;have U:=(hg.block nb (fh h.blk) (fun e=>gp (h.own i) e.symm h.blk (aa i))).trans h.blk;have ae:(xa (some ⟨g,0,none⟩) ((x i).length+1) cap).ownBlock=some g:=rfl;refine⟨⟨?_,fun j=> ?_,fun a b R k J I=> ?_, ?_⟩, ?_⟩
 ·have:=fj U i.val (xa (some ⟨g,0,none⟩) ((x i).length+1) cap);rw[this]
  match i with
  |0=>rfl
  |1=>rfl
  |2=>rfl
  |3=>rfl
  |4=>rfl
 ·by_cases hj:j=i
  ·subst hj;rw[qt,qt,List.length_append];exact gq ho (fK _ _ _ _) (Mt (fun e=>gp ho e U (aa j)))
  rw[lW hj,lW hj];have J:(v j).ownBlock=none\/(v j).ownBlock≠(v i).ownBlock:=by
   cases hk:(v j).ownBlock with
   |none=>simp
   |some k=>exact Mt (fun e=>h.dis j i hj k hk e.symm)
  have I:=gq (h.own j) hg J;exact gq I (fK _ _ _ _) (Mt (fun e=>gp I e U (aa j)))
 ·by_cases ha:a=i
  ·subst ha;rw[qt] at J;rw[lW (fun e=>R e.symm)] at I;rw[ae] at J;cases J;rcases ad with e|e
   ·exact h.dis a b R g e I
   have:=(gG (h.own b) _ I).2;omega
  rw[lW ha] at J;by_cases hb:b=i
  ·subst hb;rw[qt,ae] at I;cases I;rcases ad with e|e
   ·exact h.dis a b R g J e
   have:=(gG (h.own a) _ J).2;omega
  rw[lW hb] at I;exact h.dis a b R k J I
 ·have J:=h.low;have I:=hg.size;simp[World.setCell];omega
 have k1:KT w w2:=by
  cases hk:(v i).ownBlock with
  |none=>rw[hk] at hg;exact KT.grownNone hg
  |some k=>
   rw[hk] at hg;have ai:TyAt w k (AA i):=by
    obtain⟨_,I|⟨g',cap',cur',aj,_,ag,_⟩⟩:=h.own i
    ·rw[I.1] at hk;cases hk
    have e:some g'=some k:=by rw[aj] at hk;exact hk
    cases e;exact⟨_,_,ag⟩
   exact KT.grown hg ai (by unfold AA;split<;>decide) (by unfold AA;split<;>decide)
 refine⟨k1.trans (KT.set _ _ ⟨_,_,U⟩ zp zp),hg.os,hg.tape,hg.output,by have:=hg.size;simp_all,fun b J I=> ?_⟩;refine(Below.heap_setCell _ _ _ _ zo).trans (hg.block b (by have:=h.low;omega) (fun e=> ?_));have:=(gG (h.own i) b e.symm).1;omega
def lh(s:ByteArray):Nat->Nat->List Tk
 |0,_=>[]
 |n+1,i=>let t:=gT s (gP gZ s i);if t.k=0 then [t] else t::lh s n (t.p+t.s.size)
theorem oI(s:ByteArray)(n i:Nat)(h:(gT s (gP gZ s i)).k=0):lh s (n+1) i=[gT s (gP gZ s i)]:=by
 rw[lh];simp_all
theorem pE(s:ByteArray)(n i:Nat)(h:(gT s (gP gZ s i)).k≠0):lh s (n+1) i=gT s (gP gZ s i)::lh s n ((gT s (gP gZ s i)).p+(gT s (gP gZ s i)).s.size):=by
 rw[lh];simp_all
theorem rY(s:ByteArray)(i:Nat)(h:i<=s.size)(J:(gT s (gP gZ s i)).k≠0):
  i+1<=(gT s (gP gZ s i)).p+(gT s (gP gZ s i)).s.size/\(gT s (gP gZ s i)).p+(gT s (gP gZ s i)).s.size<=s.size:=by
 have h0:=nL gZ s i;have I:=l8 gZ s i h;have h2:=pD s _ I;have h3:=um s _ I;have h4:=qA s I J;omega
def cut:List Tk->List Tk
 |[]=>[]
 |t::r=>if t.k<=1 then [t] else t::cut r
theorem Ar(s:ByteArray): ∀n i,cut (lh s n i)=jg s n i
 |0,_=>rfl
 |n+1,i=>by
  by_cases h:(gT s (gP gZ s i)).k<=1
  ·rw[lI s n i h];by_cases h0:(gT s (gP gZ s i)).k=0
   ·rw[oI s n i h0,cut,if_pos h]
   rw[pE s n i h0,cut,if_pos h]
  rw[nA s n i h,pE s n i zo,cut,if_neg h,Ar s n]
def FE:List Tk->Prop
 |[]=>False
 |[t]=>t.k=0
 |t::r=>t.k≠0/\FE r
theorem FE.ne{l:List Tk}(h:FE l):l≠[]:=by rintro rfl;exact h
theorem FE.tail(h:FE (t::r))(I:t.k≠0):FE r:=by
 cases r with
 |nil=>exact absurd (show t.k=0 from h) I
 |cons u r=>exact h.2
theorem CI(s:ByteArray): ∀n i,i<=s.size->s.size<n+i->FE (lh s n i)
 |0,i,h,h'=>zo
 |n+1,i,h,h'=>by
  by_cases hk:(gT s (gP gZ s i)).k=0
  ·rw[oI s n i hk];exact hk
  rw[pE s n i hk];have I:=rY s i h hk;have:=CI s n _ I.2 zo;cases hr:lh s n ((gT s (gP gZ s i)).p+(gT s (gP gZ s i)).s.size) with
  |nil=>rw[hr] at this;exact absurd this id
  |cons u r=>rw[hr] at this;exact⟨hk,this⟩
theorem AU(s:ByteArray): ∀n i,i<=s.size->(lh s n i).length+i<=s.size+1
 |0,i,h=>by simp[lh];omega
 |n+1,i,h=>by
  by_cases hk:(gT s (gP gZ s i)).k=0
  ·rw[oI s n i hk];simp;omega
  rw[pE s n i hk];have I:=rY s i h hk;have:=AU s n _ I.2;simp;omega
def Gi(m:Nat)(t:Tk):Prop:=qI t/\t.s.size<=m/\t.p<=m
theorem AR(s:ByteArray)(h:j<=s.size):Gi s.size (gT s j):=
 ⟨vt s j,by have:=um s j h;omega,by rw[pD s j h];omega⟩
theorem CJ(s:ByteArray): ∀n i,i<=s.size-> ∀t∈lh s n i,Gi s.size t
 |0,_,_,t,h=>by simp[lh] at h
 |n+1,i,hi,t,h=>by
  by_cases hk:(gT s (gP gZ s i)).k=0
  ·rw[oI s n i hk] at h;simp at h;subst h;exact AR s (l8 gZ s i hi)
  rw[pE s n i hk] at h;rcases List.mem_cons.1 h with rfl|h
  ·exact AR s (l8 gZ s i hi)
  exact CJ s n _ (rY s i hi hk).2 t h
theorem Aq: ∀{l:List Tk},FE l->Ends (cut l)
 |[],h=>absurd h id
 |[t],h=>by rw[cut,if_pos (by have:t.k=0:=h;omega)];show t.k<=1;have:t.k=0:=h;omega
 |t::u::r,h=>by
  by_cases hk:t.k<=1
  ·rw[cut,if_pos hk];exact hk
  rw[cut,if_neg hk];have:=Aq (l:=u::r) h.2;cases hc:cut (u::r) with
  |nil=>rw[hc] at this;exact absurd this id
  |cons a b=>rw[hc] at this;exact⟨zo,this⟩
theorem FE.drop: ∀{l:List Tk} (i:Nat),FE l->i<l.length->FE (l.drop i)
 |[],_,h,_=>absurd h id
 |[t],0,h,_=>h
 |[t],i+1,h,hi=>by simp at hi
 |t::u::r,0,h,_=>h
 |t::u::r,i+1,h,hi=>by
  rw[List.drop_succ_cons];exact FE.drop (l:=u::r) i h.2 za
def PL(L:List Tk)(i:Nat):List Tk:=cut (L.drop i)
theorem ue(h:PL L i=t::r): ∃I,L.drop i=t::I:=by
 unfold PL at h;cases hd:L.drop i with
 |nil=>rw[hd] at h;cases h
 |cons u I=>
  rw[hd,cut] at h
  split at h
  ·simp_all
  simp_all
theorem iL(h:PL L i=t::r)(hk:2<=t.k):PL L (i+1)=r:=by
 unfold PL at h|-;cases hd:L.drop i with
 |nil=>rw[hd] at h;cases h
 |cons u r'=>
  rw[hd,cut] at h
  split at h
  ·cases h;omega
  cases h;have:L.drop (i+1)=r':=by
   have:=congrArg List.tail hd;simpa using this
  rw[this]
theorem IY(h:PL L i=t::r):i<L.length:=by
 obtain⟨r',I⟩:=ue h;rcases Nat.lt_or_ge i L.length with hi|hi
 ·omega
 rw[Ms hi] at I;cases I
theorem kS(h:FE L)(hi:i<L.length):Ends (PL L i):=Aq (h.drop i hi)
theorem kT(h:FE L)(hi:i<L.length): ∃t r,PL L i=t::r:=by
 cases hp:PL L i with
 |nil=>have:=(kS h hi);rw[hp] at this;trivial
 |cons t r=>simp
theorem FE.nextLt(h:FE L)(J:PL L i=t::r)(hk:t.k≠0):i+1<L.length:=by
 obtain⟨r',hr⟩:=ue J;have I:=h.drop i (IY J);rw[hr] at I;have R:=(I.tail hk).ne;have U:=congrArg ME hr;have h4:=List.length_pos_iff.2 R;simp at U;omega
theorem FE.last(h:FE L): ∃e,L.drop (L.length - 1)=[e]/\e.k=0:=by
 have h1:=List.length_pos_iff.2 h.ne;have I:=h.drop (L.length - 1) zo;cases hd:L.drop (L.length - 1) with
 |nil=>rw[hd] at I;trivial
 |cons e r=>
  have J:=congrArg ME hd;simp at J;have:r=[]:=List.length_eq_zero_iff.1 zo;subst this;rw[hd] at I;exact⟨e,rfl,I⟩
theorem mF(h:FE L): ∃e,PL L (L.length - 1)=[e]/\e.k=0:=by
 obtain⟨e,I,J⟩:=h.last;refine⟨e, ?_,J⟩;unfold PL;rw[I,cut,if_pos zo]
theorem sW(u v:Nat->Bool): ∀(c i:Nat),oD u v c (i+1)=oD (fun j=>u (j+1)) (fun j=>v (j+1)) c i
 |0,_=>rfl
 |c+1,i=>by rw[oD,oD,sW u v c (i+1)]
theorem yq(u:Nat->Bool): ∀(c i:Nat),pO u c (i+1)=pO (fun j=>u (j+1)) c i
 |0,_=>rfl
 |c+1,i=>by rw[pO,pO,yq u c (i+1)]
theorem yS(k:Nat)(y:Bool)(u v:Nat->Bool)(i n:Nat):mC k y u v (i+1) (n+1)=mC k y (fun j=>u (j+1)) (fun j=>v (j+1)) i n:=by
 unfold mC;rw[sW,sW,yq,show n+1+1 - (i+1)=n+1 - i from zo];simp
end Go.Proofs.YtidakhhekofkoaaGreatDoor
