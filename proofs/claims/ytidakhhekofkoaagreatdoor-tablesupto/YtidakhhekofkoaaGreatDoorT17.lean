import Derived.Test.YtidakhhekofkoaaGreatDoorT16
import Derived.DataShut
import Derived.Laws.AppendOwnNone
set_option linter.all false
set_option maxHeartbeats 60000000
set_option maxRecDepth 100000
namespace Go.Proofs.YtidakhhekofkoaaGreatDoor
open Go.Proofs.Tryz
open Go.RowKit Go.Deep
open Value renaming slice -> xa, int -> xd, string -> xj, pointer -> xk, bool -> xn
open IntKind renaming i64 -> xh
open Obj renaming cells -> xi
open Ending renaming returned -> xm
open Nat renaming lt_of_lt_of_le -> Mr, zero_le -> MJ
open List renaming getElem?_eq_getElem -> Ms, length_append -> Mt, ext_getElem -> Mu, getElem?_append_right -> Mw, range -> Mx, append_assoc -> My, getElem_map -> Mz, mem_append_right -> MC, replicate -> MD, getElem?_take_of_lt -> ME, getElem_set -> MF, cons_append -> MG, length_cons -> MH, length_set -> MI, mem_append_left -> MK, getElem_range -> MM, length_take -> MP, getElem_mem -> MQ, append_nil -> MT, length_map -> MU
open Go.RowKit.Below renaming heap_setCell -> ML
open Lib renaming TabIs -> MN, pow10Tab -> MO
open Option renaming getD_some -> MR
variable {zq:Prop}
variable {V b:List Bool} {w wr W W' w':World} {nb B n A x a i N c base cap g':Nat} {L:List Nd} {m:Nat × Nat} {pe:Bool} {t:Tb} {rb ro rc:Nat->Nat} {D:DataW Unit} {v X v':Value} {σ τ:Type} {p:Bool × List Bool} {o:Option Addr} {q:List Nat}
theorem zm1(h:zq:=by
 as_aux_lemma=>((first|have HX2:=AX.bit1 HX HBK|have HX2:=AX.bit0 HX HBK);clear HBK HX;simp[jP] at e0;(try simp only[Bool.false_eq_true,reduceIte] at cu);(try simp only[Bool.false_eq_true,reduceIte] at cv);(try simp only[Bool.false_eq_true,reduceIte] at hua);(try simp only[Bool.false_eq_true,reduceIte] at hx);go_wp2;go_roundw;(case rel=>exact⟨k+1,zo,by go_num,HX2⟩);(case measure=>simp[intOf];omega))
 ):zq:=h
theorem zm57(h:zq:=by
 rw[mW,lM];refine⟨?_,(Below.heap_alloc _ _ _ zs).trans ((Below.heap_alloc _ _ _ zp).trans (ft _ _)),(Below.heap_alloc _ _ _ zp).trans (fk _ _ _ zp),(gz.alloc zp _).alloc zs _⟩;rw[sT];exact fk _ _ _ zp
 ):zq:=h
theorem zm66(h:zq:=by
 intro j x hx;rw[List.getElem?_replicate] at hx
 split at hx
 ·rename_i hj
  cases hx;obtain⟨o,n',c',h1,_,h3⟩:=h;cases h1;obtain⟨b,h4,⟨_,_,h5⟩,h6⟩:=h3 j zo;cases h4;exact⟨g,0,rfl,fh h5,za⟩
 trivial
 ):zq:=h
theorem lM(P:List Bool)(i m:Bool)(a:Int)(L:List Nd):(j7 P i m a L).length=L.length:=by
 induction L using oo with
 |h0=>rfl
 |h1 L d ih=>rw[oL];unfold qj;rw[Mt,ih,Mt];rfl
theorem Hz(P:List Bool)(i m:Bool)(a:Int)(L M:List Nd): ∃S,j7 P i m a (L++M)=j7 P i m a L++S:=by
 induction M using oo with
 |h0=>exact⟨[],by rw[MT,MT]⟩
 |h1 M d ih=>
  obtain⟨S,I⟩:=ih;rw[<-My,oL,I];unfold qj;exact⟨_,My _ _ _⟩
theorem CV{P:List Bool}{i m:Bool}{a:Int}{L:List Nd}{k:Nat}{d:Nd}(h:L[k]? =some d)(R:d.a<k)(U:d.b<k):
  (j7 P i m a L)[k]? =some (jd d.k i m (decide (d.t=a)) (kh (j7 P i m a L) d.a) (kh (j7 P i m a L) d.b) (kh P d.a) (kh P k)):=by
 have hk:=(List.getElem?_eq_some_iff.1 h).1;have e:L=(L.take k++[d])++L.drop (k+1):=by
  rw[My,List.singleton_append]
  conv=>lhs;rw[<-List.take_append_drop k L]
  rw[List.drop_eq_getElem_cons hk,(List.getElem?_eq_some_iff.1 h).2]
 obtain⟨S,I⟩:=Hz P i m a (L.take k++[d]) (L.drop (k+1));rw[<-e,oL] at I;have J:(j7 P i m a (L.take k)).length=k:=by rw[lM,MP];omega
 unfold qj at I;rw[J] at I;rw[I,My,sS (by rw[J];exact R),sS (by rw[J];exact U),Mw zo,J,Nat.sub_self];rfl
theorem kW{k:Nat}{x:Bool}(h:V[k]? =some x):kh V (k:Int)=x:=by
 unfold kh;rw[if_neg zo,Int.toNat_natCast,h];rfl
theorem NSx.ex{T:List Int}(h:NSx w nb B L T): ∃p0 c0 p1 c1 p2 c2 p3 c3 p4 c4,w.heap[nb]? =some (xi #[xa p0 L.length c0,xa p1 L.length c1,xa p2 L.length c2,xa p3 L.length c3,xa p4 T.length c4] 294 (0,0))/\
  (∀(k:Nat) (d:Nd),L[k]? =some d-> ∃R g1 g2 g3,p0=some ⟨R,0,none⟩/\p1=some ⟨g1,0,none⟩/\p2=some ⟨g2,0,none⟩/\p3=some ⟨g3,0,none⟩/\R<w.heap.size/\g1<w.heap.size/\g2<w.heap.size/\g3<w.heap.size/\
   w.cell? ⟨R,k,none⟩=some (xd .u8 (jP d.k))/\w.cell? ⟨g1,k,none⟩=some (xd xh d.a)/\w.cell? ⟨g2,k,none⟩=some (xd xh d.b)/\w.cell? ⟨g3,k,none⟩=some (xd xh d.t))/\
  ∀(k:Nat) (t:Int),T[k]? =some t-> ∃U,p4=some ⟨U,0,none⟩/\U<w.heap.size/\w.cell? ⟨U,k,none⟩=some (xd xh t):=by
 obtain⟨v,J⟩:=h;have o0:=J.own 0;have o1:=J.own 1;have o2:=J.own 2;have o3:=J.own 3;have o4:=J.own 4;have l0:(jI L T 0).length=L.length:=by simp[jI]
 have l1:(jI L T 1).length=L.length:=by simp[jI]
 have l2:(jI L T 2).length=L.length:=by simp[jI]
 have l3:(jI L T 3).length=L.length:=by simp[jI]
 have l4:(jI L T 4).length=T.length:=by simp[jI]
 rw[l0] at o0;rw[l1] at o1;rw[l2] at o2;rw[l3] at o3;rw[l4] at o4;obtain⟨p0,c0,e0⟩:=iw o0;obtain⟨p1,c1,e1⟩:=iw o1;obtain⟨p2,c2,e2⟩:=iw o2;obtain⟨p3,c3,e3⟩:=iw o3;obtain⟨p4,c4,e4⟩:=iw o4;rw[e0] at o0;rw[e1] at o1;rw[e2] at o2;rw[e3] at o3;rw[e4] at o4;refine⟨p0,c0,p1,c1,p2,c2,p3,c3,p4,c4,by rw[<-e0,<-e1,<-e2,<-e3,<-e4];exact J.blk,fun k d hd=> ?_,fun k t ht=> ?_⟩
 ·have I:=(List.getElem?_eq_some_iff.1 hd).1;obtain⟨R,rfl,h0,x0⟩:=hD o0 I;obtain⟨g1,rfl,h1,x1⟩:=hD o1 I;obtain⟨g2,rfl,h2,x2⟩:=hD o2 I;obtain⟨g3,rfl,h3,x3⟩:=hD o3 I;exact⟨R,g1,g2,g3,rfl,rfl,rfl,rfl,h0,h1,h2,h3,by rw[x0];simp[jI,hd],by rw[x1];simp[jI,hd],by rw[x2];simp[jI,hd],by rw[x3];simp[jI,hd]⟩
 have I:=(List.getElem?_eq_some_iff.1 ht).1;obtain⟨U,rfl,h4,x4⟩:=hD o4 I;exact⟨U,rfl,h4,by rw[x4];simp[jI,ht]⟩
theorem rL(w:World){g:Nat}(n:Nat){ty:Nat}(h:w.heap[g]? =some (xi (o7 b) ty m))(hn:b.length=n):
  (convert 51 9 (xa (some ⟨g,0,none⟩) n n)).run prog w= .ok (xj (gH b)) w:=by
 have:=run_convert_bytes_back (P:=prog) w 51 9 5 ⟨g,0,none⟩ n (b.map nk) underlying51 underlying5 underlying9 (fun j J=>by
  have I:j<b.length:=by simpa using J
  rw[Addr.add_lit,Nat.zero_add,cell_of_blk h,oh (Ms I)];simp)
 rw[MU,hn] at this;exact this
structure AX (w wr:World) (P:List Bool) (pe:Bool) (b:List Bool):Prop where
 blk:wr.heap[w.heap.size+2]? =some (xi (o7 b) 5 (0,0))
 box:wr.heap[w.heap.size]? =some (xi #[xj (gH P),xn pe] 302 (0,0))
 res:wr.heap[w.heap.size+1]? =some (xi #[xj ⟨#[]⟩,xn false] 302 (0,0))
 bel:Below w.heap.size w wr
theorem AX.set{P:List Bool}(h:AX w wr P pe b)(k:Nat)(x:Bool):AX w (wr.setCell ⟨w.heap.size+2,k,none⟩ (xd .u8 ((nk x).toNat:Int))) P pe (b.set k x):=by
 refine⟨?_, ?_, ?_, ?_⟩
 ·exact zm106
 ·exact(ML _ _ _ _ (by show w.heap.size≠w.heap.size+2;omega)).trans h.box
 ·exact(ML _ _ _ _ (by show w.heap.size+1≠w.heap.size+2;omega)).trans h.res
 exact h.bel.setCell (p:=⟨w.heap.size+2,k,none⟩) (by show _<=w.heap.size+2;omega) _
theorem AX.bits{P:List Bool}{k j:Nat}(h:AX w wr P pe (iu V k))(hV:V.length=n)(hk:k<=n)(J:j<k): ∃y:Bool,V[j]? =some y/\wr.cell? ⟨w.heap.size+2,j,none⟩=some (xd .u8 (if y=true then 1 else 0)):=by
 have I:j<V.length:=zo;refine⟨V[j],Ms I, ?_⟩;rw[cell_of_blk h.blk,oh (x:=V[j]) (by unfold iu;rw[List.getElem?_append_left (by rw[MP];omega),ME J];exact Ms I),pP]
theorem AX.slot{P:List Bool}{k:Nat}(h:AX w wr P pe (iu V k))(hV:V.length=n)(hk:k<n): ∃z,wr.cell? ⟨w.heap.size+2,k,none⟩=some z:=by
 have I:k<(iu V k).length:=by rw[mH zo];omega
 exact⟨_,(cell_of_blk h.blk k).trans (oh (Ms I))⟩
theorem AX.bit1{P:List Bool}{k:Nat}(h:Hid (AX w wr P pe (iu V k)))(I:Hid (V[k]? =some true)):Hid (AX w (wr.setCell ⟨w.heap.size+2,k,none⟩ (xd .u8 1)) P pe (iu V (k+1))):=by
 show AX _ _ _ _ _;rw[lX I.out];exact h.out.set k true
theorem AX.bit0{P:List Bool}{k:Nat}(h:Hid (AX w wr P pe (iu V k)))(I:Hid (V[k]? =some false)):Hid (AX w wr P pe (iu V (k+1))):=by
 show AX _ _ _ _ _;rw[uA I.out];exact h.out
def rm(t:Tb)(i a:Nat):Nat:=((t.nx[i]?.getD [])[a]?).getD 0
def oc(t:Tb)(i:Nat):Nat:=t.fl[i]?.getD 0
structure LF (W:World) (t:Tb) (A n ab a0 fb f0 nb n0:Nat) (rb ro rc:Nat->Nat):Prop where
 hA:t.acts.length=A
 hn:t.nx.length=n
 A6:A<=6
 A1:1<=A
 n1:1<=n
 n100:n<=100
 rt:RightT t
 act: ∀i s,t.acts[i]? =some s->W.cell? ⟨ab,a0+i,none⟩=some (xj s)
 fla: ∀i,i<n->W.cell? ⟨fb,f0+i,none⟩=some (xd xh (oc t i:Int))
 row: ∀i,i<n->W.cell? ⟨nb,n0+i,none⟩=some (xa (some ⟨rb i,ro i,none⟩) A (rc i))
 nxt: ∀i a,i<n->a<A->W.cell? ⟨rb i,ro i+a,none⟩=some (xd xh (rm t i a:Int))
 la:ab<W.heap.size
 lf:fb<W.heap.size
 ln:nb<W.heap.size
 lr: ∀i,i<n->rb i<W.heap.size
structure OnB (w W:World) (T:Array Value):Prop where
 b0:W.heap[w.heap.size]? =some (xi T 36 (0,0))
 bel:Below w.heap.size w W
theorem OnB.later{T:Array Value}(h:OnB w W T)(I:Below W.heap.size W W'):OnB w W' T:=
 ⟨(I.block _ (fh h.b0)).trans h.b0,h.bel.trans (I.mono h.bel.size)⟩
theorem OnB.start(w:World)(T:Array Value):OnB w (w.alloc (xi T 36)) T:=⟨ft _ _,gz⟩
theorem AL.put{T:Array Value}{L:List Bool}(h:AL w wr (w.heap.size+1) T L)(k:Nat)(x:Bool):AL w (wr.setCell ⟨w.heap.size+1,k,none⟩ (xn x)) (w.heap.size+1) T (L.set k x):=by
 refine⟨?_, ?_, ?_⟩
 ·have:=fj h.blk k (xn x);rw[yt] at this;omega
 ·exact zm155
 exact zm142
theorem AL.at{g:Nat}{T:Array Value}{L:List Bool}(h:AL w wr g T L){k:Nat}(hk:k<L.length):wr.cell? ⟨g,k,none⟩=some (xn (lv L k)):=by
 rw[cell_of_blk h.blk,pQ L k (lv L k) (by unfold lv;simp_all)]
theorem Jc(t:Tb)(i:Nat):(oc t i:Int).tmod 2=if uX t i then 1 else 0:=by
 unfold uX;rw[Int.tmod_eq_emod_of_nonneg zo];show((oc t i:Nat):Int)%2=if (oc t i%2==1)=true then 1 else 0;by_cases h:oc t i%2=1
 ·rw[if_pos za];omega
 rw[if_neg za];omega
structure ShT (t:Tb) (A n:Nat):Prop where
 hA:t.acts.length=A
 hn:t.nx.length=n
 hf:t.fl.length=n
 A1:1<=A
 A6:A<=6
 n1:1<=n
 n100:n<=100
 rs: ∀r∈t.nx,r.length=A/\ ∀x∈r,x<n
theorem ShT.step(h:ShT t A n)(hx:x<n)(ha:a<A): ∃r k,t.nx[x]? =some r/\r[a]? =some k/\k<n:=by
 have I:x<t.nx.length:=by rw[h.hn];omega
 obtain⟨h1,h2⟩:=h.rs t.nx[x] (MQ I);simp_all
theorem ShT.lt(h:ShT t A n)(J:x<n)(I:a<A):rm t x a<n:=by
 obtain⟨r,k,h1,h2,h3⟩:=h.step J I;unfold rm;simp_all
structure TbK (W:World) (t:Tb) (A n fb f0 nb n0:Nat) (rb ro rc:Nat->Nat):Prop where
 sh:ShT t A n
 fla: ∀i,i<n->W.cell? ⟨fb,f0+i,none⟩=some (xd xh (oc t i:Int))
 row: ∀i,i<n->W.cell? ⟨nb,n0+i,none⟩=some (xa (some ⟨rb i,ro i,none⟩) A (rc i))
 nxt: ∀i a,i<n->a<A->W.cell? ⟨rb i,ro i+a,none⟩=some (xd xh (rm t i a:Int))
 lf:fb<W.heap.size
 ln:nb<W.heap.size
 lr: ∀i,i<n->rb i<W.heap.size
theorem TbK.later{fb f0 n0:Nat}(h:TbK W t A n fb f0 nb n0 rb ro rc)(I:Below W.heap.size W W'):TbK W' t A n fb f0 nb n0 rb ro rc:=
 ⟨h.sh,fun i hi=>(bcell3 I _ _ h.lf).trans (h.fla i hi),fun i hi=>(bcell3 I _ _ h.ln).trans (h.row i hi),
  fun i a hi J=>(bcell3 I _ _ (h.lr i hi)).trans (h.nxt i a hi J),Mr h.lf I.size,Mr h.ln I.size,fun i hi=>Mr (h.lr i hi) I.size⟩
def jj(t:Tb)(L:List Bool)(i a:Nat):Bool:=lv L i||(((t.nx[i]?.getD []).take a).any (lv L))
theorem Ce(t:Tb)(L:List Bool)(i:Nat):jj t L i 0=lv L i:=by unfold jj;simp
theorem Cd(h:ShT t A n)(L:List Bool)(hi:i<n)(hl:i<L.length)(U:a<A):
  jj t L i (a+1)=(jj t L i a||lv (L.set i (jj t L i a)) (rm t i a)):=by
 obtain⟨r,k,J,R,h3⟩:=h.step hi U;have hx:rm t i a=k:=by unfold rm;simp_all
 have I:jj t L i (a+1)=(jj t L i a||lv L k):=by
  unfold jj;rw[J];simp only[MR];rw[List.take_add_one,R,Option.toList_some,List.any_append];simp only[List.any_cons,List.any_nil,Bool.or_false];rw[Bool.or_assoc]
 rw[I,hx,pZ];by_cases e:i=k
 ·subst e;rw[if_pos ⟨rfl,hl⟩];unfold jj;simp_all
 simp_all
theorem DA(h:ShT t A n)(L:List Bool)(hi:i<n):L.set i (jj t L i A)=ke t L i:=by
 unfold jj ke;have I:i<t.nx.length:=by rw[h.hn];omega
 have hr:=(h.rs t.nx[i] (MQ I)).1;rw[Ms I];simp only[MR];rw[List.take_of_length_le zo]
theorem sy(t:Tb): ∀n (l:List Bool),jB t (n+1) l=lE t (jB t n l)
 |0,l=>rfl
 |n+1,l=>by
  rw[jB,sy t n (lE t l),jB]
theorem Cc(t:Tb)(L:List Bool)(i:Nat):(Mx (i+1)).foldl (ke t) L=ke t ((Mx i).foldl (ke t) L) i:=by
 rw[List.range_succ,List.foldl_append];rfl
def ta(t:Tb)(n i:Nat):List Bool:=(Mx n).map fun j=>if j<i then uX t j else false
theorem JC(t:Tb)(n i:Nat):(ta t n i).length=n:=by unfold ta;simp
theorem Hh(t:Tb)(n:Nat):ta t n 0=MD n false:=by
 unfold ta;refine Mu zp fun k h1 h2=> ?_
 simp
theorem JB(hf:t.fl.length=n):ta t n n=pY t:=by
 unfold ta pY;refine Mu (by simp[hf]) fun k h1 h2=> ?_
 rw[Mz,Mz,MM];have hk:k<t.fl.length:=za;rw[if_pos zo];unfold uX;simp_all
theorem Hg(t:Tb)(n i:Nat):(ta t n i).set i (uX t i)=ta t n (i+1):=by
 unfold ta;refine Mu zp fun k h1 h2=> ?_
 rw[MF,Mz,Mz,MM];by_cases e:i=k
 ·simp_all
 rw[if_neg e];by_cases h:k<i
 ·rw[if_pos h,if_pos zo]
 rw[if_neg h,if_neg zo]
def LP(t:Tb)(n:Nat)(w w':World)(e:Ending):Prop:= ∃L:List Bool,e=xm (xa (some ⟨w.heap.size+1,0,none⟩) n n)/\w'.heap[w.heap.size+1]? =some (xi (lJ L) 4 (0,0))/\L.length=n/\(∀i,lv L i=true↔Lives t i)/\Below w.heap.size w w'
theorem vO(w:World)(t:Tb)(A n:Nat)(R:Option Addr)(na ac fb f0 nb n0 fc nc:Nat)(rb ro rc:Nat->Nat)(hL:TbK w t A n fb f0 nb n0 rb ro rc):
  Calls prog 182 #[.agg #[xa R na ac,xa (some ⟨fb,f0,none⟩) n fc,xa (some ⟨nb,n0,none⟩) n nc]] w fun e w'=>LP t n w w' e:=by
 have hA1:=hL.sh.A1;have hA6:=hL.sh.A6;have hn1:=hL.sh.n1;have hn100:=hL.sh.n100;have J:=fa hL;obtain⟨i0,az,aB,aC,aN⟩:=info_parts Tryz.infoBool;have aM:=fun (w:World)=>p6 (P:=prog) w 87 4 i0 (xn false) underlying87 az aB aC rfl zo n zo
 clear az aB aC aN;have hB:=iz w (xi #[xa R na ac,xa (some ⟨fb,f0,none⟩) n fc,xa (some ⟨nb,n0,none⟩) n nc] 36);have U:lJ (MD n false)=Array.replicate n (xn false):=by
  unfold lJ;simp
 have aE:Hid (AL w ((w.alloc (xi #[xa R na ac,xa (some ⟨fb,f0,none⟩) n fc,xa (some ⟨nb,n0,none⟩) n nc] 36)).alloc (xi (Array.replicate n (xn false)) 4)) (w.heap.size+1) #[xa R na ac,xa (some ⟨fb,f0,none⟩) n fc,xa (some ⟨nb,n0,none⟩) n nc] (ta t n 0)):=by
  rw[Hh,<-U];exact zm149
 have ax:=ft w (xi #[xa R na ac,xa (some ⟨fb,f0,none⟩) n fc,xa (some ⟨nb,n0,none⟩) n nc] 36);have aw:=cell_of_blk ax 1;clear hL hB U ax;go_in;go_wp2_with fail;clear aw aM;generalize ((w.alloc (xi #[xa R na ac,xa (some ⟨fb,f0,none⟩) n fc,xa (some ⟨nb,n0,none⟩) n nc] 36)).alloc (xi (Array.replicate n (xn false)) 4))=W0 at *
 go_loopw [4] (fun x wr=> ∃k:Nat,k<=n/\x=xd xh k/\Hid (AL w wr (w.heap.size+1) #[xa R na ac,xa (some ⟨fb,f0,none⟩) n fc,xa (some ⟨nb,n0,none⟩) n nc] (ta t n k))) (fun x _=>n - (intOf x).toNat)
 ·exact⟨0,MJ _,rfl,aE⟩
 obtain⟨k,hk,rfl,H1⟩:=hrel;rcases zc k n with⟨hlt,hkn⟩|⟨hlt,hkn⟩
 ·have hcl:=H1.out.at (k:=k) (by rw[JC];omega);have aK:=fi H1.out.blk k;have aw:=cell_of_blk H1.out.box 1;have hfl:=(J.out.later H1.out.bel).fla k hlt;have I:=Jc t k;have HP:=fa (H1.out.put k (uX t k));rw[Hg] at HP;cases hac:uX t k with
  |true=>
   rw[hac] at I HP;simp only[if_true] at I;go_wp2
   go_roundw
   ·exact⟨k+1,zo,zf,HP⟩
   simp[intOf];omega
  |false=>
   rw[hac] at I HP;simp only[Bool.false_eq_true,if_false] at I;go_wp2
   go_roundw
   ·exact⟨k+1,zo,zf,HP⟩
   simp[intOf];omega
 have ak:n=k:=zo;subst ak;rw[JB J.out.sh.hf] at H1;go_wp2_with fail
 rename World=>wR0
 go_loopw [5] (fun x wr=> ∃k:Nat,k<=n/\x=xd xh k/\Hid (AL w wr (w.heap.size+1) #[xa R na ac,xa (some ⟨fb,f0,none⟩) n fc,xa (some ⟨nb,n0,none⟩) n nc] (jB t k (pY t)))) (fun x _=>n - (intOf x).toNat)
 ·exact⟨0,MJ _,rfl,H1⟩
 obtain⟨k,hk,rfl,H1⟩:=hrel;have an:(jB t k (pY t)).length=n:=(oz t _ _).1.symm.trans (by unfold pY;rw[MU];exact J.out.sh.hf);rcases zc k n with⟨hlt2,hkn2⟩|⟨hlt2,hkn2⟩
 ·have aG:=fa (sy t k (pY t));generalize jB t k (pY t)=L0 at *;have av:=fa an;clear an;go_wp2_with fail
  rename World=>wR
  go_loopw [6] (fun x wr=> ∃i:Nat,i<=n/\x=xd xh i/\Hid (AL w wr (w.heap.size+1) #[xa R na ac,xa (some ⟨fb,f0,none⟩) n fc,xa (some ⟨nb,n0,none⟩) n nc] ((Mx i).foldl (ke t) L0))) (fun x _=>n - (intOf x).toNat)
  ·exact⟨0,MJ _,rfl,H1⟩
  obtain⟨i,hi,rfl,H2⟩:=hrel;rcases zc i n with⟨hil,hin⟩|⟨hil,hin⟩
  ·have aH:=fa (Cc t L0 i);have ai:((Mx i).foldl (ke t) L0).length=n:=(rR t _ _).1.symm.trans av.out;generalize (Mx i).foldl (ke t) L0=L at *;have ae:=fa ai;have aD:Hid (AL w wr (w.heap.size+1) #[xa R na ac,xa (some ⟨fb,f0,none⟩) n fc,xa (some ⟨nb,n0,none⟩) n nc] (L.set i (jj t L i 0))):=by
    show AL _ _ _ _ _;have e:L.set i (jj t L i 0)=L:=by
     rw[Ce];refine Mu zp fun k h1 h2=> ?_
     rw[MF];by_cases e:i=k
     ·subst e;rw[if_pos rfl];unfold lv;simp_all
     simp_all
    rw[e];exact H2.out
   clear ai;go_wp2_with fail
   rename World=>wS
   go_loopw [7] (fun x wr=> ∃a:Nat,a<=A/\x=xd xh a/\Hid (AL w wr (w.heap.size+1) #[xa R na ac,xa (some ⟨fb,f0,none⟩) n fc,xa (some ⟨nb,n0,none⟩) n nc] (L.set i (jj t L i a)))) (fun x _=>A - (intOf x).toNat)
   ·exact⟨0,MJ _,rfl,aD⟩
   obtain⟨a,ha,rfl,H3⟩:=hrel;have c02:=cell_of_blk H3.out.box 2;have hrow:=(J.out.later H3.out.bel).row i hil;by_cases hal:a<A
   ·have han:(a:Int)<(A:Int):=zo;have hxn:=J.out.sh.lt hil hal;have ar:=fa (Cd J.out.sh L (i:=i) (a:=a) hil (by rw[ae.out];omega) hal);have ay:=H3.out.at (k:=i) (by rw[MI,ae.out];omega);have aJ:=H3.out.at (k:=rm t i a) (by rw[MI,ae.out];omega);have aa:lv (L.set i (jj t L i a)) i=jj t L i a:=by rw[pZ,if_pos ⟨rfl,by rw[ae.out];omega⟩]
    rw[aa] at ay;have aj:=fa (H3.out.put i (jj t L i (a+1)));rw[List.set_set] at aj;have aK:=fi H3.out.blk i;have hnx:=(J.out.later H3.out.bel).nxt i a hil hal;have hxi:(rm t i a:Int)<(n:Int):=zo;generalize rm t i a=x at *;have aA:jj t L i a=true/\jj t L i (a+1)=true\/jj t L i a=false/\lv (L.set i (jj t L i a)) x=true/\jj t L i (a+1)=true\/jj t L i a=false/\lv (L.set i (jj t L i a)) x=false/\jj t L i (a+1)=false:=by
     rw[ar.out];generalize lv (L.set i (jj t L i a)) x=y;cases jj t L i a<;>cases y<;>simp
    clear aa;rcases aA with⟨k1,k2⟩|⟨k1,k3,k2⟩|⟨k1,k3,k2⟩
    all_goals (
     rw[k2] at aj;rw[k1] at ay
     try rw[k3] at aJ
     go_wp2
     go_roundw
     case rel=>exact⟨a+1,zo,zf,by rw[k2];exact aj⟩
     case measure=>simp[intOf];omega)
   have aI:a=A:=zo;have aF:Hid (L.set i (jj t L i a)=ke t L i):=by
    show _=_;rw[aI];exact DA J.out.sh L hil
   go_wp2
   go_roundw
   ·exact⟨i+1,zo,zf,by rw[aH.out,<-aF.out];exact H3⟩
   simp[intOf];omega
  have aL:i=n:=zo;subst aL;go_wp2
  go_roundw
  ·exact⟨k+1,zo,zf,by rw[aG.out];unfold lE;rw[av.out];exact H2⟩
  simp[intOf];omega
 have ak:n=k:=zo;subst ak;go_wp2;go_ret;refine⟨_,rfl,H1.out.blk,an,fun i=> ?_,H1.out.bel⟩;have:=Dy (t:=t) (by rw[J.out.sh.hf,J.out.sh.hn]) i;rw[J.out.sh.hf] at this;omega
structure Cs where
 id:ByteArray
 st:Nat
 ev:Nat
def KC(F:List Nat)(i:Nat):Nat:=(F[i]?).getD 0
open Go.Maps
section
variable {σ : Type} [DecidableEq σ]
theorem AG(s x:σ): ∀(l:List σ) (i:Nat),iX x (l++[s]) i=match iX x l i with
  |some j=>some j
  |none=>if s=x then some (i+l.length) else none
 |[],i=>zf
 |y::l,i=>by
  rw[MG,iX,iX];by_cases h:y=x
  ·simp_all
  rw[if_neg h,if_neg h,AG s x l (i+1)];cases iX x l (i+1) with
  |some j=>rfl
  |none=>simp only[MH];rw[show i+1+l.length=i+(l.length+1) from zo]
def NumM(kl:σ->Lit)(D:DataW Unit)(l:List σ):Prop:=
 IsMap D/\ ∀s,(∀i,iX s l 0=some i->Maps.has D (kl s)=true/\D.atKey (kl s) (.lit (.int xh 0))= .lit (.int xh i))/\(iX s l 0=none->Maps.has D (kl s)=false)
theorem NumM.nil(I:σ->Lit):NumM I (.map []) []:=⟨⟨[],rfl⟩,fun s=>And.intro (fun i h=>absurd h zv) (fun _=>rfl)⟩
theorem NumM.put{I:σ->Lit}(R: ∀s,WideAt.IsKeyLit (I s))(hi: ∀s t,I s=I t->s=t){l:List σ}(h:NumM I D l){s:σ}(hs:iX s l 0=none):NumM I (D.put (I s) (.lit (.int xh (l.length:Nat)))) (l++[s]):=by
 refine⟨h.1.put _ _,fun x=> ?_⟩;rw[AG];by_cases e:s=x
 ·subst e;rw[hs];simp only[if_true];refine⟨fun i hi=> ?_,fun hn=>by cases hn⟩;have:=Option.some.inj hi;rw[has_put_same h.1 (R s),atKey_put_same h.1 (R s),<-this,Nat.zero_add];simp
 have J:=fun U=>e (hi x s U).symm
 rw[has_put_other J,atKey_put_other J];obtain⟨h1,h2⟩:=h.2 x;refine⟨fun i hi=> ?_,fun hn=> ?_⟩
 ·cases hf:iX x l 0 with
  |some j=>
   simp_all
  |none=>
   simp_all
 cases hf:iX x l 0 with
 |some j=>simp_all
 |none=>simp_all
theorem tu{l:List σ}{s:σ}(h:iX s l 0=some i):jr l s=(l,i):=by unfold jr;rw[h]
theorem tq{l:List σ}{s:σ}(h:iX s l 0=none):jr l s=(l++[s],l.length):=by unfold jr;rw[h]
theorem uM(st:σ->Nat->σ)(s:σ)(a:Nat): ∀(I:List Nat) (l:List σ),jh st s (I++[a]) l=((jr (jh st s I l).1 (st s a)).1,(jh st s I l).2++[(jr (jh st s I l).1 (st s a)).2])
 |[],l=>rfl
 |b::I,l=>by
  rw[MG,jh,uM st s a I,jh];rfl
end
def su(p:Nat):Lit:= .int .u32 (p:Int)
theorem CG(s t:Nat)(h:su s=su t):s=t:=by unfold su at h;injection h with _ h;omega
def uF(b:List Bool):Lit:= .string (gH b).data.toList
theorem Jx(s t:List Bool)(h:uF s=uF t):s=t:=by
 unfold uF at h;injection h with h
 rw[nI,nI] at h;exact(List.map_inj_right (fun _ _ e=>Ai e)).1 h
theorem Dx:Keyed prog 147:=int_keyed underlying147
theorem G':Keyed prog 151:=string_keyed underlying151
theorem z6:(zeroValue 3).run prog w= .ok (xd xh 0) w:=zk
theorem Dw{p:Nat}(h:p<4294967296):keyOf prog 147 (xd .u32 (p:Int))=some (su p):=keyOf_int_mk underlying147 (by
 rw[Lit.wf_int_iff];have h1:IntKind.u32.min=0:=zf;have h2:IntKind.u32.max=4294967295:=zf;omega)
theorem L5(h:b.length<=1000000):keyOf prog 151 (xj (gH b))=some (uF b):=WideMaps.keyOf_string_mk underlying151 (by
 rw[k9];unfold maxLen;omega)
structure Bk where
 mr:ByteArray
 l:Value
 g1:Value
 g2:Value
 g3:Value
def I3(b:Bk):List Value:=[xj b.mr,b.l,b.g1,b.g2,b.g3]
def nt(bs:List Bk):List Value:=bs.flatMap I3
theorem Ev(bs:List Bk)(b:Bk):nt (bs++[b])=nt bs++[xj b.mr,b.l,b.g1,b.g2,b.g3]:=by simp[nt,I3]
structure Ke (w:World) (b:Bk):Prop where
 l:AllM w b.l (xj b.mr) 9
 g1:AllM w b.g1 (xj b.mr) 9
 g2:AllM w b.g2 (xj b.mr) 9
 g3:AllM w b.g3 (xj b.mr) 9
theorem FR(h:MN prog w "internal/strconv.uint64pow10" .u64 MO):4<w.heap.size:=by
 unfold MN World.var? at h;rw[vJ] at h;simp only[Option.bind_some] at h
 split at h
 ·rename_i c t m e;exact fh e
 cases h
theorem FQ(h:MN prog w "internal/strconv.uint64pow10" .u64 MO)(I:Below w.heap.size w w'):MN prog w' "internal/strconv.uint64pow10" .u64 MO:=BE h (I.block _ (FR h))
theorem AllM.txs{g:Nat}{mk:ByteArray}(h:AllM w (xa (some ⟨g,0,none⟩) N c) (xj mk) 9)(hn:n<=N):TxS w (some ⟨g,0,none⟩) (MD n mk):=by
 exact zm66
def Ma(v:Value):Option (DataW Unit × List MemPlace):=
 match v with
 | xk (some ⟨b,0,none⟩)=>some (.lit (.int xh (b:Int)),[])
 | xk none=>some (.nil,[])
 |_=>none
def LH(id:ByteArray):Lit:= .string id.data.toList
structure FrD (S:Nat->Prop) (w w':World):Prop where
 os:w'.os=w.os
 tape:w'.tape=w.tape
 output:w'.output=w.output
 size:w.heap.size<=w'.heap.size
 block: ∀k,k<w.heap.size->¬ S k->w'.heap[k]? =w.heap[k]?
theorem FrD.refl(S:Nat->Prop)(w:World):FrD S w w:=⟨rfl,rfl,rfl,Nat.le_refl _,fun _ _ _=>rfl⟩
theorem FrD.trans{S:Nat->Prop}{a b c:World}(h:FrD S a b)(I:FrD S b c):FrD S a c:=
 ⟨I.os.trans h.os,I.tape.trans h.tape,I.output.trans h.output,Nat.le_trans h.size I.size,fun k J hs=>(I.block k (Mr J h.size) hs).trans (h.block k J hs)⟩
theorem FrD.grown{S:Nat->Prop}{b:Nat}(h:w.grownBy w' (some b))(hb:S b):FrD S w w':=⟨h.os,h.tape,h.output,h.size,fun k I hn=>h.block k I (fun e=>za)⟩
def Lz(cs:List Cs)(mb:Nat)(pb:ByteArray->Nat)(k:Nat):Prop:=k=mb\/ ∃c∈cs,k=pb c.id
structure Mc (w:World) (db:Nat) (t:Tb) (cs:List Cs) (A n ab a0 fb f0 nb n0 ac fc nc:Nat) (rb ro rc:Nat->Nat) (mb:Nat) (pb:ByteArray->Nat) (D:DataW Unit):Prop where
 blk:w.heap[db]? =some (xi #[xa (some ⟨ab,a0,none⟩) A ac,xa (some ⟨fb,f0,none⟩) n fc,xa (some ⟨nb,n0,none⟩) n nc,.map (some mb)] 95 (0,0))
 tb:LF w t A n ab a0 fb f0 nb n0 rb ro rc
 mp:w.ownsMap prog 9 Ma mb cs.length D
 sz:Maps.size D=cs.length
 has: ∀id,Maps.has D (LH id)=true↔ ∃c∈cs,c.id=id
 at_: ∀c∈cs,∀zd,D.atKey (LH c.id) zd= .lit (.int xh (pb c.id:Int))
 cell: ∀c∈cs,w.heap[pb c.id]? =some (xi #[xd xh (c.st:Int),xd xh (c.ev:Int)] 100 (0,0))
 nd:(cs.map (·.id)).Nodup
 inj: ∀c∈cs,∀c'∈cs,pb c.id=pb c'.id->c.id=c'.id
 st: ∀c∈cs,c.st<n
 few:cs.length<=8
 sep: ∀k,Lz cs mb pb k->k≠db/\k≠ab/\k≠fb/\k≠nb/\ ∀i,i<n->k≠rb i
section
variable {w : World} {db : Nat} {t : Tb} {cs : List Cs} {A n ab a0 fb f0 nb n0 ac fc nc : Nat} {rb ro rc : Nat -> Nat} {mb : Nat} {pb : ByteArray -> Nat} {D : DataW Unit}
end
structure Th where
 S:Nat->Prop
 P:World->Prop
variable {xs ys old new:List Th}
structure ThOk (w:World) (x:Th):Prop where
 p:x.P w
 lt: ∀k,x.S k->k<w.heap.size
 keep: ∀w':World,w.heap.size<=w'.heap.size->(∀k,x.S k->w'.heap[k]? =w.heap[k]?)->x.P w'
theorem ThOk.same{x:Th}(h:ThOk w x)(hs:w.heap.size<=w'.heap.size)(R: ∀k,x.S k->w'.heap[k]? =w.heap[k]?):ThOk w' x:=
 ⟨h.keep w' hs R,fun k I=>Mr (h.lt k I) hs,fun J U h2=>h.keep J (Nat.le_trans hs U) (fun k I=>(h2 k I).trans (R k I))⟩
structure Ths (B:Nat) (w:World) (xs:List Th):Prop where
 ok: ∀x∈xs,ThOk w x
 ap:xs.Pairwise fun x y=> ∀k,x.S k->¬ y.S k
 lo: ∀x∈xs,∀k,x.S k->B<=k
theorem Ths.perm(h:Ths B w xs)(I:xs.Perm ys):Ths B w ys:=
 ⟨fun x J=>h.ok x (I.mem_iff.2 J),(I.pairwise_iff (fun h k R U=>h k U R)).1 h.ap,fun x J=>h.lo x (I.mem_iff.2 J)⟩
theorem Ths.later(h:Ths B w xs)(I:Below w.heap.size w w'):Ths B w' xs:=
 ⟨fun x J=>(h.ok x J).same I.size (fun k R=>I.block k ((h.ok x J).lt k R)),h.ap,h.lo⟩
theorem Ths.turn{rest:List Th}(h:Ths B w (old++rest))(hf:FrD (fun k=> ∃x∈old,x.S k) w w')(hn: ∀x∈new,ThOk w' x)(ha:new.Pairwise fun x y=> ∀k,x.S k->¬ y.S k)
  (hs: ∀x∈new,∀k,x.S k->(∃y∈old,y.S k)\/w.heap.size<=k)(hB:B<=w.heap.size):Ths B w' (new++rest):=by
 have U:=List.pairwise_append.1 h.ap;refine⟨fun x I=> ?_,List.pairwise_append.2 ⟨ha,U.2.1,fun x I y R k h1 h2=> ?_⟩,fun x I k J=> ?_⟩
 ·rcases List.mem_append.1 I with I|I
  ·exact hn x I
  have ho:=h.ok x (MC _ I);exact ho.same hf.size (fun k J=>hf.block k (ho.lt k J) (fun⟨y,R,aa⟩=>U.2.2 y R x I k aa J))
 ·rcases hs x I k h1 with⟨z,hz,hzk⟩|hge
  ·exact U.2.2 z hz y R k hzk h2
  have:=(h.ok y (MC _ R)).lt k h2;omega
 rcases List.mem_append.1 I with I|I
 ·rcases hs x I k J with⟨z,hz,hzk⟩|hge
  ·exact h.lo z (MK _ hz) k hzk
  omega
 exact h.lo x (MC _ I) k J
theorem Ths.turn1{x I:Th}{rest:List Th}(h:Ths B w (x::rest))(hf:FrD x.S w w')(hn:ThOk w' I)(hs: ∀k,I.S k->x.S k\/w.heap.size<=k)(hB:B<=w.heap.size):Ths B w' (I::rest):=
 Ths.turn (old:=[x]) (new:=[I]) h ⟨hf.os,hf.tape,hf.output,hf.size,fun k J hn=>hf.block k J (fun e=>hn ⟨x,List.mem_singleton.2 rfl,e⟩)⟩ (fun y R=>by rw[List.mem_singleton.1 R];exact hn) (List.pairwise_singleton _ _)
  (fun y R k J=>za) hB
theorem Ths.add{rest:List Th}(h:Ths B w rest)(I:Below w.heap.size w w')(hn: ∀x∈new,ThOk w' x)(R:new.Pairwise fun x y=> ∀k,x.S k->¬ y.S k)(hs: ∀x∈new,∀k,x.S k->w.heap.size<=k)(hB:B<=w.heap.size):Ths B w' (new++rest):=
 Ths.turn (old:=[]) h ⟨I.os,I.tape,I.output,I.size,fun k J _=>I.block k J⟩ hn R (fun x U k J=>Or.inr (hs x U k J)) hB
theorem Ths.bel{rest:List Th}(h:Ths B w (old++rest))(hf:FrD (fun k=> ∃x∈old,x.S k) w w')(hB:B<=w.heap.size):Below B w w':=
 ⟨hf.os,hf.tape,hf.output,hf.size,fun k J=>hf.block k (Mr J hB) (fun⟨x,R,I⟩=>by have:=h.lo x (MK _ R) k I;omega)⟩
theorem Ey{b:Nat}(h:w'.heap[b]? =w.heap[b]?):w'.cell? ⟨b,i,none⟩=w.cell? ⟨b,i,none⟩:=by
 unfold World.cell?;rw[h]
theorem jb{e z:Nat}{xs:List Value}(h:w.ownsRow base e z v n xs)(hk: ∀k,v.ownBlock=some k->w'.heap[k]? =w.heap[k]?):w'.ownsRow base e z v n xs:=by
 obtain⟨U,⟨R,h0⟩|⟨g,cap,cur,R,hg,J,I⟩⟩:=h
 ·exact⟨U,Or.inl ⟨R,h0⟩⟩
 exact⟨U,Or.inr ⟨g,cap,cur,R,hg,(hk g (by rw[R];rfl)).trans J,I⟩⟩
theorem zF(w:World):Calls prog 94 #[xa none 0 0] w fun e w'=>e=xm (xa none 0 0)/\w'=w:=by
 have he:=fun W:World=>Av W
 go_in;go_wp2;go_ret;simp
theorem ye(w:World)(lb:Nat)(o:Value):Calls prog 96 #[xk (some ⟨lb,0,none⟩),o,xa none 0 0] w fun e w'=>e=xm (xn true)/\w'=w:=by
 have he:=fun W:World=>Av W
 go_in;go_wp2;go_ret;simp
theorem Gu(bs:List Bk):(nt bs).length=bs.length * 5:=by
 induction bs with
 |nil=>rfl
 |cons d r ih=>unfold nt at ih|-;rw[List.flatMap_cons,Mt,ih];show 5+_=_;rw[MH];omega
theorem qx[DecidableEq σ](s:σ): ∀(l:List σ) (i:Nat),iX s l i=(iX s l 0).map (· +i)
 |[],_=>rfl
 |x::r,i=>by
  rw[iX,iX];by_cases e:x=s
  ·simp_all
  rw[if_neg e,if_neg e,qx s r (i+1),qx s r (0+1)];cases iX s r 0 with
  |none=>rfl
  |some j=>simp;omega
theorem ph[DecidableEq σ](s:σ)(m:List σ): ∀(l:List σ),iX s (l++m) 0=match iX s l 0 with|some i=>some i|none=>(iX s m 0).map (· +l.length)
 |[]=>by cases h:iX s m 0<;>simp[iX,h]
 |x::r=>by
  rw[MG,iX,iX];by_cases e:x=s
  ·simp_all
  rw[if_neg e,if_neg e,qx s (r++m),qx s r,ph s m r];cases iX s r 0 with
  |some j=>rfl
  |none=>
   cases iX s m 0 with
   |none=>rfl
   |some j=>simp;omega
theorem CD[DecidableEq σ][DecidableEq τ](f:σ->τ)(s:σ): ∀(l:List σ) (i:Nat),(∀x∈l,f x=f s->x=s)->iX (f s) (l.map f) i=iX s l i
 |[],_,_=>rfl
 |x::r,i,h=>by
  rw[List.map_cons,iX,iX,CD f s r (i+1) (fun y I=>h y (List.mem_cons_of_mem _ I))];by_cases e:x=s
  ·simp_all
  simp_all
def uP(l:List (Bool × List Bool))(c:Nat):Nat:=match iX c (l.map iT) 0 with
 |some i=>i+1
 |none=>0
def oW(N:Nat)(l:List (Bool × List Bool)):List Nat:=(Mx N).map (uP l)
theorem pM(N:Nat)(l:List (Bool × List Bool)):(oW N l).length=N:=by unfold oW;simp
theorem Bw(l:List (Bool × List Bool))(h:c<N):(oW N l)[c]? =some (uP l c):=by unfold oW;simp_all
theorem JX(N:Nat):oW N []=MD N 0:=by
 unfold oW;refine Mu zp fun k h1 h2=> ?_
 simp[uP,iX]
theorem Im{l:List (Bool × List Bool)}(hf:iX (iT p) (l.map iT) 0=none):oW N (l++[p])=(oW N l).set (iT p) (l.length+1):=by
 refine Mu (by rw[MI,pM,pM]) fun c R h2=> ?_
 rw[MF];have hc:c<N:=by rw[pM] at R;omega
 have I:(oW N (l++[p]))[c]=uP (l++[p]) c:=by
  have:=Bw (l++[p]) hc;simp_all
 have h3:c<(oW N l).length:=za;have J:(oW N l)[c]=uP l c:=by
  have:=Bw l hc;simp_all
 rw[I,J];unfold uP;rw[List.map_append,ph];by_cases e:iT p=c
 ·subst e;rw[hf,if_pos rfl];simp[iX]
 rw[if_neg e];cases iX c (l.map iT) 0 with
 |some i=>rfl
 |none=>simp[iX,e]
theorem pq{acts:List Nat}{k:Nat}{l:List (Bool × List Bool)}{tw:List (List Nat)}(h:Bfs (nP L) acts (rq L) k l tw): ∀p∈l,p.2.length=L.length:=fun p J=>by
 obtain⟨j,I⟩:=List.mem_iff_getElem?.1 J;cases j with
 |zero=>
  rw[h.first] at I;cases I;exact lM ..
 |succ j=>
  obtain⟨_,_,_,_,_,a,_,e⟩:=h.met j p I;rw[e];exact lM ..
theorem wL(hL:L.length<=16){acts:List Nat}{k:Nat}{l:List (Bool × List Bool)}{tw:List (List Nat)}(h:Bfs (nP L) acts (rq L) k l tw):l.length<=131072:=by
 have I:=pq h;have J:(l.map iT).Nodup:=by
  rw[List.nodup_iff_pairwise_ne,List.pairwise_map];exact h.nodup.imp_of_mem fun {a b} ha hb hab e=>hab (yu ((I a ha).trans (I b hb).symm) e)
 have:=vx 131072 (l.map iT) J (fun c hc=>by
  obtain⟨p,R,rfl⟩:=List.mem_map.1 hc;exact vi p (n:=16) (by rw[I p R];omega))
 simp_all
theorem JY{l:List (Bool × List Bool)}(I: ∀q∈l,q.2.length=p.2.length):(uP l (iT p)=0/\iX (iT p) (l.map iT) 0=none/\jr l p=(l++[p],l.length))\/ ∃i,i<l.length/\uP l (iT p)=i+1/\jr l p=(l,i):=by
 have e:=CD iT p l 0 (fun q J hc=>yu (I q J) hc);unfold uP jr;rw[e];cases hf:iX p l 0 with
 |none=>simp
 |some i=>
  have:=(List.getElem?_eq_some_iff.1 (rQ hf).2).1;simp_all
def od(l:List (Bool × List Bool)):List Value:=l.flatMap fun p=>[xj (gH p.2),xn p.1]
theorem JR(l m:List (Bool × List Bool)):od (l++m)=od l++od m:=by unfold od;simp
theorem CU(l:List (Bool × List Bool)):(od l).length=l.length * 2:=by
 induction l with
 |nil=>rfl
 |cons x l ih=>show(_++od l).length=_;rw[Mt,ih,MH];simp;omega
theorem Fw: ∀{l:List (Bool × List Bool)} {i:Nat} {p:Bool × List Bool},l[i]? =some p->(od l)[i * 2]? =some (xj (gH p.2))/\(od l)[i * 2+1]? =some (xn p.1)
 |[],i,c,h=>zv
 |x::l,0,p,h=>by
  have:x=p:=za;subst this;trivial
 |x::l,i+1,p,h=>by
  have I:l[i]? =some p:=zv;have ih:=Fw I;have e:od (x::l)=[xj (gH x.2),xn x.1]++od l:=rfl;rw[e];refine⟨?_, ?_⟩
  ·rw[Mw zs];have:(i+1) * 2 - [xj (gH x.2),xn x.1].length=i * 2:=zs;simp_all
  rw[Mw zs];have:(i+1) * 2+1 - [xj (gH x.2),xn x.1].length=i * 2+1:=zs;simp_all
def LD(w:World)(o:Option Addr)(l:List (Bool × List Bool)):Prop:= ∀(j:Nat) (p:Bool × List Bool),l[j]? =some p-> ∃g,o=some ⟨g,0,none⟩/\g<w.heap.size/\w.cell? ⟨g,j * 2,none⟩=some (xj (gH p.2))/\w.cell? ⟨g,j * 2+1,none⟩=some (xn p.1)
theorem Fy{k:Nat}{l:List (Bool × List Bool)}(h:w.ownsRow base 302 2 (xa o n k) n (od l)):LD w o l:=fun i p hp=>by
 have hi:=(List.getElem?_eq_some_iff.1 hp).1;obtain⟨hl,⟨h1,h2⟩|⟨g,cap,cur,hv,hb,J,hle,_,hcs,R⟩⟩:=h
 ·rw[CU] at hl;omega
 cases hv;have hn:l.length=n:=by rw[CU] at hl;omega
 have I: ∀m v,(od l)[m]? =some v->w.cell? ⟨g,m,none⟩=some v:=fun m v hm=>by
  have U:m<n * 2:=by have:=(List.getElem?_eq_some_iff.1 hm).1;omega
  rw[cell_of_blk J,<-Array.getElem?_toList];rw[<-R,ME U] at hm;omega
 obtain⟨e1,e2⟩:=Fw hp;exact⟨g,rfl,fh J,I _ _ e1,I _ _ e2⟩
structure PtP (V W:World) (N sb:Nat) (lo:Option Addr) (lc:Nat) (l:List (Bool × List Bool)) (ho:Option Addr) (hc:Nat) (rv:List Value) (tw:List (List Nat)):Prop where
 pl:W.ownsRow V.heap.size 302 2 (xa lo l.length lc) l.length (od l)
 tab:TbV W V.heap.size (xa none 0 0) (xa (some ⟨sb,0,none⟩) N N) (xa ho tw.length hc) ⟨[],oW N l,tw⟩ rv
 bel:Below V.heap.size V W
section
variable {V W W' : World} {N sb : Nat} {lo : Option Addr} {lc : Nat} {l : List (Bool × List Bool)} {ho : Option Addr} {hc : Nat} {rv : List Value} {tw : List (List Nat)}
theorem PtP.later(h:PtP V W N sb lo lc l ho hc rv tw)(I:Below W.heap.size W W'):PtP V W' N sb lo lc l ho hc rv tw:=
 ⟨fL h.pl I,h.tab.later I,h.bel.trans (I.mono h.bel.size)⟩
theorem I8{A:Value}(h:TbV W V.heap.size A (xa (some ⟨sb,0,none⟩) N N) X ⟨[],oW N l,tw⟩ rv)(I:c<N):W.cell? ⟨sb,c,none⟩=some (xd xh (uP l c:Nat))/\sb<W.heap.size/\W.frozen? ⟨sb,c,none⟩=false:=by
 have R:=pM N l;have J:W.ownsRow V.heap.size 3 1 (xa (some ⟨sb,0,none⟩) N N) N (gU (oW N l)):=by
  have:=h.fl;rw[R] at this;exact this
 obtain⟨g,h1,h2,h3⟩:=hD J I;cases h1;obtain⟨cs,U⟩:=ja J (b:=sb) rfl;exact⟨by rw[h3];unfold gU;rw[List.getElem?_map,Bw l I];rfl,h2,fi U c⟩
theorem PtP.tabL(h:PtP V W N sb lo lc l ho hc rv tw)(J:W.grownBy W' (xa lo l.length lc).ownBlock):TbV W' V.heap.size (xa none 0 0) (xa (some ⟨sb,0,none⟩) N N) (xa ho tw.length hc) ⟨[],oW N l,tw⟩ rv:=
 h.tab.grow J fun b I=>⟨ie h.tab.acts h.pl zp b I,ie h.tab.fl h.pl zp b I,ie h.tab.nx h.pl zp b I,fun u R=>by
  obtain⟨r,hr⟩:=h.tab.row_at R;exact ie hr h.pl zp b I⟩
theorem PtP.more(h:PtP V W N sb lo lc l ho hc rv tw)(hu:RwU W V.heap.size (xa (some ⟨sb,0,none⟩) N N) rv v q)(hf:iX (iT p) (l.map iT) 0=none){g:Nat}
  (R:W'.ownsRow V.heap.size 302 2 (xa (some ⟨g,0,none⟩) (l.length+1) cap) (l.length+1) (od l++[xj (gH p.2),xn p.1]))(I:W.grownBy W' (xa lo l.length lc).ownBlock){z:Int}(hz:((l.length+1:Nat):Int)=z):
  PtP V (W'.setCell ⟨sb,iT p,none⟩ (xd xh z)) N sb (some ⟨g,0,none⟩) cap (l++[p]) ho hc rv tw/\RwU (W'.setCell ⟨sb,iT p,none⟩ (xd xh z)) V.heap.size (xa (some ⟨sb,0,none⟩) N N) rv v q:=by
 have J:=pM N l;subst hz;have t1:=h.tabL I;have u1:=hu.grow I (ie hu.own h.pl zp);have t2:=t1.fset J (iT p) (l.length+1);have b1:=h.bel.grown I h.bel.size (fun b U=>(gG h.pl b U).1);have hsb:=(gG t1.fl sb rfl).1;refine⟨⟨?_, ?_,b1.setCell (p:=⟨sb,iT p,none⟩) hsb _⟩,u1.fset _ _⟩
 ·have e:od (l++[p])=od l++[xj (gH p.2),xn p.1]:=by rw[JR];rfl
  rw[e,Mt];exact gE R (fK W' sb _ _) fun b U e=>ie R t1.fl zp b U e
 rw[Im hf];exact t2
theorem PtP.num(h:PtP V W N sb lo lc l ho hc rv tw)(R:RwU W V.heap.size (xa (some ⟨sb,0,none⟩) N N) rv v q)(J:W'.ownsRow V.heap.size 3 1 v' (q.length+1) (gU q++[xd xh (x:Int)]))(hg:W.grownBy W' v.ownBlock)(U:v'.ownBlock=some g')(I:v.ownBlock=some g'\/W.heap.size<=g'):
  PtP V W' N sb lo lc l ho hc rv tw/\RwU W' V.heap.size (xa (some ⟨sb,0,none⟩) N N) rv v' (q++[x]):=by
 obtain⟨t1,u1⟩:=h.tab.num R J hg U I;exact⟨⟨gE h.pl hg (ie h.pl R.own zp),t1,h.bel.grown hg h.bel.size (fun b hb=>(gG R.own b hb).1)⟩,u1⟩
theorem PtP.row(h:PtP V W N sb lo lc l ho hc rv tw)(R:RwU W V.heap.size (xa (some ⟨sb,0,none⟩) N N) rv v q){g:Nat}(I:W'.ownsRow V.heap.size 33 1 (xa (some ⟨g,0,none⟩) (tw.length+1) cap) (tw.length+1) (rv++[v]))(hg:W.grownBy W' (xa ho tw.length hc).ownBlock):
  PtP V W' N sb lo lc l (some ⟨g,0,none⟩) cap (rv++[v]) (tw++[q]):=by
 have U:=h.tab.row R I hg;refine⟨gE h.pl hg (ie h.pl h.tab.nx zp), ?_,h.bel.grown hg h.bel.size (fun b J=>(gG h.tab.nx b J).1)⟩;rw[Mt];exact U
end
end Go.Proofs.YtidakhhekofkoaaGreatDoor
