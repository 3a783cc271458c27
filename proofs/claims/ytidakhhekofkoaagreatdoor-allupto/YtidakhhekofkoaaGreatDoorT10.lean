import Derived.Test.YtidakhhekofkoaaGreatDoorT09
import Derived.Lib.IndexAny
import Derived.Test.YtidakhhekofkoaaGreatDoorCards
import Derived.Test.YtidakhhekofkoaaGreatDoorTie
import Derived.ProofKit
import Derived.OpenShut
import Derived.Deep.DeepHandedRow
import Derived.Deep.Strs
import Derived.Lib.AppendIntMem
import Derived.Lib.ItoaLen
set_option linter.all false
set_option maxRecDepth 100000
set_option maxHeartbeats 4000000
namespace Go.Proofs
def Vr:=@Go.DataW.trod_string
def VG:=@Go.DataW.trod_int
def WR:=@Go.World.news_of_block
def Xu:=@Go.Oper.upon_value
end Go.Proofs
namespace Go.Proofs.YtidakhhekofkoaaGreatDoor
attribute [local go_sem] TT TU TV XL
attribute [local simp] TT TU TV XL
open Go.Proofs.Tryz
open Go.RowKit Go.Deep
open Value renaming slice->xa,int->xd,string->xj,pointer->xk,bool->xn
open IntKind renaming i64->xh
open Obj renaming cells->xi
open Ending renaming returned->xm
open List renaming replicate->Rw,pairwise_append->RN,mem_singleton->RP,length->RR
open Lib renaming joinTail->Rh,IsBuilder->Ri,strCells->Ro,strCells_length->RA,BuilderAt->RD,join_cons->RE,cell_of_heap->RU,TabIs->RW
open Or renaming inl->Rv
variable{zq:Prop}
variable{bs cs xs xs':TW}{B nn nc n a2 a3 m2 m3 an ac h lc cap tc fuel e N e' size wh rb f g' na nf bytes tb:Nat}{rs:T6}{a1 m1 ao o a lo tt po ro fo:TX}{wd:Ub}{al:TY}{Q:Tk->Prop}{r:Rl}{d u y A' F' X' v':Ud}{x:Bool}{b:T7}{m:T3}{W W' wr:Uc}{tr:TZ}{ds:List (DataW Unit)}{p:List MemPlace}{α:Type}{laid:List (String × DataW Unit)}{L M q:T5}{ops:Array Oper}{K:Act->Uc->Prop}{E:Prop}{l0:T9}
def zm39(h:zq:=by
 obtain⟨hl,⟨hv,_⟩|⟨g',cap',cur,hv,hg,hrow,hle,hcap,hcs,htake⟩⟩:=h
 .cases hv
 cases hv;refine⟨by simp[hl],Or.inr ⟨g,cap,cur.setIfInBounds i v,rfl,hg,gj hrow i v,hle,hcap,za,?_⟩⟩;rw[Xq,List.take_set,htake]
 ):zq:=h
def zm111(h:zq:=by
 intro g cap w' h1 h2 h3 h4;exact h g cap w' h1 h2 (h3.imp id (λe=>zo))
 ):zq:=h
def zm117(h:zq:=by
 go_wp2;go_ret;exact⟨by rw[HF.out];rfl,rfl⟩
 ):zq:=h
def zm122(h:zq:=by
 exact⟨0,Ux,rfl,HX0⟩
 ):zq:=h
def zm124(h:zq:=by
 rw[e] at hx';have hf:=Ue hx';have hj:=(List.getElem?_eq_some_iff.1 e).1;obtain⟨g,h1,h2,h3⟩:=gT h.fl hj
 grind[gX]
 ):zq:=h
def zm125(h:zq:=by
 refine⟨?_,(XD zp).trans (gi _ _),gC.alloc zp _⟩;rw[uA];exact gu zp
 ):zq:=h
def zm128(h:zq:=by
 have hx':t.acts[j]?=some x:=hx;have hj:=(List.getElem?_eq_some_iff.1 hx').1;obtain⟨g,h1,h2,h3⟩:=gT h.acts hj
 grind[gU]
 ):zq:=h
def zm173(h:zq:=by
 have:=gj h.blk k (xd .u8 ((nw x).toNat:Int));rw[B9] at this;exact this
 ):zq:=h
def zm176(h:zq:=by
 go_wp2
 go_roundw
 .exact⟨k+1,zo,by go_num,trivial,HK2⟩
 simp[intOf];omega
 ):zq:=h
def Fu:(prog.info? 136).map (·.size)=some 2:=zk
def NG:liesAt prog prog.depth 136 (2 / prog.cellsOf 136) 0 136 1=true:=zk
def infoByte:(prog.info? 5).map (λi=>(i.zero,i.size,i.bytes))=some (some (xd .u8 0),1,1):=zk
def zy(b:Nat)(w:Uc)(h0:w.cell? (TU b 0)=some (xk (TT b))):
  Calls prog 120 #[xk (TT b)] w λe w'=>e=xm (.tuple #[])/\w'=w:=by
 obtain⟨j,I,_⟩:=Option.map_eq_some_iff.1 Fu;go_in;go_wp2;rw[Lib.run_neq_ptr_same w _ underlying134 I];go_wp2;go_end0;exact⟨rfl,rfl⟩
def ym(b:Nat)(w:Uc)(h0:w.cell? (TU b 0)=some (xk none))(I:w.shape? b=some (136,2))(hfz:w.frozen? (TU b 0)=false):
  Calls prog 120 #[xk (TT b)] w λe w'=>e=xm (.tuple #[])/\w'=w.setCell (TU b 0) (xk (TT b)):=by
 obtain⟨j,U,J⟩:=Option.map_eq_some_iff.1 Fu;go_in;go_wp2;rw[Lib.run_to_unsafe w (TU b 0) underlying134 underlying271 U (by rw[J];decide) I (Nat.zero_lt_succ 1)];simp only[Result.andThen];rw[Xu];go_wp2;rw[run_callFunc_extern func164 zk zk zk (e:=Extern.AbiNoEscape.same) zk];rw[Lib.run_noEscape];simp only[Result.andThen];rw[Xu];go_wp2;rw[Lib.run_from_unsafe w (TU b 0) underlying271 underlying134 U I NG];simp only[Result.andThen];rw[Xu];go_wp2;go_end0;exact⟨rfl,rfl⟩
def Bl(B b:Nat){w:Uc}(h:Ri 136 5 B b bs w):
  Calls prog 120 #[xk (TT b)] w λe w'=>e=xm (.tuple #[])/\(RD 136 5 B b (xk (TT b)) bs w'/\Below B w w'):=by
 rcases h with h|h
 .refine(ym b w h.cell0 h.shape h.frozen0).mono ?_;rintro e w' ⟨rfl,rfl⟩;exact⟨rfl,h.used _,(Uo B w).setCell (p:=⟨b,0,none⟩) h.1 _⟩
 refine(zy b w h.cell0).mono ?_;rintro e w' ⟨rfl,rfl⟩;exact⟨rfl,h,Uo B _⟩
def sn{b:Nat}{s:Ub}{w:Uc}(h:Ri 136 5 B b bs w)(hlen:bs.length+s.size<=140737488355328)(hBw:B<=w.heap.size):
  Calls prog 73 #[xk (TT b),xj s] w λe w'=>e=xm (.tuple #[xd xh s.size,.nilIface])/\(RD 136 5 B b (xk (TT b)) (bs++Ro s) w'/\Below B w w'):=by
 obtain⟨i0,hi,ak,aq,ar⟩:=Uk infoByte;go_in;go_wp2_with fail;refine(Bl B b h).mono ?_;rintro e w1 ⟨rfl,h1,ad⟩;obtain⟨hB,v,ae,aa,ai⟩:=h1;have c1:w1.cell? (TU b 1)=some v:=by rw[RU ae];rfl
 go_wp2_with (refine Lib.wpList_append_own_string _ rfl _ _ 51 9 rfl B 5 i0 underlying51 underlying9 hi ak aq ar _ _ _ rfl aa s rfl ?c3 ?c4 ?c5 ?_)
 case c3=>unfold maxLen;omega
 case c4=>omega
 case c5=>have:=ad.size;omega
 intro v' w2 I U _;have ag:=dK ae;have J:w2.heap[b]?=some (xi #[xk (TT b),v] 136 (0,0)):=by
  rw[U.block b ag (λe=>ai e.symm)];exact ae
 have d1:w2.cell? (TU b 1)=some v:=by rw[RU J];rfl
 have f1:=Lib.frozen_of_heap J 1;obtain⟨ao,n',cap,rfl⟩:∃ao n' cap,v'=xa ao n' cap:=oJ I;have aj:=gJ aa;go_wp2;go_ret2;refine⟨rfl,⟨hB,xa ao n' cap,gj J 1 _,gy ?_ (gp _ _ _ _) (Or.inr (λe=>gz I e J zd)),λe=>gz I e J zd⟩,?_⟩
 .rw[Ur,RA];exact I
 exact(ad.grown U (by have:=ad.size;omega) (λk hk=>(aj k hk).1)).setCell (p:=⟨b,1,none⟩) hB _
def zU{w:Uc}{no:TX}(h:w.ownsRow 0 144 3 (xa no nn nc) n cs):nn=n/\(n≠0->∃g,no=some ⟨g,0,none⟩/\n<=nc/\nc<=maxLen/\∃cur,w.heap[g]?=some (xi cur 144 (0,0))/\cur.toList.take (n*3)=cs):=by
 exact zm107
theorem Ee:∀(l:T6)(r:Rl),iw (l++[r])=iw l+gI (gO r):=by intro I;induction I<;>grind[iw]
theorem Gt{w:Uc}{cells:TW}(hr:w.ownsRow 0 144 3 (xa m1 m2 m3) rs.length cells)(hp:SI w rs cells)(hrs:rs.length<=401)(aq:∀r∈rs,gI (gO r)<=100000):
  Calls prog 72 #[.agg #[xa a1 a2 a3,xa m1 m2 m3]] w λe w'=>e=xm (xd xh (iw rs))/\XL w w':=by
 obtain⟨ay,J⟩:=zU hr;have hn2a:m2<=rs.length:=zo;have hn2b:rs.length<=m2:=zo;have ag:=fy J;have ai:=fy aq;clear hr ay J aq;go_in;go_wp2
 go_loopw [3,9] (λv i wr=>∃k:Nat,i=xd xh (k:Int)/\v=xd xh (iw (rs.take k))/\k<=rs.length/\XL w wr) (λ_ i _=>rs.length-(intOf i).toNat)
 .exact⟨0,rfl,rfl,Ux,gC⟩
 obtain⟨k,rfl,rfl,hkk,I⟩:=hrel;by_cases hlt:k<rs.length
 .obtain⟨r,rr,ht⟩:∃r rr,rs.drop k=r::rr:=by
   cases hd:rs.drop k with
   |nil=>have:=congrArg RR hd;simp at this;omega
   |cons r rr=>simp
  obtain⟨g,az,hle,aj,cur,ae,U⟩:=ag.out zo;unfold maxLen at aj;have ak:=dK ae;obtain⟨wd,ao,an,ac,p,g0,g1,g2,g3⟩:=hp.at k ht;have aa:=(I.block _ ak).trans ae;have d0:=(EQ aa (k*3)).trans (Q0 (k:=k*3) (o:=0) U zo g0);have d1:=(EQ aa (k*3+1)).trans (Q0 U zo g1);have d2:=(EQ aa (k*3+2)).trans (Q0 U zo g2);have ar:=I.size;subst az;have av:=(g3.keep (KB.below (w:=w) (w':=wr.alloc (xi #[xj wd,xa ao an ac,xk p] 144)) (I.alloc ar _))).1;have ad:r∈rs:=Vk (by rw[ht];exact Um);have aA:=ai.out r ad;have hs2:iw (rs.take k)<=40100000:=by
   have h1:=rZ 100000 (rs.take k) (λx hx=>ai.out x (VS hx))
   grind
  have HTS:=fy (Ee (rs.take k) r);have HTK:=fy (oO ht);have ax:(k:Int)<(m2:Int):=zo;clear ht ae U aa cur g0 g1 g2 g3 ad;go_wp2_with fail;refine(uS (gO r) _ p av aA).mono ?_;rintro e w2 ⟨rfl,n,rfl⟩;generalize hT:iw (rs.take k)=T at *;generalize hZ:gI (gO r)=Z at *;go_wp2
  go_roundw
  .exact⟨k+1,zf,by grind[gQ],zo,(I.alloc ar _).trans ((iK _ n).mono zs)⟩
  simp[intOf];omega
 have aw:rs.length<=k:=zo;have ax:¬ (k:Int)<(m2:Int):=zo;rw[UF aw];go_wp2;go_ret;trivial
def mJ(L:TY):Ub:=⟨(Lib.join ((L.map (·.s)).map (·.data.toList)) (⟨#[44,32]⟩:Ub).data.toList).toArray⟩
def sg(r:Rl):Ub:=if r.call=true then r.word.s++⟨#[40]⟩++mJ r.args++⟨#[41]⟩ else mg r.f
theorem CH{w:Uc}{L:TY}{v:Ud}(h:w.ownsRow B 9 1 v L.length (kp L))(J:L≠[])(hl:L.length<=401)(hlen:(mJ L).size<=1000000):
  Calls prog 74 #[v,xj ⟨#[44,32]⟩] w λe w'=>e=xm (xj (mJ L))/\XL w w':=by
 rcases Ft h with⟨_,h2⟩|⟨g,cap,rfl,hg,hcap,_,hc⟩
 .exact absurd h2 J
 have hs:(Lib.join ((L.map (·.s)).map (·.data.toList)) (⟨#[44,32]⟩:Ub).data.toList).length=(mJ L).size:=by simp[mJ,ByteArray.size]
 have:=Tryz.strings_Join g 0 cap (L.map (·.s)) ⟨#[44,32]⟩ w (λj x U=>by
  rw[UG] at U;obtain⟨t,ht,rfl⟩:=Option.map_eq_some_iff.1 U;have hd:L.drop j=t::L.drop (j+1):=by
   obtain⟨I,he⟩:=List.getElem?_eq_some_iff.1 ht;rw[UK I,he]
  grind) hg (by rw[UL];omega) (by grind) (by rw[hs];omega)
 rw[UL] at this;exact this
def Jv(Q:Tk->Prop){w:Uc}(r:Rl)(p:TX)(h:Tm w r wd ao an ac p)(hg:RlGood Q 401 r)(hw:r.call=true->r.word.s.toList≠[])(hz:(sg r).size<=200000)(hG:SS w):
  Calls prog 75 #[.agg #[xj wd,xa ao an ac,xk p]] w λe w'=>e=xm (xj (sg r))/\XL w w':=by
 have aa:=ir w (xi #[xj wd,xa ao an ac,xk p] 144);obtain⟨hf,hx⟩:=h;rcases hg with⟨hc,-,-,-,x,-,-,hargs⟩|⟨hc,hfg,-,-⟩
 .rw[Uh hc] at hx;obtain⟨rfl,ag⟩:=hx;have ar:r.args≠[]:=by rcases hargs with e|⟨y,_,_,e⟩<;>rw[e]<;>simp
  have az:r.args.length<=2:=by rcases hargs with e|⟨y,_,_,e⟩<;>rw[e]<;>simp
  have hR:sg r=r.word.s++⟨#[40]⟩++mJ r.args++⟨#[41]⟩:=by unfold sg;rw[Uh hc]
  have hz1:r.word.s.size<=200000:=by rw[hR] at hz;simp only[Uu] at hz;omega
  have hz2:(mJ r.args).size<=200000:=by rw[hR] at hz;simp only[Uu] at hz;omega
  rw[hR];have av:=hw hc;have hwn:r.word.s.toList.isEmpty=false:=by cases h:r.word.s.toList with|nil=>exact absurd h av|cons a l=>rfl
  have ad:=gq ag aa;have aq:=fy ar;have U:(w.alloc (xi #[xj r.word.s,xa ao an ac,xk p] 144)).heap[w.heap.size]?=some (xi #[xj r.word.s,xa ao an ac,xk p] 144 (0,0)):=gi _ _;clear hargs ag ar av hw hR hz hf hc hG;have aA:∀w1:Uc,Below (w.heap.size+1) (w.alloc (xi #[xj r.word.s,xa ao an ac,xk p] 144)) w1->Hid (Calls prog 74 #[xa ao an ac,xj ⟨#[44,32]⟩] w1 λe w'=>e=xm (xj (mJ r.args))/\XL w1 w'):=λw1 h1=>
   CH (gq ad (by simpa using h1)) aq.out zo zo
  generalize r.word.s=wd at *;generalize mJ r.args=J at *;clear ad aq az;go_in;go_wp2_with fail;refine R' (S:=λw'=>w'.cell? (TU w.heap.size 0)=some (xj wd)/\w'.cell? (TU w.heap.size 1)=some (xa ao an ac)) zk ?_ (λI=>?_)
  .exact⟨EQ U 0,EQ U 1⟩
  refine Uj (i:=0) (v:=xk (TT w.heap.size)) rfl zk zk zk (λ_ _ _ h=>h) (Rv ⟨zk,λw hw=>by obtain⟨s0,s1⟩:=hw;go_simp<;>omega⟩) I ?_
  try simp only[Act.put,UT,Ve,Vf,Va,U7,U6]
  refine Uj (i:=1) (v:=xj wd) rfl zk zk zk (λ_ _ _ h=>h) (Rv ⟨zk,λw hw=>by obtain⟨s0,s1⟩:=hw;go_simp<;>omega⟩) I ?_
  try simp only[Act.put,UT,Ve,Vf,Va,U7,U6]
  refine Uj (i:=2) (v:=xj (wd++⟨#[40]⟩)) rfl zk zk zk (λ_ _ _ h=>h) (Rv ⟨zk,λw hw=>by obtain⟨s0,s1⟩:=hw;go_simp<;>omega⟩) I ?_
  try simp only[Act.put,UT,Ve,Vf,Va,U7,U6]
  refine Uj (i:=3) (v:=xk (some (TU w.heap.size 1))) rfl zk zk zk (λ_ _ _ h=>h) (Rv ⟨zk,λw hw=>by obtain⟨s0,s1⟩:=hw;go_simp<;>omega⟩) I ?_
  try simp only[Act.put,UT,Ve,Vf,Va,U7,U6]
  refine Uj (i:=4) (v:=xa ao an ac) rfl zk zk zk (λ_ _ _ h=>h) (Rv ⟨zk,λw hw=>by obtain⟨s0,s1⟩:=hw;go_simp<;>omega⟩) I ?_
  try simp only[Act.put,UT,Ve,Vf,Va,U7,U6]
  apply zrH 5;intro K hK;go_simp
  go_wp2_with (go_at_call 74;refine(gQ (aA _ (XF).drew)).mono ?_;rintro e w5 ⟨rfl,ai⟩)
  have au:w5.cell? (TU w.heap.size 0)=some (xj wd)/\w5.cell? (TU w.heap.size 1)=some (xa ao an ac):=
   ⟨(Fd ai _ _ zp).trans (EQ U 0),(Fd ai _ _ zp).trans (EQ U 1)⟩
  refine hK.out _ _ au (λI=>?_);clear hK K au;refine Uj (i:=6) (v:=xj (wd++⟨#[40]⟩++J)) rfl zk zk zk (λ_ _ _ h=>h) (Rv ⟨zk,λw hw=>by obtain⟨s0,s1⟩:=hw;go_simp<;>omega⟩) I ?_
  try simp only[Act.put,UT,Ve,Vf,Va,U7,U6]
  refine Uj (i:=7) (v:=xj (wd++⟨#[40]⟩++J++⟨#[41]⟩)) rfl zk zk zk (λ_ _ _ h=>h) (Rv ⟨zk,λw hw=>by obtain⟨s0,s1⟩:=hw;go_simp<;>omega⟩) I ?_
  try simp only[Act.put,UT,Ve,Vf,Va,U7,U6]
  refine Uj (i:=8) (v:=xj (wd++⟨#[40]⟩++J++⟨#[41]⟩)) rfl zk zk zk (λ_ _ _ h=>h) (Rv ⟨zk,λw hw=>by obtain⟨s0,s1⟩:=hw;go_simp<;>omega⟩) I ?_
  try simp only[Act.put,UT,Ve,Vf,Va,U7,U6]
  refine Ut zk ?_ _;clear I;go_wp2;go_ret;exact⟨rfl,(aa.drew).trans (ai.mono zp)⟩
 rw[T' (by rw[hc];decide)] at hx;subst hx;have hR:sg r=mg r.f:=by unfold sg;rw[T' (by rw[hc];decide)]
 have hF:gO r=r.f:=by unfold gO;rw[T' (by rw[hc];decide)]
 rw[hR] at hz;rw[hF] at hf;rw[hR];have HF:=hf.later aa;have HG:=hG.later aa;clear hf hG hR hF hw;go_in;go_wp2_with fail;refine(xS Q r.f _ p HF hfg zo HG).mono ?_;rintro e w2 ⟨rfl,n,rfl⟩;go_wp2;go_ret;exact⟨rfl,aa.trans ((iK _ n).mono zp)⟩
def BuilderAt.later{T e:TypeId}{b:Nat}{p:Ud}{w w':Uc}(h:RD T e B b p bs w)(J:XL w w'):RD T e B b p bs w':=by
 obtain⟨U,v,I,h3,h4⟩:=h;exact⟨U,v,(J.block _ (dK I)).trans I,gq h3 J,h4⟩
def IsBuilder.later{T e:TypeId}{b:Nat}{w w':Uc}(h:Ri T e B b bs w)(I:XL w w'):Ri T e B b bs w':=
 h.imp (λh=>BuilderAt.later h I) (λh=>BuilderAt.later h I)
def mH(al:TY):Ub:=⟨#[97,99,116,115,32]⟩++mJ al++⟨#[59,10]⟩
def A3(r:Rl):Ub:=⟨#[114,117,108,101,32]⟩++sg r++⟨#[59,10]⟩
def mT:Ub->T6->Ub
 |out,[]=>out
 |out,r::l=>mT (out++A3 r) l
def vu(a b:Ub):Ro a++Ro b=Ro (a++b):=by
 unfold Ro;rw[<-U1,Vj,Array.toList_append]
set_option maxRecDepth 200000 in
theorem I9(Q:Tk->Prop){w:Uc}{cells:TW}(ha:w.ownsRow 0 9 1 (xa a1 a2 a3) al.length (kp al))(aR:al≠[])(aX:al.length<=401)(hja:(mJ al).size<=200000)
  (hr:w.ownsRow 0 144 3 (xa m1 m2 m3) rs.length cells)(hp:SI w rs cells)(hrs:rs.length<=401)(hg:∀r∈rs,RlGood Q 401 r/\(r.call=true->r.word.s.toList≠[])/\(sg r).size<=200000)(hG:SS w):
  Calls prog 40 #[.agg #[xa a1 a2 a3,xa m1 m2 m3]] w λe w'=>e=xm (xj (mT (mH al) rs))/\XL w w':=by
 obtain⟨a8,ad⟩:=zU hr;have hn2a:m2<=rs.length:=zo;have hn2b:rs.length<=m2:=zo;have aM:=fy ad;have aV:=fy hg;have az:XL w ((w.alloc (xi #[xa a1 a2 a3,xa m1 m2 m3] 78)).alloc (xi #[xk none,TV] 136)):=gC.alloc zp _;have ay:((w.alloc (xi #[xa a1 a2 a3,xa m1 m2 m3] 78)).alloc (xi #[xk none,TV] 136)).heap[w.heap.size]?=some (xi #[xa a1 a2 a3,xa m1 m2 m3] 78 (0,0)):=(XD zp).trans (gi _ _);have U:Ri 136 5 (w.heap.size+1) (w.heap.size+1) (Ro ⟨#[]⟩) ((w.alloc (xi #[xa a1 a2 a3,xa m1 m2 m3] 78)).alloc (xi #[xk none,TV] 136)):=
  Rv ⟨XH,TV,gu zp,XG,by simp[Value.ownBlock]⟩
 have aq:=gq ha az;have aF:=fy U;have aK:=fy aR;clear ha hr a8 ad hg U aR;go_in;go_wp2_with fail;refine(CH aq aK.out aX zo).mono ?_;rintro e w1 ⟨rfl,aa⟩;have aD:=az.trans (aa.mono zs);have au:=(aa.block _ (dK ay)).trans ay;have ar:=IsBuilder.later aF.out aa;have hz1:w.heap.size+1+1<=w1.heap.size:=by have:=aa.size;simp at this;omega
 have aJ:Hid (mH al=⟨#[97,99,116,115,32]⟩++mJ al++⟨#[59,10]⟩):=rfl;have hms:(mH al).size<=200007:=by unfold mH;rw[Uu,Uu,show(⟨#[97,99,116,115,32]⟩:Ub).size=5 from rfl,show(⟨#[59,10]⟩:Ub).size=2 from rfl];omega
 clear aq az ay aF aK aa;generalize mJ al=J at *;go_wp2_with fail;refine(sn ar ?_ zo).mono ?_
 .rw[RA,<-aJ.out];show 0+_<=_;omega
 rintro e w2 ⟨rfl,ak,ae⟩;rw[vu,<-aJ.out] at ak;have e0:(⟨#[]⟩:Ub)++mH al=mH al:=ByteArray.empty_append;rw[e0] at ak;have aW:=show Ri _ _ _ _ _ _ from Or.inr ak
 have aT:=aD.trans (ae.mono zo);have av:=(ae.block _ zo).trans au;have bc:=EQ av;have hxl:=dK av;have bd:w.heap.size+1+1<=w2.heap.size:=by have:=ae.size;omega
 clear ak ae aD au ar e0;generalize hM:mH al=M at *;have HM:=fy hM;clear hM;go_wp2
 go_loopw [15] (λi wr=>∃(k:Nat)(t:Ub),i=xd xh (k:Int)/\k<=rs.length/\t.size<=200007+k*200007/\Ri 136 5 (w.heap.size+1) (w.heap.size+1) (Ro t) wr/\XL w wr/\w.heap.size+1+1<=wr.heap.size/\Hid (mT M rs=mT t (rs.drop k))) (λi _=>rs.length-(intOf i).toNat)
 .exact⟨0,M,rfl,Ux,zo,aW,aT,bd,rfl⟩
 clear bc;obtain⟨k,t,rfl,hkk,hts,U,I,hzr,HY⟩:=hrel;by_cases hlt:k<rs.length
 .obtain⟨r,rr,ht⟩:∃r rr,rs.drop k=r::rr:=by
   cases hd:rs.drop k with
   |nil=>have:=congrArg RR hd;simp at this;omega
   |cons r rr=>exact⟨r,rr,rfl⟩
  obtain⟨g,ba,hle,aN,cur,aA,ai⟩:=aM.out zo;unfold maxLen at aN;have aQ:=dK aA;obtain⟨wd,ao,an,ac,p,g0,g1,g2,g3⟩:=hp.at k ht;have aj:=(I.block _ aQ).trans aA;have d0:=(EQ aj (k*3)).trans (Q0 (k:=k*3) (o:=0) ai zo g0);have d1:=(EQ aj (k*3+1)).trans (Q0 ai zo g1);have d2:=(EQ aj (k*3+2)).trans (Q0 ai zo g2);have aC:=I.size;subst ba;have aE:=g3.keep (KB.below (w:=w) (w':=wr.alloc (xi #[xj wd,xa ao an ac,xk p] 144)) (I.alloc aC _));have aw:=Vk (by rw[ht];exact Um);obtain⟨aO,aP,a6⟩:=aV.out r aw;have aH:=fy aP;have HST:Hid (mT t (rs.drop k)=mT (t++A3 r) (rs.drop (k+1))):=by show _=_;rw[ht,lG ht,mT]
  have aI:=hG.later (I.alloc aC (xi #[xj wd,xa ao an ac,xk p] 144));have a7:(k:Int)<(m2:Int):=zo;clear ht aA ai aj cur g0 g1 g2 g3 aw aP;go_wp2_with fail;refine(Jv Q r p aE aO aH.out a6 aI).mono ?_;rintro e w3 ⟨rfl,ag⟩;have aU:=(I.alloc aC _).trans (ag.mono zs);have aG:=IsBuilder.later (IsBuilder.later U gC) ag;have hz3:w.heap.size+1+1<=w3.heap.size:=by have:=ag.size;simp at this;omega
  have aL:Hid (A3 r=⟨#[114,117,108,101,32]⟩++sg r++⟨#[59,10]⟩):=rfl;have hrl:(A3 r).size<=200007:=by unfold A3;rw[Uu,Uu,show(⟨#[114,117,108,101,32]⟩:Ub).size=5 from rfl,show(⟨#[59,10]⟩:Ub).size=2 from rfl];omega
  have hts2:(t++A3 r).size<=200007+(k+1)*200007:=by grind
  clear ag U I aE aI aO aH d0 d1 d2;generalize sg r=R at *;go_wp2_with fail;refine(sn aG ?_ zo).mono ?_
  .rw[RA,<-aL.out];omega
  rintro e w4 ⟨rfl,aB,ax⟩;rw[vu,<-aL.out] at aB;have HU4:=show Ri _ _ _ _ _ _ from Or.inr aB
  have HB4:=aU.trans (ax.mono zo);have hz4:w.heap.size+1+1<=w4.heap.size:=by have:=ax.size;omega
  clear aB ax;exact zm45
 have hke:rs.length<=k:=zo;have a7:¬ (k:Int)<(m2:Int):=zo;have HE:Hid (mT M rs=t):=by grind[mT]
 go_wp2_with fail;refine(Tryz.Builder_String_any (w.heap.size+1) (w.heap.size+1) t.data.toList _ U zo).mono ?_;rintro e w5 ⟨rfl,aY⟩;go_wp2;go_ret;refine⟨?_,I.trans (aY.mono zo)⟩;rw[HM.out,HE.out];rfl
def uy{a b:Ub}(h:a.data.toList=b.data.toList):a=b:=Xz (Wk.1 h)
def vB:∀(l:TY)(out:Ub)(i:Nat),(lD out (i+1) l).data.toList=out.data.toList++Rh [44,32] ((l.map (·.s)).map (·.data.toList))
 |[],out,i=>by simp[lD,Rh]
 |t::r,out,i=>by
  rw[lD,Uh (Nat.succ_pos i),vB r _ (i+1)];simp[Rh,Vj]
def P6(h:al≠[]):mH al=lD ⟨#[97,99,116,115,32]⟩ 0 al++⟨#[59,10]⟩:=by
 cases al with
 |nil=>exact absurd rfl h
 |cons t r=>
  unfold mH
  congr 1
  apply uy;rw[lD,T' (Nat.lt_irrefl 0),vB];unfold mJ;rw[UZ,UZ,RE];simp[Vj]
def Px{m:Nat}(hg:RlGood Q m r)(out:Ub):oP out r=out++A3 r:=by
 unfold oP A3 sg;rcases hg with⟨hc,-,-,-,x,-,-,ha|⟨y,-,-,ha⟩⟩|⟨hc,-,-,-⟩
 .rw[Uh hc,Uh hc,ha,T' zp];apply uy;simp[Vj,mJ,lP,Lib.join_one]
 .rw[Uh hc,Uh hc,ha,Uh zp];apply uy;simp[Vj,mJ,lP,RE,Rh]
 rw[T' (by rw[hc];decide),T' (by rw[hc];decide)];apply uy;simp[Vj]
def MG{m:Nat}:∀{rs:T6} (out:Ub),(∀r∈rs,RlGood Q m r)->mT out rs=mI out rs
 |[],_,_=>rfl
 |r::l,out,h=>by
  rw[mT,mI,Px (h r Um),MG _ (λx I=>h x (Ul I))]
def NN{m:Nat}(h:al≠[])(hg:∀r∈rs,RlGood Q m r):mT (mH al) rs=qw al rs:=by
 rw[MG _ hg,P6 h];rfl
def CG{l:List (T9)}(h:∀x∈l,x.length<=400):(Rh [44,32] l).length<=l.length*402:=by
 induction l with
 |nil=>simp[Rh]
 |cons x r ih=>
  have h1:=h x Um;have I:=ih (λy J=>h y (Ul J));unfold Rh at I|-;simp at I|-;omega
theorem KY(h:∀t∈al,t.s.size<=400)(hl:al.length<=401):(mJ al).size<=200000:=by
 cases al with
 |nil=>simp[mJ,Lib.join_nil,ByteArray.size]
 |cons t r=>
  have h1:=h t Um;have h2:=CG (l:=(r.map (·.s)).map (·.data.toList)) (λx I=>by
   rw[Vp] at I;obtain⟨y,J,rfl⟩:=List.mem_map.1 I;exact h y (Ul J))
  have e:(mJ (t::r)).size=t.s.size+(Rh [44,32] ((r.map (·.s)).map (·.data.toList))).length:=by
   unfold mJ;rw[UZ,UZ,RE];show(List.toArray _).size=_;rw[WN,Ur];rfl
  grind
theorem LG(hg:RlGood qS 401 r):(sg r).size<=200000:=by
 unfold sg;rcases hg with⟨hc,hq,-,-,x,hx,-,ha⟩|⟨hc,hf,hs,-⟩
 .rw[Uh hc];have h1:=hq.2;have h2:(mJ r.args).size<=100000:=by
   have h3:=hx.2;rcases ha with ha|⟨y,hy,-,ha⟩
   .rw[ha];simp only[mJ,UZ,Vv,Lib.join_one];show x.s.size<=_;omega
   have h4:=hy.2;have e:(mJ [x,y]).size=x.s.size+(2+y.s.size):=by
    have I:mJ [x,y]=x.s++⟨#[44,32]⟩++y.s:=by
     apply uy;simp[mJ,RE,Rh,Vj]
    rw[I,Uu,Uu,show(⟨#[44,32]⟩:Ub).size=2 from rfl];omega
   rw[ha,e];omega
  rw[Uu,Uu,Uu,show(⟨#[40]⟩:Ub).size=1 from rfl,show(⟨#[41]⟩:Ub).size=1 from rfl];omega
 rw[T' (by rw[hc];decide)];have:=qq (m:=400) (λt (J:qS t)=>J.2) hf
 grind
theorem Ip{m:Nat}(hQ:∀t,Q t->sr t)(hg:RlGood Q m r)(hc:r.call=true)(h:nj al r=[]):vF r:=by
 rcases hg with⟨_,_,_,_,x,hx,hxk,hargs⟩|⟨h1,_⟩
 .unfold nj at h;obtain⟨_,I⟩:=List.append_eq_nil_iff.1 h;obtain⟨h3,J⟩:=List.append_eq_nil_iff.1 I;obtain⟨h5,h6⟩:=List.append_eq_nil_iff.1 J;have hn:gW r.word.s.toList<=11:=by
   simp_all
  have hlen:¬ r.args.length<(iD (gW r.word.s.toList)).length:=by
   simp_all
  have hbad:∀{ks:T9} {t:Tk} {l:TY},Pa al ks (t::l)=[]->iN ks t=false/\Pa al ks.tail l=[]:=by
   intro ks t l he;rw[Pa,q9] at he;simp_all
  grind[vw,yn,iN,vF]
 rw[h1] at hc;cases hc
def IM{m:Nat}(J:∀t,Q t->sr t)(hg:RlGood Q m r):BU r:=by
 intro hc;rcases hg with⟨_,_,_,_,x,hx,hxk,hargs⟩|⟨h1,_⟩
 .rcases hargs with ha|⟨y,hy,hyk,ha⟩
  .rw[ha];refine⟨λt I=>?_,zp,zp⟩;rw[RP] at I;subst I;exact Rv hxk
  rw[ha];refine⟨λt I=>?_,zp,zp⟩;rcases List.mem_cons.1 I with rfl|I
  .exact Rv hxk
  rw[RP] at I;subst I;rcases hyk with hyk|hyk
  .exact Rv hyk
  exact Or.inr ⟨hyk,yn (J _ hy) hyk⟩
 simp_all
theorem KP{m:Nat}(hg:RlGood Q m r):ye r:=by
 grind[RlGood,ye]
def F5(h:vF r):r.word.s.toList≠[]:=by
 intro e;unfold vF at h;rw[e] at h;rcases h with⟨h,_⟩|⟨⟨_,h⟩,_⟩|⟨⟨_,h⟩,_⟩<;>exact absurd h zd
def TC(s:Ub)(w w':Uc)(e:Ending):Prop:=
 XL w w'/\match iz s with
 |.error x=>e=xm (.tuple #[.agg #[TV,TV],.agg #[xd xh x.1,xd xh x.2]])
 |.ok (al,rs)=>∃a1 a2 a3 m1 m2 m3 cells,e=xm (.tuple #[.agg #[xa a1 a2 a3,xa m1 m2 m3],.agg #[xd xh 0,xd xh 0]])/\w'.ownsRow 0 9 1 (xa a1 a2 a3) al.length (kp al)/\w'.ownsRow 0 144 3 (xa m1 m2 m3) rs.length cells/\SI w' rs cells
theorem TC.err{s:Ub}{w w':Uc}{e:Ending}{x:T3}(hb:XL w w')(h:iz s=.error x)(he:e=xm (.tuple #[.agg #[TV,TV],.agg #[xd xh x.1,xd xh x.2]])):TC s w w' e:=by
 grind[TC]
theorem Ns{m:Nat}(hg:RlGood qS m r):∀t∈r.args,t.s.size<=400:=by
 grind[RlGood,qS]
def sy(w:Uc)(h:Nat)(u v x y:Ud):Uc:=(((w.setCell (TU h 0) u).setCell (TU h 1) v).setCell (TU (h+1) 0) x).setCell (TU (h+1) 1) y
def tH{w:Uc}{a b c:Ud}(u v x y:Ud)(U:w.heap[h]?=some (xi #[a,b] 78 (0,0)))(h2:w.heap[h+1]?=some (xi #[c,d] 80 (0,0))):
  (sy w h u v x y).heap[h]?=some (xi #[u,v] 78 (0,0))/\(sy w h u v x y).heap[h+1]?=some (xi #[x,y] 80 (0,0)):=by
 have I:=gj (gj U 0 u) 1 v;have J:((w.setCell (TU h 0) u).setCell (TU h 1) v).heap[h+1]?=some (xi #[c,d] 80 (0,0)):=(XE zp).trans ((XE zp).trans h2);refine⟨?_,gj (gj J 0 x) 1 y⟩;exact(XE zp).trans ((XE zp).trans I)
theorem yH(w:Uc)(h:Nat)(u v x y:Ud){b:Nat}(I:b≠h)(J:b≠h+1):(sy w h u v x y).heap[b]?=w.heap[b]? :=
 (XE J).trans ((XE J).trans ((XE I).trans (XE I)))
def nP{w0 w:Uc}{v x:Ud}(J:XL w0 w)(I:w0.heap.size<=h):XL w0 (sy w h u v x y):=
 (((J.setCell (p:=⟨h,0,none⟩) I _).setCell (p:=⟨h,1,none⟩) I _).setCell (p:=⟨h+1,0,none⟩) (by show _<=h+1;omega) _).setCell (p:=⟨h+1,1,none⟩) (by show _<=h+1;omega) _
theorem Fj{w:Uc}{a b c:Ud}(h1:w.heap[h]?=some (xi #[a,b] 78 (0,0)))(h2:w.heap[h+1]?=some (xi #[c,d] 80 (0,0))){v x:Ud}:KB w (sy w h u v x y):=by
 grind[yH,KB]
theorem Jp{w:Uc}{a b c:Ud}(h1:w.heap[h]?=some (xi #[a,b] 78 (0,0)))(h2:w.heap[h+1]?=some (xi #[c,d] 80 (0,0))){v x:Ud}{t:Ud}(ho:w.ownsRow 0 144 3 t n xs):(sy w h u v x y).ownsRow 0 144 3 t n xs:=by
 obtain⟨I,e2⟩:=ho;refine⟨I,?_⟩
 grind[yH]
theorem xK(s:Ub)(w:Uc)(hG:GV w):Calls prog 39 #[xj s] w λe w'=>TC s w w' e:=by
 have aF:XL w ((w.alloc (xi #[TV,TV] 78)).alloc (xi #[xd xh 0,xd xh 0] 80)):=gC.alloc zp _;have aB:((w.alloc (xi #[TV,TV] 78)).alloc (xi #[xd xh 0,xd xh 0] 80)).heap[w.heap.size]?=some (xi #[TV,TV] 78 (0,0)):=(XD zp).trans (gi _ _);have az:((w.alloc (xi #[TV,TV] 78)).alloc (xi #[xd xh 0,xd xh 0] 80)).heap[w.heap.size+1]?=some (xi #[xd xh 0,xd xh 0] 80 (0,0)):=gu zp;have bn:=hG.later aF;by_cases hs:400<s.size
 .have HL:Hid (iz s=.error (0,1)):=by show _=_;unfold iz;simp_all
  have b3:(400:Int)<(s.size:Int):=zo;clear hs hG;go_in;go_wp2_with fail;refine py (v:=.tuple #[.agg #[TV,TV],.agg #[xd xh 0,xd xh 1]]) (by simp[results,results39,go_sem]) rfl ?_;exact TC.err (gC.alloc zp _) HL.out rfl
 have HL:Hid (iz s=uZ s.size (ie (jr s (s.size+1) 0))):=by show _=_;unfold iz;rw[T' hs]
 have b4:s.size<=400:=zo;have b3:¬ (400:Int)<(s.size:Int):=zo;have bE:(jr s (s.size+1) 0).length<=401:=by have:=rm s (s.size+1) 0 (Ux);omega
 have aP:=fy bE;have HQ:Hid (∀t∈jr s (s.size+1) 0,qS t):=λt ht=>⟨vN s _ _ t ht,by have:=qD _ 0 (Ux) t ht;omega⟩
 have bW:=(E7 s (s.size+1) 0 (Ux)).2;have bu:=fy (λW hW=>Jf s W b4 hW);generalize jr s (s.size+1) 0=L at *;clear hs hG bE;go_in
 go_wp2_with (refine(bu.out _ bn).mono ?_)
 rintro e w1 ⟨I,o1,n1,k1,o2,n2,k2,⟨al,rs,cells,q,rfl,ak,bB,bH,bF⟩|⟨q,rfl,ak⟩⟩
 .have hg:=nM qS ak HQ.out;have bD:al.length<=401:=by have:=aP.out;omega
  have ba:rs.length<=401:=by have:=aP.out;omega
  have bX:=fy (λt ht=>(hg.1 t ht).1.2);have au:=fy (λr hr=>(hg.2.2.2.1 r hr).mono aP.out);have bA:=fy (Ma ak bW (λr hr=>KP (au.out r hr)));have aQ:Hid (iz s=uZ s.size (.ok (al,rs))):=by show _=_;rw[HL.out,ak]
  rw[show Hid (iz s=uZ s.size (.ok (al,rs)))=Hid (iz s=if (Fr (0,0) (ke al rs)).2≠0 then .error (Fr (0,0) (ke al rs)) else if 16<iw rs then .error (s.size,4) else .ok (al,rs)) from rfl] at aQ;have aw:=(I.block _ (dK aB)).trans aB;have aa:=(I.block _ (dK az)).trans az;have bM:=dK aa;have av:=ir w1 (xi #[xa o1 n1 k1,xa o2 n2 k2] 128);have ar:=(aF.trans (I.mono zs)).alloc zo (xi #[xa o1 n1 k1,xa o2 n2 k2] 128);have aR:=(av.block _ zo).trans aw;have aL:=(av.block _ bM).trans aa;have aH:=gq bB av;have aX:=gq bH av;have aU:=bF.keep (KQ.below av);have bd:(w1.alloc (xi #[xa o1 n1 k1,xa o2 n2 k2] 128)).heap[w1.heap.size]?=some (xi #[xa o1 n1 k1,xa o2 n2 k2] 128 (0,0)):=gi _ _;clear ak hg aw aa I bB bH bF av aB az aF bn bu HL;go_wp2_with fail;generalize w1.alloc (xi #[xa o1 n1 k1,xa o2 n2 k2] 128)=w2 at *;refine(It aH aX aU (λr hr=>IM (λt h=>h.1) (au.out r hr)) bD ba).mono ?_;rintro e w3 ⟨rfl,J⟩;rw[bA.out];generalize hZ:Fr (0,0) (ke al rs)=z at *;have HZ:=fy hZ;have ax:=ar.trans (J.mono ar.size);have aG:=(J.block _ (dK aR)).trans aR;have aA:=(J.block _ (dK aL)).trans aL;have bc:=(J.block _ (dK bd)).trans bd;have aI:=gq aH J;have aY:=gq aX J;have aV:=aU.keep (KQ.below J);have b5:=dK aA;have b6:w.heap.size<w3.heap.size:=zo;have hz5:=dK bc;have aq:=EQ aG;have ae:=EQ aA;have rf:=gh aG;have ff:=gh aA;have sc:=EQ bc;clear hZ J bc aR aL bd aH aX aU ar bA;by_cases hx:z.2=0
  .have bJ:((z.2:Nat):Int)=0:=zo;have bq:Hid (iz s=if 16<iw rs then .error (s.size,4) else .ok (al,rs)):=by grind
   have aO:=fy (tC (pT al rs) (by rw[HZ.out];exact hx));have bR:=fy (λr hr hc=>Ip (λt h=>h.1) (au.out r hr) hc ((mD (List.append_eq_nil_iff.1 aO.out).2 r hr).2 hc));have br:=fy (λr hr hc=>zx (λt h=>h.1) (au.out r hr) hc ((mD (List.append_eq_nil_iff.1 aO.out).2 r hr).2 hc));have bT:Hid (∀r∈rs,gI (gO r)<=100000):=λr hr=>by have:=yN (au.out r hr) (br.out r hr);omega
   clear aO aQ hx HZ br;have ag:=ir w3 (xi #[xd xh z.1,xd xh 0] 80);have bh:=gq aI ag;have bw:=gq aY ag;have bt:=aV.keep (KQ.below ag);have aJ:=ax.trans (ag.mono ax.size);have aS:=(ag.block _ b6).trans aG;have aM:=(ag.block _ b5).trans aA;clear ag aI aY aV ax;go_wp2_with fail;refine(Im bh bw bt bR.out bD ba bX.out (λr hr=>Ns (au.out r hr))).mono ?_;rintro e w5 ⟨aE,a1,a2,a3,m1,m2,m3,cs,rfl,bC,bI,bG⟩;have a8:=(aE.block _ (dK aS)).trans aS;have a7:=(aE.block _ (dK aM)).trans aM;have bl:=aJ.trans (aE.mono aJ.size);have ai:=ir w5 (xi #[xa a1 a2 a3,xa m1 m2 m3] 78);have bj:=gq bC ai;have a6:=gq bI ai;have aW:=bG.keep (KB.below ai);have aK:=bl.trans (ai.mono bl.size);have aT:=(ai.block _ (dK a8)).trans a8;have aN:=(ai.block _ (dK a7)).trans a7;have bf:(w5.alloc (xi #[xa a1 a2 a3,xa m1 m2 m3] 78)).heap[w5.heap.size]?=some (xi #[xa a1 a2 a3,xa m1 m2 m3] 78 (0,0)):=gi _ _;clear aq ae rf ff sc aE bC bI bG a8 a7 ai bh bw bt aJ aS aM;go_wp2_with fail;generalize w5.alloc (xi #[xa a1 a2 a3,xa m1 m2 m3] 78)=w6 at *;refine(Gt a6 aW ba bT.out).mono ?_;rintro e w7 ⟨rfl,U⟩;have bQ:=gq bj U;have bV:=gq a6 U;have bU:=aW.keep (KB.below U);have bm:=aK.trans (U.mono aK.size);have aj:=(U.block _ (dK aT)).trans aT;have ad:=(U.block _ (dK aN)).trans aN;have bK:=(U.block _ (dK bf)).trans bf;have hz7:=dK ad;have aq:=EQ aj;have ae:=EQ ad;have rf:=gh aj;have ff:=gh ad;have xc:=EQ bK;clear U bK bj a6 aW aK aT aN bf;generalize hN:iw rs=n at *;clear hN;by_cases hx:16<n
   .have bJ:(16:Int)<(n:Int):=zo;have ay:Hid (iz s=.error (s.size,4)):=by grind
    clear xc bq;go_wp2_with fail;clear aq ae;obtain⟨f1,f2⟩:=tH TV TV (xd xh s.size) (xd xh 4) aj ad;have rc:=EQ f1;have fc:=EQ f2;unfold sy at rc fc;refine py (v:=.tuple #[.agg #[TV,TV],.agg #[xd xh s.size,xd xh 4]]) (by simp[results,results39,go_sem,rc,fc]) rfl ?_;exact TC.err (nP bm (XH)) ay.out rfl
   have ay:Hid (iz s=.ok (al,rs)):=by grind
   clear bq;go_wp2_with fail;clear aq ae xc;obtain⟨f1,f2⟩:=tH (xa a1 a2 a3) (xa m1 m2 m3) (xd xh 0) (xd xh 0) aj ad;have rc:=EQ f1;have fc:=EQ f2;unfold sy at rc fc;refine py (v:=.tuple #[.agg #[xa a1 a2 a3,xa m1 m2 m3],.agg #[xd xh 0,xd xh 0]]) (by simp[results,results39,go_sem,rc,fc]) rfl ?_;refine⟨nP bm (XH),?_⟩;rw[ay.out];refine⟨a1,a2,a3,m1,m2,m3,cs,rfl,?_,?_,?_⟩
   .exact(Fj aj ad).owns bQ
   .exact Jp aj ad bV
   exact bU.keep (Fj aj ad)
  have bJ:¬ ((z.2:Nat):Int)=0:=zo;have ay:Hid (iz s=.error z):=by grind
  clear aQ hx aI aY aV sc;go_wp2_with fail
  go_region
  go_wp2_with fail;clear aq ae;obtain⟨f1,f2⟩:=tH TV TV (xd xh z.1) (xd xh z.2) aG aA;have rc:=λo=>EQ ((Uf _ (xi #[xd xh z.1,xd xh z.2] 80) _ (dK f1)).trans f1) o
  have fc:=λo=>EQ ((Uf _ (xi #[xd xh z.1,xd xh z.2] 80) _ (dK f2)).trans f2) o
  unfold sy at rc fc;refine py (v:=.tuple #[.agg #[TV,TV],.agg #[xd xh z.1,xd xh z.2]]) (by simp[results,results39,go_sem,rc,fc]) rfl ?_;exact TC.err ((nP ax (XH)).alloc (nP ax (XH)).size _).drew ay.out rfl
 have bS:Hid (iz s=.error (q,2)):=by show _=_;rw[HL.out,ak];rfl
 have aw:=(I.block _ (dK aB)).trans aB;have aa:=(I.block _ (dK az)).trans az;have ar:=aF.trans (I.mono zs);have bM:=dK aa;have hz0:w.heap.size<w1.heap.size:=zo;have rf:=gh aw;have ff:=gh aa;have aq:=EQ aw;have ae:=EQ aa;clear I ak;go_wp2_with fail;clear aq ae;obtain⟨f1,f2⟩:=tH TV TV (xd xh q) (xd xh 2) aw aa;have rc:=λo=>EQ ((Uf _ (xi #[xa o1 n1 k1,xa o2 n2 k2] 128) _ (dK f1)).trans f1) o
 have fc:=λo=>EQ ((Uf _ (xi #[xa o1 n1 k1,xa o2 n2 k2] 128) _ (dK f2)).trans f2) o
 unfold sy at rc fc;refine py (v:=.tuple #[.agg #[TV,TV],.agg #[xd xh q,xd xh 2]]) (by simp[results,results39,go_sem,rc,fc]) rfl ?_;exact TC.err ((nP ar (XH)).alloc (nP ar (XH)).size _) bS.out rfl
def nw(x:Bool):UInt8:=if x=true then 1 else 0
theorem qU(x:Bool):((nw x).toNat:Int)=if x=true then 1 else 0:=by cases x<;>rfl
def gK(b:T7):Ub:=⟨(b.map nw).toArray⟩
theorem oM(b:T7):(gK b).data.toList=b.map nw:=zf
theorem lN(b:T7):(gK b).size=b.length:=by grind[LT,oM]
theorem B8{y:Bool}(h:nw x=nw y):x=y:=by grind[nw]
def Dw{a:T7}(h:gK a=gK b):a=b:=by
 have:=congrArg (λs=>s.data.toList) h;simp only[oM] at this;exact(V8 (λ_ _ e=>B8 e)).1 this
theorem oL{k:Nat}(hk:k<(gK b).size)(h:b[k]?=some x):((gK b)[k].toNat:Int)=if x=true then 1 else 0:=by
 have e:(gK b).data.toList[k]?=some (gK b)[k]:=by
  rw[Uq zv];rfl
 grind[oM,qU]
theorem GY(b:T7)(k:Nat)(x:Bool)(h:b[k]?=some x)(w:Uc):
  Calls prog 129 #[xj (gK b),xd xh (k:Int)] w λe w'=>e=xm (xn x)/\w'=w:=by
 have I:k<(gK b).size:=by grind[lN]
 have HA:=fy (oL I h);generalize gK b=s at *;clear h;go_in;go_wp2;go_ret;refine⟨ja ?_,rfl⟩
 grind[gQ]
def LK(b:T7):decide (0<=Lib.indexByte (gK b).data.toList 1)=b.any id:=by
 rw[<-Lib.contains_iff_indexByte,oM]
 induction b with
 |nil=>rfl
 |cons x r ih=>
  rw[UZ,List.contains_cons,ih,List.any_cons];cases x<;>rfl
def Dv(b:T7)(w:Uc):
  Calls prog 130 #[xj (gK b)] w λe w'=>e=xm (xn (!b.any id))/\w'=w:=by
 have I:=Tryz.strings_Contains_one (gK b) 1 w;rw[LK] at I;generalize gK b=s at *;go_in;go_wp2_with fail;refine I.mono ?_;rintro e w1 ⟨rfl,hw⟩;have J:=hw.symm;clear hw;subst J;go_wp2;go_ret;simp
def IL(hb:b≠[])(w:Uc):
  Calls prog 84 #[xj (gK b)] w λe w'=>e=xm (xd xh (jR b:Nat))/\w'=w:=by
 obtain⟨x,U⟩:∃x,b[0]?=some x:=by
  cases b with
  |nil=>trivial
  |cons x r=>simp
 have HF:Hid (jR b=(if x=true then 1 else 0)+(if b.any id=true then 2 else 0)):=by
  show _=_;unfold jR;simp_all
 have HH:=GY b 0 x U w;have J:=Dv b w;generalize gK b=s at *;generalize b.any id=y at *;clear U hb;go_in;go_wp2_with fail;refine HH.mono ?_;rintro e w1 ⟨rfl,hw⟩;have I:=hw.symm;clear hw;subst I;cases x with
 |true=>
  go_wp2_with fail;refine J.mono ?_;rintro e w1 ⟨rfl,hw⟩;have I:=hw.symm;clear hw;subst I;cases y with
  |true=>
   exact zm117
  |false=>
   exact zm117
 |false=>
  go_wp2_with fail;refine J.mono ?_;rintro e w1 ⟨rfl,hw⟩;have I:=hw.symm;clear hw;subst I;cases y with
  |true=>
   exact zm117
  |false=>
   exact zm117
def qv(b:T7):T1:=(b.map λx=>xd .u8 ((nw x).toNat:Int)).toArray
def pH{k:Nat}(h:b[k]?=some x):(qv b)[k]?=some (xd .u8 ((nw x).toNat:Int)):=by
 unfold qv;simp_all
theorem B9(b:T7)(k:Nat)(x:Bool):(qv b).setIfInBounds k (xd .u8 ((nw x).toNat:Int))=qv (b.set k x):=by
 unfold qv;simp
theorem uA(n:Nat):qv (Rw n false)=Array.replicate n (xd .u8 0):=by unfold qv;simp[nw]
theorem Aj{w:Uc}{g:Nat}{ty:Nat}(h:w.heap[g]?=some (xi (qv b) ty m))(hn:b.length=n):
  (convert 51 151 (xa (TT g) n n)).run prog w=.ok (xj (gK b)) w:=by
 have:=Vh (P:=prog) w 51 151 5 (TU g 0) n (b.map nw) underlying51 underlying5 underlying151 (λj J=>by
  have I:j<b.length:=by simpa using J
  rw[Vm,U2,EQ h,pH (Uq I)];simp)
 grind[gK]
def iE(b:T7)(k:Nat):T7:=b.take k++Rw (b.length-k) false
def nL{k:Nat}(hk:k<=b.length):(iE b k).length=b.length:=by unfold iE;simp;omega
def nK(b:T7):iE b b.length=b:=by unfold iE;simp
def od(b:T7):iE b 0=Rw b.length false:=zf
def mR{k:Nat}(h:b[k]?=some x):iE b (k+1)=(iE b k).set k x:=by
 have hk:=(List.getElem?_eq_some_iff.1 h).1;unfold iE;rw[U5,h];obtain⟨m,hm⟩:∃m,b.length-k=m+1:=⟨b.length-k-1,zo⟩;rw[hm,show b.length-(k+1)=m from zo];have I:(b.take k).length=k:=by rw[Vi];omega
 rw[Wy _ _ zo,I,Wn,List.replicate_succ,Ve];simp
theorem wm{k:Nat}(h:b[k]?=some false):iE b (k+1)=iE b k:=by
 have hk:=(List.getElem?_eq_some_iff.1 h).1;unfold iE;rw[U5,h];obtain⟨m,hm⟩:∃m,b.length-k=m+1:=⟨b.length-k-1,zo⟩
 grind
def Tryz.infoPF:(prog.info? 142).map (λi=>(i.zero,i.size,i.bytes))=some (some (xk none),1,8):=zk
def uX(ps:List (TX)):TW:=ps.map λp=>xk p
def Jn(ps:List (TX))(p:TX):uX (ps++[p])=uX ps++[xk p]:=by simp[uX]
def TF.of{w:Uc}{base:Nat}{c:Nat}{ps:List (TX)}(hn:n=ps.length)(h:w.ownsRow base 142 1 (xa o n c) n (uX ps)):TF w o ps:=by
 subst hn;intro j p hp;have hj:j<ps.length:=by
  rcases UU j ps.length with h|h
  .omega
  simp_all
 obtain⟨g,I,J,U⟩:=gT h hj;exact⟨g,I,J,U.trans (by rw[uX,UG,hp];rfl)⟩
structure MW(w W:Uc)(lo:TX)(k lc:Nat)(ps:List (TX))(rs:T6):Prop where
 rb:W.heap[w.heap.size+1]?=some (xi #[TV,xd .u32 0] 149 (0,0))
 own:W.ownsRow (w.heap.size+2) 142 1 (xa lo k lc) k (uX ps)
 ps:Tu w rs ps
 bel:XL w W
def Tu.snoc{w:Uc}{ps:List (TX)}{p:TX}(h:Tu w rs ps)(hp:Pi w (gO r) p):Tu w (rs++[r]) (ps++[p]):=by
 refine⟨by simp[h.1],λj r' p' I J=>?_⟩;rcases UU j rs.length with hj|hj
 .rw[UJ hj] at I;rw[UJ (by rw[<-h.1];omega)] at J;exact h.2 j r' p' I J
 rw[Uv hj] at I;rw[Uv (by rw[<-h.1];omega)] at J;have U:j-rs.length=0:=by
  rcases WI (j-rs.length) with h|h
  .omega
  rw[VA zs] at I;cases I
 rw[U] at I;rw[<-h.1,U] at J;cases I;cases J;exact hp
def S6.set{w:Uc}{S:List Sp}{c i ty:Nat}{k:Nat}{z:Ud}(h:S6 w o S)(hc:w.heap[c]?=some (xi #[xa a n k,y] ty m)):S6 (w.setCell (TU c i) z) o S:=by
 intro j d J;obtain⟨g,h1,h2,I,h4,h5,h6⟩:=h j d J;have hne:g≠c:=by
  rintro rfl;rw[EQ hc] at I;rcases WI j with rfl|hj
  .simp_all
  rw[Array.getElem?_eq_none (by show 2<=j*4;omega)] at I;cases I
 have e:∀x,(w.setCell (TU c i) z).cell? (TU g x)=w.cell? (TU g x):=by
  intro x;have:=Ug w (TU c i) z g zo;unfold World.cell?;simp_all
 simp_all
def MW.later{w:Uc}{k:Nat}{ps:List (TX)}(h:MW w W lo k lc ps rs)(I:XL W W'):MW w W' lo k lc ps rs:=
 ⟨(I.block _ (dK h.rb)).trans h.rb,gq h.own I,h.ps,h.bel.trans (I.mono h.bel.size)⟩
def MW.app{w:Uc}{k:Nat}{ps:List (TX)}(h:MW w W lo k lc ps rs){p:TX}(J:Tu w (rs++[r]) (ps++[p])){g:Nat}(ho:W'.ownsRow (w.heap.size+2) 142 1 (xa (TT g) (k+1) cap) (k+1) (uX ps++[xk p]))(hg:W.grownBy W' (xa lo k lc).ownBlock):MW w W' (TT g) (k+1) cap (ps++[p]) (rs++[r]):=
 ⟨(hg.block _ (dK h.rb) (λe=>gz h.own e.symm h.rb zp)).trans h.rb,by rw[Jn];exact ho,J,h.bel.grown hg h.bel.size (λb I=>by have:=(gJ h.own b I).1;omega)⟩
def Ae{w:Uc}(a1:TX)(a2 a3:Nat){cells:TW}(hr:w.ownsRow 0 144 3 (xa m1 m2 m3) rs.length cells)(hp:SI w rs cells)(hn:iw rs<=16)(aR:rs.length<=401)(aA:∀r∈rs,gO r≠ .nil):
  Calls prog 78 #[.agg #[xa a1 a2 a3,xa m1 m2 m3]] w λe w'=>Hv rs w w' e:=by
 obtain⟨i0,aL,aW,aX,aY⟩:=Uk Tryz.infoPF;obtain⟨aP,U⟩:=zU hr;have hn2a:m2<=rs.length:=zo;have hn2b:rs.length<=m2:=zo;have au:=fy U;have aF:=fy aA;clear hr aP U aA;have aD:Hid (MW w ((w.alloc (xi #[xa a1 a2 a3,xa m1 m2 m3] 78)).alloc (xi #[TV,xd .u32 0] 149)) none 0 0 [] []):=
  ⟨gu zp,XG,⟨rfl,λj r p h=>by simp at h⟩,gC.alloc zp _⟩
 go_in;go_wp2_with fail;generalize ((w.alloc (xi #[xa a1 a2 a3,xa m1 m2 m3] 78)).alloc (xi #[TV,xd .u32 0] 149))=W0 at *
 go_loopw [3,9] (λlv x wr=>∃(k:Nat) (lo:TX) (lc:Nat) (ps:List (TX)),k<=rs.length/\lv=xa lo k lc/\x=xd xh k/\Hid (MW w wr lo k lc ps (rs.take k))) (λ_ x _=>rs.length-(intOf x).toNat)
 .exact⟨0,none,0,[],Ux,rfl,rfl,aD⟩
 obtain⟨k,lo,lc,ps,hk,rfl,rfl,I⟩:=hrel;have hwsz:=I.out.bel.size;have hrlt:=dK I.out.rb;by_cases hlt:k<rs.length
 .obtain⟨r,rr,ht⟩:∃r rr,rs.drop k=r::rr:=by
   cases hd:rs.drop k with
   |nil=>have:=congrArg RR hd;simp at this;omega
   |cons r rr=>simp
  obtain⟨g,aQ,hle,aw,cur,ai,aa⟩:=au.out zo;unfold maxLen at aw;have az:=dK ai;obtain⟨wd,ao,an,ac,p,g0,g1,g2,g3⟩:=hp.at k ht;have ad:=(I.out.bel.block _ az).trans ai;have d0:=(EQ ad (k*3)).trans (Q0 (k:=k*3) (o:=0) aa zo g0);have d1:=(EQ ad (k*3+1)).trans (Q0 aa zo g1);have d2:=(EQ ad (k*3+2)).trans (Q0 aa zo g2);subst aQ;have aI:=fy (oO ht);have aH:=I.out.ps.snoc g3.1;have aO:(k:Int)<(m2:Int):=zo;have ar:=I.out.later (((Uo wr.heap.size wr).alloc (XH) (xi #[xj wd,xa ao an ac,xk p] 144)).alloc zp (xi #[xk p] 142));clear ht ai aa ad cur g0 g1 g2 g3
  go_wp2_with (at_builtin;go_must (refine Uz _ rfl _ _ 212 rfl (w.heap.size+2) 142 i0 (xk none) 1 8 underlying212 aL aW aX aY rfl zd _ k (uX ps) rfl ?c0 (TU (wr.heap.size+1) 0) 1 1 [xk p] rfl rfl ?c1 ?c2 zd ?c3 ?c4 ?c5 (wr.heap.size+2) ?c6 ?_))
  case c0=>exact ar.own
  case c1=>
   intro j u hj
   match j,hj with
   |0,hj=>simp at hj;subst hj;exact EQ (gu zp) 0
   |j+1,hj=>simp at hj
  case c2=>intro u hu;simp at hu;subst hu;rfl
  case c3=>unfold maxLen;omega
  case c4=>omega
  case c5=>simp;omega
  case c6=>simp
  intro g8 av q8 ae J _ _;have aE:=ar.app aH ae J;clear ae J;go_wp2
  go_roundw
  .exact⟨k+1,TT g8,av,ps++[p],zo,rfl,zf,by rw[aI.out];exact aE⟩
  simp[intOf];omega
 have aO:¬ (k:Int)<(m2:Int):=zo;have aM:rs.take k=rs:=UF zo;rw[aM] at I;have aN:k=rs.length:=zo;subst aN;have aC:=TF.of I.out.ps.1 I.out.own;have aG:=DN lc aC (I.out.ps.later I.out.bel) hn aR aF.out
 go_wp2_with (refine aG.mono ?_)
 rintro e w5 ⟨so,sc,rfl,aU,ag⟩;have hrb:=(ag.block _ (dK I.out.rb)).trans I.out.rb;have rc:=EQ hrb;have rf:=gh hrb;have aq:=I.out.bel.trans (ag.mono I.out.bel.size);clear ag;go_wp2_with fail;have ax:=gj hrb 0 (xa so (gH rs []).length sc);have ay:=gj ax 1 (xd .u32 ((ij rs [] 0:Nat):Int));have aS:S6 (w5.setCell (TU (w.heap.size+1) 0) (xa so (gH rs []).length sc)) so (gH rs []):=aU.set hrb;have aT:S6 ((w5.setCell (TU (w.heap.size+1) 0) (xa so (gH rs []).length sc)).setCell (TU (w.heap.size+1) 1) (xd .u32 ((ij rs [] 0:Nat):Int))) so (gH rs []):=aS.set (a:=so) (n:=(gH rs []).length) (k:=sc) (y:=xd .u32 0) ax;have aK:XL w ((w5.setCell (TU (w.heap.size+1) 0) (xa so (gH rs []).length sc)).setCell (TU (w.heap.size+1) 1) (xd .u32 ((ij rs [] 0:Nat):Int))):=by
  have h1:=aq.grown (gp w5 (w.heap.size+1) 0 (xa so (gH rs []).length sc)) aq.size (λb hb=>by cases hb;omega);exact h1.grown (gp _ _ _ _) h1.size (λb hb=>by cases hb;omega)
 generalize ((w5.setCell (TU (w.heap.size+1) 0) (xa so (gH rs []).length sc)).setCell (TU (w.heap.size+1) 1) (xd .u32 ((ij rs [] 0:Nat):Int)))=wf at *;have aj:=ay;have fc:=EQ aj;refine py (v:=.agg #[xa so (gH rs []).length sc,xd .u32 ((ij rs [] 0:Nat):Int)]) (by simp[results,results78,go_sem,fc]) rfl ?_;exact⟨so,sc,rfl,aT,aK⟩
def IP{s:Ub}(h:iz s=.ok (al,rs))(tr:TZ):jQ s tr=if tr.all (λx=>iB al x)=true then (rs.all (λr=>jA tr.length (n9 tr) (gO r) 1),0) else (false,3):=by
 unfold jQ;rw[h]
def Ge{s:Ub}{x:T3}(h:iz s=.error x)(tr:TZ):jQ s tr=(false,x.2):=by
 unfold jQ;rw[h]
def FK{w:Uc}(I:Q5 al rs){cells:TW}(hr:w.ownsRow 0 144 3 (xa m1 m2 m3) rs.length cells)(hp:SI w rs cells)(hT:So w tt tr)(hn:tr.length<=10000000000000):
  Calls prog 42 #[.agg #[xa a1 a2 a3,xa m1 m2 m3],xa tt tr.length tc] w λe w'=>e=xm (xn (rs.all (λr=>jA tr.length (n9 tr) (gO r) 1)))/\XL w w':=by
 have hB:=ir w (xi #[xa a1 a2 a3,xa m1 m2 m3] 78);have HW:=Ae a1 a2 a3 (gq hr hB) (hp.keep (KB.below hB)) I.nodes I.rlen (λr hr=>(I.fg r hr).ne);have HT:=hT.later hB;have HG:=tP I;have HK:=fy (CL I tr);have ai:ij rs [] 0<4294967296:=Uw (sk rs [] 0 zd (λr hr=>(I.fg r hr).ne)) (UP (VO zd (show _<=32 by have:=(tP I).len;omega)) zd);clear I hr hp hT;go_in
 go_wp2_with (go_at_call 78;refine HW.mono ?_)
 rintro e w1 ⟨so,sc,rfl,ag,J⟩;have ae:=HT.later J;have U:=hB.trans (J.mono hB.size);clear J
 go_wp2_with (go_at_call 79;refine(FT ag HG ae ai hn).mono ?_)
 rintro e w2 ⟨rfl,aa⟩;rw[HK.out];have ad:=U.trans (aa.mono U.size);clear aa;go_wp2;go_ret;exact⟨rfl,ad⟩
def FL{w:Uc}(ha:w.ownsRow 0 9 1 (xa a1 a2 a3) al.length (kp al))(hT:So w tt tr)(hn:tr.length<=10000000000000):
  Calls prog 41 #[.agg #[xa a1 a2 a3,xa m1 m2 m3],xa tt tr.length tc] w λe w'=>e=xm (xn (tr.all (λx=>iB al x)))/\XL w w':=by
 have hB:=ir w (xi #[xa a1 a2 a3,xa m1 m2 m3] 78);have J:=gi w (xi #[xa a1 a2 a3,xa m1 m2 m3] 78);have HA:=gq ha hB;have HT:=hT.later hB;clear ha hT;go_in;go_wp2_with fail;generalize w.alloc (xi #[xa a1 a2 a3,xa m1 m2 m3] 78)=W at *;have mc:=EQ J;have hml:=dK J
 go_loopw [9] (λx wr=>∃k:Nat,k<=tr.length/\x=xd xh k/\Hid (W=wr)/\Hid ((tr.take k).all (λx=>iB al x)=true)) (λx _=>tr.length-(intOf x).toNat)
 .exact zm56
 obtain⟨k,hk,rfl,HW,HK⟩:=hrel;have hw:=HW.out;subst hw;clear HW;rcases zc k tr.length with⟨hlt,hkn⟩|⟨hlt,hkn⟩
 .obtain⟨b,off,ai,hbl,hcx⟩:=HT k tr[k] (Uq hlt);have ae:Hid (tr.take (k+1)=tr.take k++[tr[k]]):=by show _=_;rw[U5,Uq hlt];rfl
  have ad:=fy (UY hlt);subst ai;generalize tr[k]=x at *;have U:=qZ (s:=x) HA;cases hx:iB al x with
  |false=>
   have HF:Hid (tr.all (λx=>iB al x)=false):=by
    show _=_;rw[List.all_eq_false];exact⟨x,ad.out,by rw[hx];decide⟩
   rw[hx] at U;clear hx
   go_wp2_with (go_at_call 77;refine U.mono ?_)
   rintro e w2 ⟨rfl,I⟩;have h2:=I.symm;clear I;subst h2;go_wp2;go_ret;rw[HF.out];exact⟨rfl,hB⟩
  |true=>
   have HK2:Hid ((tr.take (k+1)).all (λx=>iB al x)=true):=by
    show _=_;rw[ae.out,Ww,HK.out];simp[hx]
   rw[hx] at U;clear hx
   go_wp2_with (go_at_call 77;refine U.mono ?_)
   rintro e w2 ⟨rfl,I⟩;have h2:=I.symm;clear I;subst h2;exact zm176
 rw[UF zo] at HK;go_wp2;go_ret;rw[HK.out];exact⟨rfl,hB⟩
def Ht(s:Ub)(w:Uc)(hG:GV w)(hT:So w tt tr)(hn:tr.length<=10000000000000):
  Calls prog 16 #[xj s,xa tt tr.length tc] w λe w'=>e=xm (.tuple #[xn (jQ s tr).1,xd xh (jQ s tr).2])/\XL w w':=by
 have HR:=xK s w hG;clear hG;go_in
 go_wp2_with (go_at_call 39;refine HR.mono ?_)
 rintro e w1 ⟨I,hm⟩;cases hr:iz s with
 |error x=>
  rw[hr] at hm;have ak:=my hr;have HX:=fy (Ge hr tr);obtain⟨xp,xe⟩:=x;have hne':¬ ((xe:Nat):Int)=0:=by have:xe≠0:=ak;omega
  subst hm;clear hr ak;go_wp2;go_quiet (fail);go_wp2_with fail;refine py (v:=.tuple #[xn false,xd xh xe]) (by simp[results,results16,go_sem]) rfl ?_;rw[HX.out];have hb:=((I.alloc I.size (xi #[TV,TV] 78)).alloc (by have:=I.size;simp;omega) (xi #[xd xh xp,xd xh xe] 80));exact⟨rfl,hb.trans ((iK _ _).mono hb.size)⟩
 |ok m=>
  obtain⟨al,rs⟩:=m;rw[hr] at hm;obtain⟨a1,a2,a3,m1,m2,m3,cs,rfl,ha,aq,hp⟩:=hm;have hg:=lK hr;have hX:=IP hr tr;have U:XL w1 ((w1.alloc (xi #[xa a1 a2 a3,xa m1 m2 m3] 78)).alloc (xi #[xd xh 0,xd xh 0] 80)):=gC.alloc zp _;have hmb:((w1.alloc (xi #[xa a1 a2 a3,xa m1 m2 m3] 78)).alloc (xi #[xd xh 0,xd xh 0] 80)).heap[w1.heap.size]?=some (xi #[xa a1 a2 a3,xa m1 m2 m3] 78 (0,0)):=(XD zp).trans (gi _ _);have HA:=gq ha U;have aA:=gq aq U;have aw:=hp.keep (KB.below U);have HB:=I.trans (U.mono I.size);have ai:=hT.later HB;have HX:=fy hX;clear hr ha aq hp hX U I HR hT
  go_wp2_with (go_at_call 41;refine(FL HA ai hn).mono ?_)
  rintro e w2 ⟨rfl,J⟩;generalize ((w1.alloc (xi #[xa a1 a2 a3,xa m1 m2 m3] 78)).alloc (xi #[xd xh 0,xd xh 0] 80))=W at *;have ad:=(J.block _ (dK hmb)).trans hmb;have mc:=EQ ad;have hml:=dK ad;have aa:=HB.trans (J.mono HB.size);have az:=gq aA J;have ay:=aw.keep (KB.below J);have aB:=ai.later J;clear J ad;cases hK:tr.all (λx=>iB al x) with
  |false=>
   have HF:Hid (jQ s tr=(false,3)):=by show _=_;rw[HX.out,T' (by rw[hK];decide)]
   clear hK HX;go_wp2_with fail;refine py (v:=.tuple #[xn false,xd xh 3]) (by simp[results,results16,go_sem]) rfl ?_;rw[HF.out];exact⟨rfl,aa⟩
  |true=>
   have HF:Hid (jQ s tr=(rs.all (λr=>jA tr.length (n9 tr) (gO r) 1),0)):=by show _=_;rw[HX.out,Uh hK]
   clear hK HX
   go_wp2_with (go_at_call 42;refine(FK hg az ay aB hn).mono ?_)
   rintro e w3 ⟨rfl,aj⟩;have av:=aa.trans (aj.mono aa.size);clear aj;generalize rs.all (λr=>jA tr.length (n9 tr) (gO r) 1)=B at *;go_wp2_with fail;refine py (v:=.tuple #[xn B,xd xh 0]) (by simp[results,results16,go_sem]) rfl ?_;rw[HF.out];exact⟨rfl,av⟩
open Go.ChangeShapes Go.WideShapes Go.ChangeAt
def QH:ownKnob prog.godebug=none:=zk
def KZ:laidOutB prog=true:=zk
def sD:prog.cellsOf 74=7:=zk
def Ce:prog.cellsOf 3=1:=zk
def qY:prog.cellsOf 9=1:=zk
def Ir:prog.cellsOf 25=1:=zk
def Iq:prog.cellsOf 33=1:=zk
def Is:prog.cellsOf 34=1:=zk
section
variable{H:Type}{enc:TypeId × Ud->H}
def vt{w:Uc}{base:Nat}{sp:Nat->Bool}{held:Bool}{t e:TypeId}{x:DataW H × List MemPlace}(I:prog.underlying t=some (.slice e))(h:DataW.trod enc prog w base sp held fuel t cs=some x):
  ∃a n k,cs=[xa a n k]:=by
 rcases DataW.trod_slice I h with⟨h0,_⟩|⟨a,len,cap,_,_,_,_,h0,_⟩
 .simp_all
 simp_all
def NY{w:Uc}{base:Nat}{sp:Nat->Bool}{held:Bool}{x:DataW H × List MemPlace}(h:DataW.trod enc prog w base sp held fuel 74 cs=some x):
  ∃(kd oa:Int)(os ot:Ub)(l1:TX)(l2 l3:Nat)(J:TX)(U f3:Nat)(m1:TX)(m2 m3:Nat),cs=[xd xh kd,xd xh oa,xj os,xj ot,xa l1 l2 l3,xa J U f3,xa m1 m2 m3]:=by
 obtain⟨xs,n,_,_,hl,I,hf⟩:=DataW.trod_struct underlying74 h;rw[sD] at hl
 match cs,hl with
 |[c0,c1,c2,c3,c4,c5,c6],_=>
 have h7:=I
 match xs,h7 with
 |[y0,y1,y2,y3,y4,y5,y6],_=>
 have t0:=hf 0 _ rfl;have t1:=hf 1 _ rfl;have t2:=hf 2 _ rfl;have t3:=hf 3 _ rfl;have t4:=hf 4 _ rfl;have t5:=hf 5 _ rfl;have t6:=hf 6 _ rfl;simp[Ce,qY,Ir,Iq,Is] at t0 t1 t2 t3 t4 t5 t6;obtain⟨kd,e0,_⟩:=VG underlying3 t0;obtain⟨oa,e1,_⟩:=VG underlying3 t1;obtain⟨os,e2,_⟩:=Vr underlying9 t2;obtain⟨ot,e3,_⟩:=Vr underlying9 t3;obtain⟨l1,l2,l3,e4⟩:=vt underlying25 t4;obtain⟨J,U,f3,e5⟩:=vt underlying33 t5;obtain⟨m1,m2,m3,e6⟩:=vt underlying34 t6;simp_all
end
/-! What the row's list of variables gives. -/
def rj{P:Program}{w:Uc}:∀{l:List (String × DataW Unit)} {ps:List MemPlace},DataW.LaidVars P w l ps->∀x∈l,∃g t cs fuel p,P.globalNamed x.1=some g/\(P.globals[g]?).map (·.type)=some t/\w.var? P x.1=some cs/\DataW.trod (λ_=>()) P w 0 (λ_=>true) false fuel t cs.toList=some (x.2,p)
 |[],_,_,x,hx=>(US hx).elim
 |(n,d)::r,ps,⟨g,t,cs,fuel,p,q,h1,h2,h3,h4,h5,_⟩,x,hx=>by
  rcases List.mem_cons.1 hx with rfl|hx
  .exact⟨g,t,cs,fuel,p,h1,h2,h3,h4⟩
  exact rj h5 x hx
theorem zY{P:Program}{w:Uc}{n:String}{g:Nat}{cs:T1}(hg:P.globalNamed n=some g)(h:w.var? P n=some cs):∃t m,w.heap[g]?=some (xi cs t m):=by
 unfold World.var? at h
 grind
theorem ux{P:Program}{w:Uc}{base:Nat}{sp:Nat->Bool}{held:Bool}{t e:TypeId}{k:Nat} 
  (ht:P.underlying t=some (.array n e))(I:P.cellsOf e=k)(J:P.cellsOf t=n*k)
  (h:DataW.trod (λ_=>()) P w base sp held fuel t cs=some (.agg ds,p)):
  cs.length=n*k/\ds.length=n/\∀i d,ds[i]?=some d->∃f q,DataW.trod (λ_=>()) P w base sp held f e ((cs.drop (i*k)).take k)=some (d,q):=by
 cases fuel with
 |zero=>trivial
 |succ fuel=>
  simp only[DataW.trod,ht,I,J] at h
  split at h
  .rename_i hl
   obtain⟨xs,hm,hx⟩:=Option.map_eq_some_iff.1 h;have aa:xs.map (·.1)=ds:=by
    simp_all
   have U:xs.length=n:=by simpa using Lib.mapM_length hm
   refine⟨zo,by rw[<-aa];simpa using U,λi d hd=>?_⟩;have hi:i<n:=by
    grind
   obtain⟨b,hb,hf⟩:=Lib.mapM_at hm i i (by simp[hi])
   grind
  cases h
def SW{k:Nat}(F:α->TW)(J:∀x,(F x).length=k):∀(l:List α)(cs:TW),cs.length=l.length*k->(∀i x,l[i]?=some x->(cs.drop (i*k)).take k=F x)->cs=l.flatMap F
 |[],cs,hl,_=>za
 |x::r,cs,hl,h=>by
  have I:=h 0 x rfl;simp at I;have hr:=SW F J r (cs.drop k) (by simp at hl|-;rw[hl,WJ];omega) (λi y hy=>by
   have:=h (i+1) y zv;rw[Xn];rw[WJ,Nat.add_comm] at this;omega)
  rw[VB,<-hr,<-I,Vn]
def G7{w:Uc}{base:Nat}{sp:Nat->Bool}{held:Bool}{t:TypeId}{l:List (T9)} 
  (J:prog.underlying t=some (.array n 9))(hct:prog.cellsOf t=n)
  (h:DataW.trod (λ_=>()) prog w base sp held fuel t cs=some (.agg (l.map λx=>.lit (.string x)),p)):cs=l.flatMap λx=>[xj ⟨x.toArray⟩]:=by
 obtain⟨h1,h2,I⟩:=ux J qY zo h;refine SW (k:=1) _ (λ_=>rfl) l cs za (λi x U=>?_);obtain⟨f,q,hf⟩:=I i (.lit (.string x)) (by simp[U]);obtain⟨s,e1,e2,_⟩:=Vr underlying9 hf;simp_all
def wH{w:Uc}{base:Nat}{sp:Nat->Bool}{held:Bool}{t:TypeId}{l:List (T9 × Int)} 
  (ht:prog.underlying t=some (.array n 309))(U:prog.cellsOf t=n*2)(I:prog.cellsOf 309=2)
  (h:DataW.trod (λ_=>()) prog w base sp held fuel t cs=some (.agg (l.map λx=>.agg [.lit (.string x.1),.lit (.int xh x.2)]),p)):cs=l.flatMap λx=>[xj ⟨x.1.toArray⟩,xd xh x.2]:=by
 obtain⟨h1,h2,h3⟩:=ux ht I U h;refine SW (k:=2) _ (λ_=>rfl) l cs za (λi x hx=>?_);obtain⟨f,q,hf⟩:=h3 i (.agg [.lit (.string x.1),.lit (.int xh x.2)]) (by simp[hx]);obtain⟨y0,y1,m,hy,J,t0,t1⟩:=trod_struct2 underlying309 hf;rw[I] at J;generalize (cs.drop (i*2)).take 2=c at *
 match c,J with
 |[c0,c1],_=>
 simp[qY,show prog.cellsOf 199=1 from zk] at t0 t1;obtain⟨s,e0,e2,_⟩:=Vr underlying9 t0;obtain⟨z,e1,e3,_⟩:=VG underlying199 t1;simp_all
def PG:List (T9 × Int):=[([97,99,116,115],4),([114,117,108,101],5),([116,114,117,101],6),([102,97,108,115,101],7),([101,110,100],8)]
def Oa:List (T9 × Int):=[([88],9),([78],10),([70],11),([71],12),([85],13),([45,62],14),([124],15),([38],16),([33],17),([40],18),([41],19),([44],20),([59],21)]
def Nr:List (T9):=[[],[116,114,117,101],[102,97,108,115,101],[101,110,100],[33],[88],[78],[70],[71],[85],[38],[124],[45,62]]
def xZ(w:Uc)(lb:Nat)(dk:Ud)(M:Nat)(tx ix rx wt et wb eb:Ud):Prop:=w.heap[lb]?=some (xi #[dk,xd xh (M:Int),tx,ix,rx,wt,et,wb,eb] 71 (0,0))
def Ln{w:Uc}{base g:Nat}(h:w.ownsRow base e 1 (xa (TT g) n cap) n xs)(i:Nat)(v:Ud):(w.setCell (TU g i) v).ownsRow base e 1 (xa (TT g) n cap) n (xs.set i v):=by
 exact zm39
def SB(w:Uc)(b q:Nat)(v:Ud)(e:Nat):Prop:=AF w b q v/\Q2 w b e
def SB.same{w w':Uc}{b q:Nat}{v:Ud}(h:SB w b q v e)(I:w'.heap[b]?=w.heap[b]?):SB w' b q v e:=by
 refine⟨λi hi=>?_,?_⟩
 .have:=h.1 i hi;unfold World.cell? at this|-;simp_all
 obtain⟨c,m,hc⟩:=h.2;exact⟨c,m,I.trans hc⟩
def SB.lt{w:Uc}{b q:Nat}{v:Ud}(h:SB w b q v e):b<w.heap.size:=by obtain⟨c,m,hc⟩:=h.2;exact dK hc
def SB.later{w w':Uc}{b q:Nat}{v:Ud}(h:SB w b q v e)(I:XL w w'):SB w' b q v e:=h.same (I.block _ h.lt)
def SB.mk{w w':Uc}{b q:Nat}{v l:Ud}(h:SB w b q v e)(hm:TH l v N e w w')(I:q<=N):SB w' b q v e:=⟨hm.af b q h.lt I h.1,hm.ty b h.2⟩
def SB.set{w:Uc}{b q c ty o:Nat}{v:Ud}{cs:T1}(h:SB w b q v e)(hc:w.heap[c]?=some (xi cs ty m))(hne:ty≠e):SB (w.setCell (TU c o) u) b q v e:=by
 refine h.same (XE ?_);show b≠c;rintro rfl;obtain⟨c',m',h'⟩:=h.2;simp_all
theorem SB.grown{w w':Uc}{b q base:Nat}{v r:Ud}(h:SB w b q v e)(ho:w.ownsRow base e' size r n xs)(hg:w.grownBy w' r.ownBlock)(hne:e≠e'):SB w' b q v e:=by
 refine h.same (hg.block b h.lt (λe1=>?_));obtain⟨c,m,hc⟩:=h.2
 grind[gz]
def SB.allM{w:Uc}{b q:Nat}{v:Ud}{c:Nat}(h:SB w b q v e)(I:q<=10000000000000):Q1 w (xa (TT b) q c) v e:=⟨_,_,_,rfl,I,λi hi=>⟨b,rfl,h.2,h.1 i hi⟩⟩
structure Ad(lb:Nat)(l tx:Ud)(w w':Uc):Prop where
 os:w'.os=w.os
 tape:w'.tape=w.tape
 output:w'.output=w.output
 size:w.heap.size<=w'.heap.size
 block:∀k,k<w.heap.size->k≠lb->l.ownBlock≠some k->tx.ownBlock≠some k->w'.heap[k]?=w.heap[k]?
def uO(M:Nat):Ub:=⟨#[109,97,114,107,32]⟩++⟨(Lib.itoa (M:Int)).toArray⟩
def Tryz.infoU8p:(prog.info? 5).map (λi=>(i.zero,i.size,i.bytes))=some (some (xd .u8 0),1,1):=zk
def qM(w:Uc)(n:Nat)(hn:n<=10000000000):(Instr.makeSlice 51 (xd xh (n:Int)) (xd xh (n:Int))).run prog w=.ok (xa (TT w.heap.size) n n) (w.alloc (xi (Array.replicate n (xd .u8 0)) 5)):=by
 obtain⟨i0,I,J,U,hz2⟩:=Uk Tryz.infoU8p;exact ry (P:=prog) w 51 5 i0 (xd .u8 0) underlying51 I J U rfl zo n hn
def TL(w:Uc)(o:TX)(l:T5):Prop:=∀(j:Nat)(x:Nat),l[j]?=some x->∃b off,o=some ⟨b,off,none⟩/\b<w.heap.size/\w.cell? (TU b (off+j))=some (xd .u32 (x:Int))
def TL.later{w w':Uc}{l:T5}(h:TL w o l)(J:XL w w'):TL w' o l:=λj x hx=>by
 obtain⟨b,off,U,I,h3⟩:=h j x hx;exact⟨b,off,U,Uw I J.size,(Fd J _ _ I).trans h3⟩
structure BX(w wr:Uc)(T:T1)(ty:Nat)(b:T7):Prop where
 blk:wr.heap[w.heap.size+1]?=some (xi (qv b) 5 (0,0))
 box:wr.heap[w.heap.size]?=some (xi T ty (0,0))
 bel:XL w wr
def BX.later{w w':Uc}{T:T1}{ty:Nat}(h:BX w wr T ty b)(I:XL wr w'):BX w w' T ty b:=
 ⟨(I.block _ (dK h.blk)).trans h.blk,(I.block _ (dK h.box)).trans h.box,h.bel.trans (I.mono h.bel.size)⟩
def BX.set{w:Uc}{T:T1}{ty:Nat}(h:BX w wr T ty b)(k:Nat)(x:Bool):BX w (wr.setCell (TU (w.heap.size+1) k) (xd .u8 ((nw x).toNat:Int))) T ty (b.set k x):=by
 refine⟨?_,?_,?_⟩
 .exact zm173
 .exact zm142
 exact zm133
def D3{w:Uc}(so:TX)(n sc:Nat)(l:T5)(pc:Nat)(hP:TL w po l)(aB:wh<4294967296)(hl:l.length<=1000000)(I:∀p∈l,p<4294967296):
  Calls prog 128 #[.agg #[xa so n sc,xd .u32 (wh:Int)],xa po l.length pc] w λe w'=>e=xm (xj (gK (l.map (keepP wh))))/\XL w w':=by
 have aw:=fy I;have av:=fy (λW p h=>vX W so n sc p aB h);have HX0:Hid (BX w ((w.alloc (xi #[xa so n sc,xd .u32 (wh:Int)] 149)).alloc (xi (Array.replicate l.length (xd .u8 0)) 5)) #[xa so n sc,xd .u32 (wh:Int)] 149 (iE (l.map (keepP wh)) 0)):=by
  rw[od,UL];exact zm125
 have aj:(l.map (keepP wh)).length=l.length:=zp;have U:=fy aj;have hmk:=λW:Uc=>qM W l.length zo
 clear I aj;go_in;go_wp2_with fail;generalize (w.alloc (xi #[xa so n sc,xd .u32 (wh:Int)] 149)).alloc (xi (Array.replicate l.length (xd .u8 0)) 5)=W0 at *
 go_loopw [13] (λx wr=>∃k:Nat,k<=l.length/\x=xd xh k/\Hid (BX w wr #[xa so n sc,xd .u32 (wh:Int)] 149 (iE (l.map (keepP wh)) k))) (λx _=>l.length-(intOf x).toNat)
 .exact zm122
 obtain⟨k,hk,rfl,HX⟩:=hrel;rcases zc k l.length with⟨I,hkn⟩|⟨I,hkn⟩
 .obtain⟨pb,off,rfl,hpb,hpc⟩:=hP.later HX.out.bel k l[k] (Uq I);have ar:=aw.out l[k] (UY I);have ai:(l.map (keepP wh))[k]?=some (keepP wh l[k]):=za;have ad:=fy ai;clear ai;generalize l[k]=p at *;have ay:=EQ HX.out.box 0;have az:=EQ HX.out.box 1
  go_wp2_with (refine(av.out _ p ar).mono ?_)
  rintro e w1 ⟨rfl,ag⟩;have J:=HX.out.later ag;clear ay az ag;have aq:(p&&&wh==wh)=keepP wh p:=rfl;rw[aq];generalize keepP wh p=y at *;clear aq;cases y with
  |false=>
   rw[<-wm ad.out] at J;go_wp2
   go_roundw
   .exact⟨k+1,zo,zf,J⟩
   simp[intOf];omega
  |true=>
   have gf:=gh J.blk k;have aA:(iE (l.map (keepP wh)) k).length=l.length:=by rw[nL za,U.out]
   obtain⟨y0,au⟩:∃y,(iE (l.map (keepP wh)) k)[k]?=some y:=⟨_,Uq zo⟩;have gc:=(EQ J.blk k).trans (pH au);clear au aA;have ae:=J.set k true;rw[<-mR ad.out] at ae;go_wp2
   go_roundw
   .exact⟨k+1,zo,zf,ae⟩
   simp[intOf];omega
 have ak:k=(l.map (keepP wh)).length:=by rw[U.out];omega
 rw[ak,nK] at HX;clear ak;have hcv:=Aj HX.out.blk U.out;generalize hR:gK (l.map (keepP wh))=R at *;have ax:=fy hR;clear hR;go_wp2;go_ret;exact⟨by rw[ax.out];rfl,HX.out.bel⟩
def F3{w:Uc}(rc:Nat){tw:T0}(ks:Ub)(bs:T7)(a:Nat)(hT:S9 w ro (tw.map zI))(hl:tw.length<=1000000)(hr:∀r∈tw,a<r.length/\∀x∈r,x<bs.length):
  Calls prog 83 #[.agg #[xa ro tw.length rc,xj ks],xj (gK bs),xd xh (a:Int)] w λe w'=>e=xm (xj (gK (setB tw bs a)))/\XL w w':=by
 have HR:=fy hr;have ad:(setB tw bs a).length=tw.length:=by unfold setB;simp
 have I:=fy ad;have HX0:Hid (BX w ((w.alloc (xi #[xa ro tw.length rc,xj ks] 153)).alloc (xi (Array.replicate tw.length (xd .u8 0)) 5)) #[xa ro tw.length rc,xj ks] 153 (iE (setB tw bs a) 0)):=by
  rw[od,ad];exact zm125
 have hmk:=λW:Uc=>qM W tw.length zo
 clear hr ad;go_in;go_wp2_with fail;generalize (w.alloc (xi #[xa ro tw.length rc,xj ks] 153)).alloc (xi (Array.replicate tw.length (xd .u8 0)) 5)=W0 at *
 go_loopw [17] (λx wr=>∃k:Nat,k<=tw.length/\x=xd xh k/\Hid (BX w wr #[xa ro tw.length rc,xj ks] 153 (iE (setB tw bs a) k))) (λx _=>tw.length-(intOf x).toNat)
 .exact zm122
 obtain⟨k,hk,rfl,U⟩:=hrel;rcases zc k tw.length with⟨hlt,hkn⟩|⟨hlt,hkn⟩
 .have ak:(tw.map zI)[k]?=some (zI tw[k]):=za;obtain⟨pb,off,qo,qc,rfl,hpb,az,hq⟩:=hT.later U.out.bel k (zI tw[k]) ak;obtain⟨ae,ar⟩:=HR.out tw[k] (UY hlt);have J:(setB tw bs a)[k]?=some ((bs[(tw[k][a]?).getD 0]?).getD false):=by unfold setB;simp_all
  rw[Uq ae,Wl] at J;have aq:=ar tw[k][a] (UY ae);rw[Uq aq,Wl] at J;obtain⟨qb,qoff,rfl,hqb,hqc⟩:=hq a (tw[k][a]:Nat) (by unfold zI;simp_all);have av:(zI tw[k]).length=tw[k].length:=by unfold zI;simp
  rw[av] at az;have ai:=Uq aq;have aA:tw[k][a]<(gK bs).size:=by rw[lN];omega
  have aw:=fy J;have hral:(a:Int)<(tw[k].length:Int):=zo;have ag:=oL aA ai;clear ak ar av J;generalize bs[tw[k][a]]=y at *;generalize tw[k][a]=x at *;generalize tw[k].length=rl at *;clear ai;rw[<-qU] at ag;have gf:=gh U.out.blk k;have ay:(iE (setB tw bs a) k).length=tw.length:=by rw[nL (by rw[I.out];omega),I.out]
  obtain⟨y0,au⟩:∃y,(iE (setB tw bs a) k)[k]?=some y:=⟨_,Uq zo⟩;have gc:=(EQ U.out.blk k).trans (pH au);clear au ay;have aa:=U.out.set k y;rw[<-mR aw.out] at aa;generalize gK bs=sb at *;go_wp2
  go_roundw
  .exact⟨k+1,zo,zf,by first|exact aa|(rw[ag];exact aa)⟩
  simp[intOf];omega
 have aj:k=(setB tw bs a).length:=by rw[I.out];omega
 rw[aj,nK] at U;clear aj;have hcv:=Aj U.out.blk I.out;generalize hR:gK (setB tw bs a)=R at *;have ax:=fy hR;clear hR;go_wp2;go_ret;exact⟨by rw[ax.out];rfl,U.out.bel⟩
def yV:prog.cellsOf 309=2:=zk
theorem P1(h:laidMet prog laid W)(xf xw xs:String × DataW Unit)(hf:xf∈laid)(hw:xw∈laid)(hs:xs∈laid)
  (gf:prog.globalNamed xf.1=some 0)(gw:prog.globalNamed xw.1=some 2)(gs:prog.globalNamed xs.1=some 1)
  (df:xf.2=.agg (Nr.map λx=>.lit (.string x)))(dw:xw.2=.agg (PG.map λx=>.agg [.lit (.string x.1),.lit (.int xh x.2)]))(ds:xs.2=.agg (Oa.map λx=>.agg [.lit (.string x.1),.lit (.int xh x.2)])):SS W:=by
 obtain⟨ps,hl,_⟩:=h;refine⟨?_,?_,?_⟩
 .obtain⟨g,t,cs,fuel,p,hg,J,U,I⟩:=rj hl xf hf;obtain rfl:=Ue (gf.symm.trans hg);obtain rfl:=Ue ((show(prog.globals[0]?).map (·.type)=some 273 from zk).symm.trans J);rw[df] at I;have e:=G7 underlying273 zk I;obtain⟨t',m',hb⟩:=zY hg U;have e2:cs=EU:=by rw[<-Wk,e];rfl
  simp_all
 .obtain⟨g,t,cs,fuel,p,hg,J,U,I⟩:=rj hl xw hw;obtain rfl:=Ue (gw.symm.trans hg);obtain rfl:=Ue ((show(prog.globals[2]?).map (·.type)=some 321 from zk).symm.trans J);rw[dw] at I;have e:=wH underlying321 zk yV I;obtain⟨t',m',hb⟩:=zY hg U;have e2:cs=qt:=by rw[<-Wk,e];rfl
  simp_all
 obtain⟨g,t,cs,fuel,p,hg,J,U,I⟩:=rj hl xs hs;obtain rfl:=Ue (gs.symm.trans hg);obtain rfl:=Ue ((show(prog.globals[1]?).map (·.type)=some 310 from zk).symm.trans J);rw[ds] at I;have e:=wH underlying310 zk yV I;obtain⟨t',m',hb⟩:=zY hg U;have e2:cs=sV:=by rw[<-Wk,e];rfl
 simp_all
def O2:DataW Unit->TW
 |.lit l=>[l.value]
 |.agg xs=>xs.flatMap λx=>match x with
  |.lit l=>[l.value]
  |.agg ys=>ys.flatMap λy=>match y with
   |.lit l=>[l.value]
   |_=>[]
  |_=>[]
 |_=>[]
def QE(P:Program)(h:Array Obj)(x:String × DataW Unit):Array Obj:=
 match P.globalNamed x.1 with
 |some g=>h.modify g fun
  |xi _ t frozen=>xi (O2 x.2).toArray t frozen
  |o=>o
 |none=>h
def Tryz.infoTB:(prog.info? 118).map (λi=>(i.zero,i.size,i.bytes))=some (some (.agg #[xj ⟨#[]⟩,TV,TV,TV,TV]),5,112):=zk
theorem xR:prog.globalNamed "internal/strconv.uint64pow10" =some 4:=zk
theorem DF{w w':Uc}(h:RW prog w "internal/strconv.uint64pow10" .u64 Lib.pow10Tab)(e:w'.heap[4]?=w.heap[4]?):RW prog w' "internal/strconv.uint64pow10" .u64 Lib.pow10Tab:=by
 unfold RW World.var? at h|-
 grind[xR]
def mi(w:Uc)(l G:Ud):Prop:=∃g m c,G=xa (TT g) (m+1) c/\(l.ownBlock=some g\/w.heap.size<=g)
def ya(w:Uc)(lb:Nat)(dk:Ud)(M:Nat)(to_:TX)(tn tc:Nat)(ix rx wt et wb eb:Ud)(C:TW)(B0:Nat)(l:Ud)(w':Uc)(e:Ending):Prop:=
 e=xm (.tuple #[])/\∃to' tc' G1 G2 G3,xZ w' lb dk (M+1) (xa to' (tn+1) tc') ix rx wt et wb eb/\w'.ownsRow B0 118 5 (xa to' (tn+1) tc') (tn+1) (C++[xj (uO (M+1)),l,G1,G2,G3])/\
  Q1 w' l (xj (uO (M+1))) 9/\Q1 w' G1 (xj (uO (M+1))) 9/\Q1 w' G2 (xj (uO (M+1))) 9/\Q1 w' G3 (xj (uO (M+1))) 9/\mi w l G1/\mi w l G2/\mi w l G3/\mi w (xa to_ tn tc) (xa to' (tn+1) tc')/\Ad lb l (xa to_ tn tc) w w'
def SL(w:Uc)(rb:Nat)(l:T9):Prop:=∃s:Ub,s.data.toList=l/\w.heap[rb]?=some (xi #[xj s] 165 (0,0))
theorem SL.lt{w:Uc}{l:T9}(h:SL w rb l):rb<w.heap.size:=by grind[SL]
def SL.later{w w':Uc}{l:T9}(h:SL w rb l)(U:XL w w'):SL w' rb l:=by
 obtain⟨s,J,I⟩:=h;exact⟨s,J,(U.block _ (dK I)).trans I⟩
def SL.keep{w w':Uc}{l:T9}{row:Ua}(h:SL w rb l)(hg:w.grownBy w' row)(I:some rb≠row):SL w' rb l:=by
 obtain⟨s,U,J⟩:=h;exact⟨s,U,(hg.block _ (dK J) I).trans J⟩
def Sx(s:Ub)(n:Nat):(s.extract n s.size).data.toList=s.data.toList.drop n:=by
 rw[V1,UF];simp
theorem Cr(s:Ub)(n:Nat):(s.extract 0 n).data.toList=s.data.toList.take n:=by
 simp
structure TI(rb:Nat)(l:T9)(w w':Uc):Prop where
 at':SL w' rb l
 gr:w.grownBy w' (some rb)
def kZ{w:Uc}{l:T9}(h:SL w rb l):
  Calls prog 135 #[xk (TT rb)] w λe w'=>e=xm (xd xh ((iv l).1:Nat))/\TI rb (iv l).2 w w':=by
 obtain⟨s,rfl,I⟩:=h;have hc:=EQ I 0;have hf:=gh I 0;cases hd:s.data.toList with
 |nil=>
  have hs:s=⟨#[]⟩:=Xz za;subst hs;clear hd;go_in;go_wp2;go_ret;exact⟨rfl,⟨⟨#[]⟩,rfl,I⟩,⟨rfl,rfl,rfl,XH,λ_ _ _=>rfl⟩⟩
 |cons c r=>
  have J:0<s.size:=by rw[<-LT,hd];simp
  have hne:s.toList.isEmpty=false:=by rw[Ui,hd];rfl
  have h0:s[0]=c:=by
   have:=Q4 s 0 J;simp_all
  have U:Hid ((s.extract 1 s.size).data.toList=r):=by show _=_;rw[Sx,hd];rfl
  clear hd;have hc8:=c.toNat_lt;have hw64:wrap64 (c.toNat:Int)=(c.toNat:Int):=by unfold wrap64;omega
  go_in;go_wp2;go_ret;exact⟨rfl,⟨⟨_,U.out,gj I 0 _⟩,gp _ _ _ _⟩⟩
def pt{s:Ub}(w:Uc)(I:s.size<=281474976710656):
  Calls prog 49 #[xj s] w λe w'=>e=xm (xj s)/\XL w w':=by
 have J:=Tryz.stringslite_Clone s w I;go_in;go_wp2_with fail;refine J.mono ?_;rintro e w1 ⟨rfl,hb⟩;go_wp2;go_ret;trivial
theorem tI{w:Uc}{l:T9}(n:Nat)(h:SL w rb l)(hl:l.length<=1000)(hn:n<=1000):
  Calls prog 134 #[xk (TT rb),xd xh (n:Int)] w λe w'=>e=xm (xj (lT n l).1)/\TI rb (lT n l).2 w w':=by
 obtain⟨s,rfl,U⟩:=h;have hc:=EQ U 0;rw[LT] at hl;have hmin:min (n:Int) (s.size:Int)=((min n s.size:Nat):Int):=zo;generalize hm:min n s.size=m at *;have hms:m<=s.size:=zo;have HT:Hid ((lT n s.data.toList).1=s.extract 0 m):=by
  show _=_;unfold lT;apply lQ;simp_all
 have HD:Hid ((s.extract m s.size).data.toList=(lT n s.data.toList).2):=by
  show _=_;unfold lT;rw[Sx,<-hm];simp
 have HC:=(pt (s:=s.extract 0 m) w (by
  grind[LT,Cr]))
 clear hm;go_in;go_wp2_with fail;refine HC.mono ?_;rintro e w1 ⟨rfl,J⟩;have I:=(J.block _ (dK U)).trans U;have hc1:=EQ I 0;have hf1:=gh I 0;clear hc;go_wp2;go_ret;exact⟨by rw[HT.out];rfl,⟨⟨_,HD.out,gj I 0 _⟩,(gE J _).trans (gp _ _ _ _)⟩⟩
def gX(l:T5):TW:=l.map λn:Nat=>xd xh (n:Int)
theorem xz(l:T5):(gX l).length=l.length:=by unfold gX;simp
def Qx(l r:T5):gX (l++r)=gX l++gX r:=by unfold gX;simp
theorem Gu:∀(k:Nat)(l:T9),jt (k+1) l=((jt k l).1++[(iv (jt k l).2).1],(iv (jt k l).2).2):=by intro I;induction I<;>grind[jt,iv]
theorem p9:∀(k:Nat)(l:T9),(jt k l).1.length=k:=by intro I;induction I<;>grind[jt]
def Tryz.infoI64:(prog.info? 3).map (λi=>(i.zero,i.size,i.bytes))=some (some (xd xh 0),1,8):=zk
def jN(L:T5)(c k:Nat):T5:=L.take k++Rw (c-k) 0
def se{c k:Nat}(hL:k<=L.length)(hk:k<=c):(jN L c k).length=c:=by unfold jN;simp;omega
theorem yK{c k x:Nat}(hk:k<c)(hL:L.length=k)(I:M=L++[x]):jN M c (k+1)=(jN L c k).set k x:=by
 subst I;unfold jN;obtain⟨m,hm⟩:∃m,c-k=m+1:=⟨c-k-1,zo⟩
 grind
def lz(l:T5):T1:=(gX l).toArray
theorem Dk(l:T5)(k x:Nat):(lz l).setIfInBounds k (xd xh (x:Int))=lz (l.set k x):=by
 unfold lz gX;simp
def sU{l:T5}{k x:Nat}(h:l[k]?=some x):(lz l)[k]?=some (xd xh (x:Int)):=by
 unfold lz gX;simp_all
theorem vj(n:Nat):lz (Rw n 0)=Array.replicate n (xd xh 0):=by unfold lz gX;simp
theorem AW{w:Uc}{g base:Nat}{l:T5}(h:w.heap[g]?=some (xi (lz l) 3 (0,0)))(I:base<=g)(hn:l.length=n)(hm:n<=1000000):w.ownsRow base 3 1 (xa (TT g) n n) n (gX l):=by
 refine⟨by rw[xz,hn,Wo],.inr ⟨g,n,_,rfl,I,h,XH,by unfold maxLen;omega,?_,?_⟩⟩
 .grind[xz,lz]
 grind[xz,lz]
def PM(w:Uc)(rb:Nat)(l:T9)(c:Nat)(w':Uc)(e:Ending):Prop:=
 e=xm (xa (TT w.heap.size) c c)/\w'.heap[w.heap.size]?=some (xi (lz (jt c l).1) 3 (0,0))/\TI rb (jt c l).2 w w'
structure NR(w wr:Uc)(rb:Nat)(l:T9)(c k:Nat):Prop where
 blk:wr.heap[w.heap.size]?=some (xi (lz (jN (jt k l).1 c k)) 3 (0,0))
 rd:SL wr rb (jt k l).2
 gr:w.grownBy wr (some rb)
theorem ue{w:Uc}{l:T9}{c:Nat}(h:SL w rb l)(hc:c<=1000):
  Calls prog 136 #[xk (TT rb),xd xh (c:Int)] w λe w'=>PM w rb l c w' e:=by
 obtain⟨i0,ae,aj,ak,ar⟩:=Uk Tryz.infoI64;have hmk:=λ(w:Uc)=>ry (P:=prog) w 33 3 i0 (xd xh 0) underlying33 ae aj ak rfl zo c zo
 clear ae aj ak ar;have hlt:=h.lt;have HN0:Hid (NR w (w.alloc (xi (Array.replicate c (xd xh 0)) 3)) rb l c 0):=by
  refine⟨?_,h.later gC,V9 _ _ _⟩
  grind[vj,gi,jN]
 clear h;go_in;go_wp2_with fail;generalize w.alloc (xi (Array.replicate c (xd xh 0)) 3)=W0 at *
 go_loopw [11] (λx wr=>∃k:Nat,k<=c/\x=xd xh k/\Hid (NR w wr rb l c k)) (λx _=>c-(intOf x).toNat)
 .grind
 obtain⟨k,hk,rfl,HN⟩:=hrel;rcases zc k c with⟨hlt2,hkn⟩|⟨hlt2,hkn⟩
 .have HC:=kZ HN.out.rd;have HS:=fy (Gu k l);generalize hy:(iv (jt k l).2).1=y at *;generalize hq:(iv (jt k l).2).2=q at *;clear hy hq
  go_wp2_with (refine HC.mono ?_)
  rintro e w1 ⟨rfl,J⟩;have ad:some w.heap.size≠some rb:=λe=>za
  have I:=(J.gr.block _ (dK HN.out.blk) ad).trans HN.out.blk;have gf:=gh I k;have ag:(jN (jt k l).1 c k).length=c:=se (by rw[p9];simp) hk;obtain⟨y0,ai⟩:∃y0,(jN (jt k l).1 c k)[k]?=some y0:=⟨_,Uq zo⟩;have gc:=(EQ I k).trans (sU ai);clear ai;have HN2:Hid (NR w (w1.setCell (TU w.heap.size k) (xd xh (y:Int))) rb l c (k+1)):=by
   refine⟨?_,?_,?_⟩
   .have:=gj I k (xd xh (y:Int))
    grind[Dk,yK,p9,gQ]
   .rw[HS.out];exact J.at'.keep (gp _ _ _ _) ad.symm
   exact gD (HN.out.gr.trans J.gr) (XH) _ _
  clear I J ag ad;go_wp2
  go_roundw
  .grind
  simp[intOf];omega
 have aq:k=c:=zo;subst aq;have U:jN (jt k l).1 k k=(jt k l).1:=by grind[p9,jN]
 have hb:=HN.out.blk;rw[U] at hb;clear U;go_wp2;go_ret;exact⟨rfl,hb,HN.out.rd,HN.out.gr⟩
theorem FU:∀(k:Nat)(l:T9),iJ (k+1) l=((iJ k l).1++[(lT (iv (iJ k l).2).1 (iv (iJ k l).2).2).1],(lT (iv (iJ k l).2).1 (iv (iJ k l).2).2).2):=by intro I;induction I<;>grind[iJ]
theorem uu:∀(k:Nat)(l:T9),(iJ k l).1.length=k:=by intro I;induction I<;>grind[iJ]
theorem GP(c:Nat):∀(k:Nat)(l:T9),jG c (k+1) l=(((jG c k l).1.1++[(iv (jG c k l).2).1],(jG c k l).1.2++[(jt c (iv (jG c k l).2).2).1]),(jt c (iv (jG c k l).2).2).2):=by intro I;induction I<;>grind[jG]
theorem A0(c:Nat):∀(k:Nat)(l:T9),(jG c k l).1.1.length=k/\(jG c k l).1.2.length=k:=by intro I;induction I<;>grind[jG,jt,iv]
def gU(l:TZ):TW:=l.map xj
structure RX(w:Uc)(base:Nat)(A F X:Ud)(t:Tb)(rv:TW):Prop where
 acts:w.ownsRow base 9 1 A t.acts.length (gU t.acts)
 fl:w.ownsRow base 3 1 F t.fl.length (gX t.fl)
 nx:w.ownsRow base 33 1 X t.nx.length rv
 rows:∀(j:Nat)(r:T5),t.nx[j]?=some r->∃g c,rv[j]?=some (xa (TT g) r.length c)/\w.ownsRow base 3 1 (xa (TT g) r.length c) r.length (gX r)
 rf:∀v∈rv,v.ownBlock≠F.ownBlock
 rr:rv.Pairwise λu v=>u.ownBlock≠v.ownBlock
def RX.rl{w:Uc}{base:Nat}{A F X:Ud}{t:Tb}{rv:TW}(h:RX w base A F X t rv):rv.length=t.nx.length:=by
 have:=h.nx.1;omega
theorem jj{w:Uc}{base:Nat}{v:Ud}(h:w.ownsRow base e size v n xs){b:Nat}(I:v.ownBlock=some b):∃c,w.heap[b]?=some (xi c e (0,0)):=by
 obtain⟨_,⟨J,_⟩|⟨g,cap,cur,J,_,hg,_⟩⟩:=h
 .rw[J] at I;cases I
 rw[J] at I;cases I;simp_all
theorem gG{w w':Uc}{base:Nat}{v:Ud}{row:Ua}(h:w.ownsRow base e size v n xs)(hg:w.grownBy w' row)(hne:∀b,row=some b->v.ownBlock≠some b):w'.ownsRow base e size v n xs:=by
 refine gy h hg ?_;cases hv:v.ownBlock with
 |none=>simp
 |some k=>grind
theorem RX.other{w w':Uc}{base:Nat}{A F X:Ud}{t:Tb}{rv:TW}{row:Ua}(h:RX w base A F X t rv)(hg:w.grownBy w' row)(hne:∀b,row=some b->∀c m,w.heap[b]? ≠some (xi c 9 m)/\w.heap[b]? ≠some (xi c 3 m)/\w.heap[b]? ≠some (xi c 33 m)):RX w' base A F X t rv:=by
 refine⟨gG h.acts hg λb I e=>?_,gG h.fl hg λb I e=>?_,gG h.nx hg λb I e=>?_,λj r hr=>?_,h.rf,h.rr⟩
 .obtain⟨c,hc⟩:=jj h.acts e;simp_all
 .obtain⟨c,hc⟩:=jj h.fl e;simp_all
 .obtain⟨c,hc⟩:=jj h.nx e;simp_all
 obtain⟨g,c,h1,h2⟩:=h.rows j r hr
 grind[gG,jj]
def RX.later{w w':Uc}{base:Nat}{A F X:Ud}{t:Tb}{rv:TW}(h:RX w base A F X t rv)(I:XL w w'):RX w' base A F X t rv:=
 h.other (gE I none) (λb e=>by cases e)
theorem RX.act{w w':Uc}{base:Nat}{A F X:Ud}{t:Tb}{rv:TW}(h:RX w base A F X t rv){s:Ub}(ho:w'.ownsRow base 9 1 A' (t.acts.length+1) (gU t.acts++[xj s]))(hg:w.grownBy w' A.ownBlock):RX w' base A' F X ⟨t.acts++[s],t.fl,t.nx⟩ rv:=by
 have I:∀{e n:Nat} {v:Ud} {xs:TW},w.ownsRow base e 1 v n xs->e≠9->∀b,A.ownBlock=some b->v.ownBlock≠some b:=λ{e n v xs} k hne b hb e1=>by
  obtain⟨c,hc⟩:=jj h.acts hb
  grind[gz]
 refine⟨?_,gG h.fl hg (I h.fl zp),gG h.nx hg (I h.nx zp),λj r hr=>?_,h.rf,h.rr⟩
 .grind[gU]
 obtain⟨g,c,h1,h2⟩:=h.rows j r hr
 grind[gG]
theorem RX.flag{w w':Uc}{base:Nat}{A F X:Ud}{t:Tb}{rv:TW}(h:RX w base A F X t rv)(ho:w'.ownsRow base 3 1 F' (t.fl.length+1) (gX t.fl++[xd xh (f:Int)]))(hg:w.grownBy w' F.ownBlock)(ag:F'.ownBlock=some g')(I:F.ownBlock=some g'\/w.heap.size<=g'):RX w' base A F' X ⟨t.acts,t.fl++[f],t.nx⟩ rv:=by
 have aa:∀{e n:Nat} {v:Ud} {xs:TW},w.ownsRow base e 1 v n xs->e≠3->∀b,F.ownBlock=some b->v.ownBlock≠some b:=λ{e n v xs} k hne b hb e1=>by
  obtain⟨c,hc⟩:=jj h.fl hb
  grind[gz]
 have U:∀v∈rv,∃g r c,v=xa (TT g) r c/\g<w.heap.size:=λv hv=>by
  obtain⟨j,hj⟩:=List.mem_iff_getElem?.1 hv;have aj:j<t.nx.length:=by have:=(List.getElem?_eq_some_iff.1 hj).1;have:=h.rl;omega
  obtain⟨g,c,J,h2⟩:=h.rows j _ (Uq aj);rw[hj] at J;cases J;exact⟨g,_,c,rfl,(gJ h2 g rfl).2⟩
 refine⟨gG h.acts hg (aa h.acts zp),?_,gG h.nx hg (aa h.nx zp),λj r hr=>?_,λv hv=>?_,h.rr⟩
 .grind[gX]
 .obtain⟨g,c,J,h2⟩:=h.rows j r hr;refine⟨g,c,J,gG h2 hg λb hb e=>?_⟩;exact h.rf _ (UA J) (e.trans hb.symm)
 obtain⟨g,r,c,rfl,hlt⟩:=U v hv;rw[ag];intro e;have e':g=g':=Ue e;subst e';rcases I with I|I
 .exact h.rf _ hv I.symm
 omega
theorem RX.row{w w':Uc}{base:Nat}{A F X:Ud}{t:Tb}{rv:TW}(h:RX w base A F X t rv){g c:Nat}{r:T5}(hr:w.ownsRow base 3 1 (xa (TT g) r.length c) r.length (gX r))(hF:F.ownBlock≠some g)(hv:∀v∈rv,v.ownBlock≠some g)
  (ho:w'.ownsRow base 33 1 X' (t.nx.length+1) (rv++[xa (TT g) r.length c]))(hg:w.grownBy w' X.ownBlock):RX w' base A F X' ⟨t.acts,t.fl,t.nx++[r]⟩ (rv++[xa (TT g) r.length c]):=by
 have I:∀{e n:Nat} {v:Ud} {xs:TW},w.ownsRow base e 1 v n xs->e≠33->∀b,X.ownBlock=some b->v.ownBlock≠some b:=λ{e n v xs} k hne b U e1=>by
  obtain⟨c,hc⟩:=jj h.nx U
  grind[gz]
 have hl:=h.rl;refine⟨gG h.acts hg (I h.acts zp),gG h.fl hg (I h.fl zp),?_,λj q hq=>?_,λv aa=>?_,?_⟩
 .grind
 .rcases UU j t.nx.length with hj|hj
  .rw[UJ hj] at hq;obtain⟨g2,c2,J,h2⟩:=h.rows j q hq
   grind[gG]
  grind[gG]
 .rcases List.mem_append.1 aa with J|J
  .exact h.rf v J
  rw[List.mem_singleton.1 J];exact λe=>hF e.symm
 rw[RN];refine⟨h.rr,zp,λa ha b U=>?_⟩;rw[List.mem_singleton.1 U];exact hv a ha
theorem RX.read{w:Uc}{base:Nat}{no:TX}{fc:Nat}{t:Tb}{rv:TW}(h:RX w base (xa ao na ac) (xa fo nf fc) (xa no nn nc) t rv)(hl:t.acts.length<=1000/\t.nx.length<=1000/\t.fl.length<=1000/\∀r∈t.nx,r.length<=1000):SN w ao fo no ac t.z/\na=t.acts.length/\nf=t.fl.length/\nn=t.nx.length:=by
 have len:∀{e n k c:Nat} {o:TX} {xs:TW},w.ownsRow base e 1 (xa o n c) k xs->n=k/\k<=c:=λ{e n k c o xs} ho=>by
  obtain⟨_,⟨hv,hn⟩|⟨g,cap,cur,hv,_,_,hle,_⟩⟩:=ho
  .simp_all
  simp_all
 obtain⟨U,k1⟩:=len h.acts;obtain⟨e2,_⟩:=len h.fl;obtain⟨e3,_⟩:=len h.nx;subst U;subst e2;subst e3;refine⟨⟨λj x hx=>?_,λj x hx=>?_,λj r hr=>?_,k1,?_,?_,?_,λr hr=>?_⟩,rfl,rfl,rfl⟩
 .exact zm128
 .have hx':(zI t.fl)[j]?=some x:=hx;unfold zI at hx';rw[UG] at hx';cases e:t.fl[j]? with
  |none=>simp_all
  |some f=>
   exact zm124
 .have I:(t.nx.map zI)[j]?=some r:=hr;rw[UG] at I;cases e:t.nx[j]? with
  |none=>simp_all
  |some q=>
   rw[e] at I;have J:=Ue I;subst J;have hj:=(List.getElem?_eq_some_iff.1 e).1;obtain⟨g,h1,h2,h3⟩:=gT h.nx hj;obtain⟨g2,c2,h4,h5⟩:=h.rows j q e;refine⟨g,0,TT g2,c2,h1,h2,by grind[zI],λi x hx=>?_⟩
   grind[gT,zI,gX]
 .show t.acts.length<=_;omega
 .show(zI t.fl).length<=_;grind[zI]
 .show(t.nx.map zI).length<=_;rw[UL];omega
 have I:=hr;obtain⟨q,J,rfl⟩:=List.mem_map.1 I
 grind[zI]
theorem iA{w:Uc}{base base' z z' I:Nat}{v:Ud}(h:w.ownsRow base e z v n xs)(h':w.ownsRow base' e' z' v' I xs')(hne:e≠e'):∀b,v'.ownBlock=some b->v.ownBlock≠some b:=by grind[jj,gz]
def Jd{w:Uc}{base z g:Nat}(h:w.ownsRow base e z (xa (TT g) n cap) n xs)(i:Nat)(v:Ud):(w.setCell (TU g i) v).ownsRow base e z (xa (TT g) n cap) n (xs.set i v):=by
 exact zm39
def sI:(prog.info? 9).map (λi=>(i.zero,i.size,i.bytes))=some (some (xj ⟨#[]⟩),1,16):=zk
def oe:(prog.info? 3).map (λi=>(i.zero,i.size,i.bytes))=some (some (xd xh 0),1,8):=zk
def sH:(prog.info? 33).map (λi=>(i.zero,i.size,i.bytes))=some (some TV,1,24):=zk
structure R6(w:Uc)(base:Nat)(A F X:Ud)(t:Tb)(rv:TW):Prop where
 acts:w.ownsRow base 9 1 A t.acts.length (gU t.acts)
 fl:w.ownsRow base 3 1 F t.fl.length (gX t.fl)
 nx:w.ownsRow base 33 1 X t.nx.length rv
 rows:∀(j:Nat)(r:T5),t.nx[j]?=some r->∃v,rv[j]?=some v/\w.ownsRow base 3 1 v r.length (gX r)
 rf:∀v∈rv,∀b,v.ownBlock=some b->F.ownBlock≠some b
 rr:rv.Pairwise λu v=>∀b,u.ownBlock=some b->v.ownBlock≠some b
structure Sn(w:Uc)(base:Nat)(F:Ud)(rv:TW)(v:Ud)(q:T5):Prop where
 own:w.ownsRow base 3 1 v q.length (gX q)
 nf:∀b,v.ownBlock=some b->F.ownBlock≠some b
 nr:∀b,v.ownBlock=some b->∀u∈rv,u.ownBlock≠some b
section
variable{w w':Uc}{base:Nat}{A F X:Ud}{t:Tb}{rv:TW}
def R6.rl(h:R6 w base A F X t rv):rv.length=t.nx.length:=by
 have:=h.nx.1;omega
theorem R6.row_at(h:R6 w base A F X t rv){v:Ud}(U:v∈rv):∃r:T5,w.ownsRow base 3 1 v r.length (gX r):=by
 obtain⟨j,J⟩:=List.mem_iff_getElem?.1 U;have I:j<t.nx.length:=by have:=(List.getElem?_eq_some_iff.1 J).1;have:=h.rl;omega
 obtain⟨u,h1,h2⟩:=h.rows j _ (Uq I)
 grind
theorem R6.grow{row:Ua}(h:R6 w base A F X t rv)(hg:w.grownBy w' row)(I:∀b,row=some b->A.ownBlock≠some b/\F.ownBlock≠some b/\X.ownBlock≠some b/\∀v∈rv,v.ownBlock≠some b):R6 w' base A F X t rv:=
 ⟨gG h.acts hg λb J=>(I b J).1,gG h.fl hg λb J=>(I b J).2.1,gG h.nx hg λb J=>(I b J).2.2.1,λj r hr=>by
  obtain⟨v,h1,h2⟩:=h.rows j r hr
  grind[gG],h.rf,h.rr⟩
theorem R6.other{row:Ua}(h:R6 w base A F X t rv)(hg:w.grownBy w' row)(hne:∀b,row=some b->∀c m,w.heap[b]? ≠some (xi c 9 m)/\w.heap[b]? ≠some (xi c 3 m)/\w.heap[b]? ≠some (xi c 33 m)):R6 w' base A F X t rv:=by
 refine h.grow hg λb hb=>⟨λe=>?_,λe=>?_,λe=>?_,λv I e=>?_⟩
 .obtain⟨c,hc⟩:=jj h.acts e;simp_all
 .obtain⟨c,hc⟩:=jj h.fl e;simp_all
 .obtain⟨c,hc⟩:=jj h.nx e;simp_all
 obtain⟨r,hr⟩:=h.row_at I
 grind[jj]
def R6.later(h:R6 w base A F X t rv)(I:XL w w'):R6 w' base A F X t rv:=
 h.grow (gE I none) (λb e=>by cases e)
def R6.cellO(h:R6 w base A F X t rv){b:Nat}{c:T1}{ty:Nat}(hb:w.heap[b]?=some (xi c ty m))(hne:ty≠9/\ty≠3/\ty≠33)(i:Nat)(x:Ud):R6 (w.setCell (TU b i) x) base A F X t rv:=by
 refine h.other (gp w b i x) λk hk c' m'=>?_
 simp_all
theorem R6.act(h:R6 w base A F X t rv){s:Ub}(ho:w'.ownsRow base 9 1 A' (t.acts.length+1) (gU t.acts++[xj s]))(hg:w.grownBy w' A.ownBlock):R6 w' base A' F X ⟨t.acts++[s],t.fl,t.nx⟩ rv:=by
 refine⟨?_,gG h.fl hg (iA h.fl h.acts zp),gG h.nx hg (iA h.nx h.acts zp),λj r hr=>?_,h.rf,h.rr⟩
 .grind[gU]
 obtain⟨v,J,I⟩:=h.rows j r hr;exact⟨v,J,gG I hg (iA I h.acts zp)⟩
theorem R6.flag(h:R6 w base A F X t rv)(ho:w'.ownsRow base 3 1 F' (t.fl.length+1) (gX t.fl++[xd xh (f:Int)]))(hg:w.grownBy w' F.ownBlock)(U:F'.ownBlock=some g')(I:F.ownBlock=some g'\/w.heap.size<=g'):R6 w' base A F' X ⟨t.acts,t.fl++[f],t.nx⟩ rv:=by
 refine⟨gG h.acts hg (iA h.acts h.fl zp),?_,gG h.nx hg (iA h.nx h.fl zp),λj r hr=>?_,λv hv b J=>?_,h.rr⟩
 .grind[gX]
 .obtain⟨v,h1,h2⟩:=h.rows j r hr;exact⟨v,h1,gG h2 hg λb J e=>h.rf v (UA h1) b e J⟩
 rw[U];intro e;have e':=Ue e;subst e';rcases I with I|I
 .exact h.rf v hv _ J I
 obtain⟨r,hr⟩:=h.row_at hv;have:=(gJ hr _ J).2;omega
def Sn.start(w:Uc)(base:Nat)(F:Ud)(rv:TW):Sn w base F rv TV []:=
 ⟨XG,λb I=>(by cases I),λb I=>(by cases I)⟩
def Sn.grow{v:Ud}{row:Ua}(h:Sn w base F rv v q)(hg:w.grownBy w' row)(I:∀b,row=some b->v.ownBlock≠some b):Sn w' base F rv v q:=
 ⟨gG h.own hg I,h.nf,h.nr⟩
def Sn.later{v:Ud}(h:Sn w base F rv v q)(I:XL w w'):Sn w' base F rv v q:=⟨gq h.own I,h.nf,h.nr⟩
def R6.apart{v:Ud}(h:R6 w base A F X t rv)(J:Sn w base F rv v q):∀b,v.ownBlock=some b->A.ownBlock≠some b/\F.ownBlock≠some b/\X.ownBlock≠some b/\∀u∈rv,u.ownBlock≠some b:=λb I=>
 ⟨iA h.acts J.own zp b I,J.nf b I,iA h.nx J.own zp b I,J.nr b I⟩
theorem R6.num{v:Ud}(h:R6 w base A F X t rv)(hu:Sn w base F rv v q){x:Nat}(ho:w'.ownsRow base 3 1 v' (q.length+1) (gX q++[xd xh (x:Int)]))(hg:w.grownBy w' v.ownBlock)(aa:v'.ownBlock=some g')(I:v.ownBlock=some g'\/w.heap.size<=g'):
  R6 w' base A F X t rv/\Sn w' base F rv v' (q++[x]):=by
 refine⟨h.grow hg (h.apart hu),?_,λb J=>?_,λb J u U=>?_⟩
 .grind[gX]
 .rw[aa] at J;cases J;rcases I with I|I
  .exact hu.nf _ I
  intro e;have:=(gJ h.fl _ e).2;omega
 rw[aa] at J;cases J;rcases I with I|I
 .exact hu.nr _ I u U
 intro e;obtain⟨r,hr⟩:=h.row_at U;have:=(gJ hr _ e).2;omega
theorem R6.row{v:Ud}{r:T5}(h:R6 w base A F X t rv)(hu:Sn w base F rv v r)(ho:w'.ownsRow base 33 1 X' (t.nx.length+1) (rv++[v]))(hg:w.grownBy w' X.ownBlock):R6 w' base A F X' ⟨t.acts,t.fl,t.nx++[r]⟩ (rv++[v]):=by
 have hl:=h.rl;refine⟨gG h.acts hg (iA h.acts h.nx zp),gG h.fl hg (iA h.fl h.nx zp),?_,λj q hq=>?_,λu ag b J=>?_,?_⟩
 .grind
 .rcases UU j t.nx.length with hj|hj
  .have I:t.nx[j]?=some q:=by grind
   obtain⟨u,U,h2⟩:=h.rows j q I;exact⟨u,by grind,gG h2 hg (iA h2 h.nx zp)⟩
  have I:[r][j-t.nx.length]?=some q:=by grind
  have ad:j-t.nx.length=0:=by
   grind
  rw[ad] at I;have ae:r=q:=za;subst ae;refine⟨v,?_,gG hu.own hg (iA hu.own h.nx zp)⟩
  grind
 .rcases List.mem_append.1 ag with U|U
  .exact h.rf u U b J
  rw[List.mem_singleton.1 U] at J;exact hu.nf b J
 rw[RN];refine⟨h.rr,zp,λa ha b J k hk e=>?_⟩;rw[List.mem_singleton.1 J] at e;exact hu.nr k e a ha hk
theorem KW(l:T5)(i x:Nat):(gX l).set i (xd xh (x:Int))=gX (l.set i x):=by unfold gX;simp
theorem R6.fset{fb c:Nat}(h:R6 w base A (xa (TT fb) N c) X t rv)(hN:t.fl.length=N)(i x:Nat):R6 (w.setCell (TU fb i) (xd xh (x:Int))) base A (xa (TT fb) N c) X ⟨t.acts,t.fl.set i x,t.nx⟩ rv:=by
 have hg:=gp w fb i (xd xh (x:Int));have I:∀b,some fb=some b->(xa (TT fb) N c).ownBlock=some b:=λb e=>e
 have hf:=h.fl;refine⟨gG h.acts hg λb e=>iA h.acts hf zp b (I b e),?_,gG h.nx hg λb e=>iA h.nx hf zp b (I b e),λj r hr=>?_,h.rf,h.rr⟩
 .rw[hN] at hf;have:=Jd hf i (xd xh (x:Int))
  grind[KW]
 obtain⟨v,J,h2⟩:=h.rows j r hr;exact⟨v,J,gG h2 hg λb e U=>h.rf v (UA J) b U (I b e)⟩
def Sn.fset{fb c:Nat}{v:Ud}(h:Sn w base (xa (TT fb) N c) rv v q)(i:Nat)(x:Ud):Sn (w.setCell (TU fb i) x) base (xa (TT fb) N c) rv v q:=
 h.grow (gp w fb i x) λb I e=>h.nf b e I
theorem R6.rws{no:TX}(h:R6 w base A F (xa no nn nc) t rv)(hn:t.nx.length=nn):S9 w no (t.nx.map zI):=λj r hr=>by
 rw[UG] at hr;cases e:t.nx[j]? with
 |none=>simp_all
 |some q=>
  rw[e] at hr;have hq:=Ue hr;subst hq;have hj:=(List.getElem?_eq_some_iff.1 e).1;have I:=h.nx;rw[hn] at I;obtain⟨g,J,U,h3⟩:=gT I (show j<nn from zo);obtain⟨v,h4,h5⟩:=h.rows j q e;obtain⟨o,c2,rfl⟩:=ib h5;refine⟨g,0,o,c2,J,U,by grind[zI],λi x hx=>?_⟩
  grind[gT,zI,gX]
theorem R6.read{no:TX}{fc:Nat}(h:R6 w base (xa ao na ac) (xa fo nf fc) (xa no nn nc) t rv)(hl:t.acts.length<=1000/\t.nx.length<=1000/\t.fl.length<=1000/\∀r∈t.nx,r.length<=1000):SN w ao fo no ac t.z/\na=t.acts.length/\nf=t.fl.length/\nn=t.nx.length:=by
 have len:∀{e n k c:Nat} {o:TX} {xs:TW},w.ownsRow base e 1 (xa o n c) k xs->n=k/\k<=c:=λ{e n k c o xs} ho=>by
  obtain⟨_,⟨hv,hn⟩|⟨g,cap,cur,hv,_,_,hle,_⟩⟩:=ho
  .simp_all
  simp_all
 obtain⟨e1,k1⟩:=len h.acts;obtain⟨e2,_⟩:=len h.fl;obtain⟨U,_⟩:=len h.nx;have I:=h.rws U.symm;subst e1;subst e2;subst U;refine⟨⟨λj x hx=>?_,λj x hx=>?_,I,k1,?_,?_,?_,λr hr=>?_⟩,rfl,rfl,rfl⟩
 .exact zm128
 .have hx':(zI t.fl)[j]?=some x:=hx;unfold zI at hx';rw[UG] at hx';cases e:t.fl[j]? with
  |none=>simp_all
  |some f=>
   exact zm124
 .show t.acts.length<=_;omega
 .show(zI t.fl).length<=_;grind[zI]
 .show(t.nx.map zI).length<=_;rw[UL];omega
 have J:=hr;obtain⟨q,hq,rfl⟩:=List.mem_map.1 J
 grind[zI]
theorem R6.toW(h:R6 w base A F X t rv)(ae:∀r∈t.nx,1<=r.length):RX w base A F X t rv:=by
 have J:∀v∈rv,∃g,v.ownBlock=some g:=λv U=>by
  obtain⟨j,hj⟩:=List.mem_iff_getElem?.1 U;have I:j<t.nx.length:=by have:=(List.getElem?_eq_some_iff.1 hj).1;have:=h.rl;omega
  obtain⟨u,h1,h2⟩:=h.rows j _ (Uq I);rw[hj] at h1;cases h1;obtain⟨o,c,rfl⟩:=ib h2;obtain⟨g,rfl,_,_⟩:=gT h2 (ae _ (UY I));exact⟨g,rfl⟩
 refine⟨h.acts,h.fl,h.nx,λj r hr=>?_,λv U e=>?_,h.rr.imp_of_mem λ{a b} ha hb hab e=>?_⟩
 .obtain⟨v,h1,h2⟩:=h.rows j r hr
  grind[ib,gT]
 .obtain⟨g,hg⟩:=J v U;exact h.rf v U g hg (e▸hg)
 grind
end
def qu{rest:List Oper}{o:Oper}{a:Act}{Q:Exit->Act->Uc->Prop}(aa:o.guard=none)(s x:Operand)(t:TypeId)(ho:o.op=.call {callee:=.builtin .append,args:=#[s,x],argTypes:=#[t,t]})(W:Uc)(base e:Nat){z:Ud} 
  (hT:(prog.info? e).map (λi=>(i.zero,i.size,i.bytes))=some (some z,1,bytes))(aj:z.cells.size=1)(ht:prog.underlying t=some (.slice e)){v:Ud}(hs:a.eval s=v)(u:Ud){H:Nat}(hx:a.eval x=xa (TT H) 1 1)(hu:u.oneCell'=true)(J:W.ownsRow base e 1 v n xs)(U:(n+1)*(bytes+1)<=140737488355328)(hbase:base<=W.heap.size)(hH:W.heap.size=H)
  (h:∀g cap w',w'.ownsRow base e 1 (xa (TT g) (n+1) cap) (n+1) (xs++[u])->(W.alloc (xi #[u] e)).grownBy w' v.ownBlock->(v.ownBlock=some g\/H<g)->wpList prog ops Q rest (a.put o.dst (xa (TT g) (n+1) cap)) w'):wpList prog ops Q (o::rest) a (W.alloc (xi #[u] e)):=by
 obtain⟨i0,ad,ae,ag,ai⟩:=Uk hT;rw[W7,Wo] at U;subst hH;refine Uz _ aa s x t ho base e i0 z 1 bytes ht ad ae ag ai aj zp v n xs hs (J.alloc _) (TU W.heap.size 0) 1 1 [u] hx rfl ?_ ?_ zp ?_ ?_ ?_ (W.heap.size+1) zp ?_
 .intro j y I
  match j,I with
  |0,I=>simp at I;subst I;exact EQ (gu zp) 0
  |j+1,I=>simp at I
 .simp_all
 .unfold maxLen;omega
 .omega
 .simp;omega
 exact zm111
def DB{w:Uc}{o:Oper}{a:Act}{Q:Exit->Act->Uc->Prop}(aa:o.guard=none)(s x:Operand)(t:TypeId)(ho:o.op=.call {callee:=.builtin .append,args:=#[s,x],argTypes:=#[t,t]})(base e:Nat){z:Ud} 
  (hT:(prog.info? e).map (λi=>(i.zero,i.size,i.bytes))=some (some z,1,bytes))(aj:z.cells.size=1)(ht:prog.underlying t=some (.slice e)){v:Ud}(hs:a.eval s=v){H:Nat}(u:Ud)(hx:a.eval x=xa (TT H) 1 1)(hu:u.oneCell'=true)(J:w.ownsRow base e 1 v n xs)(hb:w.heap[H]?=some (xi #[u] e (0,0)))(U:(n+1)*(bytes+1)<=140737488355328)(I:base<=w.heap.size)
  (h:∀g cap w',w'.ownsRow base e 1 (xa (TT g) (n+1) cap) (n+1) (xs++[u])->w.grownBy w' v.ownBlock->(v.ownBlock=some g\/w.heap.size<=g)->K (a.put o.dst (xa (TT g) (n+1) cap)) w'):
  if Region.wanted o (yielded ops a.tmps)=true then Oper.wp prog o a w K Q else E:=by
 obtain⟨i0,ad,ae,ag,ai⟩:=Uk hT;rw[W7,Wo] at U;refine UB _ aa s x t ho base e i0 z 1 bytes ht ad ae ag ai aj zp v n xs hs J (TU H 0) 1 1 [u] hx rfl (WR hb) ?_ zp ?_ ?_ I w.heap.size rfl ?_
 .simp_all
 .unfold maxLen;omega
 .omega
 exact zm111
structure TR(w W:Uc)(rb tb:Nat)(A F X:Ud)(t:Tb)(rv:TW)(l:T9):Prop where
 res:W.heap[w.heap.size]?=some (xi #[TV,TV,TV] 36 (0,0))
 blk:W.heap[tb]?=some (xi #[A,F,X] 36 (0,0))
 htb:w.heap.size<tb
 hrb:rb<w.heap.size
 rd:SL W rb l
 gr:w.grownBy W (some rb)
 tab:RX W w.heap.size A F X t rv
theorem TI.tabs{w:Uc}{l:T9}{base:Nat}{A F X:Ud}{t:Tb}{rv:TW}(hf:TI rb l w W)(h:RX w base A F X t rv)(h0:SL w rb l0):RX W base A F X t rv:=
 h.other hf.gr λb hb c m=>by
  grind[SL]
def TR.read{w:Uc}{A F X:Ud}{t:Tb}{rv:TW}{l I:T9}(h:TR w W rb tb A F X t rv l)(hf:TI rb I W W'):TR w W' rb tb A F X t rv I:=
 ⟨(hf.gr.block _ (dK h.res) (λe=>by cases e;have:=h.hrb;omega)).trans h.res,(hf.gr.block _ (dK h.blk) (λe=>by cases e;have:=h.hrb;have:=h.htb;omega)).trans h.blk,h.htb,h.hrb,hf.at',h.gr.trans hf.gr,hf.tabs h.tab h.rd⟩
def TR.later{w:Uc}{A F X:Ud}{t:Tb}{rv:TW}{l:T9}(h:TR w W rb tb A F X t rv l)(I:XL W W'):TR w W' rb tb A F X t rv l:=
 ⟨(I.block _ (dK h.res)).trans h.res,(I.block _ (dK h.blk)).trans h.blk,h.htb,h.hrb,h.rd.later I,h.gr.trans (gE I _),h.tab.later I⟩
theorem TR.grow{w:Uc}{A F X V:Ud}{t t':Tb}{rv aa:TW}{l:T9}(h:TR w W rb tb A F X t rv l)(hV:W.ownsRow w.heap.size e 1 V n xs)(hg:W.grownBy W' V.ownBlock)(he:e=9\/e=3\/e=33)
  (ht:RX W' w.heap.size A' F' X' t' aa)(i:Nat)(v:Ud)(hc:(#[A,F,X]:T1).setIfInBounds i v= #[A',F',X']):TR w (W'.setCell (TU tb i) v) rb tb A' F' X' t' aa l:=by
 have I:∀{b ty:Nat} {c:T1},W.heap[b]?=some (xi c ty (0,0))->ty≠9/\ty≠3/\ty≠33->some b≠V.ownBlock:=λ{b ty c} hb J e1=>by
  grind[gz]
 have U:=(hg.block _ (dK h.res) (I h.res zp)).trans h.res;have hblk:=(hg.block _ (dK h.blk) (I h.blk zp)).trans h.blk;have ag:SL W' rb l:=by
  obtain⟨s,h1,h2⟩:=h.rd;exact⟨s,h1,(hg.block _ (dK h2) (I h2 zp)).trans h2⟩
 have J:w.heap.size≠tb:=by have:=h.htb;omega
 refine⟨(XE J).trans U,?_,h.htb,h.hrb,?_,?_,?_⟩
 .grind[gj]
 .exact ag.keep (gp _ _ _ _) (λe=>by cases e;have:=h.hrb;have:=h.htb;omega)
 .refine⟨hg.os.trans h.gr.os,hg.tape.trans h.gr.tape,hg.output.trans h.gr.output,?_,λk hk ae=>?_⟩
  .have:=h.gr.size;have:=hg.size;simp[World.setCell];omega
  refine(XE (by show k≠tb;have:=h.htb;omega)).trans ((hg.block k (Uw hk h.gr.size) (λe=>?_)).trans (h.gr.block k hk ae));have:=(gJ hV k e.symm).1;omega
 refine ht.other (gp _ _ _ _) (λb hb c m=>?_)
 grind
end Go.Proofs.YtidakhhekofkoaaGreatDoor
