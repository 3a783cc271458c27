import Derived.Deep.AppendLies
import Derived.Test.YtidakhhekofkoaaGreatDoorT06
set_option linter.all false
set_option maxHeartbeats 4000000
set_option maxRecDepth 100000
namespace Go.Proofs.YtidakhhekofkoaaGreatDoor
open Go.Proofs.Tryz
open Go.RowKit Go.Deep
open Value renaming slice -> xa, int -> xd, string -> xj, pointer -> xk, bool -> xn
open IntKind renaming i64 -> xh
open Obj renaming cells -> xi
open Ending renaming returned -> xm
open List renaming getElem?_eq_getElem -> Mr, length_append -> Mu, mem_cons_self -> Mx, getElem?_map -> Mz, mem_cons_of_mem -> MF, take_succ_cons -> MG, getElem_mem -> MJ
open Go.RowKit.Below renaming refl -> Ms, heap_alloc -> MI
open Or renaming inr -> Mt, inl -> ME
open Nat renaming le_refl -> Mw, le_of_eq -> MC, zero_le -> MD, lt_or_ge -> MH
open World renaming drewN_drewN -> My
variable {zq:Prop}
variable {w w' w2 w3:World} {nb B n p:Nat} {L:List Nd} {x5 x6 x7 x8 x:Fin 5->List Value} {v:Fin 5->Value} {α:Type} {f:Fm} {Q R:Tk->Prop} {a b:ByteArray} {al:List Tk} {rs:List Rl} {kinds:List UInt8} {t:Tk} {tr:List ByteArray}
theorem zm0(h:zq:=by
 intro K hK;go_simp;refine hK _ _ ?_;clear hK K;apply zr 10;intro K hK;refine step_append_lies _ zf _ _ 51 zf B 5 i0 (xd .u8 0) 1 1 underlying51 hi hz0 hz1 hz2 rfl zd (v 0) (jI L2 T 0).length (jI L2 T 0) zf ?c0 ⟨wr.heap.size,0,none⟩ 1 1 [xd .u8 (jP a.1)] zf rfl ?c1 ?c2 zd ?c3 ?c4 ?c5 (wr.heap.size+1) zp ?_
 case c0=>exact(fL (HV.out.own 0) (((Below.refl _ _).drew).alloc (Nat.le_refl _) _))
 case c1=>
  intro j u hj
  match j,hj with
  |0,hj=>simp at hj;subst hj;simp[Addr.add]
  |j+1,hj=>simp at hj
 case c2=>intro u hu;simp at hu;subst hu;rfl
 case c3=>rw[hX0];unfold maxLen;omega
 case c4=>rw[hX0];omega
 case c5=>simp;omega
 intro g4 cap4 w4 hown4 hgrow4 hat4 hlt4;have hn4:=(hgrow4.block nb zs (fun e=>gp (HV.out.own 0) e.symm HV.out.blk zd)).trans ((Below.heap_alloc _ _ _ hnl).trans HV.out.blk);clear nbc nbf;have nbc:=cell_of_blk hn4;have nbf:=fi hn4;clear hn4;refine hK _ _ ?_;clear hK K;apply zt0 11 (xk (some ⟨nb,0,none⟩));apply zt0 12 (xk (some ⟨nb,0,none⟩));apply zr 13;intro K hK;go_simp;refine hK _ _ ?_;clear hK K;refine wpAny_done zk ?_ _;obtain⟨v5,x5,hv5,hf5,ex5,ev5,ew5⟩:=(HV.out.later (((Below.refl _ _).drew).alloc (Nat.le_refl _) (xi #[xd .u8 (jP a.1)] 5))).step 0 0 rfl (xd .u8 (jP a.1)) hX0.symm (by rw[hX0] at hown4;exact hown4) hgrow4 za;have HV5:=fa hv5;have HX5:=fa ex5;have HE5:=fa ev5;have HF5:=fa (HFW.out.trans ((NF.below (((Below.refl wr.heap.size wr).drew).alloc (Nat.le_refl _) (xi #[xd .u8 (jP a.1)] 5)) hBw).trans hf5));have HM51:Hid ((x5 1).length=L2.length):=by show _=_;rw[HX5.out,lW zp];simp[jI]
 have HM52:Hid ((x5 2).length=L2.length):=by show _=_;rw[HX5.out,lW zp];simp[jI]
 have HM53:Hid ((x5 3).length=L2.length):=by show _=_;rw[HX5.out,lW zp];simp[jI]
 have HL5:=HM51;clear nbc nbf hv5 hf5 ex5 ev5 ew5 hown4 hgrow4 hat4 hlt4;generalize w4.setCell ⟨nb,0,none⟩ (xa (some ⟨g4,0,none⟩) (L2.length+1) cap4)=w5 at *;have nbc:=cell_of_blk HV5.out.blk;have nbf:=fi HV5.out.blk;have hnl:=fh HV5.out.blk;have hBw:=HV5.out.low
 go_wp2_with (at_builtin;go_must (refine wpList_append_lies _ rfl _ _ 33 rfl B 3 j0 (xd xh 0) 1 8 underlying33 ji jz0 jz1 jz2 rfl zd _ L2.length (x5 1) rfl ?c0 ⟨w5.heap.size,0,none⟩ 1 1 [xd xh (gJ al l L).2] rfl rfl ?c1 ?c2 zd ?c3 ?c4 ?c5 (w5.heap.size+1) ?c6 ?_))
 case c0=>have:=fL (HV5.out.own 1) ((Below.refl _ _).alloc (Nat.le_refl _) (xi #[xd xh (gJ al l L).2] 3));rw[HL5.out] at this;exact this
 case c1=>
  intro j u hj
  match j,hj with
  |0,hj=>simp at hj;subst hj;exact cell_of_blk (fk _ _ _ (by simp[World.setCell])) 0
  |j+1,hj=>trivial
 case c2=>intro u hu;simp at hu;subst hu;rfl
 case c3=>unfold maxLen;omega
 case c4=>omega
 case c5=>simp;omega
 case c6=>simp
 intro g6 cap6 q6 hown hgrow hat _;have hnq:=(hgrow.block nb zs (fun e=>gp (HV5.out.own 1) e.symm HV5.out.blk zd)).trans ((Below.heap_alloc _ _ _ (fh HV5.out.blk)).trans HV5.out.blk);obtain⟨v6,x6,hv6,hf6,ex6,ev6,ew6⟩:=(HV5.out.later ((Below.refl _ _).alloc (Nat.le_refl _) (xi #[xd xh (gJ al l L).2] 3))).step 1 1 rfl (xd xh (gJ al l L).2) HL5.out.symm hown hgrow za;clear nbc nbf;have nbc:=cell_of_blk hnq;have nbf:=fi hnq;clear hnq;have HV6:=fa hv6;have HX6:=fa ex6;have HW6:=fa ew6;have HF6:=fa (HF5.out.trans ((NF.below ((Below.refl _ _).alloc (Nat.le_refl _) (xi #[xd xh (gJ al l L).2] 3)) HV5.out.low).trans hf6));have HL6:Hid ((x6 2).length=L2.length):=by show _=_;rw[HX6.out,lW zp];trivial
 have HM63:Hid ((x6 3).length=L2.length):=by show _=_;rw[HX6.out,lW zp];trivial
 have hnl6:nb<q6.heap.size:=by have:=fh HV6.out.blk;simp_all
 have hBw6:B<=q6.heap.size:=by have:=HV6.out.low;simp_all
 clear hown hgrow hat hv6 hf6 ex6 ev6 ew6
 go_wp2_with (at_builtin;go_must (refine wpList_append_lies _ rfl _ _ 33 rfl B 3 j0 (xd xh 0) 1 8 underlying33 ji jz0 jz1 jz2 rfl zd _ L2.length (x6 2) rfl ?c0 ⟨q6.heap.size,0,none⟩ 1 1 [xd xh (gJ al r (gJ al l L).1).2] rfl rfl ?c1 ?c2 zd ?c3 ?c4 ?c5 (q6.heap.size+1) ?c6 ?_))
 case c0=>have:=fL (HV6.out.own 2) ((Below.refl _ _).alloc (Nat.le_refl _) (xi #[xd xh (gJ al r (gJ al l L).1).2] 3));rw[HL6.out,HW6.out 2 zp] at this;exact this
 case c1=>
  intro j u hj
  match j,hj with
  |0,hj=>simp at hj;subst hj;exact cell_of_blk (fk _ _ _ (by simp[World.setCell])) 0
  |j+1,hj=>trivial
 case c2=>intro u hu;simp at hu;subst hu;rfl
 case c3=>unfold maxLen;omega
 case c4=>omega
 case c5=>simp;omega
 case c6=>simp
 intro g7 cap7 q7 hown hgrow hat _;replace hgrow:=xR (HW6.out 2 zp) hgrow;replace hat:(v6 2).ownBlock=some g7\/g7=q6.heap.size+1:=by rw[HW6.out 2 zp];omega
 have hnq:=(hgrow.block nb zs (fun e=>gp (HV6.out.own 2) e.symm HV6.out.blk zd)).trans ((Below.heap_alloc _ _ _ (fh HV6.out.blk)).trans HV6.out.blk);obtain⟨v7,x7,hv7,hf7,ex7,ev7,ew7⟩:=(HV6.out.later ((Below.refl _ _).alloc (Nat.le_refl _) (xi #[xd xh (gJ al r (gJ al l L).1).2] 3))).step 2 2 rfl (xd xh (gJ al r (gJ al l L).1).2) HL6.out.symm hown hgrow za;clear nbc nbf;have nbc:=cell_of_blk hnq;have nbf:=fi hnq;clear hnq;have HV7:=fa hv7;have HX7:=fa ex7;have HW7:=fa ew7;have HF7:=fa (HF6.out.trans ((NF.below ((Below.refl _ _).alloc (Nat.le_refl _) (xi #[xd xh (gJ al r (gJ al l L).1).2] 3)) HV6.out.low).trans hf7));have HL7:Hid ((x7 3).length=L2.length):=by show _=_;rw[HX7.out,lW zp];trivial
 have hnl7:nb<q7.heap.size:=by have:=fh HV7.out.blk;simp_all
 have hBw7:B<=q7.heap.size:=by have:=HV7.out.low;simp_all
 clear hown hgrow hat hv7 hf7 ex7 ev7 ew7
 go_wp2_with (at_builtin;go_must (refine wpList_append_lies _ rfl _ _ 33 rfl B 3 j0 (xd xh 0) 1 8 underlying33 ji jz0 jz1 jz2 rfl zd _ L2.length (x7 3) rfl ?c0 ⟨q7.heap.size,0,none⟩ 1 1 [xd xh x] rfl rfl ?c1 ?c2 zd ?c3 ?c4 ?c5 (q7.heap.size+1) ?c6 ?_))
 case c0=>have:=fL (HV7.out.own 3) ((Below.refl _ _).alloc (Nat.le_refl _) (xi #[xd xh x] 3));rw[HL7.out,HW7.out 3 zp] at this;exact this
 case c1=>
  intro j u hj
  match j,hj with
  |0,hj=>simp at hj;subst hj;exact cell_of_blk (fk _ _ _ (by simp[World.setCell])) 0
  |j+1,hj=>trivial
 case c2=>intro u hu;simp at hu;subst hu;rfl
 case c3=>unfold maxLen;omega
 case c4=>omega
 case c5=>simp;omega
 case c6=>simp
 intro g8 cap8 q8 hown hgrow hat _;replace hgrow:=xR (HW7.out 3 zp) hgrow;replace hat:(v7 3).ownBlock=some g8\/g8=q7.heap.size+1:=by rw[HW7.out 3 zp];omega
 have hnq:=(hgrow.block nb zs (fun e=>gp (HV7.out.own 3) e.symm HV7.out.blk zd)).trans ((Below.heap_alloc _ _ _ (fh HV7.out.blk)).trans HV7.out.blk);obtain⟨v8,x8,hv8,hf8,ex8,ev8,ew8⟩:=(HV7.out.later ((Below.refl _ _).alloc (Nat.le_refl _) (xi #[xd xh x] 3))).step 3 3 rfl (xd xh x) HL7.out.symm hown hgrow za;clear nbc nbf;have nbc:=cell_of_blk hnq;have nbf:=fi hnq;clear hnq;have HV8:=fa hv8;have HX8:=fa ex8;have HW8:=fa ew8;have HF8:=fa (HF7.out.trans ((NF.below ((Below.refl _ _).alloc (Nat.le_refl _) (xi #[xd xh x] 3)) HV7.out.low).trans hf8));have hnl8:nb<q8.heap.size:=by have:=fh HV8.out.blk;simp_all
 have hBw8:B<=q8.heap.size:=by have:=HV8.out.low;simp_all
 clear hown hgrow hat hv8 hf8 ex8 ev8 ew8;have e70:=(HW7.out 0 zp).trans ((HW6.out 0 zp).trans HE5.out);have nb0:=(nbc 0).trans (congrArg some e70);have nb3:=nbc 3;clear nbc e70;go_wp2;go_ret;refine⟨?_,⟨v8, ?_⟩,HF8.out⟩
 ·rw[HAD.out];exact pL zp
 rw[HAD.out];have hx:=Hl HX5.out HX6.out HX7.out HX8.out;have hd:x=if a.1=0 then kY a.2.1 0 al (-1) else -1:=HXE.out.symm;rw[<-hd,<-hx];exact HV8.out
 ):zq:=h
theorem zm83(h:zq:=by
 go_wp2;go_ret;exact⟨TellsB.no HN.out,HB1.out⟩
 ):zq:=h
theorem zm107(h:zq:=by
 have h1:ib rs=ib (rs.take (k+1))+ib (rs.drop (k+1)):=by rw[<-ni,List.take_append_drop]
 rw[htk,ni] at h1;simp only[ib] at h1;omega
 ):zq:=h
theorem zm142(h:zq:=by
 exact h.bel.setCell (p:=⟨w.heap.size+1,k,none⟩) zp _
 ):zq:=h
theorem zm149(h:zq:=by
 exact⟨fk _ _ _ zp,(Below.heap_alloc _ _ _ zp).trans (ft _ _),hB.alloc zp _⟩
 ):zq:=h
theorem zm155(h:zq:=by
 exact(Below.heap_setCell _ _ _ _ zp).trans h.box
 ):zq:=h
theorem zm169(h:zq:=by
 go_wp2
 go_roundw
 ·exact⟨k+1,true,M.set k true,zo,rfl,zf,HA2,HS2⟩
 simp[intOf];omega
 ):zq:=h
theorem zm174(h:zq:=by
 clear hlvk;go_wp2
 go_roundw
 ·exact⟨k+1,b,M,zo,rfl,zf,HA',HR2⟩
 simp[intOf];omega
 ):zq:=h
def jI(L:List Nd)(T:List Int):Fin 5->List Value:=fun i=>if i=0 then L.map (fun d=> xd .u8 (jP d.k)) else if i=1 then L.map (fun d=> xd xh d.a) else if i=2 then L.map (fun d=> xd xh d.b) else if i=3 then L.map (fun d=> xd xh d.t) else T.map (fun t=> xd xh t)
def NSx(w:World)(nb B:Nat)(L:List Nd)(T:List Int):Prop:= ∃v,NS w nb B v (jI L T)
theorem NSx.later{T:List Int}(h:NSx w nb B L T)(I:Below w.heap.size w w'):NSx w' nb B L T:=by
 obtain⟨v,J⟩:=h;exact⟨v,J.later I⟩
theorem Hl{T:List Int}{k:Nat}{a b t:Int}(I:x5=nM (jI L T) 0 (jI L T 0++[xd .u8 (jP k)]))(J:x6=nM x5 1 (x5 1++[xd xh a]))(U:x7=nM x6 2 (x6 2++[xd xh b]))(h8:x8=nM x7 3 (x7 3++[xd xh t])):x8=jI (L++[⟨k,a,b,t⟩]) T:=by
 subst I J U h8;funext i
 match i with
 |0=>simp[nM,jI]
 |1=>simp[nM,jI]
 |2=>simp[nM,jI]
 |3=>simp[nM,jI]
 |4=>simp[nM,jI]
theorem xR{a b:Value}(e:a=b)(h:w.grownBy w' b.ownBlock):w.grownBy w' a.ownBlock:=by rw[e];exact h
def qg(a:Nat × ByteArray × Nat)(al:List Tk)(k:Nat)(x:Int):Int:=if a.1=0 then kY a.2.1 k (al.drop k) x else x
theorem mj(al:List Tk): ∀(f:Fm) (L:List Nd),(gJ al f L).1.length=L.length+gF f
 | .nil,L=>rfl
 | .node _ _ a l r,L=>by
  rw[gJ];show((gJ al r (gJ al l L).1).1++[_]).length=L.length+(1+gF l+gF r);rw[Mu,mj al r,mj al l];simp;omega
theorem JT{k:Nat}(h:k≠0)(hk:k<=12):(jP k==97)=false:=by
 have h:k=1\/k=2\/k=3\/k=4\/k=5\/k=6\/k=7\/k=8\/k=9\/k=10\/k=11\/k=12:=zo;rcases h with rfl|rfl|rfl|rfl|rfl|rfl|rfl|rfl|rfl|rfl|rfl|rfl<;>rfl
theorem Lo:(prog.info? 5).map (fun i=>(i.zero,i.size,i.bytes))=some (some (xd .u8 0),1,1):=zk
theorem I7:(prog.info? 3).map (fun i=>(i.zero,i.size,i.bytes))=some (some (xd xh 0),1,8):=zk
theorem NS.step(h:NS w nb B v x)(i:Fin 5)(o:Nat)(J:i.val=o)(u:Value){g cap:Nat}(hn:n=(x i).length)(ho:w2.ownsRow B (AA i) 1 (xa (some ⟨g,0,none⟩) (n+1) cap) (n+1) (x i++[u]))(hg:w.grownBy w2 (v i).ownBlock)(I:(v i).ownBlock=some g\/g=w.heap.size):
  ∃U x',NS (w2.setCell ⟨nb,o,none⟩ (xa (some ⟨g,0,none⟩) (n+1) cap)) nb B U x'/\NF nb B w (w2.setCell ⟨nb,o,none⟩ (xa (some ⟨g,0,none⟩) (n+1) cap))/\x'=nM x i (x i++[u])/\U i=xa (some ⟨g,0,none⟩) (n+1) cap/\ ∀j,j≠i->U j=v j:=by
 subst hn J;obtain⟨h1,h2⟩:=h.app i u ho hg I;exact⟨_,_,h1,h2,rfl,qt _ _ _,fun j hj=>lW hj⟩
def Kc(al:List Tk)(f:Fm)(L:List Nd)(T:List Int)(nb B:Nat)(w w':World)(e:Ending):Prop:=
 e=xm (xd xh (gJ al f L).2)/\NSx w' nb B (gJ al f L).1 T/\NF nb B w w'
theorem xL(Q:Tk->Prop)(al:List Tk)(o1:Option Addr)(n1 k1:Nat)(ag:al.length<=401)(T:List Int)(nb B:Nat)(aG:nb<B): ∀(f:Fm) (L:List Nd) (w:World) (p:Option Addr),IsF w f p->(f= .nil\/Fg Q f)->ActsAre w o1 n1 k1 al->NSx w nb B L T->L.length+gF f<=100000->
  Calls prog 179 #[xk (some ⟨nb,0,none⟩),xk p,xa o1 n1 k1] w fun e w'=>Kc al f L T nb B w w' e
 | .nil,L,w,p,h,_,_,hns,_=>by
  cases (show p=none from h);have HN:=fa hns;clear hns;go_in;go_wp2;go_ret;exact⟨rfl,HN,NF.refl _ _ _⟩
 | .node u v0 a l r,L,w,p,h,hfg,ha,hns,hsz=>by
  obtain⟨b,pl,pr,rfl,hb,hl,hr⟩:=h;have I:Fg Q (.node u v0 a l r):=by rcases hfg with h|h;cases h;exact h
  have aD:a.1<=12:=by
   rcases I with⟨h,_⟩|⟨⟨_,h⟩,_⟩|⟨⟨_,h⟩,_⟩|⟨⟨_,h⟩,_⟩<;>omega
  have aR:l= .nil\/Fg Q l:=by
   rcases I with⟨_,_,h,_⟩|⟨_,h,_⟩|⟨_,h,_⟩|⟨_,h,_⟩
   ·simp_all
   ·simp_all
   ·simp_all
   simp_all
  have aS:r= .nil\/Fg Q r:=by
   rcases I with⟨_,_,_,h⟩|⟨_,_,h⟩|⟨_,_,h⟩|⟨_,_,h⟩
   ·simp_all
   ·simp_all
   ·simp_all
   simp_all
  have hs:gF (.node u v0 a l r)=1+gF l+gF r:=rfl;have aO:=fa (fun W ao aq ar=>xL Q al o1 n1 k1 ag T nb B aG l L W pl ao aR aq ar zo);have bc:=cell_of_blk hb;have HB:=fa hb;have HL:=fa hl;have HR:=fa hr;have HA:=fa ha;have HN:=fa hns;clear hb hl hr ha hns hfg I;go_in;go_wp2_with fail;refine(aO w HL HA HN).mono ?_;rintro e w1 ⟨rfl,aE,U⟩;clear bc;have au:=U.kt _ _ _ _ (Mt rfl) HB;have bc:=cell_of_blk au;have aB:=fa (U.kt.isF HR);have ai:=fa (U.kt.acts HA);have ax:=fa au;have aA:=fa aE;have ay:=fa U;have aU:((gJ al l L).1).length+gF r<=100000:=by have:=mj al l L;omega
  have aP:=fa (fun W ao aq ar=>xL Q al o1 n1 k1 ag T nb B aG r (gJ al l L).1 W pr ao aS aq ar aU);clear au aE U HB HL HR HA HN;go_wp2_with fail;refine(aP w1 aB ai aA).mono ?_;rintro e w2 ⟨rfl,aF,ae⟩;clear bc;have av:=ae.kt _ _ _ _ (Mt rfl) ax;have ad:=fa av;have aj:=fa (ae.kt.acts ai);have an:=fa aF;have az:=fa (ay.trans ae);have bc:=cell_of_blk av;have hn1l:=aj.len;have hlq:(gJ al r (gJ al l L).1).1.length+1<=100000:=by have:=mj al l L;have:=mj al r (gJ al l L).1;omega
  clear av aF ae ax ai aA ay aB;go_wp2
  go_loopw [9,10] (fun v i wr=> ∃(k d:Nat) (x:Int),i=xd xh (k:Int)/\v=xd xh x/\k<=al.length/\Hid (qg a al 0 (-1)=qg a al k x)/\Hid (wr=w2.drewN d)) (fun _ i _=>al.length - (intOf i).toNat)
  ·exact⟨0,0, -1,rfl,rfl,MD _,rfl,rfl⟩
  obtain⟨k,d,x,rfl,rfl,hkk,HX,HW⟩:=hrel;clear bc;have J:Hid (Below w2.heap.size w2 wr):=by have:=jA w2 d;rw[<-HW.out] at this;exact this
  have bc:=fun o=>cell_of_blk ((J.block _ (fh ad)).trans ad) o
  by_cases hlt:k<al.length
  ·obtain⟨t,rr,ht⟩:=jn hlt;have ak:=fa ((KT.below J).acts aj);obtain⟨g,ho,hgl,_,t0,t1,t2⟩:=ak.tok ht;subst ho;have aT:(k:Int)<(n1:Int):=zo;by_cases hk:a.1=0
   ·have HS:Hid (qg a al k x=qg a al (k+1) (if t.s.toList=a.2.1.toList then (k:Int) else x)):=by
     show _=_;unfold qg;rw[if_pos hk,if_pos hk,ht,kY,nT ht]
    have aH:jP a.1=97:=by rw[hk];rfl
    have b0:wr.cell? ⟨b,0,none⟩=some (xd .u8 97):=za;have b1:wr.cell? ⟨b,1,none⟩=some (xj a.2.1):=bc 1;clear bc ht ak hk aH;cases he:(t.s.toList==a.2.1.toList) with
    |true=>
     have HE:Hid (t.s.toList=a.2.1.toList):=fa (by simpa using he);go_wp2;go_quiet (fail);go_wp2
     go_roundw
     ·exact⟨k+1,d+nq,k,zf,rfl,zo,by show _=_;rw[HX.out,HS.out,if_pos HE.out],by show _=_;rw[HW.out,My]⟩
     simp[intOf];omega
    |false=>
     have HE:Hid (¬ t.s.toList=a.2.1.toList):=fa (by simpa using he);go_wp2;go_quiet (fail);go_wp2
     go_roundw
     ·exact⟨k+1,d+nq,x,zf,rfl,zo,by show _=_;rw[HX.out,HS.out,if_neg HE.out],by show _=_;rw[HW.out,My]⟩
     simp[intOf];omega
   have HS:Hid (qg a al k x=qg a al (k+1) x):=by
    show _=_;unfold qg;omega
   have aH:=JT hk aD;have b0:wr.cell? ⟨b,0,none⟩=some (xd .u8 (jP a.1)):=bc 0;clear bc ht ak hk;generalize jP a.1=ro at *;go_wp2;go_quiet (fail);go_wp2
   go_roundw
   ·exact⟨k+1,d+nq,x,zf,rfl,zo,by show _=_;rw[HX.out,HS.out],by show _=_;rw[HW.out,My]⟩
   simp[intOf];omega
  have aT:¬ (k:Int)<(n1:Int):=zo;have HXE:Hid (qg a al 0 (-1)=x):=by
   show _=_;rw[HX.out];unfold qg
   split
   ·rw[List.drop_eq_nil_of_le zo,kY]
   rfl
  obtain⟨v,hv⟩:=an.later J;have HV:=fa hv;have nbc:=cell_of_blk hv.blk;have nbf:=fi hv.blk;have hnl:=fh hv.blk;have hbl:b<wr.heap.size:=by have:=fh ad;have:=J.size;omega
  have hBw:=hv.low;have HFW:=fa (az.trans (NF.below J (by obtain⟨v',aV⟩:=an.out;exact aV.low)));obtain⟨i0,hi,hz0,hz1,hz2⟩:=info_parts Lo;obtain⟨j0,ji,jz0,jz1,jz2⟩:=info_parts I7;have HP:Hid (qg a al 0 (-1)=if a.1=0 then kY a.2.1 0 al (-1) else -1):=rfl;have HAD:Hid (gJ al (.node u v0 a l r) L=((gJ al r (gJ al l L).1).1++[⟨a.1,(gJ al l L).2,(gJ al r (gJ al l L).1).2,if a.1=0 then kY a.2.1 0 al (-1) else -1⟩],((gJ al r (gJ al l L).1).1.length:Int))):=rfl;have hX0:(jI (gJ al r (gJ al l L).1).1 T 0).length=(gJ al r (gJ al l L).1).1.length:=by simp[jI]
  clear an J ad aj hv HX az HP;generalize (gJ al r (gJ al l L).1).1=L2 at *;go_wp2_with fail;refine wp_region_any zk ?_;change wpAny _ _ _ _ _ _ _ (World.drew _);apply zt0 0 (xk (some ⟨nb,0,none⟩));apply zt0 1 (xk (some ⟨nb,0,none⟩));apply zt0 2 (xk (some ⟨nb,0,none⟩));apply zt0 3 (xk (some ⟨nb,0,none⟩));apply zt0 5 (xk (some ⟨b,0,none⟩));apply zt0 6 (xk (some ⟨b,0,none⟩));apply zt0 7 (xk (some ⟨b,0,none⟩));refine zr2 4 8 (fun K hK=> ?_) fun K hK=> ?_
  ·go_simp;refine hK _ _ ?_;clear hK K;apply zr 8;intro K hK;go_simp;refine hK _ _ ?_;clear hK K;apply zr 9;exact zm0
  go_simp;refine hK _ _ ?_;clear hK K;refine zr2 4 9 (fun K hK=> ?_) fun K hK=> ?_
  ·go_simp;refine hK _ _ ?_;clear hK K;apply zr 9;exact zm0
  go_simp;refine hK _ _ ?_;clear hK K;apply zr 4;exact zm0
theorem NF.toBelow{s:Nat}(h:Below s w w3)(hf:NF nb B w3 w')(hs:s<=nb)(hB:s<=B):Below s w w':=
 ⟨hf.os.trans h.os,hf.tape.trans h.tape,hf.output.trans h.output,Nat.le_trans h.size hf.size,fun b I=>(hf.low b zo zo).trans (h.block b I)⟩
theorem Hm{T:List Int}{k:Int}:nM (jI L T) 4 (jI L T 4++[xd xh k])=jI L (T++[k]):=by
 funext i
 match i with
 |0=>simp[nM,jI]
 |1=>simp[nM,jI]
 |2=>simp[nM,jI]
 |3=>simp[nM,jI]
 |4=>simp[nM,jI]
theorem NS.init(h:w.heap[nb]? =some (xi #[xa none 0 0,xa none 0 0,xa none 0 0,xa none 0 0,xa none 0 0] 294 (0,0))):NSx w nb w.heap.size [] []:=by
 refine⟨fun _=> xa none 0 0,⟨h,fun i=> ?_,fun i j _ k hk=>zv,Mw _⟩⟩;have:jI [] [] i=[]:=by unfold jI;simp
 rw[this];exact World.ownsRow_nil _ _ _ _
theorem drop_cons{l:List α}{k:Nat}(h:k<l.length): ∃t r,l.drop k=t::r:=by
 cases hd:l.drop k with
 |nil=>have:=congrArg List.length hd;simp at this;omega
 |cons t r=>simp
def Kl(al:List Tk)(rs:List Rl)(w w':World)(e:Ending):Prop:=
 ∃nb B,e=xm (xk (some ⟨nb,0,none⟩))/\w.heap.size<=nb/\nb<B/\NSx w' nb B (iF al rs ([],[])).1 (iF al rs ([],[])).2/\Below w.heap.size w w'
theorem BP(Q:Tk->Prop)(o1:Option Addr)(n1 k1:Nat)(o2:Option Addr)(n2 k2:Nat)(al:List Tk)(rs:List Rl)(ha:ActsAre w o1 n1 k1 al)(hr:RowR w o2 n2 k2 rs)(aW:al.length<=401)(bC:rs.length<=401)(a7: ∀r∈rs,r.call=true->qP r)(aT: ∀r∈rs,Fg Q (gL r))(hnl:ib rs<=10000):
  Calls prog 140 #[.agg #[xa o1 n1 k1,xa o2 n2 k2]] w fun e w'=>Kl al rs w w' e:=by
 have HA:=fa ha;have HR:=fa hr;have aH:=fa a7;have bj:=fa aT;clear ha hr a7 aT;obtain⟨j0,ji,bE,bF,bG⟩:=info_parts I7;go_in
 go_wp2_with (refine(sK rs (HR.later (gz.alloc zp _)) bC aH).mono ?_)
 rintro e w3 ⟨v,ps,rfl,U,aU,ai⟩;obtain⟨fo,fc,rfl⟩:=iw U;have hmb:=(ai.block w.heap.size zs).trans ((MI _ _ _ zp).trans (ft w (xi #[xa o1 n1 k1,xa o2 n2 k2] 228)));have aw:=(ai.block (w.heap.size+1) zp).trans (fk (w.alloc (xi #[xa o1 n1 k1,xa o2 n2 k2] 228)) (xi #[xa none 0 0,xa none 0 0,xa none 0 0,xa none 0 0,xa none 0 0] 294) (w.heap.size+1) zp);have ad:=(((Ms w.heap.size w).alloc (Mw _) _).alloc zp _).trans (ai.mono zs);have hz3:=fh aw;have ao:=fa U;have bl:=fa aU;have aG:=fa hmb;have ak:=fa aw;have aF:=fa ad;have bd:=fa ((KT.below ad).acts HA);clear U aU ai hmb aw ad HA HR aH;go_wp2
 go_loopw [5] (fun x wr=> ∃k:Nat,k<=rs.length/\x=xd xh k/\NSx wr (w.heap.size+1) w3.heap.size (iF al (rs.take k) ([],[])).1 (iF al (rs.take k) ([],[])).2/\NF (w.heap.size+1) w3.heap.size w3 wr) (fun x _=>rs.length - (intOf x).toNat)
 ·exact⟨0,MD _,rfl,by rw[List.take_zero];exact NS.init ak,NF.refl _ _ _⟩
 obtain⟨k,hk,rfl,a6,aY⟩:=hrel;have an:=fa a6;have aa:=fa aY;clear a6 aY;by_cases hlt:k<rs.length
 ·obtain⟨r,l,ay⟩:=drop_cons hlt;have bA:(k:Int)<(rs.length:Int):=zo;obtain⟨p,hp,aN⟩:=bl.at ay;obtain⟨g,bx,hg,bu⟩:=hD ao hlt;subst bx;have bw:wr.cell? ⟨g,k,none⟩=some (xk p):=by
   have e1:w3.cell? ⟨g,k,none⟩=some (xk p):=za;have e2 :=aa.low g hg (by
    intro e;obtain⟨_,⟨h1,_⟩|⟨g',aJ,aK,az,_,ag,_⟩⟩:=ao.out
    ·omega
    cases az;rw[e,ak.out] at ag;cases ag)
   unfold World.cell? at e1|-;simp_all
  have hm0:=cell_of_blk ((aa.low w.heap.size zo zo).trans aG) 0;have aO:=aa.kt.isF aN;have aM:=aa.kt.acts bd;have a8:=List.mem_of_mem_drop (ay▸Mx ..);have htk:rs.take (k+1)=rs.take k++[r]:=by
   have bB:rs[k]? =some r:=by
    have:=List.getElem?_drop (xs:=rs) (i:=k) (j:=0);simp_all
   rw[List.take_add_one,bB];rfl
  have ba:ib (rs.take k)+gF (gL r)<=10000:=by
   exact zm107
  have aD:=fa (fun W h1 h2 h3=>xL Q al (o1:=o1) (n1:=n1) (k1:=k1) aW (iF al (rs.take k) ([],[])).2 (w.heap.size+1) w3.heap.size zo (gL r) (iF al (rs.take k) ([],[])).1 W p h1 (Mt (bj r a8)) h2 h3 (by rw[(qe al (rs.take k) ([],[])).1];simp;omega));have bn:Hid (iF al (rs.take (k+1)) ([],[])=((gJ al (gL r) (iF al (rs.take k) ([],[])).1).1,(iF al (rs.take k) ([],[])).2++[(gJ al (gL r) (iF al (rs.take k) ([],[])).1).2])):=by
   show _=_;rw[htk,yP]
  have aP:(iF al (rs.take k) ([],[])).2.length=k:=by rw[(qe al (rs.take k) ([],[])).2];simp;omega
  have bm:=fa aO;have bf:=fa aM;have bD:=aa.size;clear aO aM aN hp bu ay a8 htk ba;generalize hNM:iF al (rs.take k) ([],[])=NM at *;clear hNM;obtain⟨L,T⟩:=NM;have aQ:=aP;clear aP;generalize hAN:gJ al (gL r) L=AN at *;have aE:=fa hAN;clear hAN;go_wp2_with fail;refine wp_region_held_drew (S:=fun w'=>w'.cell? ⟨g,k,none⟩=some (xk p)/\w'.cell? ⟨w.heap.size,0,none⟩=some (xa o1 n1 k1)) zk ?_ (fun I=> ?_)
  ·trivial
  apply zt1 0 (xk (some ⟨w.heap.size+1,0,none⟩)) I;apply zt1 1 (xa (some ⟨g,0,none⟩) rs.length fc) I;apply zt1 2 (xd xh (k:Int)) I;apply zt1 3 (xk (some ⟨g,k,none⟩)) I;apply zt1 4 (xk p) I;apply zt1 5 (xk (some ⟨w.heap.size,0,none⟩)) I;apply zt1 6 (xa o1 n1 k1) I;apply zrH 7;intro K hK;go_simp;refine(aD _ ((KT.below ((Ms _ _).drew)).isF bm) ((KT.below ((Ms _ _).drew)).acts bf) (an.later ((Ms _ _).drew))).mono ?_;rintro e w5 ⟨rfl,aX,av⟩;rw[aE.out] at aX;have ae:=aa.trans ((NF.below ((Ms _ _).drew) bD).trans av);have a':w5.cell? ⟨g,k,none⟩=some (xk p)/\w5.cell? ⟨w.heap.size,0,none⟩=some (xa o1 n1 k1):=by
   refine⟨?_,cell_of_blk ((ae.low w.heap.size zo zo).trans aG) 0⟩;have e2:w5.heap[g]? =wr.heap[g]? :=av.low g hg (by
    intro e;obtain⟨_,⟨h1,_⟩|⟨g',aJ,aK,az,_,ag,_⟩⟩:=ao.out
    ·omega
    cases az;rw[e,ak.out] at ag;cases ag)
   unfold World.cell? at bw|-;simp_all
  refine hK _ _ a' (fun I=> ?_);clear hK K a';rw[aE.out];have bg:=fa ae;obtain⟨v,hv⟩:=aX;have HV:=fa hv;have aA:=cell_of_blk hv.blk;have hnl5:=fh hv.blk;have hBw5:=hv.low;obtain⟨to4,tc,aj⟩:=iw (hv.own 4);have au:(jI AN.1 T 4).length=k:=by simp[jI,aQ]
  rw[au] at aj;have aq:=fa aj;have aI:=fa au;have bH:=(aA 4).trans (congrArg some aj);clear hv av ae aj au aA;apply zt1 8 (xd xh AN.2) I;refine wpAnyH_done zk ?_ _;clear I
  go_wp2_with (at_builtin;go_must (refine wpList_append_lies _ rfl _ _ 33 rfl w3.heap.size 3 j0 (xd xh 0) 1 8 underlying33 ji bE bF bG rfl zd _ k (jI AN.1 T 4) rfl ?c0 ⟨w5.heap.size,0,none⟩ 1 1 [xd xh AN.2] rfl rfl ?c1 ?c2 zd ?c3 ?c4 ?c5 (w5.heap.size+1) ?c6 ?_))
  case c0=>have:=fL (HV.own 4) ((Ms _ _).alloc (Mw _) (xi #[xd xh AN.2] 3));rw[aI.out,aq.out] at this;exact this
  case c1=>
   intro j u hj
   match j,hj with
   |0,hj=>simp at hj;subst hj;exact cell_of_blk (ft _ _) 0
   |j+1,hj=>trivial
  case c2=>intro u hu;simp at hu;subst hu;rfl
  case c3=>unfold maxLen;omega
  case c4=>omega
  case c5=>simp;omega
  case c6=>simp
  intro g8 cap8 q8 U J aR _;replace J:=xR aq J;replace aR:(v 4).ownBlock=some g8\/g8=w5.heap.size+1:=by rw[aq.out];omega
  have ax:=(J.block (w.heap.size+1) zs (fun e=>gp (HV.own 4) e.symm HV.blk zd)).trans ((MI _ _ _ (fh HV.blk)).trans HV.blk);obtain⟨v8,x8,bc,aS,aL,br,bt⟩:=(HV.later ((Ms _ _).alloc (Mw _) (xi #[xd xh AN.2] 3))).step 4 4 rfl (xd xh AN.2) aI.symm U J za;clear bH;have aA:=cell_of_blk ax;have nbf:=fi ax;clear ax;have bo:=fa bc;have bq:=fa aL;have bh:=fa (bg.trans ((NF.below ((Ms _ _).alloc (Mw _) (xi #[xd xh AN.2] 3)) HV.low).trans aS));clear U J aR bc aS aL br bt;go_wp2
  go_roundw
  ·refine⟨k+1,zo,zf, ?_,bh⟩;rw[bn.out];have hx:=bq.out;rw[Hm] at hx;exact⟨v8,hx▸bo.out⟩
  simp[intOf];omega
 have bA:¬ (k:Int)<(rs.length:Int):=zo;have bz:rs.take k=rs:=List.take_of_length_le zo;rw[bz] at an;go_wp2;go_ret;exact⟨_,_,rfl,zo,zo,an,NF.toBelow aF aa zo zo⟩
def zT(ns:List Int)(t:Int)(i:Nat):Bool:=match i with
 |0=>false
 |j+1=>match ns[j]? with
  |some x=>x==t
  |none=>false
def Kk(m:Nat)(d:Nd):Prop:=(d.k<=3/\d.a= -1/\d.b= -1)\/(4<=d.k/\d.k<=8/\(∃a:Nat,d.a=(a:Int)/\a<m)/\d.b= -1)\/(9<=d.k/\d.k<=12/\(∃a:Nat,d.a=(a:Int)/\a<m)/\ ∃b:Nat,d.b=(b:Int)/\b<m)
def AllGood(L:List Nd):Prop:= ∀k d,L[k]? =some d->Kk k d
theorem rI(al:List Tk)(hf:f≠ .nil)(L:List Nd):(gJ al f L).2=((gJ al f L).1.length:Int) - 1:=by
 cases f with
 |nil=>trivial
 |node u v a l r=>rw[gJ];simp
theorem Fg.ne(h:Fg Q f):f≠ .nil:=by
 intro e;subst e;exact h
theorem sP(Q:Tk->Prop)(al:List Tk): ∀(f:Fm) (L:List Nd),(f= .nil\/Fg Q f)->AllGood L->AllGood (gJ al f L).1
 | .nil,L,_,h=>h
 | .node u v a l r,L,hf,h=>by
  have J:Fg Q (.node u v a l r):=by rcases hf with h|h;cases h;exact h
  have U:l= .nil\/Fg Q l:=by
   rcases J with⟨_,_,h,_⟩|⟨_,h,_⟩|⟨_,h,_⟩|⟨_,h,_⟩
   ·simp_all
   ·simp_all
   ·simp_all
   simp_all
  have aa:r= .nil\/Fg Q r:=by
   rcases J with⟨_,_,_,h⟩|⟨_,_,h⟩|⟨_,_,h⟩|⟨_,_,h⟩
   ·simp_all
   ·simp_all
   ·simp_all
   simp_all
  have h1:=sP Q al l L U h;have h2:=sP Q al r (gJ al l L).1 aa h1;have e1:=mj al l L;have e2:=mj al r (gJ al l L).1;intro k d I;rw[gJ] at I;replace I:((gJ al r (gJ al l L).1).1++[(⟨a.1,(gJ al l L).2,(gJ al r (gJ al l L).1).2,if a.1=0 then kY a.2.1 0 al (-1) else -1⟩:Nd)])[k]? =some d:=I;rcases Nat.lt_trichotomy k (gJ al r (gJ al l L).1).1.length with hk|hk|hk
  ·rw[List.getElem?_append_left hk] at I;exact h2 k d I
  ·rw[List.getElem?_append_right zo,show k - (gJ al r (gJ al l L).1).1.length=0 from zo] at I;cases I;rcases J with⟨hk0,_,rfl,rfl⟩|⟨hk0,rfl,rfl⟩|⟨hk0,hl,rfl⟩|⟨hk0,hl,hr⟩
   ·exact ME ⟨za,rfl,rfl⟩
   ·exact ME ⟨za,rfl,rfl⟩
   ·have:=kD hl.ne;exact Mt (ME ⟨za,za,⟨(gJ al l L).1.length - 1,by show(gJ al l L).2=_;rw[rI al hl.ne];omega,zo⟩,rfl⟩)
   have:=kD hl.ne;have:=kD hr.ne;exact Mt (Mt ⟨za,za,⟨(gJ al l L).1.length - 1,by show(gJ al l L).2=_;rw[rI al hl.ne];omega,zo⟩,(gJ al r (gJ al l L).1).1.length - 1,by show(gJ al r (gJ al l L).1).2=_;rw[rI al hr.ne];omega,zo⟩)
  rw[List.getElem?_eq_none (by rw[Mu];simp;omega)] at I;cases I
theorem ti(Q:Tk->Prop)(al:List Tk): ∀(rs:List Rl) (p:List Nd × List Int),(∀r∈rs,Fg Q (gL r))->AllGood p.1->AllGood (iF al rs p).1
 |[],p,_,h=>h
 |r::rs,p,hf,h=>by
  rw[iF];exact ti Q al rs _ (fun J I=>hf J (MF _ I)) (sP Q al _ _ (Mt (hf r (Mx ..))) h)
theorem uI(Q:Tk->Prop)(al:List Tk): ∀(rs:List Rl) (p:List Nd × List Int),(∀r∈rs,Fg Q (gL r))->(∀t∈p.2,0<=t)-> ∀t∈(iF al rs p).2,0<=t
 |[],p,_,h=>h
 |r::rs,p,hf,h=>by
  rw[iF];refine uI Q al rs _ (fun r' U=>hf r' (MF _ U)) (fun t J=> ?_);rcases List.mem_append.1 J with J|J
  ·simp_all
  rcases List.mem_singleton.1 J with rfl
  have I:=(hf r (Mx ..)).ne;rw[rI al I];have:=kD I;have:=mj al (gL r) p.1;omega
def sr(tr:List ByteArray)(s:ByteArray)(i:Nat):Bool:=match i with
 |0=>false
 |j+1=>match tr[j]? with
  |some x=>x.toList==s.toList
  |none=>false
theorem Fg.weak(h: ∀t,Q t->R t): ∀{f:Fm},Fg Q f->Fg R f
 | .nil,hf=>False.elim hf
 | .node _ _ a l r,hf=>by
  rcases hf with⟨h1,⟨t,h2,h3⟩,h4⟩|hf|⟨h1,h2,h3⟩|⟨h1,h2,h3⟩
  ·exact ME ⟨h1,⟨t,h t h2,h3⟩,h4⟩
  ·exact Mt (ME hf)
  ·exact Mt (Mt (ME ⟨h1,Fg.weak h h2,h3⟩))
  exact Mt (Mt (Mt ⟨h1,Fg.weak h h2,Fg.weak h h3⟩))
def vR(_:Tk):Prop:=True
theorem Fg.act(s:ByteArray):Fg vR (gV s):=ME ⟨rfl,⟨⟨2,s,0⟩,trivial,rfl,rfl,rfl⟩,rfl,rfl⟩
theorem tQ(a:ByteArray): ∀n,Fg vR (lg a n)
 |0=>Fg.one zp (Fg.act a)
 |1=>Fg.one zp (Fg.act a)
 |n+2=>Fg.one zp (Fg.two zp (Fg.act a) (Fg.one zp (tQ a (n+1))))
theorem J'{k:Nat}:Fg vR (i' k a b n):=by
 have I:=Fg.act a;have J:=Fg.act b;have U:Fg vR (leaf 1 ByteArray.empty 0):=Fg.word zp;unfold i'
 repeat' split
 ·exact I
 ·exact Fg.one zp (Fg.two zp I (Fg.one zp (Fg.one zp U)))
 ·exact tQ a n
 ·exact Fg.one zp (tQ a n)
 ·exact Fg.one zp (Fg.two zp I (Fg.one zp J))
 ·exact Fg.two zp (Fg.two zp (Fg.one zp J) I) (Fg.one zp (Fg.one zp J))
 ·exact Fg.one zp (Fg.two zp I (Fg.one zp J))
 ·exact Fg.two zp (Fg.one zp J) (Fg.one zp (Fg.two zp (Fg.one zp J) I))
 ·exact Fg.two zp (Fg.one zp I) (Fg.one zp J)
 ·exact Fg.one zp (Fg.two zp (Fg.one zp I) (Fg.one zp J))
 ·exact Fg.one zp (Fg.two zp I (Fg.one zp (Fg.one zp (Fg.one zp J))))
 exact Fg.one zp (Fg.two zp I (Fg.one zp (Fg.one zp J)))
theorem MGood.fg(h:MGood al rs): ∀r∈rs,Fg vR (gL r):=by
 intro r hr;unfold gL
 split
 ·exact J'
 rename_i hc
 rcases h.rules r hr with⟨h1,_⟩|⟨_,h2,_⟩
 ·exact absurd h1 hc
 exact h2.weak (fun _ _=>trivial)
theorem MGood.call(h:MGood al rs): ∀r∈rs,r.call=true->qP r:=by
 intro r hr hc;have hn:=mI (List.append_eq_nil_iff.1 h.nof).2 r hr;exact xN (Q:=vS) (fun t I=>I.1) (h.rules r hr) hc (hn.2 hc)
theorem MGood.dist(h:MGood al rs):Aa al:=Jf (List.append_eq_nil_iff.1 h.nof).1
theorem Nm.weak{P R:ByteArray->Prop}(h: ∀s,P s->R s): ∀{f:Fm},Nm P f->Nm R f
 | .nil,_=>trivial
 | .node _ _ _ _ _,⟨h1,h2,h3⟩=>⟨fun e=>h _ (h1 e),Nm.weak h h2,Nm.weak h h3⟩
theorem Nm.one{P:ByteArray->Prop}{k:Nat}(h:k≠0)(hf:Nm P f):Nm P (one k f):=⟨fun e=>absurd e h,hf,trivial⟩
theorem Nm.two{P:ByteArray->Prop}{k:Nat}{g:Fm}(h:k≠0)(hf:Nm P f)(hg:Nm P g):Nm P (two k f g):=⟨fun e=>absurd e h,hf,hg⟩
theorem Nm.act{P:ByteArray->Prop}{s:ByteArray}(h:P s):Nm P (gV s):=⟨fun _=>h,trivial,trivial⟩
theorem tS{P:ByteArray->Prop}(h:P a): ∀n,Nm P (lg a n)
 |0=>Nm.one zp (Nm.act h)
 |1=>Nm.one zp (Nm.act h)
 |n+2=>Nm.one zp (Nm.two zp (Nm.act h) (Nm.one zp (tS h (n+1))))
theorem Ka{P:ByteArray->Prop}{k:Nat}(U:P a)(pb:4<=k->P b):Nm P (i' k a b n):=by
 have J:=Nm.act U;have I:=fun h=>Nm.act (pb h)
 have ht:Nm P (leaf 1 ByteArray.empty 0):=⟨fun e=>absurd e zp,trivial,trivial⟩;unfold i'
 split
 ·exact J
 split
 ·exact Nm.one zp (Nm.two zp J (Nm.one zp (Nm.one zp ht)))
 split
 ·exact tS U n
 split
 ·exact Nm.one zp (tS U n)
 have I:=I zo
 repeat' split
 ·exact Nm.one zp (Nm.two zp J (Nm.one zp I))
 ·exact Nm.two zp (Nm.two zp (Nm.one zp I) J) (Nm.one zp (Nm.one zp I))
 ·exact Nm.one zp (Nm.two zp J (Nm.one zp I))
 ·exact Nm.two zp (Nm.one zp I) (Nm.one zp (Nm.two zp (Nm.one zp I) J))
 ·exact Nm.two zp (Nm.one zp J) (Nm.one zp I)
 ·exact Nm.one zp (Nm.two zp (Nm.one zp J) (Nm.one zp I))
 ·exact Nm.one zp (Nm.two zp J (Nm.one zp (Nm.one zp (Nm.one zp I))))
 exact Nm.one zp (Nm.two zp J (Nm.one zp (Nm.one zp I)))
theorem yE{s:ByteArray}(h:iW al s p=[]):iH al s=true:=by
 obtain⟨_,h2⟩:=List.append_eq_nil_iff.1 h;simp_all
theorem Az: ∀{f:Fm},pT al f=[]->Nm (fun s=>iH al s=true) f
 | .nil,_=>trivial
 | .node _ _ a l r,h=>by
  rw[pT] at h;obtain⟨I,J⟩:=List.append_eq_nil_iff.1 h;obtain⟨U,h4⟩:=List.append_eq_nil_iff.1 J;exact⟨fun e=>by rw[if_pos e] at I;exact yE I,Az U,Az h4⟩
theorem vj(h:qK al kinds t=[])(J:t.k=2):iH al t.s=true:=by
 obtain⟨I,_⟩:=List.append_eq_nil_iff.1 h;rw[if_pos J] at I;exact yE I
theorem MGood.nm(h:MGood al rs): ∀r∈rs,Nm (fun s=>iH al s=true) (gL r):=by
 intro r hr;have hn:=mI (List.append_eq_nil_iff.1 h.nof).2 r hr;unfold gL
 split
 ·rename_i hc
  have U:=h.call r hr hc;have aa:=hn.2 hc;obtain⟨_,h2⟩:=List.append_eq_nil_iff.1 aa;obtain⟨_,h3⟩:=List.append_eq_nil_iff.1 h2;obtain⟨I,_⟩:=List.append_eq_nil_iff.1 h3;rcases h.rules r hr with⟨_,_,_,_,x,_,hx,hargs⟩|⟨h1,_⟩
  ·have hx0:mq r.args 0=x.s:=by
    rcases hargs with e|⟨y,_,_,e⟩<;>rw[e]<;>rfl
   have hax:iH al x.s=true:=by
    rcases hargs with e|⟨y,_,_,e⟩
    ·rw[e,fArgs] at I;exact vj (List.append_eq_nil_iff.1 I).1 hx
    rw[e,fArgs] at I;exact vj (List.append_eq_nil_iff.1 I).1 hx
   refine Ka za (fun h5=> ?_);rcases U with⟨h6,_⟩|⟨_,h6,_⟩|⟨_,h6,x',y',e⟩
   ·omega
   ·omega
   have ht:ir (gR r.word.s.toList)=[110,110]:=by
    unfold ir;rw[if_neg zo,if_neg zo,if_pos h6]
   rw[e,ht] at I;rw[fArgs,fArgs] at I;obtain⟨_,h7⟩:=List.append_eq_nil_iff.1 I;obtain⟨h8,_⟩:=List.append_eq_nil_iff.1 h7;rw[e];show iH al y'.s=true;have hk:y'.k=2:=by
    obtain⟨_,J⟩:=List.append_eq_nil_iff.1 h8;by_cases e2:y'.k=2
    ·omega
    have:iq [110].tail.tail y'=true\/iq [110,110].tail y'=true:=by
     right;show iq [110] y'=true;unfold iq;simp[e2]
    rcases this with hb|hb
    ·rw[show([110,110]:List UInt8).tail=[110] from rfl] at J;rw[if_pos (by unfold iq;simp[e2])] at J;cases J
    simp_all
   exact vj h8 hk
  rw[h1] at hc;cases hc
 exact Az hn.1
theorem Lc(I:Aa al)(J: ∀x∈tr,iH al x=true){s:ByteArray}(hs:iH al s=true)(i:Nat):
  zT (tr.map fun x=>oj x 0 al) (kY s 0 al (-1)) i=sr tr s i:=by
 cases i with
 |zero=>rfl
 |succ j=>
  simp only[zT,sr,Mz];cases hx:tr[j]? with
  |none=>rfl
  |some x=>exact KO I (J x (List.mem_of_getElem? hx)) hs
theorem DC(h:MGood al rs)(I: ∀x∈tr,iH al x=true):
  (iF al rs ([],[])).2.all (fun t=>rowAt (iM tr.length (zT (tr.map fun x=>oj x 0 al)) (iF al rs ([],[])).1) t 1)=rs.all (fun r=>jQ tr.length (sr tr) (gL r) 1):=by
 rw[A8 al tr.length (sr tr) (zT (tr.map fun x=>oj x 0 al)) rs ([],[]) (fun r hr=>(h.nm r hr).weak (fun s hs i=>Lc h.dist I hs i)) (fun t I=>zv)];simp
end Go.Proofs.YtidakhhekofkoaaGreatDoor
namespace Go.Proofs.YtidakhhekofkoaaGreatDoor.Rt
open Go.Proofs.Tryz
open Go.Deep
open Value renaming slice -> xa, int -> xd, string -> xj, pointer -> xk, bool -> xn
open IntKind renaming i64 -> xh
open Obj renaming cells -> xi
open Ending renaming returned -> xm
open List renaming getElem?_eq_getElem -> Mr, length_append -> Mu, mem_cons_self -> Mx, getElem?_map -> Mz, mem_cons_of_mem -> MF, take_succ_cons -> MG, getElem_mem -> MJ
open Go.RowKit.Below renaming refl -> Ms, heap_alloc -> MI
open Or renaming inr -> Mt, inl -> ME
open Nat renaming le_refl -> Mw, le_of_eq -> MC, zero_le -> MD, lt_or_ge -> MH
open World renaming drewN_drewN -> My
variable {c j b:Nat} {al L L1:List Tk} {rs:List Rl} {f:Fm}
theorem sY(s:ByteArray)(i j:Nat):(s.extract i j).data.toList=(s.data.toList.drop i).take (j - i):=by
 simp
theorem oq(p:UInt8->Bool): ∀(l:List UInt8),∀c∈l.take (span p l),p c=true
 |[],c,h=>zv
 |d::r,c,h=>by
  unfold span at h
  split at h
  ·rename_i hd
   rw[MG] at h;rcases List.mem_cons.1 h with rfl|h
   ·omega
   exact oq p r c h
  trivial
def Er(t:Tk):Prop:=(t.k=2->t.s.data.toList≠[]/\(∀c∈t.s.data.toList,isLet c=true)/\isWord t.s.data.toList=false)/\(t.k=3-> ∃c:UInt8,t.s.data.toList=[c]/\48<=c.toNat/\c.toNat<=57)
theorem E4{l:List UInt8}(h:jx l=2):isWord l=false:=by
 cases hw:isWord l with
 |false=>rfl
 |true=>have:=xH l hw;omega
theorem si:jo c≠2/\jo c≠3:=by
 unfold jo
 repeat' split
 all_goals simp
theorem AT{s:ByteArray}:Er (gT s j):=by
 unfold gT
 split
 ·rename_i h
  split
  ·rename_i hl
   refine⟨fun I=>⟨?_, ?_,E4 I⟩,fun I=> ?_⟩
   ·show(s.extract j (gP isLet s j)).data.toList≠[];rw[sY];have e:gP isLet s j - j=span isLet (s.data.toList.drop j):=by unfold gP;omega
    rw[e,drop_at s j h,span,if_pos hl,MG];simp
   ·show ∀c∈(s.extract j (gP isLet s j)).data.toList,isLet c=true;rw[sY];have e:gP isLet s j - j=span isLet (s.data.toList.drop j):=by unfold gP;omega
    rw[e];exact oq _ _
   have J:jx (s.extract j (gP isLet s j)).data.toList=3:=I;unfold jx at J
   repeat' split at J
   all_goals omega
  split
  ·rename_i U
   exact⟨fun I=>(by cases I),fun _=>⟨s[j],lY s j h,U.1,U.2⟩⟩
  split
  ·split
   ·exact⟨fun I=>(by cases I),fun I=>(by cases I)⟩
   exact⟨fun I=>absurd I (si).1,fun I=>absurd I (si).2⟩
  exact⟨fun I=>absurd I (si).1,fun I=>absurd I (si).2⟩
 exact⟨fun I=>(by cases I),fun I=>(by cases I)⟩
theorem CL(s:ByteArray): ∀n i,∀t∈jg s n i,Er t
 |0,_,t,h=>by simp[jg] at h
 |n+1,i,t,h=>by
  by_cases hk:(gT s (gP gZ s i)).k<=1
  ·rw[lI s n i hk] at h;simp at h;subst h;exact AT
  rw[nA s n i hk] at h;rcases List.mem_cons.1 h with rfl|h
  ·exact AT
  exact CL s n _ t h
theorem readM_nm{s:ByteArray}(h:iy s= .ok (al,rs)):(∀t∈al,Er t/\t.k=2)/\ ∀r∈rs,∃m,RlGood Er m r:=by
 unfold iy at h
 split at h
 ·cases h
 cases hm:gW (jg s (s.size+1) 0) with
 |error q=>rw[hm] at h;cases h
 |ok m=>
  obtain⟨al',rs'⟩:=m;rw[hm,tE] at h
  split at h
  ·cases h
  split at h
  ·cases h
  cases h;have hg:=mJ Er _ _ _ hm (fun t I=>CL s _ _ t I);exact⟨hg.1,fun r hr=>⟨_,hg.2.2.2.1 r hr⟩⟩
def ks(t:Tk):Nat × List UInt8:=(t.k,t.s.data.toList)
def LX(s:ByteArray)(i:Nat)(T:List (Nat × List UInt8))(j:Nat):Prop:=i+T.length<=j/\ ∀n,(jg s (n+T.length) i).map ks=T++(jg s n j).map ks
theorem LX.trans{s:ByteArray}{i k:Nat}{T U:List (Nat × List UInt8)}(h:LX s i T j)(g:LX s j U k):LX s i (T++U) k:=⟨by have:=h.1;have:=g.1;rw[Mu];omega,fun n=>by
 rw[Mu,show n+(T.length+U.length)=(n+U.length)+T.length from zo,h.2,g.2,List.append_assoc]⟩
def FE:Fm->Fm->Prop
 | .nil,.nil=>True
 | .node _ _ a l r,.node _ _ b l' r'=>a.1=b.1/\(a.1=0->a.2.1=b.2.1)/\FE l l'/\FE r r'
 | .nil,.node _ _ _ _ _=>False
 | .node _ _ _ _ _,.nil=>False
def P4(L:List Tk)(f:Fm)(L1:List Tk)(b:Nat):Prop:= ∀p,b<=p->pf p 4 .nil L= .ok (f,L1)
theorem L8(h:gu L≠16)(p:Nat):pf (p+1) 6 f L= .ok (f,L):=by rw[pf,if_neg h]
theorem L7(h:gu L≠15)(p:Nat):pf (p+1) 5 f L= .ok (f,L):=by rw[pf,if_neg h]
theorem P4.l3(h:P4 L f L1 b)(h1:gu L1≠13)(p:Nat)(hp:b+1<=p):pf p 3 .nil L= .ok (f,L1):=by
 obtain⟨q,rfl⟩: ∃q,p=q+1:=⟨p - 1,zo⟩;rw[pf,h q zo];simp_all
theorem P4.l2(h:P4 L f L1 b)(I:gu L1≠13)(J:gu L1≠16)(p:Nat)(hp:b+2<=p):pf p 2 .nil L= .ok (f,L1):=by
 obtain⟨q,rfl⟩: ∃q,p=q+2:=⟨p - 2,zo⟩;rw[pf,h.l3 I (q+1) zo];exact L8 J q
theorem P4.l1(h:P4 L f L1 b)(I:gu L1≠13)(J:gu L1≠16)(U:gu L1≠15)(p:Nat)(hp:b+3<=p):pf p 1 .nil L= .ok (f,L1):=by
 obtain⟨q,rfl⟩: ∃q,p=q+2:=⟨p - 2,zo⟩;rw[pf,h.l2 I J (q+1) zo];exact L7 U q
theorem P4.l0(h:P4 L f L1 b)(I:gu L1≠13)(J:gu L1≠16)(U:gu L1≠15)(h4:gu L1≠14)(p:Nat)(hp:b+4<=p):pf p 0 .nil L= .ok (f,L1):=by
 obtain⟨q,rfl⟩: ∃q,p=q+1:=⟨p - 1,zo⟩;rw[pf,h.l1 I J U q zo];simp_all
end Go.Proofs.YtidakhhekofkoaaGreatDoor.Rt
namespace Go.Proofs.YtidakhhekofkoaaGreatDoor
open Go.Proofs.Tryz
open Go.RowKit Go.Deep
open Value renaming slice -> xa, int -> xd, string -> xj, pointer -> xk, bool -> xn
open IntKind renaming i64 -> xh
open Obj renaming cells -> xi
open Ending renaming returned -> xm
open List renaming getElem?_eq_getElem -> Mr, length_append -> Mu, mem_cons_self -> Mx, getElem?_map -> Mz, mem_cons_of_mem -> MF, take_succ_cons -> MG, getElem_mem -> MJ
open Go.RowKit.Below renaming refl -> Ms, heap_alloc -> MI
open Or renaming inr -> Mt, inl -> ME
open Nat renaming le_refl -> Mw, le_of_eq -> MC, zero_le -> MD, lt_or_ge -> MH
open World renaming drewN_drewN -> My
variable {f:Int} {w wr:World} {m:Nat × Nat} {L:List Bool} {i:Nat} {r:List Int}
theorem Ag(f:Int):bits .and xh f 1=f%2:=by
 show IntKind.i64.wrap ((BitVec.ofInt 64 f&&&BitVec.ofInt 64 1).toNat:Int)=_;rw[BitVec.toNat_and,show(BitVec.ofInt 64 1).toNat=1 from rfl,Nat.and_one_is_mod,BitVec.toNat_ofInt];rw[IntKind.wrap_i64];omega
theorem Gm(h0:0<=f)(h3:f<=3):bits .and xh f 2=if 2<=f then 2 else 0:=by
 have:f=0\/f=1\/f=2\/f=3:=zo;rcases this with rfl|rfl|rfl|rfl<;>rfl
theorem Tryz.infoBool:(prog.info? 4).map (fun i=>(i.zero,i.size,i.bytes))=some (some (xn false),1,1):=zk
def lJ(L:List Bool):Array Value:=(L.map xn).toArray
theorem pQ(L:List Bool)(k:Nat)(x:Bool)(h:L[k]? =some x):(lJ L)[k]? =some (xn x):=by
 unfold lJ;simp_all
theorem yt(L:List Bool)(k:Nat)(x:Bool):(lJ L).setIfInBounds k (xn x)=lJ (L.set k x):=by
 unfold lJ;simp
def E0:Value->Bool
 | xn true=>true
 |_=>false
def Ao(w:World)(g:Nat):Nat:=
 match w.heap[g]? with
 |some (xi c _ _)=>c.toList.countP E0
 |_=>0
theorem Cz{g ty:Nat}(h:w.heap[g]? =some (xi (lJ L) ty m)):Ao w g=L.count true:=by
 unfold Ao;rw[h];simp only[lJ];clear h
 induction L with
 |nil=>rfl
 |cons x r ih=>
  rw[List.map_cons,List.countP_cons,List.count_cons,ih];cases x<;>rfl
structure AL (w wr:World) (g:Nat) (T:Array Value) (L:List Bool):Prop where
 blk:wr.heap[g]? =some (xi (lJ L) 4 (0,0))
 box:wr.heap[w.heap.size]? =some (xi T 36 (0,0))
 bel:Below w.heap.size w wr
theorem AL.bos{g:Nat}{T:Array Value}(h:AL w wr g T L):Kg wr (some ⟨g,0,none⟩) L:=fun j x I=>
 ⟨g,0,rfl,fh h.blk,by rw[Nat.zero_add,cell_of_blk h.blk,pQ L j x I]⟩
theorem AL.set{T:Array Value}(h:AL w wr (w.heap.size+1) T L)(k:Nat):AL w (wr.setCell ⟨w.heap.size+1,k,none⟩ (xn true)) (w.heap.size+1) T (L.set k true):=by
 refine⟨?_, ?_, ?_⟩
 ·have:=fj h.blk k (xn true);rw[yt] at this;omega
 ·exact zm155
 exact zm142
def Ad(z:Tz)(L:List Bool)(i:Nat):Prop:= ∀f r,z.fl[i]? =some f->z.nx[i]? =some r->lv L i=false->f%2=0/\r.any (fun x=>lv L x.toNat)=false
def LvSound(z:Tz)(L:List Bool):Prop:=L.length=z.nx.length/\ ∀i,lv L i=true->Lives (mi z) i
theorem LvSound.set{z:Tz}(h:LvSound z L){k:Nat}(I:Lives (mi z) k):LvSound z (L.set k true):=by
 refine⟨by rw[List.length_set];exact h.1,fun i hi=> ?_⟩;rw[pZ] at hi
 split at hi
 ·rename_i e
  rw[<-e.1];exact I
 exact h.2 i hi
theorem E8{z:Tz}(h:z.fl[i]? =some f)(h1:f%2=1):Lives (mi z) i:=by
 refine .acc (f:=(f%2).toNat) ?_ zo;unfold mi;simp_all
theorem Hb{z:Tz}(hs:LvSound z L)(h:z.nx[i]? =some r)(I:r.any (fun x=>lv L x.toNat)=true):Lives (mi z) i:=by
 obtain⟨x,J,e⟩:=List.any_eq_true.1 I;refine .step (r:=r.map Int.toNat) (j:=x.toNat) ?_ (List.mem_map.2 ⟨x,J,rfl⟩) (hs.2 _ e);unfold mi;simp_all
theorem JD{z:Tz}(hr:mU z)(hs:LvSound z L)(hc: ∀i,i<z.nx.length->Ad z L i)(i:Nat):lv L i=true↔Lives (mi z) i:=by
 refine AW hs.2 (fun i f I J=> ?_) (fun i r j I J h3=> ?_) i
 ·unfold mi at I;simp only[Mz] at I;cases e:z.fl[i]? with
  |none=>simp_all
  |some g=>
   rw[e] at I;have hg:(g%2).toNat=f:=Option.some.inj I;have hi:i<z.nx.length:=by have:=(List.getElem?_eq_some_iff.1 e).1;have:=hr.fl;omega
   cases hl:lv L i with
   |true=>rfl
   |false=>
    have:=(hc i hi g _ e (Mr hi) hl).1;omega
 unfold mi at I;simp only[Mz] at I;cases e:z.nx[i]? with
 |none=>simp_all
 |some q=>
  rw[e] at I;have U:=Option.some.inj I;have hi:=(List.getElem?_eq_some_iff.1 e).1;cases hl:lv L i with
  |true=>rfl
  |false=>
   have hf:i<z.fl.length:=by have:=hr.fl;omega
   have h4:=(hc i hi _ _ (Mr hf) e hl).2;rw[<-U] at J;obtain⟨x,hx,rfl⟩:=List.mem_map.1 J;simp_all
theorem count_set{k:Nat}(I:L[k]? =some false):L.count true<(L.set k true).count true:=by
 have U:LvLe L (L.set k true):=⟨zp,fun i hi=>by
  rw[pZ];simp_all⟩
 refine U.count.2 fun e=> ?_
 have J:=(List.getElem?_eq_some_iff.1 I).1;rw[e,List.getElem?_set_self J] at I;cases I
structure Eg (z:Tz) (L0 L:List Bool) (b:Bool) (k:Nat):Prop where
 s:LvSound z L
 t:b=true->L0.count true<L.count true
 f:b=false->L=L0/\ ∀i,i<k->Ad z L i
def Kd(z:Tz)(w':World)(e:Ending):Prop:= ∃g L,e=xm (xa (some ⟨g,0,none⟩) z.nx.length z.nx.length)/\L.length=z.nx.length/\Kg w' (some ⟨g,0,none⟩) L/\ ∀i,lv L i=true↔Lives (mi z) i
theorem Eu(ao fo no:Option Addr)(ac fc nc:Nat)(z:Tz)(hI:TbI w ao fo no ac z)(hR:mU z):
  Calls prog 133 #[.agg #[xa ao z.acts.length ac,xa fo z.fl.length fc,xa no z.nx.length nc]] w fun e w'=>Kd z w' e/\Below w.heap.size w w':=by
 have hB:=iz w (xi #[xa ao z.acts.length ac,xa fo z.fl.length fc,xa no z.nx.length nc] 36);have hl3:=hR.n100;have hfa:=MC hR.fl;have aF:=MC hR.fl.symm;obtain⟨i0,ar,ax,ay,aJ⟩:=info_parts Tryz.infoBool;have hmk:=fun (w:World)=>p6 (P:=prog) w 87 4 i0 (xn false) underlying87 ar ax ay rfl zo z.nx.length zo
 clear ar ax ay aJ;have HI:=fa hI;have HR:=fa hR;have J:lJ (List.replicate z.nx.length false)=Array.replicate z.nx.length (xn false):=by
  unfold lJ;simp
 have aC:Hid (AL w ((w.alloc (xi #[xa ao z.acts.length ac,xa fo z.fl.length fc,xa no z.nx.length nc] 36)).alloc (xi (Array.replicate z.nx.length (xn false)) 4)) (w.heap.size+1) #[xa ao z.acts.length ac,xa fo z.fl.length fc,xa no z.nx.length nc] (List.replicate z.nx.length false)):=by
  rw[<-J];exact zm149
 clear hI hR hB J;go_in;go_wp2_with fail;generalize ((w.alloc (xi #[xa ao z.acts.length ac,xa fo z.fl.length fc,xa no z.nx.length nc] 36)).alloc (xi (Array.replicate z.nx.length (xn false)) 4))=W0 at *
 go_loopw [4] (fun mo wr=> ∃b L,mo=xn b/\Hid (AL w wr (w.heap.size+1) #[xa ao z.acts.length ac,xa fo z.fl.length fc,xa no z.nx.length nc] L)/\Hid (LvSound z L)/\Hid (b=false-> ∀i,i<z.nx.length->Ad z L i)) (fun mo wr=>2 * (z.nx.length - Ao wr (w.heap.size+1))+(if E0 mo then 1 else 0))
 ·exact⟨true,_,rfl,aC,⟨zp,fun i hi=>by unfold lv at hi;rw[List.getElem?_replicate] at hi;split at hi<;>cases hi⟩,fun h=>Bool.noConfusion h⟩
 obtain⟨b,L,rfl,HA,HS,HC⟩:=hrel;cases b with
 |false=>
  go_wp2;go_ret;exact⟨⟨w.heap.size+1,L,rfl,HS.1,HA.bos,JD HR HS (HC zp)⟩,HA.bel⟩
 |true=>
  rename World=>wR
  have ak:=cell_of_blk HA.box 2;go_wp2_with fail;clear ak
  go_loopw [4,15] (fun mo x wq=> ∃(k:Nat) (b:Bool) (M:List Bool),k<=z.nx.length/\mo=xn b/\x=xd xh k/\Hid (AL w wq (w.heap.size+1) #[xa ao z.acts.length ac,xa fo z.fl.length fc,xa no z.nx.length nc] M)/\Hid (Eg z L M b k)) (fun _ x _=>z.nx.length - (intOf x).toNat)
  ·exact⟨0,false,L,MD _,rfl,rfl,HA,⟨HS,fun h=>Bool.noConfusion h,fun _=>⟨rfl,fun i hi=>zo⟩⟩⟩
  obtain⟨k,b,M,hk,rfl,rfl,HA',I⟩:=hrel;rcases zc k z.nx.length with⟨hlt,hkn⟩|⟨hlt,hkn⟩
  ·have hkf:(k:Int)<(z.fl.length:Int):=zo;have U:k<z.fl.length:=zo;have au:k<M.length:=by rw[I.s.1];omega
   have bc1:=cell_of_blk HA'.box 1;have ak:=cell_of_blk HA'.box 2;have gf:=fi HA'.blk k;have gc:=(cell_of_blk HA'.blk k).trans (pQ M k M[k] (Mr au));have ae:=fa (HI.later HA'.bel);obtain⟨rb,off,ro,rc,aH,hb,hcx,av⟩:=ae.nx k z.nx[k] (Mr hlt);obtain⟨fb,foff,aG,aF,hfc⟩:=ae.fl k z.fl[k] (Mr U);have HX:=fa (Mr hlt);have HY:=fa (Mr U);have HZ:=fa (Mr au);have aI:=ae.rl z.nx[k] (MJ hlt);have ag:=(HR.rs z.nx[k] (MJ hlt)).2;subst aH;subst aG;generalize z.nx[k]=r at *;generalize z.fl[k]=f at *;generalize M[k]=y at *;rw[<-I.s.1] at ag;have HL:=fa (B9 wr ro rc r (some ⟨w.heap.size+1,0,none⟩) z.nx.length M av HA'.bos ag aI (by rw[I.s.1];omega));rw[I.s.1] at HL;clear av ag;have hlvk:lv M k=y:=by unfold lv;rw[HZ.out];rfl
   cases y with
   |true=>
    have HR2:Hid (Eg z L M b (k+1)):=⟨I.s,I.t,fun e=>⟨(I.f e).1,fun i hi=>by
     rcases MH i k with h|h
     ·exact(I.f e).2 i h
     obtain rfl:i=k:=zo;intro f' r' _ _ h3;simp_all⟩⟩
    exact zm174
   |false=>
    have aj:=fa (count_set HZ);by_cases hf1:f%2=1
    ·have hand:bits .and xh f 1=1:=by rw[Ag];omega
     have HS2:Hid (Eg z L (M.set k true) true (k+1)):=⟨I.s.set (E8 HY hf1),fun _=>by
      cases b with
      |true=>exact Nat.lt_trans (I.t rfl) aj
      |false=>rw[<-(I.f rfl).1];trivial,fun e=>Bool.noConfusion e⟩
     have HA2:=fa (HA'.set k);clear hlvk hf1;exact zm169
    have hand:bits .and xh f 1=0:=by rw[Ag];omega
    generalize hld:(r.any fun x=>lv M x.toNat)=ld at *;have aD:=fa hld;clear hld;have aq:f%2=0:=zo;have HF0:=fa aq;clear hf1 aq
    go_wp2_with (refine HL.mono ?_)
    rintro e w2 ⟨rfl,aw⟩;have h2:=aw.symm;clear aw;subst h2;cases ld with
    |true=>
     have HS2:Hid (Eg z L (M.set k true) true (k+1)):=⟨I.s.set (Hb I.s HX aD),fun _=>by
      cases b with
      |true=>exact Nat.lt_trans (I.t rfl) aj
      |false=>rw[<-(I.f rfl).1];trivial,fun e=>Bool.noConfusion e⟩
     have HA2:=fa (HA'.set k);clear hlvk;exact zm169
    |false=>
     have HR2:Hid (Eg z L M b (k+1)):=⟨I.s,I.t,fun e=>⟨(I.f e).1,fun i hi=>by
      rcases MH i k with h|h
      ·exact(I.f e).2 i h
      obtain rfl:i=k:=zo;intro f' r' h1 h2 _;rw[HY.out] at h1;rw[HX.out] at h2;cases h1;cases h2;trivial⟩⟩
     exact zm174
  have U:k=z.nx.length:=zo;subst U;have HM:Hid (2 * (z.nx.length - Ao wr (w.heap.size+1))+(if E0 (xn b) then 1 else 0)<2 * (z.nx.length - Ao wR (w.heap.size+1))+(if E0 (xn true) then 1 else 0)):=by
   show _<_;rw[Cz HA'.blk,Cz HA.blk];have h1:=List.count_le_length (a:=true) (l:=M);rw[I.s.1] at h1;cases b with
   |true=>
    have:=I.t rfl;omega
   |false=>
    have:=(I.f rfl).1;rw[this];simp[E0]
  go_wp2
  go_roundw
  case rel=>exact⟨b,M,rfl,HA',I.s,fun e i hi=>(I.f e).2 i hi⟩
  trivial
def Da(L:List Bool)(i:Nat)(f:Int):Prop:=0<=f/\f<=3/\(2<=f↔lv L i=true)
theorem B5{z:Tz}(h: ∀i,lv L i=true↔Lives (mi z) i):pC z↔ ∀(i:Nat) (f:Int),z.fl[i]? =some f->Da L i f:=by
 unfold pC Da;simp_all
theorem xX(w:World)(ao fo no:Option Addr)(ac fc nc:Nat)(z:Tz)(hI:TbI w ao fo no ac z)(hR:mU z):
  Calls prog 87 #[.agg #[xa ao z.acts.length ac,xa fo z.fl.length fc,xa no z.nx.length nc]] w fun e w'=>TellsB (pC z) e/\Below w.heap.size w w':=by
 have hB:=iz w (xi #[xa ao z.acts.length ac,xa fo z.fl.length fc,xa no z.nx.length nc] 36);have au:=fa (Eu ao fo no ac fc nc z (hI.later hB) hR);have ag:=fa (ft w (xi #[xa ao z.acts.length ac,xa fo z.fl.length fc,xa no z.nx.length nc] 36));have HI:=fa hI;have HB:=fa hB;have hl3:=hR.n100;have hfa:=MC hR.fl;have ay:=MC hR.fl.symm;clear hI hR hB;go_in
 go_wp2_with (refine au.mono ?_)
 rintro e w1 ⟨⟨g,L,rfl,ax,hL,aj⟩,U⟩;generalize w.alloc (xi #[xa ao z.acts.length ac,xa fo z.fl.length fc,xa no z.nx.length nc] 36)=W at *;have an:=(U.block _ (fh ag)).trans ag;have HB1:=fa (HB.trans (U.mono HB.size));have av:=fa (HI.later HB1);have bc1:=cell_of_blk an 1;have I:=fa (B5 aj);have HL:=fa hL;have hLa:L.length<=z.nx.length:=zo;have hLb:z.nx.length<=L.length:=zo;clear an aj hL ax U;go_wp2
 go_loopw [9] (fun x wr=> ∃k:Nat,k<=z.nx.length/\x=xd xh k/\Hid (w1=wr)/\Hid (∀(i:Nat) (f:Int),i<k->z.fl[i]? =some f->Da L i f)) (fun x _=>z.nx.length - (intOf x).toNat)
 ·exact⟨0,MD _,rfl,rfl,fun i f hi=>zo⟩
 obtain⟨k,hk,rfl,HW,HK⟩:=hrel;have hw:=HW.out;subst hw;clear HW;rcases zc k z.nx.length with⟨hlt,hkn⟩|⟨hlt,hkn⟩
 ·have hkf:(k:Int)<(z.fl.length:Int):=zo;have aq:k<z.fl.length:=zo;have aB:k<L.length:=zo;obtain⟨fb,foff,rfl,ay,hfc⟩:=av.fl k z.fl[k] (Mr aq);obtain⟨gb,goff,aA,hgb,az⟩:=HL k L[k] (Mr aB);cases aA;rw[Nat.zero_add] at az;have HY:=fa (Mr aq);have J:lv L k=L[k]:=by unfold lv;simp_all
  have ai:=fa J;clear J;generalize z.fl[k]=f at *;generalize L[k]=y at *;by_cases h0:f<0
  ·have HN:Hid (¬ pC z):=fun h=>by
    have:=(I.1 h k f HY).1;omega
   exact zm83
  by_cases h3:3<f
  ·have HN:Hid (¬ pC z):=fun h=>by
    have:=(I.1 h k f HY).2.1;omega
   exact zm83
  have hand:=Gm (f:=f) zo zo;by_cases hok:2<=f↔y=true
  ·have HK2:Hid (∀(i:Nat) (f:Int),i<k+1->z.fl[i]? =some f->Da L i f):=fun i f' hi aa=>by
    rcases MH i k with h|h
    ·exact HK i f' h aa
    obtain rfl:i=k:=zo;rw[HY.out] at aa;cases aa;exact⟨zo,zo,by rw[ai.out];omega⟩
   cases y with
   |true=>
    rw[if_pos (hok.2 rfl)] at hand;clear hok;exact zm117
   |false=>
    rw[if_neg (fun h=>Bool.noConfusion (hok.1 h))] at hand;clear hok;exact zm117
  have HN:=fa (fun h=>by
   have:=(I.1 h k f HY).2.2;rw[ai.out] at this;exact hok this)
  cases y with
  |true=>
   rw[if_neg (fun h=>hok ⟨fun _=>rfl,fun _=>h⟩)] at hand;clear hok;exact zm83
  |false=>
   rw[if_pos (by
    simp_all)] at hand
   clear hok;exact zm83
 go_wp2;go_ret;refine⟨TellsB.yes (I.2 fun i f hf=>HK i f ?_ hf),HB1⟩;have:=(List.getElem?_eq_some_iff.1 hf).1;omega
theorem yi(w:World)(U fo no:Option Addr)(ac fc nc:Nat)(z:Tz)(hI:TbI w U fo no ac z)(hG:GV w):
  Calls prog 45 #[.agg #[xa U z.acts.length ac,xa fo z.fl.length fc,xa no z.nx.length nc]] w fun e w'=>TellsB (iS z) e/\Below w.heap.size w w':=by
 have hB:=iz w (xi #[xa U z.acts.length ac,xa fo z.fl.length fc,xa no z.nx.length nc] 36);have an:=fa (ft w (xi #[xa U z.acts.length ac,xa fo z.fl.length fc,xa no z.nx.length nc] 36));have HA:=fa (zK U ac z.acts ((hI.later hB).acts) hI.ac (hG.later hB) hI.al);have HI:=fa hI;have HB:=fa hB;have HZ:=fa (yZ z);clear hI hB hG;go_in
 go_wp2_with (refine HA.mono ?_)
 rintro e w1 ⟨⟨b1,rfl,h1⟩,ai⟩;generalize w.alloc (xi #[xa U z.acts.length ac,xa fo z.fl.length fc,xa no z.nx.length nc] 36)=W at *;have I:=(ai.block _ (fh an)).trans an;have ak:=fa I;have HB1:=fa (HB.trans (ai.mono HB.size));clear ai;have aa:=cell_of_blk I 0;have ad:=cell_of_blk I 1;have ae:=cell_of_blk I 2;clear I;have ax:=fa (HI.later HB1);cases b1 with
 |false=>
  have HN:Hid (¬ iS z):=fun h=>Bool.noConfusion (h1.2 (HZ.1 h).1)
  clear h1;exact zm83
 |true=>
  have H1:=fa (h1.1 rfl);clear h1
  go_wp2_with (refine(zL w1 U fo no ac fc nc z ax).mono ?_)
  rintro e w2 ⟨⟨b2,rfl,h2⟩,aj⟩;have I:=(aj.block _ (fh ak)).trans ak;have J:=fa (HB1.trans (aj.mono HB1.size));clear aj aa ad ae;have aa:=cell_of_blk I 0;have ad:=cell_of_blk I 1;have ae:=cell_of_blk I 2;clear I;have ay:=fa (HI.later J);cases b2 with
  |false=>
   have HN:Hid (¬ iS z):=fun h=>Bool.noConfusion (h2.2 (HZ.1 h).2.1)
   clear h2;go_wp2;go_ret;exact⟨TellsB.no HN,J⟩
  |true=>
   have H2:=fa (h2.1 rfl);clear h2
   go_wp2_with (refine(xX w2 U fo no ac fc nc z ay H2).mono ?_)
   rintro e w3 ⟨⟨b3,rfl,h3⟩,ar⟩;have aw:=fa (J.trans (ar.mono J.size));clear ar aa ad ae;have H3:Hid (b3=true↔iS z):=by
    show _↔_;rw[h3,HZ.out];exact⟨fun h=>⟨H1,H2,h⟩,fun h=>h.2.2⟩
   clear h3;go_wp2;go_ret;exact⟨⟨b3,rfl,H3⟩,aw⟩
end Go.Proofs.YtidakhhekofkoaaGreatDoor
