import Derived.Test.YtidakhhekofkoaaGreatDoorT07
set_option linter.all false
set_option maxHeartbeats 1000000
set_option maxRecDepth 100000
namespace Go.Proofs.YtidakhhekofkoaaGreatDoor
open Go.Proofs.Tryz
open Go.RowKit Go.Deep
open Value renaming slice -> xa, int -> xd, string -> xj, pointer -> xk, bool -> xn
open IntKind renaming i64 -> xh
open Obj renaming cells -> xi
open Ending renaming returned -> xm
open World renaming cell?_alloc_lt -> Mr, alloc -> Mt, grownBy_alloc -> Mu
open Nat renaming le_of_eq -> Ms
open Or renaming inl -> Mw, inr -> Mx
variable {zq:Prop}
variable {w w' a b W w2:World} {base n c x y:Nat} {v:Value} {xs:List Value} {f:Fm} {p o:Option Addr} {k1 k2:Option Nat} {e:Ending}
theorem zm42(h:zq:=by
 refine⟨some ⟨g8,0,none⟩,cap8, ?_, ?_,HG8.out, ?_⟩
 ·rw[hlen];rfl
 ·rw[hlen];exact HO8.out
 rcases HAT.out with e|e
 ·exact Or.inl e.symm
 exact Or.inr ⟨g8,rfl,e⟩
 ):zq:=h
theorem zm43(h:zq:=by
 rcases hat with e|e
 ·rcases HAF.out.at_ with e2|⟨g,e2,hg⟩
  ·exact Or.inl (e2.symm.trans e)
  rw[e2] at e;cases e;exact Or.inr zo
 exact Or.inr zo
 ):zq:=h
theorem zm127(h:zq:=by
 have:=hown;show q8.ownsRow _ _ _ _ _ _;rw[vG];rw[show(((T4.length:Nat):Int) - 1)=((T4.length - 1:Nat):Int) from zo] at this;exact this
 ):zq:=h
def Bx(d:Sp):List Value:=[xd xh (d.k:Int),xj d.s,xd xh (d.a:Int),xd xh (d.b:Int)]
def n5(S:List Sp):List Value:=S.flatMap Bx
theorem vG(S:List Sp)(d:Sp):n5 (S++[d])=n5 S++Bx d:=by simp[n5]
theorem FL: ∀{S:List Sp} {k:Nat} {d:Sp},S[k]? =some d-> ∀j,j<4->(n5 S)[k * 4+j]? =(Bx d)[j]?
 |[],k,d,h,j,hj=>zv
 |x::r,0,d,h,j,hj=>by
  simp at h;subst h;show(Bx x++n5 r)[0 * 4+j]? =_;rw[Nat.zero_mul,Nat.zero_add,List.getElem?_append_left zv]
 |x::r,k+1,d,h,j,hj=>by
  show(Bx x++n5 r)[(k+1) * 4+j]? =_;rw[List.getElem?_append_right (by show 4<=_;omega),show(k+1) * 4+j - (Bx x).length=k * 4+j by show(k+1) * 4+j - 4=_;omega];exact FL zv j hj
theorem Tryz.infoSp:(prog.info? 319).map (fun i=>(i.zero,i.size,i.bytes))=some (some (.agg #[xd xh 0,xj ⟨#[]⟩,xd xh 0,xd xh 0]),4,40):=zk
theorem qy(ho:w.ownsRow base 319 4 v n xs)(hg:w.grownBy w' v.ownBlock)(hf:IsG w f p):IsG w' f p:=
 hf.keep (fun b _ _ I=>hg.block b (fh I) (fun e=>gp ho e.symm I zp))
def z7(base:Nat)(S':List Sp)(v:Value)(w w':World)(e:Ending):Prop:=
 ∃o' c',e=xm (xa o' S'.length c')/\w'.ownsRow base 319 4 (xa o' S'.length c') S'.length (n5 S')/\w.grownBy w' v.ownBlock/\((xa o' S'.length c').ownBlock=v.ownBlock\/ ∃g,(xa o' S'.length c').ownBlock=some g/\w.heap.size<=g)
theorem jS{c:World}(I:a.grownBy b k1)(J:b.grownBy c k2)(h:k2=k1\/ ∃g,k2=some g/\a.heap.size<=g):a.grownBy c k1:=by
 refine⟨J.os.trans I.os,J.tape.trans I.tape,J.output.trans I.output,Nat.le_trans I.size J.size,fun x R hn=> ?_⟩;refine(J.block x (Nat.lt_of_lt_of_le R I.size) ?_).trans (I.block x R hn);rcases h with h|⟨g,h,hg⟩
 ·simp_all
 rw[h];intro e;cases e;omega
structure ASt (w W:World) (base:Nat) (v:Value) (o:Option Addr) (c:Nat) (T:List Sp) (k:Nat) (s:ByteArray) (x y:Nat):Prop where
 sb:W.heap[w.heap.size]? =some (xi #[xd xh (k:Int),xj s,xd xh (x:Int),xd xh (y:Int)] 319 (0,0))
 own:W.ownsRow base 319 4 (xa o T.length c) T.length (n5 T)
 gr:w.grownBy W v.ownBlock
 at_:(xa o T.length c).ownBlock=v.ownBlock\/ ∃g,(xa o T.length c).ownBlock=some g/\w.heap.size<g
 vlt: ∀k,v.ownBlock=some k->k<w.heap.size
theorem ASt.ne{T:List Sp}{k:Nat}{s:ByteArray}(h:ASt w W base v o c T k s x y):(xa o T.length c).ownBlock≠some w.heap.size:=by
 rcases h.at_ with e|⟨g,e,hg⟩
 ·rw[e];intro I;have:=h.vlt _ I;omega
 rw[e];intro I;simp_all
theorem ASt.call{T R:List Sp}{k:Nat}{s:ByteArray}(h:ASt w W base v o c T k s x y)(hp:z7 base R (xa o T.length c) W w2 e): ∃J I,e=xm (xa J R.length I)/\ASt w w2 base v J I R k s x y:=by
 obtain⟨J,I,he,ho,hg,U⟩:=hp;have aa:=fh h.sb;refine⟨J,I,he,(hg.block _ aa (fun e=>h.ne e.symm)).trans h.sb,ho,jS h.gr hg ?_, ?_,h.vlt⟩
 ·rcases h.at_ with e|⟨g,e,hgg⟩
  ·simp_all
  exact Mx ⟨g,e,zo⟩
 rcases U with e|⟨g,e,hgg⟩
 ·rw[e];exact h.at_
 exact Mx ⟨g,e,zo⟩
theorem ASt.setA{T:List Sp}{k:Nat}{s:ByteArray}(h:ASt w W base v o c T k s x y)(z:Int)(I:Nat)(J:z=(I:Int)):ASt w (W.setCell ⟨w.heap.size,2,none⟩ (xd xh z)) base v o c T k s I y:=by
 subst J;refine⟨fj h.sb 2 _,gq h.own (fK _ _ _ _) (Mx h.ne),jS h.gr (fK _ _ _ _) (Mx ⟨_,rfl,Nat.le_refl _⟩),h.at_,h.vlt⟩
theorem ASt.setB{T:List Sp}{k:Nat}{s:ByteArray}(h:ASt w W base v o c T k s x y)(z:Int)(I:Nat)(J:z=(I:Int)):ASt w (W.setCell ⟨w.heap.size,3,none⟩ (xd xh z)) base v o c T k s x I:=by
 subst J;refine⟨fj h.sb 3 _,gq h.own (fK _ _ _ _) (Mx h.ne),jS h.gr (fK _ _ _ _) (Mx ⟨_,rfl,Nat.le_refl _⟩),h.at_,h.vlt⟩
theorem kV: ∀(f:Fm) (S:List Sp) (w:World) (p:Option Addr) (base:Nat) (vo:Option Addr) (vc:Nat),f≠ .nil->IsG w f p->w.ownsRow base 319 4 (xa vo S.length vc) S.length (n5 S)->base<=w.heap.size->S.length+gF f<=100000->
  Calls prog 166 #[xa vo S.length vc,xk p] w fun e w'=>z7 base (hY f S) (xa vo S.length vc) w w' e
 | .nil,_,_,_,_,_,_,h,_,_,_,_=>absurd rfl h
 | .node u v0 a .nil .nil,S,w,p,base,vo,vc,_,h,ho,hbase,hsz=>by
  obtain⟨i0,aC,aE,aF,aG⟩:=info_parts Tryz.infoSp;obtain⟨b,pl,pr,rfl,hb,hl,hr⟩:=h;have aq:Hid (hY (.node u v0 a .nil .nil) S=hY .nil (hY .nil S)++[⟨a.1,a.2.1,0,0⟩]):=rfl;have hs:gF (.node u v0 a .nil .nil)=1+gF (.nil:Fm)+gF (.nil:Fm):=rfl;have ag:(hY .nil S).length=S.length+gF (.nil:Fm):=jm _ _;have aS:=Ms ag;have aT:=Ms ag.symm;clear ag;have ai:(hY .nil (hY .nil S)).length=(hY .nil S).length+gF (.nil:Fm):=jm _ _;have aU:=Ms ai;have aV:=Ms ai.symm;clear ai;cases (show pl=none from hl);have aW:gF (.nil:Fm)=0:=rfl;cases (show pr=none from hr);have bc:=cell_of_blk hb;have aa:=fh hb;have aw:=gG ho;have HO:=fa ho;have HB:=fa hb;have c0:w.cell? ⟨b,0,none⟩=some (xd xh (a.1:Int)):=bc 0;have c1:w.cell? ⟨b,1,none⟩=some (xj a.2.1):=bc 1;clear hl hr ho hb bc;go_in;go_wp2_with fail;refine wp_region_held_drew (S:=fun w'=>w'.cell? ⟨b,0,none⟩=some (xd xh (a.1:Int))/\w'.cell? ⟨b,1,none⟩=some (xj a.2.1)) zk ?_ (fun I=> ?_)
  ·trivial
  apply zt1 0 (xk (some ⟨b,0,none⟩)) I;apply zt1 1 (xk (some ⟨b,0,none⟩)) I;apply zt1 2 (xk (some ⟨b,0,none⟩)) I;apply zt1 3 (xd xh (a.1:Int)) I;apply zt1 4 (xk (some ⟨b,0,none⟩)) I;apply zt1 5 (xk (some ⟨b,0,none⟩)) I;apply zt1 6 (xk (some ⟨b,1,none⟩)) I;apply zt1 7 (xj a.2.1) I;apply zt1 8 (.agg #[xd xh (a.1:Int),xj a.2.1,xd xh 0,xd xh 0]) I;apply zrH 9;intro K hK;go_simp;refine hK _ _ ⟨by show(Mt _ _).cell? _=_;rw[Mr _ _ _ (by simpa using aa)];exact I.1,by show(Mt _ _).cell? _=_;rw[Mr _ _ _ (by simpa using aa)];exact I.2⟩ (fun I=> ?_);clear hK K;apply zrH 10;intro K hK;go_simp;refine hK _ _ ⟨by show(Mt _ _).cell? _=_;rw[Mr _ _ _ (by simpa using aa)];exact c0,by show(Mt _ _).cell? _=_;rw[Mr _ _ _ (by simpa using aa)];exact c1⟩ (fun I=> ?_);clear hK K;refine wpAnyH_done zk ?_ _;clear I;have J:Below w.heap.size w ((w.alloc (xi #[xd xh (a.1:Int),xj a.2.1,xd xh 0,xd xh 0] 319)).drew):=gz.drew;have hA:ASt w ((w.alloc (xi #[xd xh (a.1:Int),xj a.2.1,xd xh 0,xd xh 0] 319)).drew) base (xa vo S.length vc) vo vc S a.1 a.2.1 0 0:=⟨ft _ _,fL HO J,⟨J.os,J.tape,J.output,J.size,fun x hx _=>J.block x hx⟩,Mw rfl,fun x hx=>(aw x hx).2⟩;generalize (w.alloc (xi #[xd xh (a.1:Int),xj a.2.1,xd xh 0,xd xh 0] 319)).drew=W1 at *;have ad:=fa hA;clear hA J aw c0 c1;have ae:Hid (∀W:World,w.grownBy W (xa vo S.length vc).ownBlock->W.heap[b]? =w.heap[b]?):=fun W hW=>hW.block b aa (fun e=>gp HO e.symm HB zp)
  have bc:=fun o=>cell_of_blk ((ae _ ad.gr).trans HB) o
  have sc:=cell_of_blk ad.sb;have av:=fh ad.sb;have HAF:=fa ad;have ba:base<=W1.heap.size:=zo
  go_wp2_with (at_builtin;go_must (refine wpList_append_lies _ rfl _ _ 145 rfl base 319 i0 (.agg #[xd xh 0,xj ⟨#[]⟩,xd xh 0,xd xh 0]) 4 40 underlying145 aC aE aF aG rfl zd _ S.length (n5 S) rfl ?c0 ⟨W1.heap.size,0,none⟩ 1 1 [xd xh (a.1:Int),xj a.2.1,xd xh 0,xd xh 0] rfl rfl ?c1 ?c2 zd ?c3 ?c4 ?c5 (W1.heap.size+1) ?c6 ?_))
  case c0=>exact fL HAF.own gz
  case c1=>
   intro j u R
   match j,R with
   |0,R=>simp at R;subst R;exact cell_of_blk (fk _ _ _ zf) 0
   |1,R=>simp at R;subst R;exact cell_of_blk (fk _ _ _ zf) 1
   |2,R=>simp at R;subst R;exact cell_of_blk (fk _ _ _ zf) 2
   |3,R=>simp at R;subst R;exact cell_of_blk (fk _ _ _ zf) 3
   |j+4,R=>trivial
  case c2=>intro u hu;simp at hu;rcases hu with rfl|rfl|rfl|rfl<;>rfl
  case c3=>unfold maxLen;omega
  case c4=>omega
  case c5=>simp;omega
  case c6=>simp
  intro g8 cap8 q8 hown U hat _;have HG8:=fa (jS HAF.gr (jS (Mu _ _ _) U (Mw rfl)) zp);have HO8:Hid (q8.ownsRow base 319 4 (xa (some ⟨g8,0,none⟩) (S.length+1) cap8) (S.length+1) (n5 (S++[⟨a.1,a.2.1,0,0⟩]))):=by
   have:=hown;show q8.ownsRow _ _ _ _ _ _;rw[vG];exact this
  have HAT:Hid ((xa vo S.length vc).ownBlock=some g8\/w.heap.size<=g8):=by
   exact zm43
  clear hown U hat;go_wp2;go_ret;have au:hY (.node u v0 a .nil .nil) S=S++[⟨a.1,a.2.1,0,0⟩]:=aq.out;rw[au];have hlen:(S++[(⟨a.1,a.2.1,0,0⟩:Sp)]).length=S.length+1:=zp;exact zm42
 | .node u v0 a (.node lu lv la ll lr) .nil,S,w,p,base,vo,vc,_,h,ho,hbase,hsz=>by
  obtain⟨i0,aC,aE,aF,aG⟩:=info_parts Tryz.infoSp;obtain⟨b,pl,pr,rfl,hb,hl,hr⟩:=h;have aq:Hid (hY (.node u v0 a (.node lu lv la ll lr) .nil) S=hY .nil (hY (.node lu lv la ll lr) S)++[⟨a.1,a.2.1,(hY (.node lu lv la ll lr) S).length - 1,0⟩]):=rfl;have hs:gF (.node u v0 a (.node lu lv la ll lr) .nil)=1+gF ((.node lu lv la ll lr):Fm)+gF (.nil:Fm):=rfl;have ag:(hY (.node lu lv la ll lr) S).length=S.length+gF ((.node lu lv la ll lr):Fm):=jm _ _;have aS:=Ms ag;have aT:=Ms ag.symm;clear ag;have ai:(hY .nil (hY (.node lu lv la ll lr) S)).length=(hY (.node lu lv la ll lr) S).length+gF (.nil:Fm):=jm _ _;have aU:=Ms ai;have aV:=Ms ai.symm;clear ai;have aJ:=fa (fun W h1 h2 h3 h4=>kV (.node lu lv la ll lr) S W pl base vo vc zp h1 h2 h3 h4);have aW:1<=gF (.node lu lv la ll lr):=by show 1<=1+_+_;omega
  cases (show pr=none from hr);have bo:gF (.nil:Fm)=0:=rfl;generalize hsl:gF ((.node lu lv la ll lr):Fm)=zl at *;generalize hsr:gF (.nil:Fm)=zr at *;obtain⟨bl,bA,bB,bg,bx,_,_⟩:=id hl;subst bg;have bc:=cell_of_blk hb;have aa:=fh hb;have aw:=gG ho;have HL:=fa hl;have HO:=fa ho;have HB:=fa hb;have c0:w.cell? ⟨b,0,none⟩=some (xd xh (a.1:Int)):=bc 0;have c1:w.cell? ⟨b,1,none⟩=some (xj a.2.1):=bc 1;clear hl hr ho hb bc;go_in;go_wp2_with fail;refine wp_region_held_drew (S:=fun w'=>w'.cell? ⟨b,0,none⟩=some (xd xh (a.1:Int))/\w'.cell? ⟨b,1,none⟩=some (xj a.2.1)) zk ?_ (fun I=> ?_)
  ·trivial
  apply zt1 0 (xk (some ⟨b,0,none⟩)) I;apply zt1 1 (xk (some ⟨b,0,none⟩)) I;apply zt1 2 (xk (some ⟨b,0,none⟩)) I;apply zt1 3 (xd xh (a.1:Int)) I;apply zt1 4 (xk (some ⟨b,0,none⟩)) I;apply zt1 5 (xk (some ⟨b,0,none⟩)) I;apply zt1 6 (xk (some ⟨b,1,none⟩)) I;apply zt1 7 (xj a.2.1) I;apply zt1 8 (.agg #[xd xh (a.1:Int),xj a.2.1,xd xh 0,xd xh 0]) I;apply zrH 9;intro K hK;go_simp;refine hK _ _ ⟨by show(Mt _ _).cell? _=_;rw[Mr _ _ _ (by simpa using aa)];exact I.1,by show(Mt _ _).cell? _=_;rw[Mr _ _ _ (by simpa using aa)];exact I.2⟩ (fun I=> ?_);clear hK K;apply zrH 10;intro K hK;go_simp;refine hK _ _ ⟨by show(Mt _ _).cell? _=_;rw[Mr _ _ _ (by simpa using aa)];exact c0,by show(Mt _ _).cell? _=_;rw[Mr _ _ _ (by simpa using aa)];exact c1⟩ (fun I=> ?_);clear hK K;refine wpAnyH_done zk ?_ _;clear I;have J:Below w.heap.size w ((w.alloc (xi #[xd xh (a.1:Int),xj a.2.1,xd xh 0,xd xh 0] 319)).drew):=gz.drew;have hA:ASt w ((w.alloc (xi #[xd xh (a.1:Int),xj a.2.1,xd xh 0,xd xh 0] 319)).drew) base (xa vo S.length vc) vo vc S a.1 a.2.1 0 0:=⟨ft _ _,fL HO J,⟨J.os,J.tape,J.output,J.size,fun x hx _=>J.block x hx⟩,Mw rfl,fun x hx=>(aw x hx).2⟩;generalize (w.alloc (xi #[xd xh (a.1:Int),xj a.2.1,xd xh 0,xd xh 0] 319)).drew=W1 at *;have ad:=fa hA;clear hA J aw c0 c1;have ae:Hid (∀W:World,w.grownBy W (xa vo S.length vc).ownBlock->W.heap[b]? =w.heap[b]?):=fun W hW=>hW.block b aa (fun e=>gp HO e.symm HB zp)
  have bc:=fun o=>cell_of_blk ((ae _ ad.gr).trans HB) o
  have av:=fh ad.sb;go_wp2_with fail;refine(aJ _ (qy HO ad.gr HL) ad.own zo zo).mono ?_;intro e w2 aO;obtain⟨o2,k2,bd,aM⟩:=ad.call aO;subst bd;have ao:=fa aM;clear aO aM bc av aJ;generalize hT2:hY (.node lu lv la ll lr) S=T2 at *;have bc:=fun o=>cell_of_blk ((ae _ ao.gr).trans HB) o
  have sc:=cell_of_blk ao.sb;have sf:=fi ao.sb;have av:=fh ao.sb;have HAF:=fa (ao.setA (((T2.length:Nat):Int) - 1) (T2.length - 1) zo);have ba:base<=w2.heap.size:=zo
  go_wp2_with (at_builtin;go_must (refine wpList_append_lies _ rfl _ _ 145 rfl base 319 i0 (.agg #[xd xh 0,xj ⟨#[]⟩,xd xh 0,xd xh 0]) 4 40 underlying145 aC aE aF aG rfl zd _ T2.length (n5 T2) rfl ?c0 ⟨w2.heap.size,0,none⟩ 1 1 [xd xh (a.1:Int),xj a.2.1,xd xh (((T2.length:Nat):Int) - 1),xd xh 0] rfl rfl ?c1 ?c2 zd ?c3 ?c4 ?c5 (w2.heap.size+1) ?c6 ?_))
  case c0=>exact fL HAF.own gz
  case c1=>
   intro j u R
   match j,R with
   |0,R=>simp at R;subst R;exact cell_of_blk (fk _ _ _ zp) 0
   |1,R=>simp at R;subst R;exact cell_of_blk (fk _ _ _ zp) 1
   |2,R=>simp at R;subst R;exact cell_of_blk (fk _ _ _ zp) 2
   |3,R=>simp at R;subst R;exact cell_of_blk (fk _ _ _ zp) 3
   |j+4,R=>trivial
  case c2=>intro u hu;simp at hu;rcases hu with rfl|rfl|rfl|rfl<;>rfl
  case c3=>unfold maxLen;omega
  case c4=>omega
  case c5=>simp;omega
  case c6=>simp
  intro g8 cap8 q8 hown U hat _;have HG8:=fa (jS HAF.gr (jS (Mu _ _ _) U (Mw rfl)) (by rcases HAF.at_ with e|⟨g,e,hg⟩;exact Mw e;exact Mx ⟨g,e,zo⟩));have HO8:Hid (q8.ownsRow base 319 4 (xa (some ⟨g8,0,none⟩) (T2.length+1) cap8) (T2.length+1) (n5 (T2++[⟨a.1,a.2.1,T2.length - 1,0⟩]))):=by
   have:=hown;show q8.ownsRow _ _ _ _ _ _;rw[vG];rw[show(((T2.length:Nat):Int) - 1)=((T2.length - 1:Nat):Int) from zo] at this;exact this
  have HAT:Hid ((xa vo S.length vc).ownBlock=some g8\/w.heap.size<=g8):=by
   exact zm43
  clear hown U hat;go_wp2;go_ret;have au:hY (.node u v0 a (.node lu lv la ll lr) .nil) S=T2++[⟨a.1,a.2.1,T2.length - 1,0⟩]:=aq.out;rw[au];have hlen:(T2++[(⟨a.1,a.2.1,T2.length - 1,0⟩:Sp)]).length=T2.length+1:=zp;exact zm42
 | .node u v0 a .nil (.node ru rv ra rl rr),S,w,p,base,vo,vc,_,h,ho,hbase,hsz=>by
  obtain⟨i0,aC,aE,aF,aG⟩:=info_parts Tryz.infoSp;obtain⟨b,pl,pr,rfl,hb,hl,hr⟩:=h;have aq:Hid (hY (.node u v0 a .nil (.node ru rv ra rl rr)) S=hY (.node ru rv ra rl rr) S++[⟨a.1,a.2.1,0,(hY (.node ru rv ra rl rr) S).length - 1⟩]):=rfl;have hs:gF (.node u v0 a .nil (.node ru rv ra rl rr))=1+gF (.nil:Fm)+gF ((.node ru rv ra rl rr):Fm):=rfl;have ag:(hY .nil S).length=S.length+gF (.nil:Fm):=jm _ _;have aS:=Ms ag;have aT:=Ms ag.symm;clear ag;have ai:(hY (.node ru rv ra rl rr) S).length=S.length+gF ((.node ru rv ra rl rr):Fm):=jm _ _;have aU:=Ms ai;have aV:=Ms ai.symm;clear ai;cases (show pl=none from hl);have aW:gF (.nil:Fm)=0:=rfl;have aK:=fa (fun S2 W o2 c2 h1 h2 h3 h4=>kV (.node ru rv ra rl rr) S2 W pr base o2 c2 zp h1 h2 h3 h4);have bo:1<=gF (.node ru rv ra rl rr):=by show 1<=1+_+_;omega
  generalize hsl:gF (.nil:Fm)=zl at *;generalize hsr:gF ((.node ru rv ra rl rr):Fm)=zr at *;obtain⟨br,bC,bD,bh,bz,_,_⟩:=id hr;subst bh;have bc:=cell_of_blk hb;have aa:=fh hb;have aw:=gG ho;have HR:=fa hr;have HO:=fa ho;have HB:=fa hb;have c0:w.cell? ⟨b,0,none⟩=some (xd xh (a.1:Int)):=bc 0;have c1:w.cell? ⟨b,1,none⟩=some (xj a.2.1):=bc 1;clear hl hr ho hb bc;go_in;go_wp2_with fail;refine wp_region_held_drew (S:=fun w'=>w'.cell? ⟨b,0,none⟩=some (xd xh (a.1:Int))/\w'.cell? ⟨b,1,none⟩=some (xj a.2.1)) zk ?_ (fun I=> ?_)
  ·trivial
  apply zt1 0 (xk (some ⟨b,0,none⟩)) I;apply zt1 1 (xk (some ⟨b,0,none⟩)) I;apply zt1 2 (xk (some ⟨b,0,none⟩)) I;apply zt1 3 (xd xh (a.1:Int)) I;apply zt1 4 (xk (some ⟨b,0,none⟩)) I;apply zt1 5 (xk (some ⟨b,0,none⟩)) I;apply zt1 6 (xk (some ⟨b,1,none⟩)) I;apply zt1 7 (xj a.2.1) I;apply zt1 8 (.agg #[xd xh (a.1:Int),xj a.2.1,xd xh 0,xd xh 0]) I;apply zrH 9;intro K hK;go_simp;refine hK _ _ ⟨by show(Mt _ _).cell? _=_;rw[Mr _ _ _ (by simpa using aa)];exact I.1,by show(Mt _ _).cell? _=_;rw[Mr _ _ _ (by simpa using aa)];exact I.2⟩ (fun I=> ?_);clear hK K;apply zrH 10;intro K hK;go_simp;refine hK _ _ ⟨by show(Mt _ _).cell? _=_;rw[Mr _ _ _ (by simpa using aa)];exact c0,by show(Mt _ _).cell? _=_;rw[Mr _ _ _ (by simpa using aa)];exact c1⟩ (fun I=> ?_);clear hK K;refine wpAnyH_done zk ?_ _;clear I;have J:Below w.heap.size w ((w.alloc (xi #[xd xh (a.1:Int),xj a.2.1,xd xh 0,xd xh 0] 319)).drew):=gz.drew;have hA:ASt w ((w.alloc (xi #[xd xh (a.1:Int),xj a.2.1,xd xh 0,xd xh 0] 319)).drew) base (xa vo S.length vc) vo vc S a.1 a.2.1 0 0:=⟨ft _ _,fL HO J,⟨J.os,J.tape,J.output,J.size,fun x hx _=>J.block x hx⟩,Mw rfl,fun x hx=>(aw x hx).2⟩;generalize (w.alloc (xi #[xd xh (a.1:Int),xj a.2.1,xd xh 0,xd xh 0] 319)).drew=W1 at *;have ad:=fa hA;clear hA J aw c0 c1;have ae:Hid (∀W:World,w.grownBy W (xa vo S.length vc).ownBlock->W.heap[b]? =w.heap[b]?):=fun W hW=>hW.block b aa (fun e=>gp HO e.symm HB zp)
  have bc:=fun o=>cell_of_blk ((ae _ ad.gr).trans HB) o
  have av:=fh ad.sb;go_wp2_with fail;refine(aK _ _ _ _ (qy HO ad.gr HR) ad.own zo zo).mono ?_;intro e w4 aP;obtain⟨o4,k4,bf,aN⟩:=ad.call aP;subst bf;have ax:=fa aN;clear aP aN aK;generalize hT4:hY (.node ru rv ra rl rr) S=T4 at *;clear bc av;have sc:=cell_of_blk ax.sb;have sf:=fi ax.sb;have av:=fh ax.sb;have HAF:=fa (ax.setB (((T4.length:Nat):Int) - 1) (T4.length - 1) zo);have ba:base<=w4.heap.size:=zo
  go_wp2_with (at_builtin;go_must (refine wpList_append_lies _ rfl _ _ 145 rfl base 319 i0 (.agg #[xd xh 0,xj ⟨#[]⟩,xd xh 0,xd xh 0]) 4 40 underlying145 aC aE aF aG rfl zd _ T4.length (n5 T4) rfl ?c0 ⟨w4.heap.size,0,none⟩ 1 1 [xd xh (a.1:Int),xj a.2.1,xd xh 0,xd xh (((T4.length:Nat):Int) - 1)] rfl rfl ?c1 ?c2 zd ?c3 ?c4 ?c5 (w4.heap.size+1) ?c6 ?_))
  case c0=>exact fL HAF.own gz
  case c1=>
   intro j u R
   match j,R with
   |0,R=>simp at R;subst R;exact cell_of_blk (fk _ _ _ zp) 0
   |1,R=>simp at R;subst R;exact cell_of_blk (fk _ _ _ zp) 1
   |2,R=>simp at R;subst R;exact cell_of_blk (fk _ _ _ zp) 2
   |3,R=>simp at R;subst R;exact cell_of_blk (fk _ _ _ zp) 3
   |j+4,R=>trivial
  case c2=>intro u hu;simp at hu;rcases hu with rfl|rfl|rfl|rfl<;>rfl
  case c3=>unfold maxLen;omega
  case c4=>omega
  case c5=>simp;omega
  case c6=>simp
  intro g8 cap8 q8 hown U hat _;have HG8:=fa (jS HAF.gr (jS (Mu _ _ _) U (Mw rfl)) (by rcases HAF.at_ with e|⟨g,e,hg⟩;exact Mw e;exact Mx ⟨g,e,zo⟩));have HO8:Hid (q8.ownsRow base 319 4 (xa (some ⟨g8,0,none⟩) (T4.length+1) cap8) (T4.length+1) (n5 (T4++[⟨a.1,a.2.1,0,T4.length - 1⟩]))):=by
   exact zm127
  have HAT:Hid ((xa vo S.length vc).ownBlock=some g8\/w.heap.size<=g8):=by
   exact zm43
  clear hown U hat;go_wp2;go_ret;have au:=aq.out;rw[au];have hlen:(T4++[(⟨a.1,a.2.1,0,T4.length - 1⟩:Sp)]).length=T4.length+1:=zp;exact zm42
 | .node u v0 a (.node lu lv la ll lr) (.node ru rv ra rl rr),S,w,p,base,vo,vc,_,h,ho,hbase,hsz=>by
  obtain⟨i0,aC,aE,aF,aG⟩:=info_parts Tryz.infoSp;obtain⟨b,pl,pr,rfl,hb,hl,hr⟩:=h;have aq:Hid (hY (.node u v0 a (.node lu lv la ll lr) (.node ru rv ra rl rr)) S=hY (.node ru rv ra rl rr) (hY (.node lu lv la ll lr) S)++[⟨a.1,a.2.1,(hY (.node lu lv la ll lr) S).length - 1,(hY (.node ru rv ra rl rr) (hY (.node lu lv la ll lr) S)).length - 1⟩]):=rfl;have hs:gF (.node u v0 a (.node lu lv la ll lr) (.node ru rv ra rl rr))=1+gF ((.node lu lv la ll lr):Fm)+gF ((.node ru rv ra rl rr):Fm):=rfl;have ag:(hY (.node lu lv la ll lr) S).length=S.length+gF ((.node lu lv la ll lr):Fm):=jm _ _;have aS:=Ms ag;have aT:=Ms ag.symm;clear ag;have ai:(hY (.node ru rv ra rl rr) (hY (.node lu lv la ll lr) S)).length=(hY (.node lu lv la ll lr) S).length+gF ((.node ru rv ra rl rr):Fm):=jm _ _;have aU:=Ms ai;have aV:=Ms ai.symm;clear ai;have aJ:=fa (fun W h1 h2 h3 h4=>kV (.node lu lv la ll lr) S W pl base vo vc zp h1 h2 h3 h4);have aW:1<=gF (.node lu lv la ll lr):=by show 1<=1+_+_;omega
  have aK:=fa (fun S2 W o2 c2 h1 h2 h3 h4=>kV (.node ru rv ra rl rr) S2 W pr base o2 c2 zp h1 h2 h3 h4);have bo:1<=gF (.node ru rv ra rl rr):=by show 1<=1+_+_;omega
  generalize hsl:gF ((.node lu lv la ll lr):Fm)=zl at *;generalize hsr:gF ((.node ru rv ra rl rr):Fm)=zr at *;obtain⟨bl,bA,bB,bg,bx,_,_⟩:=id hl;subst bg;obtain⟨br,bC,bD,bh,bz,_,_⟩:=id hr;subst bh;have bc:=cell_of_blk hb;have aa:=fh hb;have aw:=gG ho;have HL:=fa hl;have HR:=fa hr;have HO:=fa ho;have HB:=fa hb;have c0:w.cell? ⟨b,0,none⟩=some (xd xh (a.1:Int)):=bc 0;have c1:w.cell? ⟨b,1,none⟩=some (xj a.2.1):=bc 1;clear hl hr ho hb bc;go_in;go_wp2_with fail;refine wp_region_held_drew (S:=fun w'=>w'.cell? ⟨b,0,none⟩=some (xd xh (a.1:Int))/\w'.cell? ⟨b,1,none⟩=some (xj a.2.1)) zk ?_ (fun I=> ?_)
  ·trivial
  apply zt1 0 (xk (some ⟨b,0,none⟩)) I;apply zt1 1 (xk (some ⟨b,0,none⟩)) I;apply zt1 2 (xk (some ⟨b,0,none⟩)) I;apply zt1 3 (xd xh (a.1:Int)) I;apply zt1 4 (xk (some ⟨b,0,none⟩)) I;apply zt1 5 (xk (some ⟨b,0,none⟩)) I;apply zt1 6 (xk (some ⟨b,1,none⟩)) I;apply zt1 7 (xj a.2.1) I;apply zt1 8 (.agg #[xd xh (a.1:Int),xj a.2.1,xd xh 0,xd xh 0]) I;apply zrH 9;intro K hK;go_simp;refine hK _ _ ⟨by show(Mt _ _).cell? _=_;rw[Mr _ _ _ (by simpa using aa)];exact I.1,by show(Mt _ _).cell? _=_;rw[Mr _ _ _ (by simpa using aa)];exact I.2⟩ (fun I=> ?_);clear hK K;apply zrH 10;intro K hK;go_simp;refine hK _ _ ⟨by show(Mt _ _).cell? _=_;rw[Mr _ _ _ (by simpa using aa)];exact c0,by show(Mt _ _).cell? _=_;rw[Mr _ _ _ (by simpa using aa)];exact c1⟩ (fun I=> ?_);clear hK K;refine wpAnyH_done zk ?_ _;clear I;have J:Below w.heap.size w ((w.alloc (xi #[xd xh (a.1:Int),xj a.2.1,xd xh 0,xd xh 0] 319)).drew):=gz.drew;have hA:ASt w ((w.alloc (xi #[xd xh (a.1:Int),xj a.2.1,xd xh 0,xd xh 0] 319)).drew) base (xa vo S.length vc) vo vc S a.1 a.2.1 0 0:=⟨ft _ _,fL HO J,⟨J.os,J.tape,J.output,J.size,fun x hx _=>J.block x hx⟩,Mw rfl,fun x hx=>(aw x hx).2⟩;generalize (w.alloc (xi #[xd xh (a.1:Int),xj a.2.1,xd xh 0,xd xh 0] 319)).drew=W1 at *;have ad:=fa hA;clear hA J aw c0 c1;have ae:Hid (∀W:World,w.grownBy W (xa vo S.length vc).ownBlock->W.heap[b]? =w.heap[b]?):=fun W hW=>hW.block b aa (fun e=>gp HO e.symm HB zp)
  have bc:=fun o=>cell_of_blk ((ae _ ad.gr).trans HB) o
  have av:=fh ad.sb;go_wp2_with fail;refine(aJ _ (qy HO ad.gr HL) ad.own zo zo).mono ?_;intro e w2 aO;obtain⟨o2,k2,bd,aM⟩:=ad.call aO;subst bd;have ao:=fa aM;clear aO aM bc av aJ;generalize hT2:hY (.node lu lv la ll lr) S=T2 at *;have bc:=fun o=>cell_of_blk ((ae _ ao.gr).trans HB) o
  have sc:=cell_of_blk ao.sb;have sf:=fi ao.sb;have av:=fh ao.sb;go_wp2_with fail;have a8:=(ao.setA (((T2.length:Nat):Int) - 1) (T2.length - 1) zo);generalize (w2.setCell ⟨w.heap.size,2,none⟩ (xd xh (((T2.length:Nat):Int) - 1)))=w3 at *;have aR:=fa a8;have hz3':=a8.gr.size;clear a8 bc sc sf av;refine(aK _ _ _ _ (qy HO aR.gr HR) aR.own zo zo).mono ?_;intro e w4 aP;obtain⟨o4,k4,bf,aN⟩:=aR.call aP;subst bf;have ax:=fa aN;clear aP aN aK;generalize hT4:hY (.node ru rv ra rl rr) T2=T4 at *;have sc:=cell_of_blk ax.sb;have sf:=fi ax.sb;have av:=fh ax.sb;have HAF:=fa (ax.setB (((T4.length:Nat):Int) - 1) (T4.length - 1) zo);have ba:base<=w4.heap.size:=zo
  go_wp2_with (at_builtin;go_must (refine wpList_append_lies _ rfl _ _ 145 rfl base 319 i0 (.agg #[xd xh 0,xj ⟨#[]⟩,xd xh 0,xd xh 0]) 4 40 underlying145 aC aE aF aG rfl zd _ T4.length (n5 T4) rfl ?c0 ⟨w4.heap.size,0,none⟩ 1 1 [xd xh (a.1:Int),xj a.2.1,xd xh ((T2.length - 1:Nat):Int),xd xh (((T4.length:Nat):Int) - 1)] rfl rfl ?c1 ?c2 zd ?c3 ?c4 ?c5 (w4.heap.size+1) ?c6 ?_))
  case c0=>exact fL HAF.own gz
  case c1=>
   intro j u R
   match j,R with
   |0,R=>simp at R;subst R;exact cell_of_blk (fk _ _ _ zp) 0
   |1,R=>simp at R;subst R;exact cell_of_blk (fk _ _ _ zp) 1
   |2,R=>simp at R;subst R;exact cell_of_blk (fk _ _ _ zp) 2
   |3,R=>simp at R;subst R;exact cell_of_blk (fk _ _ _ zp) 3
   |j+4,R=>trivial
  case c2=>intro u hu;simp at hu;rcases hu with rfl|rfl|rfl|rfl<;>rfl
  case c3=>unfold maxLen;omega
  case c4=>omega
  case c5=>simp;omega
  case c6=>simp
  intro g8 cap8 q8 hown U hat _;have HG8:=fa (jS HAF.gr (jS (Mu _ _ _) U (Mw rfl)) (by rcases HAF.at_ with e|⟨g,e,hg⟩;exact Mw e;exact Mx ⟨g,e,zo⟩));have HO8:Hid (q8.ownsRow base 319 4 (xa (some ⟨g8,0,none⟩) (T4.length+1) cap8) (T4.length+1) (n5 (T4++[⟨a.1,a.2.1,T2.length - 1,T4.length - 1⟩]))):=by
   exact zm127
  have HAT:Hid ((xa vo S.length vc).ownBlock=some g8\/w.heap.size<=g8):=by
   exact zm43
  clear hown U hat;go_wp2;go_ret;have au:=aq.out;rw[au];have hlen:(T4++[(⟨a.1,a.2.1,T2.length - 1,T4.length - 1⟩:Sp)]).length=T4.length+1:=zp;exact zm42
end Go.Proofs.YtidakhhekofkoaaGreatDoor
