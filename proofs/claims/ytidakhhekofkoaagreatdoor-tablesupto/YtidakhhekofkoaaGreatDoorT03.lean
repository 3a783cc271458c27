import Derived.Test.YtidakhhekofkoaaGreatDoorT02
set_option linter.all false
set_option maxHeartbeats 4000000
set_option maxRecDepth 100000
namespace Go.Proofs.YtidakhhekofkoaaGreatDoor
open Go.Proofs.Tryz
open Go.RowKit Go.Deep
open Value renaming slice -> xa, int -> xd, string -> xj, pointer -> xk, bool -> xn
open IntKind renaming i64 -> xh
open Obj renaming cells -> xi
open Ending renaming returned -> xm
open List renaming setIfInBounds_toArray -> Mr, getElem_cons_succ -> Ms, getElem_cons_zero -> Mt, getElem_toArray -> Mu, set_cons_zero -> Mw, set_cons_succ -> Mx, tail_drop -> MG, tail_cons -> MH, length -> MJ, length_drop -> ML
open Go.RowKit.Below renaming heap_alloc -> My, heap_setCell -> MC, refl -> MN
open Nat renaming le_refl -> Mz, zero_le -> MK
open Or renaming inl -> MD, inr -> MF
open World renaming setCell -> ME, ownsRow_nil -> MI, drew -> MM
variable {zq:Prop}
variable {w w':World} {f:Fm} {p o:Option Addr} {v:Value} {pb cap i base e n j4 j:Nat} {L r0 r1 r2 r:List Tk} {bad b4:Bool} {xs:List Value} {t u y:Tk} {a b d:Int} {c:Array Value} {m:Nat × Nat}
theorem zm19(h:zq:=by
 obtain⟨x,r2,hx2⟩:=jn HP2.out.lt;have HX2:=fa hx2;have HX:=fa hx;clear hx2 hx
 go_wp2_with (refine(mB 21 HP2.out HX2.out rfl zp zp j true zp zp).mono ?_)
 rintro e w6 ⟨rfl,hp6,hg6⟩;have HPQ:=fa hp6;have HGQ:=fa (HG.out.trans hg6);have HRQ:=fa ((hg6.block w.heap.size zo zs).trans HR.out);have HVQ:=fa ((hg6.block (w.heap.size+1) hz zs).trans HV.out);clear hp6 hg6 c0 c1 c2;go_wp2
 go_loopg [] 0 (fun _ wr=>wr=w6)
 ·rfl
 subst hrel;obtain⟨c0,c1,c2⟩:=HPQ.out.cells;have vc:=cell_of_blk HVQ.out;have rc:=cell_of_blk HRQ.out;have rf:=fi HRQ.out;go_wp2_with fail;refine bodyPost_ret (v:= .agg #[xa o1 n1 k1,xa none 0 0]) ?_ rfl ?_
 ·simp[results,results200,go_sem,rc]
 have hps2:=(HPQ.out.setOther w.heap.size 0 (xa o1 n1 k1) zo zo).setOther w.heap.size 1 (xa none 0 0) zo zo;have hgr2:=gy (gy HGQ.out (Nat.le_refl _) 0 (xa o1 n1 k1)) (Nat.le_refl _) 1 (xa none 0 0);have hmr:gW (L.drop 0)= .error (gQ (L.drop j)):=by rw[mA,HX.out]
 refine⟨hgr2,_,_,_,_,_,_,rfl, ?_⟩;rw[hmr];exact⟨j,rfl,hps2⟩
 ):zq:=h
theorem zm38(h:zq:=by
 obtain⟨f,l1⟩:=x;rw[hpf] at hx;obtain⟨hf,j,hl,hp⟩:=hx;refine⟨⟨rfl, ?_⟩,j,hl,hkeep j _ hp⟩;rw[if_neg zp];exact⟨(((((((hf.set t1 zp).set (t0.set _ _) zp).set ((t0.set _ _).set _ _) zp).set (((t0.set _ _).set _ _).set _ _) zp).set ((((t0.set _ _).set _ _).set _ _).set _ _) zp).set (((((t0.set _ _).set _ _).set _ _).set _ _).set _ _) zp).set ((((((t0.set _ _).set _ _).set _ _).set _ _).set _ _).set _ _) zp).set (((((((t0.set _ _).set _ _).set _ _).set _ _).set _ _).set _ _).set _ _) zp,hf.some (lZ _ 0 _ _ _ _ zo hpf)⟩
 ):zq:=h
theorem zm61(h:zq:=by
 have hj':jy=j4+1+1+1:=by rw[HJY.out,h19];rfl
 have hb':by'=false:=by rw[HBY.out,h19];rfl
 subst hj' hb';rw[HRR.out.2.1 HZK.out (by rw[hz2k];simpa using h19),hz2p];refine⟨⟨rfl, ?_⟩,j4+1+1+1,rfl,hps⟩;rw[if_pos rfl];exact⟨rfl,rfl,rfl,ig how (Nat.zero_le _),rfl,rfl⟩
 ):zq:=h
theorem zm74(h:zq:=by
 simp[results,results248,go_sem,jR,rc]
 ):zq:=h
theorem zm99(h:zq:=by
 have hj':jy=j4+1+1:=by rw[HJY.out,h19];rfl
 have hb':by'=true:=by rw[HBY.out,h19];rfl
 subst hj' hb';rw[HRR.out.2.2 HZK.out (by rw[hz2k];simpa using h19)];exact⟨_,rfl,hps⟩
 ):zq:=h
def jR(a b:Int)(s:ByteArray)(c:Int)(o:Option Addr)(n k:Nat)(d:Int)(p:Option Addr):Value:=
 .agg #[xd xh a,xd .u8 b,xj s,xd xh c,xa o n k,xd xh d,xk p]
def RlIs(w:World)(r:Rl)(a b:Int)(s:ByteArray)(c:Int)(o:Option Addr)(n k:Nat)(d:Int)(p:Option Addr):Prop:=
 a=r.pl/\(if r.call=true then b=gM r.word.k/\s=r.word.s/\c=r.word.p/\w.ownsRow 0 232 3 (xa o n k) r.args.length (iK r.args)/\d=r.fin/\p=none
  else IsF w r.f p/\p.isSome=true)
def zY(L:List Tk)(pb g cap:Nat)(w w':World)(e:Ending)(x:Except Nat (Rl × List Tk)):Prop:=
 w.grownBy w' (some pb)/\ ∃a b s c o n k d p,e=xm (jR a b s c o n k d p)/\(match x with
  | .ok (r,l)=>RlIs w' r a b s c o n k d p/\ ∃j,L.drop j=l/\PS w' pb g cap L j false
  | .error q=> ∃j,gQ (L.drop j)=q/\PS w' pb g cap L j true)
theorem lZ: ∀n U f l I R,(5<=U->f≠ .nil)->pf n U f l= .ok (I,R)->I≠ .nil
 |0,_,_,_,_,_,_,h=>zv
 |n+1,0,f,l,I,R,_,h=>by
  rw[pf] at h
  split at h
  ·cases h
  rename_i a l1 e
  have h1:=lZ n 1 .nil l a l1 zo e
  split at h
  ·split at h
   ·cases h
   cases h;intro J;cases J
  simp_all
 |n+1,1,f,l,I,R,_,h=>by
  rw[pf] at h
  split at h
  ·cases h
  rename_i a l1 e
  exact lZ n 5 a l1 I R (fun _=>lZ n 2 .nil l a l1 zo e) h
 |n+1,2,f,l,I,R,_,h=>by
  rw[pf] at h
  split at h
  ·cases h
  rename_i a l1 e
  exact lZ n 6 a l1 I R (fun _=>lZ n 3 .nil l a l1 zo e) h
 |n+1,3,f,l,I,R,_,h=>by
  rw[pf] at h
  split at h
  ·cases h
  rename_i a l1 e
  have h1:=lZ n 4 .nil l a l1 zo e
  split at h
  ·split at h
   ·cases h
   cases h;intro J;cases J
  simp_all
 |n+1,4,f,l,I,R,_,h=>by
  rw[pf] at h
  split at h
  ·split at h
   ·cases h
   cases h;intro J;cases J
  split at h
  ·split at h
   ·cases h
   rename_i a l1 e
   have h1:=lZ n 0 .nil l.tail a l1 zo e
   split at h
   ·simp_all
   cases h
  split at h
  ·cases h;intro J;cases J
  split at h
  ·cases h;intro J;cases J
  cases h
 |n+1,5,f,l,I,R,hf,h=>by
  rw[pf] at h
  split at h
  ·split at h
   ·cases h
   exact lZ n 5 _ _ I R (fun _=>by intro J;cases J) h
  simp_all
 |n+1,6,f,l,I,R,hf,h=>by
  rw[pf] at h
  split at h
  ·split at h
   ·cases h
   exact lZ n 6 _ _ I R (fun _=>by intro J;cases J) h
  simp_all
 |n+1,k+7,f,l,I,R,hf,h=>by
  rw[pf] at h;simp_all
theorem IsF.some(h:IsF w f p)(hn:f≠ .nil):p.isSome=true:=by
 cases f with
 |nil=>trivial
 |node=>obtain⟨b,pl,pr,rfl,_⟩:=h;rfl
def TyAt(w:World)(b ty:Nat):Prop:= ∃c m,w.heap[b]? =some (xi c ty m)
theorem TyAt.set{b ty:Nat}(h:TyAt w b ty)(a:Addr)(v:Value):TyAt (w.setCell a v) b ty:=by
 obtain⟨c,m,h⟩:=h;unfold TyAt;simp only[ME,Array.getElem?_modify]
 split
 ·simp_all
 simp_all
theorem IsF.set{b ty o:Nat}(I:TyAt w b ty)(hne:ty≠292)(hf:IsF w f p):IsF (w.setCell ⟨b,o,none⟩ v) f p:=
 hf.keep (fK w b o v) (fun k c m e=>by cases e;obtain⟨c',m',h⟩:=I;simp_all)
theorem wm(x p:Int)(s:ByteArray)(w:World):(Instr.field 232 (.agg #[xd .u8 x,xj s,xd xh p]) 0).run prog w= .ok (xd .u8 x) w:=zk
theorem AB(x p:Int)(s:ByteArray)(w:World):(Instr.field 232 (.agg #[xd .u8 x,xj s,xd xh p]) 2).run prog w= .ok (xd xh p) w:=zk
theorem Bp(w:World)(pb g cap:Nat)(L:List Tk)(i:Nat)(h:PS w pb g cap L i false)(aj:gu (L.drop i)≠2):
  Calls prog 248 #[xk (some ⟨pb,0,none⟩)] w fun e w'=>zY L pb g cap w w' e (gS (L.drop i)):=by
 obtain⟨t,r,ht,hk⟩:=lD h.ends aj;have hr:(gM t.k !=110)=true:=by rw[oN];simp[hk]
 have HT:=fa ht;have HP:=fa h;obtain⟨c0,c1,c2⟩:=h.cells;have hp0:=fh h.blk;have aq:Hid (gu (L.drop i)=t.k):=by show _=_;rw[ht];rfl
 have HK:=fa hk;have fl0:=wm;go_in;go_wp2;refine wp_region_any zk ?_;change wpAny _ _ _ _ _ _ _ (MM _);apply zt0 0 (xk (some ⟨pb,0,none⟩));apply zr 1;intro K hK;go_simp
 go_wp2_with (refine(jD (HP.later (by exact(gz.alloc zp _).drew)) HT).mono ?_;rintro e w1 ⟨rfl,hb⟩;simp only[jY])
 apply zt0 2 (xd .u8 (gM t.k));apply zt0 3 (xn true);apply zt0 4 (xn true);apply zu 5;apply zu 6;apply zu 7;apply zu 8;apply zu 9;apply zu 10;apply zu 11;apply zu 12;apply zu 13;apply zu 14;apply zu 15;apply zu 16;apply zu 17;apply zt0 18 (xn true);refine wpAny_done zk ?_ _;have HB:=fa (show Below w.heap.size w w1 from((((MN w.heap.size w).alloc (Mz _) _).alloc zp _).drew).trans (hb.mono zs));have aC:w.heap.size+1<w1.heap.size:=by have:=hb.size;simp at this;omega
 have U:=
  (hb.block _ zs).trans ((My _ _ _ zp).trans (ft _ _))
 have aa:w1.heap[w.heap.size+1]? =some (xi #[xd xh 0,xd .u8 0,xj ⟨#[]⟩,xd xh 0,xa none 0 0,xd xh 0,xk none] 235 (0,0)):=
  (hb.block _ zp).trans (fk _ _ _ zp)
 have av:=fa U;have aw:=fa aa;have au:=fa (HP.later HB)
 go_wp2_with (refine(uE (6 * (L.drop i).length+5) _ _ _ _ _ _ au (Mz _)).mono ?_)
 rintro e w2 ⟨R,p2,rfl,ak⟩;have ao:=fa R;have I:=(R.block w.heap.size zo zs).trans av;have J:=(R.block (w.heap.size+1) aC zs).trans aw;have rc:=cell_of_blk I;have rf:=fi I;have vc:=cell_of_blk J;have vf:=fi J;have ax:=fa ak;have ae:=fa I;have ag:=fa J;go_wp2;refine bodyPost_ret (v:=jR 0 0 ⟨#[]⟩ 0 none 0 0 0 p2) ?_ rfl ?_
 ·exact zm74
 have hgl:=HP.gLt;have ay:=gy (gy (gy (gy (gy (gy (gy (gy ((gC HB (some pb)).trans ao) (b:=w.heap.size+1) zo 6 (xk p2)) (Mz _) 0 (xd xh 0)) (Mz _) 1 (xd .u8 0)) (Mz _) 2 (xj ⟨#[]⟩)) (Mz _) 3 (xd xh 0)) (Mz _) 4 (xa none 0 0)) (Mz _) 5 (xd xh 0)) (Mz _) 6 (xk p2);have hkeep: ∀j bad,PS w2 pb g cap L j bad->PS ((((((((w2.setCell ⟨w.heap.size+1,6,none⟩ (xk p2)).setCell ⟨w.heap.size,0,none⟩ (xd xh 0)).setCell ⟨w.heap.size,1,none⟩ (xd .u8 0)).setCell ⟨w.heap.size,2,none⟩ (xj ⟨#[]⟩)).setCell ⟨w.heap.size,3,none⟩ (xd xh 0)).setCell ⟨w.heap.size,4,none⟩ (xa none 0 0)).setCell ⟨w.heap.size,5,none⟩ (xd xh 0)).setCell ⟨w.heap.size,6,none⟩ (xk p2)) pb g cap L j bad:=fun j bad hp=>
  (((((((hp.setOther _ _ _ zo zo).setOther _ _ _ zo zo).setOther _ _ _ zo zo).setOther _ _ _ zo zo).setOther _ _ _ zo zo).setOther _ _ _ zo zo).setOther _ _ _ zo zo).setOther _ _ _ zo zo
 have t0:TyAt w2 w.heap.size 235:=⟨_,_,ae⟩;have t1:TyAt w2 (w.heap.size+1) 235:=⟨_,_,ag⟩;have aA:gS (L.drop i)=(match pf (6 * (L.drop i).length+5) 0 .nil (L.drop i) with| .error q=> .error q| .ok (f,l1)=> .ok (⟨0,false,tU,[],0,f⟩,l1)):=by
  rw[gS,if_neg (by rw[aq.out];exact fun h=>HK h.1)];rfl
 rw[aA];refine⟨ay,0,0,⟨#[]⟩,0,none,0,0,0,p2,rfl, ?_⟩;have hx:=ax.out;cases hpf:pf (6 * (L.drop i).length+5) 0 .nil (L.drop i) with
 |error q=>
  rw[hpf] at hx;obtain⟨j,hq,hp⟩:=hx;exact⟨j,hq,hkeep j _ hp⟩
 |ok x=>
  exact zm38
theorem zO(w:World)(pb g cap:Nat)(L:List Tk)(i:Nat)(h:PS w pb g cap L i false)(h2:gu (L.drop i)=2)(ag:gu (L.drop i).tail≠18):
  Calls prog 248 #[xk (some ⟨pb,0,none⟩)] w fun e w'=>zY L pb g cap w w' e (gS (L.drop i)):=by
 obtain⟨t,u,r,ht,hk⟩:=km h.ends zp h2;have hr:(gM t.k !=110)=false:=by rw[oN];simp[hk]
 have hu:u.k≠18:=by intro e;rw[ht] at ag;trivial
 have U:=h.ok u (pS (drop_tail ht));have h40:(u.s.toList !=[40])=true:=by
  rw[ByteArray.toList_eq,bne_iff_ne];by_cases h4:4<=u.k
  ·intro e;rw[U.2.1 h4] at e;exact hu (AO U.1 zp h4 zp e)
  exact U.2.2.2 zo
 have HT:=fa ht;have HP:=fa h;have HK:=fa (show ¬ (gu (L.drop i)=2/\gu (L.drop i).tail=18) from fun e=>ag e.2);have hlen:=h.len;have hlt:=h.lt;have hlt1:i+1<L.length:=by have:=congrArg MJ ht;simp at this;omega
 have hp0:=fh h.blk;have hgl0:=h.gLt;have hI:(i:Int)+1<(L.length:Int):=zo;have hI0:(0:Int)<=(i:Int)+1:=zo;have hwr:IntKind.i64.wrap ((i:Int)+1)=(i:Int)+1:=by rw[IntKind.wrap_i64];omega
 have h40':¬ u.s.toList=[40]:=za;clear h ht h2 ag hk hu U;have fl0:=wm;go_in;obtain⟨c0,c1,c2⟩:=HP.cells;go_wp2;clear c0 c1 c2;refine wp_region_any zk ?_;change wpAny _ _ _ _ _ _ _ (MM _);apply zt0 0 (xk (some ⟨pb,0,none⟩));apply zr 1;intro K hK;go_simp
 go_wp2_with (refine(jD (HP.later (by exact(gz.alloc zp _).drew)) HT).mono ?_;rintro e w1 ⟨rfl,hb⟩;simp only[jY])
 have HB:=fa (show Below w.heap.size w w1 from((((MN w.heap.size w).alloc (Mz _) _).alloc zp _).drew).trans (hb.mono zs));have ae:=fa (HP.later HB);obtain⟨c0,c1,c2⟩:=ae.cells;obtain⟨k0,k1,k2⟩:=ae.tok (i+1) _ _ (drop_tail HT);refine wpAny_of_held (S:=fun w'=>w'=w1) _ _ _ _ ?_;refine wpAnyH_take (i:=2) (v:= xd .u8 (gM t.k)) rfl zk zk zk (fun _ _ _ h=>h) (MD ⟨zk,fun w hw=>by subst hw;go_simp⟩) rfl ?_
 try simp only[Act.put,Mr,Mw,Mx,Mu,Ms,Mt]
 refine wpAnyH_take (i:=3) (v:= xn false) rfl zk zk zk (fun _ _ _ h=>h) (MD ⟨zk,fun w hw=>by subst hw;go_simp⟩) rfl ?_
 try simp only[Act.put,Mr,Mw,Mx,Mu,Ms,Mt]
 refine wpAnyH_take (i:=4) (v:= xn false) rfl zk zk zk (fun _ _ _ h=>h) (MD ⟨zk,fun w hw=>by subst hw;go_simp⟩) rfl ?_
 try simp only[Act.put,Mr,Mw,Mx,Mu,Ms,Mt]
 refine wpAnyH_take (i:=5) (v:= xk (some ⟨pb,0,none⟩)) rfl zk zk zk (fun _ _ _ h=>h) (MD ⟨zk,fun w hw=>by subst hw;go_simp⟩) rfl ?_
 try simp only[Act.put,Mr,Mw,Mx,Mu,Ms,Mt]
 refine wpAnyH_take (i:=6) (v:= xk (some ⟨pb,0,none⟩)) rfl zk zk zk (fun _ _ _ h=>h) (MD ⟨zk,fun w hw=>by subst hw;go_simp⟩) rfl ?_
 try simp only[Act.put,Mr,Mw,Mx,Mu,Ms,Mt]
 refine wpAnyH_take (i:=7) (v:= xk (some ⟨pb,0,none⟩)) rfl zk zk zk (fun _ _ _ h=>h) (MD ⟨zk,fun w hw=>by subst hw;go_simp⟩) rfl ?_
 try simp only[Act.put,Mr,Mw,Mx,Mu,Ms,Mt]
 refine wpAnyH_take (i:=8) (v:= xa (some ⟨g,0,none⟩) L.length cap) rfl zk zk zk (fun _ _ _ h=>h) (MD ⟨zk,fun w hw=>by subst hw;go_simp⟩) rfl ?_
 try simp only[Act.put,Mr,Mw,Mx,Mu,Ms,Mt]
 refine wpAnyH_take (i:=9) (v:= xk (some ⟨pb,0,none⟩)) rfl zk zk zk (fun _ _ _ h=>h) (MD ⟨zk,fun w hw=>by subst hw;go_simp⟩) rfl ?_
 try simp only[Act.put,Mr,Mw,Mx,Mu,Ms,Mt]
 refine wpAnyH_take (i:=10) (v:= xk (some ⟨pb,0,none⟩)) rfl zk zk zk (fun _ _ _ h=>h) (MD ⟨zk,fun w hw=>by subst hw;go_simp⟩) rfl ?_
 try simp only[Act.put,Mr,Mw,Mx,Mu,Ms,Mt]
 refine wpAnyH_take (i:=11) (v:= xk (some ⟨pb,1,none⟩)) rfl zk zk zk (fun _ _ _ h=>h) (MD ⟨zk,fun w hw=>by subst hw;go_simp⟩) rfl ?_
 try simp only[Act.put,Mr,Mw,Mx,Mu,Ms,Mt]
 refine wpAnyH_take (i:=12) (v:= xd xh (i:Int)) rfl zk zk zk (fun _ _ _ h=>h) (MD ⟨zk,fun w hw=>by subst hw;go_simp⟩) rfl ?_
 try simp only[Act.put,Mr,Mw,Mx,Mu,Ms,Mt]
 refine wpAnyH_take (i:=13) (v:= xd xh ((i:Int)+1)) rfl zk zk zk (fun _ _ _ h=>h) (MD ⟨zk,fun w hw=>by subst hw;go_simp⟩) rfl ?_
 try simp only[Act.put,Mr,Mw,Mx,Mu,Ms,Mt]
 refine wpAnyH_take (i:=14) (v:= xk (some ⟨g,(i+1) * 3,none⟩)) rfl zk zk zk (fun _ _ _ h=>h) (MD ⟨zk,fun w hw=>by subst hw;go_simp⟩) rfl ?_
 try simp only[Act.put,Mr,Mw,Mx,Mu,Ms,Mt]
 refine wpAnyH_take (i:=15) (v:= xk (some ⟨g,(i+1) * 3+1,none⟩)) rfl zk zk zk (fun _ _ _ h=>h) (MD ⟨zk,fun w hw=>by subst hw;go_simp⟩) rfl ?_
 try simp only[Act.put,Mr,Mw,Mx,Mu,Ms,Mt]
 refine wpAnyH_take (i:=16) (v:= xj u.s) rfl zk zk zk (fun _ _ _ h=>h) (MD ⟨zk,fun w hw=>by subst hw;go_simp⟩) rfl ?_
 try simp only[Act.put,Mr,Mw,Mx,Mu,Ms,Mt]
 refine wpAnyH_take (i:=17) (v:= xn true) rfl zk zk zk (fun _ _ _ h=>h) (MD ⟨zk,fun w hw=>by subst hw;go_simp⟩) rfl ?_
 try simp only[Act.put,Mr,Mw,Mx,Mu,Ms,Mt]
 refine wpAnyH_take (i:=18) (v:= xn true) rfl zk zk zk (fun _ _ _ h=>h) (MD ⟨zk,fun w hw=>by subst hw;go_simp⟩) rfl ?_
 try simp only[Act.put,Mr,Mw,Mx,Mu,Ms,Mt]
 refine wpAnyH_done zk ?_ _;clear c0 c1 c2 k0 k1 k2;have aF:w.heap.size+1<w1.heap.size:=by have:=hb.size;simp at this;omega
 have aa:=
  (hb.block _ zs).trans ((My _ _ _ zp).trans (ft _ _))
 have ad:w1.heap[w.heap.size+1]? =some (xi #[xd xh 0,xd .u8 0,xj ⟨#[]⟩,xd xh 0,xa none 0 0,xd xh 0,xk none] 235 (0,0)):=
  (hb.block _ zp).trans (fk _ _ _ zp)
 have ax:=fa aa;have ay:=fa ad;clear hb aa ad
 go_wp2_with (refine(uE (6 * (L.drop i).length+5) _ _ _ _ _ _ ae (Mz _)).mono ?_)
 rintro e w2 ⟨R,p2,rfl,aq⟩;have av:=fa R;have I:=(R.block w.heap.size zo zs).trans ax;have J:=(R.block (w.heap.size+1) aF zs).trans ay;have rc:=cell_of_blk I;have rf:=fi I;have vc:=cell_of_blk J;have vf:=fi J;have az:=fa aq;have aj:=fa I;have ak:=fa J;clear R aq I J;go_wp2;refine bodyPost_ret (v:=jR 0 0 ⟨#[]⟩ 0 none 0 0 0 p2) ?_ rfl ?_
 ·exact zm74
 have aD:=gy (gy (gy (gy (gy (gy (gy (gy ((gC HB (some pb)).trans av) (b:=w.heap.size+1) zo 6 (xk p2)) (Mz _) 0 (xd xh 0)) (Mz _) 1 (xd .u8 0)) (Mz _) 2 (xj ⟨#[]⟩)) (Mz _) 3 (xd xh 0)) (Mz _) 4 (xa none 0 0)) (Mz _) 5 (xd xh 0)) (Mz _) 6 (xk p2);have hkeep: ∀j bad,PS w2 pb g cap L j bad->PS ((((((((w2.setCell ⟨w.heap.size+1,6,none⟩ (xk p2)).setCell ⟨w.heap.size,0,none⟩ (xd xh 0)).setCell ⟨w.heap.size,1,none⟩ (xd .u8 0)).setCell ⟨w.heap.size,2,none⟩ (xj ⟨#[]⟩)).setCell ⟨w.heap.size,3,none⟩ (xd xh 0)).setCell ⟨w.heap.size,4,none⟩ (xa none 0 0)).setCell ⟨w.heap.size,5,none⟩ (xd xh 0)).setCell ⟨w.heap.size,6,none⟩ (xk p2)) pb g cap L j bad:=fun j bad hp=>
  (((((((hp.setOther _ _ _ zo zo).setOther _ _ _ zo zo).setOther _ _ _ zo zo).setOther _ _ _ zo zo).setOther _ _ _ zo zo).setOther _ _ _ zo zo).setOther _ _ _ zo zo).setOther _ _ _ zo zo
 have t0:TyAt w2 w.heap.size 235:=⟨_,_,aj⟩;have t1:TyAt w2 (w.heap.size+1) 235:=⟨_,_,ak⟩;have aE:gS (L.drop i)=(match pf (6 * (L.drop i).length+5) 0 .nil (L.drop i) with| .error q=> .error q| .ok (f,l1)=> .ok (⟨0,false,tU,[],0,f⟩,l1)):=by
  rw[gS,if_neg HK.out];rfl
 rw[aE];refine⟨aD,0,0,⟨#[]⟩,0,none,0,0,0,p2,rfl, ?_⟩;have hx:=az.out;cases hpf:pf (6 * (L.drop i).length+5) 0 .nil (L.drop i) with
 |error q=>
  rw[hpf] at hx;obtain⟨j,hq,hp⟩:=hx;exact⟨j,hq,hkeep j _ hp⟩
 |ok x=>
  exact zm38
def Lh(L:List Tk)(pb g cap i:Nat)(w w':World)(e:Ending):Prop:=
 w.grownBy w' (some pb)/\ ∃a b s c o n k d p,e=xm (jR a b s c o n k d p)/\PS w' pb g cap L i true
theorem mZ{row:Option Nat}(h:w.grownBy w' row)(b:Nat)(I:w.heap.size<=b)(v0 v1 J R v4 U v6:Value):
  w.grownBy (((((((w'.setCell ⟨b,0,none⟩ v0).setCell ⟨b,1,none⟩ v1).setCell ⟨b,2,none⟩ J).setCell ⟨b,3,none⟩ R).setCell ⟨b,4,none⟩ v4).setCell ⟨b,5,none⟩ U).setCell ⟨b,6,none⟩ v6) row:=
 gy (gy (gy (gy (gy (gy (gy h I 0 v0) I 1 v1) I 2 J) I 3 R) I 4 v4) I 5 U) I 6 v6
theorem PS.set7{g:Nat}(h:PS w pb g cap L i bad)(b:Nat)(I:b≠pb)(J:b≠g)(v0 v1 R U v4 v5 v6:Value):
  PS (((((((w.setCell ⟨b,0,none⟩ v0).setCell ⟨b,1,none⟩ v1).setCell ⟨b,2,none⟩ R).setCell ⟨b,3,none⟩ U).setCell ⟨b,4,none⟩ v4).setCell ⟨b,5,none⟩ v5).setCell ⟨b,6,none⟩ v6) pb g cap L i bad:=
 ((((((h.setOther b 0 v0 I J).setOther b 1 v1 I J).setOther b 2 R I J).setOther b 3 U I J).setOther b 4 v4 I J).setOther b 5 v5 I J).setOther b 6 v6 I J
theorem FI(w:World)(pb g cap:Nat)(L:List Tk)(i:Nat)(h:PS w pb g cap L i true):
  Calls prog 248 #[xk (some ⟨pb,0,none⟩)] w fun e w'=>Lh L pb g cap i w w' e:=by
 have I:=fa h;obtain⟨c0,c1,c2⟩:=h.cells;have hp0:=fh h.blk;go_in;go_wp2;refine bodyPost_ret (v:=jR 0 0 ⟨#[]⟩ 0 none 0 0 0 none) ?_ rfl ⟨?_,0,0,⟨#[]⟩,0,none,0,0,0,none,rfl, ?_⟩
 ·simp[results,results248,go_sem,jR]
 ·exact gI (gI (World.grownBy.refl _ _) _) _
 exact(I.alloc _).alloc _
theorem gq{size:Nat}{row:Option Nat}(h:w.ownsRow base e size v n xs)(hg:w.grownBy w' row)(I:v.ownBlock=none\/v.ownBlock≠row):w'.ownsRow base e size v n xs:=by
 obtain⟨R,J⟩:=h;refine⟨R, ?_⟩;rcases J with J|⟨g,cap,cur,hv,hgb,hh,r⟩
 ·simp_all
 refine MF ⟨g,cap,cur,hv,hgb, ?_,r⟩;rw[hg.block g (fh hh) ?_];exact hh;subst hv;rcases I with I|I
 ·trivial
 trivial
theorem ig{base' size:Nat}(h:w.ownsRow base e size v n xs)(R:base'<=base):w.ownsRow base' e size v n xs:=by
 obtain⟨J,I⟩:=h;refine⟨J, ?_⟩;rcases I with I|⟨g,cap,cur,hv,hgb,hh,r⟩
 ·simp_all
 exact MF ⟨g,cap,cur,hv,Nat.le_trans R hgb,hh,r⟩
theorem FA(k:Nat):(gM k !=100)= !(k==3):=by
 exact zm139
theorem Bm{v:Tk}(ht:L.drop i=t::u::v::r0)(hk:t.k=2)(hu:u.k=18)(hj:j4=if (!false&&v.k==2)=true then i+1+1+1 else i+1+1)
  (hb:b4= !(!false&&v.k==2))(hy:L.drop j4=y::r1)(h6:false=(!b4&&y.k==20)):
  ((!b4&&y.k==19)=true->gS (L.drop i)= .ok (⟨0,true,t,[v],y.p,.nil⟩,L.drop (j4+1)))/\((!b4&&y.k==19)=false->gS (L.drop i)= .error (gQ (L.drop j4))):=by
 have h2:=drop_tail (drop_tail ht);have h3:=drop_tail h2;have e1:gu (t::u::v::r0)=2/\gu (t::u::v::r0).tail=18:=⟨hk,hu⟩;by_cases hv:v.k=2
 ·have U:j4=i+1+1+1:=by rw[hj];simp[hv]
  have R:b4=false:=by rw[hb];simp[hv]
  subst U R;rw[h3] at hy;have ad:¬ y.k=20:=by intro e;rw[e] at h6;trivial
  constructor
  ·intro J;have I:y.k=19:=by simpa using J
   rw[drop_tail (h3.trans hy),ht,gS,if_pos e1,hy];simp[gu,kX,gQ,hv,I]
  intro J;have I:¬ y.k=19:=by simpa using J
  rw[h3,ht,gS,if_pos e1,hy];simp[gu,gQ,hv,ad,I]
 have U:j4=i+1+1:=by rw[hj];simp[hv]
 have R:b4=true:=by rw[hb];simp[hv]
 subst U R;rw[h2] at hy;obtain⟨rfl,rfl⟩:=List.cons.inj hy;refine⟨fun h=>zv,fun _=> ?_⟩;rw[h2,ht,gS,if_pos e1];simp[gu,gQ,hv]
theorem Bo{v z:Tk}(ht:L.drop i=t::u::v::r0)(hk:t.k=2)(hu:u.k=18)(hj:j4=if (!false&&v.k==2)=true then i+1+1+1 else i+1+1)
  (hb:b4= !(!false&&v.k==2))(hy:L.drop j4=y::r1)(h6:true=(!b4&&y.k==20))(hz:L.drop (j4+1)=z::r2):
  (¬ (z.k=2\/z.k=3)->gS (L.drop i)= .error (gQ (L.drop (j4+1))))/\
  ((z.k=2\/z.k=3)->gu (L.drop (j4+1+1))=19->gS (L.drop i)= .ok (⟨0,true,t,[v,z],gQ (L.drop (j4+1+1)),.nil⟩,L.drop (j4+1+1+1)))/\
  ((z.k=2\/z.k=3)->gu (L.drop (j4+1+1))≠19->gS (L.drop i)= .error (gQ (L.drop (j4+1+1)))):=by
 have h2:=drop_tail (drop_tail ht);have h3:=drop_tail h2;have e1:gu (t::u::v::r0)=2/\gu (t::u::v::r0).tail=18:=⟨hk,hu⟩;have R:b4=false:=by cases b4 with|false=>rfl|true=>trivial
 have hv:v.k=2:=by rw[R] at hb;simpa using hb
 have ad:j4=i+1+1+1:=by rw[hj];simp[hv]
 subst ad;have I:y.k=20:=by rw[R] at h6;simpa using h6
 have ag:r1=z::r2:=by rw[<-drop_tail hy];omega
 have U:=drop_tail hz;have ae:r0=y::z::r2:=by rw[<-h3,hy,ag]
 rw[hz,U,ht,gS,if_pos e1,ae];refine⟨fun h=> ?_,fun h J=> ?_,fun h J=> ?_⟩
 ·simp only[not_or] at h;simp[gu,gQ,hv,I,h.1,h.2]
 ·have hd:L.drop (i+1+1+1+1+1+1)=r2.tail:=by rw[<-U,MG]
  rw[if_pos (show gu (t::u::v::y::z::r2).tail.tail=2 from hv),if_pos (show gu (t::u::v::y::z::r2).tail.tail.tail=20 from I),if_pos (show gu (t::u::v::y::z::r2).tail.tail.tail.tail=2\/gu (t::u::v::y::z::r2).tail.tail.tail.tail=3 from h),if_pos (show gu (t::u::v::y::z::r2).tail.tail.tail.tail.tail=19 from J),hd];rfl
 rw[if_pos (show gu (t::u::v::y::z::r2).tail.tail=2 from hv),if_pos (show gu (t::u::v::y::z::r2).tail.tail.tail=20 from I),if_pos (show gu (t::u::v::y::z::r2).tail.tail.tail.tail=2\/gu (t::u::v::y::z::r2).tail.tail.tail.tail=3 from h),if_neg (show ¬ gu (t::u::v::y::z::r2).tail.tail.tail.tail.tail=19 from J)];rfl
theorem PS.grown{g:Nat}(h:PS w pb g cap L i bad){row:Option Nat}(hg:w.grownBy w' row)(I:some pb≠row)(J:some g≠row):PS w' pb g cap L i bad:=by
 obtain⟨cur,r1,r2⟩:=h.row;exact⟨by rw[hg.block pb (fh h.blk) I];exact h.blk,⟨cur,by rw[hg.block g (fh r1) J];omega,r2⟩,h.le,h.capLe,h.len,h.lt,h.ends,h.ok⟩
theorem AI(w':World)(b:Nat)(v0 v1 I J v4 R v6:Value):
  w'.grownBy (((((((w'.setCell ⟨b,0,none⟩ v0).setCell ⟨b,1,none⟩ v1).setCell ⟨b,2,none⟩ I).setCell ⟨b,3,none⟩ J).setCell ⟨b,4,none⟩ v4).setCell ⟨b,5,none⟩ R).setCell ⟨b,6,none⟩ v6) (some b):=
 ((((((fK _ b 0 v0).trans (fK _ b 1 v1)).trans (fK _ b 2 I)).trans (fK _ b 3 J)).trans (fK _ b 4 v4)).trans (fK _ b 5 R)).trans (fK _ b 6 v6)
theorem A5{g:Nat}(h:PS w pb g cap L i bad)(J:L.drop i=t::r)(j:Nat)(bad':Bool)(U:j=if (!bad&&t.k==2)=true then i+1 else i)(I:bad'= !(!bad&&t.k==2)):
  Calls prog 246 #[xk (some ⟨pb,0,none⟩)] w fun e w'=>e=xm (jY t)/\PS w' pb g cap L j bad'/\w.grownBy w' (some pb):=by
 subst U I;cases hb:(!bad&&t.k==2) with
 |true=>
  simp only[Bool.and_eq_true,Bool.not_eq_true',beq_iff_eq] at hb;obtain⟨rfl,hk⟩:=hb;obtain⟨u,R,rfl⟩:=(by have:=h.ends;rw[J] at this;exact this.more zo: ∃u R,r=u::R);exact A7 w pb g cap L i t u R h J hk
 |false=>
  refine JF w pb g cap L i bad t r h J ?_;cases bad with
  |true=>simp
  |false=>simp_all
theorem BH{s:ByteArray}(k:Nat){g:Nat}(h:PS w pb g cap L i bad)(J:L.drop i=t::r)
  (hs:s.data.toList=lB k)(U:4<=k)(I:k<=21)(b:Bool)(hbb:b=(!bad&&t.k==k))(j:Nat)(hj:j=if (!bad&&t.k==k)=true then i+1 else i):
  Calls prog 247 #[xk (some ⟨pb,0,none⟩),xj s] w fun e w'=>e=xm (xn b)/\PS w' pb g cap L j bad/\w.grownBy w' (some pb):=by
 subst hj hbb;cases hb:(!bad&&t.k==k) with
 |true=>
  simp only[Bool.and_eq_true,Bool.not_eq_true',beq_iff_eq] at hb;obtain⟨rfl,he⟩:=hb;obtain⟨u,R,rfl⟩:=(by have:=h.ends;rw[J] at this;exact this.more zo: ∃u R,r=u::R);exact ov s k w pb g cap L i t u R h J hs U I he
 |false=>
  refine l6 s k w pb g cap L i bad t r h J hs U I ?_;cases bad with
  |true=>simp
  |false=>simp_all
theorem mB{s:ByteArray}(k:Nat){g:Nat}(h:PS w pb g cap L i bad)(R:L.drop i=t::r)
  (hs:s.data.toList=lB k)(hk:4<=k)(I:k<=21)(j:Nat)(bad':Bool)(hj:j=if (!bad&&t.k==k)=true then i+1 else i)(J:bad'= !(!bad&&t.k==k)):
  Calls prog 245 #[xk (some ⟨pb,0,none⟩),xj s] w fun e w'=>e=xm (.tuple #[])/\PS w' pb g cap L j bad'/\w.grownBy w' (some pb):=by
 subst hj J;cases hb:(!bad&&t.k==k) with
 |true=>
  simp only[Bool.and_eq_true,Bool.not_eq_true',beq_iff_eq] at hb;obtain⟨rfl,he⟩:=hb;obtain⟨u,U,rfl⟩:=(by have:=h.ends;rw[R] at this;exact this.more zo: ∃u U,r=u::U);exact vv s k w pb g cap L i t u U h R hs hk I he
 |false=>
  refine xU s k w pb g cap L i bad t r h R hs hk I ?_;cases bad with
  |true=>simp
  |false=>simp_all
theorem FH(w:World)(pb g cap:Nat)(L:List Tk)(i:Nat)(t u v:Tk)(r0:List Tk)(h:PS w pb g cap L i false)(ht:L.drop i=t::u::v::r0)(hk:t.k=2)(hu:u.k=18):
  Calls prog 248 #[xk (some ⟨pb,0,none⟩)] w fun e w'=>zY L pb g cap w w' e (gS (L.drop i)):=by
 have hr:(gM t.k !=110)=false:=by rw[oN];simp[hk]
 have cb:=h.ok u (pS (drop_tail ht));have h40':u.s.toList=[40]:=by rw[ByteArray.toList_eq,cb.2.1 zo,hu];rfl
 have HT:=fa ht;have HP:=fa h;have bw:=fa hk;have bx:=fa hu;have hlen:=h.len;have hlt:=h.lt;have hlt1:i+1<L.length:=by have:=congrArg MJ ht;simp at this;omega
 have hp0:=fh h.blk;have hgl0:=h.gLt;have hI:(i:Int)+1<(L.length:Int):=zo;have hI0:(0:Int)<=(i:Int)+1:=zo;have hwr:IntKind.i64.wrap ((i:Int)+1)=(i:Int)+1:=by rw[IntKind.wrap_i64];omega
 clear h ht hk hu cb;have fl0:=wm;have fl2:=AB;obtain⟨i0,bJ,bM,bN,aC⟩:=info_parts Tryz.infoTok;go_in;obtain⟨c0,c1,c2⟩:=HP.cells;go_wp2;clear c0 c1 c2;refine wp_region_any zk ?_;change wpAny _ _ _ _ _ _ _ (MM _);apply zt0 0 (xk (some ⟨pb,0,none⟩));apply zr 1;intro K hK;go_simp
 go_wp2_with (go_at_call 201;refine(jD (HP.later (by exact(gz.alloc zp _).drew)) HT).mono ?_;rintro e w1 ⟨rfl,hb⟩;simp only[jY])
 have HB:=fa (show Below w.heap.size w w1 from((((MN w.heap.size w).alloc (Mz _) _).alloc zp _).drew).trans (hb.mono zs));have bB:=fa (HP.later HB);obtain⟨c0,c1,c2⟩:=bB.cells;obtain⟨k0,k1,k2⟩:=bB.tok (i+1) _ _ (drop_tail HT);refine wpAny_of_held (S:=fun w'=>w'=w1) _ _ _ _ ?_;refine wpAnyH_take (i:=2) (v:= xd .u8 (gM t.k)) rfl zk zk zk (fun _ _ _ h=>h) (MD ⟨zk,fun w hw=>by subst hw;go_simp⟩) rfl ?_
 try simp only[Act.put,Mr,Mw,Mx,Mu,Ms,Mt]
 refine wpAnyH_take (i:=3) (v:= xn false) rfl zk zk zk (fun _ _ _ h=>h) (MD ⟨zk,fun w hw=>by subst hw;go_simp⟩) rfl ?_
 try simp only[Act.put,Mr,Mw,Mx,Mu,Ms,Mt]
 refine wpAnyH_take (i:=4) (v:= xn false) rfl zk zk zk (fun _ _ _ h=>h) (MD ⟨zk,fun w hw=>by subst hw;go_simp⟩) rfl ?_
 try simp only[Act.put,Mr,Mw,Mx,Mu,Ms,Mt]
 refine wpAnyH_take (i:=5) (v:= xk (some ⟨pb,0,none⟩)) rfl zk zk zk (fun _ _ _ h=>h) (MD ⟨zk,fun w hw=>by subst hw;go_simp⟩) rfl ?_
 try simp only[Act.put,Mr,Mw,Mx,Mu,Ms,Mt]
 refine wpAnyH_take (i:=6) (v:= xk (some ⟨pb,0,none⟩)) rfl zk zk zk (fun _ _ _ h=>h) (MD ⟨zk,fun w hw=>by subst hw;go_simp⟩) rfl ?_
 try simp only[Act.put,Mr,Mw,Mx,Mu,Ms,Mt]
 refine wpAnyH_take (i:=7) (v:= xk (some ⟨pb,0,none⟩)) rfl zk zk zk (fun _ _ _ h=>h) (MD ⟨zk,fun w hw=>by subst hw;go_simp⟩) rfl ?_
 try simp only[Act.put,Mr,Mw,Mx,Mu,Ms,Mt]
 refine wpAnyH_take (i:=8) (v:= xa (some ⟨g,0,none⟩) L.length cap) rfl zk zk zk (fun _ _ _ h=>h) (MD ⟨zk,fun w hw=>by subst hw;go_simp⟩) rfl ?_
 try simp only[Act.put,Mr,Mw,Mx,Mu,Ms,Mt]
 refine wpAnyH_take (i:=9) (v:= xk (some ⟨pb,0,none⟩)) rfl zk zk zk (fun _ _ _ h=>h) (MD ⟨zk,fun w hw=>by subst hw;go_simp⟩) rfl ?_
 try simp only[Act.put,Mr,Mw,Mx,Mu,Ms,Mt]
 refine wpAnyH_take (i:=10) (v:= xk (some ⟨pb,0,none⟩)) rfl zk zk zk (fun _ _ _ h=>h) (MD ⟨zk,fun w hw=>by subst hw;go_simp⟩) rfl ?_
 try simp only[Act.put,Mr,Mw,Mx,Mu,Ms,Mt]
 refine wpAnyH_take (i:=11) (v:= xk (some ⟨pb,1,none⟩)) rfl zk zk zk (fun _ _ _ h=>h) (MD ⟨zk,fun w hw=>by subst hw;go_simp⟩) rfl ?_
 try simp only[Act.put,Mr,Mw,Mx,Mu,Ms,Mt]
 refine wpAnyH_take (i:=12) (v:= xd xh (i:Int)) rfl zk zk zk (fun _ _ _ h=>h) (MD ⟨zk,fun w hw=>by subst hw;go_simp⟩) rfl ?_
 try simp only[Act.put,Mr,Mw,Mx,Mu,Ms,Mt]
 refine wpAnyH_take (i:=13) (v:= xd xh ((i:Int)+1)) rfl zk zk zk (fun _ _ _ h=>h) (MD ⟨zk,fun w hw=>by subst hw;go_simp⟩) rfl ?_
 try simp only[Act.put,Mr,Mw,Mx,Mu,Ms,Mt]
 refine wpAnyH_take (i:=14) (v:= xk (some ⟨g,(i+1) * 3,none⟩)) rfl zk zk zk (fun _ _ _ h=>h) (MD ⟨zk,fun w hw=>by subst hw;go_simp⟩) rfl ?_
 try simp only[Act.put,Mr,Mw,Mx,Mu,Ms,Mt]
 refine wpAnyH_take (i:=15) (v:= xk (some ⟨g,(i+1) * 3+1,none⟩)) rfl zk zk zk (fun _ _ _ h=>h) (MD ⟨zk,fun w hw=>by subst hw;go_simp⟩) rfl ?_
 try simp only[Act.put,Mr,Mw,Mx,Mu,Ms,Mt]
 refine wpAnyH_take (i:=16) (v:= xj u.s) rfl zk zk zk (fun _ _ _ h=>h) (MD ⟨zk,fun w hw=>by subst hw;go_simp⟩) rfl ?_
 try simp only[Act.put,Mr,Mw,Mx,Mu,Ms,Mt]
 refine wpAnyH_take (i:=17) (v:= xn false) rfl zk zk zk (fun _ _ _ h=>h) (MD ⟨zk,fun w hw=>by subst hw;go_simp⟩) rfl ?_
 try simp only[Act.put,Mr,Mw,Mx,Mu,Ms,Mt]
 refine wpAnyH_take (i:=18) (v:= xn false) rfl zk zk zk (fun _ _ _ h=>h) (MD ⟨zk,fun w hw=>by subst hw;go_simp⟩) rfl ?_
 try simp only[Act.put,Mr,Mw,Mx,Mu,Ms,Mt]
 refine wpAnyH_done zk ?_ _;clear c0 c1 c2 k0 k1 k2;have hz1':w.heap.size+1<w1.heap.size:=by have:=hb.size;simp at this;omega
 have cI:=fa (show w1.heap[w.heap.size]? =some (xi #[xd xh 0,xd .u8 0,xj ⟨#[]⟩,xd xh 0,xa none 0 0,xd xh 0,xk none] 235 (0,0)) from
  (hb.block _ zs).trans ((My _ _ _ zp).trans (ft _ _)))
 have cN:=fa (show w1.heap[w.heap.size+1]? =some (xi #[xd xh 0,xd .u8 0,xj ⟨#[]⟩,xd xh 0,xa none 0 0,xd xh 0,xk none] 235 (0,0)) from
  (hb.block _ zp).trans (fk _ _ _ zp))
 clear hb;have bW:=fa (drop_tail HT.out);have cM:=fa (drop_tail bW.out)
 go_wp2_with (go_at_call 246;refine(A7 _ _ _ _ _ _ _ _ _ bB HT bw).mono ?_)
 rintro e w2 ⟨rfl,cc,bc⟩;simp only[jY];have cE:=fa cc;have cx:=fa ((gC HB (some pb)).trans bc);have cJ:=fa ((bc.block w.heap.size zo zs).trans cI);have a':=fa ((bc.block (w.heap.size+1) zo zs).trans cN);have hz2':=fh a';have vc:=cell_of_blk a';have vf:=fi a';clear cc bc
 go_wp2_with (go_at_call 245;refine(vv _ 18 _ _ _ _ _ _ _ _ _ (((cE.setOther _ _ _ zo zo).setOther _ _ _ zo zo).setOther _ _ _ zo zo) bW rfl zp zp bx).mono ?_)
 rintro e w3 ⟨rfl,cd,bd⟩;have cF:=fa cd;have cy:=fa ((gy (gy (gy cx.out (b:=w.heap.size+1) zo _ _) (b:=w.heap.size+1) zo _ _) (b:=w.heap.size+1) zo _ _).trans bd);have cK:=fa ((bd.block w.heap.size (by simp[ME];omega) zs).trans ((MC _ _ _ _ zp).trans ((MC _ _ _ _ zp).trans ((MC _ _ _ _ zp).trans cJ.out))));have bX:Hid (w3.heap[w.heap.size+1]? =some (xi #[xd xh 0,xd .u8 (gM t.k),xj t.s,xd xh t.p,xa none 0 0,xd xh 0,xk none] 235 (0,0))):=
  (bd.block (w.heap.size+1) za zs).trans ((fj (fj (fj a'.out _ _) _ _) _ _).trans rfl)
 have hz3':=fh bX;clear vc vf cd bd;obtain⟨j4,b'⟩: ∃j,j=if (!false&&v.k==2)=true then i+1+1+1 else i+1+1:=⟨_,rfl⟩;obtain⟨b4,b7⟩: ∃b,b= !(!false&&v.k==2):=⟨_,rfl⟩;have bt:=fa b';have bn:=fa b7;clear b' b7
 go_wp2_with (go_at_call 246;refine(A5 cF cM j4 b4 bt bn).mono ?_)
 rintro e w4 ⟨rfl,cg,bf⟩;simp only[jY];have cG:=fa cg;have cz:=fa (cy.trans bf);have cL:=fa ((bf.block w.heap.size zo zs).trans cK);have ba:=fa ((bf.block (w.heap.size+1) zo zs).trans bX);have cm:=fh ba;have vc:=cell_of_blk ba;have vf:=fi ba;clear cg bf
 go_wp2_with (at_builtin;go_must (refine wpList_append_own _ rfl _ _ 225 rfl w.heap.size 232 i0 (.agg #[xd .u8 0,xj ⟨#[]⟩,xd xh 0]) 3 32 underlying225 bJ bM bN aC rfl zd _ 0 [] rfl ?c0 ⟨w4.heap.size+1,0,none⟩ 1 1 [xd .u8 (gM v.k),xj v.s,xd xh v.p] rfl rfl ?c1 ?c2 ?c3 ?c4 ?c5 ?_))
 case c0=>exact MI _ _ _ _
 case c1=>
  intro j u hj
  match j,hj with
  |0,hj=>simp at hj;subst hj;simp[Addr.add]
  |1,hj=>simp at hj;subst hj;simp[Addr.add]
  |2,hj=>simp at hj;subst hj;simp[Addr.add]
  |j+3,hj=>simp at hj
 case c2=>intro u hu;simp at hu;rcases hu with rfl|rfl|rfl<;>rfl
 case c3=>decide
 case c4=>omega
 case c5=>simp;omega
 intro v5 w5 bK aD _;obtain⟨_,h5|⟨g5,ai,b3,cQ,ak⟩⟩:=bK
 ·exact absurd h5.2 zp
 subst cQ;have cC:Hid (w5.ownsRow w.heap.size 232 3 (xa (some ⟨g5,0,none⟩) 1 ai) 1 (iK [v])):=⟨rfl,MF ⟨g5,ai,b3,rfl,ak⟩⟩;have aj:w4.grownBy w5 none:=(gI (gI (World.grownBy.refl _ _) _) _).trans aD;have bS:=fa (cG.later ⟨aj.os,aj.tape,aj.output,aj.size,fun k hk=>aj.block k hk zp⟩);have cA:=fa (cz.trans (aj.but (some pb)));have bT:=fa ((aj.block w.heap.size zo zp).trans cL);have aX:=fa ((aj.block (w.heap.size+1) cm zp).trans ba);have hz5':w.heap.size+1<w5.heap.size:=fh aX;have hg5ge:w.heap.size<=g5:=ak.1;have hg5ne:g5≠w.heap.size+1:=by intro e;have h1:=ak.2.1;rw[e,aX.out] at h1;simp_all
 have hg5ne':g5≠w.heap.size:=by intro e;have h1:=ak.2.1;rw[e,bT.out] at h1;simp_all
 have hg5p:g5≠pb:=zo;clear vc vf aj aD ak;have vc:=cell_of_blk aX;have vf:=fi aX;obtain⟨y,r1,hy⟩:=jn bS.lt;have HY:=fa hy;clear hy;obtain⟨b6,b9⟩: ∃b,b=(!b4&&y.k==20):=⟨_,rfl⟩;obtain⟨j6,aL⟩: ∃j,j=if (!b4&&y.k==20)=true then j4+1 else j4:=⟨_,rfl⟩;have aE:=fa b9;have bu:=fa aL;clear b9 aL
 go_wp2_with (go_at_call 247;refine(BH 20 (bS.setOther _ _ _ zo zo) HY rfl zp zp b6 aE j6 bu).mono ?_)
 rintro e w6 ⟨rfl,ch,a7⟩;have bP:=fa ((gy cA (b:=w.heap.size+1) zo _ _).trans a7);have bU:=fa ((a7.block w.heap.size (by simp[ME];omega) zs).trans ((MC _ _ _ _ zp).trans bT));have bF:Hid (w6.heap[w.heap.size+1]? =some (xi #[xd xh 0,xd .u8 (gM t.k),xj t.s,xd xh t.p,xa (some ⟨g5,0,none⟩) 1 ai,xd xh 0,xk none] 235 (0,0))):=
  (a7.block (w.heap.size+1) za zs).trans ((fj aX _ _).trans rfl)
 have bQ:=fa (gq (gq cC (fK _ _ _ _) (by simp[Value.ownBlock];omega)) a7 (by simp[Value.ownBlock];omega));have hz6':=fh bF;clear vc vf;have aR:=fa ch;clear ch a7;cases b6 with
 |false=>
  have aL:j6=j4:=by have:=bu.out;rw[<-aE.out] at this;trivial
  subst aL
  go_wp2_with (go_at_call 201;refine(jD aR HY).mono ?_)
  rintro e wx ⟨rfl,U⟩;simp only[jY];have aT:=fa (aR.later U);have aN:=fa (bP.trans (gC U _));have aW:=fa ((U.block w.heap.size zo).trans bU);have ag:=fa ((U.block (w.heap.size+1) zo).trans bF);have aP:=fa (fL bQ U);have cr:=fh ag;clear U;have vc:=cell_of_blk ag;have vf:=fi ag;obtain⟨jy,ay⟩: ∃j,j=if (!b4&&y.k==19)=true then j6+1 else j6:=⟨_,rfl⟩;obtain⟨by',hby⟩: ∃b,b= !(!b4&&y.k==19):=⟨_,rfl⟩;have HJY:=fa ay;have HBY:=fa hby;clear ay hby
  go_wp2_with (go_at_call 245;refine(mB 19 (aT.setOther _ _ _ zo zo) HY rfl zp zp jy by' HJY HBY).mono ?_)
  rintro e wy ⟨rfl,az,ad⟩;have aU:=fa az;have aO:=fa ((gy aN (b:=w.heap.size+1) zo _ _).trans ad);have aw:=fa ((ad.block w.heap.size (by simp[ME];omega) zs).trans ((MC _ _ _ _ zp).trans aW));have ax:Hid (wy.heap[w.heap.size+1]? =some (xi #[xd xh 0,xd .u8 (gM t.k),xj t.s,xd xh t.p,xa (some ⟨g5,0,none⟩) 1 ai,xd xh y.p,xk none] 235 (0,0))):=
   (ad.block (w.heap.size+1) za zs).trans ((fj ag _ _).trans rfl)
  have aQ:=fa (gq (gq aP (fK _ (w.heap.size+1) 5 (xd xh y.p)) (by simp[Value.ownBlock];omega)) ad (by simp[Value.ownBlock];omega));have ct:=fh ax;clear vc vf az ad;have vc:=cell_of_blk ax;have rc:=cell_of_blk aw;have rf:=fi aw;go_wp2;refine bodyPost_ret (v:=jR 0 (gM t.k) t.s t.p (some ⟨g5,0,none⟩) 1 ai y.p none) ?_ rfl ?_
  ·exact zm74
  have a8:=mZ aO w.heap.size (Mz _) (xd xh 0) (xd .u8 (gM t.k)) (xj t.s) (xd xh t.p) (xa (some ⟨g5,0,none⟩) 1 ai) (xd xh y.p) (xk none);have hps:=aU.set7 w.heap.size zo zo (xd xh 0) (xd .u8 (gM t.k)) (xj t.s) (xd xh t.p) (xa (some ⟨g5,0,none⟩) 1 ai) (xd xh y.p) (xk none);have how:=gq aQ (AI wy w.heap.size (xd xh 0) (xd .u8 (gM t.k)) (xj t.s) (xd xh t.p) (xa (some ⟨g5,0,none⟩) 1 ai) (xd xh y.p) (xk none)) (by simp[Value.ownBlock];omega);refine⟨a8,_,_,_,_,_,_,_,_,_,rfl, ?_⟩;have ck:=Bm HT bw bx bt bn HY aE;cases h19:(!b4&&y.k==19) with
  |true=>
   have hj':jy=j6+1:=by rw[HJY.out,h19];rfl
   have hb':by'=false:=by rw[HBY.out,h19];rfl
   subst hj' hb';rw[ck.1 h19];refine⟨⟨rfl, ?_⟩,j6+1,rfl,hps⟩;rw[if_pos rfl];exact⟨rfl,rfl,rfl,ig how (MK _),rfl,rfl⟩
  |false=>
   have hj':jy=j6:=by rw[HJY.out,h19];rfl
   have hb':by'=true:=by rw[HBY.out,h19];rfl
   subst hj' hb';rw[ck.2 h19];exact⟨_,rfl,hps⟩
 |true=>
  have aL:j6=j4+1:=by have:=bu.out;rw[<-aE.out] at this;trivial
  subst aL;obtain⟨z,r2,hz⟩:=jn aR.lt;have b8:b4=false:=by have:=aE.out;simp_all
  subst b8;have HZ:=fa hz;have HRR:=fa (Bo HT bw bx bt bn HY aE hz);clear hz
  go_wp2_with (go_at_call 201;refine(jD aR HZ).mono ?_)
  rintro e w7 ⟨rfl,aK⟩;simp only[jY];have an:=fa (aR.later aK);have bo:=fa (bP.trans (gC aK _));have bD:=fa ((aK.block w.heap.size zo).trans bU);have aF:=fa ((aK.block (w.heap.size+1) zo).trans bF);have bR:=fa (fL bQ aK);have hz7':=fh aF;clear aK;have vc:=cell_of_blk aF;have vf:=fi aF;by_cases hzk:z.k=2\/z.k=3
  ·by_cases hzz:z.k=2
   ·have e1:(gM z.k !=110)=false:=by rw[oN];simp_all
    clear hzz;have HZK:=fa hzk;obtain⟨z2,r3,aC⟩:=(by have:=an.ends;rw[HZ.out] at this;exact this.more zo: ∃z2 r3,r2=z2::r3);subst aC;clear hzk;obtain⟨c0,c1,c2⟩:=an.cells;have cf:=fi an.blk 1;have cp:=fh an.blk;have cl:=an.lt
    go_wp2_with (at_builtin;go_must (refine wpList_append_own _ rfl _ _ 225 rfl w.heap.size 232 i0 (.agg #[xd .u8 0,xj ⟨#[]⟩,xd xh 0]) 3 32 underlying225 bJ bM bN aC rfl zd _ 1 (iK [v]) rfl ?c0 ⟨w7.heap.size+1,0,none⟩ 1 1 [xd .u8 (gM z.k),xj z.s,xd xh z.p] rfl rfl ?c1 ?c2 ?c3 ?c4 ?c5 ?_))
    case c0=>exact((gq bR (fK _ pb 1 (xd xh (((j4+1:Nat):Int)+1))) (by simp[Value.ownBlock];omega)).alloc _).alloc _
    case c1=>
     intro j u hj
     match j,hj with
     |0,hj=>simp at hj;subst hj;exact(cell_of_blk (fk _ _ _ zp) 0).trans rfl
     |1,hj=>simp at hj;subst hj;exact(cell_of_blk (fk _ _ _ zp) 1).trans rfl
     |2,hj=>simp at hj;subst hj;exact(cell_of_blk (fk _ _ _ zp) 2).trans rfl
     |j+3,hj=>trivial
    case c2=>intro u hu;simp at hu;rcases hu with rfl|rfl|rfl<;>rfl
    case c3=>decide
    case c4=>omega
    case c5=>simp;omega
    intro v9 w9 aB J _;obtain⟨_,h9|⟨g9,I,a6,bL,R⟩⟩:=aB
    ·exact absurd h9.2 zp
    subst bL;have bz:Hid (w9.ownsRow w.heap.size 232 3 (xa (some ⟨g9,0,none⟩) 2 I) 2 (iK [v,z])):=⟨rfl,MF ⟨g9,I,a6,rfl,R⟩⟩;have bC:=fa ((((an.setI HZ).alloc _).alloc _).grown J (by simp[Value.ownBlock];omega) (by simp[Value.ownBlock];omega));have bq:=fa ((gI (gI (bo.trans (fK _ pb 1 (xd xh (((j4+1:Nat):Int)+1)))) _) _).andThen J (fun j hj=>by left;simp[Value.ownBlock] at hj;omega));have aV:=fa ((J.block w.heap.size zs (by simp[Value.ownBlock];omega)).trans ((My _ _ _ zs).trans ((My _ _ _ zs).trans ((MC _ _ _ _ zs).trans bD))));have aq:=fa ((J.block (w.heap.size+1) zs (by simp[Value.ownBlock];omega)).trans ((My _ _ _ zs).trans ((My _ _ _ zs).trans ((MC _ _ _ _ zs).trans aF))));have cn:=fh aq;have bH:=R.1;have bI:g9≠w.heap.size+1:=by intro e;have h1:=R.2.1;rw[e,aq.out] at h1;simp at h1
    have bh:g9≠w.heap.size:=by intro e;have h1:=R.2.1;rw[e,aV.out] at h1;simp at h1
    clear vc vf J R c0 c1 c2 cf cp;have vc:=cell_of_blk aq.out;have vf:=fi aq.out;go_wp2_with fail;have aS:=fa (bC.out.setOther (w.heap.size+1) 4 (xa (some ⟨g9,0,none⟩) 2 I) zo zo);have br:=fa (gy bq.out (b:=w.heap.size+1) zo 4 (xa (some ⟨g9,0,none⟩) 2 I));have bE:=fa ((MC w9 ⟨w.heap.size+1,4,none⟩ (xa (some ⟨g9,0,none⟩) 2 I) w.heap.size zp).trans aV.out);have aY:=fa ((fj aq.out 4 (xa (some ⟨g9,0,none⟩) 2 I)).trans rfl);have bA:=fa (gq bz.out (fK w9 (w.heap.size+1) 4 (xa (some ⟨g9,0,none⟩) 2 I)) (by simp[Value.ownBlock];omega));clear vc vf;generalize w9.setCell ⟨w.heap.size+1,4,none⟩ (xa (some ⟨g9,0,none⟩) 2 I)=wa at *;have cq:=fh aY.out;have au:=fa (drop_tail HZ.out);refine(jD aS.out au.out).mono ?_;rintro e wx ⟨rfl,U⟩;simp only[jY];have aT:=fa (aS.out.later U);have aN:=fa (br.out.trans (gC U _));have aW:=fa ((U.block w.heap.size zo).trans bE.out);have ag:=fa ((U.block (w.heap.size+1) zo).trans aY.out);have aP:=fa (fL bA.out U);have cr:=fh ag.out;clear U;have vc:=cell_of_blk ag.out;have vf:=fi ag.out;obtain⟨jy,ay⟩: ∃j,j=if (!false&&z2.k==19)=true then (j4+1+1)+1 else (j4+1+1):=⟨_,rfl⟩;obtain⟨by',hby⟩: ∃b,b= !(!false&&z2.k==19):=⟨_,rfl⟩;have HJY:=fa ay;have HBY:=fa hby;clear ay hby
    go_wp2_with (go_at_call 245;refine(mB 19 (aT.setOther _ _ _ zo zo) au rfl zp zp jy by' HJY HBY).mono ?_)
    rintro e wy ⟨rfl,az,ad⟩;have aU:=fa az;have aO:=fa ((gy aN (b:=w.heap.size+1) zo _ _).trans ad);have aw:=fa ((ad.block w.heap.size (by simp[ME];omega) zs).trans ((MC _ _ _ _ zp).trans aW));have ax:Hid (wy.heap[w.heap.size+1]? =some (xi #[xd xh 0,xd .u8 (gM t.k),xj t.s,xd xh t.p,xa (some ⟨g9,0,none⟩) 2 I,xd xh z2.p,xk none] 235 (0,0))):=
     (ad.block (w.heap.size+1) (by simp[ME];omega) zs).trans ((fj ag _ _).trans rfl)
    have aQ:=fa (gq (gq aP (fK _ (w.heap.size+1) 5 (xd xh z2.p)) (by simp[Value.ownBlock];omega)) ad (by simp[Value.ownBlock];omega));have ct:=fh ax;clear vc vf az ad;have vc:=cell_of_blk ax;have rc:=cell_of_blk aw;have rf:=fi aw;go_wp2;refine bodyPost_ret (v:=jR 0 (gM t.k) t.s t.p (some ⟨g9,0,none⟩) 2 I z2.p none) ?_ rfl ?_
    ·exact zm74
    have a8:=mZ aO w.heap.size (Mz _) (xd xh 0) (xd .u8 (gM t.k)) (xj t.s) (xd xh t.p) (xa (some ⟨g9,0,none⟩) 2 I) (xd xh z2.p) (xk none);have hps:=aU.set7 w.heap.size zo zo (xd xh 0) (xd .u8 (gM t.k)) (xj t.s) (xd xh t.p) (xa (some ⟨g9,0,none⟩) 2 I) (xd xh z2.p) (xk none);have how:=gq aQ (AI wy w.heap.size (xd xh 0) (xd .u8 (gM t.k)) (xj t.s) (xd xh t.p) (xa (some ⟨g9,0,none⟩) 2 I) (xd xh z2.p) (xk none)) (by simp[Value.ownBlock];omega);refine⟨a8,_,_,_,_,_,_,_,_,_,rfl, ?_⟩;have hz2k:gu (L.drop (j4+1+1))=z2.k:=by rw[au.out];rfl
    have hz2p:gQ (L.drop (j4+1+1))=z2.p:=by rw[au.out];rfl
    cases h19:(!false&&z2.k==19) with
    |true=>
     exact zm61
    |false=>
     exact zm99
   have e1:(gM z.k !=110)=true:=by rw[oN];simp_all
   have e2:(gM z.k !=100)=false:=by
    rw[FA];simp_all
   clear hzz;have HZK:=fa hzk;obtain⟨z2,r3,aC⟩:=(by have:=an.ends;rw[HZ.out] at this;exact this.more zo: ∃z2 r3,r2=z2::r3);subst aC;clear hzk;obtain⟨c0,c1,c2⟩:=an.cells;have cf:=fi an.blk 1;have cp:=fh an.blk;have cl:=an.lt
   go_wp2_with (at_builtin;go_must (refine wpList_append_own _ rfl _ _ 225 rfl w.heap.size 232 i0 (.agg #[xd .u8 0,xj ⟨#[]⟩,xd xh 0]) 3 32 underlying225 bJ bM bN aC rfl zd _ 1 (iK [v]) rfl ?c0 ⟨w7.heap.size+1,0,none⟩ 1 1 [xd .u8 (gM z.k),xj z.s,xd xh z.p] rfl rfl ?c1 ?c2 ?c3 ?c4 ?c5 ?_))
   case c0=>exact((gq bR (fK _ pb 1 (xd xh (((j4+1:Nat):Int)+1))) (by simp[Value.ownBlock];omega)).alloc _).alloc _
   case c1=>
    intro j u hj
    match j,hj with
    |0,hj=>simp at hj;subst hj;exact(cell_of_blk (fk _ _ _ zp) 0).trans rfl
    |1,hj=>simp at hj;subst hj;exact(cell_of_blk (fk _ _ _ zp) 1).trans rfl
    |2,hj=>simp at hj;subst hj;exact(cell_of_blk (fk _ _ _ zp) 2).trans rfl
    |j+3,hj=>trivial
   case c2=>intro u hu;simp at hu;rcases hu with rfl|rfl|rfl<;>rfl
   case c3=>decide
   case c4=>omega
   case c5=>simp;omega
   intro v9 w9 aB J _;obtain⟨_,h9|⟨g9,I,a6,bL,R⟩⟩:=aB
   ·exact absurd h9.2 zp
   subst bL;have bz:Hid (w9.ownsRow w.heap.size 232 3 (xa (some ⟨g9,0,none⟩) 2 I) 2 (iK [v,z])):=⟨rfl,MF ⟨g9,I,a6,rfl,R⟩⟩;have bC:=fa ((((an.setI HZ).alloc _).alloc _).grown J (by simp[Value.ownBlock];omega) (by simp[Value.ownBlock];omega));have bq:=fa ((gI (gI (bo.trans (fK _ pb 1 (xd xh (((j4+1:Nat):Int)+1)))) _) _).andThen J (fun j hj=>by left;simp[Value.ownBlock] at hj;omega));have aV:=fa ((J.block w.heap.size zs (by simp[Value.ownBlock];omega)).trans ((My _ _ _ zs).trans ((My _ _ _ zs).trans ((MC _ _ _ _ zs).trans bD))));have aq:=fa ((J.block (w.heap.size+1) zs (by simp[Value.ownBlock];omega)).trans ((My _ _ _ zs).trans ((My _ _ _ zs).trans ((MC _ _ _ _ zs).trans aF))));have cn:=fh aq;have bH:=R.1;have bI:g9≠w.heap.size+1:=by intro e;have h1:=R.2.1;rw[e,aq.out] at h1;simp at h1
   have bh:g9≠w.heap.size:=by intro e;have h1:=R.2.1;rw[e,aV.out] at h1;simp at h1
   clear vc vf J R c0 c1 c2 cf cp;have vc:=cell_of_blk aq.out;have vf:=fi aq.out;go_wp2_with fail;have aS:=fa (bC.out.setOther (w.heap.size+1) 4 (xa (some ⟨g9,0,none⟩) 2 I) zo zo);have br:=fa (gy bq.out (b:=w.heap.size+1) zo 4 (xa (some ⟨g9,0,none⟩) 2 I));have bE:=fa ((MC w9 ⟨w.heap.size+1,4,none⟩ (xa (some ⟨g9,0,none⟩) 2 I) w.heap.size zp).trans aV.out);have aY:=fa ((fj aq.out 4 (xa (some ⟨g9,0,none⟩) 2 I)).trans rfl);have bA:=fa (gq bz.out (fK w9 (w.heap.size+1) 4 (xa (some ⟨g9,0,none⟩) 2 I)) (by simp[Value.ownBlock];omega));clear vc vf;generalize w9.setCell ⟨w.heap.size+1,4,none⟩ (xa (some ⟨g9,0,none⟩) 2 I)=wa at *;have cq:=fh aY.out;have au:=fa (drop_tail HZ.out);refine(jD aS.out au.out).mono ?_;rintro e wx ⟨rfl,U⟩;simp only[jY];have aT:=fa (aS.out.later U);have aN:=fa (br.out.trans (gC U _));have aW:=fa ((U.block w.heap.size zo).trans bE.out);have ag:=fa ((U.block (w.heap.size+1) zo).trans aY.out);have aP:=fa (fL bA.out U);have cr:=fh ag.out;clear U;have vc:=cell_of_blk ag.out;have vf:=fi ag.out;obtain⟨jy,ay⟩: ∃j,j=if (!false&&z2.k==19)=true then (j4+1+1)+1 else (j4+1+1):=⟨_,rfl⟩;obtain⟨by',hby⟩: ∃b,b= !(!false&&z2.k==19):=⟨_,rfl⟩;have HJY:=fa ay;have HBY:=fa hby;clear ay hby
   go_wp2_with (go_at_call 245;refine(mB 19 (aT.setOther _ _ _ zo zo) au rfl zp zp jy by' HJY HBY).mono ?_)
   rintro e wy ⟨rfl,az,ad⟩;have aU:=fa az;have aO:=fa ((gy aN (b:=w.heap.size+1) zo _ _).trans ad);have aw:=fa ((ad.block w.heap.size (by simp[ME];omega) zs).trans ((MC _ _ _ _ zp).trans aW));have ax:Hid (wy.heap[w.heap.size+1]? =some (xi #[xd xh 0,xd .u8 (gM t.k),xj t.s,xd xh t.p,xa (some ⟨g9,0,none⟩) 2 I,xd xh z2.p,xk none] 235 (0,0))):=
    (ad.block (w.heap.size+1) (by simp[ME];omega) zs).trans ((fj ag _ _).trans rfl)
   have aQ:=fa (gq (gq aP (fK _ (w.heap.size+1) 5 (xd xh z2.p)) (by simp[Value.ownBlock];omega)) ad (by simp[Value.ownBlock];omega));have ct:=fh ax;clear vc vf az ad;have vc:=cell_of_blk ax;have rc:=cell_of_blk aw;have rf:=fi aw;go_wp2;refine bodyPost_ret (v:=jR 0 (gM t.k) t.s t.p (some ⟨g9,0,none⟩) 2 I z2.p none) ?_ rfl ?_
   ·exact zm74
   have a8:=mZ aO w.heap.size (Mz _) (xd xh 0) (xd .u8 (gM t.k)) (xj t.s) (xd xh t.p) (xa (some ⟨g9,0,none⟩) 2 I) (xd xh z2.p) (xk none);have hps:=aU.set7 w.heap.size zo zo (xd xh 0) (xd .u8 (gM t.k)) (xj t.s) (xd xh t.p) (xa (some ⟨g9,0,none⟩) 2 I) (xd xh z2.p) (xk none);have how:=gq aQ (AI wy w.heap.size (xd xh 0) (xd .u8 (gM t.k)) (xj t.s) (xd xh t.p) (xa (some ⟨g9,0,none⟩) 2 I) (xd xh z2.p) (xk none)) (by simp[Value.ownBlock];omega);refine⟨a8,_,_,_,_,_,_,_,_,_,rfl, ?_⟩;have hz2k:gu (L.drop (j4+1+1))=z2.k:=by rw[au.out];rfl
   have hz2p:gQ (L.drop (j4+1+1))=z2.p:=by rw[au.out];rfl
   cases h19:(!false&&z2.k==19) with
   |true=>
    exact zm61
   |false=>
    exact zm99
  have e1:(gM z.k !=110)=true:=by rw[oN];simp;omega
  have e2:(gM z.k !=100)=true:=by rw[FA];simp;omega
  have HZK:=fa hzk;clear hzk
  go_wp2_with (go_at_call 280;refine(pU (an.alloc _)).mono ?_)
  rintro e w8 ⟨rfl,cj,bg⟩;have cH:=fa cj;have cB:=fa ((gI bo _).trans bg);have bV:=fa ((bg.block w.heap.size zs zs).trans ((My _ _ _ zo).trans bD));have bY:=fa ((bg.block (w.heap.size+1) zs zs).trans ((My _ _ _ zo).trans aF));have hz8':w.heap.size+1<w8.heap.size:=fh bY;clear vc vf cj bg;have vc:=cell_of_blk bY;have rc:=cell_of_blk bV;have rf:=fi bV;go_wp2;refine bodyPost_ret (v:=jR 0 (gM t.k) t.s t.p (some ⟨g5,0,none⟩) 1 ai 0 none) ?_ rfl ?_
  ·exact zm74
  rw[HRR.1 HZK.out];exact⟨mZ cB w.heap.size (Mz _) _ _ _ _ _ _ _,_,_,_,_,_,_,_,_,_,rfl,_,rfl,cH.set7 w.heap.size zo zo _ _ _ _ _ _ _⟩
theorem Ib(w:World)(pb g cap:Nat)(L:List Tk)(i:Nat)(h:PS w pb g cap L i false):
  Calls prog 248 #[xk (some ⟨pb,0,none⟩)] w fun e w'=>zY L pb g cap w w' e (gS (L.drop i)):=by
 by_cases h2:gu (L.drop i)=2
 ·by_cases h18:gu (L.drop i).tail=18
  ·obtain⟨t,u,r,I,J⟩:=km h.ends zp h2;have R:u.k=18:=by rw[I] at h18;trivial
   have he:=h.ends;rw[I] at he;obtain⟨v,r0,rfl⟩:=he.2.more zo;exact FH w pb g cap L i t u v r0 h I J R
  exact zO w pb g cap L i h h2 h18
 exact Bp w pb g cap L i h h2
def KT(w w':World):Prop:= ∀(b:Nat) (c:Array Value) (ty:Nat) (m:Nat × Nat),(ty=232\/ty=292)->w.heap[b]? =some (xi c ty m)->w'.heap[b]? =some (xi c ty m)
theorem KT.refl(w:World):KT w w:=fun _ _ _ _ _ h=>h
theorem KT.trans{a b c:World}(h:KT a b)(k:KT b c):KT a c:=fun x y z m I J=>k x y z m I (h x y z m I J)
theorem KT.below(h:Below w.heap.size w w'):KT w w':=fun b _ _ _ _ I=>(h.block b (fh I)).trans I
theorem KT.alloc(w:World)(o:Obj):KT w (w.alloc o):=KT.below gz
theorem KT.grown{r ty:Nat}(h:w.grownBy w' (some r))(J:TyAt w r ty)(h1:ty≠232)(h2:ty≠292):KT w w':=fun b c t m hty I=>by
 refine(h.block b (fh I) ?_).trans I;intro e;cases e;obtain⟨c',m',hc⟩:=J;simp_all
theorem KT.grownNone(h:w.grownBy w' none):KT w w':=fun b _ _ _ _ I=>(h.block b (fh I) zp).trans I
theorem KT.set{b ty:Nat}(o:Nat)(v:Value)(R:TyAt w b ty)(I:ty≠232)(J:ty≠292):KT w (w.setCell ⟨b,o,none⟩ v):=KT.grown (fK w b o v) R I J
theorem KT.ps{g:Nat}(h:PS w pb g cap L i bad)(hg:w.grownBy w' (some pb)):KT w w':=KT.grown hg ⟨_,_,h.blk⟩ zp zp
theorem KT.isF(h:KT w w'): ∀{f:Fm} {p:Option Addr},IsF w f p->IsF w' f p
 | .nil,_,hf=>hf
 | .node _ _ _ _ _,_,⟨b,vl,vr,hv,hb,hl,hr⟩=>⟨b,vl,vr,hv,h _ _ _ _ (MF rfl) hb,h.isF hl,h.isF hr⟩
theorem KT.owns(h:KT w w')(ho:w.ownsRow base 232 3 v n xs):w'.ownsRow base 232 3 v n xs:=by
 obtain⟨J,I⟩:=ho;refine⟨J, ?_⟩;rcases I with I|⟨g,cap,cur,hv,hgb,hh,r⟩
 ·simp_all
 exact MF ⟨g,cap,cur,hv,hgb,h _ _ _ _ (MD rfl) hh,r⟩
theorem KT.rl(h:KT w w'){r:Rl}{s:ByteArray}{c:Int}{k:Nat}(hr:RlIs w r a b s c o n k d p):RlIs w' r a b s c o n k d p:=by
 obtain⟨J,I⟩:=hr;refine⟨J, ?_⟩
 split
 ·rename_i hc;rw[if_pos hc] at I;exact⟨I.1,I.2.1,I.2.2.1,h.owns I.2.2.2.1,I.2.2.2.2⟩
 rename_i hc;rw[if_neg hc] at I;exact⟨h.isF I.1,I.2⟩
def RulesAre(w:World):List Rl->List Value->Prop
 |[],cs=>cs=[]
 |r::rs,cs=> ∃a b s c o n k d p cs',cs=[xd xh a,xd .u8 b,xj s,xd xh c,xa o n k,xd xh d,xk p]++cs'/\RlIs w r a b s c o n k d p/\RulesAre w rs cs'
theorem KT.rules(h:KT w w'): ∀{rs:List Rl} {cs:List Value},RulesAre w rs cs->RulesAre w' rs cs
 |[],_,hh=>hh
 |_::_,_,⟨a,b,s,c,o,n,k,d,p,cs',e,hr,hrs⟩=>⟨a,b,s,c,o,n,k,d,p,cs',e,h.rl hr,h.rules hrs⟩
theorem RulesAre.snoc: ∀{rs:List Rl} {cs:List Value} {r:Rl} {a b:Int} {s:ByteArray} {c:Int} {o:Option Addr} {n k:Nat} {d:Int} {p:Option Addr},RulesAre w rs cs->RlIs w r a b s c o n k d p->
  RulesAre w (rs++[r]) (cs++[xd xh a,xd .u8 b,xj s,xd xh c,xa o n k,xd xh d,xk p])
 |[],_,r,a,b,s,c,o,n,k,d,p,h,hr=>⟨a,b,s,c,o,n,k,d,p,[],by rw[show _=[] from h];simp,hr,rfl⟩
 |x::xs,_,r,a,b,s,c,o,n,k,d,p,⟨a',b',s',c',o',n',k',d',p',cs',e,hx,hxs⟩,hr=>⟨a',b',s',c',o',n',k',d',p',_,za,hx,hxs.snoc hr⟩
def pn(acc:List Tk)(x:Except Nat (List Tk × List Tk)):Except Nat (List Tk × List Tk):=match x with| .error q=> .error q| .ok (ts,l)=> .ok (acc++ts,l)
def nj(al:List Tk)(acc:List Rl)(x:Except Nat (List Rl)):Except Nat (List Tk × List Rl):=match x with| .error q=> .error q| .ok rs=> .ok (al,acc++rs)
def kz(l:List Tk):Except Nat (List Tk × List Tk):=if gu l=4 then iG l.length l.tail else .error (gQ l)
theorem mA(l:List Tk):gW l=(match kz l with| .error q=> .error q| .ok (al,l1)=>if gu l1=21 then nj al [] (iI l1.length l1.tail) else .error (gQ l1)):=by
 unfold gW kz
 split
 ·rfl
 rfl
theorem Tryz.infoRul:(prog.info? 235).map (fun i=>(i.zero,i.size,i.bytes))=some (some (.agg #[xd xh 0,xd .u8 0,xj ⟨#[]⟩,xd xh 0,xa none 0 0,xd xh 0,xk none]),7,80):=zk
theorem gp{size b ty:Nat}(h:w.ownsRow base e size v n xs)(I:v.ownBlock=some b)(hc:w.heap[b]? =some (xi c ty m))(hne:ty≠e):False:=by
 obtain⟨_,J|⟨g,cap,cur,R,_,hh,_⟩⟩:=h
 ·rw[J.1] at I;cases I
 rw[R] at I;cases I;simp_all
theorem sN: ∀n l ts I,iG n l= .ok (ts,I)->I.length<=l.length
 |0,_,_,_,h=>zv
 |n+1,l,ts,I,h=>by
  rw[iG] at h
  split at h
  ·split at h
   ·split at h
    ·cases h
    rename_i ts1 l1 e
    have:=sN n _ _ _ e;cases h;simp at this;omega
   cases h;simp
  cases h
theorem qm(l:List Tk)(r:Rl)(I:List Tk)(h:gS l= .ok (r,I)):I.length<=l.length:=by
 rw[gS] at h
 split at h
 ·split at h
  ·split at h
   ·split at h
    ·split at h
     ·cases h;simp;omega
     cases h
    cases h
   split at h
   ·cases h;simp;omega
   cases h
  cases h
 split at h
 ·cases h
 rename_i f l1 e
 have:=ju _ _ _ _ _ _ e;simp_all
def Lg(L : List Tk)(pb g cap j : Nat)(bad : Bool)(w w' : World)(e : Ending) : Prop :=
  w.grownBy w' (some pb) /\ ∃ a b s c o n k d p j' bad', e =xm (jR a b s c o n k d p) /\ PS w' pb g cap L j' bad' /\
    ((bad' = false /\ bad = false /\ ∃ r, gS (L.drop j) = .ok (r, L.drop j') /\ RlIs w' r a b s c o n k d p) \/
     (bad' = true /\ (bad = true -> j' = j) /\ (bad = false -> gS (L.drop j) = .error (gQ (L.drop j')))))
theorem FG{g:Nat}(h:PS w pb g cap L j bad):
  Calls prog 248 #[xk (some ⟨pb,0,none⟩)] w fun e w'=>Lg L pb g cap j bad w w' e:=by
 cases bad with
 |false=>
  refine(Ib w pb g cap L j h).mono ?_;rintro e w' ⟨hg,a,b,s,c,o,n,k,d,p,he,J⟩;cases hr:gS (L.drop j) with
  |error q=>
   rw[hr] at J;obtain⟨U,hq,I⟩:=J;exact⟨hg,a,b,s,c,o,n,k,d,p,U,true,he,I,MF ⟨rfl,zp,fun _=>za⟩⟩
  |ok x=>
   obtain⟨r,l⟩:=x;rw[hr] at J;obtain⟨R,U,hl,I⟩:=J;subst hl;exact⟨hg,a,b,s,c,o,n,k,d,p,U,false,he,I,MD ⟨rfl,rfl,r,hr,R⟩⟩
 |true=>
  refine(FI w pb g cap L j h).mono ?_;rintro e w' ⟨hg,a,b,s,c,o,n,k,d,p,he,I⟩;exact⟨hg,a,b,s,c,o,n,k,d,p,j,true,he,I,MF ⟨rfl,fun _=>rfl,zp⟩⟩
theorem qi{size:Nat}(h:w.ownsRow base e size v n xs)(hb:pb<base):v.ownBlock≠some pb:=by
 intro e;have:=gG h pb e;omega
theorem KT.own(h:w.grownBy w' v.ownBlock)(ho:w.ownsRow base 235 7 v n xs):KT w w':=by
 obtain⟨_,I|⟨g,cap,cur,R,_,J,_⟩⟩:=ho
 ·rw[I.1] at h;exact KT.grownNone h
 rw[R] at h;exact KT.grown (r:=g) h ⟨_,_,J⟩ zp zp
theorem RlIs.pl{r:Rl}{s:ByteArray}{c:Int}{k:Nat}(h:RlIs w r a b s c o n k d p)(q:Nat):RlIs w {r with pl:=q} q b s c o n k d p:=⟨rfl,h.2⟩
def LA(w:World)(pb g cap:Nat)(L:List Tk)(m:Nat)(mv:Value)(wr:World):Prop:=
 ∃(mb:Bool) (o1:Option Addr) (n1 k1:Nat) (acc:List Tk) (j:Nat) (bad:Bool),mv=xn mb/\w.grownBy wr (some pb)/\PS wr pb g cap L j bad/\
  wr.heap[w.heap.size]? =some (xi #[xa none 0 0,xa none 0 0] 228 (0,0))/\wr.heap[w.heap.size+1]? =some (xi #[xa o1 n1 k1,xa none 0 0] 228 (0,0))/\
  wr.ownsRow w.heap.size 232 3 (xa o1 n1 k1) acc.length (iK acc)/\
  ((bad=false/\mb=true/\(L.drop j).length<=m/\acc.length+(L.drop j).length<=L.length/\kz (L.drop 0)=pn acc (iG m (L.drop j)))\/(bad=false/\mb=false/\kz (L.drop 0)= .ok (acc,L.drop j))\/(bad=true/\kz (L.drop 0)= .error (gQ (L.drop j))))
def LB(w : World)(pb g cap : Nat)(L : List Tk)(m : Nat)(wr : World) : Prop :=
  ∃ (o1 : Option Addr) (n1 k1 : Nat) (al : List Tk) (o2 : Option Addr) (n2 k2 nR : Nat) (cells : List Value) (j : Nat) (bad : Bool), w.grownBy wr (some pb) /\ PS wr pb g cap L j bad /\
    wr.heap[w.heap.size]? = some (xi #[xa none 0 0, xa none 0 0] 228 (0, 0)) /\ wr.heap[w.heap.size + 1]? = some (xi #[xa o1 n1 k1, xa o2 n2 k2] 228 (0, 0)) /\
    wr.ownsRow w.heap.size 235 7 (xa o2 n2 k2) nR cells /\
    ((bad = false /\ wr.ownsRow w.heap.size 232 3 (xa o1 n1 k1) al.length (iK al) /\ ∃ rs, nR = rs.length /\ RulesAre wr rs cells /\ (L.drop j).length <= m /\ rs.length + (L.drop j).length <= L.length /\ gW (L.drop 0) = nj al rs (iI m (L.drop j))) \/
     (bad = true /\ gW (L.drop 0) = .error (gQ (L.drop j))))
def Ld(L:List Tk)(pb g cap:Nat)(w w':World)(e:Ending):Prop:=
 w.grownBy w' (some pb)/\ ∃o1 n1 k1 o2 n2 k2,e=xm (.agg #[xa o1 n1 k1,xa o2 n2 k2])/\(match gW (L.drop 0) with
  | .ok (al,rs)=>w'.ownsRow 0 232 3 (xa o1 n1 k1) al.length (iK al)/\(∃cells,w'.ownsRow 0 235 7 (xa o2 n2 k2) rs.length cells/\RulesAre w' rs cells)/\ ∃j,PS w' pb g cap L j false
  | .error q=> ∃j,gQ (L.drop j)=q/\PS w' pb g cap L j true)
theorem Fh{g:Nat}(h:PS w pb g cap L 0 false):
  Calls prog 200 #[xk (some ⟨pb,0,none⟩)] w fun e w'=>Ld L pb g cap w w' e:=by
 obtain⟨t,r,ht⟩:=jn h.lt;have HT:=fa ht;have HP:=fa h;have cQ:=fh h.blk;have hgl0:=h.gLt;clear h ht;obtain⟨i0,dL,dQ,dR,dU⟩:=info_parts Tryz.infoTok;obtain⟨m0,dM,cN,cO,cP⟩:=info_parts Tryz.infoRul;have fl0:=wm;have fl2:=AB;obtain⟨j1,cK⟩: ∃j,j=if (!false&&t.k==4)=true then 0+1 else 0:=⟨_,rfl⟩;obtain⟨b1,cI⟩: ∃b,b= !(!false&&t.k==4):=⟨_,rfl⟩;have br:=fa cK;have bo:=fa cI;clear cK cI;go_in
 go_wp2_with (refine(mB 4 ((HP.alloc _).alloc _) HT rfl zp zp j1 b1 br bo).mono ?_)
 rintro e w1 ⟨rfl,cR,bx⟩;have cm:=fa cR;have bW:=fa ((gI (gI (World.grownBy.refl w (some pb)) _) _).trans bx);have ct:=fa (show w1.heap[w.heap.size]? =some (xi #[xa none 0 0,xa none 0 0] 228 (0,0)) from
  (bx.block _ zs zs).trans ((My _ _ _ zp).trans (ft _ _)))
 have cB:=fa (show w1.heap[w.heap.size+1]? =some (xi #[xa none 0 0,xa none 0 0] 228 (0,0)) from
  (bx.block _ zp zs).trans (fk _ _ _ zp))
 clear cR bx;have hX:b1=false->j1=1/\kz (L.drop 0)=iG L.length (L.drop 1):=by
  intro hb;have h1:=bo.out;rw[hb] at h1;have hk:t.k=4:=by simpa using h1
  refine⟨by rw[br.out];simp[hk], ?_⟩;unfold kz;rw[if_pos (by rw[HT.out];exact hk),MG];rfl
 have dI:b1=true->j1=0/\kz (L.drop 0)= .error (gQ (L.drop 0)):=by
  intro hb;have h1:=bo.out;rw[hb] at h1;have hk:t.k≠4:=by simpa using h1
  refine⟨by rw[br.out];simp[hk], ?_⟩;unfold kz;rw[if_neg (by rw[HT.out];exact hk)]
 have hlen:=HP.out.len;have ad:LA w pb g cap L L.length (xn true) w1:=by
  refine⟨true,none,0,0,[],j1,b1,rfl,bW.out,cm.out,ct.out,cB.out,MI _ _ _ _, ?_⟩;cases b1 with
  |false=>
   obtain⟨J,hx⟩:=hX rfl;subst J;refine MD ⟨rfl,rfl,zp,zp, ?_⟩;rw[hx];unfold pn;cases iG L.length (L.drop 1)<;>simp
  |true=>
   simp_all
 have HS:=fa ad;clear ad hX dI br bo cm bW ct cB;go_wp2
 go_loopg [4] L.length (fun m v wr=>LA w pb g cap L m v wr)
 ·exact HS
 clear HS HT;obtain⟨mb,o1,n1,k1,acc,j,bad,rfl,bf,aG,hrb,aI,bl,aF⟩:=hrel;have HG:=fa bf;have HP2:=fa aG;have HR:=fa hrb;have HV:=fa aI;have HO:=fa bl;have hz:=fh aI;obtain⟨c0,c1,c2⟩:=aG.cells;clear bf aG hrb aI bl;rcases aF with⟨rfl,rfl,hm,hacc,hx⟩|hdone
 ·obtain⟨m,rfl⟩: ∃m,gk=m+1:=⟨gk - 1,by have:=HP2.lt;rw[ML] at hm;omega⟩;obtain⟨y,r1,hy⟩:=jn HP2.lt;have HY:=fa hy;have HX:=fa hx;have HM:=fa hm;have bH:=fa hacc;clear hx hm;obtain⟨j3,bO⟩: ∃j3,j3=if (!false&&y.k==2)=true then j+1 else j:=⟨_,rfl⟩;obtain⟨b3,bN⟩: ∃b,b= !(!false&&y.k==2):=⟨_,rfl⟩;have b7:=fa bO;have bT:=fa bN;have dJ:acc.length<401:=by have:=congrArg MJ hy;simp at this hacc;omega
  clear bO bN hy hacc
  go_wp2_with (refine(A5 HP2 HY j3 b3 b7 bT).mono ?_)
  rintro e w3 ⟨rfl,cS,a7⟩;simp only[jY];have dv:=fa cS;have dh:=fa (HG.trans a7);have cw:=fa ((a7.block w.heap.size zo zs).trans HR);have aR:=fa ((a7.block (w.heap.size+1) hz zs).trans HV);have bu:=fa ((KT.ps HP2 a7).owns HO);have hz3:=fh aR;clear cS a7 c0 c1 c2;have vc:=cell_of_blk aR;have vf:=fi aR
  go_wp2_with (at_builtin;go_must (refine wpList_append_own _ rfl _ _ 225 rfl w.heap.size 232 i0 (.agg #[xd .u8 0,xj ⟨#[]⟩,xd xh 0]) 3 32 underlying225 dL dQ dR dU rfl zd _ acc.length (iK acc) rfl ?c0 ⟨w3.heap.size+1,0,none⟩ 1 1 [xd .u8 (gM y.k),xj y.s,xd xh y.p] rfl rfl ?c1 ?c2 ?c3 ?c4 ?c5 ?_))
  case c0=>exact(bu.alloc _).alloc _
  case c1=>
   intro j u J
   match j,J with
   |0,J=>simp at J;subst J;exact(cell_of_blk (fk _ _ _ zp) 0).trans rfl
   |1,J=>simp at J;subst J;exact(cell_of_blk (fk _ _ _ zp) 1).trans rfl
   |2,J=>simp at J;subst J;exact(cell_of_blk (fk _ _ _ zp) 2).trans rfl
   |j+3,J=>trivial
  case c2=>intro u hu;simp at hu;rcases hu with rfl|rfl|rfl<;>rfl
  case c3=>unfold maxLen;omega
  case c4=>omega
  case c5=>simp;omega
  intro v4 w4 bP U _;obtain⟨bj,h4|⟨g4,aU,cG,dN,ag⟩⟩:=bP
  ·exact absurd h4.2 zo
  subst dN;have dt:Hid (w4.ownsRow w.heap.size 232 3 (xa (some ⟨g4,0,none⟩) (acc.length+1) aU) (acc++[y]).length (iK (acc++[y]))):=by
   rw[sH,List.length_append];exact⟨bj,MF ⟨g4,aU,cG,rfl,ag⟩⟩
  have au:=gG bu;have bd:some pb≠(xa o1 n1 k1).ownBlock:=by intro e;have:=au pb e.symm;omega
  have bc:some g≠(xa o1 n1 k1).ownBlock:=by intro e;have:=au g e.symm;omega
  have a':some w.heap.size≠(xa o1 n1 k1).ownBlock:=by intro e;exact gp bu e.symm cw zp
  have ba:some (w.heap.size+1)≠(xa o1 n1 k1).ownBlock:=by intro e;exact gp bu e.symm aR zp
  have cp:=fa (((dv.alloc _).alloc _).grown U bd bc);have di:=fa ((gI (gI dh _) _).andThen U (fun j J=>by left;exact(au j J).1));have dx:=fa ((U.block w.heap.size zs a').trans ((My _ _ _ zs).trans ((My _ _ _ zo).trans cw)));have aS:=fa ((U.block (w.heap.size+1) zs ba).trans ((My _ _ _ zs).trans ((My _ _ _ zo).trans aR)));have hz4:=fh aS;have hg4ne:g4≠w.heap.size+1:=by intro e;have h1:=ag.2.1;rw[e,aS.out] at h1;simp at h1
  have hg4ge:=ag.1;clear vc vf U ag au bd bc a' ba bj;have vc:=cell_of_blk aS;have vf:=fi aS;obtain⟨x,r2,hx2⟩:=jn cp.lt;have HX2:=fa hx2;clear hx2;obtain⟨b5,aY⟩: ∃b,b=(!b3&&x.k==20):=⟨_,rfl⟩;obtain⟨j5,bg⟩: ∃j,j=if (!b3&&x.k==20)=true then j3+1 else j3:=⟨_,rfl⟩;have bU:=fa aY;have b8:=fa bg;clear aY bg
  go_wp2_with (refine(BH 20 (cp.setOther _ _ _ zo zo) HX2 rfl zp zp b5 bU j5 b8).mono ?_)
  rintro e w5 ⟨rfl,cT,a8⟩;have dw:=fa cT;have dj:=fa ((gy di.out (b:=w.heap.size+1) zo _ _).trans a8);have dy:=fa ((a8.block w.heap.size (by simp[ME];omega) zs).trans ((MC _ _ _ _ zp).trans dx.out));have dB:=fa ((a8.block (w.heap.size+1) (by simp[ME];omega) zs).trans ((fj aS.out _ _).trans rfl));have du:=fa (gq (gq dt.out (fK _ (w.heap.size+1) 0 (xa (some ⟨g4,0,none⟩) (acc.length+1) aU)) (by simp[Value.ownBlock];omega)) a8 (by simp[Value.ownBlock];omega));clear vc vf cT a8;go_wp2_with fail
  go_roundg m
  case measure=>omega
  refine⟨b5,_,_,_,acc++[y],j5,b3,rfl,dj.out,dw.out,dy.out,dB.out,du.out, ?_⟩;have hX:=HX.out;rw[HY.out,iG] at hX;have hm:=HM.out;have aq:=bH.out;have bN:=bT.out;have bO:=b7.out;have aY:=bU.out;have bg:=b8.out;have hx2:=HX2.out;have hy:=HY.out;by_cases hyk:y.k=2
  ·have e3:b3=false:=za;have ej:j3=j+1:=za;subst e3 ej;have aH:=drop_tail hy;rw[aH] at hx2;rw[if_pos (show gu (y::r1)=2 from hyk)] at hX;by_cases hxk:x.k=20
   ·have e5:b5=true:=by rw[aY];simp[hxk]
    have aV:j5=j+1+1:=by rw[bg];simp[hxk]
    subst e5 aV;have bm:=drop_tail (aH.trans hx2);rw[if_pos (show gu (y::r1).tail=20 by rw[MH,hx2];trivial)] at hX;refine MD ⟨rfl,rfl, ?_, ?_, ?_⟩
    ·rw[bm];rw[hy,hx2] at hm;simp at hm;omega
    ·rw[bm];rw[hy,hx2] at aq;simp at aq|-;omega
    rw[hX,bm,hx2];simp only[MH];unfold pn;cases iG m r2 with
    |error q=>rfl
    |ok z=>obtain⟨ts,l⟩:=z;simp[kX]
   have e5:b5=false:=by rw[aY];simp[hxk]
   have aV:j5=j+1:=by rw[bg];simp[hxk]
   subst e5 aV;rw[if_neg (show ¬ gu (y::r1).tail=20 by rw[MH,hx2];trivial)] at hX;refine MF (MD ⟨rfl,rfl, ?_⟩);rw[hX,aH];rfl
  have e3:b3=true:=za;have ej:j3=j:=za;subst e3 ej;have aV:j5=j3:=zv;subst aV;rw[if_neg (show ¬ gu (y::r1)=2 from hyk)] at hX;refine MF (MF ⟨rfl, ?_⟩);rw[hX,hy];rfl
 rcases hdone with⟨rfl,rfl,hx⟩|⟨rfl,hx⟩
 ·obtain⟨x,r2,hx2⟩:=jn HP2.lt;have HX2:=fa hx2;have HX:=fa hx;clear hx2 hx;obtain⟨j6,cL⟩: ∃j6,j6=if (!false&&x.k==21)=true then j+1 else j:=⟨_,rfl⟩;obtain⟨b6,cJ⟩: ∃b,b= !(!false&&x.k==21):=⟨_,rfl⟩;have bt:=fa cL;have bq:=fa cJ;clear cL cJ
  go_wp2_with (refine(mB 21 HP2 HX2 rfl zp zp j6 b6 bt bq).mono ?_)
  rintro e w6 ⟨rfl,hp6,hg6⟩;have ad:LB w pb g cap L (L.drop j).length w6:=by
   refine⟨o1,n1,k1,acc,none,0,0,0,[],j6,b6,HG.trans hg6,hp6,(hg6.block w.heap.size zo zs).trans HR,(hg6.block (w.heap.size+1) hz zs).trans HV,MI _ _ _ _, ?_⟩;by_cases hk:x.k=21
   ·have e6:b6=false:=by rw[bq.out];simp[hk]
    have ej:j6=j+1:=by rw[bt.out];simp[hk]
    subst e6 ej;refine MD ⟨rfl,(KT.ps HP2 hg6).owns HO,[],rfl,rfl, ?_, ?_, ?_⟩
    ·simp;omega
    ·simp
    rw[mA,HX.out];simp only;rw[if_pos (by rw[HX2.out];exact hk),MG]
   have e6:b6=true:=by rw[bq.out];simp[hk]
   have ej:j6=j:=by rw[bt.out];simp[hk]
   subst e6 ej;refine MF ⟨rfl, ?_⟩;rw[mA,HX.out];simp only;rw[if_neg (by rw[HX2.out];exact hk)]
  have HS:=fa ad;clear ad hp6 hg6 bt bq HX2 HX HP2 HG HR HV HO c0 c1 c2 hz;go_wp2
  go_loopg [] (L.drop j).length (fun m wr=>LB w pb g cap L m wr)
  ·exact HS
  clear HS;obtain⟨o1,n1,k1,al,o2,n2,k2,nR,cells,j,bad,bf,aG,hrb,aI,bl,aF⟩:=hrel;have HGQ:=fa bf;have HPQ:=fa aG;have HRQ:=fa hrb;have HVQ:=fa aI;have cl:=fa bl;have hz:=fh aI;obtain⟨c0,c1,c2⟩:=aG.cells;clear bf aG hrb aI bl;rcases aF with⟨rfl,hoa,rs,rfl,hrs,hm,aq,hx⟩|⟨rfl,hx⟩
  ·obtain⟨m,rfl⟩: ∃m,gk=m+1:=⟨gk - 1,by have:=HPQ.lt;rw[ML] at hm;omega⟩;obtain⟨y,r1,hy⟩:=jn HPQ.lt;have dJ:rs.length<401:=by have:=congrArg MJ hy;simp at this aq;omega
   have HY:=fa hy;have HX:=fa hx;have HM:=fa hm;have bH:=fa aq;have HA:=fa hoa;have cx:=fa hrs;clear hx hm aq hoa hrs hy;by_cases h0:y.k=0
   ·have e0:(gM y.k !=101)=false:=by rw[bne,ql];simp[h0]
    have bJ:=fa h0;clear h0
    go_wp2_with (refine(jD HPQ HY).mono ?_;rintro e w7 ⟨rfl,R⟩;simp only[jY];have bw:=fa (HPQ.later R);have bI:=fa (HGQ.trans (gC R _));have ay:=fa ((R.block w.heap.size zo).trans HRQ);have aT:=fa ((R.block (w.heap.size+1) hz).trans HVQ);have aP:=fa (fL cl R);have df:=fa (fL HA R);have cy:=fa ((KT.below R).rules cx);have cY:=fh aT;clear R;have vc:=fun o=>cell_of_blk aT o;have rc:=fun o=>cell_of_blk ay o;have rf:=fun o=>fi ay o)
    refine bodyPost_ret (v:= .agg #[xa o1 n1 k1,xa o2 n2 k2]) ?_ rfl ?_
    ·simp[results,results200,go_sem,rc]
    have hps2:=(bw.setOther w.heap.size 0 (xa o1 n1 k1) zo zo).setOther w.heap.size 1 (xa o2 n2 k2) zo zo;have hgr2:=gy (gy bI (Mz _) 0 (xa o1 n1 k1)) (Mz _) 1 (xa o2 n2 k2);have cM:=(KT.set 0 (xa o1 n1 k1) (⟨_,_,ay⟩:TyAt w7 w.heap.size 228) zp zp).trans (KT.set 1 (xa o2 n2 k2) (TyAt.set ⟨_,_,ay⟩ _ _) zp zp);have hmr:gW (L.drop 0)= .ok (al,rs):=by
     rw[HX.out,HY.out,iI,if_pos (show gu (y::r1)=0 from bJ.out)];simp[nj]
    refine⟨hgr2,_,_,_,_,_,_,rfl, ?_⟩;rw[hmr];refine⟨ig (cM.owns df) (MK _),⟨cells, ?_,cM.rules cy⟩,j,hps2⟩;exact ig (gq (gq aP (fK _ _ _ _) (by right;intro e;exact gp aP e ay zp)) (fK _ _ _ _) (by right;intro e;exact gp aP e ay zp)) (MK _)
   have e0:(gM y.k !=101)=true:=by rw[bne,ql];simp[h0]
   have bJ:=fa h0;clear h0
   go_wp2_with (refine(jD HPQ HY).mono ?_)
   rintro e w7 ⟨rfl,R⟩;simp only[jY];have bw:=fa (HPQ.later R);have bI:=fa (HGQ.trans (gC R _));have ay:=fa ((R.block w.heap.size zo).trans HRQ);have aT:=fa ((R.block (w.heap.size+1) hz).trans HVQ);have aP:=fa (fL cl R);have cb:=fa (KT.below R);have cY:=fh aT;clear R c0 c1 c2
   go_wp2_with (refine(jD bw HY).mono ?_)
   rintro e w8 ⟨rfl,aE⟩;simp only[jY];have cq:=fa (bw.later aE);have dm:=fa (bI.trans (gC aE _));have dz:=fa ((aE.block w.heap.size zo).trans ay);have cD:=fa ((aE.block (w.heap.size+1) cY).trans aT);have cj:=fa (fL aP aE);have cc:=fa (cb.trans (KT.below aE));have dV:=fh cD;clear aE;obtain⟨j9,bh⟩: ∃j9,j9=if (!false&&y.k==5)=true then j+1 else j:=⟨_,rfl⟩;obtain⟨b9,a6⟩: ∃b,b= !(!false&&y.k==5):=⟨_,rfl⟩;have b':=fa bh;have bV:=fa a6;clear bh a6
   go_wp2_with (refine(mB 5 cq HY rfl zp zp j9 b9 b' bV).mono ?_)
   rintro e w9 ⟨rfl,cU,aL⟩;have cr:=fa cU;have dp:=fa (dm.trans aL);have dA:=fa ((aL.block w.heap.size zo zs).trans dz);have cE:=fa ((aL.block (w.heap.size+1) dV zs).trans cD);have ck:=fa (gq cj aL (MF (qi cj cQ)));have cd:=fa (cc.trans (KT.ps cq aL));have dW:=fh cE;clear cU aL
   go_wp2_with (refine(FG cr).mono ?_)
   rintro e dY ⟨ak,ra,rb,c8,c7,ro,rn,rk,rd,rp,aC,cF,rfl,bE,cV⟩;simp only[jR];have cA:=fa cV;have cn:=fa bE;have bX:=fa (dp.trans ak);have bD:=fa ((ak.block w.heap.size zo zs).trans dA);have az:=fa ((ak.block (w.heap.size+1) dW zs).trans cE);have ax:=fa (gq ck ak (MF (qi ck cQ)));have aO:=fa (cd.trans (KT.ps cr ak));have hz10:=fh az;clear bE ak cV;have vc:=cell_of_blk az;have vf:=fi az
   go_wp2_with (at_builtin;go_must (refine wpList_append_own _ rfl _ _ 226 rfl w.heap.size 235 m0 (.agg #[xd xh 0,xd .u8 0,xj ⟨#[]⟩,xd xh 0,xa none 0 0,xd xh 0,xk none]) 7 80 underlying226 dM cN cO cP rfl zd _ rs.length cells rfl ?c0 ⟨dY.heap.size+1,0,none⟩ 1 1 [xd xh y.p,xd .u8 rb,xj c8,xd xh c7,xa ro rn rk,xd xh rd,xk rp] rfl rfl ?c1 ?c2 ?c3 ?c4 ?c5 ?_))
   case c0=>exact(ax.alloc _).alloc _
   case c1=>
    intro j u J
    match j,J with
    |0,J=>simp at J;subst J;exact(cell_of_blk (fk _ _ _ zp) 0).trans rfl
    |1,J=>simp at J;subst J;exact(cell_of_blk (fk _ _ _ zp) 1).trans rfl
    |2,J=>simp at J;subst J;exact(cell_of_blk (fk _ _ _ zp) 2).trans rfl
    |3,J=>simp at J;subst J;exact(cell_of_blk (fk _ _ _ zp) 3).trans rfl
    |4,J=>simp at J;subst J;exact(cell_of_blk (fk _ _ _ zp) 4).trans rfl
    |5,J=>simp at J;subst J;exact(cell_of_blk (fk _ _ _ zp) 5).trans rfl
    |6,J=>simp at J;subst J;exact(cell_of_blk (fk _ _ _ zp) 6).trans rfl
    |j+7,J=>trivial
   case c2=>intro u hu;simp at hu;rcases hu with rfl|rfl|rfl|rfl|rfl|rfl|rfl<;>rfl
   case c3=>unfold maxLen;omega
   case c4=>omega
   case c5=>simp;omega
   intro v12 dZ bz I _;obtain⟨aJ,dH|⟨aW,ao,bK,cX,aa⟩⟩:=bz
   ·exact absurd dH.2 zo
   subst cX;have cg:Hid (dZ.ownsRow w.heap.size 235 7 (xa (some ⟨aW,0,none⟩) (rs.length+1) ao) (rs.length+1) (cells++[xd xh y.p,xd .u8 rb,xj c8,xd xh c7,xa ro rn rk,xd xh rd,xk rp])):=⟨aJ,MF ⟨aW,ao,bK,rfl,aa⟩⟩;have au:=gG ax;have bd:some pb≠(xa o2 n2 k2).ownBlock:=by intro e;have:=au pb e.symm;omega
   have bc:some g≠(xa o2 n2 k2).ownBlock:=by intro e;have:=au g e.symm;omega
   have a':some w.heap.size≠(xa o2 n2 k2).ownBlock:=by intro e;exact gp ax e.symm bD zp
   have ba:some (w.heap.size+1)≠(xa o2 n2 k2).ownBlock:=by intro e;exact gp ax e.symm az zp
   have aQ:=fa (((cn.alloc _).alloc _).grown I bd bc);have bY:=fa ((gI (gI bX _) _).andThen I (fun j J=>by left;exact(au j J).1));have cu:=fa ((I.block w.heap.size zs a').trans ((My _ _ _ zs).trans ((My _ _ _ zo).trans bD)));have aj:=fa ((I.block (w.heap.size+1) zs ba).trans ((My _ _ _ zs).trans ((My _ _ _ zo).trans az)));have ca:=fa (((KT.alloc _ _).trans (KT.alloc _ _)).trans (KT.own I ((ax.alloc _).alloc _)));have hz12:=fh aj;have hg12ne:aW≠w.heap.size+1:=by intro e;have h1:=aa.2.1;rw[e,aj.out] at h1;simp at h1
   have hg12ge:=aa.1;clear vc vf I aa au bd bc a' ba aJ;have vc:=cell_of_blk aj;have vf:=fi aj;obtain⟨x,r2,hx2⟩:=jn aQ.lt;have HX2:=fa hx2;clear hx2;obtain⟨av,aB⟩: ∃av,av=if (!cF&&x.k==21)=true then aC+1 else aC:=⟨_,rfl⟩;obtain⟨aK,aA⟩: ∃b,b= !(!cF&&x.k==21):=⟨_,rfl⟩;have bB:=fa aB;have bA:=fa aA;clear aB aA
   go_wp2_with (refine(mB 21 (aQ.setOther _ _ _ zo zo) HX2 rfl zp zp av aK bB bA).mono ?_)
   rintro e w13 ⟨rfl,bF,an⟩;have bC:=fa bF;have bZ:=fa ((gy bY (b:=w.heap.size+1) zo _ _).trans an);have cv:=fa ((an.block w.heap.size (by simp[ME];omega) zs).trans ((MC _ _ _ _ zp).trans cu));have cC:=fa ((an.block (w.heap.size+1) (by simp[ME];omega) zs).trans ((fj aj _ _).trans rfl));have ch:=fa (gq (gq cg (fK _ (w.heap.size+1) 1 (xa (some ⟨aW,0,none⟩) (rs.length+1) ao)) (by simp[Value.ownBlock];omega)) an (by simp[Value.ownBlock];omega));have aN:=fa ((ca.trans (KT.set 1 (xa (some ⟨aW,0,none⟩) (rs.length+1) ao) ⟨_,_,aj⟩ zp zp)).trans (KT.ps (aQ.setOther _ _ _ zo zo) an));clear vc vf bF an;go_wp2
   go_roundg m
   case measure=>omega
   refine⟨o1,n1,k1,al,_,_,_,_,_,av,aK,bZ,bC,cv,cC,ch, ?_⟩;have hX:=HX.out;have hy:=HY.out;rw[hy,iI,if_neg (show ¬ gu (y::r1)=0 from bJ.out)] at hX;have hm:=HM.out;have aq:=bH.out;have bh:=b'.out;have a6:=bV.out;have aB:=bB.out;have aA:=bA.out;have hx2:=HX2.out;have aH:=drop_tail hy;by_cases h5:y.k=5
   ·have e9:b9=false:=by rw[a6];simp[h5]
    have bM:j9=j+1:=by rw[bh];simp[h5]
    subst e9 bM;rw[if_pos (show gu (y::r1)=5 from h5),MH,<-aH] at hX;rcases cA.out with⟨rfl,_,rr,hrr,hri⟩|⟨rfl,_,hrr⟩
    ·rw[hrr] at hX;have ar:=qm _ _ _ hrr;simp only at hX;by_cases h21:x.k=21
     ·have aD:aK=false:=by rw[aA];simp[h21]
      have ai:av=aC+1:=by rw[aB];simp[h21]
      subst aD ai;rw[if_pos (show gu (L.drop aC)=21 by rw[hx2];trivial),MG] at hX;refine MD ⟨rfl,aN.owns (aO.owns HA),rs++[{rr with pl:=y.p}],zp,RulesAre.snoc (aN.rules (aO.rules cx)) (aN.rl (hri.pl y.p)), ?_, ?_, ?_⟩
      ·rw[aH] at ar;rw[hy] at hm;simp at hm ar|-;omega
      ·rw[aH] at ar;rw[hy] at aq;have:=bC.lt;simp at aq ar this|-;omega
      rw[hX];cases iI m (L.drop (aC+1)) with
      |error q=>rfl
      |ok z=>simp[nj,gQ]
     have aD:aK=true:=by rw[aA];simp[h21]
     have ai:av=aC:=by rw[aB];simp[h21]
     subst aD ai;rw[if_neg (show ¬ gu (L.drop av)=21 by rw[hx2];trivial)] at hX;exact MF ⟨rfl,hX⟩
    rw[hrr rfl] at hX;have aD:aK=true:=zv;have ai:av=aC:=zv;subst aD ai;exact MF ⟨rfl,hX⟩
   have e9:b9=true:=by rw[a6];simp[h5]
   have bM:j9=j:=by rw[bh];simp[h5]
   subst e9 bM;rw[if_neg (show ¬ gu (y::r1)=5 from h5)] at hX;rcases cA.out with⟨_,hf,_⟩|⟨rfl,hjj,_⟩
   ·cases hf
   have aD:aK=true:=zv;have ai:av=aC:=zv;have cH:=hjj rfl;subst aD ai;refine MF ⟨rfl, ?_⟩;rw[hX,cH,hy];rfl
  have HX:=fa hx;clear hx;have vc:=cell_of_blk HVQ;have rc:=cell_of_blk HRQ;have rf:=fi HRQ;go_wp2;refine bodyPost_ret (v:= .agg #[xa o1 n1 k1,xa o2 n2 k2]) ?_ rfl ?_
  ·simp[results,results200,go_sem,rc]
  have hps2:=(HPQ.setOther w.heap.size 0 (xa o1 n1 k1) zo zo).setOther w.heap.size 1 (xa o2 n2 k2) zo zo;have hgr2:=gy (gy HGQ (Mz _) 0 (xa o1 n1 k1)) (Mz _) 1 (xa o2 n2 k2);refine⟨hgr2,_,_,_,_,_,_,rfl, ?_⟩;rw[HX.out];exact⟨j,rfl,hps2⟩
 cases mb
 ·exact zm19
 exact zm19
end Go.Proofs.YtidakhhekofkoaaGreatDoor
