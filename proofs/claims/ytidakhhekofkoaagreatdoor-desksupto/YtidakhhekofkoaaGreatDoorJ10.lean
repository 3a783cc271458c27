/- The reference's rule. -/
import Derived.Test.YtidakhhekofkoaaGreatDoorJ08
import Derived.Test.YtidakhhekofkoaaGreatDoorJ04
import Derived.Deep.RegionWith
import Derived.OrdersHeld
set_option linter.unusedSimpArgs false
open List renaming setIfInBounds_toArray → zA, set_cons_zero → zB, set_cons_succ → zC, getElem_toArray → zD, getElem_cons_succ → zE, getElem_cons_zero → zF
namespace Go.Proofs.YtidakhhekofkoaaGreatDoor
open Go.RowKit Go.Deep
def rlV (a b:Int) (s:ByteArray) (c:Int) (o:Option Addr) (n k:Nat) (d:Int) (p:Option Addr):Value:=
 .agg #[.int .i64 a,.int .u8 b,.string s,.int .i64 c,.slice o n k,.int .i64 d,.pointer p]
def RlIs (w:World) (r:Rl) (a b:Int) (s:ByteArray) (c:Int) (o:Option Addr) (n k:Nat) (d:Int) (p:Option Addr):Prop:=
 a=r.pl∧(if r.call=true then b=refK r.word.k∧s=r.word.s∧c=r.word.p∧w.ownsRow 0 232 3 (.slice o n k) r.args.length (tkCellsR r.args)∧d=r.fin∧p=none
  else IsF w r.f p∧p.isSome=true)
def RLeft (L:List Tk) (pb g cap:Nat) (w w':World) (e:Ending) (x:Except Nat (Rl × List Tk)):Prop:=
 w.grownBy w' (some pb)∧ ∃a b s c o n k d p,e= .returned (rlV a b s c o n k d p)∧(match x with
  | .ok (r,l)=>RlIs w' r a b s c o n k d p∧ ∃j,L.drop j=l∧PS w' pb g cap L j false
  | .error q=> ∃j,headP (L.drop j)=q∧PS w' pb g cap L j true)
theorem pf_node: ∀n lev f l f' l',(5≤lev→f≠ .nil)→pf n lev f l= .ok (f',l')→f'≠ .nil
 |0,_,_,_,_,_,_,h=>by simp [pf] at h
 |n+1,0,f,l,f',l',_,h=>by
  rw [pf] at h
  split at h
  ·cases h
  ·rename_i a l1 e
   have h1:=pf_node n 1 .nil l a l1 (by omega) e
   split at h
   ·split at h
    ·cases h
    ·cases h;intro hh;cases hh
   ·cases h;exact h1
 |n+1,1,f,l,f',l',_,h=>by
  rw [pf] at h
  split at h
  ·cases h
  ·rename_i a l1 e
   exact pf_node n 5 a l1 f' l' (fun _=>pf_node n 2 .nil l a l1 (by omega) e) h
 |n+1,2,f,l,f',l',_,h=>by
  rw [pf] at h
  split at h
  ·cases h
  ·rename_i a l1 e
   exact pf_node n 6 a l1 f' l' (fun _=>pf_node n 3 .nil l a l1 (by omega) e) h
 |n+1,3,f,l,f',l',_,h=>by
  rw [pf] at h
  split at h
  ·cases h
  ·rename_i a l1 e
   have h1:=pf_node n 4 .nil l a l1 (by omega) e
   split at h
   ·split at h
    ·cases h
    ·cases h;intro hh;cases hh
   ·cases h;exact h1
 |n+1,4,f,l,f',l',_,h=>by
  rw [pf] at h
  split at h
  ·split at h
   ·cases h
   ·cases h;intro hh;cases hh
  ·split at h
   ·split at h
    ·cases h
    ·rename_i a l1 e
     have h1:=pf_node n 0 .nil l.tail a l1 (by omega) e
     split at h
     ·cases h;exact h1
     ·cases h
   ·split at h
    ·cases h;intro hh;cases hh
    ·split at h
     ·cases h;intro hh;cases hh
     ·cases h
 |n+1,5,f,l,f',l',hf,h=>by
  rw [pf] at h
  split at h
  ·split at h
   ·cases h
   ·exact pf_node n 5 _ _ f' l' (fun _=>by intro hh;cases hh) h
  ·cases h;exact hf (by omega)
 |n+1,6,f,l,f',l',hf,h=>by
  rw [pf] at h
  split at h
  ·split at h
   ·cases h
   ·exact pf_node n 6 _ _ f' l' (fun _=>by intro hh;cases hh) h
  ·cases h;exact hf (by omega)
 |n+1,k+7,f,l,f',l',hf,h=>by
  rw [pf] at h;cases h;exact hf (by omega)
theorem IsF.some {w:World} {f:Fm} {p:Option Addr} (h:IsF w f p) (hn:f≠ .nil):p.isSome=true:=by
 cases f with
 |nil=>exact absurd rfl hn
 |node=>obtain ⟨b,pl,pr,rfl,_⟩:=h;rfl
def TyAt (w:World) (b ty:Nat):Prop:= ∃c m,w.heap[b]? =some (.cells c ty m)
theorem TyAt.set {w:World} {b ty:Nat} (h:TyAt w b ty) (a:Addr) (v:Value):TyAt (w.setCell a v) b ty:=by
 obtain ⟨c,m,h⟩:=h
 unfold TyAt
 simp only [World.setCell,Array.getElem?_modify]
 split
 ·rw [h];exact ⟨_,_,rfl⟩
 ·exact ⟨c,m,h⟩
theorem IsF.set {w:World} {b ty o:Nat} {v:Value} (ht:TyAt w b ty) (hne:ty≠292) {f:Fm} {p:Option Addr} (hf:IsF w f p):IsF (w.setCell ⟨b,o,none⟩ v) f p:=
 hf.keep (grown_set w b o v) (fun k c m e=>by cases e;obtain ⟨c',m',h⟩:=ht;rw [h];intro e;injection e with e;injection e with _ e _;exact hne e)
theorem field0 (x p:Int) (s:ByteArray) (w:World):(Instr.field 232 (.agg #[.int .u8 x,.string s,.int .i64 p]) 0).run Tryz.prog w= .ok (.int .u8 x) w:=by kernel_rfl
theorem field2 (x p:Int) (s:ByteArray) (w:World):(Instr.field 232 (.agg #[.int .u8 x,.string s,.int .i64 p]) 2).run Tryz.prog w= .ok (.int .i64 p) w:=by kernel_rfl
set_option maxHeartbeats 1000000 in
set_option maxRecDepth 100000 in
theorem rule_formula (w:World) (pb g cap:Nat) (L:List Tk) (i:Nat) (h:PS w pb g cap L i false) (hno:headK (L.drop i)≠2):
  Calls Tryz.prog 248 #[.pointer (some ⟨pb,0,none⟩)] w fun e w'=>RLeft L pb g cap w w' e (ruleRead (L.drop i)):=by
 obtain ⟨t,r,ht,hk⟩:=head_no h.ends hno
 have hr:(refK t.k !=110)=true:=by rw [refK_n];simp [hk]
 have HT:=hide ht
 have HP:=hide h
 obtain ⟨c0,c1,c2⟩:=h.cells
 have hp0:=lt_of_blk h.blk
 have HNO:Hid (headK (L.drop i)=t.k):=by show _=_;rw [ht];rfl
 have HK:=hide hk
 clear h ht hno hk
 have fl0:=field0
 go_enter Tryz.func248,Tryz.ntmps248
 go_wp2_with fail
 refine wp_region_any (by kernel_rfl) ?_
 change wpAny _ _ _ _ _ _ _ (World.drew _)
 refine wpAny_take (i:=0) (v:= .pointer (some ⟨pb,0,none⟩)) rfl (by kernel_rfl) (by kernel_rfl) (by kernel_rfl) (fun _ _ _ h=>h) (Or.inl ⟨by kernel_rfl,fun w=>by go_simp⟩) ?_
 try simp only [Act.put,List.setIfInBounds_toArray,List.set_cons_zero,List.set_cons_succ,List.getElem_toArray,List.getElem_cons_succ,List.getElem_cons_zero]
 refine wpAny_ready (rs:=[1]) (by kernel_rfl) (by simp) ?_
 refine AllReady.cons rfl (fun K hK=> ?_) AllReady.nil
 go_simp
 go_wp2_with (go_at_call 201;refine (now_any _ _ _ _ _ _ _ _ _ ((unhide HP).later (by exact (((Below.refl _ _).alloc (Nat.le_refl _) _).alloc (by simp) _).drew)) (unhide HT)).mono ?_;rintro e w1 ⟨rfl,hb⟩;simp only [tkR])
 refine wpAny_take (i:=2) (v:= .int .u8 (refK t.k)) rfl (by kernel_rfl) (by kernel_rfl) (by kernel_rfl) (fun _ _ _ h=>h) (Or.inl ⟨by kernel_rfl,fun w=>by go_simp⟩) ?_
 try simp only [Act.put,List.setIfInBounds_toArray,List.set_cons_zero,List.set_cons_succ,List.getElem_toArray,List.getElem_cons_succ,List.getElem_cons_zero]
 refine wpAny_take (i:=3) (v:= .bool true) rfl (by kernel_rfl) (by kernel_rfl) (by kernel_rfl) (fun _ _ _ h=>h) (Or.inl ⟨by kernel_rfl,fun w=>by go_simp⟩) ?_
 try simp only [Act.put,List.setIfInBounds_toArray,List.set_cons_zero,List.set_cons_succ,List.getElem_toArray,List.getElem_cons_succ,List.getElem_cons_zero]
 refine wpAny_take (i:=4) (v:= .bool true) rfl (by kernel_rfl) (by kernel_rfl) (by kernel_rfl) (fun _ _ _ h=>h) (Or.inl ⟨by kernel_rfl,fun w=>by go_simp⟩) ?_
 try simp only [Act.put,List.setIfInBounds_toArray,List.set_cons_zero,List.set_cons_succ,List.getElem_toArray,List.getElem_cons_succ,List.getElem_cons_zero]
 refine wpAny_take (i:=5) (v:=undef) rfl (by kernel_rfl) (by kernel_rfl) (by kernel_rfl) (fun _ _ _ h=>h) (Or.inr ⟨by kernel_rfl,rfl⟩) ?_
 try simp only [Act.put,List.setIfInBounds_toArray,List.set_cons_zero,List.set_cons_succ,List.getElem_toArray,List.getElem_cons_succ,List.getElem_cons_zero]
 refine wpAny_take (i:=6) (v:=undef) rfl (by kernel_rfl) (by kernel_rfl) (by kernel_rfl) (fun _ _ _ h=>h) (Or.inr ⟨by kernel_rfl,rfl⟩) ?_
 try simp only [Act.put,List.setIfInBounds_toArray,List.set_cons_zero,List.set_cons_succ,List.getElem_toArray,List.getElem_cons_succ,List.getElem_cons_zero]
 refine wpAny_take (i:=7) (v:=undef) rfl (by kernel_rfl) (by kernel_rfl) (by kernel_rfl) (fun _ _ _ h=>h) (Or.inr ⟨by kernel_rfl,rfl⟩) ?_
 try simp only [Act.put,List.setIfInBounds_toArray,List.set_cons_zero,List.set_cons_succ,List.getElem_toArray,List.getElem_cons_succ,List.getElem_cons_zero]
 refine wpAny_take (i:=8) (v:=undef) rfl (by kernel_rfl) (by kernel_rfl) (by kernel_rfl) (fun _ _ _ h=>h) (Or.inr ⟨by kernel_rfl,rfl⟩) ?_
 try simp only [Act.put,List.setIfInBounds_toArray,List.set_cons_zero,List.set_cons_succ,List.getElem_toArray,List.getElem_cons_succ,List.getElem_cons_zero]
 refine wpAny_take (i:=9) (v:=undef) rfl (by kernel_rfl) (by kernel_rfl) (by kernel_rfl) (fun _ _ _ h=>h) (Or.inr ⟨by kernel_rfl,rfl⟩) ?_
 try simp only [Act.put,List.setIfInBounds_toArray,List.set_cons_zero,List.set_cons_succ,List.getElem_toArray,List.getElem_cons_succ,List.getElem_cons_zero]
 refine wpAny_take (i:=10) (v:=undef) rfl (by kernel_rfl) (by kernel_rfl) (by kernel_rfl) (fun _ _ _ h=>h) (Or.inr ⟨by kernel_rfl,rfl⟩) ?_
 try simp only [Act.put,List.setIfInBounds_toArray,List.set_cons_zero,List.set_cons_succ,List.getElem_toArray,List.getElem_cons_succ,List.getElem_cons_zero]
 refine wpAny_take (i:=11) (v:=undef) rfl (by kernel_rfl) (by kernel_rfl) (by kernel_rfl) (fun _ _ _ h=>h) (Or.inr ⟨by kernel_rfl,rfl⟩) ?_
 try simp only [Act.put,List.setIfInBounds_toArray,List.set_cons_zero,List.set_cons_succ,List.getElem_toArray,List.getElem_cons_succ,List.getElem_cons_zero]
 refine wpAny_take (i:=12) (v:=undef) rfl (by kernel_rfl) (by kernel_rfl) (by kernel_rfl) (fun _ _ _ h=>h) (Or.inr ⟨by kernel_rfl,rfl⟩) ?_
 try simp only [Act.put,List.setIfInBounds_toArray,List.set_cons_zero,List.set_cons_succ,List.getElem_toArray,List.getElem_cons_succ,List.getElem_cons_zero]
 refine wpAny_take (i:=13) (v:=undef) rfl (by kernel_rfl) (by kernel_rfl) (by kernel_rfl) (fun _ _ _ h=>h) (Or.inr ⟨by kernel_rfl,rfl⟩) ?_
 try simp only [Act.put,List.setIfInBounds_toArray,List.set_cons_zero,List.set_cons_succ,List.getElem_toArray,List.getElem_cons_succ,List.getElem_cons_zero]
 refine wpAny_take (i:=14) (v:=undef) rfl (by kernel_rfl) (by kernel_rfl) (by kernel_rfl) (fun _ _ _ h=>h) (Or.inr ⟨by kernel_rfl,rfl⟩) ?_
 try simp only [Act.put,List.setIfInBounds_toArray,List.set_cons_zero,List.set_cons_succ,List.getElem_toArray,List.getElem_cons_succ,List.getElem_cons_zero]
 refine wpAny_take (i:=15) (v:=undef) rfl (by kernel_rfl) (by kernel_rfl) (by kernel_rfl) (fun _ _ _ h=>h) (Or.inr ⟨by kernel_rfl,rfl⟩) ?_
 try simp only [Act.put,List.setIfInBounds_toArray,List.set_cons_zero,List.set_cons_succ,List.getElem_toArray,List.getElem_cons_succ,List.getElem_cons_zero]
 refine wpAny_take (i:=16) (v:=undef) rfl (by kernel_rfl) (by kernel_rfl) (by kernel_rfl) (fun _ _ _ h=>h) (Or.inr ⟨by kernel_rfl,rfl⟩) ?_
 try simp only [Act.put,List.setIfInBounds_toArray,List.set_cons_zero,List.set_cons_succ,List.getElem_toArray,List.getElem_cons_succ,List.getElem_cons_zero]
 refine wpAny_take (i:=17) (v:=undef) rfl (by kernel_rfl) (by kernel_rfl) (by kernel_rfl) (fun _ _ _ h=>h) (Or.inr ⟨by kernel_rfl,rfl⟩) ?_
 try simp only [Act.put,List.setIfInBounds_toArray,List.set_cons_zero,List.set_cons_succ,List.getElem_toArray,List.getElem_cons_succ,List.getElem_cons_zero]
 refine wpAny_take (i:=18) (v:= .bool true) rfl (by kernel_rfl) (by kernel_rfl) (by kernel_rfl) (fun _ _ _ h=>h) (Or.inl ⟨by kernel_rfl,fun w=>by go_simp⟩) ?_
 try simp only [Act.put,List.setIfInBounds_toArray,List.set_cons_zero,List.set_cons_succ,List.getElem_toArray,List.getElem_cons_succ,List.getElem_cons_zero]
 refine wpAny_done (by kernel_rfl) ?_ _
 have HB:=hide (show Below w.heap.size w w1 from ((((Below.refl w.heap.size w).alloc (Nat.le_refl _) _).alloc (by simp) _).drew).trans (hb.mono (by simp;omega)))
 have hz1:w.heap.size+1<w1.heap.size:=by have:=hb.size;simp at this;omega
 have hrb1:w1.heap[w.heap.size]? =some (.cells #[.int .i64 0,.int .u8 0,.string ⟨#[]⟩,.int .i64 0,.slice none 0 0,.int .i64 0,.pointer none] 235 (0,0)):=
  (hb.block _ (by simp;omega)).trans ((Below.heap_alloc _ _ _ (by simp)).trans (blk_alloc _ _))
 have hrv1:w1.heap[w.heap.size+1]? =some (.cells #[.int .i64 0,.int .u8 0,.string ⟨#[]⟩,.int .i64 0,.slice none 0 0,.int .i64 0,.pointer none] 235 (0,0)):=
  (hb.block _ (by simp)).trans (blk_alloc' _ _ _ (by simp))
 have HR1:=hide hrb1
 have HV1:=hide hrv1
 have HP1:=hide ((unhide HP).later (unhide HB))
 clear hb hrb1 hrv1 c0 c1 c2
 go_wp2_with (go_at_call 282;refine (formula_any (6 * (L.drop i).length+5) _ _ _ _ _ _ (unhide HP1) (Nat.le_refl _)).mono ?_)
 rintro e w2 ⟨hg2,p2,rfl,hx2⟩
 have HG2:=hide hg2
 have hrb2:=(hg2.block w.heap.size (by omega) (by simp;omega)).trans (unhide HR1)
 have hrv2:=(hg2.block (w.heap.size+1) hz1 (by simp;omega)).trans (unhide HV1)
 have hz2:w.heap.size+1<w2.heap.size:=lt_of_blk hrv2
 have rc:=fun o=>cell_of_blk hrb2 o
 have rf:=fun o=>frozen_of_blk hrb2 o
 have vc:=fun o=>cell_of_blk hrv2 o
 have vf:=fun o=>frozen_of_blk hrv2 o
 have HX2:=hide hx2
 have HRB2:=hide hrb2
 have HRV2:=hide hrv2
 clear hg2 hx2 hrb2 hrv2
 go_wp2_with fail
 refine bodyPost_ret (v:=rlV 0 0 ⟨#[]⟩ 0 none 0 0 0 p2) ?_ rfl ?_
 ·simp [results,Tryz.results248,go_sem,rlV,rc]
 have hgl:=(unhide HP).gLt
 have hgr:=grown_setNew (grown_setNew (grown_setNew (grown_setNew (grown_setNew (grown_setNew (grown_setNew (grown_setNew ((grown_below (unhide HB) (some pb)).trans (unhide HG2)) (b:=w.heap.size+1) (by omega) 6 (.pointer p2)) (Nat.le_refl _) 0 (.int .i64 0)) (Nat.le_refl _) 1 (.int .u8 0)) (Nat.le_refl _) 2 (.string ⟨#[]⟩)) (Nat.le_refl _) 3 (.int .i64 0)) (Nat.le_refl _) 4 (.slice none 0 0)) (Nat.le_refl _) 5 (.int .i64 0)) (Nat.le_refl _) 6 (.pointer p2)
 have hkeep: ∀j bad,PS w2 pb g cap L j bad→PS ((((((((w2.setCell ⟨w.heap.size+1,6,none⟩ (.pointer p2)).setCell ⟨w.heap.size,0,none⟩ (.int .i64 0)).setCell ⟨w.heap.size,1,none⟩ (.int .u8 0)).setCell ⟨w.heap.size,2,none⟩ (.string ⟨#[]⟩)).setCell ⟨w.heap.size,3,none⟩ (.int .i64 0)).setCell ⟨w.heap.size,4,none⟩ (.slice none 0 0)).setCell ⟨w.heap.size,5,none⟩ (.int .i64 0)).setCell ⟨w.heap.size,6,none⟩ (.pointer p2)) pb g cap L j bad:=fun j bad hp=>
  (((((((hp.setOther _ _ _ (by omega) (by omega)).setOther _ _ _ (by omega) (by omega)).setOther _ _ _ (by omega) (by omega)).setOther _ _ _ (by omega) (by omega)).setOther _ _ _ (by omega) (by omega)).setOther _ _ _ (by omega) (by omega)).setOther _ _ _ (by omega) (by omega)).setOther _ _ _ (by omega) (by omega)
 have t0:TyAt w2 w.heap.size 235:=⟨_,_,unhide HRB2⟩
 have t1:TyAt w2 (w.heap.size+1) 235:=⟨_,_,unhide HRV2⟩
 have hrr:ruleRead (L.drop i)=(match pf (6 * (L.drop i).length+5) 0 .nil (L.drop i) with| .error q=> .error q| .ok (f,l1)=> .ok (⟨0,false,tk0,[],0,f⟩,l1)):=by
  rw [ruleRead,if_neg (by rw [unhide HNO];exact fun h=>(unhide HK) h.1)];rfl
 rw [hrr]
 refine ⟨hgr,0,0,⟨#[]⟩,0,none,0,0,0,p2,rfl, ?_⟩
 have hx:=unhide HX2
 cases hpf:pf (6 * (L.drop i).length+5) 0 .nil (L.drop i) with
 |error q=>
  rw [hpf] at hx
  obtain ⟨j,hq,hp⟩:=hx
  exact ⟨j,hq,hkeep j _ hp⟩
 |ok x=>
  obtain ⟨f,l1⟩:=x
  rw [hpf] at hx
  obtain ⟨hf,j,hl,hp⟩:=hx
  refine ⟨⟨rfl, ?_⟩,j,hl,hkeep j _ hp⟩
  rw [if_neg (by simp)]
  exact ⟨(((((((hf.set t1 (by decide)).set (t0.set _ _) (by decide)).set ((t0.set _ _).set _ _) (by decide)).set (((t0.set _ _).set _ _).set _ _) (by decide)).set ((((t0.set _ _).set _ _).set _ _).set _ _) (by decide)).set (((((t0.set _ _).set _ _).set _ _).set _ _).set _ _) (by decide)).set ((((((t0.set _ _).set _ _).set _ _).set _ _).set _ _).set _ _) (by decide)).set (((((((t0.set _ _).set _ _).set _ _).set _ _).set _ _).set _ _).set _ _) (by decide),hf.some (pf_node _ 0 _ _ _ _ (by omega) hpf)⟩
set_option maxHeartbeats 2000000 in
set_option maxRecDepth 100000 in
theorem rule_formula2 (w:World) (pb g cap:Nat) (L:List Tk) (i:Nat) (h:PS w pb g cap L i false) (h2:headK (L.drop i)=2) (h18:headK (L.drop i).tail≠18):
  Calls Tryz.prog 248 #[.pointer (some ⟨pb,0,none⟩)] w fun e w'=>RLeft L pb g cap w w' e (ruleRead (L.drop i)):=by
 obtain ⟨t,u,r,ht,hk⟩:=head_yes h.ends (by decide) h2
 have hr:(refK t.k !=110)=false:=by rw [refK_n];simp [hk]
 have hu:u.k≠18:=by intro e;rw [ht] at h18;exact h18 e
 have hok:=h.ok u (drop_mem (drop_tail ht))
 have h40:(u.s.toList !=[40])=true:=by
  rw [ByteArray.toList_eq,bne_iff_ne]
  by_cases h4:4≤u.k
  ·intro e;rw [hok.2.1 h4] at e
   exact hu (kText_eq hok.1 (by decide) h4 (by decide) e)
  ·exact hok.2.2.2 (by omega)
 have HT:=hide ht
 have HP:=hide h
 have HK:=hide (show ¬ (headK (L.drop i)=2∧headK (L.drop i).tail=18) from fun e=>h18 e.2)
 have hlen:=h.len
 have hlt:=h.lt
 have hlt1:i+1<L.length:=by have:=congrArg List.length ht;simp at this;omega
 have hp0:=lt_of_blk h.blk
 have hgl0:=h.gLt
 have hI:(i:Int)+1<(L.length:Int):=by omega
 have hI0:(0:Int)≤(i:Int)+1:=by omega
 have hwr:IntKind.i64.wrap ((i:Int)+1)=(i:Int)+1:=by rw [IntKind.wrap_i64];omega
 have h40':¬ u.s.toList=[40]:=by simpa using h40
 clear h ht h2 h18 hk hu hok
 have fl0:=field0
 go_enter Tryz.func248,Tryz.ntmps248
 obtain ⟨c0,c1,c2⟩:=(unhide HP).cells
 go_wp2_with fail
 clear c0 c1 c2
 refine wp_region_any (by kernel_rfl) ?_
 change wpAny _ _ _ _ _ _ _ (World.drew _)
 refine wpAny_take (i:=0) (v:= .pointer (some ⟨pb,0,none⟩)) rfl (by kernel_rfl) (by kernel_rfl) (by kernel_rfl) (fun _ _ _ h=>h) (Or.inl ⟨by kernel_rfl,fun w=>by go_simp⟩) ?_
 try simp only [Act.put,List.setIfInBounds_toArray,List.set_cons_zero,List.set_cons_succ,List.getElem_toArray,List.getElem_cons_succ,List.getElem_cons_zero]
 refine wpAny_ready (rs:=[1]) (by kernel_rfl) (by simp) ?_
 refine AllReady.cons rfl (fun K hK=> ?_) AllReady.nil
 go_simp
 go_wp2_with (go_at_call 201;refine (now_any _ _ _ _ _ _ _ _ _ ((unhide HP).later (by exact (((Below.refl _ _).alloc (Nat.le_refl _) _).alloc (by simp) _).drew)) (unhide HT)).mono ?_;rintro e w1 ⟨rfl,hb⟩;simp only [tkR])
 have HB:=hide (show Below w.heap.size w w1 from ((((Below.refl w.heap.size w).alloc (Nat.le_refl _) _).alloc (by simp) _).drew).trans (hb.mono (by simp;omega)))
 have HP1:=hide ((unhide HP).later (unhide HB))
 obtain ⟨c0,c1,c2⟩:=(unhide HP1).cells
 obtain ⟨k0,k1,k2⟩:=(unhide HP1).tok (i+1) _ _ (drop_tail (unhide HT))
 refine wpAny_of_held (S:=fun w'=>w'=w1) _ _ _ _ ?_
 refine wpAnyH_take (i:=2) (v:= .int .u8 (refK t.k)) rfl (by kernel_rfl) (by kernel_rfl) (by kernel_rfl) (fun _ _ _ h=>h) (Or.inl ⟨by kernel_rfl,fun w hw=>by subst hw;go_simp⟩) rfl ?_
 try simp only [Act.put,List.setIfInBounds_toArray,List.set_cons_zero,List.set_cons_succ,List.getElem_toArray,List.getElem_cons_succ,List.getElem_cons_zero]
 refine wpAnyH_take (i:=3) (v:= .bool false) rfl (by kernel_rfl) (by kernel_rfl) (by kernel_rfl) (fun _ _ _ h=>h) (Or.inl ⟨by kernel_rfl,fun w hw=>by subst hw;go_simp⟩) rfl ?_
 try simp only [Act.put,List.setIfInBounds_toArray,List.set_cons_zero,List.set_cons_succ,List.getElem_toArray,List.getElem_cons_succ,List.getElem_cons_zero]
 refine wpAnyH_take (i:=4) (v:= .bool false) rfl (by kernel_rfl) (by kernel_rfl) (by kernel_rfl) (fun _ _ _ h=>h) (Or.inl ⟨by kernel_rfl,fun w hw=>by subst hw;go_simp⟩) rfl ?_
 try simp only [Act.put,List.setIfInBounds_toArray,List.set_cons_zero,List.set_cons_succ,List.getElem_toArray,List.getElem_cons_succ,List.getElem_cons_zero]
 refine wpAnyH_take (i:=5) (v:= .pointer (some ⟨pb,0,none⟩)) rfl (by kernel_rfl) (by kernel_rfl) (by kernel_rfl) (fun _ _ _ h=>h) (Or.inl ⟨by kernel_rfl,fun w hw=>by subst hw;go_simp⟩) rfl ?_
 try simp only [Act.put,List.setIfInBounds_toArray,List.set_cons_zero,List.set_cons_succ,List.getElem_toArray,List.getElem_cons_succ,List.getElem_cons_zero]
 refine wpAnyH_take (i:=6) (v:= .pointer (some ⟨pb,0,none⟩)) rfl (by kernel_rfl) (by kernel_rfl) (by kernel_rfl) (fun _ _ _ h=>h) (Or.inl ⟨by kernel_rfl,fun w hw=>by subst hw;go_simp⟩) rfl ?_
 try simp only [Act.put,List.setIfInBounds_toArray,List.set_cons_zero,List.set_cons_succ,List.getElem_toArray,List.getElem_cons_succ,List.getElem_cons_zero]
 refine wpAnyH_take (i:=7) (v:= .pointer (some ⟨pb,0,none⟩)) rfl (by kernel_rfl) (by kernel_rfl) (by kernel_rfl) (fun _ _ _ h=>h) (Or.inl ⟨by kernel_rfl,fun w hw=>by subst hw;go_simp⟩) rfl ?_
 try simp only [Act.put,List.setIfInBounds_toArray,List.set_cons_zero,List.set_cons_succ,List.getElem_toArray,List.getElem_cons_succ,List.getElem_cons_zero]
 refine wpAnyH_take (i:=8) (v:= .slice (some ⟨g,0,none⟩) L.length cap) rfl (by kernel_rfl) (by kernel_rfl) (by kernel_rfl) (fun _ _ _ h=>h) (Or.inl ⟨by kernel_rfl,fun w hw=>by subst hw;go_simp⟩) rfl ?_
 try simp only [Act.put,List.setIfInBounds_toArray,List.set_cons_zero,List.set_cons_succ,List.getElem_toArray,List.getElem_cons_succ,List.getElem_cons_zero]
 refine wpAnyH_take (i:=9) (v:= .pointer (some ⟨pb,0,none⟩)) rfl (by kernel_rfl) (by kernel_rfl) (by kernel_rfl) (fun _ _ _ h=>h) (Or.inl ⟨by kernel_rfl,fun w hw=>by subst hw;go_simp⟩) rfl ?_
 try simp only [Act.put,List.setIfInBounds_toArray,List.set_cons_zero,List.set_cons_succ,List.getElem_toArray,List.getElem_cons_succ,List.getElem_cons_zero]
 refine wpAnyH_take (i:=10) (v:= .pointer (some ⟨pb,0,none⟩)) rfl (by kernel_rfl) (by kernel_rfl) (by kernel_rfl) (fun _ _ _ h=>h) (Or.inl ⟨by kernel_rfl,fun w hw=>by subst hw;go_simp⟩) rfl ?_
 try simp only [Act.put,List.setIfInBounds_toArray,List.set_cons_zero,List.set_cons_succ,List.getElem_toArray,List.getElem_cons_succ,List.getElem_cons_zero]
 refine wpAnyH_take (i:=11) (v:= .pointer (some ⟨pb,1,none⟩)) rfl (by kernel_rfl) (by kernel_rfl) (by kernel_rfl) (fun _ _ _ h=>h) (Or.inl ⟨by kernel_rfl,fun w hw=>by subst hw;go_simp⟩) rfl ?_
 try simp only [Act.put,List.setIfInBounds_toArray,List.set_cons_zero,List.set_cons_succ,List.getElem_toArray,List.getElem_cons_succ,List.getElem_cons_zero]
 refine wpAnyH_take (i:=12) (v:= .int .i64 (i:Int)) rfl (by kernel_rfl) (by kernel_rfl) (by kernel_rfl) (fun _ _ _ h=>h) (Or.inl ⟨by kernel_rfl,fun w hw=>by subst hw;go_simp⟩) rfl ?_
 try simp only [Act.put,List.setIfInBounds_toArray,List.set_cons_zero,List.set_cons_succ,List.getElem_toArray,List.getElem_cons_succ,List.getElem_cons_zero]
 refine wpAnyH_take (i:=13) (v:= .int .i64 ((i:Int)+1)) rfl (by kernel_rfl) (by kernel_rfl) (by kernel_rfl) (fun _ _ _ h=>h) (Or.inl ⟨by kernel_rfl,fun w hw=>by subst hw;go_simp⟩) rfl ?_
 try simp only [Act.put,List.setIfInBounds_toArray,List.set_cons_zero,List.set_cons_succ,List.getElem_toArray,List.getElem_cons_succ,List.getElem_cons_zero]
 refine wpAnyH_take (i:=14) (v:= .pointer (some ⟨g,(i+1) * 3,none⟩)) rfl (by kernel_rfl) (by kernel_rfl) (by kernel_rfl) (fun _ _ _ h=>h) (Or.inl ⟨by kernel_rfl,fun w hw=>by subst hw;go_simp⟩) rfl ?_
 try simp only [Act.put,List.setIfInBounds_toArray,List.set_cons_zero,List.set_cons_succ,List.getElem_toArray,List.getElem_cons_succ,List.getElem_cons_zero]
 refine wpAnyH_take (i:=15) (v:= .pointer (some ⟨g,(i+1) * 3+1,none⟩)) rfl (by kernel_rfl) (by kernel_rfl) (by kernel_rfl) (fun _ _ _ h=>h) (Or.inl ⟨by kernel_rfl,fun w hw=>by subst hw;go_simp⟩) rfl ?_
 try simp only [Act.put,List.setIfInBounds_toArray,List.set_cons_zero,List.set_cons_succ,List.getElem_toArray,List.getElem_cons_succ,List.getElem_cons_zero]
 refine wpAnyH_take (i:=16) (v:= .string u.s) rfl (by kernel_rfl) (by kernel_rfl) (by kernel_rfl) (fun _ _ _ h=>h) (Or.inl ⟨by kernel_rfl,fun w hw=>by subst hw;go_simp⟩) rfl ?_
 try simp only [Act.put,List.setIfInBounds_toArray,List.set_cons_zero,List.set_cons_succ,List.getElem_toArray,List.getElem_cons_succ,List.getElem_cons_zero]
 refine wpAnyH_take (i:=17) (v:= .bool true) rfl (by kernel_rfl) (by kernel_rfl) (by kernel_rfl) (fun _ _ _ h=>h) (Or.inl ⟨by kernel_rfl,fun w hw=>by subst hw;go_simp⟩) rfl ?_
 try simp only [Act.put,List.setIfInBounds_toArray,List.set_cons_zero,List.set_cons_succ,List.getElem_toArray,List.getElem_cons_succ,List.getElem_cons_zero]
 refine wpAnyH_take (i:=18) (v:= .bool true) rfl (by kernel_rfl) (by kernel_rfl) (by kernel_rfl) (fun _ _ _ h=>h) (Or.inl ⟨by kernel_rfl,fun w hw=>by subst hw;go_simp⟩) rfl ?_
 try simp only [Act.put,List.setIfInBounds_toArray,List.set_cons_zero,List.set_cons_succ,List.getElem_toArray,List.getElem_cons_succ,List.getElem_cons_zero]
 refine wpAnyH_done (by kernel_rfl) ?_ _
 clear c0 c1 c2 k0 k1 k2
 have hz1:w.heap.size+1<w1.heap.size:=by have:=hb.size;simp at this;omega
 have hrb1:w1.heap[w.heap.size]? =some (.cells #[.int .i64 0,.int .u8 0,.string ⟨#[]⟩,.int .i64 0,.slice none 0 0,.int .i64 0,.pointer none] 235 (0,0)):=
  (hb.block _ (by simp;omega)).trans ((Below.heap_alloc _ _ _ (by simp)).trans (blk_alloc _ _))
 have hrv1:w1.heap[w.heap.size+1]? =some (.cells #[.int .i64 0,.int .u8 0,.string ⟨#[]⟩,.int .i64 0,.slice none 0 0,.int .i64 0,.pointer none] 235 (0,0)):=
  (hb.block _ (by simp)).trans (blk_alloc' _ _ _ (by simp))
 have HR1:=hide hrb1
 have HV1:=hide hrv1
 clear hb hrb1 hrv1
 go_wp2_with (go_at_call 282;refine (formula_any (6 * (L.drop i).length+5) _ _ _ _ _ _ (unhide HP1) (Nat.le_refl _)).mono ?_)
 rintro e w2 ⟨hg2,p2,rfl,hx2⟩
 have HG2:=hide hg2
 have hrb2:=(hg2.block w.heap.size (by omega) (by simp;omega)).trans (unhide HR1)
 have hrv2:=(hg2.block (w.heap.size+1) hz1 (by simp;omega)).trans (unhide HV1)
 have hz2:w.heap.size+1<w2.heap.size:=lt_of_blk hrv2
 have rc:=fun o=>cell_of_blk hrb2 o
 have rf:=fun o=>frozen_of_blk hrb2 o
 have vc:=fun o=>cell_of_blk hrv2 o
 have vf:=fun o=>frozen_of_blk hrv2 o
 have HX2:=hide hx2
 have HRB2:=hide hrb2
 have HRV2:=hide hrv2
 clear hg2 hx2 hrb2 hrv2
 go_wp2_with fail
 refine bodyPost_ret (v:=rlV 0 0 ⟨#[]⟩ 0 none 0 0 0 p2) ?_ rfl ?_
 ·simp [results,Tryz.results248,go_sem,rlV,rc]
 have hgl:=(unhide HP).gLt
 have hgr:=grown_setNew (grown_setNew (grown_setNew (grown_setNew (grown_setNew (grown_setNew (grown_setNew (grown_setNew ((grown_below (unhide HB) (some pb)).trans (unhide HG2)) (b:=w.heap.size+1) (by omega) 6 (.pointer p2)) (Nat.le_refl _) 0 (.int .i64 0)) (Nat.le_refl _) 1 (.int .u8 0)) (Nat.le_refl _) 2 (.string ⟨#[]⟩)) (Nat.le_refl _) 3 (.int .i64 0)) (Nat.le_refl _) 4 (.slice none 0 0)) (Nat.le_refl _) 5 (.int .i64 0)) (Nat.le_refl _) 6 (.pointer p2)
 have hkeep: ∀j bad,PS w2 pb g cap L j bad→PS ((((((((w2.setCell ⟨w.heap.size+1,6,none⟩ (.pointer p2)).setCell ⟨w.heap.size,0,none⟩ (.int .i64 0)).setCell ⟨w.heap.size,1,none⟩ (.int .u8 0)).setCell ⟨w.heap.size,2,none⟩ (.string ⟨#[]⟩)).setCell ⟨w.heap.size,3,none⟩ (.int .i64 0)).setCell ⟨w.heap.size,4,none⟩ (.slice none 0 0)).setCell ⟨w.heap.size,5,none⟩ (.int .i64 0)).setCell ⟨w.heap.size,6,none⟩ (.pointer p2)) pb g cap L j bad:=fun j bad hp=>
  (((((((hp.setOther _ _ _ (by omega) (by omega)).setOther _ _ _ (by omega) (by omega)).setOther _ _ _ (by omega) (by omega)).setOther _ _ _ (by omega) (by omega)).setOther _ _ _ (by omega) (by omega)).setOther _ _ _ (by omega) (by omega)).setOther _ _ _ (by omega) (by omega)).setOther _ _ _ (by omega) (by omega)
 have t0:TyAt w2 w.heap.size 235:=⟨_,_,unhide HRB2⟩
 have t1:TyAt w2 (w.heap.size+1) 235:=⟨_,_,unhide HRV2⟩
 have hrr:ruleRead (L.drop i)=(match pf (6 * (L.drop i).length+5) 0 .nil (L.drop i) with| .error q=> .error q| .ok (f,l1)=> .ok (⟨0,false,tk0,[],0,f⟩,l1)):=by
  rw [ruleRead,if_neg (unhide HK)];rfl
 rw [hrr]
 refine ⟨hgr,0,0,⟨#[]⟩,0,none,0,0,0,p2,rfl, ?_⟩
 have hx:=unhide HX2
 cases hpf:pf (6 * (L.drop i).length+5) 0 .nil (L.drop i) with
 |error q=>
  rw [hpf] at hx
  obtain ⟨j,hq,hp⟩:=hx
  exact ⟨j,hq,hkeep j _ hp⟩
 |ok x=>
  obtain ⟨f,l1⟩:=x
  rw [hpf] at hx
  obtain ⟨hf,j,hl,hp⟩:=hx
  refine ⟨⟨rfl, ?_⟩,j,hl,hkeep j _ hp⟩
  rw [if_neg (by simp)]
  exact ⟨(((((((hf.set t1 (by decide)).set (t0.set _ _) (by decide)).set ((t0.set _ _).set _ _) (by decide)).set (((t0.set _ _).set _ _).set _ _) (by decide)).set ((((t0.set _ _).set _ _).set _ _).set _ _) (by decide)).set (((((t0.set _ _).set _ _).set _ _).set _ _).set _ _) (by decide)).set ((((((t0.set _ _).set _ _).set _ _).set _ _).set _ _).set _ _) (by decide)).set (((((((t0.set _ _).set _ _).set _ _).set _ _).set _ _).set _ _).set _ _) (by decide),hf.some (pf_node _ 0 _ _ _ _ (by omega) hpf)⟩
def RLost (L:List Tk) (pb g cap i:Nat) (w w':World) (e:Ending):Prop:=
 w.grownBy w' (some pb)∧ ∃a b s c o n k d p,e= .returned (rlV a b s c o n k d p)∧PS w' pb g cap L i true
theorem grown_setNew8 {w w':World} {row:Option Nat} (h:w.grownBy w' row) (b:Nat) (hb:w.heap.size≤b) (v0 v1 v2 v3 v4 v5 v6:Value):
  w.grownBy (((((((w'.setCell ⟨b,0,none⟩ v0).setCell ⟨b,1,none⟩ v1).setCell ⟨b,2,none⟩ v2).setCell ⟨b,3,none⟩ v3).setCell ⟨b,4,none⟩ v4).setCell ⟨b,5,none⟩ v5).setCell ⟨b,6,none⟩ v6) row:=
 grown_setNew (grown_setNew (grown_setNew (grown_setNew (grown_setNew (grown_setNew (grown_setNew h hb 0 v0) hb 1 v1) hb 2 v2) hb 3 v3) hb 4 v4) hb 5 v5) hb 6 v6
theorem PS.set7 {w:World} {pb g cap:Nat} {L:List Tk} {i:Nat} {bad:Bool} (h:PS w pb g cap L i bad) (b:Nat) (h1:b≠pb) (h2:b≠g) (v0 v1 v2 v3 v4 v5 v6:Value):
  PS (((((((w.setCell ⟨b,0,none⟩ v0).setCell ⟨b,1,none⟩ v1).setCell ⟨b,2,none⟩ v2).setCell ⟨b,3,none⟩ v3).setCell ⟨b,4,none⟩ v4).setCell ⟨b,5,none⟩ v5).setCell ⟨b,6,none⟩ v6) pb g cap L i bad:=
 ((((((h.setOther b 0 v0 h1 h2).setOther b 1 v1 h1 h2).setOther b 2 v2 h1 h2).setOther b 3 v3 h1 h2).setOther b 4 v4 h1 h2).setOther b 5 v5 h1 h2).setOther b 6 v6 h1 h2
set_option maxHeartbeats 1000000 in
theorem rule_lost (w:World) (pb g cap:Nat) (L:List Tk) (i:Nat) (h:PS w pb g cap L i true):
  Calls Tryz.prog 248 #[.pointer (some ⟨pb,0,none⟩)] w fun e w'=>RLost L pb g cap i w w' e:=by
 have HP:=hide h
 obtain ⟨c0,c1,c2⟩:=h.cells
 have hp0:=lt_of_blk h.blk
 clear h
 go_enter Tryz.func248,Tryz.ntmps248
 go_wp2_with fail
 refine bodyPost_ret (v:=rlV 0 0 ⟨#[]⟩ 0 none 0 0 0 none) ?_ rfl ⟨?_,0,0,⟨#[]⟩,0,none,0,0,0,none,rfl, ?_⟩
 ·simp [results,Tryz.results248,go_sem,rlV]
 ·exact grown_alloc (grown_alloc (World.grownBy.refl _ _) _) _
 ·exact ((unhide HP).alloc _).alloc _
theorem owns_keep {w w':World} {base e size n:Nat} {v:Value} {xs:List Value} {row:Option Nat} (h:w.ownsRow base e size v n xs) (hg:w.grownBy w' row) (hne:v.ownBlock=none∨v.ownBlock≠row):w'.ownsRow base e size v n xs:=by
 obtain ⟨h1,h2⟩:=h
 refine ⟨h1, ?_⟩
 rcases h2 with h2|⟨g,cap,cur,hv,hgb,hh,r⟩
 ·exact Or.inl h2
 ·refine Or.inr ⟨g,cap,cur,hv,hgb, ?_,r⟩
  rw [hg.block g (lt_of_blk hh) ?_];exact hh
  subst hv
  rcases hne with hne|hne
  ·cases hne
  ·exact hne
theorem owns_mono {w:World} {base base' e size n:Nat} {v:Value} {xs:List Value} (h:w.ownsRow base e size v n xs) (hb:base'≤base):w.ownsRow base' e size v n xs:=by
 obtain ⟨h1,h2⟩:=h
 refine ⟨h1, ?_⟩
 rcases h2 with h2|⟨g,cap,cur,hv,hgb,hh,r⟩
 ·exact Or.inl h2
 ·exact Or.inr ⟨g,cap,cur,hv,Nat.le_trans hb hgb,hh,r⟩
theorem refK_d (k:Nat):(refK k !=100)= !(k==3):=by
 unfold refK;repeat' split
 all_goals simp_all
theorem ruleRead_one {L:List Tk} {i j4:Nat} {t u v y:Tk} {r0 r1:List Tk} {b4:Bool} (ht:L.drop i=t::u::v::r0) (hk:t.k=2) (hu:u.k=18) (hj:j4=if (!false&&v.k==2)=true then i+1+1+1 else i+1+1)
  (hb:b4= !(!false&&v.k==2)) (hy:L.drop j4=y::r1) (h6:false=(!b4&&y.k==20)):
  ((!b4&&y.k==19)=true→ruleRead (L.drop i)= .ok (⟨0,true,t,[v],y.p,.nil⟩,L.drop (j4+1)))∧((!b4&&y.k==19)=false→ruleRead (L.drop i)= .error (headP (L.drop j4))):=by
 have h2:L.drop (i+1+1)=v::r0:=drop_tail (drop_tail ht)
 have h3:=drop_tail h2
 have e1:headK (t::u::v::r0)=2∧headK (t::u::v::r0).tail=18:=⟨hk,hu⟩
 by_cases hv:v.k=2
 ·have hj':j4=i+1+1+1:=by rw [hj];simp [hv]
  have hb':b4=false:=by rw [hb];simp [hv]
  subst hj' hb'
  rw [h3] at hy
  have hy20:¬ y.k=20:=by intro e;rw [e] at h6;simp at h6
  constructor
  ·intro h19
   have h19':y.k=19:=by simpa using h19
   rw [drop_tail (h3.trans hy),ht,ruleRead,if_pos e1,hy]
   simp [headK,headT,headP,hv,hy20,h19']
  ·intro h19
   have h19':¬ y.k=19:=by simpa using h19
   rw [h3,ht,ruleRead,if_pos e1,hy]
   simp [headK,headP,hv,hy20,h19']
 ·have hj':j4=i+1+1:=by rw [hj];simp [hv]
  have hb':b4=true:=by rw [hb];simp [hv]
  subst hj' hb'
  rw [h2] at hy
  obtain ⟨rfl,rfl⟩:=List.cons.inj hy
  refine ⟨fun h=>by simp at h,fun _=> ?_⟩
  rw [h2,ht,ruleRead,if_pos e1]
  simp [headK,headP,hv]
theorem ruleRead_two {L:List Tk} {i j4:Nat} {t u v y z:Tk} {r0 r1 r2:List Tk} {b4:Bool} (ht:L.drop i=t::u::v::r0) (hk:t.k=2) (hu:u.k=18) (hj:j4=if (!false&&v.k==2)=true then i+1+1+1 else i+1+1)
  (hb:b4= !(!false&&v.k==2)) (hy:L.drop j4=y::r1) (h6:true=(!b4&&y.k==20)) (hz:L.drop (j4+1)=z::r2):
  (¬ (z.k=2∨z.k=3)→ruleRead (L.drop i)= .error (headP (L.drop (j4+1))))∧
  ((z.k=2∨z.k=3)→headK (L.drop (j4+1+1))=19→ruleRead (L.drop i)= .ok (⟨0,true,t,[v,z],headP (L.drop (j4+1+1)),.nil⟩,L.drop (j4+1+1+1)))∧
  ((z.k=2∨z.k=3)→headK (L.drop (j4+1+1))≠19→ruleRead (L.drop i)= .error (headP (L.drop (j4+1+1)))):=by
 have h2:L.drop (i+1+1)=v::r0:=drop_tail (drop_tail ht)
 have h3:=drop_tail h2
 have e1:headK (t::u::v::r0)=2∧headK (t::u::v::r0).tail=18:=⟨hk,hu⟩
 have hbf:b4=false:=by cases b4 with|false=>rfl|true=>simp at h6
 have hv:v.k=2:=by rw [hbf] at hb;simpa using hb
 have hj':j4=i+1+1+1:=by rw [hj];simp [hv]
 subst hj'
 have hy20:y.k=20:=by rw [hbf] at h6;simpa using h6
 have hr1:r1=z::r2:=by rw [←drop_tail hy];exact hz
 have hr2:L.drop (i+1+1+1+1+1)=r2:=drop_tail hz
 have hr0:r0=y::z::r2:=by rw [←h3,hy,hr1]
 rw [hz,hr2,ht,ruleRead,if_pos e1,hr0]
 refine ⟨fun h=> ?_,fun h h19=> ?_,fun h h19=> ?_⟩
 ·simp only [not_or] at h
  simp [headK,headP,hv,hy20,h.1,h.2]
 ·have hd:L.drop (i+1+1+1+1+1+1)=r2.tail:=by rw [←hr2,List.tail_drop]
  rw [if_pos (show headK (t::u::v::y::z::r2).tail.tail=2 from hv),if_pos (show headK (t::u::v::y::z::r2).tail.tail.tail=20 from hy20),if_pos (show headK (t::u::v::y::z::r2).tail.tail.tail.tail=2∨headK (t::u::v::y::z::r2).tail.tail.tail.tail=3 from h),if_pos (show headK (t::u::v::y::z::r2).tail.tail.tail.tail.tail=19 from h19),hd]
  rfl
 ·rw [if_pos (show headK (t::u::v::y::z::r2).tail.tail=2 from hv),if_pos (show headK (t::u::v::y::z::r2).tail.tail.tail=20 from hy20),if_pos (show headK (t::u::v::y::z::r2).tail.tail.tail.tail=2∨headK (t::u::v::y::z::r2).tail.tail.tail.tail=3 from h),if_neg (show ¬ headK (t::u::v::y::z::r2).tail.tail.tail.tail.tail=19 from h19)]
  rfl
theorem PS.grown {w w':World} {pb g cap:Nat} {L:List Tk} {i:Nat} {bad:Bool} (h:PS w pb g cap L i bad) {row:Option Nat} (hg:w.grownBy w' row) (h1:some pb≠row) (h2:some g≠row):PS w' pb g cap L i bad:=by
 obtain ⟨cur,r1,r2⟩:=h.row
 exact ⟨by rw [hg.block pb (lt_of_blk h.blk) h1];exact h.blk,⟨cur,by rw [hg.block g (lt_of_blk r1) h2];exact r1,r2⟩,h.le,h.capLe,h.len,h.lt,h.ends,h.ok⟩
theorem grown7 (w':World) (b:Nat) (v0 v1 v2 v3 v4 v5 v6:Value):
  w'.grownBy (((((((w'.setCell ⟨b,0,none⟩ v0).setCell ⟨b,1,none⟩ v1).setCell ⟨b,2,none⟩ v2).setCell ⟨b,3,none⟩ v3).setCell ⟨b,4,none⟩ v4).setCell ⟨b,5,none⟩ v5).setCell ⟨b,6,none⟩ v6) (some b):=
 ((((((grown_set _ b 0 v0).trans (grown_set _ b 1 v1)).trans (grown_set _ b 2 v2)).trans (grown_set _ b 3 v3)).trans (grown_set _ b 4 v4)).trans (grown_set _ b 5 v5)).trans (grown_set _ b 6 v6)
theorem name_any (w:World) (pb g cap:Nat) (L:List Tk) (i:Nat) (bad:Bool) (t:Tk) (r:List Tk) (h:PS w pb g cap L i bad) (ht:L.drop i=t::r) (j:Nat) (bad':Bool) (hj:j=if (!bad&&t.k==2)=true then i+1 else i) (hb':bad'= !(!bad&&t.k==2)):
  Calls Tryz.prog 246 #[.pointer (some ⟨pb,0,none⟩)] w fun e w'=>e= .returned (tkR t)∧PS w' pb g cap L j bad'∧w.grownBy w' (some pb):=by
 subst hj hb'
 cases hb:(!bad&&t.k==2) with
 |true=>
  simp only [Bool.and_eq_true,Bool.not_eq_true',beq_iff_eq] at hb
  obtain ⟨rfl,hk⟩:=hb
  obtain ⟨u,r',rfl⟩:=(by have:=h.ends;rw [ht] at this;exact this.more (by omega): ∃u r',r=u::r')
  exact name_yes w pb g cap L i t u r' h ht hk
 |false=>
  refine name_no w pb g cap L i bad t r h ht ?_
  cases bad with
  |true=>exact Or.inl rfl
  |false=>exact Or.inr (by simpa using hb)
theorem take_any (s:ByteArray) (k:Nat) (w:World) (pb g cap:Nat) (L:List Tk) (i:Nat) (bad:Bool) (t:Tk) (r:List Tk) (h:PS w pb g cap L i bad) (ht:L.drop i=t::r)
  (hs:s.data.toList=kText k) (hk:4≤k) (hk':k≤21) (b:Bool) (hbb:b=(!bad&&t.k==k)) (j:Nat) (hj:j=if (!bad&&t.k==k)=true then i+1 else i):
  Calls Tryz.prog 247 #[.pointer (some ⟨pb,0,none⟩),.string s] w fun e w'=>e= .returned (.bool b)∧PS w' pb g cap L j bad∧w.grownBy w' (some pb):=by
 subst hj hbb
 cases hb:(!bad&&t.k==k) with
 |true=>
  simp only [Bool.and_eq_true,Bool.not_eq_true',beq_iff_eq] at hb
  obtain ⟨rfl,he⟩:=hb
  obtain ⟨u,r',rfl⟩:=(by have:=h.ends;rw [ht] at this;exact this.more (by omega): ∃u r',r=u::r')
  exact take_yes s k w pb g cap L i t u r' h ht hs hk hk' he
 |false=>
  refine take_no s k w pb g cap L i bad t r h ht hs hk hk' ?_
  cases bad with
  |true=>exact Or.inl rfl
  |false=>exact Or.inr (by simpa using hb)
theorem must_any (s:ByteArray) (k:Nat) (w:World) (pb g cap:Nat) (L:List Tk) (i:Nat) (bad:Bool) (t:Tk) (r:List Tk) (h:PS w pb g cap L i bad) (ht:L.drop i=t::r)
  (hs:s.data.toList=kText k) (hk:4≤k) (hk':k≤21) (j:Nat) (bad':Bool) (hj:j=if (!bad&&t.k==k)=true then i+1 else i) (hb':bad'= !(!bad&&t.k==k)):
  Calls Tryz.prog 245 #[.pointer (some ⟨pb,0,none⟩),.string s] w fun e w'=>e= .returned (.tuple #[])∧PS w' pb g cap L j bad'∧w.grownBy w' (some pb):=by
 subst hj hb'
 cases hb:(!bad&&t.k==k) with
 |true=>
  simp only [Bool.and_eq_true,Bool.not_eq_true',beq_iff_eq] at hb
  obtain ⟨rfl,he⟩:=hb
  obtain ⟨u,r',rfl⟩:=(by have:=h.ends;rw [ht] at this;exact this.more (by omega): ∃u r',r=u::r')
  exact must_yes s k w pb g cap L i t u r' h ht hs hk hk' he
 |false=>
  refine must_no s k w pb g cap L i bad t r h ht hs hk hk' ?_
  cases bad with
  |true=>exact Or.inl rfl
  |false=>exact Or.inr (by simpa using hb)
set_option maxHeartbeats 4000000 in
set_option maxRecDepth 100000 in
theorem rule_call (w : World) (pb g cap : Nat) (L : List Tk) (i : Nat) (t u v : Tk) (r0 : List Tk) (h : PS w pb g cap L i false) (ht : L.drop i = t :: u :: v :: r0) (hk : t.k = 2) (hu : u.k = 18) :
    Calls Tryz.prog 248 #[.pointer (some ⟨pb, 0, none⟩)] w fun e w' => RLeft L pb g cap w w' e (ruleRead (L.drop i)) := by
  have hr : (refK t.k != 110) = false := by rw [refK_n]; simp [hk]
  have hok := h.ok u (drop_mem (drop_tail ht))
  have h40' : u.s.toList = [40] := by rw [ByteArray.toList_eq, hok.2.1 (by omega), hu]; rfl
  have HT := hide ht
  have HP := hide h
  have HKT := hide hk
  have HKU := hide hu
  have hlen := h.len
  have hlt := h.lt
  have hlt1 : i + 1 < L.length := by have := congrArg List.length ht; simp at this; omega
  have hp0 := lt_of_blk h.blk
  have hgl0 := h.gLt
  have hI : (i : Int) + 1 < (L.length : Int) := by omega
  have hI0 : (0 : Int) ≤ (i : Int) + 1 := by omega
  have hwr : IntKind.i64.wrap ((i : Int) + 1) = (i : Int) + 1 := by rw [IntKind.wrap_i64]; omega
  clear h ht hk hu hok
  have fl0 := field0
  have fl2 := field2
  obtain ⟨i0, hi0, hz0, hz1, hz2⟩ := info_parts Tryz.infoTok
  go_enter Tryz.func248, Tryz.ntmps248
  obtain ⟨c0, c1, c2⟩ := (unhide HP).cells
  go_wp2_with fail
  clear c0 c1 c2
  refine wp_region_any (by kernel_rfl) ?_
  change wpAny _ _ _ _ _ _ _ (World.drew _)
  refine wpAny_take (i := 0) (v := .pointer (some ⟨pb, 0, none⟩)) rfl (by kernel_rfl) (by kernel_rfl) (by kernel_rfl) (fun _ _ _ h => h) (Or.inl ⟨by kernel_rfl, fun w => by go_simp⟩) ?_
  try simp only [Act.put, zA, zB, zC, zD, zE, zF]
  refine wpAny_ready (rs := [1]) (by kernel_rfl) (by simp) ?_
  refine AllReady.cons rfl (fun K hK => ?_) AllReady.nil
  go_simp
  go_wp2_with (go_at_call 201; refine (now_any _ _ _ _ _ _ _ _ _ ((unhide HP).later (by exact (((Below.refl _ _).alloc (Nat.le_refl _) _).alloc (by simp) _).drew)) (unhide HT)).mono ?_; rintro e w1 ⟨rfl, hb⟩; simp only [tkR])
  have HB := hide (show Below w.heap.size w w1 from ((((Below.refl w.heap.size w).alloc (Nat.le_refl _) _).alloc (by simp) _).drew).trans (hb.mono (by simp; omega)))
  have HP1 := hide ((unhide HP).later (unhide HB))
  obtain ⟨c0, c1, c2⟩ := (unhide HP1).cells
  obtain ⟨k0, k1, k2⟩ := (unhide HP1).tok (i + 1) _ _ (drop_tail (unhide HT))
  refine wpAny_of_held (S := fun w' => w' = w1) _ _ _ _ ?_
  refine wpAnyH_take (i := 2) (v := .int .u8 (refK t.k)) rfl (by kernel_rfl) (by kernel_rfl) (by kernel_rfl) (fun _ _ _ h => h) (Or.inl ⟨by kernel_rfl, fun w hw => by subst hw; go_simp⟩) rfl ?_
  try simp only [Act.put, zA, zB, zC, zD, zE, zF]
  refine wpAnyH_take (i := 3) (v := .bool false) rfl (by kernel_rfl) (by kernel_rfl) (by kernel_rfl) (fun _ _ _ h => h) (Or.inl ⟨by kernel_rfl, fun w hw => by subst hw; go_simp⟩) rfl ?_
  try simp only [Act.put, zA, zB, zC, zD, zE, zF]
  refine wpAnyH_take (i := 4) (v := .bool false) rfl (by kernel_rfl) (by kernel_rfl) (by kernel_rfl) (fun _ _ _ h => h) (Or.inl ⟨by kernel_rfl, fun w hw => by subst hw; go_simp⟩) rfl ?_
  try simp only [Act.put, zA, zB, zC, zD, zE, zF]
  refine wpAnyH_take (i := 5) (v := .pointer (some ⟨pb, 0, none⟩)) rfl (by kernel_rfl) (by kernel_rfl) (by kernel_rfl) (fun _ _ _ h => h) (Or.inl ⟨by kernel_rfl, fun w hw => by subst hw; go_simp⟩) rfl ?_
  try simp only [Act.put, zA, zB, zC, zD, zE, zF]
  refine wpAnyH_take (i := 6) (v := .pointer (some ⟨pb, 0, none⟩)) rfl (by kernel_rfl) (by kernel_rfl) (by kernel_rfl) (fun _ _ _ h => h) (Or.inl ⟨by kernel_rfl, fun w hw => by subst hw; go_simp⟩) rfl ?_
  try simp only [Act.put, zA, zB, zC, zD, zE, zF]
  refine wpAnyH_take (i := 7) (v := .pointer (some ⟨pb, 0, none⟩)) rfl (by kernel_rfl) (by kernel_rfl) (by kernel_rfl) (fun _ _ _ h => h) (Or.inl ⟨by kernel_rfl, fun w hw => by subst hw; go_simp⟩) rfl ?_
  try simp only [Act.put, zA, zB, zC, zD, zE, zF]
  refine wpAnyH_take (i := 8) (v := .slice (some ⟨g, 0, none⟩) L.length cap) rfl (by kernel_rfl) (by kernel_rfl) (by kernel_rfl) (fun _ _ _ h => h) (Or.inl ⟨by kernel_rfl, fun w hw => by subst hw; go_simp⟩) rfl ?_
  try simp only [Act.put, zA, zB, zC, zD, zE, zF]
  refine wpAnyH_take (i := 9) (v := .pointer (some ⟨pb, 0, none⟩)) rfl (by kernel_rfl) (by kernel_rfl) (by kernel_rfl) (fun _ _ _ h => h) (Or.inl ⟨by kernel_rfl, fun w hw => by subst hw; go_simp⟩) rfl ?_
  try simp only [Act.put, zA, zB, zC, zD, zE, zF]
  refine wpAnyH_take (i := 10) (v := .pointer (some ⟨pb, 0, none⟩)) rfl (by kernel_rfl) (by kernel_rfl) (by kernel_rfl) (fun _ _ _ h => h) (Or.inl ⟨by kernel_rfl, fun w hw => by subst hw; go_simp⟩) rfl ?_
  try simp only [Act.put, zA, zB, zC, zD, zE, zF]
  refine wpAnyH_take (i := 11) (v := .pointer (some ⟨pb, 1, none⟩)) rfl (by kernel_rfl) (by kernel_rfl) (by kernel_rfl) (fun _ _ _ h => h) (Or.inl ⟨by kernel_rfl, fun w hw => by subst hw; go_simp⟩) rfl ?_
  try simp only [Act.put, zA, zB, zC, zD, zE, zF]
  refine wpAnyH_take (i := 12) (v := .int .i64 (i : Int)) rfl (by kernel_rfl) (by kernel_rfl) (by kernel_rfl) (fun _ _ _ h => h) (Or.inl ⟨by kernel_rfl, fun w hw => by subst hw; go_simp⟩) rfl ?_
  try simp only [Act.put, zA, zB, zC, zD, zE, zF]
  refine wpAnyH_take (i := 13) (v := .int .i64 ((i : Int) + 1)) rfl (by kernel_rfl) (by kernel_rfl) (by kernel_rfl) (fun _ _ _ h => h) (Or.inl ⟨by kernel_rfl, fun w hw => by subst hw; go_simp⟩) rfl ?_
  try simp only [Act.put, zA, zB, zC, zD, zE, zF]
  refine wpAnyH_take (i := 14) (v := .pointer (some ⟨g, (i + 1) * 3, none⟩)) rfl (by kernel_rfl) (by kernel_rfl) (by kernel_rfl) (fun _ _ _ h => h) (Or.inl ⟨by kernel_rfl, fun w hw => by subst hw; go_simp⟩) rfl ?_
  try simp only [Act.put, zA, zB, zC, zD, zE, zF]
  refine wpAnyH_take (i := 15) (v := .pointer (some ⟨g, (i + 1) * 3 + 1, none⟩)) rfl (by kernel_rfl) (by kernel_rfl) (by kernel_rfl) (fun _ _ _ h => h) (Or.inl ⟨by kernel_rfl, fun w hw => by subst hw; go_simp⟩) rfl ?_
  try simp only [Act.put, zA, zB, zC, zD, zE, zF]
  refine wpAnyH_take (i := 16) (v := .string u.s) rfl (by kernel_rfl) (by kernel_rfl) (by kernel_rfl) (fun _ _ _ h => h) (Or.inl ⟨by kernel_rfl, fun w hw => by subst hw; go_simp⟩) rfl ?_
  try simp only [Act.put, zA, zB, zC, zD, zE, zF]
  refine wpAnyH_take (i := 17) (v := .bool false) rfl (by kernel_rfl) (by kernel_rfl) (by kernel_rfl) (fun _ _ _ h => h) (Or.inl ⟨by kernel_rfl, fun w hw => by subst hw; go_simp⟩) rfl ?_
  try simp only [Act.put, zA, zB, zC, zD, zE, zF]
  refine wpAnyH_take (i := 18) (v := .bool false) rfl (by kernel_rfl) (by kernel_rfl) (by kernel_rfl) (fun _ _ _ h => h) (Or.inl ⟨by kernel_rfl, fun w hw => by subst hw; go_simp⟩) rfl ?_
  try simp only [Act.put, zA, zB, zC, zD, zE, zF]
  refine wpAnyH_done (by kernel_rfl) ?_ _
  clear c0 c1 c2 k0 k1 k2
  have hz1' : w.heap.size + 1 < w1.heap.size := by have := hb.size; simp at this; omega
  have HR1 := hide (show w1.heap[w.heap.size]? = some (.cells #[.int .i64 0, .int .u8 0, .string ⟨#[]⟩, .int .i64 0, .slice none 0 0, .int .i64 0, .pointer none] 235 (0, 0)) from
    (hb.block _ (by simp; omega)).trans ((Below.heap_alloc _ _ _ (by simp)).trans (blk_alloc _ _)))
  have HV1 := hide (show w1.heap[w.heap.size + 1]? = some (.cells #[.int .i64 0, .int .u8 0, .string ⟨#[]⟩, .int .i64 0, .slice none 0 0, .int .i64 0, .pointer none] 235 (0, 0)) from
    (hb.block _ (by simp)).trans (blk_alloc' _ _ _ (by simp)))
  clear hb
  have HT1 := hide (drop_tail (unhide HT))
  have HT2 := hide (drop_tail (unhide HT1))
  go_wp2_with (go_at_call 246; refine (name_yes _ _ _ _ _ _ _ _ _ (unhide HP1) (unhide HT) (unhide HKT)).mono ?_)
  rintro e w2 ⟨rfl, hp2, hg2⟩
  simp only [tkR]
  have HP2 := hide hp2
  have HG2 := hide ((grown_below (unhide HB) (some pb)).trans hg2)
  have HR2 := hide ((hg2.block w.heap.size (by omega) (by simp; omega)).trans (unhide HR1))
  have HV2 := hide ((hg2.block (w.heap.size + 1) (by omega) (by simp; omega)).trans (unhide HV1))
  have hz2' : w.heap.size + 1 < w2.heap.size := lt_of_blk (unhide HV2)
  have vc := fun o => cell_of_blk (unhide HV2) o
  have vf := fun o => frozen_of_blk (unhide HV2) o
  clear hp2 hg2
  go_wp2_with (go_at_call 245; refine (must_yes _ 18 _ _ _ _ _ _ _ _ _ ((((unhide HP2).setOther _ _ _ (by omega) (by omega)).setOther _ _ _ (by omega) (by omega)).setOther _ _ _ (by omega) (by omega)) (unhide HT1) rfl (by decide) (by decide) (unhide HKU)).mono ?_)
  rintro e w3 ⟨rfl, hp3, hg3⟩
  have HP3 := hide hp3
  have HG3 := hide ((grown_setNew (grown_setNew (grown_setNew (unhide HG2) (b := w.heap.size + 1) (by omega) _ _) (b := w.heap.size + 1) (by omega) _ _) (b := w.heap.size + 1) (by omega) _ _).trans hg3)
  have HR3 := hide ((hg3.block w.heap.size (by simp [World.setCell]; omega) (by simp; omega)).trans ((Below.heap_setCell _ _ _ _ (by simp)).trans ((Below.heap_setCell _ _ _ _ (by simp)).trans ((Below.heap_setCell _ _ _ _ (by simp)).trans (unhide HR2)))))
  have HV3 : Hid (w3.heap[w.heap.size + 1]? = some (.cells #[.int .i64 0, .int .u8 (refK t.k), .string t.s, .int .i64 t.p, .slice none 0 0, .int .i64 0, .pointer none] 235 (0, 0))) :=
    (hg3.block (w.heap.size + 1) (by simp [World.setCell]; omega) (by simp; omega)).trans ((blk_set (blk_set (blk_set (unhide HV2) _ _) _ _) _ _).trans rfl)
  have hz3' : w.heap.size + 1 < w3.heap.size := lt_of_blk (unhide HV3)
  clear vc vf hp3 hg3
  obtain ⟨j4, hj4⟩ : ∃ j, j = if (!false && v.k == 2) = true then i + 1 + 1 + 1 else i + 1 + 1 := ⟨_, rfl⟩
  obtain ⟨b4, hb4⟩ : ∃ b, b = !(!false && v.k == 2) := ⟨_, rfl⟩
  have HJ4 := hide hj4
  have HB4 := hide hb4
  clear hj4 hb4
  go_wp2_with (go_at_call 246; refine (name_any _ _ _ _ _ _ _ _ _ (unhide HP3) (unhide HT2) j4 b4 (unhide HJ4) (unhide HB4)).mono ?_)
  rintro e w4 ⟨rfl, hp4, hg4⟩
  simp only [tkR]
  have HP4 := hide hp4
  have HG4 := hide ((unhide HG3).trans hg4)
  have HR4 := hide ((hg4.block w.heap.size (by omega) (by simp; omega)).trans (unhide HR3))
  have HV4 := hide ((hg4.block (w.heap.size + 1) (by omega) (by simp; omega)).trans (unhide HV3))
  have hz4' : w.heap.size + 1 < w4.heap.size := lt_of_blk (unhide HV4)
  have vc := fun o => cell_of_blk (unhide HV4) o
  have vf := fun o => frozen_of_blk (unhide HV4) o
  clear hp4 hg4
  go_wp2_with (at_builtin; go_must (refine wpList_append_own _ rfl _ _ 225 rfl w.heap.size 232 i0 (.agg #[.int .u8 0, .string ⟨#[]⟩, .int .i64 0]) 3 32 Tryz.underlying225 hi0 hz0 hz1 hz2 rfl (by decide) _ 0 [] rfl ?c0 ⟨w4.heap.size + 1, 0, none⟩ 1 1 [.int .u8 (refK v.k), .string v.s, .int .i64 v.p] rfl rfl ?c1 ?c2 ?c3 ?c4 ?c5 ?_))
  case c0 => exact World.ownsRow_nil _ _ _ _
  case c1 =>
    intro j u hj
    match j, hj with
    | 0, hj => simp at hj; subst hj; simp [Addr.add]
    | 1, hj => simp at hj; subst hj; simp [Addr.add]
    | 2, hj => simp at hj; subst hj; simp [Addr.add]
    | j + 3, hj => simp at hj
  case c2 => intro u hu; simp at hu; rcases hu with rfl | rfl | rfl <;> rfl
  case c3 => unfold maxLen; omega
  case c4 => omega
  case c5 => simp; omega
  intro v5 w5 hown5 hgrow5 _
  obtain ⟨_, h5 | ⟨g5, cap5, cur5, hv5, hrest5⟩⟩ := hown5
  · exact absurd h5.2 (by decide)
  subst hv5
  have HO5 : Hid (w5.ownsRow w.heap.size 232 3 (.slice (some ⟨g5, 0, none⟩) 1 cap5) 1 (tkCellsR [v])) := ⟨rfl, Or.inr ⟨g5, cap5, cur5, rfl, hrest5⟩⟩
  have hgr5 : w4.grownBy w5 none := (grown_alloc (grown_alloc (World.grownBy.refl _ _) _) _).trans hgrow5
  have HP5 := hide ((unhide HP4).later ⟨hgr5.os, hgr5.tape, hgr5.output, hgr5.size, fun k hk => hgr5.block k hk (by simp)⟩)
  have HG5 := hide ((unhide HG4).trans (hgr5.but (some pb)))
  have HR5 := hide ((hgr5.block w.heap.size (by omega) (by simp)).trans (unhide HR4))
  have HV5 := hide ((hgr5.block (w.heap.size + 1) hz4' (by simp)).trans (unhide HV4))
  have hz5' : w.heap.size + 1 < w5.heap.size := lt_of_blk (unhide HV5)
  have hg5ge : w.heap.size ≤ g5 := hrest5.1
  have hg5ne : g5 ≠ w.heap.size + 1 := by intro e; have h1 := hrest5.2.1; rw [e, unhide HV5] at h1; simp at h1
  have hg5ne' : g5 ≠ w.heap.size := by intro e; have h1 := hrest5.2.1; rw [e, unhide HR5] at h1; simp at h1
  have hg5p : g5 ≠ pb := by intro e; have h1 := hrest5.2.1; rw [e, (unhide HP5).blk] at h1; simp at h1
  clear vc vf hgr5 hgrow5 hrest5
  have vc := fun o => cell_of_blk (unhide HV5) o
  have vf := fun o => frozen_of_blk (unhide HV5) o
  obtain ⟨y, r1, hy⟩ := drop_ne (unhide HP5).lt
  have HY := hide hy
  clear hy
  obtain ⟨b6, hb6⟩ : ∃ b, b = (!b4 && y.k == 20) := ⟨_, rfl⟩
  obtain ⟨j6, hj6⟩ : ∃ j, j = if (!b4 && y.k == 20) = true then j4 + 1 else j4 := ⟨_, rfl⟩
  have HB6 := hide hb6
  have HJ6 := hide hj6
  clear hb6 hj6
  go_wp2_with (go_at_call 247; refine (take_any _ 20 _ _ _ _ _ _ _ _ _ ((unhide HP5).setOther _ _ _ (by omega) (by omega)) (unhide HY) rfl (by decide) (by decide) b6 (unhide HB6) j6 (unhide HJ6)).mono ?_)
  rintro e w6 ⟨rfl, hp6, hg6⟩
  have HG6 := hide ((grown_setNew (unhide HG5) (b := w.heap.size + 1) (by omega) _ _).trans hg6)
  have HR6 := hide ((hg6.block w.heap.size (by simp [World.setCell]; omega) (by simp; omega)).trans ((Below.heap_setCell _ _ _ _ (by simp)).trans (unhide HR5)))
  have HV6 : Hid (w6.heap[w.heap.size + 1]? = some (.cells #[.int .i64 0, .int .u8 (refK t.k), .string t.s, .int .i64 t.p, .slice (some ⟨g5, 0, none⟩) 1 cap5, .int .i64 0, .pointer none] 235 (0, 0))) :=
    (hg6.block (w.heap.size + 1) (by simp [World.setCell]; omega) (by simp; omega)).trans ((blk_set (unhide HV5) _ _).trans rfl)
  have HO6 : Hid (w6.ownsRow w.heap.size 232 3 (.slice (some ⟨g5, 0, none⟩) 1 cap5) 1 (tkCellsR [v])) := owns_keep (owns_keep (unhide HO5) (grown_set _ _ _ _) (by simp [Value.ownBlock]; omega)) hg6 (by simp [Value.ownBlock]; omega)
  have hz6' : w.heap.size + 1 < w6.heap.size := lt_of_blk (unhide HV6)
  clear vc vf
  have HP6 := hide hp6
  clear hp6 hg6
  cases b6 with
  | false =>
    have hj6 : j6 = j4 := by have := unhide HJ6; rw [← unhide HB6] at this; exact this
    subst hj6
    go_wp2_with (go_at_call 201; refine (now_any _ _ _ _ _ _ _ _ _ (unhide HP6) (unhide HY)).mono ?_)
    rintro e wx ⟨rfl, hbx⟩
    simp only [tkR]
    have HPX := hide ((unhide HP6).later hbx)
    have HGX := hide ((unhide HG6).trans (grown_below hbx _))
    have HRX := hide ((hbx.block w.heap.size (by omega)).trans (unhide HR6))
    have HVX := hide ((hbx.block (w.heap.size + 1) (by omega)).trans (unhide HV6))
    have HOX := hide (owns_later (unhide HO6) hbx)
    have hzx : w.heap.size + 1 < wx.heap.size := lt_of_blk (unhide HVX)
    clear hbx
    have vc := fun o => cell_of_blk (unhide HVX) o
    have vf := fun o => frozen_of_blk (unhide HVX) o
    obtain ⟨jy, hjy⟩ : ∃ j, j = if (!b4 && y.k == 19) = true then j6 + 1 else j6 := ⟨_, rfl⟩
    obtain ⟨by', hby⟩ : ∃ b, b = !(!b4 && y.k == 19) := ⟨_, rfl⟩
    have HJY := hide hjy
    have HBY := hide hby
    clear hjy hby
    go_wp2_with (go_at_call 245; refine (must_any _ 19 _ _ _ _ _ _ _ _ _ ((unhide HPX).setOther _ _ _ (by omega) (by omega)) (unhide HY) rfl (by decide) (by decide) jy by' (unhide HJY) (unhide HBY)).mono ?_)
    rintro e wy ⟨rfl, hpy, hgy⟩
    have HPY := hide hpy
    have HGY := hide ((grown_setNew (unhide HGX) (b := w.heap.size + 1) (by omega) _ _).trans hgy)
    have HRY := hide ((hgy.block w.heap.size (by simp [World.setCell]; omega) (by simp; omega)).trans ((Below.heap_setCell _ _ _ _ (by simp)).trans (unhide HRX)))
    have HVY : Hid (wy.heap[w.heap.size + 1]? = some (.cells #[.int .i64 0, .int .u8 (refK t.k), .string t.s, .int .i64 t.p, .slice (some ⟨g5, 0, none⟩) 1 cap5, .int .i64 y.p, .pointer none] 235 (0, 0))) :=
      (hgy.block (w.heap.size + 1) (by simp [World.setCell]; omega) (by simp; omega)).trans ((blk_set (unhide HVX) _ _).trans rfl)
    have HOY := hide (owns_keep (owns_keep (unhide HOX) (grown_set _ (w.heap.size + 1) 5 (.int .i64 y.p)) (by simp [Value.ownBlock]; omega)) hgy (by simp [Value.ownBlock]; omega))
    have hzy : w.heap.size + 1 < wy.heap.size := lt_of_blk (unhide HVY)
    clear vc vf hpy hgy
    have vc := fun o => cell_of_blk (unhide HVY) o
    have rc := fun o => cell_of_blk (unhide HRY) o
    have rf := fun o => frozen_of_blk (unhide HRY) o
    go_wp2_with fail
    refine bodyPost_ret (v := rlV 0 (refK t.k) t.s t.p (some ⟨g5, 0, none⟩) 1 cap5 y.p none) ?_ rfl ?_
    · simp [results, Tryz.results248, go_sem, rlV, rc]
    have hgr := grown_setNew8 (unhide HGY) w.heap.size (Nat.le_refl _) (.int .i64 0) (.int .u8 (refK t.k)) (.string t.s) (.int .i64 t.p) (.slice (some ⟨g5, 0, none⟩) 1 cap5) (.int .i64 y.p) (.pointer none)
    have hps := (unhide HPY).set7 w.heap.size (by omega) (by omega) (.int .i64 0) (.int .u8 (refK t.k)) (.string t.s) (.int .i64 t.p) (.slice (some ⟨g5, 0, none⟩) 1 cap5) (.int .i64 y.p) (.pointer none)
    have how := owns_keep (unhide HOY) (grown7 wy w.heap.size (.int .i64 0) (.int .u8 (refK t.k)) (.string t.s) (.int .i64 t.p) (.slice (some ⟨g5, 0, none⟩) 1 cap5) (.int .i64 y.p) (.pointer none)) (by simp [Value.ownBlock]; omega)
    refine ⟨hgr, _, _, _, _, _, _, _, _, _, rfl, ?_⟩
    have hrr := ruleRead_one (unhide HT) (unhide HKT) (unhide HKU) (unhide HJ4) (unhide HB4) (unhide HY) (unhide HB6)
    cases h19 : (!b4 && y.k == 19) with
    | true =>
      have hj' : jy = j6 + 1 := by rw [unhide HJY, h19]; rfl
      have hb' : by' = false := by rw [unhide HBY, h19]; rfl
      subst hj' hb'
      rw [hrr.1 h19]
      refine ⟨⟨rfl, ?_⟩, j6 + 1, rfl, hps⟩
      rw [if_pos rfl]
      exact ⟨rfl, rfl, rfl, owns_mono how (Nat.zero_le _), rfl, rfl⟩
    | false =>
      have hj' : jy = j6 := by rw [unhide HJY, h19]; rfl
      have hb' : by' = true := by rw [unhide HBY, h19]; rfl
      subst hj' hb'
      rw [hrr.2 h19]
      exact ⟨_, rfl, hps⟩
  | true =>
    have hj6 : j6 = j4 + 1 := by have := unhide HJ6; rw [← unhide HB6] at this; exact this
    subst hj6
    obtain ⟨z, r2, hz⟩ := drop_ne (unhide HP6).lt
    have hb4f : b4 = false := by have := unhide HB6; cases b4 with | false => rfl | true => simp at this
    subst hb4f
    have HZ := hide hz
    have HRR := hide (ruleRead_two (unhide HT) (unhide HKT) (unhide HKU) (unhide HJ4) (unhide HB4) (unhide HY) (unhide HB6) hz)
    clear hz
    go_wp2_with (go_at_call 201; refine (now_any _ _ _ _ _ _ _ _ _ (unhide HP6) (unhide HZ)).mono ?_)
    rintro e w7 ⟨rfl, hb7⟩
    simp only [tkR]
    have HP7 := hide ((unhide HP6).later hb7)
    have HG7 := hide ((unhide HG6).trans (grown_below hb7 _))
    have HR7 := hide ((hb7.block w.heap.size (by omega)).trans (unhide HR6))
    have HV7 := hide ((hb7.block (w.heap.size + 1) (by omega)).trans (unhide HV6))
    have HO7 := hide (owns_later (unhide HO6) hb7)
    have hz7' : w.heap.size + 1 < w7.heap.size := lt_of_blk (unhide HV7)
    clear hb7
    have vc := fun o => cell_of_blk (unhide HV7) o
    have vf := fun o => frozen_of_blk (unhide HV7) o
    by_cases hzk : z.k = 2 ∨ z.k = 3
    · by_cases hzz : z.k = 2
      · have e1 : (refK z.k != 110) = false := by rw [refK_n]; simp [hzz]
        clear hzz
        have HZK := hide hzk
        obtain ⟨z2, r3, hz2⟩ := (by have := (unhide HP7).ends; rw [unhide HZ] at this; exact this.more (by rcases hzk with h | h <;> omega) : ∃ z2 r3, r2 = z2 :: r3)
        subst hz2
        clear hzk
        obtain ⟨c0, c1, c2⟩ := (unhide HP7).cells
        have cf := frozen_of_blk (unhide HP7).blk 1
        have cp := lt_of_blk (unhide HP7).blk
        have cl := (unhide HP7).lt
        go_wp2_with (at_builtin; go_must (refine wpList_append_own _ rfl _ _ 225 rfl w.heap.size 232 i0 (.agg #[.int .u8 0, .string ⟨#[]⟩, .int .i64 0]) 3 32 Tryz.underlying225 hi0 hz0 hz1 hz2 rfl (by decide) _ 1 (tkCellsR [v]) rfl ?c0 ⟨w7.heap.size + 1, 0, none⟩ 1 1 [.int .u8 (refK z.k), .string z.s, .int .i64 z.p] rfl rfl ?c1 ?c2 ?c3 ?c4 ?c5 ?_))
        case c0 => exact ((owns_keep (unhide HO7) (grown_set _ pb 1 (.int .i64 (((j4 + 1 : Nat) : Int) + 1))) (by simp [Value.ownBlock]; omega)).alloc _).alloc _
        case c1 =>
          intro j u hj
          match j, hj with
          | 0, hj => simp at hj; subst hj; exact (cell_of_blk (blk_alloc' _ _ _ (by simp)) 0).trans rfl
          | 1, hj => simp at hj; subst hj; exact (cell_of_blk (blk_alloc' _ _ _ (by simp)) 1).trans rfl
          | 2, hj => simp at hj; subst hj; exact (cell_of_blk (blk_alloc' _ _ _ (by simp)) 2).trans rfl
          | j + 3, hj => simp at hj
        case c2 => intro u hu; simp at hu; rcases hu with rfl | rfl | rfl <;> rfl
        case c3 => unfold maxLen; omega
        case c4 => omega
        case c5 => simp; omega
        intro v9 w9 hown9 hgrow9 _
        obtain ⟨_, h9 | ⟨g9, cap9, cur9, hv9, hrest9⟩⟩ := hown9
        · exact absurd h9.2 (by decide)
        subst hv9
        have HO9 : Hid (w9.ownsRow w.heap.size 232 3 (.slice (some ⟨g9, 0, none⟩) 2 cap9) 2 (tkCellsR [v, z])) := ⟨rfl, Or.inr ⟨g9, cap9, cur9, rfl, hrest9⟩⟩
        have HP9 := hide (((((unhide HP7).setI (unhide HZ)).alloc _).alloc _).grown hgrow9 (by simp [Value.ownBlock]; omega) (by simp [Value.ownBlock]; omega))
        have HG9 := hide ((grown_alloc (grown_alloc ((unhide HG7).trans (grown_set _ pb 1 (.int .i64 (((j4 + 1 : Nat) : Int) + 1)))) _) _).andThen hgrow9 (fun j hj => by left; simp [Value.ownBlock] at hj; omega))
        have HR9 := hide ((hgrow9.block w.heap.size (by simp; omega) (by simp [Value.ownBlock]; omega)).trans ((Below.heap_alloc _ _ _ (by simp; omega)).trans ((Below.heap_alloc _ _ _ (by simp; omega)).trans ((Below.heap_setCell _ _ _ _ (by simp; omega)).trans (unhide HR7)))))
        have HV9 := hide ((hgrow9.block (w.heap.size + 1) (by simp; omega) (by simp [Value.ownBlock]; omega)).trans ((Below.heap_alloc _ _ _ (by simp; omega)).trans ((Below.heap_alloc _ _ _ (by simp; omega)).trans ((Below.heap_setCell _ _ _ _ (by simp; omega)).trans (unhide HV7)))))
        have hz9' : w.heap.size + 1 < w9.heap.size := lt_of_blk (unhide HV9)
        have hg9ge : w.heap.size ≤ g9 := hrest9.1
        have hg9ne : g9 ≠ w.heap.size + 1 := by intro e; have h1 := hrest9.2.1; rw [e, unhide HV9] at h1; simp at h1
        have hg9ne' : g9 ≠ w.heap.size := by intro e; have h1 := hrest9.2.1; rw [e, unhide HR9] at h1; simp at h1
        clear vc vf hgrow9 hrest9 c0 c1 c2 cf cp
        have vc := fun o => cell_of_blk (unhide HV9) o
        have vf := fun o => frozen_of_blk (unhide HV9) o
        go_wp2_with fail
        have HPA := hide ((unhide HP9).setOther (w.heap.size + 1) 4 (.slice (some ⟨g9, 0, none⟩) 2 cap9) (by omega) (by omega))
        have HGA := hide (grown_setNew (unhide HG9) (b := w.heap.size + 1) (by omega) 4 (.slice (some ⟨g9, 0, none⟩) 2 cap9))
        have HRA := hide ((Below.heap_setCell w9 ⟨w.heap.size + 1, 4, none⟩ (.slice (some ⟨g9, 0, none⟩) 2 cap9) w.heap.size (by simp)).trans (unhide HR9))
        have HVA := hide ((blk_set (unhide HV9) 4 (.slice (some ⟨g9, 0, none⟩) 2 cap9)).trans rfl)
        have HOA := hide (owns_keep (unhide HO9) (grown_set w9 (w.heap.size + 1) 4 (.slice (some ⟨g9, 0, none⟩) 2 cap9)) (by simp [Value.ownBlock]; omega))
        clear vc vf
        generalize w9.setCell ⟨w.heap.size + 1, 4, none⟩ (.slice (some ⟨g9, 0, none⟩) 2 cap9) = wa at *
        have hza' : w.heap.size + 1 < wa.heap.size := lt_of_blk (unhide HVA)
        have HZ2 := hide (drop_tail (unhide HZ))
        refine (now_any _ _ _ _ _ _ _ _ _ (unhide HPA) (unhide HZ2)).mono ?_
        rintro e wx ⟨rfl, hbx⟩
        simp only [tkR]
        have HPX := hide ((unhide HPA).later hbx)
        have HGX := hide ((unhide HGA).trans (grown_below hbx _))
        have HRX := hide ((hbx.block w.heap.size (by omega)).trans (unhide HRA))
        have HVX := hide ((hbx.block (w.heap.size + 1) (by omega)).trans (unhide HVA))
        have HOX := hide (owns_later (unhide HOA) hbx)
        have hzx : w.heap.size + 1 < wx.heap.size := lt_of_blk (unhide HVX)
        clear hbx
        have vc := fun o => cell_of_blk (unhide HVX) o
        have vf := fun o => frozen_of_blk (unhide HVX) o
        obtain ⟨jy, hjy⟩ : ∃ j, j = if (!false && z2.k == 19) = true then (j4 + 1 + 1) + 1 else (j4 + 1 + 1) := ⟨_, rfl⟩
        obtain ⟨by', hby⟩ : ∃ b, b = !(!false && z2.k == 19) := ⟨_, rfl⟩
        have HJY := hide hjy
        have HBY := hide hby
        clear hjy hby
        go_wp2_with (go_at_call 245; refine (must_any _ 19 _ _ _ _ _ _ _ _ _ ((unhide HPX).setOther _ _ _ (by omega) (by omega)) (unhide HZ2) rfl (by decide) (by decide) jy by' (unhide HJY) (unhide HBY)).mono ?_)
        rintro e wy ⟨rfl, hpy, hgy⟩
        have HPY := hide hpy
        have HGY := hide ((grown_setNew (unhide HGX) (b := w.heap.size + 1) (by omega) _ _).trans hgy)
        have HRY := hide ((hgy.block w.heap.size (by simp [World.setCell]; omega) (by simp; omega)).trans ((Below.heap_setCell _ _ _ _ (by simp)).trans (unhide HRX)))
        have HVY : Hid (wy.heap[w.heap.size + 1]? = some (.cells #[.int .i64 0, .int .u8 (refK t.k), .string t.s, .int .i64 t.p, .slice (some ⟨g9, 0, none⟩) 2 cap9, .int .i64 z2.p, .pointer none] 235 (0, 0))) :=
          (hgy.block (w.heap.size + 1) (by simp [World.setCell]; omega) (by simp; omega)).trans ((blk_set (unhide HVX) _ _).trans rfl)
        have HOY := hide (owns_keep (owns_keep (unhide HOX) (grown_set _ (w.heap.size + 1) 5 (.int .i64 z2.p)) (by simp [Value.ownBlock]; omega)) hgy (by simp [Value.ownBlock]; omega))
        have hzy : w.heap.size + 1 < wy.heap.size := lt_of_blk (unhide HVY)
        clear vc vf hpy hgy
        have vc := fun o => cell_of_blk (unhide HVY) o
        have rc := fun o => cell_of_blk (unhide HRY) o
        have rf := fun o => frozen_of_blk (unhide HRY) o
        go_wp2_with fail
        refine bodyPost_ret (v := rlV 0 (refK t.k) t.s t.p (some ⟨g9, 0, none⟩) 2 cap9 z2.p none) ?_ rfl ?_
        · simp [results, Tryz.results248, go_sem, rlV, rc]
        have hgr := grown_setNew8 (unhide HGY) w.heap.size (Nat.le_refl _) (.int .i64 0) (.int .u8 (refK t.k)) (.string t.s) (.int .i64 t.p) (.slice (some ⟨g9, 0, none⟩) 2 cap9) (.int .i64 z2.p) (.pointer none)
        have hps := (unhide HPY).set7 w.heap.size (by omega) (by omega) (.int .i64 0) (.int .u8 (refK t.k)) (.string t.s) (.int .i64 t.p) (.slice (some ⟨g9, 0, none⟩) 2 cap9) (.int .i64 z2.p) (.pointer none)
        have how := owns_keep (unhide HOY) (grown7 wy w.heap.size (.int .i64 0) (.int .u8 (refK t.k)) (.string t.s) (.int .i64 t.p) (.slice (some ⟨g9, 0, none⟩) 2 cap9) (.int .i64 z2.p) (.pointer none)) (by simp [Value.ownBlock]; omega)
        refine ⟨hgr, _, _, _, _, _, _, _, _, _, rfl, ?_⟩
        have hz2k : headK (L.drop (j4 + 1 + 1)) = z2.k := by rw [unhide HZ2]; rfl
        have hz2p : headP (L.drop (j4 + 1 + 1)) = z2.p := by rw [unhide HZ2]; rfl
        cases h19 : (!false && z2.k == 19) with
        | true =>
          have hj' : jy = j4 + 1 + 1 + 1 := by rw [unhide HJY, h19]; rfl
          have hb' : by' = false := by rw [unhide HBY, h19]; rfl
          subst hj' hb'
          rw [(unhide HRR).2.1 (unhide HZK) (by rw [hz2k]; simpa using h19), hz2p]
          refine ⟨⟨rfl, ?_⟩, j4 + 1 + 1 + 1, rfl, hps⟩
          rw [if_pos rfl]
          exact ⟨rfl, rfl, rfl, owns_mono how (Nat.zero_le _), rfl, rfl⟩
        | false =>
          have hj' : jy = j4 + 1 + 1 := by rw [unhide HJY, h19]; rfl
          have hb' : by' = true := by rw [unhide HBY, h19]; rfl
          subst hj' hb'
          rw [(unhide HRR).2.2 (unhide HZK) (by rw [hz2k]; simpa using h19)]
          exact ⟨_, rfl, hps⟩
      · have e1 : (refK z.k != 110) = true := by rw [refK_n]; simp [hzz]
        have e2 : (refK z.k != 100) = false := by rw [refK_d]; have : z.k = 3 := by omega
                                                  simp [this]
        clear hzz
        have HZK := hide hzk
        obtain ⟨z2, r3, hz2⟩ := (by have := (unhide HP7).ends; rw [unhide HZ] at this; exact this.more (by rcases hzk with h | h <;> omega) : ∃ z2 r3, r2 = z2 :: r3)
        subst hz2
        clear hzk
        obtain ⟨c0, c1, c2⟩ := (unhide HP7).cells
        have cf := frozen_of_blk (unhide HP7).blk 1
        have cp := lt_of_blk (unhide HP7).blk
        have cl := (unhide HP7).lt
        go_wp2_with (at_builtin; go_must (refine wpList_append_own _ rfl _ _ 225 rfl w.heap.size 232 i0 (.agg #[.int .u8 0, .string ⟨#[]⟩, .int .i64 0]) 3 32 Tryz.underlying225 hi0 hz0 hz1 hz2 rfl (by decide) _ 1 (tkCellsR [v]) rfl ?c0 ⟨w7.heap.size + 1, 0, none⟩ 1 1 [.int .u8 (refK z.k), .string z.s, .int .i64 z.p] rfl rfl ?c1 ?c2 ?c3 ?c4 ?c5 ?_))
        case c0 => exact ((owns_keep (unhide HO7) (grown_set _ pb 1 (.int .i64 (((j4 + 1 : Nat) : Int) + 1))) (by simp [Value.ownBlock]; omega)).alloc _).alloc _
        case c1 =>
          intro j u hj
          match j, hj with
          | 0, hj => simp at hj; subst hj; exact (cell_of_blk (blk_alloc' _ _ _ (by simp)) 0).trans rfl
          | 1, hj => simp at hj; subst hj; exact (cell_of_blk (blk_alloc' _ _ _ (by simp)) 1).trans rfl
          | 2, hj => simp at hj; subst hj; exact (cell_of_blk (blk_alloc' _ _ _ (by simp)) 2).trans rfl
          | j + 3, hj => simp at hj
        case c2 => intro u hu; simp at hu; rcases hu with rfl | rfl | rfl <;> rfl
        case c3 => unfold maxLen; omega
        case c4 => omega
        case c5 => simp; omega
        intro v9 w9 hown9 hgrow9 _
        obtain ⟨_, h9 | ⟨g9, cap9, cur9, hv9, hrest9⟩⟩ := hown9
        · exact absurd h9.2 (by decide)
        subst hv9
        have HO9 : Hid (w9.ownsRow w.heap.size 232 3 (.slice (some ⟨g9, 0, none⟩) 2 cap9) 2 (tkCellsR [v, z])) := ⟨rfl, Or.inr ⟨g9, cap9, cur9, rfl, hrest9⟩⟩
        have HP9 := hide (((((unhide HP7).setI (unhide HZ)).alloc _).alloc _).grown hgrow9 (by simp [Value.ownBlock]; omega) (by simp [Value.ownBlock]; omega))
        have HG9 := hide ((grown_alloc (grown_alloc ((unhide HG7).trans (grown_set _ pb 1 (.int .i64 (((j4 + 1 : Nat) : Int) + 1)))) _) _).andThen hgrow9 (fun j hj => by left; simp [Value.ownBlock] at hj; omega))
        have HR9 := hide ((hgrow9.block w.heap.size (by simp; omega) (by simp [Value.ownBlock]; omega)).trans ((Below.heap_alloc _ _ _ (by simp; omega)).trans ((Below.heap_alloc _ _ _ (by simp; omega)).trans ((Below.heap_setCell _ _ _ _ (by simp; omega)).trans (unhide HR7)))))
        have HV9 := hide ((hgrow9.block (w.heap.size + 1) (by simp; omega) (by simp [Value.ownBlock]; omega)).trans ((Below.heap_alloc _ _ _ (by simp; omega)).trans ((Below.heap_alloc _ _ _ (by simp; omega)).trans ((Below.heap_setCell _ _ _ _ (by simp; omega)).trans (unhide HV7)))))
        have hz9' : w.heap.size + 1 < w9.heap.size := lt_of_blk (unhide HV9)
        have hg9ge : w.heap.size ≤ g9 := hrest9.1
        have hg9ne : g9 ≠ w.heap.size + 1 := by intro e; have h1 := hrest9.2.1; rw [e, unhide HV9] at h1; simp at h1
        have hg9ne' : g9 ≠ w.heap.size := by intro e; have h1 := hrest9.2.1; rw [e, unhide HR9] at h1; simp at h1
        clear vc vf hgrow9 hrest9 c0 c1 c2 cf cp
        have vc := fun o => cell_of_blk (unhide HV9) o
        have vf := fun o => frozen_of_blk (unhide HV9) o
        go_wp2_with fail
        have HPA := hide ((unhide HP9).setOther (w.heap.size + 1) 4 (.slice (some ⟨g9, 0, none⟩) 2 cap9) (by omega) (by omega))
        have HGA := hide (grown_setNew (unhide HG9) (b := w.heap.size + 1) (by omega) 4 (.slice (some ⟨g9, 0, none⟩) 2 cap9))
        have HRA := hide ((Below.heap_setCell w9 ⟨w.heap.size + 1, 4, none⟩ (.slice (some ⟨g9, 0, none⟩) 2 cap9) w.heap.size (by simp)).trans (unhide HR9))
        have HVA := hide ((blk_set (unhide HV9) 4 (.slice (some ⟨g9, 0, none⟩) 2 cap9)).trans rfl)
        have HOA := hide (owns_keep (unhide HO9) (grown_set w9 (w.heap.size + 1) 4 (.slice (some ⟨g9, 0, none⟩) 2 cap9)) (by simp [Value.ownBlock]; omega))
        clear vc vf
        generalize w9.setCell ⟨w.heap.size + 1, 4, none⟩ (.slice (some ⟨g9, 0, none⟩) 2 cap9) = wa at *
        have hza' : w.heap.size + 1 < wa.heap.size := lt_of_blk (unhide HVA)
        have HZ2 := hide (drop_tail (unhide HZ))
        refine (now_any _ _ _ _ _ _ _ _ _ (unhide HPA) (unhide HZ2)).mono ?_
        rintro e wx ⟨rfl, hbx⟩
        simp only [tkR]
        have HPX := hide ((unhide HPA).later hbx)
        have HGX := hide ((unhide HGA).trans (grown_below hbx _))
        have HRX := hide ((hbx.block w.heap.size (by omega)).trans (unhide HRA))
        have HVX := hide ((hbx.block (w.heap.size + 1) (by omega)).trans (unhide HVA))
        have HOX := hide (owns_later (unhide HOA) hbx)
        have hzx : w.heap.size + 1 < wx.heap.size := lt_of_blk (unhide HVX)
        clear hbx
        have vc := fun o => cell_of_blk (unhide HVX) o
        have vf := fun o => frozen_of_blk (unhide HVX) o
        obtain ⟨jy, hjy⟩ : ∃ j, j = if (!false && z2.k == 19) = true then (j4 + 1 + 1) + 1 else (j4 + 1 + 1) := ⟨_, rfl⟩
        obtain ⟨by', hby⟩ : ∃ b, b = !(!false && z2.k == 19) := ⟨_, rfl⟩
        have HJY := hide hjy
        have HBY := hide hby
        clear hjy hby
        go_wp2_with (go_at_call 245; refine (must_any _ 19 _ _ _ _ _ _ _ _ _ ((unhide HPX).setOther _ _ _ (by omega) (by omega)) (unhide HZ2) rfl (by decide) (by decide) jy by' (unhide HJY) (unhide HBY)).mono ?_)
        rintro e wy ⟨rfl, hpy, hgy⟩
        have HPY := hide hpy
        have HGY := hide ((grown_setNew (unhide HGX) (b := w.heap.size + 1) (by omega) _ _).trans hgy)
        have HRY := hide ((hgy.block w.heap.size (by simp [World.setCell]; omega) (by simp; omega)).trans ((Below.heap_setCell _ _ _ _ (by simp)).trans (unhide HRX)))
        have HVY : Hid (wy.heap[w.heap.size + 1]? = some (.cells #[.int .i64 0, .int .u8 (refK t.k), .string t.s, .int .i64 t.p, .slice (some ⟨g9, 0, none⟩) 2 cap9, .int .i64 z2.p, .pointer none] 235 (0, 0))) :=
          (hgy.block (w.heap.size + 1) (by simp [World.setCell]; omega) (by simp; omega)).trans ((blk_set (unhide HVX) _ _).trans rfl)
        have HOY := hide (owns_keep (owns_keep (unhide HOX) (grown_set _ (w.heap.size + 1) 5 (.int .i64 z2.p)) (by simp [Value.ownBlock]; omega)) hgy (by simp [Value.ownBlock]; omega))
        have hzy : w.heap.size + 1 < wy.heap.size := lt_of_blk (unhide HVY)
        clear vc vf hpy hgy
        have vc := fun o => cell_of_blk (unhide HVY) o
        have rc := fun o => cell_of_blk (unhide HRY) o
        have rf := fun o => frozen_of_blk (unhide HRY) o
        go_wp2_with fail
        refine bodyPost_ret (v := rlV 0 (refK t.k) t.s t.p (some ⟨g9, 0, none⟩) 2 cap9 z2.p none) ?_ rfl ?_
        · simp [results, Tryz.results248, go_sem, rlV, rc]
        have hgr := grown_setNew8 (unhide HGY) w.heap.size (Nat.le_refl _) (.int .i64 0) (.int .u8 (refK t.k)) (.string t.s) (.int .i64 t.p) (.slice (some ⟨g9, 0, none⟩) 2 cap9) (.int .i64 z2.p) (.pointer none)
        have hps := (unhide HPY).set7 w.heap.size (by omega) (by omega) (.int .i64 0) (.int .u8 (refK t.k)) (.string t.s) (.int .i64 t.p) (.slice (some ⟨g9, 0, none⟩) 2 cap9) (.int .i64 z2.p) (.pointer none)
        have how := owns_keep (unhide HOY) (grown7 wy w.heap.size (.int .i64 0) (.int .u8 (refK t.k)) (.string t.s) (.int .i64 t.p) (.slice (some ⟨g9, 0, none⟩) 2 cap9) (.int .i64 z2.p) (.pointer none)) (by simp [Value.ownBlock]; omega)
        refine ⟨hgr, _, _, _, _, _, _, _, _, _, rfl, ?_⟩
        have hz2k : headK (L.drop (j4 + 1 + 1)) = z2.k := by rw [unhide HZ2]; rfl
        have hz2p : headP (L.drop (j4 + 1 + 1)) = z2.p := by rw [unhide HZ2]; rfl
        cases h19 : (!false && z2.k == 19) with
        | true =>
          have hj' : jy = j4 + 1 + 1 + 1 := by rw [unhide HJY, h19]; rfl
          have hb' : by' = false := by rw [unhide HBY, h19]; rfl
          subst hj' hb'
          rw [(unhide HRR).2.1 (unhide HZK) (by rw [hz2k]; simpa using h19), hz2p]
          refine ⟨⟨rfl, ?_⟩, j4 + 1 + 1 + 1, rfl, hps⟩
          rw [if_pos rfl]
          exact ⟨rfl, rfl, rfl, owns_mono how (Nat.zero_le _), rfl, rfl⟩
        | false =>
          have hj' : jy = j4 + 1 + 1 := by rw [unhide HJY, h19]; rfl
          have hb' : by' = true := by rw [unhide HBY, h19]; rfl
          subst hj' hb'
          rw [(unhide HRR).2.2 (unhide HZK) (by rw [hz2k]; simpa using h19)]
          exact ⟨_, rfl, hps⟩
    · have e1 : (refK z.k != 110) = true := by rw [refK_n]; simp; omega
      have e2 : (refK z.k != 100) = true := by rw [refK_d]; simp; omega
      have HZK := hide hzk
      clear hzk
      go_wp2_with (go_at_call 280; refine (fail_any _ _ _ _ _ _ _ ((unhide HP7).alloc _)).mono ?_)
      rintro e w8 ⟨rfl, hp8, hg8⟩
      have HP8 := hide hp8
      have HG8 := hide ((grown_alloc (unhide HG7) _).trans hg8)
      have HR8 := hide ((hg8.block w.heap.size (by simp; omega) (by simp; omega)).trans ((Below.heap_alloc _ _ _ (by omega)).trans (unhide HR7)))
      have HV8 := hide ((hg8.block (w.heap.size + 1) (by simp; omega) (by simp; omega)).trans ((Below.heap_alloc _ _ _ (by omega)).trans (unhide HV7)))
      have hz8' : w.heap.size + 1 < w8.heap.size := lt_of_blk (unhide HV8)
      clear vc vf hp8 hg8
      have vc := fun o => cell_of_blk (unhide HV8) o
      have rc := fun o => cell_of_blk (unhide HR8) o
      have rf := fun o => frozen_of_blk (unhide HR8) o
      go_wp2_with fail
      refine bodyPost_ret (v := rlV 0 (refK t.k) t.s t.p (some ⟨g5, 0, none⟩) 1 cap5 0 none) ?_ rfl ?_
      · simp [results, Tryz.results248, go_sem, rlV, rc]
      rw [(unhide HRR).1 (unhide HZK)]
      exact ⟨grown_setNew8 (unhide HG8) w.heap.size (Nat.le_refl _) _ _ _ _ _ _ _, _, _, _, _, _, _, _, _, _, rfl, _, rfl, (unhide HP8).set7 w.heap.size (by omega) (by omega) _ _ _ _ _ _ _⟩
theorem rule_any (w:World) (pb g cap:Nat) (L:List Tk) (i:Nat) (h:PS w pb g cap L i false):
  Calls Tryz.prog 248 #[.pointer (some ⟨pb,0,none⟩)] w fun e w'=>RLeft L pb g cap w w' e (ruleRead (L.drop i)):=by
 by_cases h2:headK (L.drop i)=2
 ·by_cases h18:headK (L.drop i).tail=18
  ·obtain ⟨t,u,r,ht,hk⟩:=head_yes h.ends (by decide) h2
   have hu:u.k=18:=by rw [ht] at h18;exact h18
   have he:=h.ends
   rw [ht] at he
   obtain ⟨v,r0,rfl⟩:=he.2.more (by omega)
   exact rule_call w pb g cap L i t u v r0 h ht hk hu
  ·exact rule_formula2 w pb g cap L i h h2 h18
 ·exact rule_formula w pb g cap L i h h2
def KT (w w':World):Prop:= ∀(b:Nat) (c:Array Value) (ty:Nat) (m:Nat × Nat),(ty=232∨ty=292)→w.heap[b]? =some (.cells c ty m)→w'.heap[b]? =some (.cells c ty m)
theorem KT.refl (w:World):KT w w:=fun _ _ _ _ _ h=>h
theorem KT.trans {a b c:World} (h:KT a b) (k:KT b c):KT a c:=fun x y z m ht hh=>k x y z m ht (h x y z m ht hh)
theorem KT.below {w w':World} (h:Below w.heap.size w w'):KT w w':=fun b _ _ _ _ hh=>(h.block b (lt_of_blk hh)).trans hh
theorem KT.alloc (w:World) (o:Obj):KT w (w.alloc o):=KT.below ((Below.refl _ _).alloc (Nat.le_refl _) _)
theorem KT.grown {w w':World} {r ty:Nat} (h:w.grownBy w' (some r)) (ht:TyAt w r ty) (h1:ty≠232) (h2:ty≠292):KT w w':=fun b c t m hty hh=>by
 refine (h.block b (lt_of_blk hh) ?_).trans hh
 intro e
 cases e
 obtain ⟨c',m',hc⟩:=ht
 rw [hc] at hh
 injection hh with hh
 injection hh with _ hh _
 rcases hty with rfl|rfl
 ·exact h1 hh
 ·exact h2 hh
theorem KT.grownNone {w w':World} (h:w.grownBy w' none):KT w w':=fun b _ _ _ _ hh=>(h.block b (lt_of_blk hh) (by simp)).trans hh
theorem KT.set {w:World} {b ty:Nat} (o:Nat) (v:Value) (ht:TyAt w b ty) (h1:ty≠232) (h2:ty≠292):KT w (w.setCell ⟨b,o,none⟩ v):=KT.grown (grown_set w b o v) ht h1 h2
theorem KT.ps {w w':World} {pb g cap:Nat} {L:List Tk} {i:Nat} {bad:Bool} (h:PS w pb g cap L i bad) (hg:w.grownBy w' (some pb)):KT w w':=KT.grown hg ⟨_,_,h.blk⟩ (by decide) (by decide)
theorem KT.isF {w w':World} (h:KT w w'): ∀{f:Fm} {p:Option Addr},IsF w f p→IsF w' f p
 | .nil,_,hf=>hf
 | .node _ _ _ _ _,_,⟨b,vl,vr,hv,hb,hl,hr⟩=>⟨b,vl,vr,hv,h _ _ _ _ (Or.inr rfl) hb,h.isF hl,h.isF hr⟩
theorem KT.owns {w w':World} (h:KT w w') {base n:Nat} {v:Value} {xs:List Value} (ho:w.ownsRow base 232 3 v n xs):w'.ownsRow base 232 3 v n xs:=by
 obtain ⟨h1,h2⟩:=ho
 refine ⟨h1, ?_⟩
 rcases h2 with h2|⟨g,cap,cur,hv,hgb,hh,r⟩
 ·exact Or.inl h2
 ·exact Or.inr ⟨g,cap,cur,hv,hgb,h _ _ _ _ (Or.inl rfl) hh,r⟩
theorem KT.rl {w w':World} (h:KT w w') {r:Rl} {a b:Int} {s:ByteArray} {c:Int} {o:Option Addr} {n k:Nat} {d:Int} {p:Option Addr} (hr:RlIs w r a b s c o n k d p):RlIs w' r a b s c o n k d p:=by
 obtain ⟨h1,h2⟩:=hr
 refine ⟨h1, ?_⟩
 split
 ·rename_i hc;rw [if_pos hc] at h2;exact ⟨h2.1,h2.2.1,h2.2.2.1,h.owns h2.2.2.2.1,h2.2.2.2.2⟩
 ·rename_i hc;rw [if_neg hc] at h2;exact ⟨h.isF h2.1,h2.2⟩
def RulesAre (w:World):List Rl→List Value→Prop
 |[],cs=>cs=[]
 |r::rs,cs=> ∃a b s c o n k d p cs',cs=[.int .i64 a,.int .u8 b,.string s,.int .i64 c,.slice o n k,.int .i64 d,.pointer p]++cs'∧RlIs w r a b s c o n k d p∧RulesAre w rs cs'
theorem KT.rules {w w':World} (h:KT w w'): ∀{rs:List Rl} {cs:List Value},RulesAre w rs cs→RulesAre w' rs cs
 |[],_,hh=>hh
 |_::_,_,⟨a,b,s,c,o,n,k,d,p,cs',e,hr,hrs⟩=>⟨a,b,s,c,o,n,k,d,p,cs',e,h.rl hr,h.rules hrs⟩
theorem RulesAre.snoc {w:World}: ∀{rs:List Rl} {cs:List Value} {r:Rl} {a b:Int} {s:ByteArray} {c:Int} {o:Option Addr} {n k:Nat} {d:Int} {p:Option Addr},RulesAre w rs cs→RlIs w r a b s c o n k d p→
  RulesAre w (rs++[r]) (cs++[.int .i64 a,.int .u8 b,.string s,.int .i64 c,.slice o n k,.int .i64 d,.pointer p])
 |[],_,r,a,b,s,c,o,n,k,d,p,h,hr=>⟨a,b,s,c,o,n,k,d,p,[],by rw [show _=[] from h];simp,hr,rfl⟩
 |x::xs,_,r,a,b,s,c,o,n,k,d,p,⟨a',b',s',c',o',n',k',d',p',cs',e,hx,hxs⟩,hr=>⟨a',b',s',c',o',n',k',d',p',_,by rw [e,List.append_assoc],hx,hxs.snoc hr⟩
def plusA (acc:List Tk) (x:Except Nat (List Tk × List Tk)):Except Nat (List Tk × List Tk):=match x with| .error q=> .error q| .ok (ts,l)=> .ok (acc++ts,l)
def plusR (al:List Tk) (acc:List Rl) (x:Except Nat (List Rl)):Except Nat (List Tk × List Rl):=match x with| .error q=> .error q| .ok rs=> .ok (al,acc++rs)
def actsX (l:List Tk):Except Nat (List Tk × List Tk):=if headK l=4 then actsRead l.length l.tail else .error (headP l)
theorem modelRead_eq (l:List Tk):modelRead l=(match actsX l with| .error q=> .error q| .ok (al,l1)=>if headK l1=21 then plusR al [] (rulesRead l1.length l1.tail) else .error (headP l1)):=by
 unfold modelRead actsX
 split
 ·cases actsRead l.length l.tail with
  |error q=>rfl
  |ok x=>
   obtain ⟨al,l1⟩:=x
   simp only
   split
   ·cases rulesRead l1.length l1.tail<;>rfl
   ·rfl
 ·rfl
theorem Tryz.infoRul:(Tryz.prog.info? 235).map (fun i=>(i.zero,i.size,i.bytes))=some (some (.agg #[.int .i64 0,.int .u8 0,.string ⟨#[]⟩,.int .i64 0,.slice none 0 0,.int .i64 0,.pointer none]),7,80):=by kernel_rfl
theorem own_ty {w:World} {base e size n b ty:Nat} {v:Value} {xs:List Value} {c:Array Value} {m:Nat × Nat} (h:w.ownsRow base e size v n xs) (hb:v.ownBlock=some b) (hc:w.heap[b]? =some (.cells c ty m)) (hne:ty≠e):False:=by
 obtain ⟨_,h2|⟨g,cap,cur,hv,_,hh,_⟩⟩:=h
 ·rw [h2.1] at hb;cases hb
 ·rw [hv] at hb;cases hb
  rw [hc] at hh
  injection hh with hh
  injection hh with _ hh _
  exact hne hh
theorem actsRead_len: ∀n l ts l',actsRead n l= .ok (ts,l')→l'.length≤l.length
 |0,_,_,_,h=>by simp [actsRead] at h
 |n+1,l,ts,l',h=>by
  rw [actsRead] at h
  split at h
  ·split at h
   ·split at h
    ·cases h
    ·rename_i ts1 l1 e
     have:=actsRead_len n _ _ _ e
     cases h;simp at this;omega
   ·cases h;simp
  ·cases h
theorem ruleRead_len (l:List Tk) (r:Rl) (l':List Tk) (h:ruleRead l= .ok (r,l')):l'.length≤l.length:=by
 rw [ruleRead] at h
 split at h
 ·split at h
  ·split at h
   ·split at h
    ·split at h
     ·cases h;simp;omega
     ·cases h
    ·cases h
   ·split at h
    ·cases h;simp;omega
    ·cases h
  ·cases h
 ·split at h
  ·cases h
  ·rename_i f l1 e
   have:=pf_len _ _ _ _ _ _ e
   cases h;exact this
def RBoth (L : List Tk) (pb g cap j : Nat) (bad : Bool) (w w' : World) (e : Ending) : Prop :=
  w.grownBy w' (some pb) ∧ ∃ a b s c o n k d p j' bad', e = .returned (rlV a b s c o n k d p) ∧ PS w' pb g cap L j' bad' ∧
    ((bad' = false ∧ bad = false ∧ ∃ r, ruleRead (L.drop j) = .ok (r, L.drop j') ∧ RlIs w' r a b s c o n k d p) ∨
     (bad' = true ∧ (bad = true → j' = j) ∧ (bad = false → ruleRead (L.drop j) = .error (headP (L.drop j')))))
theorem rule_both (w:World) (pb g cap:Nat) (L:List Tk) (j:Nat) (bad:Bool) (h:PS w pb g cap L j bad):
  Calls Tryz.prog 248 #[.pointer (some ⟨pb,0,none⟩)] w fun e w'=>RBoth L pb g cap j bad w w' e:=by
 cases bad with
 |false=>
  refine (rule_any w pb g cap L j h).mono ?_
  rintro e w' ⟨hg,a,b,s,c,o,n,k,d,p,he,hx⟩
  cases hr:ruleRead (L.drop j) with
  |error q=>
   rw [hr] at hx
   obtain ⟨j',hq,hp⟩:=hx
   exact ⟨hg,a,b,s,c,o,n,k,d,p,j',true,he,hp,Or.inr ⟨rfl,by simp,fun _=>by rw [hr,hq]⟩⟩
  |ok x=>
   obtain ⟨r,l⟩:=x
   rw [hr] at hx
   obtain ⟨hr',j',hl,hp⟩:=hx
   subst hl
   exact ⟨hg,a,b,s,c,o,n,k,d,p,j',false,he,hp,Or.inl ⟨rfl,rfl,r,hr,hr'⟩⟩
 |true=>
  refine (rule_lost w pb g cap L j h).mono ?_
  rintro e w' ⟨hg,a,b,s,c,o,n,k,d,p,he,hp⟩
  exact ⟨hg,a,b,s,c,o,n,k,d,p,j,true,he,hp,Or.inr ⟨rfl,fun _=>rfl,by simp⟩⟩
theorem own_ne {w:World} {base e size n pb:Nat} {v:Value} {xs:List Value} (h:w.ownsRow base e size v n xs) (hb:pb<base):v.ownBlock≠some pb:=by
 intro e;have:=own_lt h pb e;omega
theorem KT.own {w w':World} {base n:Nat} {v:Value} {xs:List Value} (h:w.grownBy w' v.ownBlock) (ho:w.ownsRow base 235 7 v n xs):KT w w':=by
 obtain ⟨_,h2|⟨g,cap,cur,hv,_,hh,_⟩⟩:=ho
 ·rw [h2.1] at h;exact KT.grownNone h
 ·rw [hv] at h;exact KT.grown (r:=g) h ⟨_,_,hh⟩ (by decide) (by decide)
theorem RlIs.pl {w:World} {r:Rl} {a b:Int} {s:ByteArray} {c:Int} {o:Option Addr} {n k:Nat} {d:Int} {p:Option Addr} (h:RlIs w r a b s c o n k d p) (q:Nat):RlIs w {r with pl:=q} q b s c o n k d p:=⟨rfl,h.2⟩
def LA (w:World) (pb g cap:Nat) (L:List Tk) (m:Nat) (mv:Value) (wr:World):Prop:=
 ∃(mb:Bool) (o1:Option Addr) (n1 k1:Nat) (acc:List Tk) (j:Nat) (bad:Bool),mv= .bool mb∧w.grownBy wr (some pb)∧PS wr pb g cap L j bad∧
  wr.heap[w.heap.size]? =some (.cells #[.slice none 0 0,.slice none 0 0] 228 (0,0))∧wr.heap[w.heap.size+1]? =some (.cells #[.slice o1 n1 k1,.slice none 0 0] 228 (0,0))∧
  wr.ownsRow w.heap.size 232 3 (.slice o1 n1 k1) acc.length (tkCellsR acc)∧
  ((bad=false∧mb=true∧(L.drop j).length≤m∧acc.length+(L.drop j).length≤L.length∧actsX (L.drop 0)=plusA acc (actsRead m (L.drop j)))∨(bad=false∧mb=false∧actsX (L.drop 0)= .ok (acc,L.drop j))∨(bad=true∧actsX (L.drop 0)= .error (headP (L.drop j))))
def LB (w : World) (pb g cap : Nat) (L : List Tk) (m : Nat) (wr : World) : Prop :=
  ∃ (o1 : Option Addr) (n1 k1 : Nat) (al : List Tk) (o2 : Option Addr) (n2 k2 nR : Nat) (cells : List Value) (j : Nat) (bad : Bool), w.grownBy wr (some pb) ∧ PS wr pb g cap L j bad ∧
    wr.heap[w.heap.size]? = some (.cells #[.slice none 0 0, .slice none 0 0] 228 (0, 0)) ∧ wr.heap[w.heap.size + 1]? = some (.cells #[.slice o1 n1 k1, .slice o2 n2 k2] 228 (0, 0)) ∧
    wr.ownsRow w.heap.size 235 7 (.slice o2 n2 k2) nR cells ∧
    ((bad = false ∧ wr.ownsRow w.heap.size 232 3 (.slice o1 n1 k1) al.length (tkCellsR al) ∧ ∃ rs, nR = rs.length ∧ RulesAre wr rs cells ∧ (L.drop j).length ≤ m ∧ rs.length + (L.drop j).length ≤ L.length ∧ modelRead (L.drop 0) = plusR al rs (rulesRead m (L.drop j))) ∨
     (bad = true ∧ modelRead (L.drop 0) = .error (headP (L.drop j))))
def MLeft (L:List Tk) (pb g cap:Nat) (w w':World) (e:Ending):Prop:=
 w.grownBy w' (some pb)∧ ∃o1 n1 k1 o2 n2 k2,e= .returned (.agg #[.slice o1 n1 k1,.slice o2 n2 k2])∧(match modelRead (L.drop 0) with
  | .ok (al,rs)=>w'.ownsRow 0 232 3 (.slice o1 n1 k1) al.length (tkCellsR al)∧(∃cells,w'.ownsRow 0 235 7 (.slice o2 n2 k2) rs.length cells∧RulesAre w' rs cells)∧ ∃j,PS w' pb g cap L j false
  | .error q=> ∃j,headP (L.drop j)=q∧PS w' pb g cap L j true)
set_option maxHeartbeats 4000000 in
set_option maxRecDepth 100000 in
theorem model_any (w:World) (pb g cap:Nat) (L:List Tk) (h:PS w pb g cap L 0 false):
  Calls Tryz.prog 200 #[.pointer (some ⟨pb,0,none⟩)] w fun e w'=>MLeft L pb g cap w w' e:=by
 obtain ⟨t,r,ht⟩:=drop_ne h.lt
 have HT:=hide ht
 have HP:=hide h
 have hp0:=lt_of_blk h.blk
 have hgl0:=h.gLt
 clear h ht
 obtain ⟨i0,hi0,hz0,hz1,hz2⟩:=info_parts Tryz.infoTok
 obtain ⟨m0,hm0,hmz0,hmz1,hmz2⟩:=info_parts Tryz.infoRul
 have fl0:=field0
 have fl2:=field2
 obtain ⟨j1,hj1⟩: ∃j,j=if (!false&&t.k==4)=true then 0+1 else 0:=⟨_,rfl⟩
 obtain ⟨b1,hb1⟩: ∃b,b= !(!false&&t.k==4):=⟨_,rfl⟩
 have HJ1:=hide hj1
 have HB1:=hide hb1
 clear hj1 hb1
 go_enter Tryz.func200,Tryz.ntmps200
 go_wp2_with (go_at_call 245;refine (must_any _ 4 _ _ _ _ _ _ _ _ _ (((unhide HP).alloc _).alloc _) (unhide HT) rfl (by decide) (by decide) j1 b1 (unhide HJ1) (unhide HB1)).mono ?_)
 rintro e w1 ⟨rfl,hp1,hg1⟩
 have HP1:=hide hp1
 have HG1:=hide ((grown_alloc (grown_alloc (World.grownBy.refl w (some pb)) _) _).trans hg1)
 have HR1:=hide (show w1.heap[w.heap.size]? =some (.cells #[.slice none 0 0,.slice none 0 0] 228 (0,0)) from
  (hg1.block _ (by simp;omega) (by simp;omega)).trans ((Below.heap_alloc _ _ _ (by simp)).trans (blk_alloc _ _)))
 have HV1:=hide (show w1.heap[w.heap.size+1]? =some (.cells #[.slice none 0 0,.slice none 0 0] 228 (0,0)) from
  (hg1.block _ (by simp) (by simp;omega)).trans (blk_alloc' _ _ _ (by simp)))
 clear hp1 hg1
 have hX:b1=false→j1=1∧actsX (L.drop 0)=actsRead L.length (L.drop 1):=by
  intro hb
  have h1:=unhide HB1
  rw [hb] at h1
  have hk:t.k=4:=by simpa using h1
  refine ⟨by rw [unhide HJ1];simp [hk], ?_⟩
  unfold actsX
  rw [if_pos (by rw [unhide HT];exact hk),List.tail_drop];rfl
 have hX':b1=true→j1=0∧actsX (L.drop 0)= .error (headP (L.drop 0)):=by
  intro hb
  have h1:=unhide HB1
  rw [hb] at h1
  have hk:t.k≠4:=by simpa using h1
  refine ⟨by rw [unhide HJ1];simp [hk], ?_⟩
  unfold actsX
  rw [if_neg (by rw [unhide HT];exact hk)]
 have hlen:=(unhide HP).len
 have hstart:LA w pb g cap L L.length (.bool true) w1:=by
  refine ⟨true,none,0,0,[],j1,b1,rfl,unhide HG1,unhide HP1,unhide HR1,unhide HV1,World.ownsRow_nil _ _ _ _, ?_⟩
  cases b1 with
  |false=>
   obtain ⟨hj,hx⟩:=hX rfl
   subst hj
   refine Or.inl ⟨rfl,rfl,by simp,by simp, ?_⟩
   rw [hx];unfold plusA;cases actsRead L.length (L.drop 1)<;>simp
  |true=>
   obtain ⟨hj,hx⟩:=hX' rfl
   subst hj
   exact Or.inr (Or.inr ⟨rfl,hx⟩)
 have HS:=hide hstart
 clear hstart hX hX' HJ1 HB1 HP1 HG1 HR1 HV1
 go_wp2_with fail
 go_loopg [4] L.length (fun m v wr=>LA w pb g cap L m v wr)
 case atStart=>exact unhide HS
 case round=>
  clear HS HT
  obtain ⟨mb,o1,n1,k1,acc,j,bad,rfl,hgr,hps,hrb,hvb,how,hcase⟩:=hrel
  have HG:=hide hgr
  have HP2:=hide hps
  have HR:=hide hrb
  have HV:=hide hvb
  have HO:=hide how
  have hz:w.heap.size+1<wr.heap.size:=lt_of_blk hvb
  obtain ⟨c0,c1,c2⟩:=hps.cells
  clear hgr hps hrb hvb how
  rcases hcase with ⟨rfl,rfl,hm,hacc,hx⟩|hdone
  ·obtain ⟨m,rfl⟩: ∃m,gk=m+1:=⟨gk - 1,by have:=(unhide HP2).lt;rw [List.length_drop] at hm;omega⟩
   obtain ⟨y,r1,hy⟩:=drop_ne (unhide HP2).lt
   have HY:=hide hy
   have HX:=hide hx
   have HM:=hide hm
   have HAC:=hide hacc
   clear hx hm
   obtain ⟨j3,hj3⟩: ∃j3,j3=if (!false&&y.k==2)=true then j+1 else j:=⟨_,rfl⟩
   obtain ⟨b3,hb3⟩: ∃b,b= !(!false&&y.k==2):=⟨_,rfl⟩
   have HJ3:=hide hj3
   have HB3:=hide hb3
   have hal:acc.length<401:=by have:=congrArg List.length hy;simp at this hacc;omega
   clear hj3 hb3 hy hacc
   go_wp2_with (go_at_call 246;refine (name_any _ _ _ _ _ _ _ _ _ (unhide HP2) (unhide HY) j3 b3 (unhide HJ3) (unhide HB3)).mono ?_)
   rintro e w3 ⟨rfl,hp3,hg3⟩
   simp only [tkR]
   have HP3:=hide hp3
   have HG3:=hide ((unhide HG).trans hg3)
   have HR3:=hide ((hg3.block w.heap.size (by omega) (by simp;omega)).trans (unhide HR))
   have HV3:=hide ((hg3.block (w.heap.size+1) hz (by simp;omega)).trans (unhide HV))
   have HO3:=hide ((KT.ps (unhide HP2) hg3).owns (unhide HO))
   have hz3:w.heap.size+1<w3.heap.size:=lt_of_blk (unhide HV3)
   clear hp3 hg3 c0 c1 c2
   have vc:=fun o=>cell_of_blk (unhide HV3) o
   have vf:=fun o=>frozen_of_blk (unhide HV3) o
   go_wp2_with (at_builtin;go_must (refine wpList_append_own _ rfl _ _ 225 rfl w.heap.size 232 i0 (.agg #[.int .u8 0,.string ⟨#[]⟩,.int .i64 0]) 3 32 Tryz.underlying225 hi0 hz0 hz1 hz2 rfl (by decide) _ acc.length (tkCellsR acc) rfl ?c0 ⟨w3.heap.size+1,0,none⟩ 1 1 [.int .u8 (refK y.k),.string y.s,.int .i64 y.p] rfl rfl ?c1 ?c2 ?c3 ?c4 ?c5 ?_))
   case c0=>exact ((unhide HO3).alloc _).alloc _
   case c1=>
    intro j u hj
    match j,hj with
    |0,hj=>simp at hj;subst hj;exact (cell_of_blk (blk_alloc' _ _ _ (by simp)) 0).trans rfl
    |1,hj=>simp at hj;subst hj;exact (cell_of_blk (blk_alloc' _ _ _ (by simp)) 1).trans rfl
    |2,hj=>simp at hj;subst hj;exact (cell_of_blk (blk_alloc' _ _ _ (by simp)) 2).trans rfl
    |j+3,hj=>simp at hj
   case c2=>intro u hu;simp at hu;rcases hu with rfl|rfl|rfl<;>rfl
   case c3=>unfold maxLen;omega
   case c4=>omega
   case c5=>simp;omega
   intro v4 w4 hown4 hgrow4 _
   obtain ⟨hlen4,h4|⟨g4,cap4,cur4,hv4,hrest4⟩⟩:=hown4
   ·exact absurd h4.2 (by omega)
   subst hv4
   have HO4:Hid (w4.ownsRow w.heap.size 232 3 (.slice (some ⟨g4,0,none⟩) (acc.length+1) cap4) (acc++[y]).length (tkCellsR (acc++[y]))):=by
    rw [tkCellsR_snoc,List.length_append];exact ⟨hlen4,Or.inr ⟨g4,cap4,cur4,rfl,hrest4⟩⟩
   have hol:=own_lt (unhide HO3)
   have hgp:some pb≠(Value.slice o1 n1 k1).ownBlock:=by intro e;have:=hol pb e.symm;omega
   have hgg:some g≠(Value.slice o1 n1 k1).ownBlock:=by intro e;have:=hol g e.symm;omega
   have hgR:some w.heap.size≠(Value.slice o1 n1 k1).ownBlock:=by intro e;exact own_ty (unhide HO3) e.symm (unhide HR3) (by decide)
   have hgV:some (w.heap.size+1)≠(Value.slice o1 n1 k1).ownBlock:=by intro e;exact own_ty (unhide HO3) e.symm (unhide HV3) (by decide)
   have HP4:=hide ((((unhide HP3).alloc _).alloc _).grown hgrow4 hgp hgg)
   have HG4:=hide ((grown_alloc (grown_alloc (unhide HG3) _) _).andThen hgrow4 (fun j hj=>by left;exact (hol j hj).1))
   have HR4:=hide ((hgrow4.block w.heap.size (by simp;omega) hgR).trans ((Below.heap_alloc _ _ _ (by simp;omega)).trans ((Below.heap_alloc _ _ _ (by omega)).trans (unhide HR3))))
   have HV4:=hide ((hgrow4.block (w.heap.size+1) (by simp;omega) hgV).trans ((Below.heap_alloc _ _ _ (by simp;omega)).trans ((Below.heap_alloc _ _ _ (by omega)).trans (unhide HV3))))
   have hz4:w.heap.size+1<w4.heap.size:=lt_of_blk (unhide HV4)
   have hg4ne:g4≠w.heap.size+1:=by intro e;have h1:=hrest4.2.1;rw [e,unhide HV4] at h1;simp at h1
   have hg4ge:w.heap.size≤g4:=hrest4.1
   clear vc vf hgrow4 hrest4 hol hgp hgg hgR hgV hlen4
   have vc:=fun o=>cell_of_blk (unhide HV4) o
   have vf:=fun o=>frozen_of_blk (unhide HV4) o
   obtain ⟨x,r2,hx2⟩:=drop_ne (unhide HP4).lt
   have HX2:=hide hx2
   clear hx2
   obtain ⟨b5,hb5⟩: ∃b,b=(!b3&&x.k==20):=⟨_,rfl⟩
   obtain ⟨j5,hj5⟩: ∃j,j=if (!b3&&x.k==20)=true then j3+1 else j3:=⟨_,rfl⟩
   have HB5:=hide hb5
   have HJ5:=hide hj5
   clear hb5 hj5
   go_wp2_with (go_at_call 247;refine (take_any _ 20 _ _ _ _ _ _ _ _ _ ((unhide HP4).setOther _ _ _ (by omega) (by omega)) (unhide HX2) rfl (by decide) (by decide) b5 (unhide HB5) j5 (unhide HJ5)).mono ?_)
   rintro e w5 ⟨rfl,hp5,hg5⟩
   have HP5:=hide hp5
   have HG5:=hide ((grown_setNew (unhide HG4) (b:=w.heap.size+1) (by omega) _ _).trans hg5)
   have HR5:=hide ((hg5.block w.heap.size (by simp [World.setCell];omega) (by simp;omega)).trans ((Below.heap_setCell _ _ _ _ (by simp)).trans (unhide HR4)))
   have HV5:Hid (w5.heap[w.heap.size+1]? =some (.cells #[.slice (some ⟨g4,0,none⟩) (acc.length+1) cap4,.slice none 0 0] 228 (0,0))):=
    (hg5.block (w.heap.size+1) (by simp [World.setCell];omega) (by simp;omega)).trans ((blk_set (unhide HV4) _ _).trans rfl)
   have HO5:=hide (owns_keep (owns_keep (unhide HO4) (grown_set _ (w.heap.size+1) 0 (.slice (some ⟨g4,0,none⟩) (acc.length+1) cap4)) (by simp [Value.ownBlock];omega)) hg5 (by simp [Value.ownBlock];omega))
   clear vc vf hp5 hg5
   go_wp2_with fail
   go_roundg m
   case measure=>omega
   case rel=>
    refine ⟨b5,_,_,_,acc++[y],j5,b3,rfl,unhide HG5,unhide HP5,unhide HR5,unhide HV5,unhide HO5, ?_⟩
    have hX:=unhide HX
    rw [unhide HY,actsRead] at hX
    have hm:=unhide HM
    have hac:=unhide HAC
    have hb3:=unhide HB3
    have hj3:=unhide HJ3
    have hb5:=unhide HB5
    have hj5:=unhide HJ5
    have hx2:=unhide HX2
    have hy:=unhide HY
    by_cases hyk:y.k=2
    ·have e3:b3=false:=by rw [hb3];simp [hyk]
     have ej:j3=j+1:=by rw [hj3];simp [hyk]
     subst e3 ej
     have htl:=drop_tail hy
     rw [htl] at hx2
     rw [if_pos (show headK (y::r1)=2 from hyk)] at hX
     by_cases hxk:x.k=20
     ·have e5:b5=true:=by rw [hb5];simp [hxk]
      have ej5:j5=j+1+1:=by rw [hj5];simp [hxk]
      subst e5 ej5
      have htl2:L.drop (j+1+1)=r2:=drop_tail (htl.trans hx2)
      rw [if_pos (show headK (y::r1).tail=20 by rw [List.tail_cons,hx2];exact hxk)] at hX
      refine Or.inl ⟨rfl,rfl, ?_, ?_, ?_⟩
      ·rw [htl2];rw [hy,hx2] at hm;simp at hm;omega
      ·rw [htl2];rw [hy,hx2] at hac;simp at hac⊢;omega
      ·rw [hX,htl2,hx2]
       simp only [List.tail_cons]
       unfold plusA
       cases actsRead m r2 with
       |error q=>rfl
       |ok z=>obtain ⟨ts,l⟩:=z;simp [headT]
     ·have e5:b5=false:=by rw [hb5];simp [hxk]
      have ej5:j5=j+1:=by rw [hj5];simp [hxk]
      subst e5 ej5
      rw [if_neg (show ¬ headK (y::r1).tail=20 by rw [List.tail_cons,hx2];exact hxk)] at hX
      refine Or.inr (Or.inl ⟨rfl,rfl, ?_⟩)
      rw [hX,htl];rfl
    ·have e3:b3=true:=by rw [hb3];simp [hyk]
     have ej:j3=j:=by rw [hj3];simp [hyk]
     subst e3 ej
     have ej5:j5=j3:=by rw [hj5];simp
     subst ej5
     rw [if_neg (show ¬ headK (y::r1)=2 from hyk)] at hX
     refine Or.inr (Or.inr ⟨rfl, ?_⟩)
     rw [hX,hy];rfl
  ·rcases hdone with ⟨rfl,rfl,hx⟩|⟨rfl,hx⟩
   ·obtain ⟨x,r2,hx2⟩:=drop_ne (unhide HP2).lt
    have HX2:=hide hx2
    have HX:=hide hx
    clear hx2 hx
    obtain ⟨j6,hj6⟩: ∃j6,j6=if (!false&&x.k==21)=true then j+1 else j:=⟨_,rfl⟩
    obtain ⟨b6,hb6⟩: ∃b,b= !(!false&&x.k==21):=⟨_,rfl⟩
    have HJ6:=hide hj6
    have HB6:=hide hb6
    clear hj6 hb6
    go_wp2_with (go_at_call 245;refine (must_any _ 21 _ _ _ _ _ _ _ _ _ (unhide HP2) (unhide HX2) rfl (by decide) (by decide) j6 b6 (unhide HJ6) (unhide HB6)).mono ?_)
    rintro e w6 ⟨rfl,hp6,hg6⟩
    have hstart:LB w pb g cap L (L.drop j).length w6:=by
     refine ⟨o1,n1,k1,acc,none,0,0,0,[],j6,b6,(unhide HG).trans hg6,hp6,(hg6.block w.heap.size (by omega) (by simp;omega)).trans (unhide HR),(hg6.block (w.heap.size+1) hz (by simp;omega)).trans (unhide HV),World.ownsRow_nil _ _ _ _, ?_⟩
     by_cases hk:x.k=21
     ·have e6:b6=false:=by rw [unhide HB6];simp [hk]
      have ej:j6=j+1:=by rw [unhide HJ6];simp [hk]
      subst e6 ej
      refine Or.inl ⟨rfl,(KT.ps (unhide HP2) hg6).owns (unhide HO),[],rfl,rfl, ?_, ?_, ?_⟩
      ·simp;omega
      ·simp
      ·rw [modelRead_eq,unhide HX]
       simp only
       rw [if_pos (by rw [unhide HX2];exact hk),List.tail_drop]
     ·have e6:b6=true:=by rw [unhide HB6];simp [hk]
      have ej:j6=j:=by rw [unhide HJ6];simp [hk]
      subst e6 ej
      refine Or.inr ⟨rfl, ?_⟩
      rw [modelRead_eq,unhide HX]
      simp only
      rw [if_neg (by rw [unhide HX2];exact hk)]
    have HS:=hide hstart
    clear hstart hp6 hg6 HJ6 HB6 HX2 HX HP2 HG HR HV HO c0 c1 c2 hz
    go_wp2_with fail
    go_loopg [] (L.drop j).length (fun m wr=>LB w pb g cap L m wr)
    case atStart=>exact unhide HS
    case round=>
     clear HS
     obtain ⟨o1,n1,k1,al,o2,n2,k2,nR,cells,j,bad,hgr,hps,hrb,hvb,how,hcase⟩:=hrel
     have HGQ:=hide hgr
     have HPQ:=hide hps
     have HRQ:=hide hrb
     have HVQ:=hide hvb
     have HOQ:=hide how
     have hz:w.heap.size+1<wr.heap.size:=lt_of_blk hvb
     obtain ⟨c0,c1,c2⟩:=hps.cells
     clear hgr hps hrb hvb how
     rcases hcase with ⟨rfl,hoa,rs,rfl,hrs,hm,hac,hx⟩|⟨rfl,hx⟩
     ·obtain ⟨m,rfl⟩: ∃m,gk=m+1:=⟨gk - 1,by have:=(unhide HPQ).lt;rw [List.length_drop] at hm;omega⟩
      obtain ⟨y,r1,hy⟩:=drop_ne (unhide HPQ).lt
      have hal:rs.length<401:=by have:=congrArg List.length hy;simp at this hac;omega
      have HY:=hide hy
      have HX:=hide hx
      have HM:=hide hm
      have HAC:=hide hac
      have HA:=hide hoa
      have HRS:=hide hrs
      clear hx hm hac hoa hrs hy
      by_cases h0:y.k=0
      ·have e0:(refK y.k !=101)=false:=by rw [bne,refK_end];simp [h0]
       have HY0:=hide h0
       clear h0
       go_wp2_with (go_at_call 201;refine (now_any _ _ _ _ _ _ _ _ _ (unhide HPQ) (unhide HY)).mono ?_;rintro e w7 ⟨rfl,hb7⟩;simp only [tkR];have HP7:=hide ((unhide HPQ).later hb7);have HG7:=hide ((unhide HGQ).trans (grown_below hb7 _));have HR7:=hide ((hb7.block w.heap.size (by omega)).trans (unhide HRQ));have HV7:=hide ((hb7.block (w.heap.size+1) hz).trans (unhide HVQ));have HO7:=hide (owns_later (unhide HOQ) hb7);have HA7:=hide (owns_later (unhide HA) hb7);have HRS7:=hide ((KT.below hb7).rules (unhide HRS));have hz7:w.heap.size+1<w7.heap.size:=lt_of_blk (unhide HV7);clear hb7;have vc:=fun o=>cell_of_blk (unhide HV7) o;have rc:=fun o=>cell_of_blk (unhide HR7) o;have rf:=fun o=>frozen_of_blk (unhide HR7) o)
       go_wp2_with fail
       refine bodyPost_ret (v:= .agg #[.slice o1 n1 k1,.slice o2 n2 k2]) ?_ rfl ?_
       ·simp [results,Tryz.results200,go_sem,rc]
       have hps2:=((unhide HP7).setOther w.heap.size 0 (.slice o1 n1 k1) (by omega) (by omega)).setOther w.heap.size 1 (.slice o2 n2 k2) (by omega) (by omega)
       have hgr2:=grown_setNew (grown_setNew (unhide HG7) (Nat.le_refl _) 0 (.slice o1 n1 k1)) (Nat.le_refl _) 1 (.slice o2 n2 k2)
       have hkt:=(KT.set 0 (.slice o1 n1 k1) (⟨_,_,unhide HR7⟩:TyAt w7 w.heap.size 228) (by decide) (by decide)).trans (KT.set 1 (.slice o2 n2 k2) (TyAt.set ⟨_,_,unhide HR7⟩ _ _) (by decide) (by decide))
       have hmr:modelRead (L.drop 0)= .ok (al,rs):=by
        rw [unhide HX,unhide HY,rulesRead,if_pos (show headK (y::r1)=0 from unhide HY0)];simp [plusR]
       refine ⟨hgr2,_,_,_,_,_,_,rfl, ?_⟩
       rw [hmr]
       refine ⟨owns_mono (hkt.owns (unhide HA7)) (Nat.zero_le _),⟨cells, ?_,hkt.rules (unhide HRS7)⟩,j,hps2⟩
       exact owns_mono (owns_keep (owns_keep (unhide HO7) (grown_set _ _ _ _) (by right;intro e;exact own_ty (unhide HO7) e (unhide HR7) (by decide))) (grown_set _ _ _ _) (by right;intro e;exact own_ty (unhide HO7) e (unhide HR7) (by decide))) (Nat.zero_le _)
      ·have e0:(refK y.k !=101)=true:=by rw [bne,refK_end];simp [h0]
       have HY0:=hide h0
       clear h0
       go_wp2_with (go_at_call 201;refine (now_any _ _ _ _ _ _ _ _ _ (unhide HPQ) (unhide HY)).mono ?_)
       rintro e w7 ⟨rfl,hb7⟩
       simp only [tkR]
       have HP7:=hide ((unhide HPQ).later hb7)
       have HG7:=hide ((unhide HGQ).trans (grown_below hb7 _))
       have HR7:=hide ((hb7.block w.heap.size (by omega)).trans (unhide HRQ))
       have HV7:=hide ((hb7.block (w.heap.size+1) hz).trans (unhide HVQ))
       have HO7:=hide (owns_later (unhide HOQ) hb7)
       have HKT7:=hide (KT.below hb7)
       have hz7:w.heap.size+1<w7.heap.size:=lt_of_blk (unhide HV7)
       clear hb7 c0 c1 c2
       go_wp2_with (go_at_call 201;refine (now_any _ _ _ _ _ _ _ _ _ (unhide HP7) (unhide HY)).mono ?_)
       rintro e w8 ⟨rfl,hb8⟩
       simp only [tkR]
       have HP8:=hide ((unhide HP7).later hb8)
       have HG8:=hide ((unhide HG7).trans (grown_below hb8 _))
       have HR8:=hide ((hb8.block w.heap.size (by omega)).trans (unhide HR7))
       have HV8:=hide ((hb8.block (w.heap.size+1) hz7).trans (unhide HV7))
       have HO8:=hide (owns_later (unhide HO7) hb8)
       have HKT8:=hide ((unhide HKT7).trans (KT.below hb8))
       have hz8:w.heap.size+1<w8.heap.size:=lt_of_blk (unhide HV8)
       clear hb8
       obtain ⟨j9,hj9⟩: ∃j9,j9=if (!false&&y.k==5)=true then j+1 else j:=⟨_,rfl⟩
       obtain ⟨b9,hb9⟩: ∃b,b= !(!false&&y.k==5):=⟨_,rfl⟩
       have HJ9:=hide hj9
       have HB9:=hide hb9
       clear hj9 hb9
       go_wp2_with (go_at_call 245;refine (must_any _ 5 _ _ _ _ _ _ _ _ _ (unhide HP8) (unhide HY) rfl (by decide) (by decide) j9 b9 (unhide HJ9) (unhide HB9)).mono ?_)
       rintro e w9 ⟨rfl,hp9,hg9⟩
       have HP9:=hide hp9
       have HG9:=hide ((unhide HG8).trans hg9)
       have HR9:=hide ((hg9.block w.heap.size (by omega) (by simp;omega)).trans (unhide HR8))
       have HV9:=hide ((hg9.block (w.heap.size+1) hz8 (by simp;omega)).trans (unhide HV8))
       have HO9:=hide (owns_keep (unhide HO8) hg9 (Or.inr (own_ne (unhide HO8) hp0)))
       have HKT9:=hide ((unhide HKT8).trans (KT.ps (unhide HP8) hg9))
       have hz9:w.heap.size+1<w9.heap.size:=lt_of_blk (unhide HV9)
       clear hp9 hg9
       go_wp2_with (go_at_call 248;refine (rule_both _ _ _ _ _ _ _ (unhide HP9)).mono ?_)
       rintro e w10 ⟨hg10,ra,rb,rs',rc',ro,rn,rk,rd,rp,j10,b10,rfl,hp10,hst⟩
       simp only [rlV]
       have HST:=hide hst
       have HP10:=hide hp10
       have HG10:=hide ((unhide HG9).trans hg10)
       have HR10:=hide ((hg10.block w.heap.size (by omega) (by simp;omega)).trans (unhide HR9))
       have HV10:=hide ((hg10.block (w.heap.size+1) hz9 (by simp;omega)).trans (unhide HV9))
       have HO10:=hide (owns_keep (unhide HO9) hg10 (Or.inr (own_ne (unhide HO9) hp0)))
       have HKT10:=hide ((unhide HKT9).trans (KT.ps (unhide HP9) hg10))
       have hz10:w.heap.size+1<w10.heap.size:=lt_of_blk (unhide HV10)
       clear hp10 hg10 hst
       have vc:=fun o=>cell_of_blk (unhide HV10) o
       have vf:=fun o=>frozen_of_blk (unhide HV10) o
       go_wp2_with (at_builtin;go_must (refine wpList_append_own _ rfl _ _ 226 rfl w.heap.size 235 m0 (.agg #[.int .i64 0,.int .u8 0,.string ⟨#[]⟩,.int .i64 0,.slice none 0 0,.int .i64 0,.pointer none]) 7 80 Tryz.underlying226 hm0 hmz0 hmz1 hmz2 rfl (by decide) _ rs.length cells rfl ?c0 ⟨w10.heap.size+1,0,none⟩ 1 1 [.int .i64 y.p,.int .u8 rb,.string rs',.int .i64 rc',.slice ro rn rk,.int .i64 rd,.pointer rp] rfl rfl ?c1 ?c2 ?c3 ?c4 ?c5 ?_))
       case c0=>exact ((unhide HO10).alloc _).alloc _
       case c1=>
        intro j u hj
        match j,hj with
        |0,hj=>simp at hj;subst hj;exact (cell_of_blk (blk_alloc' _ _ _ (by simp)) 0).trans rfl
        |1,hj=>simp at hj;subst hj;exact (cell_of_blk (blk_alloc' _ _ _ (by simp)) 1).trans rfl
        |2,hj=>simp at hj;subst hj;exact (cell_of_blk (blk_alloc' _ _ _ (by simp)) 2).trans rfl
        |3,hj=>simp at hj;subst hj;exact (cell_of_blk (blk_alloc' _ _ _ (by simp)) 3).trans rfl
        |4,hj=>simp at hj;subst hj;exact (cell_of_blk (blk_alloc' _ _ _ (by simp)) 4).trans rfl
        |5,hj=>simp at hj;subst hj;exact (cell_of_blk (blk_alloc' _ _ _ (by simp)) 5).trans rfl
        |6,hj=>simp at hj;subst hj;exact (cell_of_blk (blk_alloc' _ _ _ (by simp)) 6).trans rfl
        |j+7,hj=>simp at hj
       case c2=>intro u hu;simp at hu;rcases hu with rfl|rfl|rfl|rfl|rfl|rfl|rfl<;>rfl
       case c3=>unfold maxLen;omega
       case c4=>omega
       case c5=>simp;omega
       intro v12 w12 hown12 hgrow12 _
       obtain ⟨hlen12,h12|⟨g12,cap12,cur12,hv12,hrest12⟩⟩:=hown12
       ·exact absurd h12.2 (by omega)
       subst hv12
       have HO12:Hid (w12.ownsRow w.heap.size 235 7 (.slice (some ⟨g12,0,none⟩) (rs.length+1) cap12) (rs.length+1) (cells++[.int .i64 y.p,.int .u8 rb,.string rs',.int .i64 rc',.slice ro rn rk,.int .i64 rd,.pointer rp])):=⟨hlen12,Or.inr ⟨g12,cap12,cur12,rfl,hrest12⟩⟩
       have hol:=own_lt (unhide HO10)
       have hgp:some pb≠(Value.slice o2 n2 k2).ownBlock:=by intro e;have:=hol pb e.symm;omega
       have hgg:some g≠(Value.slice o2 n2 k2).ownBlock:=by intro e;have:=hol g e.symm;omega
       have hgR:some w.heap.size≠(Value.slice o2 n2 k2).ownBlock:=by intro e;exact own_ty (unhide HO10) e.symm (unhide HR10) (by decide)
       have hgV:some (w.heap.size+1)≠(Value.slice o2 n2 k2).ownBlock:=by intro e;exact own_ty (unhide HO10) e.symm (unhide HV10) (by decide)
       have HP12:=hide ((((unhide HP10).alloc _).alloc _).grown hgrow12 hgp hgg)
       have HG12:=hide ((grown_alloc (grown_alloc (unhide HG10) _) _).andThen hgrow12 (fun j hj=>by left;exact (hol j hj).1))
       have HR12:=hide ((hgrow12.block w.heap.size (by simp;omega) hgR).trans ((Below.heap_alloc _ _ _ (by simp;omega)).trans ((Below.heap_alloc _ _ _ (by omega)).trans (unhide HR10))))
       have HV12:=hide ((hgrow12.block (w.heap.size+1) (by simp;omega) hgV).trans ((Below.heap_alloc _ _ _ (by simp;omega)).trans ((Below.heap_alloc _ _ _ (by omega)).trans (unhide HV10))))
       have HK12:Hid (KT w10 w12):=((KT.alloc _ _).trans (KT.alloc _ _)).trans (KT.own hgrow12 (((unhide HO10).alloc _).alloc _))
       have hz12:w.heap.size+1<w12.heap.size:=lt_of_blk (unhide HV12)
       have hg12ne:g12≠w.heap.size+1:=by intro e;have h1:=hrest12.2.1;rw [e,unhide HV12] at h1;simp at h1
       have hg12ge:w.heap.size≤g12:=hrest12.1
       clear vc vf hgrow12 hrest12 hol hgp hgg hgR hgV hlen12
       have vc:=fun o=>cell_of_blk (unhide HV12) o
       have vf:=fun o=>frozen_of_blk (unhide HV12) o
       obtain ⟨x,r2,hx2⟩:=drop_ne (unhide HP12).lt
       have HX2:=hide hx2
       clear hx2
       obtain ⟨j13,hj13⟩: ∃j13,j13=if (!b10&&x.k==21)=true then j10+1 else j10:=⟨_,rfl⟩
       obtain ⟨b13,hb13⟩: ∃b,b= !(!b10&&x.k==21):=⟨_,rfl⟩
       have HJ13:=hide hj13
       have HB13:=hide hb13
       clear hj13 hb13
       go_wp2_with (go_at_call 245;refine (must_any _ 21 _ _ _ _ _ _ _ _ _ ((unhide HP12).setOther _ _ _ (by omega) (by omega)) (unhide HX2) rfl (by decide) (by decide) j13 b13 (unhide HJ13) (unhide HB13)).mono ?_)
       rintro e w13 ⟨rfl,hp13,hg13⟩
       have HP13:=hide hp13
       have HG13:=hide ((grown_setNew (unhide HG12) (b:=w.heap.size+1) (by omega) _ _).trans hg13)
       have HR13:=hide ((hg13.block w.heap.size (by simp [World.setCell];omega) (by simp;omega)).trans ((Below.heap_setCell _ _ _ _ (by simp)).trans (unhide HR12)))
       have HV13:Hid (w13.heap[w.heap.size+1]? =some (.cells #[.slice o1 n1 k1,.slice (some ⟨g12,0,none⟩) (rs.length+1) cap12] 228 (0,0))):=
        (hg13.block (w.heap.size+1) (by simp [World.setCell];omega) (by simp;omega)).trans ((blk_set (unhide HV12) _ _).trans rfl)
       have HO13:=hide (owns_keep (owns_keep (unhide HO12) (grown_set _ (w.heap.size+1) 1 (.slice (some ⟨g12,0,none⟩) (rs.length+1) cap12)) (by simp [Value.ownBlock];omega)) hg13 (by simp [Value.ownBlock];omega))
       have HK13:=hide (((unhide HK12).trans (KT.set 1 (.slice (some ⟨g12,0,none⟩) (rs.length+1) cap12) ⟨_,_,unhide HV12⟩ (by decide) (by decide))).trans (KT.ps ((unhide HP12).setOther _ _ _ (by omega) (by omega)) hg13))
       clear vc vf hp13 hg13
       go_wp2_with fail
       go_roundg m
       case measure=>omega
       case rel=>
        refine ⟨o1,n1,k1,al,_,_,_,_,_,j13,b13,unhide HG13,unhide HP13,unhide HR13,unhide HV13,unhide HO13, ?_⟩
        have hX:=unhide HX
        have hy:=unhide HY
        rw [hy,rulesRead,if_neg (show ¬ headK (y::r1)=0 from unhide HY0)] at hX
        have hm:=unhide HM
        have hac:=unhide HAC
        have hj9:=unhide HJ9
        have hb9:=unhide HB9
        have hj13:=unhide HJ13
        have hb13:=unhide HB13
        have hx2:=unhide HX2
        have htl:=drop_tail hy
        by_cases h5:y.k=5
        ·have e9:b9=false:=by rw [hb9];simp [h5]
         have ej9:j9=j+1:=by rw [hj9];simp [h5]
         subst e9 ej9
         rw [if_pos (show headK (y::r1)=5 from h5),List.tail_cons,←htl] at hX
         rcases unhide HST with ⟨rfl,_,rr,hrr,hri⟩|⟨rfl,_,hrr⟩
         ·rw [hrr] at hX
          have hlen':=ruleRead_len _ _ _ hrr
          simp only at hX
          by_cases h21:x.k=21
          ·have e13:b13=false:=by rw [hb13];simp [h21]
           have ej13:j13=j10+1:=by rw [hj13];simp [h21]
           subst e13 ej13
           rw [if_pos (show headK (L.drop j10)=21 by rw [hx2];exact h21),List.tail_drop] at hX
           refine Or.inl ⟨rfl,(unhide HK13).owns ((unhide HKT10).owns (unhide HA)),rs++[{rr with pl:=y.p}],by simp,RulesAre.snoc ((unhide HK13).rules ((unhide HKT10).rules (unhide HRS))) ((unhide HK13).rl (hri.pl y.p)), ?_, ?_, ?_⟩
           ·rw [htl] at hlen';rw [hy] at hm;simp at hm hlen'⊢;omega
           ·rw [htl] at hlen';rw [hy] at hac;have:=(unhide HP13).lt;simp at hac hlen' this⊢;omega
           ·rw [hX]
            cases rulesRead m (L.drop (j10+1)) with
            |error q=>rfl
            |ok z=>simp [plusR,headP]
          ·have e13:b13=true:=by rw [hb13];simp [h21]
           have ej13:j13=j10:=by rw [hj13];simp [h21]
           subst e13 ej13
           rw [if_neg (show ¬ headK (L.drop j13)=21 by rw [hx2];exact h21)] at hX
           exact Or.inr ⟨rfl,hX⟩
         ·rw [hrr rfl] at hX
          have e13:b13=true:=by rw [hb13];simp
          have ej13:j13=j10:=by rw [hj13];simp
          subst e13 ej13
          exact Or.inr ⟨rfl,hX⟩
        ·have e9:b9=true:=by rw [hb9];simp [h5]
         have ej9:j9=j:=by rw [hj9];simp [h5]
         subst e9 ej9
         rw [if_neg (show ¬ headK (y::r1)=5 from h5)] at hX
         rcases unhide HST with ⟨_,hf,_⟩|⟨rfl,hjj,_⟩
         ·cases hf
         ·have e13:b13=true:=by rw [hb13];simp
          have ej13:j13=j10:=by rw [hj13];simp
          have ej10:=hjj rfl
          subst e13 ej13
          refine Or.inr ⟨rfl, ?_⟩
          rw [hX,ej10,hy];rfl
     ·have HX:=hide hx
      clear hx
      have vc:=fun o=>cell_of_blk (unhide HVQ) o
      have rc:=fun o=>cell_of_blk (unhide HRQ) o
      have rf:=fun o=>frozen_of_blk (unhide HRQ) o
      go_wp2_with fail
      refine bodyPost_ret (v:= .agg #[.slice o1 n1 k1,.slice o2 n2 k2]) ?_ rfl ?_
      ·simp [results,Tryz.results200,go_sem,rc]
      have hps2:=((unhide HPQ).setOther w.heap.size 0 (.slice o1 n1 k1) (by omega) (by omega)).setOther w.heap.size 1 (.slice o2 n2 k2) (by omega) (by omega)
      have hgr2:=grown_setNew (grown_setNew (unhide HGQ) (Nat.le_refl _) 0 (.slice o1 n1 k1)) (Nat.le_refl _) 1 (.slice o2 n2 k2)
      refine ⟨hgr2,_,_,_,_,_,_,rfl, ?_⟩
      rw [unhide HX]
      exact ⟨j,rfl,hps2⟩
   ·cases mb
    ·obtain ⟨x,r2,hx2⟩:=drop_ne (unhide HP2).lt
     have HX2:=hide hx2
     have HX:=hide hx
     clear hx2 hx
     go_wp2_with (go_at_call 245;refine (must_any _ 21 _ _ _ _ _ _ _ _ _ (unhide HP2) (unhide HX2) rfl (by decide) (by decide) j true (by simp) (by simp)).mono ?_)
     rintro e w6 ⟨rfl,hp6,hg6⟩
     have HPQ:=hide hp6
     have HGQ:=hide ((unhide HG).trans hg6)
     have HRQ:=hide ((hg6.block w.heap.size (by omega) (by simp;omega)).trans (unhide HR))
     have HVQ:=hide ((hg6.block (w.heap.size+1) hz (by simp;omega)).trans (unhide HV))
     clear hp6 hg6 c0 c1 c2
     go_wp2_with fail
     go_loopg [] 0 (fun _ wr=>wr=w6)
     case atStart=>rfl
     case round=>
      subst hrel
      obtain ⟨c0,c1,c2⟩:=(unhide HPQ).cells
      have vc:=fun o=>cell_of_blk (unhide HVQ) o
      have rc:=fun o=>cell_of_blk (unhide HRQ) o
      have rf:=fun o=>frozen_of_blk (unhide HRQ) o
      have hz6:w.heap.size+1<wr.heap.size:=lt_of_blk (unhide HVQ)
      go_wp2_with fail
      refine bodyPost_ret (v:= .agg #[.slice o1 n1 k1,.slice none 0 0]) ?_ rfl ?_
      ·simp [results,Tryz.results200,go_sem,rc]
      have hps2:=((unhide HPQ).setOther w.heap.size 0 (.slice o1 n1 k1) (by omega) (by omega)).setOther w.heap.size 1 (.slice none 0 0) (by omega) (by omega)
      have hgr2:=grown_setNew (grown_setNew (unhide HGQ) (Nat.le_refl _) 0 (.slice o1 n1 k1)) (Nat.le_refl _) 1 (.slice none 0 0)
      have hmr:modelRead (L.drop 0)= .error (headP (L.drop j)):=by rw [modelRead_eq,unhide HX]
      refine ⟨hgr2,_,_,_,_,_,_,rfl, ?_⟩
      rw [hmr]
      exact ⟨j,rfl,hps2⟩
    ·obtain ⟨x,r2,hx2⟩:=drop_ne (unhide HP2).lt
     have HX2:=hide hx2
     have HX:=hide hx
     clear hx2 hx
     go_wp2_with (go_at_call 245;refine (must_any _ 21 _ _ _ _ _ _ _ _ _ (unhide HP2) (unhide HX2) rfl (by decide) (by decide) j true (by simp) (by simp)).mono ?_)
     rintro e w6 ⟨rfl,hp6,hg6⟩
     have HPQ:=hide hp6
     have HGQ:=hide ((unhide HG).trans hg6)
     have HRQ:=hide ((hg6.block w.heap.size (by omega) (by simp;omega)).trans (unhide HR))
     have HVQ:=hide ((hg6.block (w.heap.size+1) hz (by simp;omega)).trans (unhide HV))
     clear hp6 hg6 c0 c1 c2
     go_wp2_with fail
     go_loopg [] 0 (fun _ wr=>wr=w6)
     case atStart=>rfl
     case round=>
      subst hrel
      obtain ⟨c0,c1,c2⟩:=(unhide HPQ).cells
      have vc:=fun o=>cell_of_blk (unhide HVQ) o
      have rc:=fun o=>cell_of_blk (unhide HRQ) o
      have rf:=fun o=>frozen_of_blk (unhide HRQ) o
      have hz6:w.heap.size+1<wr.heap.size:=lt_of_blk (unhide HVQ)
      go_wp2_with fail
      refine bodyPost_ret (v:= .agg #[.slice o1 n1 k1,.slice none 0 0]) ?_ rfl ?_
      ·simp [results,Tryz.results200,go_sem,rc]
      have hps2:=((unhide HPQ).setOther w.heap.size 0 (.slice o1 n1 k1) (by omega) (by omega)).setOther w.heap.size 1 (.slice none 0 0) (by omega) (by omega)
      have hgr2:=grown_setNew (grown_setNew (unhide HGQ) (Nat.le_refl _) 0 (.slice o1 n1 k1)) (Nat.le_refl _) 1 (.slice none 0 0)
      have hmr:modelRead (L.drop 0)= .error (headP (L.drop j)):=by rw [modelRead_eq,unhide HX]
      refine ⟨hgr2,_,_,_,_,_,_,rfl, ?_⟩
      rw [hmr]
      exact ⟨j,rfl,hps2⟩
end Go.Proofs.YtidakhhekofkoaaGreatDoor
