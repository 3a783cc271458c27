/- The reference's add: a formula's parts. -/
import Derived.Test.YtidakhhekofkoaaGreatDoorJ15
import Derived.Deep.AppendLies
import Derived.Deep.RegionLaw
import Derived.BigQuiet
import Derived.Deep.RegionHeld
import Derived.Test.YtidakhhekofkoaaGreatDoorJ02
set_option linter.unusedSimpArgs false
set_option linter.unusedSectionVars false
namespace Go.Proofs.YtidakhhekofkoaaGreatDoor
open Go.RowKit Go.Deep
def ndX (L:List Nd) (T:List Int):Fin 5→List Value:=fun i=>if i=0 then L.map (fun d=> .int .u8 (refO d.k)) else if i=1 then L.map (fun d=> .int .i64 d.a) else if i=2 then L.map (fun d=> .int .i64 d.b) else if i=3 then L.map (fun d=> .int .i64 d.t) else T.map (fun t=> .int .i64 t)
def NSx (w:World) (nb B:Nat) (L:List Nd) (T:List Int):Prop:= ∃v,NS w nb B v (ndX L T)
theorem NSx.later {w w':World} {nb B:Nat} {L:List Nd} {T:List Int} (h:NSx w nb B L T) (hb:Below w.heap.size w w'):NSx w' nb B L T:=by
 obtain ⟨v,hv⟩:=h;exact ⟨v,hv.later hb⟩
theorem ndX_add (L:List Nd) (T:List Int) (d:Nd):upd (upd (upd (upd (ndX L T) 0 (ndX L T 0++[.int .u8 (refO d.k)])) 1 (ndX L T 1++[.int .i64 d.a])) 2 (ndX L T 2++[.int .i64 d.b])) 3 (ndX L T 3++[.int .i64 d.t])=ndX (L++[d]) T:=by
 funext i
 match i with
 |0=>simp [upd,ndX]
 |1=>simp [upd,ndX]
 |2=>simp [upd,ndX]
 |3=>simp [upd,ndX]
 |4=>simp [upd,ndX]
theorem ndX_four {L:List Nd} {T:List Int} {x5 x6 x7 x8:Fin 5→List Value} {k:Nat} {a b t:Int} (h5:x5=upd (ndX L T) 0 (ndX L T 0++[.int .u8 (refO k)])) (h6:x6=upd x5 1 (x5 1++[.int .i64 a])) (h7:x7=upd x6 2 (x6 2++[.int .i64 b])) (h8:x8=upd x7 3 (x7 3++[.int .i64 t])):x8=ndX (L++[⟨k,a,b,t⟩]) T:=by
 subst h5 h6 h7 h8
 funext i
 match i with
 |0=>simp [upd,ndX]
 |1=>simp [upd,ndX]
 |2=>simp [upd,ndX]
 |3=>simp [upd,ndX]
 |4=>simp [upd,ndX]
theorem grow_eq {w w':World} {a b:Value} (e:a=b) (h:w.grownBy w' b.ownBlock):w.grownBy w' a.ownBlock:=by rw [e];exact h
def nxtT (a:Nat × ByteArray × Nat) (al:List Tk) (k:Nat) (x:Int):Int:=if a.1=0 then lastI a.2.1 k (al.drop k) x else x
theorem addN_len (al:List Tk): ∀(f:Fm) (L:List Nd),(addN al f L).1.length=L.length+sizeF f
 | .nil,L=>rfl
 | .node _ _ a l r,L=>by
  rw [addN]
  show ((addN al r (addN al l L).1).1++[_]).length=L.length+(1+sizeF l+sizeF r)
  rw [List.length_append,addN_len al r,addN_len al l];simp;omega
theorem refO_ne {k:Nat} (h:k≠0) (hk:k≤12):(refO k==97)=false:=by
 have h:k=1∨k=2∨k=3∨k=4∨k=5∨k=6∨k=7∨k=8∨k=9∨k=10∨k=11∨k=12:=by omega
 rcases h with rfl|rfl|rfl|rfl|rfl|rfl|rfl|rfl|rfl|rfl|rfl|rfl<;>rfl
theorem infoB:(Tryz.prog.info? 5).map (fun i=>(i.zero,i.size,i.bytes))=some (some (.int .u8 0),1,1):=by kernel_rfl
theorem infoI:(Tryz.prog.info? 3).map (fun i=>(i.zero,i.size,i.bytes))=some (some (.int .i64 0),1,8):=by kernel_rfl
theorem NS.step {w w2:World} {nb B:Nat} {v:Fin 5→Value} {x:Fin 5→List Value} (h:NS w nb B v x) (i:Fin 5) (o:Nat) (hio:i.val=o) (u:Value) {g cap n:Nat} (hn:n=(x i).length) (ho:w2.ownsRow B (fiT i) 1 (.slice (some ⟨g,0,none⟩) (n+1) cap) (n+1) (x i++[u])) (hg:w.grownBy w2 (v i).ownBlock) (hat:(v i).ownBlock=some g∨g=w.heap.size):
  ∃v' x',NS (w2.setCell ⟨nb,o,none⟩ (.slice (some ⟨g,0,none⟩) (n+1) cap)) nb B v' x'∧NF nb B w (w2.setCell ⟨nb,o,none⟩ (.slice (some ⟨g,0,none⟩) (n+1) cap))∧x'=upd x i (x i++[u])∧v' i= .slice (some ⟨g,0,none⟩) (n+1) cap∧ ∀j,j≠i→v' j=v j:=by
 subst hn hio
 obtain ⟨h1,h2⟩:=h.app i u ho hg hat
 exact ⟨_,_,h1,h2,rfl,upd_same _ _ _,fun j hj=>upd_ne _ _ hj⟩
def AdPost (al:List Tk) (f:Fm) (L:List Nd) (T:List Int) (nb B:Nat) (w w':World) (e:Ending):Prop:=
 e= .returned (.int .i64 (addN al f L).2)∧NSx w' nb B (addN al f L).1 T∧NF nb B w w'
set_option maxHeartbeats 4000000 in
set_option maxRecDepth 100000 in
theorem add_any (Q:Tk→Prop) (al:List Tk) (o1:Option Addr) (n1 k1:Nat) (hlen:al.length≤401) (T:List Int) (nb B:Nat) (hnb:nb<B): ∀(f:Fm) (L:List Nd) (w:World) (p:Option Addr),IsF w f p→(f= .nil∨Fg Q f)→ActsAre w o1 n1 k1 al→NSx w nb B L T→L.length+sizeF f≤100000→
  Calls Tryz.prog 179 #[.pointer (some ⟨nb,0,none⟩),.pointer p,.slice o1 n1 k1] w fun e w'=>AdPost al f L T nb B w w' e
 | .nil,L,w,p,h,_,_,hns,_=>by
  cases (show p=none from h)
  have HN:=hide hns
  clear hns
  go_enter Tryz.func179,Tryz.ntmps179
  go_wp2_with fail
  go_ret
  exact ⟨rfl,unhide HN,NF.refl _ _ _⟩
 | .node u v0 a l r,L,w,p,h,hfg,ha,hns,hsz=>by
  obtain ⟨b,pl,pr,rfl,hb,hl,hr⟩:=h
  have hfg':Fg Q (.node u v0 a l r):=by rcases hfg with h|h;cases h;exact h
  have hk12:a.1≤12:=by
   rcases hfg' with ⟨h,_⟩|⟨⟨_,h⟩,_⟩|⟨⟨_,h⟩,_⟩|⟨⟨_,h⟩,_⟩<;>omega
  have hfl:l= .nil∨Fg Q l:=by
   rcases hfg' with ⟨_,_,h,_⟩|⟨_,h,_⟩|⟨_,h,_⟩|⟨_,h,_⟩
   ·exact Or.inl h
   ·exact Or.inl h
   ·exact Or.inr h
   ·exact Or.inr h
  have hfr:r= .nil∨Fg Q r:=by
   rcases hfg' with ⟨_,_,_,h⟩|⟨_,_,h⟩|⟨_,_,h⟩|⟨_,_,h⟩
   ·exact Or.inl h
   ·exact Or.inl h
   ·exact Or.inl h
   ·exact Or.inr h
  have hs:sizeF (.node u v0 a l r)=1+sizeF l+sizeF r:=rfl
  have IHL:=hide (fun W hW1 hW2 hW3=>add_any Q al o1 n1 k1 hlen T nb B hnb l L W pl hW1 hfl hW2 hW3 (by omega))
  have bc:=fun o=>cell_of_blk hb o
  have HB:=hide hb
  have HL:=hide hl
  have HR:=hide hr
  have HA:=hide ha
  have HN:=hide hns
  clear hb hl hr ha hns hfg hfg'
  go_enter Tryz.func179,Tryz.ntmps179
  go_wp2_with fail
  refine (unhide IHL w (unhide HL) (unhide HA) (unhide HN)).mono ?_
  rintro e w1 ⟨rfl,hn1,hf1⟩
  clear bc
  have hb1:=hf1.kt _ _ _ _ (Or.inr rfl) (unhide HB)
  have bc:=fun o=>cell_of_blk hb1 o
  have HR1:=hide (hf1.kt.isF (unhide HR))
  have HA1:=hide (hf1.kt.acts (unhide HA))
  have HB1:=hide hb1
  have HN1:=hide hn1
  have HF1:=hide hf1
  have hlp:((addN al l L).1).length+sizeF r≤100000:=by have:=addN_len al l L;omega
  have IHR:=hide (fun W hW1 hW2 hW3=>add_any Q al o1 n1 k1 hlen T nb B hnb r (addN al l L).1 W pr hW1 hfr hW2 hW3 hlp)
  clear hb1 hn1 hf1 HB HL HR HA HN
  go_wp2_with fail
  refine (unhide IHR w1 (unhide HR1) (unhide HA1) (unhide HN1)).mono ?_
  rintro e w2 ⟨rfl,hn2,hf2⟩
  clear bc
  have hb2:=hf2.kt _ _ _ _ (Or.inr rfl) (unhide HB1)
  have HB2:=hide hb2
  have HA2:=hide (hf2.kt.acts (unhide HA1))
  have HN2:=hide hn2
  have HF2:=hide ((unhide HF1).trans hf2)
  have bc:=fun o=>cell_of_blk hb2 o
  have hn1l:=(unhide HA2).len
  have hlq:(addN al r (addN al l L).1).1.length+1≤100000:=by have:=addN_len al l L;have:=addN_len al r (addN al l L).1;omega
  clear hb2 hn2 hf2 HB1 HA1 HN1 HF1 HR1
  go_wp2_with fail
  go_loopw [9,10] (fun v i wr=> ∃(k d:Nat) (x:Int),i= .int .i64 (k:Int)∧v= .int .i64 x∧k≤al.length∧Hid (nxtT a al 0 (-1)=nxtT a al k x)∧Hid (wr=w2.drewN d)) (fun _ i _=>al.length - (intOf i).toNat)
  case atStart=>exact ⟨0,0, -1,rfl,rfl,Nat.zero_le _,rfl,rfl⟩
  case round=>
   obtain ⟨k,d,x,rfl,rfl,hkk,HX,HW⟩:=hrel
   clear bc
   have HBW:Hid (Below w2.heap.size w2 wr):=by have:=bdn w2 d;rw [←unhide HW] at this;exact this
   have bc:=fun o=>cell_of_blk (((unhide HBW).block _ (lt_of_blk (unhide HB2))).trans (unhide HB2)) o
   by_cases hlt:k<al.length
   ·obtain ⟨t,rr,ht⟩:=drop_ne hlt
    have HA3:Hid (ActsAre wr o1 n1 k1 al):=(KT.below (unhide HBW)).acts (unhide HA2)
    obtain ⟨g,ho,hgl,_,t0,t1,t2⟩:=(unhide HA3).tok ht
    subst ho
    have hkn:(k:Int)<(n1:Int):=by omega
    by_cases hk:a.1=0
    ·have HS:Hid (nxtT a al k x=nxtT a al (k+1) (if t.s.toList=a.2.1.toList then (k:Int) else x)):=by
      show _=_
      unfold nxtT;rw [if_pos hk,if_pos hk,ht,lastI,dropTl ht]
     have hr0:refO a.1=97:=by rw [hk];rfl
     have b0:wr.cell? ⟨b,0,none⟩=some (.int .u8 97):=by rw [bc 0,hr0];rfl
     have b1:wr.cell? ⟨b,1,none⟩=some (.string a.2.1):=bc 1
     clear bc ht HA3 hk hr0
     cases he:(t.s.toList==a.2.1.toList) with
     |true=>
      have HE:Hid (t.s.toList=a.2.1.toList):=hide (by simpa using he)
      go_wp2_with fail
      go_quiet (fail)
      go_wp2_with fail
      go_roundw
      case rel=>exact ⟨k+1,d+nq,k,by go_num,rfl,by omega,by show _=_;rw [unhide HX,unhide HS,if_pos (unhide HE)],by show _=_;rw [unhide HW,World.drewN_drewN]⟩
      case measure=>simp [intOf];omega
     |false=>
      have HE:Hid (¬ t.s.toList=a.2.1.toList):=hide (by simpa using he)
      go_wp2_with fail
      go_quiet (fail)
      go_wp2_with fail
      go_roundw
      case rel=>exact ⟨k+1,d+nq,x,by go_num,rfl,by omega,by show _=_;rw [unhide HX,unhide HS,if_neg (unhide HE)],by show _=_;rw [unhide HW,World.drewN_drewN]⟩
      case measure=>simp [intOf];omega
    ·have HS:Hid (nxtT a al k x=nxtT a al (k+1) x):=by
      show _=_
      unfold nxtT;rw [if_neg hk,if_neg hk]
     have hr0:(refO a.1==97)=false:=refO_ne hk hk12
     have b0:wr.cell? ⟨b,0,none⟩=some (.int .u8 (refO a.1)):=bc 0
     clear bc ht HA3 hk
     generalize refO a.1=ro at *
     go_wp2_with fail
     go_quiet (fail)
     go_wp2_with fail
     go_roundw
     case rel=>exact ⟨k+1,d+nq,x,by go_num,rfl,by omega,by show _=_;rw [unhide HX,unhide HS],by show _=_;rw [unhide HW,World.drewN_drewN]⟩
     case measure=>simp [intOf];omega
   ·have hkn:¬ (k:Int)<(n1:Int):=by omega
    have HXE:Hid (nxtT a al 0 (-1)=x):=by
     show _=_
     rw [unhide HX];unfold nxtT
     split
     ·rw [List.drop_eq_nil_of_le (by omega),lastI]
     ·rfl
    obtain ⟨v,hv⟩:=(unhide HN2).later (unhide HBW)
    have HV:=hide hv
    have nbc:=fun o=>cell_of_blk hv.blk o
    have nbf:=fun o=>frozen_of_blk hv.blk o
    have hnl:=lt_of_blk hv.blk
    have hbl:b<wr.heap.size:=by have:=lt_of_blk (unhide HB2);have:=(unhide HBW).size;omega
    have hBw:B≤wr.heap.size:=hv.low
    have HFW:=hide ((unhide HF2).trans (NF.below (unhide HBW) (by obtain ⟨v',hv'⟩:=unhide HN2;exact hv'.low)))
    obtain ⟨i0,hi,hz0,hz1,hz2⟩:=info_parts infoB
    obtain ⟨j0,ji,jz0,jz1,jz2⟩:=info_parts infoI
    have HP:Hid (nxtT a al 0 (-1)=if a.1=0 then lastI a.2.1 0 al (-1) else -1):=rfl
    have HAD:Hid (addN al (.node u v0 a l r) L=((addN al r (addN al l L).1).1++[⟨a.1,(addN al l L).2,(addN al r (addN al l L).1).2,if a.1=0 then lastI a.2.1 0 al (-1) else -1⟩],((addN al r (addN al l L).1).1.length:Int))):=rfl
    have hX0:(ndX (addN al r (addN al l L).1).1 T 0).length=(addN al r (addN al l L).1).1.length:=by simp [ndX]
    clear HN2 HBW HB2 HA2 hv HX HF2 HP
    generalize (addN al r (addN al l L).1).1=L2 at *
    go_wp2_with fail
    refine wp_region_any (by kernel_rfl) ?_
    change wpAny _ _ _ _ _ _ _ (World.drew _)
    refine wpAny_take (i:=0) (v:= .pointer (some ⟨nb,0,none⟩)) rfl (by kernel_rfl) (by kernel_rfl) (by kernel_rfl) (fun _ _ _ h=>h) (Or.inl ⟨by kernel_rfl,fun w=>by go_simp⟩) ?_
    try simp only [Act.put,List.setIfInBounds_toArray,List.set_cons_zero,List.set_cons_succ,List.getElem_toArray,List.getElem_cons_succ,List.getElem_cons_zero]
    refine wpAny_take (i:=1) (v:= .pointer (some ⟨nb,0,none⟩)) rfl (by kernel_rfl) (by kernel_rfl) (by kernel_rfl) (fun _ _ _ h=>h) (Or.inl ⟨by kernel_rfl,fun w=>by go_simp⟩) ?_
    try simp only [Act.put,List.setIfInBounds_toArray,List.set_cons_zero,List.set_cons_succ,List.getElem_toArray,List.getElem_cons_succ,List.getElem_cons_zero]
    refine wpAny_take (i:=2) (v:= .pointer (some ⟨nb,0,none⟩)) rfl (by kernel_rfl) (by kernel_rfl) (by kernel_rfl) (fun _ _ _ h=>h) (Or.inl ⟨by kernel_rfl,fun w=>by go_simp⟩) ?_
    try simp only [Act.put,List.setIfInBounds_toArray,List.set_cons_zero,List.set_cons_succ,List.getElem_toArray,List.getElem_cons_succ,List.getElem_cons_zero]
    refine wpAny_take (i:=3) (v:= .pointer (some ⟨nb,0,none⟩)) rfl (by kernel_rfl) (by kernel_rfl) (by kernel_rfl) (fun _ _ _ h=>h) (Or.inl ⟨by kernel_rfl,fun w=>by go_simp⟩) ?_
    try simp only [Act.put,List.setIfInBounds_toArray,List.set_cons_zero,List.set_cons_succ,List.getElem_toArray,List.getElem_cons_succ,List.getElem_cons_zero]
    refine wpAny_take (i:=5) (v:= .pointer (some ⟨b,0,none⟩)) rfl (by kernel_rfl) (by kernel_rfl) (by kernel_rfl) (fun _ _ _ h=>h) (Or.inl ⟨by kernel_rfl,fun w=>by go_simp⟩) ?_
    try simp only [Act.put,List.setIfInBounds_toArray,List.set_cons_zero,List.set_cons_succ,List.getElem_toArray,List.getElem_cons_succ,List.getElem_cons_zero]
    refine wpAny_take (i:=6) (v:= .pointer (some ⟨b,0,none⟩)) rfl (by kernel_rfl) (by kernel_rfl) (by kernel_rfl) (fun _ _ _ h=>h) (Or.inl ⟨by kernel_rfl,fun w=>by go_simp⟩) ?_
    try simp only [Act.put,List.setIfInBounds_toArray,List.set_cons_zero,List.set_cons_succ,List.getElem_toArray,List.getElem_cons_succ,List.getElem_cons_zero]
    refine wpAny_take (i:=7) (v:= .pointer (some ⟨b,0,none⟩)) rfl (by kernel_rfl) (by kernel_rfl) (by kernel_rfl) (fun _ _ _ h=>h) (Or.inl ⟨by kernel_rfl,fun w=>by go_simp⟩) ?_
    try simp only [Act.put,List.setIfInBounds_toArray,List.set_cons_zero,List.set_cons_succ,List.getElem_toArray,List.getElem_cons_succ,List.getElem_cons_zero]
    refine wpAny_ready (rs:=[4,8]) (by kernel_rfl) (by simp) ?_
    refine AllReady.cons rfl (fun K hK=> ?_) (AllReady.cons rfl (fun K hK=> ?_) AllReady.nil)
    ·go_simp
     refine hK _ _ ?_
     clear hK K
     refine wpAny_ready (rs:=[8]) (by kernel_rfl) (by simp) ?_
     refine AllReady.cons rfl (fun K hK=> ?_) AllReady.nil
     go_simp
     refine hK _ _ ?_
     clear hK K
     refine wpAny_ready (rs:=[9]) (by kernel_rfl) (by simp) ?_
     refine AllReady.cons rfl (fun K hK=> ?_) AllReady.nil
     go_simp
     refine hK _ _ ?_
     clear hK K
     refine wpAny_ready (rs:=[10]) (by kernel_rfl) (by simp) ?_
     refine AllReady.cons rfl (fun K hK=> ?_) AllReady.nil
     refine step_append_lies _ (by rfl) _ _ 51 (by rfl) B 5 i0 (.int .u8 0) 1 1 Tryz.underlying51 hi hz0 hz1 hz2 rfl (by decide) (v 0) (ndX L2 T 0).length (ndX L2 T 0) (by rfl) ?c0 ⟨wr.heap.size,0,none⟩ 1 1 [.int .u8 (refO a.1)] (by rfl) rfl ?c1 ?c2 (by decide) ?c3 ?c4 ?c5 (wr.heap.size+1) (by simp) ?_
     case c0=>exact (owns_later ((unhide HV).own 0) (((Below.refl _ _).drew).alloc (Nat.le_refl _) _))
     case c1=>
      intro j u hj
      match j,hj with
      |0,hj=>simp at hj;subst hj;simp [Addr.add]
      |j+1,hj=>simp at hj
     case c2=>intro u hu;simp at hu;subst hu;rfl
     case c3=>rw [hX0];unfold maxLen;omega
     case c4=>rw [hX0];omega
     case c5=>simp;omega
     intro g4 cap4 w4 hown4 hgrow4 hat4 hlt4
     have hn4:=(hgrow4.block nb (by simp;omega) (fun e=>own_ty ((unhide HV).own 0) e.symm (unhide HV).blk (by decide))).trans ((Below.heap_alloc _ _ _ hnl).trans (unhide HV).blk)
     clear nbc nbf
     have nbc:=fun o=>cell_of_blk hn4 o
     have nbf:=fun o=>frozen_of_blk hn4 o
     clear hn4
     refine hK _ _ ?_
     clear hK K
     refine wpAny_take (i:=11) (v:= .pointer (some ⟨nb,0,none⟩)) rfl (by kernel_rfl) (by kernel_rfl) (by kernel_rfl) (fun _ _ _ h=>h) (Or.inl ⟨by kernel_rfl,fun w=>by go_simp⟩) ?_
     try simp only [Act.put,List.setIfInBounds_toArray,List.set_cons_zero,List.set_cons_succ,List.getElem_toArray,List.getElem_cons_succ,List.getElem_cons_zero]
     refine wpAny_take (i:=12) (v:= .pointer (some ⟨nb,0,none⟩)) rfl (by kernel_rfl) (by kernel_rfl) (by kernel_rfl) (fun _ _ _ h=>h) (Or.inl ⟨by kernel_rfl,fun w=>by go_simp⟩) ?_
     try simp only [Act.put,List.setIfInBounds_toArray,List.set_cons_zero,List.set_cons_succ,List.getElem_toArray,List.getElem_cons_succ,List.getElem_cons_zero]
     refine wpAny_ready (rs:=[13]) (by kernel_rfl) (by simp) ?_
     refine AllReady.cons rfl (fun K hK=> ?_) AllReady.nil
     go_simp
     refine hK _ _ ?_
     clear hK K
     refine wpAny_done (by kernel_rfl) ?_ _
     obtain ⟨v5,x5,hv5,hf5,ex5,ev5,ew5⟩:=((unhide HV).later (((Below.refl _ _).drew).alloc (Nat.le_refl _) (.cells #[.int .u8 (refO a.1)] 5))).step 0 0 rfl (.int .u8 (refO a.1)) hX0.symm (by rw [hX0] at hown4;exact hown4) hgrow4 (by simpa using hat4)
     have HV5:=hide hv5
     have HX5:=hide ex5
     have HE5:=hide ev5
     have HF5:=hide ((unhide HFW).trans ((NF.below (((Below.refl wr.heap.size wr).drew).alloc (Nat.le_refl _) (.cells #[.int .u8 (refO a.1)] 5)) hBw).trans hf5))
     have HM51:Hid ((x5 1).length=L2.length):=by show _=_;rw [unhide HX5,upd_ne _ _ (by decide)];simp [ndX]
     have HM52:Hid ((x5 2).length=L2.length):=by show _=_;rw [unhide HX5,upd_ne _ _ (by decide)];simp [ndX]
     have HM53:Hid ((x5 3).length=L2.length):=by show _=_;rw [unhide HX5,upd_ne _ _ (by decide)];simp [ndX]
     have HL5:=HM51
     clear nbc nbf hv5 hf5 ex5 ev5 ew5 hown4 hgrow4 hat4 hlt4
     generalize w4.setCell ⟨nb,0,none⟩ (.slice (some ⟨g4,0,none⟩) (L2.length+1) cap4)=w5 at *
     have nbc:=fun o=>cell_of_blk (unhide HV5).blk o
     have nbf:=fun o=>frozen_of_blk (unhide HV5).blk o
     have hnl:=lt_of_blk (unhide HV5).blk
     have hBw:=(unhide HV5).low
     go_wp2_with (at_builtin;go_must (refine wpList_append_lies _ rfl _ _ 33 rfl B 3 j0 (.int .i64 0) 1 8 Tryz.underlying33 ji jz0 jz1 jz2 rfl (by decide) _ L2.length (x5 1) rfl ?c0 ⟨w5.heap.size,0,none⟩ 1 1 [.int .i64 (addN al l L).2] rfl rfl ?c1 ?c2 (by decide) ?c3 ?c4 ?c5 (w5.heap.size+1) ?c6 ?_))
     case c0=>have:=owns_later ((unhide HV5).own 1) ((Below.refl _ _).alloc (Nat.le_refl _) (.cells #[.int .i64 (addN al l L).2] 3));rw [unhide HL5] at this;exact this
     case c1=>
      intro j u hj
      match j,hj with
      |0,hj=>simp at hj;subst hj;exact cell_of_blk (blk_alloc' _ _ _ (by simp [World.setCell])) 0
      |j+1,hj=>simp at hj
     case c2=>intro u hu;simp at hu;subst hu;rfl
     case c3=>unfold maxLen;omega
     case c4=>omega
     case c5=>simp;omega
     case c6=>simp
     intro g6 cap6 q6 hown hgrow hat _
     have hnq:=(hgrow.block nb (by simp;omega) (fun e=>own_ty ((unhide HV5).own 1) e.symm (unhide HV5).blk (by decide))).trans ((Below.heap_alloc _ _ _ (lt_of_blk (unhide HV5).blk)).trans (unhide HV5).blk)
     obtain ⟨v6,x6,hv6,hf6,ex6,ev6,ew6⟩:=((unhide HV5).later ((Below.refl _ _).alloc (Nat.le_refl _) (.cells #[.int .i64 (addN al l L).2] 3))).step 1 1 rfl (.int .i64 (addN al l L).2) (unhide HL5).symm hown hgrow (by simpa [World.setCell] using hat)
     clear nbc nbf
     have nbc:=fun o=>cell_of_blk hnq o
     have nbf:=fun o=>frozen_of_blk hnq o
     clear hnq
     have HV6:=hide hv6
     have HX6:=hide ex6
     have HW6:=hide ew6
     have HF6:=hide ((unhide HF5).trans ((NF.below ((Below.refl _ _).alloc (Nat.le_refl _) (.cells #[.int .i64 (addN al l L).2] 3)) (unhide HV5).low).trans hf6))
     have HL6:Hid ((x6 2).length=L2.length):=by show _=_;rw [unhide HX6,upd_ne _ _ (by decide)];exact unhide HM52
     have HM63:Hid ((x6 3).length=L2.length):=by show _=_;rw [unhide HX6,upd_ne _ _ (by decide)];exact unhide HM53
     have hnl6:nb<q6.heap.size:=by have:=lt_of_blk (unhide HV6).blk;simpa [World.setCell] using this
     have hBw6:B≤q6.heap.size:=by have:=(unhide HV6).low;simpa [World.setCell] using this
     clear hown hgrow hat hv6 hf6 ex6 ev6 ew6
     go_wp2_with (at_builtin;go_must (refine wpList_append_lies _ rfl _ _ 33 rfl B 3 j0 (.int .i64 0) 1 8 Tryz.underlying33 ji jz0 jz1 jz2 rfl (by decide) _ L2.length (x6 2) rfl ?c0 ⟨q6.heap.size,0,none⟩ 1 1 [.int .i64 (addN al r (addN al l L).1).2] rfl rfl ?c1 ?c2 (by decide) ?c3 ?c4 ?c5 (q6.heap.size+1) ?c6 ?_))
     case c0=>have:=owns_later ((unhide HV6).own 2) ((Below.refl _ _).alloc (Nat.le_refl _) (.cells #[.int .i64 (addN al r (addN al l L).1).2] 3));rw [unhide HL6,unhide HW6 2 (by decide)] at this;exact this
     case c1=>
      intro j u hj
      match j,hj with
      |0,hj=>simp at hj;subst hj;exact cell_of_blk (blk_alloc' _ _ _ (by simp [World.setCell])) 0
      |j+1,hj=>simp at hj
     case c2=>intro u hu;simp at hu;subst hu;rfl
     case c3=>unfold maxLen;omega
     case c4=>omega
     case c5=>simp;omega
     case c6=>simp
     intro g7 cap7 q7 hown hgrow hat _
     replace hgrow:=grow_eq (unhide HW6 2 (by decide)) hgrow
     replace hat:(v6 2).ownBlock=some g7∨g7=q6.heap.size+1:=by rw [unhide HW6 2 (by decide)];exact hat
     have hnq:=(hgrow.block nb (by simp;omega) (fun e=>own_ty ((unhide HV6).own 2) e.symm (unhide HV6).blk (by decide))).trans ((Below.heap_alloc _ _ _ (lt_of_blk (unhide HV6).blk)).trans (unhide HV6).blk)
     obtain ⟨v7,x7,hv7,hf7,ex7,ev7,ew7⟩:=((unhide HV6).later ((Below.refl _ _).alloc (Nat.le_refl _) (.cells #[.int .i64 (addN al r (addN al l L).1).2] 3))).step 2 2 rfl (.int .i64 (addN al r (addN al l L).1).2) (unhide HL6).symm hown hgrow (by simpa [World.setCell] using hat)
     clear nbc nbf
     have nbc:=fun o=>cell_of_blk hnq o
     have nbf:=fun o=>frozen_of_blk hnq o
     clear hnq
     have HV7:=hide hv7
     have HX7:=hide ex7
     have HW7:=hide ew7
     have HF7:=hide ((unhide HF6).trans ((NF.below ((Below.refl _ _).alloc (Nat.le_refl _) (.cells #[.int .i64 (addN al r (addN al l L).1).2] 3)) (unhide HV6).low).trans hf7))
     have HL7:Hid ((x7 3).length=L2.length):=by show _=_;rw [unhide HX7,upd_ne _ _ (by decide)];exact unhide HM63
     have hnl7:nb<q7.heap.size:=by have:=lt_of_blk (unhide HV7).blk;simpa [World.setCell] using this
     have hBw7:B≤q7.heap.size:=by have:=(unhide HV7).low;simpa [World.setCell] using this
     clear hown hgrow hat hv7 hf7 ex7 ev7 ew7
     go_wp2_with (at_builtin;go_must (refine wpList_append_lies _ rfl _ _ 33 rfl B 3 j0 (.int .i64 0) 1 8 Tryz.underlying33 ji jz0 jz1 jz2 rfl (by decide) _ L2.length (x7 3) rfl ?c0 ⟨q7.heap.size,0,none⟩ 1 1 [.int .i64 x] rfl rfl ?c1 ?c2 (by decide) ?c3 ?c4 ?c5 (q7.heap.size+1) ?c6 ?_))
     case c0=>have:=owns_later ((unhide HV7).own 3) ((Below.refl _ _).alloc (Nat.le_refl _) (.cells #[.int .i64 x] 3));rw [unhide HL7,unhide HW7 3 (by decide)] at this;exact this
     case c1=>
      intro j u hj
      match j,hj with
      |0,hj=>simp at hj;subst hj;exact cell_of_blk (blk_alloc' _ _ _ (by simp [World.setCell])) 0
      |j+1,hj=>simp at hj
     case c2=>intro u hu;simp at hu;subst hu;rfl
     case c3=>unfold maxLen;omega
     case c4=>omega
     case c5=>simp;omega
     case c6=>simp
     intro g8 cap8 q8 hown hgrow hat _
     replace hgrow:=grow_eq (unhide HW7 3 (by decide)) hgrow
     replace hat:(v7 3).ownBlock=some g8∨g8=q7.heap.size+1:=by rw [unhide HW7 3 (by decide)];exact hat
     have hnq:=(hgrow.block nb (by simp;omega) (fun e=>own_ty ((unhide HV7).own 3) e.symm (unhide HV7).blk (by decide))).trans ((Below.heap_alloc _ _ _ (lt_of_blk (unhide HV7).blk)).trans (unhide HV7).blk)
     obtain ⟨v8,x8,hv8,hf8,ex8,ev8,ew8⟩:=((unhide HV7).later ((Below.refl _ _).alloc (Nat.le_refl _) (.cells #[.int .i64 x] 3))).step 3 3 rfl (.int .i64 x) (unhide HL7).symm hown hgrow (by simpa [World.setCell] using hat)
     clear nbc nbf
     have nbc:=fun o=>cell_of_blk hnq o
     have nbf:=fun o=>frozen_of_blk hnq o
     clear hnq
     have HV8:=hide hv8
     have HX8:=hide ex8
     have HW8:=hide ew8
     have HF8:=hide ((unhide HF7).trans ((NF.below ((Below.refl _ _).alloc (Nat.le_refl _) (.cells #[.int .i64 x] 3)) (unhide HV7).low).trans hf8))
     have hnl8:nb<q8.heap.size:=by have:=lt_of_blk (unhide HV8).blk;simpa [World.setCell] using this
     have hBw8:B≤q8.heap.size:=by have:=(unhide HV8).low;simpa [World.setCell] using this
     clear hown hgrow hat hv8 hf8 ex8 ev8 ew8
     have e70:v7 0= .slice (some ⟨g4,0,none⟩) (L2.length+1) cap4:=(unhide HW7 0 (by decide)).trans ((unhide HW6 0 (by decide)).trans (unhide HE5))
     have nb0:q8.cell? ⟨nb,0,none⟩=some (.slice (some ⟨g4,0,none⟩) (L2.length+1) cap4):=(nbc 0).trans (congrArg some e70)
     have nb3:=nbc 3
     clear nbc e70
     go_wp2_with fail
     go_ret
     refine ⟨?_,⟨v8, ?_⟩,unhide HF8⟩
     ·rw [unhide HAD];exact ret_int (by simp)
     ·rw [unhide HAD]
      have hx:=ndX_four (unhide HX5) (unhide HX6) (unhide HX7) (unhide HX8)
      have hd:x=if a.1=0 then lastI a.2.1 0 al (-1) else -1:=(unhide HXE).symm
      rw [←hd,←hx]
      exact unhide HV8
    ·go_simp
     refine hK _ _ ?_
     clear hK K
     refine wpAny_ready (rs:=[4,9]) (by kernel_rfl) (by simp) ?_
     refine AllReady.cons rfl (fun K hK=> ?_) (AllReady.cons rfl (fun K hK=> ?_) AllReady.nil)
     ·go_simp
      refine hK _ _ ?_
      clear hK K
      refine wpAny_ready (rs:=[9]) (by kernel_rfl) (by simp) ?_
      refine AllReady.cons rfl (fun K hK=> ?_) AllReady.nil
      go_simp
      refine hK _ _ ?_
      clear hK K
      refine wpAny_ready (rs:=[10]) (by kernel_rfl) (by simp) ?_
      refine AllReady.cons rfl (fun K hK=> ?_) AllReady.nil
      refine step_append_lies _ (by rfl) _ _ 51 (by rfl) B 5 i0 (.int .u8 0) 1 1 Tryz.underlying51 hi hz0 hz1 hz2 rfl (by decide) (v 0) (ndX L2 T 0).length (ndX L2 T 0) (by rfl) ?c0 ⟨wr.heap.size,0,none⟩ 1 1 [.int .u8 (refO a.1)] (by rfl) rfl ?c1 ?c2 (by decide) ?c3 ?c4 ?c5 (wr.heap.size+1) (by simp) ?_
      case c0=>exact (owns_later ((unhide HV).own 0) (((Below.refl _ _).drew).alloc (Nat.le_refl _) _))
      case c1=>
       intro j u hj
       match j,hj with
       |0,hj=>simp at hj;subst hj;simp [Addr.add]
       |j+1,hj=>simp at hj
      case c2=>intro u hu;simp at hu;subst hu;rfl
      case c3=>rw [hX0];unfold maxLen;omega
      case c4=>rw [hX0];omega
      case c5=>simp;omega
      intro g4 cap4 w4 hown4 hgrow4 hat4 hlt4
      have hn4:=(hgrow4.block nb (by simp;omega) (fun e=>own_ty ((unhide HV).own 0) e.symm (unhide HV).blk (by decide))).trans ((Below.heap_alloc _ _ _ hnl).trans (unhide HV).blk)
      clear nbc nbf
      have nbc:=fun o=>cell_of_blk hn4 o
      have nbf:=fun o=>frozen_of_blk hn4 o
      clear hn4
      refine hK _ _ ?_
      clear hK K
      refine wpAny_take (i:=11) (v:= .pointer (some ⟨nb,0,none⟩)) rfl (by kernel_rfl) (by kernel_rfl) (by kernel_rfl) (fun _ _ _ h=>h) (Or.inl ⟨by kernel_rfl,fun w=>by go_simp⟩) ?_
      try simp only [Act.put,List.setIfInBounds_toArray,List.set_cons_zero,List.set_cons_succ,List.getElem_toArray,List.getElem_cons_succ,List.getElem_cons_zero]
      refine wpAny_take (i:=12) (v:= .pointer (some ⟨nb,0,none⟩)) rfl (by kernel_rfl) (by kernel_rfl) (by kernel_rfl) (fun _ _ _ h=>h) (Or.inl ⟨by kernel_rfl,fun w=>by go_simp⟩) ?_
      try simp only [Act.put,List.setIfInBounds_toArray,List.set_cons_zero,List.set_cons_succ,List.getElem_toArray,List.getElem_cons_succ,List.getElem_cons_zero]
      refine wpAny_ready (rs:=[13]) (by kernel_rfl) (by simp) ?_
      refine AllReady.cons rfl (fun K hK=> ?_) AllReady.nil
      go_simp
      refine hK _ _ ?_
      clear hK K
      refine wpAny_done (by kernel_rfl) ?_ _
      obtain ⟨v5,x5,hv5,hf5,ex5,ev5,ew5⟩:=((unhide HV).later (((Below.refl _ _).drew).alloc (Nat.le_refl _) (.cells #[.int .u8 (refO a.1)] 5))).step 0 0 rfl (.int .u8 (refO a.1)) hX0.symm (by rw [hX0] at hown4;exact hown4) hgrow4 (by simpa using hat4)
      have HV5:=hide hv5
      have HX5:=hide ex5
      have HE5:=hide ev5
      have HF5:=hide ((unhide HFW).trans ((NF.below (((Below.refl wr.heap.size wr).drew).alloc (Nat.le_refl _) (.cells #[.int .u8 (refO a.1)] 5)) hBw).trans hf5))
      have HM51:Hid ((x5 1).length=L2.length):=by show _=_;rw [unhide HX5,upd_ne _ _ (by decide)];simp [ndX]
      have HM52:Hid ((x5 2).length=L2.length):=by show _=_;rw [unhide HX5,upd_ne _ _ (by decide)];simp [ndX]
      have HM53:Hid ((x5 3).length=L2.length):=by show _=_;rw [unhide HX5,upd_ne _ _ (by decide)];simp [ndX]
      have HL5:=HM51
      clear nbc nbf hv5 hf5 ex5 ev5 ew5 hown4 hgrow4 hat4 hlt4
      generalize w4.setCell ⟨nb,0,none⟩ (.slice (some ⟨g4,0,none⟩) (L2.length+1) cap4)=w5 at *
      have nbc:=fun o=>cell_of_blk (unhide HV5).blk o
      have nbf:=fun o=>frozen_of_blk (unhide HV5).blk o
      have hnl:=lt_of_blk (unhide HV5).blk
      have hBw:=(unhide HV5).low
      go_wp2_with (at_builtin;go_must (refine wpList_append_lies _ rfl _ _ 33 rfl B 3 j0 (.int .i64 0) 1 8 Tryz.underlying33 ji jz0 jz1 jz2 rfl (by decide) _ L2.length (x5 1) rfl ?c0 ⟨w5.heap.size,0,none⟩ 1 1 [.int .i64 (addN al l L).2] rfl rfl ?c1 ?c2 (by decide) ?c3 ?c4 ?c5 (w5.heap.size+1) ?c6 ?_))
      case c0=>have:=owns_later ((unhide HV5).own 1) ((Below.refl _ _).alloc (Nat.le_refl _) (.cells #[.int .i64 (addN al l L).2] 3));rw [unhide HL5] at this;exact this
      case c1=>
       intro j u hj
       match j,hj with
       |0,hj=>simp at hj;subst hj;exact cell_of_blk (blk_alloc' _ _ _ (by simp [World.setCell])) 0
       |j+1,hj=>simp at hj
      case c2=>intro u hu;simp at hu;subst hu;rfl
      case c3=>unfold maxLen;omega
      case c4=>omega
      case c5=>simp;omega
      case c6=>simp
      intro g6 cap6 q6 hown hgrow hat _
      have hnq:=(hgrow.block nb (by simp;omega) (fun e=>own_ty ((unhide HV5).own 1) e.symm (unhide HV5).blk (by decide))).trans ((Below.heap_alloc _ _ _ (lt_of_blk (unhide HV5).blk)).trans (unhide HV5).blk)
      obtain ⟨v6,x6,hv6,hf6,ex6,ev6,ew6⟩:=((unhide HV5).later ((Below.refl _ _).alloc (Nat.le_refl _) (.cells #[.int .i64 (addN al l L).2] 3))).step 1 1 rfl (.int .i64 (addN al l L).2) (unhide HL5).symm hown hgrow (by simpa [World.setCell] using hat)
      clear nbc nbf
      have nbc:=fun o=>cell_of_blk hnq o
      have nbf:=fun o=>frozen_of_blk hnq o
      clear hnq
      have HV6:=hide hv6
      have HX6:=hide ex6
      have HW6:=hide ew6
      have HF6:=hide ((unhide HF5).trans ((NF.below ((Below.refl _ _).alloc (Nat.le_refl _) (.cells #[.int .i64 (addN al l L).2] 3)) (unhide HV5).low).trans hf6))
      have HL6:Hid ((x6 2).length=L2.length):=by show _=_;rw [unhide HX6,upd_ne _ _ (by decide)];exact unhide HM52
      have HM63:Hid ((x6 3).length=L2.length):=by show _=_;rw [unhide HX6,upd_ne _ _ (by decide)];exact unhide HM53
      have hnl6:nb<q6.heap.size:=by have:=lt_of_blk (unhide HV6).blk;simpa [World.setCell] using this
      have hBw6:B≤q6.heap.size:=by have:=(unhide HV6).low;simpa [World.setCell] using this
      clear hown hgrow hat hv6 hf6 ex6 ev6 ew6
      go_wp2_with (at_builtin;go_must (refine wpList_append_lies _ rfl _ _ 33 rfl B 3 j0 (.int .i64 0) 1 8 Tryz.underlying33 ji jz0 jz1 jz2 rfl (by decide) _ L2.length (x6 2) rfl ?c0 ⟨q6.heap.size,0,none⟩ 1 1 [.int .i64 (addN al r (addN al l L).1).2] rfl rfl ?c1 ?c2 (by decide) ?c3 ?c4 ?c5 (q6.heap.size+1) ?c6 ?_))
      case c0=>have:=owns_later ((unhide HV6).own 2) ((Below.refl _ _).alloc (Nat.le_refl _) (.cells #[.int .i64 (addN al r (addN al l L).1).2] 3));rw [unhide HL6,unhide HW6 2 (by decide)] at this;exact this
      case c1=>
       intro j u hj
       match j,hj with
       |0,hj=>simp at hj;subst hj;exact cell_of_blk (blk_alloc' _ _ _ (by simp [World.setCell])) 0
       |j+1,hj=>simp at hj
      case c2=>intro u hu;simp at hu;subst hu;rfl
      case c3=>unfold maxLen;omega
      case c4=>omega
      case c5=>simp;omega
      case c6=>simp
      intro g7 cap7 q7 hown hgrow hat _
      replace hgrow:=grow_eq (unhide HW6 2 (by decide)) hgrow
      replace hat:(v6 2).ownBlock=some g7∨g7=q6.heap.size+1:=by rw [unhide HW6 2 (by decide)];exact hat
      have hnq:=(hgrow.block nb (by simp;omega) (fun e=>own_ty ((unhide HV6).own 2) e.symm (unhide HV6).blk (by decide))).trans ((Below.heap_alloc _ _ _ (lt_of_blk (unhide HV6).blk)).trans (unhide HV6).blk)
      obtain ⟨v7,x7,hv7,hf7,ex7,ev7,ew7⟩:=((unhide HV6).later ((Below.refl _ _).alloc (Nat.le_refl _) (.cells #[.int .i64 (addN al r (addN al l L).1).2] 3))).step 2 2 rfl (.int .i64 (addN al r (addN al l L).1).2) (unhide HL6).symm hown hgrow (by simpa [World.setCell] using hat)
      clear nbc nbf
      have nbc:=fun o=>cell_of_blk hnq o
      have nbf:=fun o=>frozen_of_blk hnq o
      clear hnq
      have HV7:=hide hv7
      have HX7:=hide ex7
      have HW7:=hide ew7
      have HF7:=hide ((unhide HF6).trans ((NF.below ((Below.refl _ _).alloc (Nat.le_refl _) (.cells #[.int .i64 (addN al r (addN al l L).1).2] 3)) (unhide HV6).low).trans hf7))
      have HL7:Hid ((x7 3).length=L2.length):=by show _=_;rw [unhide HX7,upd_ne _ _ (by decide)];exact unhide HM63
      have hnl7:nb<q7.heap.size:=by have:=lt_of_blk (unhide HV7).blk;simpa [World.setCell] using this
      have hBw7:B≤q7.heap.size:=by have:=(unhide HV7).low;simpa [World.setCell] using this
      clear hown hgrow hat hv7 hf7 ex7 ev7 ew7
      go_wp2_with (at_builtin;go_must (refine wpList_append_lies _ rfl _ _ 33 rfl B 3 j0 (.int .i64 0) 1 8 Tryz.underlying33 ji jz0 jz1 jz2 rfl (by decide) _ L2.length (x7 3) rfl ?c0 ⟨q7.heap.size,0,none⟩ 1 1 [.int .i64 x] rfl rfl ?c1 ?c2 (by decide) ?c3 ?c4 ?c5 (q7.heap.size+1) ?c6 ?_))
      case c0=>have:=owns_later ((unhide HV7).own 3) ((Below.refl _ _).alloc (Nat.le_refl _) (.cells #[.int .i64 x] 3));rw [unhide HL7,unhide HW7 3 (by decide)] at this;exact this
      case c1=>
       intro j u hj
       match j,hj with
       |0,hj=>simp at hj;subst hj;exact cell_of_blk (blk_alloc' _ _ _ (by simp [World.setCell])) 0
       |j+1,hj=>simp at hj
      case c2=>intro u hu;simp at hu;subst hu;rfl
      case c3=>unfold maxLen;omega
      case c4=>omega
      case c5=>simp;omega
      case c6=>simp
      intro g8 cap8 q8 hown hgrow hat _
      replace hgrow:=grow_eq (unhide HW7 3 (by decide)) hgrow
      replace hat:(v7 3).ownBlock=some g8∨g8=q7.heap.size+1:=by rw [unhide HW7 3 (by decide)];exact hat
      have hnq:=(hgrow.block nb (by simp;omega) (fun e=>own_ty ((unhide HV7).own 3) e.symm (unhide HV7).blk (by decide))).trans ((Below.heap_alloc _ _ _ (lt_of_blk (unhide HV7).blk)).trans (unhide HV7).blk)
      obtain ⟨v8,x8,hv8,hf8,ex8,ev8,ew8⟩:=((unhide HV7).later ((Below.refl _ _).alloc (Nat.le_refl _) (.cells #[.int .i64 x] 3))).step 3 3 rfl (.int .i64 x) (unhide HL7).symm hown hgrow (by simpa [World.setCell] using hat)
      clear nbc nbf
      have nbc:=fun o=>cell_of_blk hnq o
      have nbf:=fun o=>frozen_of_blk hnq o
      clear hnq
      have HV8:=hide hv8
      have HX8:=hide ex8
      have HW8:=hide ew8
      have HF8:=hide ((unhide HF7).trans ((NF.below ((Below.refl _ _).alloc (Nat.le_refl _) (.cells #[.int .i64 x] 3)) (unhide HV7).low).trans hf8))
      have hnl8:nb<q8.heap.size:=by have:=lt_of_blk (unhide HV8).blk;simpa [World.setCell] using this
      have hBw8:B≤q8.heap.size:=by have:=(unhide HV8).low;simpa [World.setCell] using this
      clear hown hgrow hat hv8 hf8 ex8 ev8 ew8
      have e70:v7 0= .slice (some ⟨g4,0,none⟩) (L2.length+1) cap4:=(unhide HW7 0 (by decide)).trans ((unhide HW6 0 (by decide)).trans (unhide HE5))
      have nb0:q8.cell? ⟨nb,0,none⟩=some (.slice (some ⟨g4,0,none⟩) (L2.length+1) cap4):=(nbc 0).trans (congrArg some e70)
      have nb3:=nbc 3
      clear nbc e70
      go_wp2_with fail
      go_ret
      refine ⟨?_,⟨v8, ?_⟩,unhide HF8⟩
      ·rw [unhide HAD];exact ret_int (by simp)
      ·rw [unhide HAD]
       have hx:=ndX_four (unhide HX5) (unhide HX6) (unhide HX7) (unhide HX8)
       have hd:x=if a.1=0 then lastI a.2.1 0 al (-1) else -1:=(unhide HXE).symm
       rw [←hd,←hx]
       exact unhide HV8
     ·go_simp
      refine hK _ _ ?_
      clear hK K
      refine wpAny_ready (rs:=[4]) (by kernel_rfl) (by simp) ?_
      refine AllReady.cons rfl (fun K hK=> ?_) AllReady.nil
      go_simp
      refine hK _ _ ?_
      clear hK K
      refine wpAny_ready (rs:=[10]) (by kernel_rfl) (by simp) ?_
      refine AllReady.cons rfl (fun K hK=> ?_) AllReady.nil
      refine step_append_lies _ (by rfl) _ _ 51 (by rfl) B 5 i0 (.int .u8 0) 1 1 Tryz.underlying51 hi hz0 hz1 hz2 rfl (by decide) (v 0) (ndX L2 T 0).length (ndX L2 T 0) (by rfl) ?c0 ⟨wr.heap.size,0,none⟩ 1 1 [.int .u8 (refO a.1)] (by rfl) rfl ?c1 ?c2 (by decide) ?c3 ?c4 ?c5 (wr.heap.size+1) (by simp) ?_
      case c0=>exact (owns_later ((unhide HV).own 0) (((Below.refl _ _).drew).alloc (Nat.le_refl _) _))
      case c1=>
       intro j u hj
       match j,hj with
       |0,hj=>simp at hj;subst hj;simp [Addr.add]
       |j+1,hj=>simp at hj
      case c2=>intro u hu;simp at hu;subst hu;rfl
      case c3=>rw [hX0];unfold maxLen;omega
      case c4=>rw [hX0];omega
      case c5=>simp;omega
      intro g4 cap4 w4 hown4 hgrow4 hat4 hlt4
      have hn4:=(hgrow4.block nb (by simp;omega) (fun e=>own_ty ((unhide HV).own 0) e.symm (unhide HV).blk (by decide))).trans ((Below.heap_alloc _ _ _ hnl).trans (unhide HV).blk)
      clear nbc nbf
      have nbc:=fun o=>cell_of_blk hn4 o
      have nbf:=fun o=>frozen_of_blk hn4 o
      clear hn4
      refine hK _ _ ?_
      clear hK K
      refine wpAny_take (i:=11) (v:= .pointer (some ⟨nb,0,none⟩)) rfl (by kernel_rfl) (by kernel_rfl) (by kernel_rfl) (fun _ _ _ h=>h) (Or.inl ⟨by kernel_rfl,fun w=>by go_simp⟩) ?_
      try simp only [Act.put,List.setIfInBounds_toArray,List.set_cons_zero,List.set_cons_succ,List.getElem_toArray,List.getElem_cons_succ,List.getElem_cons_zero]
      refine wpAny_take (i:=12) (v:= .pointer (some ⟨nb,0,none⟩)) rfl (by kernel_rfl) (by kernel_rfl) (by kernel_rfl) (fun _ _ _ h=>h) (Or.inl ⟨by kernel_rfl,fun w=>by go_simp⟩) ?_
      try simp only [Act.put,List.setIfInBounds_toArray,List.set_cons_zero,List.set_cons_succ,List.getElem_toArray,List.getElem_cons_succ,List.getElem_cons_zero]
      refine wpAny_ready (rs:=[13]) (by kernel_rfl) (by simp) ?_
      refine AllReady.cons rfl (fun K hK=> ?_) AllReady.nil
      go_simp
      refine hK _ _ ?_
      clear hK K
      refine wpAny_done (by kernel_rfl) ?_ _
      obtain ⟨v5,x5,hv5,hf5,ex5,ev5,ew5⟩:=((unhide HV).later (((Below.refl _ _).drew).alloc (Nat.le_refl _) (.cells #[.int .u8 (refO a.1)] 5))).step 0 0 rfl (.int .u8 (refO a.1)) hX0.symm (by rw [hX0] at hown4;exact hown4) hgrow4 (by simpa using hat4)
      have HV5:=hide hv5
      have HX5:=hide ex5
      have HE5:=hide ev5
      have HF5:=hide ((unhide HFW).trans ((NF.below (((Below.refl wr.heap.size wr).drew).alloc (Nat.le_refl _) (.cells #[.int .u8 (refO a.1)] 5)) hBw).trans hf5))
      have HM51:Hid ((x5 1).length=L2.length):=by show _=_;rw [unhide HX5,upd_ne _ _ (by decide)];simp [ndX]
      have HM52:Hid ((x5 2).length=L2.length):=by show _=_;rw [unhide HX5,upd_ne _ _ (by decide)];simp [ndX]
      have HM53:Hid ((x5 3).length=L2.length):=by show _=_;rw [unhide HX5,upd_ne _ _ (by decide)];simp [ndX]
      have HL5:=HM51
      clear nbc nbf hv5 hf5 ex5 ev5 ew5 hown4 hgrow4 hat4 hlt4
      generalize w4.setCell ⟨nb,0,none⟩ (.slice (some ⟨g4,0,none⟩) (L2.length+1) cap4)=w5 at *
      have nbc:=fun o=>cell_of_blk (unhide HV5).blk o
      have nbf:=fun o=>frozen_of_blk (unhide HV5).blk o
      have hnl:=lt_of_blk (unhide HV5).blk
      have hBw:=(unhide HV5).low
      go_wp2_with (at_builtin;go_must (refine wpList_append_lies _ rfl _ _ 33 rfl B 3 j0 (.int .i64 0) 1 8 Tryz.underlying33 ji jz0 jz1 jz2 rfl (by decide) _ L2.length (x5 1) rfl ?c0 ⟨w5.heap.size,0,none⟩ 1 1 [.int .i64 (addN al l L).2] rfl rfl ?c1 ?c2 (by decide) ?c3 ?c4 ?c5 (w5.heap.size+1) ?c6 ?_))
      case c0=>have:=owns_later ((unhide HV5).own 1) ((Below.refl _ _).alloc (Nat.le_refl _) (.cells #[.int .i64 (addN al l L).2] 3));rw [unhide HL5] at this;exact this
      case c1=>
       intro j u hj
       match j,hj with
       |0,hj=>simp at hj;subst hj;exact cell_of_blk (blk_alloc' _ _ _ (by simp [World.setCell])) 0
       |j+1,hj=>simp at hj
      case c2=>intro u hu;simp at hu;subst hu;rfl
      case c3=>unfold maxLen;omega
      case c4=>omega
      case c5=>simp;omega
      case c6=>simp
      intro g6 cap6 q6 hown hgrow hat _
      have hnq:=(hgrow.block nb (by simp;omega) (fun e=>own_ty ((unhide HV5).own 1) e.symm (unhide HV5).blk (by decide))).trans ((Below.heap_alloc _ _ _ (lt_of_blk (unhide HV5).blk)).trans (unhide HV5).blk)
      obtain ⟨v6,x6,hv6,hf6,ex6,ev6,ew6⟩:=((unhide HV5).later ((Below.refl _ _).alloc (Nat.le_refl _) (.cells #[.int .i64 (addN al l L).2] 3))).step 1 1 rfl (.int .i64 (addN al l L).2) (unhide HL5).symm hown hgrow (by simpa [World.setCell] using hat)
      clear nbc nbf
      have nbc:=fun o=>cell_of_blk hnq o
      have nbf:=fun o=>frozen_of_blk hnq o
      clear hnq
      have HV6:=hide hv6
      have HX6:=hide ex6
      have HW6:=hide ew6
      have HF6:=hide ((unhide HF5).trans ((NF.below ((Below.refl _ _).alloc (Nat.le_refl _) (.cells #[.int .i64 (addN al l L).2] 3)) (unhide HV5).low).trans hf6))
      have HL6:Hid ((x6 2).length=L2.length):=by show _=_;rw [unhide HX6,upd_ne _ _ (by decide)];exact unhide HM52
      have HM63:Hid ((x6 3).length=L2.length):=by show _=_;rw [unhide HX6,upd_ne _ _ (by decide)];exact unhide HM53
      have hnl6:nb<q6.heap.size:=by have:=lt_of_blk (unhide HV6).blk;simpa [World.setCell] using this
      have hBw6:B≤q6.heap.size:=by have:=(unhide HV6).low;simpa [World.setCell] using this
      clear hown hgrow hat hv6 hf6 ex6 ev6 ew6
      go_wp2_with (at_builtin;go_must (refine wpList_append_lies _ rfl _ _ 33 rfl B 3 j0 (.int .i64 0) 1 8 Tryz.underlying33 ji jz0 jz1 jz2 rfl (by decide) _ L2.length (x6 2) rfl ?c0 ⟨q6.heap.size,0,none⟩ 1 1 [.int .i64 (addN al r (addN al l L).1).2] rfl rfl ?c1 ?c2 (by decide) ?c3 ?c4 ?c5 (q6.heap.size+1) ?c6 ?_))
      case c0=>have:=owns_later ((unhide HV6).own 2) ((Below.refl _ _).alloc (Nat.le_refl _) (.cells #[.int .i64 (addN al r (addN al l L).1).2] 3));rw [unhide HL6,unhide HW6 2 (by decide)] at this;exact this
      case c1=>
       intro j u hj
       match j,hj with
       |0,hj=>simp at hj;subst hj;exact cell_of_blk (blk_alloc' _ _ _ (by simp [World.setCell])) 0
       |j+1,hj=>simp at hj
      case c2=>intro u hu;simp at hu;subst hu;rfl
      case c3=>unfold maxLen;omega
      case c4=>omega
      case c5=>simp;omega
      case c6=>simp
      intro g7 cap7 q7 hown hgrow hat _
      replace hgrow:=grow_eq (unhide HW6 2 (by decide)) hgrow
      replace hat:(v6 2).ownBlock=some g7∨g7=q6.heap.size+1:=by rw [unhide HW6 2 (by decide)];exact hat
      have hnq:=(hgrow.block nb (by simp;omega) (fun e=>own_ty ((unhide HV6).own 2) e.symm (unhide HV6).blk (by decide))).trans ((Below.heap_alloc _ _ _ (lt_of_blk (unhide HV6).blk)).trans (unhide HV6).blk)
      obtain ⟨v7,x7,hv7,hf7,ex7,ev7,ew7⟩:=((unhide HV6).later ((Below.refl _ _).alloc (Nat.le_refl _) (.cells #[.int .i64 (addN al r (addN al l L).1).2] 3))).step 2 2 rfl (.int .i64 (addN al r (addN al l L).1).2) (unhide HL6).symm hown hgrow (by simpa [World.setCell] using hat)
      clear nbc nbf
      have nbc:=fun o=>cell_of_blk hnq o
      have nbf:=fun o=>frozen_of_blk hnq o
      clear hnq
      have HV7:=hide hv7
      have HX7:=hide ex7
      have HW7:=hide ew7
      have HF7:=hide ((unhide HF6).trans ((NF.below ((Below.refl _ _).alloc (Nat.le_refl _) (.cells #[.int .i64 (addN al r (addN al l L).1).2] 3)) (unhide HV6).low).trans hf7))
      have HL7:Hid ((x7 3).length=L2.length):=by show _=_;rw [unhide HX7,upd_ne _ _ (by decide)];exact unhide HM63
      have hnl7:nb<q7.heap.size:=by have:=lt_of_blk (unhide HV7).blk;simpa [World.setCell] using this
      have hBw7:B≤q7.heap.size:=by have:=(unhide HV7).low;simpa [World.setCell] using this
      clear hown hgrow hat hv7 hf7 ex7 ev7 ew7
      go_wp2_with (at_builtin;go_must (refine wpList_append_lies _ rfl _ _ 33 rfl B 3 j0 (.int .i64 0) 1 8 Tryz.underlying33 ji jz0 jz1 jz2 rfl (by decide) _ L2.length (x7 3) rfl ?c0 ⟨q7.heap.size,0,none⟩ 1 1 [.int .i64 x] rfl rfl ?c1 ?c2 (by decide) ?c3 ?c4 ?c5 (q7.heap.size+1) ?c6 ?_))
      case c0=>have:=owns_later ((unhide HV7).own 3) ((Below.refl _ _).alloc (Nat.le_refl _) (.cells #[.int .i64 x] 3));rw [unhide HL7,unhide HW7 3 (by decide)] at this;exact this
      case c1=>
       intro j u hj
       match j,hj with
       |0,hj=>simp at hj;subst hj;exact cell_of_blk (blk_alloc' _ _ _ (by simp [World.setCell])) 0
       |j+1,hj=>simp at hj
      case c2=>intro u hu;simp at hu;subst hu;rfl
      case c3=>unfold maxLen;omega
      case c4=>omega
      case c5=>simp;omega
      case c6=>simp
      intro g8 cap8 q8 hown hgrow hat _
      replace hgrow:=grow_eq (unhide HW7 3 (by decide)) hgrow
      replace hat:(v7 3).ownBlock=some g8∨g8=q7.heap.size+1:=by rw [unhide HW7 3 (by decide)];exact hat
      have hnq:=(hgrow.block nb (by simp;omega) (fun e=>own_ty ((unhide HV7).own 3) e.symm (unhide HV7).blk (by decide))).trans ((Below.heap_alloc _ _ _ (lt_of_blk (unhide HV7).blk)).trans (unhide HV7).blk)
      obtain ⟨v8,x8,hv8,hf8,ex8,ev8,ew8⟩:=((unhide HV7).later ((Below.refl _ _).alloc (Nat.le_refl _) (.cells #[.int .i64 x] 3))).step 3 3 rfl (.int .i64 x) (unhide HL7).symm hown hgrow (by simpa [World.setCell] using hat)
      clear nbc nbf
      have nbc:=fun o=>cell_of_blk hnq o
      have nbf:=fun o=>frozen_of_blk hnq o
      clear hnq
      have HV8:=hide hv8
      have HX8:=hide ex8
      have HW8:=hide ew8
      have HF8:=hide ((unhide HF7).trans ((NF.below ((Below.refl _ _).alloc (Nat.le_refl _) (.cells #[.int .i64 x] 3)) (unhide HV7).low).trans hf8))
      have hnl8:nb<q8.heap.size:=by have:=lt_of_blk (unhide HV8).blk;simpa [World.setCell] using this
      have hBw8:B≤q8.heap.size:=by have:=(unhide HV8).low;simpa [World.setCell] using this
      clear hown hgrow hat hv8 hf8 ex8 ev8 ew8
      have e70:v7 0= .slice (some ⟨g4,0,none⟩) (L2.length+1) cap4:=(unhide HW7 0 (by decide)).trans ((unhide HW6 0 (by decide)).trans (unhide HE5))
      have nb0:q8.cell? ⟨nb,0,none⟩=some (.slice (some ⟨g4,0,none⟩) (L2.length+1) cap4):=(nbc 0).trans (congrArg some e70)
      have nb3:=nbc 3
      clear nbc e70
      go_wp2_with fail
      go_ret
      refine ⟨?_,⟨v8, ?_⟩,unhide HF8⟩
      ·rw [unhide HAD];exact ret_int (by simp)
      ·rw [unhide HAD]
       have hx:=ndX_four (unhide HX5) (unhide HX6) (unhide HX7) (unhide HX8)
       have hd:x=if a.1=0 then lastI a.2.1 0 al (-1) else -1:=(unhide HXE).symm
       rw [←hd,←hx]
       exact unhide HV8
theorem NF.toBelow {nb B s:Nat} {w w3 w':World} (h:Below s w w3) (hf:NF nb B w3 w') (hs:s≤nb) (hB:s≤B):Below s w w':=
 ⟨hf.os.trans h.os,hf.tape.trans h.tape,hf.output.trans h.output,Nat.le_trans h.size hf.size,fun b hb=>(hf.low b (by omega) (by omega)).trans (h.block b hb)⟩
theorem ndX_tops {L:List Nd} {T:List Int} {k:Int}:upd (ndX L T) 4 (ndX L T 4++[.int .i64 k])=ndX L (T++[k]):=by
 funext i
 match i with
 |0=>simp [upd,ndX]
 |1=>simp [upd,ndX]
 |2=>simp [upd,ndX]
 |3=>simp [upd,ndX]
 |4=>simp [upd,ndX]
theorem NS.init {w:World} {nb:Nat} (h:w.heap[nb]? =some (.cells #[.slice none 0 0,.slice none 0 0,.slice none 0 0,.slice none 0 0,.slice none 0 0] 294 (0,0))):NSx w nb w.heap.size [] []:=by
 refine ⟨fun _=> .slice none 0 0,⟨h,fun i=> ?_,fun i j _ k hk=>by simp [Value.ownBlock] at hk,Nat.le_refl _⟩⟩
 have:ndX [] [] i=[]:=by unfold ndX;simp
 rw [this]
 exact World.ownsRow_nil _ _ _ _
theorem drop_cons {α:Type} {l:List α} {k:Nat} (h:k<l.length): ∃t r,l.drop k=t::r:=by
 cases hd:l.drop k with
 |nil=>have:=congrArg List.length hd;simp at this;omega
 |cons t r=>exact ⟨t,r,rfl⟩
def NdPost (al:List Tk) (rs:List Rl) (w w':World) (e:Ending):Prop:=
 ∃nb B,e= .returned (.pointer (some ⟨nb,0,none⟩))∧w.heap.size≤nb∧nb<B∧NSx w' nb B (nodM al rs ([],[])).1 (nodM al rs ([],[])).2∧Below w.heap.size w w'
set_option maxHeartbeats 4000000 in
set_option maxRecDepth 100000 in
theorem NodesOf_any (Q:Tk→Prop) (w:World) (o1:Option Addr) (n1 k1:Nat) (o2:Option Addr) (n2 k2:Nat) (al:List Tk) (rs:List Rl) (ha:ActsAre w o1 n1 k1 al) (hr:RowR w o2 n2 k2 rs) (hlen:al.length≤401) (hrl:rs.length≤401) (hok: ∀r∈rs,r.call=true→CallOk r) (hfg: ∀r∈rs,Fg Q (ruleF r)) (hnl:nodesL rs≤10000):
  Calls Tryz.prog 140 #[.agg #[.slice o1 n1 k1,.slice o2 n2 k2]] w fun e w'=>NdPost al rs w w' e:=by
 have HA:=hide ha
 have HR:=hide hr
 have HOK:=hide hok
 have HFG:=hide hfg
 clear ha hr hok hfg
 obtain ⟨j0,ji,jz0,jz1,jz2⟩:=info_parts infoI
 go_enter Tryz.func140,Tryz.ntmps140
 go_wp2_with (go_at_call 177;refine (Formulas_any _ _ _ _ _ _ _ rs ((unhide HR).later (((Below.refl _ _).alloc (Nat.le_refl _) _).alloc (by simp) _)) hrl (unhide HOK)).mono ?_)
 rintro e w3 ⟨v,ps,rfl,hown,hfs,hb3⟩
 obtain ⟨fo,fc,rfl⟩:=owns_val hown
 have hmb:=(hb3.block w.heap.size (by simp;omega)).trans ((Below.heap_alloc _ _ _ (by simp)).trans (blk_alloc w (.cells #[.slice o1 n1 k1,.slice o2 n2 k2] 228)))
 have hnb:=(hb3.block (w.heap.size+1) (by simp)).trans (blk_alloc' (w.alloc (.cells #[.slice o1 n1 k1,.slice o2 n2 k2] 228)) (.cells #[.slice none 0 0,.slice none 0 0,.slice none 0 0,.slice none 0 0,.slice none 0 0] 294) (w.heap.size+1) (by simp))
 have hbel3:Below w.heap.size w w3:=(((Below.refl w.heap.size w).alloc (Nat.le_refl _) _).alloc (by simp) _).trans (hb3.mono (by simp;omega))
 have hz3:=lt_of_blk hnb
 have HOW:=hide hown
 have HFS:=hide hfs
 have HMB:=hide hmb
 have HNB:=hide hnb
 have HBEL:=hide hbel3
 have HA3:=hide ((KT.below hbel3).acts (unhide HA))
 clear hown hfs hb3 hmb hnb hbel3 HA HR HOK
 go_wp2_with fail
 go_loopw [5] (fun x wr=> ∃k:Nat,k≤rs.length∧x= .int .i64 k∧NSx wr (w.heap.size+1) w3.heap.size (nodM al (rs.take k) ([],[])).1 (nodM al (rs.take k) ([],[])).2∧NF (w.heap.size+1) w3.heap.size w3 wr) (fun x _=>rs.length - (intOf x).toNat)
 case atStart=>exact ⟨0,Nat.zero_le _,rfl,by rw [List.take_zero];exact NS.init (unhide HNB),NF.refl _ _ _⟩
 case round=>
  obtain ⟨k,hk,rfl,hns,hnf⟩:=hrel
  have HNS:=hide hns
  have HNF:=hide hnf
  clear hns hnf
  by_cases hlt:k<rs.length
  ·obtain ⟨r,l,hrd⟩:=drop_cons hlt
   have hkn:(k:Int)<(rs.length:Int):=by omega
   obtain ⟨p,hp,hF0⟩:=(unhide HFS).at hrd
   obtain ⟨g,hgo,hg,hgc⟩:=owns1_at (unhide HOW) hlt
   subst hgo
   have hgk:wr.cell? ⟨g,k,none⟩=some (.pointer p):=by
    have e1:w3.cell? ⟨g,k,none⟩=some (.pointer p):=by rw [hgc,List.getElem?_map,hp];rfl
    have e2:wr.heap[g]? =w3.heap[g]? :=(unhide HNF).low g hg (by
     intro e
     obtain ⟨_,⟨h1,_⟩|⟨g',cap',cur',hv',_,hh',_⟩⟩:=unhide HOW
     ·cases h1
     ·cases hv'
      rw [e,unhide HNB] at hh'
      cases hh')
    unfold World.cell? at e1⊢
    simp only [e2];exact e1
   have hm0:wr.cell? ⟨w.heap.size,0,none⟩=some (.slice o1 n1 k1):=cell_of_blk (((unhide HNF).low w.heap.size (by omega) (by omega)).trans (unhide HMB)) 0
   have hIF:=(unhide HNF).kt.isF hF0
   have hAC:=(unhide HNF).kt.acts (unhide HA3)
   have hrm:r∈rs:=List.mem_of_mem_drop (hrd▸List.mem_cons_self ..)
   have htk:rs.take (k+1)=rs.take k++[r]:=by
    have hrk:rs[k]? =some r:=by
     have:=List.getElem?_drop (xs:=rs) (i:=k) (j:=0)
     rw [hrd] at this;simpa using this.symm
    rw [List.take_add_one,hrk];rfl
   have hsum:nodesL (rs.take k)+sizeF (ruleF r)≤10000:=by
    have h1:nodesL rs=nodesL (rs.take (k+1))+nodesL (rs.drop (k+1)):=by rw [←nodesL_append,List.take_append_drop]
    rw [htk,nodesL_append] at h1
    simp only [nodesL] at h1
    omega
   have HADD:=hide (fun W h1 h2 h3=>add_any Q al (o1:=o1) (n1:=n1) (k1:=k1) hlen (nodM al (rs.take k) ([],[])).2 (w.heap.size+1) w3.heap.size (by omega) (ruleF r) (nodM al (rs.take k) ([],[])).1 W p h1 (Or.inr (unhide HFG r hrm)) h2 h3 (by rw [(nodM_len al (rs.take k) ([],[])).1];simp;omega))
   have HSN:Hid (nodM al (rs.take (k+1)) ([],[])=((addN al (ruleF r) (nodM al (rs.take k) ([],[])).1).1,(nodM al (rs.take k) ([],[])).2++[(addN al (ruleF r) (nodM al (rs.take k) ([],[])).1).2])):=by
    show _=_
    rw [htk,nodM_snoc]
   have hTl:(nodM al (rs.take k) ([],[])).2.length=k:=by rw [(nodM_len al (rs.take k) ([],[])).2];simp;omega
   have hAl: ∀x,((addN al (ruleF r) (nodM al (rs.take k) ([],[])).1).2=x)→True:=fun _ _=>trivial
   have HIF:=hide hIF
   have HAC:=hide hAC
   have hwz:w3.heap.size≤wr.heap.size:=(unhide HNF).size
   clear hIF hAC hF0 hp hgc hrd hrm htk hsum hAl
   generalize hNM:nodM al (rs.take k) ([],[])=NM at *
   clear hNM
   obtain ⟨L,T⟩:=NM
   have hTl':T.length=k:=hTl
   clear hTl
   generalize hAN:addN al (ruleF r) L=AN at *
   have HAN:=hide hAN
   clear hAN
   go_wp2_with fail
   refine wp_region_held_drew (S:=fun w'=>w'.cell? ⟨g,k,none⟩=some (.pointer p)∧w'.cell? ⟨w.heap.size,0,none⟩=some (.slice o1 n1 k1)) (by kernel_rfl) ?_ (fun hHeld=> ?_)
   ·exact ⟨hgk,hm0⟩
   refine wpAnyH_take (i:=0) (v:= .pointer (some ⟨w.heap.size+1,0,none⟩)) rfl (by kernel_rfl) (by kernel_rfl) (by kernel_rfl) (fun _ _ _ h=>h) (Or.inl ⟨by kernel_rfl,fun w hw=>by obtain ⟨s0,s1⟩:=hw;go_simp⟩) hHeld ?_
   try simp only [Act.put,List.setIfInBounds_toArray,List.set_cons_zero,List.set_cons_succ,List.getElem_toArray,List.getElem_cons_succ,List.getElem_cons_zero]
   refine wpAnyH_take (i:=1) (v:= .slice (some ⟨g,0,none⟩) rs.length fc) rfl (by kernel_rfl) (by kernel_rfl) (by kernel_rfl) (fun _ _ _ h=>h) (Or.inl ⟨by kernel_rfl,fun w hw=>by obtain ⟨s0,s1⟩:=hw;go_simp⟩) hHeld ?_
   try simp only [Act.put,List.setIfInBounds_toArray,List.set_cons_zero,List.set_cons_succ,List.getElem_toArray,List.getElem_cons_succ,List.getElem_cons_zero]
   refine wpAnyH_take (i:=2) (v:= .int .i64 (k:Int)) rfl (by kernel_rfl) (by kernel_rfl) (by kernel_rfl) (fun _ _ _ h=>h) (Or.inl ⟨by kernel_rfl,fun w hw=>by obtain ⟨s0,s1⟩:=hw;go_simp⟩) hHeld ?_
   try simp only [Act.put,List.setIfInBounds_toArray,List.set_cons_zero,List.set_cons_succ,List.getElem_toArray,List.getElem_cons_succ,List.getElem_cons_zero]
   refine wpAnyH_take (i:=3) (v:= .pointer (some ⟨g,k,none⟩)) rfl (by kernel_rfl) (by kernel_rfl) (by kernel_rfl) (fun _ _ _ h=>h) (Or.inl ⟨by kernel_rfl,fun w hw=>by obtain ⟨s0,s1⟩:=hw;go_simp⟩) hHeld ?_
   try simp only [Act.put,List.setIfInBounds_toArray,List.set_cons_zero,List.set_cons_succ,List.getElem_toArray,List.getElem_cons_succ,List.getElem_cons_zero]
   refine wpAnyH_take (i:=4) (v:= .pointer p) rfl (by kernel_rfl) (by kernel_rfl) (by kernel_rfl) (fun _ _ _ h=>h) (Or.inl ⟨by kernel_rfl,fun w hw=>by obtain ⟨s0,s1⟩:=hw;go_simp⟩) hHeld ?_
   try simp only [Act.put,List.setIfInBounds_toArray,List.set_cons_zero,List.set_cons_succ,List.getElem_toArray,List.getElem_cons_succ,List.getElem_cons_zero]
   refine wpAnyH_take (i:=5) (v:= .pointer (some ⟨w.heap.size,0,none⟩)) rfl (by kernel_rfl) (by kernel_rfl) (by kernel_rfl) (fun _ _ _ h=>h) (Or.inl ⟨by kernel_rfl,fun w hw=>by obtain ⟨s0,s1⟩:=hw;go_simp⟩) hHeld ?_
   try simp only [Act.put,List.setIfInBounds_toArray,List.set_cons_zero,List.set_cons_succ,List.getElem_toArray,List.getElem_cons_succ,List.getElem_cons_zero]
   refine wpAnyH_take (i:=6) (v:= .slice o1 n1 k1) rfl (by kernel_rfl) (by kernel_rfl) (by kernel_rfl) (fun _ _ _ h=>h) (Or.inl ⟨by kernel_rfl,fun w hw=>by obtain ⟨s0,s1⟩:=hw;go_simp⟩) hHeld ?_
   try simp only [Act.put,List.setIfInBounds_toArray,List.set_cons_zero,List.set_cons_succ,List.getElem_toArray,List.getElem_cons_succ,List.getElem_cons_zero]
   refine wpAnyH_ready (rs:=[7]) (by kernel_rfl) (by simp) ?_
   refine AllReadyH.cons rfl (fun K hK=> ?_) AllReadyH.nil
   go_simp
   refine (unhide HADD _ ((KT.below ((Below.refl _ _).drew)).isF (unhide HIF)) ((KT.below ((Below.refl _ _).drew)).acts (unhide HAC)) ((unhide HNS).later ((Below.refl _ _).drew))).mono ?_
   rintro e w5 ⟨rfl,hn5,hf5⟩
   rw [unhide HAN] at hn5
   have hf5':NF (w.heap.size+1) w3.heap.size w3 w5:=(unhide HNF).trans ((NF.below ((Below.refl _ _).drew) hwz).trans hf5)
   have hs5:w5.cell? ⟨g,k,none⟩=some (.pointer p)∧w5.cell? ⟨w.heap.size,0,none⟩=some (.slice o1 n1 k1):=by
    refine ⟨?_,cell_of_blk ((hf5'.low w.heap.size (by omega) (by omega)).trans (unhide HMB)) 0⟩
    have e2:w5.heap[g]? =wr.heap[g]? :=hf5.low g hg (by
     intro e
     obtain ⟨_,⟨h1,_⟩|⟨g',cap',cur',hv',_,hh',_⟩⟩:=unhide HOW
     ·cases h1
     ·cases hv'
      rw [e,unhide HNB] at hh'
      cases hh')
    unfold World.cell? at hgk⊢
    simp only [e2];exact hgk
   refine hK.out _ _ hs5 (fun hHeld=> ?_)
   clear hK K hs5
   rw [unhide HAN]
   have HF5:=hide hf5'
   obtain ⟨v,hv⟩:=hn5
   have HV:=hide hv
   have nbc:=fun o=>cell_of_blk hv.blk o
   have nbf:=fun o=>frozen_of_blk hv.blk o
   have hnl5:=lt_of_blk hv.blk
   have hBw5:w3.heap.size≤w5.heap.size:=hv.low
   obtain ⟨to4,tc,hto⟩:=owns_val (hv.own 4)
   have hX4:(ndX AN.1 T 4).length=k:=by simp [ndX,hTl']
   rw [hX4] at hto
   have HTO:=hide hto
   have HX4:=hide hX4
   have nb4:w5.cell? ⟨w.heap.size+1,4,none⟩=some (.slice to4 k tc):=(nbc 4).trans (congrArg some hto)
   clear hv hf5 hf5' hto hX4 nbc
   refine wpAnyH_take (i:=8) (v:= .int .i64 AN.2) rfl (by kernel_rfl) (by kernel_rfl) (by kernel_rfl) (fun _ _ _ h=>h) (Or.inl ⟨by kernel_rfl,fun w hw=>by obtain ⟨s0,s1⟩:=hw;go_simp⟩) hHeld ?_
   try simp only [Act.put,List.setIfInBounds_toArray,List.set_cons_zero,List.set_cons_succ,List.getElem_toArray,List.getElem_cons_succ,List.getElem_cons_zero]
   refine wpAnyH_done (by kernel_rfl) ?_ _
   clear hHeld
   go_wp2_with (at_builtin;go_must (refine wpList_append_lies _ rfl _ _ 33 rfl w3.heap.size 3 j0 (.int .i64 0) 1 8 Tryz.underlying33 ji jz0 jz1 jz2 rfl (by decide) _ k (ndX AN.1 T 4) rfl ?c0 ⟨w5.heap.size,0,none⟩ 1 1 [.int .i64 AN.2] rfl rfl ?c1 ?c2 (by decide) ?c3 ?c4 ?c5 (w5.heap.size+1) ?c6 ?_))
   case c0=>have:=owns_later ((unhide HV).own 4) ((Below.refl _ _).alloc (Nat.le_refl _) (.cells #[.int .i64 AN.2] 3));rw [unhide HX4,unhide HTO] at this;exact this
   case c1=>
    intro j u hj
    match j,hj with
    |0,hj=>simp at hj;subst hj;exact cell_of_blk (blk_alloc _ _) 0
    |j+1,hj=>simp at hj
   case c2=>intro u hu;simp at hu;subst hu;rfl
   case c3=>unfold maxLen;omega
   case c4=>omega
   case c5=>simp;omega
   case c6=>simp
   intro g8 cap8 q8 hown hgrow hat _
   replace hgrow:=grow_eq (unhide HTO) hgrow
   replace hat:(v 4).ownBlock=some g8∨g8=w5.heap.size+1:=by rw [unhide HTO];exact hat
   have hnq:=(hgrow.block (w.heap.size+1) (by simp;omega) (fun e=>own_ty ((unhide HV).own 4) e.symm (unhide HV).blk (by decide))).trans ((Below.heap_alloc _ _ _ (lt_of_blk (unhide HV).blk)).trans (unhide HV).blk)
   obtain ⟨v8,x8,hv8,hf8,ex8,ev8,ew8⟩:=((unhide HV).later ((Below.refl _ _).alloc (Nat.le_refl _) (.cells #[.int .i64 AN.2] 3))).step 4 4 rfl (.int .i64 AN.2) (unhide HX4).symm hown hgrow (by simpa using hat)
   clear nbf nb4
   have nbc:=fun o=>cell_of_blk hnq o
   have nbf:=fun o=>frozen_of_blk hnq o
   have hnl8:w.heap.size+1<q8.heap.size:=lt_of_blk hnq
   clear hnq
   have HV8:=hide hv8
   have HX8:=hide ex8
   have HF8:=hide ((unhide HF5).trans ((NF.below ((Below.refl _ _).alloc (Nat.le_refl _) (.cells #[.int .i64 AN.2] 3)) (unhide HV).low).trans hf8))
   clear hown hgrow hat hv8 hf8 ex8 ev8 ew8
   go_wp2_with fail
   go_roundw
   case rel=>
    refine ⟨k+1,by omega,by go_num, ?_,unhide HF8⟩
    rw [unhide HSN]
    have hx:=unhide HX8
    rw [ndX_tops] at hx
    exact ⟨v8,hx▸unhide HV8⟩
   case measure=>simp [intOf];omega
  ·have hkn:¬ (k:Int)<(rs.length:Int):=by omega
   have hke:rs.take k=rs:=List.take_of_length_le (by omega)
   rw [hke] at HNS
   go_wp2_with fail
   go_ret
   exact ⟨_,_,rfl,by omega,by omega,unhide HNS,NF.toBelow (unhide HBEL) (unhide HNF) (by omega) (by have:=(unhide HBEL).size;omega)⟩
def NdGood (m:Nat) (d:Nd):Prop:=(d.k≤3∧d.a= -1∧d.b= -1)∨(4≤d.k∧d.k≤8∧(∃a:Nat,d.a=(a:Int)∧a<m)∧d.b= -1)∨(9≤d.k∧d.k≤12∧(∃a:Nat,d.a=(a:Int)∧a<m)∧ ∃b:Nat,d.b=(b:Int)∧b<m)
def AllGood (L:List Nd):Prop:= ∀k d,L[k]? =some d→NdGood k d
theorem addN_top (al:List Tk) {f:Fm} (hf:f≠ .nil) (L:List Nd):(addN al f L).2=((addN al f L).1.length:Int) - 1:=by
 cases f with
 |nil=>exact absurd rfl hf
 |node u v a l r=>rw [addN];show ((addN al r (addN al l L).1).1.length:Int)=_;simp
theorem Fg.ne {Q:Tk→Prop} {f:Fm} (h:Fg Q f):f≠ .nil:=by
 intro e;subst e;exact h
theorem addN_good (Q:Tk→Prop) (al:List Tk): ∀(f:Fm) (L:List Nd),(f= .nil∨Fg Q f)→AllGood L→AllGood (addN al f L).1
 | .nil,L,_,h=>h
 | .node u v a l r,L,hf,h=>by
  have hfg:Fg Q (.node u v a l r):=by rcases hf with h|h;cases h;exact h
  have hfl:l= .nil∨Fg Q l:=by
   rcases hfg with ⟨_,_,h,_⟩|⟨_,h,_⟩|⟨_,h,_⟩|⟨_,h,_⟩
   ·exact Or.inl h
   ·exact Or.inl h
   ·exact Or.inr h
   ·exact Or.inr h
  have hfr:r= .nil∨Fg Q r:=by
   rcases hfg with ⟨_,_,_,h⟩|⟨_,_,h⟩|⟨_,_,h⟩|⟨_,_,h⟩
   ·exact Or.inl h
   ·exact Or.inl h
   ·exact Or.inl h
   ·exact Or.inr h
  have h1:=addN_good Q al l L hfl h
  have h2:=addN_good Q al r (addN al l L).1 hfr h1
  have e1:=addN_len al l L
  have e2:=addN_len al r (addN al l L).1
  intro k d hd
  rw [addN] at hd
  replace hd:((addN al r (addN al l L).1).1++[(⟨a.1,(addN al l L).2,(addN al r (addN al l L).1).2,if a.1=0 then lastI a.2.1 0 al (-1) else -1⟩:Nd)])[k]? =some d:=hd
  rcases Nat.lt_trichotomy k (addN al r (addN al l L).1).1.length with hk|hk|hk
  ·rw [List.getElem?_append_left hk] at hd
   exact h2 k d hd
  ·rw [List.getElem?_append_right (by omega),show k - (addN al r (addN al l L).1).1.length=0 by omega] at hd
   cases hd
   rcases hfg with ⟨hk0,_,rfl,rfl⟩|⟨hk0,rfl,rfl⟩|⟨hk0,hl,rfl⟩|⟨hk0,hl,hr⟩
   ·exact Or.inl ⟨by show a.1≤3;omega,rfl,rfl⟩
   ·exact Or.inl ⟨by show a.1≤3;omega,rfl,rfl⟩
   ·have:=sizeF_pos' hl.ne
    exact Or.inr (Or.inl ⟨by show 4≤a.1;omega,by show a.1≤8;omega,⟨(addN al l L).1.length - 1,by show (addN al l L).2=_;rw [addN_top al hl.ne];omega,by omega⟩,rfl⟩)
   ·have:=sizeF_pos' hl.ne
    have:=sizeF_pos' hr.ne
    exact Or.inr (Or.inr ⟨by show 9≤a.1;omega,by show a.1≤12;omega,⟨(addN al l L).1.length - 1,by show (addN al l L).2=_;rw [addN_top al hl.ne];omega,by omega⟩,(addN al r (addN al l L).1).1.length - 1,by show (addN al r (addN al l L).1).2=_;rw [addN_top al hr.ne];omega,by omega⟩)
  ·rw [List.getElem?_eq_none (by rw [List.length_append];simp;omega)] at hd;cases hd
theorem nodM_good (Q:Tk→Prop) (al:List Tk): ∀(rs:List Rl) (p:List Nd × List Int),(∀r∈rs,Fg Q (ruleF r))→AllGood p.1→AllGood (nodM al rs p).1
 |[],p,_,h=>h
 |r::rs,p,hf,h=>by
  rw [nodM]
  exact nodM_good Q al rs _ (fun r' hr'=>hf r' (List.mem_cons_of_mem _ hr')) (addN_good Q al _ _ (Or.inr (hf r (List.mem_cons_self ..))) h)
theorem nodM_nonneg (Q:Tk→Prop) (al:List Tk): ∀(rs:List Rl) (p:List Nd × List Int),(∀r∈rs,Fg Q (ruleF r))→(∀t∈p.2,0≤t)→ ∀t∈(nodM al rs p).2,0≤t
 |[],p,_,h=>h
 |r::rs,p,hf,h=>by
  rw [nodM]
  refine nodM_nonneg Q al rs _ (fun r' hr'=>hf r' (List.mem_cons_of_mem _ hr')) (fun t ht=> ?_)
  rcases List.mem_append.1 ht with ht|ht
  ·exact h t ht
  ·rcases List.mem_singleton.1 ht with rfl
   have hne:=(hf r (List.mem_cons_self ..)).ne
   rw [addN_top al hne]
   have:=sizeF_pos' hne
   have:=addN_len al (ruleF r) p.1
   omega
end Go.Proofs.YtidakhhekofkoaaGreatDoor
namespace Go.Proofs.YtidakhhekofkoaaGreatDoor
open Go.Deep
theorem Fg.weak {Q R:Tk→Prop} (h: ∀t,Q t→R t): ∀{f:Fm},Fg Q f→Fg R f
 | .nil,hf=>False.elim hf
 | .node _ _ a l r,hf=>by
  rcases hf with ⟨h1,⟨t,h2,h3⟩,h4⟩|hf|⟨h1,h2,h3⟩|⟨h1,h2,h3⟩
  ·exact Or.inl ⟨h1,⟨t,h t h2,h3⟩,h4⟩
  ·exact Or.inr (Or.inl hf)
  ·exact Or.inr (Or.inr (Or.inl ⟨h1,Fg.weak h h2,h3⟩))
  ·exact Or.inr (Or.inr (Or.inr ⟨h1,Fg.weak h h2,Fg.weak h h3⟩))
def TkA (_:Tk):Prop:=True
theorem Fg.act (s:ByteArray):Fg TkA (acF s):=Or.inl ⟨rfl,⟨⟨2,s,0⟩,trivial,rfl,rfl,rfl⟩,rfl,rfl⟩
theorem timesF_fg (a:ByteArray): ∀n,Fg TkA (timesF a n)
 |0=>Fg.one (by decide) (Fg.act a)
 |1=>Fg.one (by decide) (Fg.act a)
 |n+2=>Fg.one (by decide) (Fg.two (by decide) (Fg.act a) (Fg.one (by decide) (timesF_fg a (n+1))))
theorem tplF_fg (k:Nat) (a b:ByteArray) (n:Nat):Fg TkA (tplF k a b n):=by
 have ha:=Fg.act a
 have hb:=Fg.act b
 have ht:Fg TkA (leaf 1 ByteArray.empty 0):=Fg.word (by decide)
 unfold tplF
 repeat' split
 ·exact ha
 ·exact Fg.one (by decide) (Fg.two (by decide) ha (Fg.one (by decide) (Fg.one (by decide) ht)))
 ·exact timesF_fg a n
 ·exact Fg.one (by decide) (timesF_fg a n)
 ·exact Fg.one (by decide) (Fg.two (by decide) ha (Fg.one (by decide) hb))
 ·exact Fg.two (by decide) (Fg.two (by decide) (Fg.one (by decide) hb) ha) (Fg.one (by decide) (Fg.one (by decide) hb))
 ·exact Fg.one (by decide) (Fg.two (by decide) ha (Fg.one (by decide) hb))
 ·exact Fg.two (by decide) (Fg.one (by decide) hb) (Fg.one (by decide) (Fg.two (by decide) (Fg.one (by decide) hb) ha))
 ·exact Fg.two (by decide) (Fg.one (by decide) ha) (Fg.one (by decide) hb)
 ·exact Fg.one (by decide) (Fg.two (by decide) (Fg.one (by decide) ha) (Fg.one (by decide) hb))
 ·exact Fg.one (by decide) (Fg.two (by decide) ha (Fg.one (by decide) (Fg.one (by decide) (Fg.one (by decide) hb))))
 ·exact Fg.one (by decide) (Fg.two (by decide) ha (Fg.one (by decide) (Fg.one (by decide) hb)))
theorem MGood.fg {al:List Tk} {rs:List Rl} (h:MGood al rs): ∀r∈rs,Fg TkA (ruleF r):=by
 intro r hr
 unfold ruleF
 split
 ·exact tplF_fg _ _ _ _
 ·rename_i hc
  rcases h.rules r hr with ⟨h1,_⟩|⟨_,h2,_⟩
  ·exact absurd h1 hc
  ·exact h2.weak (fun _ _=>trivial)
theorem MGood.call {al:List Tk} {rs:List Rl} (h:MGood al rs): ∀r∈rs,r.call=true→CallOk r:=by
 intro r hr hc
 have hn:=fRules_nil (List.append_eq_nil_iff.1 h.nof).2 r hr
 exact call_ok (Q:=TkS) (fun t ht=>ht.1) (h.rules r hr) hc (hn.2 hc)
theorem MGood.dist {al:List Tk} {rs:List Rl} (h:MGood al rs):Dist al:=dist_of (List.append_eq_nil_iff.1 h.nof).1
end Go.Proofs.YtidakhhekofkoaaGreatDoor
namespace Go.Proofs.YtidakhhekofkoaaGreatDoor
def keepR (tops:List Int) (p:Bool × List Bool):Bool:=tops.all fun t=>bitAt p.2 t
theorem nodup_le: ∀(B:Nat) (l:List Nat),l.Nodup→(∀x∈l,x<B)→l.length≤B
 |0,l,_,h=>by
  cases l with
  |nil=>exact Nat.le_refl _
  |cons x r=>exact absurd (h x (List.mem_cons_self ..)) (Nat.not_lt_zero _)
 |B+1,l,hn,h=>by
  have h1:=nodup_le B (l.erase B) (hn.erase B) (fun x hx=>by
   have hx':=h x (List.mem_of_mem_erase hx)
   have hne:x≠B:=fun e=>by
    rw [e] at hx
    exact (hn.not_mem_erase) hx
   omega)
  rw [List.length_erase] at h1
  split at h1<;>omega
section
variable {σ : Type} [DecidableEq σ]
theorem bfs_end {st:σ→Nat→σ} {acts:List Nat} {mx n k:Nat} {l:List σ} {rows:List (List Nat)} (h:l.length≤k):bfs st acts mx (n+1) k l rows=some (l,rows):=by
 rw [bfs,List.getElem?_eq_none h]
theorem bfs_next {st:σ→Nat→σ} {acts:List Nat} {mx n k:Nat} {l:List σ} {rows:List (List Nat)} {s:σ} (h:l[k]? =some s) (hm:¬ mx<(rowN st s acts l).1.length):
  bfs st acts mx (n+1) k l rows=bfs st acts mx n (k+1) (rowN st s acts l).1 (rows++[(rowN st s acts l).2]):=by
 rw [bfs,h]
 simp only
 rw [if_neg hm]
theorem bfs_many {st:σ→Nat→σ} {acts:List Nat} {mx n k:Nat} {l:List σ} {rows:List (List Nat)} {s:σ} (h:l[k]? =some s) (hm:mx<(rowN st s acts l).1.length):
  bfs st acts mx (n+1) k l rows=none:=by
 rw [bfs,h]
 simp only
 rw [if_pos hm]
end
def flB (b:List Bool):Nat:=(if (b[0]?).getD false=true then 1 else 0)+(if b.any id=true then 2 else 0)
def tabOf (names:List ByteArray) (m:List (List Bool)) (rows:List (List Nat)):Tb:=⟨names,m.map flB,rows⟩
theorem flB_odd (b:List Bool):flB b%2=1↔(b[0]?).getD false=true:=by
 unfold flB
 generalize (b[0]?).getD false=x
 generalize b.any id=y
 cases x<;>cases y<;>decide
theorem flB_two (b:List Bool):2≤flB b↔true∈b:=by
 have e:b.any id=true↔true∈b:=by
  rw [List.any_eq_true]
  exact ⟨fun ⟨x,hx,e⟩=>by have e':x=true:=e;rw [←e'];exact hx,fun h=>⟨true,h,rfl⟩⟩
 rw [←e]
 unfold flB
 generalize (b[0]?).getD false=x
 generalize b.any id=y
 cases x<;>cases y<;>decide
theorem flB_le (b:List Bool):flB b≤3:=by unfold flB;split<;>split<;>omega
def CmpR {π:Type} [DecidableEq π] (p0:π) (ah:π→Nat→π) (keep:π→Bool) (names:List ByteArray) (o:Option Tb):Prop:=
 ∃(l:List π) (tw:List (List Nat)),Bfs ah (List.range names.length) p0 l.length l tw∧o=(bfs (setB tw) (List.range names.length) 100 102 0 [l.map keep] []).map fun x=>tabOf names x.1 x.2
section
variable {π : Type} [DecidableEq π]
structure CmpT (p0:π) (ah:π→Nat→π) (keep:π→Bool) (t:Tb) (l:List π) (tw:List (List Nat)) (m:List (List Bool)):Prop where
 pl:Bfs ah (List.range t.acts.length) p0 l.length l tw
 st:Bfs (setB tw) (List.range t.acts.length) (l.map keep) m.length m t.nx
 fl:t.fl=m.map flB
 few:m.length≤100
theorem CmpR.some {p0:π} {ah:π→Nat→π} {keep:π→Bool} {names:List ByteArray} {t:Tb} (h:CmpR p0 ah keep names (some t)):t.acts=names∧ ∃l tw m,CmpT p0 ah keep t l tw m:=by
 obtain ⟨l,tw,h1,h2⟩:=h
 cases e:bfs (setB tw) (List.range names.length) 100 102 0 [l.map keep] [] with
 |none=>rw [e] at h2;cases h2
 |some x=>
  obtain ⟨m,rows⟩:=x
  rw [e] at h2
  have h3:t=tabOf names m rows:=Option.some.inj h2
  obtain ⟨k1,k2⟩:=bfs_spec 102 0 [l.map keep] [] (Bfs.start _ _ _) (by simp) m rows e
  subst h3
  exact ⟨rfl,l,tw,m,h1,k1,rfl,by simpa using k2⟩
theorem CmpT.hf {p0:π} {ah:π→Nat→π} {keep:π→Bool} {t:Tb} {l:List π} {tw:List (List Nat)} {m:List (List Bool)} (h:CmpT p0 ah keep t l tw m):
  ∀(i:Nat) (b:List Bool),m[i]? =some b→ ∃f,t.fl[i]? =some f∧(f%2=1↔(b[0]?).getD false=true):=fun i b hb=>
 ⟨flB b,by rw [h.fl,List.getElem?_map,hb];rfl,flB_odd b⟩
theorem CmpT.right {p0:π} {ah:π→Nat→π} {keep:π→Bool} {t:Tb} {l:List π} {tw:List (List Nat)} {m:List (List Bool)} (h:CmpT p0 ah keep t l tw m) (ha:ActsOk t.acts):RightT t:=by
 have hm1:1≤m.length:=by have:=(List.getElem?_eq_some_iff.1 h.st.first).1;omega
 have hnl:t.nx.length=m.length:=h.st.len
 refine ⟨ha,by omega,by have:=h.few;omega,by rw [h.fl,List.length_map,hnl],fun r hr=> ?_,fun f hf=> ?_,fun i f hi=> ?_⟩
 ·obtain ⟨i,hi⟩:=List.mem_iff_getElem?.1 hr
  have hil:i<m.length:=by have:=(List.getElem?_eq_some_iff.1 hi).1;omega
  obtain ⟨r',r1,r2,r3⟩:=h.st.row i m[i] hil (List.getElem?_eq_getElem hil)
  rw [hi] at r1
  cases r1
  rw [List.length_range] at r2
  refine ⟨r2,fun x hx=> ?_⟩
  obtain ⟨q,hq⟩:=List.mem_iff_getElem?.1 hx
  have hql:q<t.acts.length:=by have:=(List.getElem?_eq_some_iff.1 hq).1;omega
  obtain ⟨k,k1,k2⟩:=r3 q q (List.getElem?_range hql)
  rw [hq] at k1
  cases k1
  have:=(List.getElem?_eq_some_iff.1 k2).1
  omega
 ·rw [h.fl] at hf
  obtain ⟨b,_,rfl⟩:=List.mem_map.1 hf
  exact flB_le b
 ·rw [h.fl,List.getElem?_map] at hi
  cases hb:m[i]? with
  |none=>rw [hb] at hi;cases hi
  |some b=>
   rw [hb] at hi
   have hfb:flB b=f:=Option.some.inj hi
   rw [←hfb,flB_two,lives_any h.pl h.st h.hf hb]
end
section
variable {π ρ : Type} [DecidableEq π] [DecidableEq ρ]
end
def CompF (al:List Tk) (rs:List Rl) (o:Option Tb):Prop:=CmpR (p0R (nodM al rs ([],[])).1) (ahR (nodM al rs ([],[])).1) (keepR (nodM al rs ([],[])).2) (al.map (·.s)) o
end Go.Proofs.YtidakhhekofkoaaGreatDoor
namespace Go.Proofs.YtidakhhekofkoaaGreatDoor.Rt
open Go.Deep
theorem extract_list (s:ByteArray) (i j:Nat):(s.extract i j).data.toList=(s.data.toList.drop i).take (j - i):=by
 rw [ByteArray.data_extract,Array.toList_extract,List.extract_eq_take_drop]
theorem span_all (p:UInt8→Bool): ∀(l:List UInt8),∀c∈l.take (span p l),p c=true
 |[],c,h=>by simp at h
 |d::r,c,h=>by
  unfold span at h
  split at h
  ·rename_i hd
   rw [List.take_succ_cons] at h
   rcases List.mem_cons.1 h with rfl|h
   ·exact hd
   ·exact span_all p r c h
  ·simp at h
def TkN (t:Tk):Prop:=(t.k=2→t.s.data.toList≠[]∧(∀c∈t.s.data.toList,isLet c=true)∧isWord t.s.data.toList=false)∧(t.k=3→ ∃c:UInt8,t.s.data.toList=[c]∧48≤c.toNat∧c.toNat≤57)
theorem isWord_of {l:List UInt8} (h:wordK l=2):isWord l=false:=by
 cases hw:isWord l with
 |false=>rfl
 |true=>have:=wordK_word l hw;omega
theorem signK_ge (c:Nat):signK c≠2∧signK c≠3:=by
 unfold signK
 repeat' split
 all_goals exact ⟨by decide,by decide⟩
theorem lexAt_nm (s:ByteArray) (j:Nat):TkN (lexAt s j):=by
 unfold lexAt
 split
 ·rename_i h
  split
  ·rename_i hl
   refine ⟨fun hk=>⟨?_, ?_,isWord_of hk⟩,fun hk=> ?_⟩
   ·show (s.extract j (upTo isLet s j)).data.toList≠[]
    rw [extract_list]
    have e:upTo isLet s j - j=span isLet (s.data.toList.drop j):=by unfold upTo;omega
    rw [e,drop_at s j h,span,if_pos hl,List.take_succ_cons]
    exact List.cons_ne_nil _ _
   ·show ∀c∈(s.extract j (upTo isLet s j)).data.toList,isLet c=true
    rw [extract_list]
    have e:upTo isLet s j - j=span isLet (s.data.toList.drop j):=by unfold upTo;omega
    rw [e]
    exact span_all _ _
   ·have hk':wordK (s.extract j (upTo isLet s j)).data.toList=3:=hk
    unfold wordK at hk'
    repeat' split at hk'
    all_goals omega
  ·split
   ·rename_i hd
    exact ⟨fun hk=>(by cases hk),fun _=>⟨s[j],extract_one s j h,hd.1,hd.2⟩⟩
   ·split
    ·split
     ·exact ⟨fun hk=>(by cases hk),fun hk=>(by cases hk)⟩
     ·exact ⟨fun hk=>absurd hk (signK_ge _).1,fun hk=>absurd hk (signK_ge _).2⟩
    ·exact ⟨fun hk=>absurd hk (signK_ge _).1,fun hk=>absurd hk (signK_ge _).2⟩
 ·exact ⟨fun hk=>(by cases hk),fun hk=>(by cases hk)⟩
theorem lexR_nm (s:ByteArray): ∀n i,∀t∈lexR s n i,TkN t
 |0,_,t,h=>by simp [lexR] at h
 |n+1,i,t,h=>by
  by_cases hk:(lexAt s (upTo isBl s i)).k≤1
  ·rw [lexR_stop s n i hk] at h;simp at h;subst h;exact lexAt_nm _ _
  ·rw [lexR_go s n i hk] at h
   rcases List.mem_cons.1 h with rfl|h
   ·exact lexAt_nm _ _
   ·exact lexR_nm s n _ t h
theorem readM_nm {s:ByteArray} {al:List Tk} {rs:List Rl} (h:readM s= .ok (al,rs)):(∀t∈al,TkN t∧t.k=2)∧ ∀r∈rs,∃m,RlGood TkN m r:=by
 unfold readM at h
 split at h
 ·cases h
 ·cases hm:modelRead (lexR s (s.size+1) 0) with
  |error q=>rw [hm] at h;cases h
  |ok m=>
   obtain ⟨al',rs'⟩:=m
   rw [hm,rdOf] at h
   split at h
   ·cases h
   ·split at h
    ·cases h
    ·cases h
     have hg:=modelRead_good TkN _ _ _ hm (fun t ht=>lexR_nm s _ _ t ht)
     exact ⟨hg.1,fun r hr=>⟨_,hg.2.2.2.1 r hr⟩⟩
end Go.Proofs.YtidakhhekofkoaaGreatDoor.Rt
namespace Go.Proofs.YtidakhhekofkoaaGreatDoor
theorem fActs_few {al:List Tk}: ∀{l:List Tk} {i:Nat},fActs al i l=[]→(∀t∈l,t.s.size≤8)∧(l≠[]→i+l.length≤6)
 |[],_,_=>⟨fun t ht=>(List.not_mem_nil ht).elim,fun h=>absurd rfl h⟩
 |a::r,i,h=>by
  rw [fActs] at h
  obtain ⟨h1,h2⟩:=List.append_eq_nil_iff.1 h
  unfold fAct at h1
  obtain ⟨h3,h4⟩:=List.append_eq_nil_iff.1 h1
  obtain ⟨_,h5⟩:=List.append_eq_nil_iff.1 h4
  obtain ⟨k1,k2⟩:=fActs_few h2
  have ha:a.s.size≤8:=by
   unfold fLong at h3
   rcases Nat.lt_or_ge 8 a.s.size with h|h
   ·rw [if_pos h] at h3;cases h3
   ·exact h
  have hi:i<6:=by
   rcases Nat.lt_or_ge i 6 with h|h
   ·exact h
   ·rw [if_pos h] at h5;cases h5
  refine ⟨fun t ht=> ?_,fun _=> ?_⟩
  ·rcases List.mem_cons.1 ht with rfl|ht
   ·exact ha
   ·exact k1 t ht
  ·rw [List.length_cons]
   by_cases hr:r=[]
   ·rw [hr];simp;omega
   ·have:=k2 hr;omega
theorem acts_ok {s:ByteArray} {al:List Tk} {rs:List Rl} (h:readM s= .ok (al,rs)):ActsOk (al.map (·.s)):=by
 have hM:=readM_good h
 obtain ⟨h1,h2⟩:=fActs_few (List.append_eq_nil_iff.1 hM.nof).1
 have h3:=h2 hM.ne
 have h4:=(Rt.readM_nm h).1
 have hd:=hM.dist
 refine ⟨?_,by rw [List.length_map];omega,fun a ha=> ?_, ?_⟩
 ·rw [List.length_map]
  cases hc:al with
  |nil=>exact absurd hc hM.ne
  |cons _ _=>simp
 ·obtain ⟨t,ht,rfl⟩:=List.mem_map.1 ha
  obtain ⟨k1,k2⟩:=h4 t ht
  obtain ⟨k3,k4,k5⟩:=k1.1 k2
  refine ⟨?_,h1 t ht,k4,k5⟩
  cases hc:t.s.data.toList with
  |nil=>exact absurd hc k3
  |cons _ _=>rw [←size_data,hc];simp
 ·show List.Pairwise _ _
  rw [List.pairwise_iff_getElem]
  intro i j hi hj hij e
  have hi':i<al.length:=by simpa using hi
  have hj':j<al.length:=by simpa using hj
  rw [List.getElem_map,List.getElem_map] at e
  have:=hd i j al[i] al[j] (List.getElem?_eq_getElem hi') (List.getElem?_eq_getElem hj') (by rw [e])
  omega
section
variable {σ : Type} [DecidableEq σ]
end
theorem RightT.step {t:Tb} (h:RightT t) {x a:Nat} (hx:x<t.nx.length) (ha:a<t.acts.length): ∃r k,t.nx[x]? =some r∧r[a]? =some k∧k<t.nx.length:=by
 have e:=List.getElem?_eq_getElem hx
 obtain ⟨h1,h2⟩:=h.rs _ (List.mem_of_getElem? e)
 have e2:(t.nx[x])[a]? =some (t.nx[x])[a]:=List.getElem?_eq_getElem (by omega)
 exact ⟨_,_,e,e2,h2 _ (List.mem_of_getElem? e2)⟩
theorem RightT.go {t:Tb} (h:RightT t) {x a:Nat} (hx:x<t.nx.length) (ha:a<t.acts.length):((t.nx[x]?.getD [])[a]?).getD 0<t.nx.length:=by
 obtain ⟨r,k,h1,h2,h3⟩:=h.step hx ha
 rw [h1]
 simp only [Option.getD_some]
 rw [h2]
 exact h3
end Go.Proofs.YtidakhhekofkoaaGreatDoor
