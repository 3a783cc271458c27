/- The reference: Build: what stands in its loops. -/
import Derived.Test.YtidakhhekofkoaaGreatDoorJ44
import Derived.Test.YtidakhhekofkoaaGreatDoorJ43
import Derived.Test.YtidakhhekofkoaaGreatDoorJ42
import Derived.Test.YtidakhhekofkoaaGreatDoorJ18
import Derived.Test.YtidakhhekofkoaaGreatDoorJ28
import Derived.BigQuiet
set_option linter.unusedSimpArgs false
set_option linter.unusedVariables false
namespace Go.Proofs.YtidakhhekofkoaaGreatDoor
open Go.RowKit Go.Deep
def flA (b:List Bool):Nat:=if (b[0]?).getD false=true then 1 else 0
theorem flB_flA (b:List Bool):flB b=flA b+if b.any id=true then 2 else 0:=rfl
theorem gcell {V W:World} {tb:Nat} (hg:V.grownBy W (some tb)) {b:Nat} (o:Nat) (hb:b<V.heap.size) (hne:b≠tb):W.cell? ⟨b,o,none⟩=V.cell? ⟨b,o,none⟩:=by
 have e:=hg.block b hb (fun e=>hne (Option.some.inj e))
 unfold World.cell?
 simp only [e]
structure BlT (V W:World) (tb:Nat) (so:Option Addr) (sc:Nat) (ms:List (List Bool)) (A F X:Value) (fl:List Nat) (nx:List (List Nat)) (rv:List Value):Prop where
 blk:W.heap[tb]? =some (.cells #[A,F,X] 36 (0,0))
 htb:tb<V.heap.size
 st:W.ownsRow V.heap.size 9 1 (.slice so ms.length sc) ms.length (setC ms)
 tab:TbV W V.heap.size (.slice none 0 0) F X ⟨[],fl,nx⟩ rv
 gr:V.grownBy W (some tb)
section
variable {V W W' : World} {tb : Nat} {so : Option Addr} {sc : Nat} {ms : List (List Bool)} {A F X : Value} {fl : List Nat} {nx : List (List Nat)} {rv : List Value}
theorem BlT.later (h:BlT V W tb so sc ms A F X fl nx rv) (hb:Below W.heap.size W W'):BlT V W' tb so sc ms A F X fl nx rv:=
 ⟨(hb.block _ (lt_of_blk h.blk)).trans h.blk,h.htb,owns_later h.st hb,h.tab.later hb,h.gr.trans (grown_below hb _)⟩
theorem BlT.own (h:BlT V W tb so sc ms A F X fl nx rv) {e n z:Nat} {v:Value} {xs:List Value} (hv:W.ownsRow V.heap.size e z v n xs) (hg:W.grownBy W' v.ownBlock) (he:e≠36):W'.heap[tb]? =some (.cells #[A,F,X] 36 (0,0))∧V.grownBy W' (some tb):=by
 have hb: ∀k,v.ownBlock=some k→V.heap.size≤k:=fun k hk=>(own_lt hv k hk).1
 refine ⟨(hg.block _ (lt_of_blk h.blk) (fun e=> ?_)).trans h.blk,⟨hg.os.trans h.gr.os,hg.tape.trans h.gr.tape,hg.output.trans h.gr.output,Nat.le_trans h.gr.size hg.size,fun k hk hne=>(hg.block k (Nat.lt_of_lt_of_le hk h.gr.size) (fun e=> ?_)).trans (h.gr.block k hk hne)⟩⟩
 ·have:=hb _ e.symm
  have:=h.htb
  omega
 ·have:=hb _ e.symm
  omega
theorem BlT.set (h:BlT V W tb so sc ms A F X fl nx rv) {v:Value} {q:List Nat} (hu:RwU W V.heap.size F rv v q) {b:List Bool} {g cap:Nat} (ho:W'.ownsRow V.heap.size 9 1 (.slice (some ⟨g,0,none⟩) (ms.length+1) cap) (ms.length+1) (setC ms++[.string (setS b)])) (hg:W.grownBy W' (Value.slice so ms.length sc).ownBlock):
  BlT V W' tb (some ⟨g,0,none⟩) cap (ms++[b]) A F X fl nx rv∧RwU W' V.heap.size F rv v q:=by
 obtain ⟨h1,h2⟩:=h.own h.st hg (by decide)
 refine ⟨⟨h1,h.htb, ?_,h.tab.grow hg fun k hk=>⟨fun e=>(by cases e),own_apart h.tab.fl h.st (by decide) k hk,own_apart h.tab.nx h.st (by decide) k hk,fun u hu'=> ?_⟩,h2⟩,hu.grow hg (own_apart hu.own h.st (by decide))⟩
 ·have e:setC (ms++[b])=setC ms++[.string (setS b)]:=by rw [setC_app];rfl
  rw [e,List.length_append]
  exact ho
 ·obtain ⟨r,hr⟩:=h.tab.row_at hu'
  exact own_apart hr h.st (by decide) k hk
theorem BlT.num (h:BlT V W tb so sc ms A F X fl nx rv) {v v':Value} {q:List Nat} (hu:RwU W V.heap.size F rv v q) {x:Nat} (ho:W'.ownsRow V.heap.size 3 1 v' (q.length+1) (intC q++[.int .i64 (x:Int)])) (hg:W.grownBy W' v.ownBlock) {g':Nat} (hv':v'.ownBlock=some g') (hat:v.ownBlock=some g'∨W.heap.size≤g'):
  BlT V W' tb so sc ms A F X fl nx rv∧RwU W' V.heap.size F rv v' (q++[x]):=by
 obtain ⟨h1,h2⟩:=h.own hu.own hg (by decide)
 obtain ⟨t1,u1⟩:=h.tab.num hu ho hg hv' hat
 exact ⟨⟨h1,h.htb,owns_other h.st hg (own_apart h.st hu.own (by decide)),t1,h2⟩,u1⟩
theorem BlT.put {A' F' X' x:Value} {fl':List Nat} {nx':List (List Nat)} {rv':List Value} {i:Nat} (hb:W.heap[tb]? =some (.cells #[A,F,X] 36 (0,0))) (htb:tb<V.heap.size) (hst:W.ownsRow V.heap.size 9 1 (.slice so ms.length sc) ms.length (setC ms)) (ht:TbV W V.heap.size (.slice none 0 0) F' X' ⟨[],fl',nx'⟩ rv') (hgr:V.grownBy W (some tb)) (hc:(#[A,F,X]:Array Value).setIfInBounds i x= #[A',F',X']):
  BlT V (W.setCell ⟨tb,i,none⟩ x) tb so sc ms A' F' X' fl' nx' rv':=by
 refine ⟨?_,htb,owns_other hst (grown_set W tb i x) fun b hb' e=> ?_,ht.cellO hb (by decide) i x,hgr.trans (grown_set W tb i x)⟩
 ·have:=blk_set hb i x
  rw [hc] at this
  exact this
 ·cases hb'
  exact own_ty hst e hb (by decide)
theorem BlT.row (h:BlT V W tb so sc ms A F X fl nx rv) {v:Value} {q:List Nat} (hu:RwU W V.heap.size F rv v q) {X':Value} (ho:W'.ownsRow V.heap.size 33 1 X' (nx.length+1) (rv++[v])) (hg:W.grownBy W' X.ownBlock):BlT V (W'.setCell ⟨tb,2,none⟩ X') tb so sc ms A F X' fl (nx++[q]) (rv++[v]):=by
 obtain ⟨h1,h2⟩:=h.own h.tab.nx hg (by decide)
 exact BlT.put h1 h.htb (owns_other h.st hg (own_apart h.st h.tab.nx (by decide))) (h.tab.row hu ho hg) h2 rfl
theorem BlT.flag (h:BlT V W tb so sc ms A F X fl nx rv) {F':Value} {f:Nat} (ho:W'.ownsRow V.heap.size 3 1 F' (fl.length+1) (intC fl++[.int .i64 (f:Int)])) (hg:W.grownBy W' F.ownBlock) {g':Nat} (hF':F'.ownBlock=some g') (hat:F.ownBlock=some g'∨W.heap.size≤g'):BlT V (W'.setCell ⟨tb,1,none⟩ F') tb so sc ms A F' X (fl++[f]) nx rv:=by
 obtain ⟨h1,h2⟩:=h.own h.tab.fl hg (by decide)
 exact BlT.put h1 h.htb (owns_other h.st hg (own_apart h.st h.tab.fl (by decide))) (h.tab.flag ho hg hF' hat) h2 rfl
theorem BlT.fset {fb c N:Nat} (h:BlT V W tb so sc ms A (.slice (some ⟨fb,0,none⟩) N c) X fl nx rv) (hN:fl.length=N) (i x:Nat):BlT V (W.setCell ⟨fb,i,none⟩ (.int .i64 (x:Int))) tb so sc ms A (.slice (some ⟨fb,0,none⟩) N c) X (fl.set i x) nx rv:=by
 have hg:=grown_set W fb i (.int .i64 (x:Int))
 obtain ⟨h1,h2⟩:=h.own h.tab.fl hg (by decide)
 exact ⟨h1,h.htb,owns_other h.st hg fun b hb=>own_apart h.st h.tab.fl (by decide) b hb,h.tab.fset hN i x,h2⟩
end
theorem PtP.at_ {V0 V W:World} {N sb:Nat} {lo:Option Addr} {lc:Nat} {l:List (Bool × List Bool)} {ho:Option Addr} {hc:Nat} {rv:List Value} {tw:List (List Nat)} (h:PtP V0 V N sb lo lc l ho hc rv tw) {tb:Nat} {c:Array Value} {m:Nat × Nat} (hb:V.heap[tb]? =some (.cells c 36 m)) (hg:V.grownBy W (some tb)):PtS W lo l∧RwS W ho (tw.map zI):=by
 refine ⟨pts_of (owns_other h.pl hg fun b hb' e=> ?_),(h.tab.other hg fun b hb' c' m'=> ?_).rws rfl⟩
 ·cases hb'
  exact own_ty h.pl e hb (by decide)
 ·cases hb'
  rw [hb]
  refine ⟨?_, ?_, ?_⟩<;>(intro e;injection e with e;injection e with _ e _;revert e;decide)
theorem keepR_take {T:List Int} {p:Bool × List Bool} {j:Nat} {t:Int} (h:T[j]? =some t):keepR (T.take (j+1)) p=(keepR (T.take j) p&&bitAt p.2 t):=by
 unfold keepR
 rw [List.take_add_one,h,Option.toList_some,List.all_append]
 simp
structure BW (V W:World) (b:List Bool):Prop where
 blk:W.heap[V.heap.size]? =some (.cells (bitC b) 5 (0,0))
 bel:Below V.heap.size V W
theorem BW.set {V W:World} {b:List Bool} (h:BW V W b) (k:Nat) (x:Bool) {z:Int} (hz:((bit8 x).toNat:Int)=z):BW V (W.setCell ⟨V.heap.size,k,none⟩ (.int .u8 z)) (b.set k x):=by
 subst hz
 refine ⟨?_,h.bel.setCell (p:=⟨V.heap.size,k,none⟩) (Nat.le_refl _) _⟩
 have:=blk_set h.blk k (.int .u8 ((bit8 x).toNat:Int))
 rw [bitC_set] at this
 exact this
theorem BW.later {V W W':World} {b:List Bool} (h:BW V W b) (hb:Below W.heap.size W W'):BW V W' b:=
 ⟨(hb.block _ (lt_of_blk h.blk)).trans h.blk,h.bel.trans (hb.mono h.bel.size)⟩
theorem BW.start (V:World) (n:Nat):BW V (V.alloc (.cells (Array.replicate n (.int .u8 0)) 5)) (List.replicate n false):=by
 refine ⟨?_,(Below.refl _ _).alloc (Nat.le_refl _) _⟩
 rw [bitC_zero]
 exact blk_alloc _ _
theorem BW.slot {V W:World} {b:List Bool} (h:BW V W b) {k:Nat} (hk:k<b.length):(∃z,W.cell? ⟨V.heap.size,k,none⟩=some z)∧W.frozen? ⟨V.heap.size,k,none⟩=false∧V.heap.size<W.heap.size:=
 ⟨⟨_,(cell_of_blk h.blk k).trans (bitC_at (List.getElem?_eq_getElem hk))⟩,frozen_of_blk h.blk k,lt_of_blk h.blk⟩
theorem BlT.full {V W:World} {tb:Nat} {so:Option Addr} {sc:Nat} {ms:List (List Bool)} {A F X:Value} {fl:List Nat} {nx:List (List Nat)} {rv:List Value} (h:BlT V W tb so sc ms A F X fl nx rv) {base:Nat} (hb:base≤V.heap.size) {names:List ByteArray} (ha:V.ownsRow base 9 1 A names.length (strsC names)) {c:Array Value} {m:Nat × Nat} (ht:V.heap[tb]? =some (.cells c 36 m)):TbV W base A F X ⟨names,fl,nx⟩ rv:=
 ⟨owns_other ha h.gr fun b hb' e=>by cases hb';exact own_ty ha e ht (by decide),owns_mono h.tab.fl hb,owns_mono h.tab.nx hb,fun j r hr=>by
  obtain ⟨v,h1,h2⟩:=h.tab.rows j r hr
  exact ⟨v,h1,owns_mono h2 hb⟩,h.tab.rf,h.tab.rr⟩
def flM (ms:List (List Bool)) (i:Nat):List Nat:=(ms.take i).map flB++(ms.drop i).map flA
theorem flM_zero (ms:List (List Bool)):flM ms 0=ms.map flA:=by unfold flM;simp
theorem flM_all {ms:List (List Bool)} {i:Nat} (h:ms.length≤i):flM ms i=ms.map flB:=by unfold flM;rw [List.take_of_length_le h,List.drop_of_length_le h];simp
theorem flM_len (ms:List (List Bool)) (i:Nat):(flM ms i).length=ms.length:=by unfold flM;simp;omega
theorem flM_split {ms:List (List Bool)} {i:Nat} {b:List Bool} (h:ms[i]? =some b):flM ms i=(ms.take i).map flB++(flA b::(ms.drop (i+1)).map flA)∧flM ms (i+1)=(ms.take i).map flB++(flB b::(ms.drop (i+1)).map flA):=by
 have hi:=(List.getElem?_eq_some_iff.1 h).1
 have e:ms.drop i=b::ms.drop (i+1):=by
  rw [List.drop_eq_getElem_cons hi]
  rw [List.getElem?_eq_getElem hi] at h
  rw [Option.some.inj h]
 constructor
 ·unfold flM;rw [e];rfl
 ·unfold flM;rw [List.take_add_one,h,List.map_append,List.append_assoc];rfl
theorem flM_at {ms:List (List Bool)} {i:Nat} {b:List Bool} (h:ms[i]? =some b):(flM ms i)[i]? =some (flA b):=by
 have hi:=(List.getElem?_eq_some_iff.1 h).1
 rw [(flM_split h).1,List.getElem?_append_right (by simp;omega)]
 simp [Nat.min_eq_left (Nat.le_of_lt hi)]
theorem flM_step {ms:List (List Bool)} {i:Nat} {b:List Bool} (h:ms[i]? =some b):flM ms (i+1)=(flM ms i).set i (flB b):=by
 have hi:=(List.getElem?_eq_some_iff.1 h).1
 rw [(flM_split h).1,(flM_split h).2,List.set_append_right _ _ (by simp;omega)]
 simp [Nat.min_eq_left (Nat.le_of_lt hi)]
theorem flM_same {ms:List (List Bool)} {i:Nat} {b:List Bool} (h:ms[i]? =some b) (he:flB b=flA b):flM ms (i+1)=flM ms i:=by
 rw [(flM_split h).1,(flM_split h).2,he]
theorem flA_odd (b:List Bool):flA b%2=1↔(b[0]?).getD false=true:=by
 unfold flA
 cases (b[0]?).getD false<;>decide
theorem flA_le (b:List Bool):flA b≤1:=by unfold flA;split<;>omega
set_option maxHeartbeats 16000000 in
set_option maxRecDepth 100000 in
theorem Build_any (w:World) (al:List Tk) (rs:List Rl) (hM:MGood al rs) (h6:al.length≤6) (o1:Option Addr) (n1 k1:Nat) (o2:Option Addr) (n2 k2:Nat) (ha:ActsAre w o1 n1 k1 al) (hr:RowR w o2 n2 k2 rs):
  Calls Tryz.prog 142 #[.agg #[.slice o1 n1 k1,.slice o2 n2 k2]] w fun e w'=> ∃o,CompF al rs o∧DecP okB w o w' e:=by
 have hB:Below w.heap.size w ((w.alloc (.cells #[.slice o1 n1 k1,.slice o2 n2 k2] 228)).alloc (.cells #[.slice none 0 0,.slice none 0 0,.slice none 0 0] 36)):=((Below.refl _ _).alloc (Nat.le_refl _) _).alloc (by simp) _
 have HND:=hide (NodesOf_any TkA _ o1 n1 k1 o2 n2 k2 al rs ((KT.below hB).acts ha) (hr.later hB) hM.alen hM.rlen hM.call hM.fg (by have:=hM.nodes;omega))
 have HMB:Hid (((w.alloc (.cells #[.slice o1 n1 k1,.slice o2 n2 k2] 228)).alloc (.cells #[.slice none 0 0,.slice none 0 0,.slice none 0 0] 36)).heap[w.heap.size]? =some (.cells #[.slice o1 n1 k1,.slice o2 n2 k2] 228 (0,0))):=(Below.heap_alloc _ _ _ (by simp)).trans (blk_alloc _ _)
 have HRS:Hid (((w.alloc (.cells #[.slice o1 n1 k1,.slice o2 n2 k2] 228)).alloc (.cells #[.slice none 0 0,.slice none 0 0,.slice none 0 0] 36)).heap[w.heap.size+1]? =some (.cells #[.slice none 0 0,.slice none 0 0,.slice none 0 0] 36 (0,0))):=blk_alloc' _ _ _ (by simp)
 have HA0:=hide ((KT.below hB).acts ha)
 have hn1:n1=al.length:=ha.len
 have HB:=hide hB
 have HM:=hide hM
 have hne:1≤al.length:=by
  cases hc:al with
  |nil=>exact absurd hc hM.ne
  |cons _ _=>simp
 subst hn1
 clear ha hr hB hM
 go_enter Tryz.func142,Tryz.ntmps142
 go_wp2_with fail
 refine (unhide HND).mono ?_
 generalize ((w.alloc (.cells #[.slice o1 al.length k1,.slice o2 n2 k2] 228)).alloc (.cells #[.slice none 0 0,.slice none 0 0,.slice none 0 0] 36))=W0 at *
 rintro e w1 ⟨nb,B,rfl,hn1,hn2,hnd,hb1⟩
 have hbt:Below w1.heap.size w1 (w1.alloc (.cells #[.slice none 0 0,.slice none 0 0,.slice none 0 0] 36)):=(Below.refl _ _).alloc (Nat.le_refl _) _
 have hmb:=(hb1.block _ (lt_of_blk (unhide HMB))).trans (unhide HMB)
 have HMB1:=hide hmb
 have HA1:=hide ((KT.below hb1).acts (unhide HA0))
 have HRS1:=hide ((hb1.block _ (lt_of_blk (unhide HRS))).trans (unhide HRS))
 have HND1:=hide hnd
 have HB1:=hide ((unhide HB).trans (hb1.mono (unhide HB).size))
 have HTB0:Hid ((w1.alloc (.cells #[.slice none 0 0,.slice none 0 0,.slice none 0 0] 36)).heap[w1.heap.size]? =some (.cells #[.slice none 0 0,.slice none 0 0,.slice none 0 0] 36 (0,0))):=blk_alloc _ _
 have HBT:=hide hbt
 clear hmb hnd hb1 hbt HND HMB HA0 HRS HB
 go_wp2_with fail
 generalize w1.alloc (.cells #[.slice none 0 0,.slice none 0 0,.slice none 0 0] 36)=W1 at *
 go_loopw [6] (fun x wr=> ∃(k:Nat) (ao:Option Addr) (ac:Nat),k≤al.length∧x= .int .i64 k∧Hid (wr.heap[w1.heap.size]? =some (.cells #[.slice ao k ac,.slice none 0 0,.slice none 0 0] 36 (0,0)))∧Hid (wr.ownsRow w1.heap.size 9 1 (.slice ao k ac) k (strsC ((al.map (·.s)).take k)))∧Hid (Below w1.heap.size w1 wr)) (fun x _=>al.length - (intOf x).toNat)
 case atStart=>exact ⟨0,none,0,Nat.zero_le _,rfl,HTB0,World.ownsRow_nil _ _ _ _,HBT⟩
 case round=>
  obtain ⟨k,ao,ac,hk,rfl,HTB,HOA,HBW⟩:=hrel
  have hmb:=((unhide HBW).block _ (lt_of_blk (unhide HMB1))).trans (unhide HMB1)
  have hmc:=cell_of_blk hmb 0
  have hml:=lt_of_blk hmb
  have htc:=cell_of_blk (unhide HTB) 0
  have htf:=frozen_of_blk (unhide HTB) 0
  have htl:=lt_of_blk (unhide HTB)
  clear hmb
  by_cases hlt:k<al.length
  ·have hkn:(k:Int)<(al.length:Int):=by omega
   obtain ⟨ag,ho1,hal,_,_,hsc,_⟩:=((KT.below (unhide HBW)).acts (unhide HA1)).tok (i:=k) (t:=al[k]) (r:=al.drop (k+1)) (List.drop_eq_getElem_cons hlt)
   subst ho1
   obtain ⟨ag',ho1',haw,_,_,hsc0,_⟩:=(unhide HA1).tok (i:=k) (t:=al[k]) (r:=al.drop (k+1)) (List.drop_eq_getElem_cons hlt)
   have hage:ag=ag':=by injection ho1' with h;injection h
   subst hage
   clear ho1'
   have hmw:=lt_of_blk (unhide HMB1)
   have hmc0:=cell_of_blk (unhide HMB1) 0
   have HTK:Hid ((al.map (·.s)).take (k+1)=(al.map (·.s)).take k++[al[k].s]):=by
    show _=_
    rw [List.take_add_one,List.getElem?_map,List.getElem?_eq_getElem hlt]
    rfl
   generalize al[k].s=s at *
   go_wp2_with fail
   have hba:Below wr.heap.size wr (wr.alloc (.cells #[.string s] 9)).drew:=((Below.refl _ _).alloc (Nat.le_refl _) _).drew
   have hsz:w1.heap.size≤(wr.alloc (.cells #[.string s] 9)).drew.heap.size:=Nat.le_trans (unhide HBW).size hba.size
   refine wp_region_held_drew (S:=fun w'=>w'.cell? ⟨w.heap.size,0,none⟩=some (.slice (some ⟨ag,0,none⟩) al.length k1)∧w'.cell? ⟨ag,k * 3+1,none⟩=some (.string s)) (by kernel_rfl) ?_ (fun hHeld=> ?_)
   ·exact ⟨hmc,hsc⟩
   refine wpAnyH_take (i:=0) (v:= .pointer (some ⟨w1.heap.size,0,none⟩)) rfl (by kernel_rfl) (by kernel_rfl) (by kernel_rfl) (fun _ _ _ h=>h) (Or.inl ⟨by kernel_rfl,fun w hw=>by obtain ⟨s0,s1⟩:=hw;go_simp⟩) hHeld ?_
   try simp only [Act.put,List.setIfInBounds_toArray,List.set_cons_zero,List.set_cons_succ,List.getElem_toArray,List.getElem_cons_succ,List.getElem_cons_zero]
   refine wpAnyH_take (i:=2) (v:= .pointer (some ⟨w.heap.size,0,none⟩)) rfl (by kernel_rfl) (by kernel_rfl) (by kernel_rfl) (fun _ _ _ h=>h) (Or.inl ⟨by kernel_rfl,fun w hw=>by obtain ⟨s0,s1⟩:=hw;go_simp⟩) hHeld ?_
   try simp only [Act.put,List.setIfInBounds_toArray,List.set_cons_zero,List.set_cons_succ,List.getElem_toArray,List.getElem_cons_succ,List.getElem_cons_zero]
   refine wpAnyH_take (i:=3) (v:= .slice (some ⟨ag,0,none⟩) al.length k1) rfl (by kernel_rfl) (by kernel_rfl) (by kernel_rfl) (fun _ _ _ h=>h) (Or.inl ⟨by kernel_rfl,fun w hw=>by obtain ⟨s0,s1⟩:=hw;go_simp⟩) hHeld ?_
   try simp only [Act.put,List.setIfInBounds_toArray,List.set_cons_zero,List.set_cons_succ,List.getElem_toArray,List.getElem_cons_succ,List.getElem_cons_zero]
   refine wpAnyH_take (i:=4) (v:= .int .i64 (k:Int)) rfl (by kernel_rfl) (by kernel_rfl) (by kernel_rfl) (fun _ _ _ h=>h) (Or.inl ⟨by kernel_rfl,fun w hw=>by obtain ⟨s0,s1⟩:=hw;go_simp⟩) hHeld ?_
   try simp only [Act.put,List.setIfInBounds_toArray,List.set_cons_zero,List.set_cons_succ,List.getElem_toArray,List.getElem_cons_succ,List.getElem_cons_zero]
   refine wpAnyH_take (i:=5) (v:= .pointer (some ⟨ag,k * 3,none⟩)) rfl (by kernel_rfl) (by kernel_rfl) (by kernel_rfl) (fun _ _ _ h=>h) (Or.inl ⟨by kernel_rfl,fun w hw=>by obtain ⟨s0,s1⟩:=hw;go_simp⟩) hHeld ?_
   try simp only [Act.put,List.setIfInBounds_toArray,List.set_cons_zero,List.set_cons_succ,List.getElem_toArray,List.getElem_cons_succ,List.getElem_cons_zero]
   refine wpAnyH_take (i:=6) (v:= .pointer (some ⟨ag,k * 3+1,none⟩)) rfl (by kernel_rfl) (by kernel_rfl) (by kernel_rfl) (fun _ _ _ h=>h) (Or.inl ⟨by kernel_rfl,fun w hw=>by obtain ⟨s0,s1⟩:=hw;go_simp⟩) hHeld ?_
   try simp only [Act.put,List.setIfInBounds_toArray,List.set_cons_zero,List.set_cons_succ,List.getElem_toArray,List.getElem_cons_succ,List.getElem_cons_zero]
   refine wpAnyH_take (i:=7) (v:= .string s) rfl (by kernel_rfl) (by kernel_rfl) (by kernel_rfl) (fun _ _ _ h=>h) (Or.inl ⟨by kernel_rfl,fun w hw=>by obtain ⟨s0,s1⟩:=hw;go_simp⟩) hHeld ?_
   try simp only [Act.put,List.setIfInBounds_toArray,List.set_cons_zero,List.set_cons_succ,List.getElem_toArray,List.getElem_cons_succ,List.getElem_cons_zero]
   refine wpAnyH_ready (rs:=[1,8]) (by kernel_rfl) (by simp) ?_
   refine AllReadyH.cons rfl (fun K hK=> ?ra) (AllReadyH.cons rfl (fun K hK=> ?rb) AllReadyH.nil)
   case' ra=>(go_simp;refine hK.out _ _ hHeld (fun hHeld=> ?_);clear hK K;refine wpAnyH_ready (rs:=[8]) (by kernel_rfl) (by simp) ?_;refine AllReadyH.cons rfl (fun K hK=> ?_) AllReadyH.nil;go_simp;refine hK.out _ _ ⟨(World.cell?_alloc_lt _ _ _ hml).trans hmc,(World.cell?_alloc_lt _ _ _ hal).trans hsc⟩ (fun hHeld=> ?_);clear hK K)
   case' rb=>(go_simp;refine hK.out _ _ ⟨(World.cell?_alloc_lt _ _ _ hml).trans hmc,(World.cell?_alloc_lt _ _ _ hal).trans hsc⟩ (fun hHeld=> ?_);clear hK K;refine wpAnyH_ready (rs:=[1]) (by kernel_rfl) (by simp) ?_;refine AllReadyH.cons rfl (fun K hK=> ?_) AllReadyH.nil;go_simp;refine hK.out _ _ hHeld (fun hHeld=> ?_);clear hK K)
   all_goals (
    refine wpAnyH_ready (rs:=[9]) (by kernel_rfl) (by simp) ?_
    refine AllReadyH.cons rfl (fun K hK=> ?_) AllReadyH.nil
    refine stp1 (by rfl) _ _ 25 (by rfl) w1.heap.size 9 infoVs rfl Tryz.underlying25 (v:= .slice ao k ac) (n:=k) (xs:=strsC ((al.map (·.s)).take k)) (by rfl) (H:=wr.heap.size) (.string s) (by rfl) rfl (owns_later (unhide HOA) hba) (blk_alloc wr _) (by omega) hsz ?_
    intro g4 cap4 w4 hown4 hgrow4 hat4
    have hgrow5:(wr.alloc (.cells #[.string s] 9)).drew.grownBy w4 (Value.slice ao k ac).ownBlock:=hgrow4
    have hoa:=owns_later (unhide HOA) hba
    have hb4:Below w1.heap.size w1 w4:=((unhide HBW).trans (hba.mono (unhide HBW).size)).grown hgrow5 (Nat.le_trans (unhide HBW).size hba.size) (fun b hb=>(own_lt hoa b hb).1)
    have htb4:=(hgrow5.block _ (Nat.lt_of_lt_of_le htl hba.size) (fun e=>own_ty hoa e.symm ((hba.block _ htl).trans (unhide HTB)) (by decide))).trans ((hba.block _ htl).trans (unhide HTB))
    have tc4:=cell_of_blk htb4 0
    have tf4:=frozen_of_blk htb4 0
    have tl4:=lt_of_blk htb4
    have HTB4:Hid ((w4.setCell ⟨w1.heap.size,0,none⟩ (.slice (some ⟨g4,0,none⟩) (k+1) cap4)).heap[w1.heap.size]? =some (.cells #[.slice (some ⟨g4,0,none⟩) (k+1) cap4,.slice none 0 0,.slice none 0 0] 36 (0,0))):=blk_set htb4 0 _
    have HOA4:Hid ((w4.setCell ⟨w1.heap.size,0,none⟩ (.slice (some ⟨g4,0,none⟩) (k+1) cap4)).ownsRow w1.heap.size 9 1 (.slice (some ⟨g4,0,none⟩) (k+1) cap4) (k+1) (strsC ((al.map (·.s)).take (k+1)))):=by
     have e:strsC ((al.map (·.s)).take (k+1))=strsC ((al.map (·.s)).take k)++[.string s]:=by rw [unhide HTK];unfold strsC;rw [List.map_append];rfl
     show World.ownsRow _ _ _ _ _ _ _
     rw [e]
     exact owns_other hown4 (grown_set _ _ _ _) fun b hb e=>by cases hb;exact own_ty hown4 e htb4 (by decide)
    have HBW4:=hide (hb4.setCell (p:=⟨w1.heap.size,0,none⟩) (Nat.le_refl _) (.slice (some ⟨g4,0,none⟩) (k+1) cap4))
    have hm4:=(bcell3 hb4 w.heap.size 0 hmw).trans hmc0
    have ha4:=(bcell3 hb4 ag (k * 3+1) haw).trans hsc0
    refine hK.out _ _ ⟨hm4,ha4⟩ (fun hHeld=> ?_)
    clear hK K
    clear hown4 hgrow4 hat4 hgrow5 hb4 htb4 hoa htc htf
    refine wpAnyH_take (i:=10) (v:= .pointer (some ⟨w1.heap.size,0,none⟩)) rfl (by kernel_rfl) (by kernel_rfl) (by kernel_rfl) (fun _ _ _ h=>h) (Or.inl ⟨by kernel_rfl,fun w hw=>by obtain ⟨s0,s1⟩:=hw;go_simp⟩) hHeld ?_
    try simp only [Act.put,List.setIfInBounds_toArray,List.set_cons_zero,List.set_cons_succ,List.getElem_toArray,List.getElem_cons_succ,List.getElem_cons_zero]
    refine wpAnyH_ready (rs:=[11]) (by kernel_rfl) (by simp) ?_
    refine AllReadyH.cons rfl (fun K hK=> ?_) AllReadyH.nil
    go_simp
    refine hK.out _ _ ⟨(World.cell?_setCell_far _ _ _ _ (by show w1.heap.size≠w.heap.size;omega)).trans hHeld.1,(World.cell?_setCell_far _ _ _ _ (by show w1.heap.size≠ag;omega)).trans hHeld.2⟩ (fun hHeld=> ?_)
    clear hK K
    refine wpAnyH_done (by kernel_rfl) ?_ _
    clear hHeld
    clear tc4 tf4 tl4 hba hsz hm4 ha4
    go_wp2_with fail
    go_roundw
    case rel=>exact ⟨k+1,some ⟨g4,0,none⟩,cap4,by omega,by go_num,HTB4,HOA4,HBW4⟩
    case measure=>simp [intOf];omega
    )
  ·have hkn:¬ (k:Int)<(al.length:Int):=by omega
   have hke:k=al.length:=by omega
   subst hke
   have hall:(al.map (·.s)).take al.length=al.map (·.s):=by rw [List.take_of_length_le (by simp)]
   rw [hall] at HOA
   have HGD:=hide (nodM_good TkA al rs ([],[]) (unhide HM).fg (fun k d h=>by simp at h))
   have HTP:Hid (∀t∈(nodM al rs ([],[])).2,0≤t∧t<((nodM al rs ([],[])).1.length:Int)):=hide (fun t h=>⟨nodM_nonneg TkA al rs ([],[]) (unhide HM).fg (fun t h=>by simp at h) t h,nodM_tops al rs ([],[]) (fun t h=>by simp at h) t h⟩)
   have hnl:(nodM al rs ([],[])).1.length≤16:=by rw [(nodM_len al rs ([],[])).1];have:=(unhide HM).nodes;simpa using this
   have hTl:(nodM al rs ([],[])).2.length≤10000:=by rw [(nodM_len al rs ([],[])).2];have:=(unhide HM).rlen;simp;omega
   have HCF:Hid (∀o,CmpR (p0R (nodM al rs ([],[])).1) (ahR (nodM al rs ([],[])).1) (keepR (nodM al rs ([],[])).2) (al.map (·.s)) o→CompF al rs o):=fun o h=>h
   have HPT:=hide (points_any wr nb B _ _ ((unhide HND1).later (unhide HBW)) (unhide HGD) hnl al.length h6)
   generalize (nodM al rs ([],[])).1=L at *
   generalize (nodM al rs ([],[])).2=T at *
   clear hall htc htf
   go_wp2_with fail
   refine (unhide HPT).mono ?_
   rintro e w3 ⟨N,sb,rv0,l,tw,lo,lc,ho,hc,rfl,hbfs,hpt,hlf⟩
   have hb13:Below w1.heap.size w1 w3:=(unhide HBW).trans (hpt.bel.mono (unhide HBW).size)
   have HB13:=hide hb13
   have HTB3:=hide ((hpt.bel.block _ (lt_of_blk (unhide HTB))).trans (unhide HTB))
   have HOA3:=hide (owns_later (unhide HOA) hpt.bel)
   have HMB3:=hide ((hb13.block _ (lt_of_blk (unhide HMB1))).trans (unhide HMB1))
   have HRS3:=hide ((hb13.block _ (lt_of_blk (unhide HRS1))).trans (unhide HRS1))
   have HND3:=hide ((unhide HND1).later hb13)
   have HPP:=hide hpt
   have HBFS:=hide hbfs
   have hml3:=lt_of_blk (unhide HMB3)
   have htl3:=lt_of_blk (unhide HTB3)
   have hmtb:w.heap.size<w1.heap.size:=lt_of_blk (unhide HMB1)
   have hrtb:w.heap.size+1<w1.heap.size:=lt_of_blk (unhide HRS1)
   have HBW3:=hide ((unhide HB1).trans (hb13.mono (unhide HB1).size))
   have htwl:tw.length=l.length:=hbfs.len
   have HTWL:=hide htwl
   have HTW:=hide (tw_ok hbfs)
   have HLEN:=hide (points_len hbfs)
   have hl1:1≤l.length:=by have:=(List.getElem?_eq_some_iff.1 hbfs.first).1;omega
   have hmk:=fun W:World=>mkBytes W l.length (by omega)
   clear hpt hbfs hb13 HPT HBW HTB HOA hmc hml htl HND1 HMB1 HRS1 HA1 HBT HTB0 htwl
   generalize hKe:l.map (keepR T)=K0 at *
   have HKE:=hide hKe
   have hKl:K0.length=l.length:=by rw [←hKe,List.length_map]
   have HX0:Hid (BW w3 (w3.alloc (.cells (Array.replicate l.length (.int .u8 0)) 5)) (bitsTo K0 0)):=by
    show BW _ _ _
    rw [bitsTo_zero,hKl]
    exact BW.start w3 l.length
   have HKL:=hide hKl
   clear hKe hKl
   go_wp2_with fail
   generalize w3.alloc (.cells (Array.replicate l.length (.int .u8 0)) 5)=W3 at *
   clear hmk
   go_loopw [10] (fun x wr=> ∃k:Nat,k≤l.length∧x= .int .i64 k∧Hid (BW w3 wr (bitsTo K0 k))) (fun x _=>l.length - (intOf x).toNat)
   case atStart=>exact ⟨0,Nat.zero_le _,rfl,HX0⟩
   case round=>
    obtain ⟨k,hk,rfl,HX⟩:=hrel
    by_cases hlt:k<l.length
    ·have hkn:(k:Int)<(l.length:Int):=by omega
     have HPK:=hide (List.getElem?_eq_getElem hlt)
     have HKK:Hid (K0[k]? =some (keepR T l[k])):=by show _=_;rw [←unhide HKE,List.getElem?_map,List.getElem?_eq_getElem hlt];rfl
     have hpl:l[k].2.length=L.length:=unhide HLEN _ (List.getElem_mem hlt)
     obtain ⟨⟨z0,vc⟩,vf,lv⟩:=(unhide HX).slot (k:=k) (by rw [bitsTo_len (by rw [unhide HKL];omega),unhide HKL];exact hlt)
     have HX1:Hid (BW w3 (wr.setCell ⟨w3.heap.size,k,none⟩ (.int .u8 1)) ((bitsTo K0 k).set k (keepR (T.take 0) l[k]))):=(unhide HX).set k true rfl
     clear HX
     generalize l[k]=p at *
     go_wp2_with fail
     clear vc vf lv
     generalize wr.setCell ⟨w3.heap.size,k,none⟩ (.int .u8 1)=W4 at *
     rename World=>wR
     go_loopw [11] (fun x wr=> ∃j:Nat,j≤T.length∧x= .int .i64 j∧Hid (BW w3 wr ((bitsTo K0 k).set k (keepR (T.take j) p)))) (fun x _=>T.length - (intOf x).toNat)
     case atStart=>exact ⟨0,Nat.zero_le _,rfl,HX1⟩
     case round=>
      obtain ⟨j,hj,rfl,HY⟩:=hrel
      obtain ⟨p0,c0,p1,c1,p2,c2,p3,c3,p4,c4,hnb,_,htops⟩:=((unhide HND3).later (unhide HY).bel).ex
      have b4:=cell_of_blk hnb 4
      have l4:=lt_of_blk hnb
      by_cases hjl:j<T.length
      ·have hjn:(j:Int)<(T.length:Int):=by omega
       obtain ⟨g4,rfl,hg4,ht4⟩:=htops j T[j] (List.getElem?_eq_getElem hjl)
       obtain ⟨pg,rfl,hpg,hp1,_⟩:=((unhide HPP).at_ (unhide HTB3) (grown_below (unhide HY).bel _)).1 k p (unhide HPK)
       obtain ⟨ht0,ht1⟩:=unhide HTP _ (List.getElem_mem hjl)
       have HKT:=hide (keepR_take (p:=p) (List.getElem?_eq_getElem hjl))
       obtain ⟨tt,htt⟩: ∃tt:Nat,T[j]=(tt:Int):=⟨T[j].toNat,by omega⟩
       rw [htt] at ht4 ht1 HKT
       have httl:tt<p.2.length:=by omega
       have htts:tt<(setS p.2).size:=by rw [setS_size];exact httl
       have httsi:(tt:Int)<((setS p.2).size:Int):=by omega
       have hx:=setS_at htts (List.getElem?_eq_getElem httl:p.2[tt]? =some p.2[tt])
       rw [bitAt_nat (List.getElem?_eq_getElem httl)] at HKT
       obtain ⟨⟨z0,vc⟩,vf,lv⟩:=(unhide HY).slot (k:=k) (by rw [List.length_set,bitsTo_len (by rw [unhide HKL];omega),unhide HKL];exact hlt)
       generalize p.2[tt]=x at *
       clear htops hnb htt ht0 ht1
       cases x with
       |true=>
        have HY2:Hid (∀n,BW w3 (wr.drewN n) ((bitsTo K0 k).set k (keepR (T.take (j+1)) p))):=fun n=>by rw [unhide HKT,Bool.and_true];exact (unhide HY).later (bdn wr n)
        simp only [if_true] at hx
        have hxd:decide (((setS p.2)[tt].toNat:Int)=0)=false:=by rw [hx];rfl
        clear HY HKT
        go_wp2_with fail
        go_quiet (fail)
        go_wp2_with fail
        go_roundw
        case rel=>exact ⟨j+1,by omega,by go_num,hide (unhide HY2 nq)⟩
        case measure=>simp [intOf];omega
       |false=>
        have HY2:Hid (∀n,BW w3 ((wr.drewN n).setCell ⟨w3.heap.size,k,none⟩ (.int .u8 0)) ((bitsTo K0 k).set k (keepR (T.take (j+1)) p))):=fun n=>by
         have h1:=((unhide HY).later (bdn wr n)).set k false (z:=0) rfl
         rw [List.set_set] at h1
         rw [unhide HKT,Bool.and_false]
         exact h1
        have vc':=fun n=>(bcell3 (bdn wr n) w3.heap.size k lv).trans vc
        have vf':=fun n=>(bfroz3 (bdn wr n) w3.heap.size k lv).trans vf
        have hxd:decide (((setS p.2)[tt].toNat:Int)=0)=true:=by rw [hx];rfl
        clear HY HKT
        go_wp2_with fail
        go_quiet (fail)
        go_wp2_with fail
        go_roundw
        case rel=>exact ⟨j+1,by omega,by go_num,hide (unhide HY2 nq)⟩
        case measure=>simp [intOf];omega
      ·have hjn:¬ (j:Int)<(T.length:Int):=by omega
       have HY2:Hid (BW w3 wr (bitsTo K0 (k+1))):=by
        show BW _ _ _
        have h1:=unhide HY
        rw [List.take_of_length_le (by omega)] at h1
        rw [bitsTo_succ (unhide HKK)]
        exact h1
       clear htops hnb HY
       go_wp2_with fail
       go_roundw
       case rel=>exact ⟨k+1,by omega,by go_num,HY2⟩
       case measure=>simp [intOf];omega
    ·have hkn:¬ (k:Int)<(l.length:Int):=by omega
     have hke:k=K0.length:=by rw [unhide HKL];omega
     rw [hke,bitsTo_all] at HX
     clear hke
     have hcv:=bits_str wr _ l.length _ _ _ (unhide HX).blk (unhide HKL)
     have hbx:Below w3.heap.size w3 (wr.alloc (.cells #[.string (setS K0)] 9)):=(unhide HX).bel.alloc (unhide HX).bel.size _
     have HBL0:Hid (BlT w3 (wr.alloc (.cells #[.string (setS K0)] 9)) w1.heap.size (some ⟨wr.heap.size,0,none⟩) 1 [K0] (.slice ao al.length ac) (.slice none 0 0) (.slice none 0 0) [] [] []):=
      ⟨(hbx.block _ htl3).trans (unhide HTB3),htl3,⟨rfl,Or.inr ⟨wr.heap.size,1,_,rfl,(unhide HX).bel.size,blk_alloc _ _,Nat.le_refl _,by unfold maxLen;omega,rfl,rfl⟩⟩,⟨World.ownsRow_nil _ _ _ _,World.ownsRow_nil _ _ _ _,World.ownsRow_nil _ _ _ _,fun j r hr=>by simp at hr,fun v hv=>by simp at hv,List.Pairwise.nil⟩,grown_below hbx _⟩
     clear hbx HX
     go_wp2_with fail
     generalize wr.alloc (.cells #[.string (setS K0)] 9)=W5 at *
     have hmkb:=fun W:World=>mkBytes W l.length (by omega)
     generalize wr.heap.size=s0b at *
     clear hcv
     go_loopw [12,13] (fun y x wr=> ∃(k:Nat) (so:Option Addr) (sc:Nat) (ms:List (List Bool)) (fo:Option Addr) (fc:Nat) (xo:Option Addr) (xc:Nat) (rows:List (List Nat)) (rv:List Value),y= .slice so ms.length sc∧x= .int .i64 k∧Hid (BlT w3 wr w1.heap.size so sc ms (.slice ao al.length ac) (.slice fo k fc) (.slice xo k xc) ((ms.take k).map flA) rows rv)∧Hid (Bfs (setB tw) (List.range al.length) K0 k ms rows)∧ms.length≤100∧Hid (bfs (setB tw) (List.range al.length) 100 102 0 [K0] []=bfs (setB tw) (List.range al.length) 100 (102 - k) k ms rows)) (fun _ x _=>101 - (intOf x).toNat)
     case atStart=>exact ⟨0,some ⟨s0b,0,none⟩,1,[K0],none,0,none,0,[],[],rfl,rfl,HBL0,Bfs.start _ _ _,by simp,rfl⟩
     case round=>
      obtain ⟨k,so,sc,ms,fo,fc,xo,xc,rows,rv,rfl,rfl,HBL,HBQ,hms,HEQ⟩:=hrel
      have hkm:=(unhide HBQ).le
      have HRK:Hid (rows.length=k):=(unhide HBQ).len
      have hgr:=(unhide HBL).gr
      have hmc:wr.cell? ⟨w.heap.size,0,none⟩=some (.slice o1 al.length k1):=(gcell hgr 0 hml3 (by omega)).trans (cell_of_blk (unhide HMB3) 0)
      have hml:w.heap.size<wr.heap.size:=Nat.lt_of_lt_of_le hml3 hgr.size
      clear hgr
      by_cases hlt:k<ms.length
      ·have hkn:(k:Int)<(ms.length:Int):=by omega
       have HX:=hide (List.getElem?_eq_getElem hlt)
       have hbsl:ms[k].length=tw.length:=sets_len (unhide HBQ) (by rw [unhide HKL,unhide HTWL]) _ (List.getElem_mem hlt)
       have HBSL:=hide hbsl
       have HU0:=hide (RwU.start wr w3.heap.size (.slice fo k fc) rv)
       generalize ms[k]=bs at *
       clear hbsl
       go_wp2_with fail
       clear hmc hml
       rename World=>wR
       go_loopw [12,14,15] (fun y v x wr=> ∃(j:Nat) (so:Option Addr) (sc:Nat) (M:List (List Bool)) (q:List Nat) (vo:Option Addr) (vc:Nat),j≤al.length∧y= .slice so M.length sc∧v= .slice vo j vc∧x= .int .i64 j∧Hid (BlT w3 wr w1.heap.size so sc M (.slice ao al.length ac) (.slice fo k fc) (.slice xo k xc) ((ms.take k).map flA) rows rv)∧Hid (RwU wr w3.heap.size (.slice fo k fc) rv (.slice vo j vc) q)∧Hid (rowN (setB tw) bs (List.range j) ms=(M,q))) (fun _ _ x _=>al.length - (intOf x).toNat)
       case atStart=>exact ⟨0,so,sc,ms,[],none,0,Nat.zero_le _,rfl,rfl,rfl,HBL,HU0,rfl⟩
       case round=>
        obtain ⟨j,so2,sc2,M,q,vo,vc,hj,rfl,rfl,rfl,HB2,HU,HRN⟩:=hrel
        have hspec:=rowN_spec (setB tw) bs (List.range j) ms
        rw [unhide HRN] at hspec
        obtain ⟨⟨xs,hMx,hxs⟩,hql,_,_⟩:=hspec
        have hMle:M.length≤ms.length+j:=by
         have:=rowN_le (setB tw) bs (List.range j) ms
         rw [unhide HRN,List.length_range] at this
         exact this
        have HQL:Hid (q.length=j):=by show _=_;simpa using hql
        have HMX:Hid (M=ms++xs):=hMx
        have hkM:k<M.length:=by rw [unhide HMX,List.length_append];omega
        have HXM:Hid (M[k]? =some bs):=by show _=_;rw [unhide HMX];exact getApp (unhide HX)
        have hgr:=(unhide HB2).gr
        have hmc:wr.cell? ⟨w.heap.size,0,none⟩=some (.slice o1 al.length k1):=(gcell hgr 0 hml3 (by omega)).trans (cell_of_blk (unhide HMB3) 0)
        have hml:w.heap.size<wr.heap.size:=Nat.lt_of_lt_of_le hml3 hgr.size
        have hsz3:=hgr.size
        clear hMx hxs hql hgr
        by_cases hjl:j<al.length
        ·have hjn:(j:Int)<(al.length:Int):=by omega
         have hs2l:(setB tw bs j).length=l.length:=by unfold setB;rw [List.length_map];exact unhide HTWL
         have HX6:Hid (BW wr (wr.alloc (.cells (Array.replicate l.length (.int .u8 0)) 5)) (bitsTo (setB tw bs j) 0)):=by
          show BW _ _ _
          rw [bitsTo_zero,hs2l]
          exact BW.start wr l.length
         have HSUC:Hid (rowN (setB tw) bs (List.range (j+1)) ms=((numb M (setB tw bs j)).1,q++[(numb M (setB tw bs j)).2])):=by
          show _=_
          rw [List.range_succ,rowN_append,unhide HRN]
         have HS2:Hid (∀(i:Nat) (r:List Nat) (x:Nat) (y:Bool),tw[i]? =some r→r[j]? =some x→bs[x]? =some y→(setB tw bs j)[i]? =some y):=fun i r x y h1 h2 h3=>by
          unfold setB
          rw [List.getElem?_map,h1,Option.map_some,h2,Option.getD_some,h3]
          rfl
         have HS2L:=hide hs2l
         generalize setB tw bs j=s2 at *
         clear hs2l
         go_wp2_with fail
         clear hmc hml
         generalize wr.alloc (.cells (Array.replicate l.length (.int .u8 0)) 5)=W6 at *
         generalize wr=wS at *
         go_loopw [17] (fun x wr=> ∃i:Nat,i≤l.length∧x= .int .i64 i∧Hid (BW wS wr (bitsTo s2 i))) (fun x _=>l.length - (intOf x).toNat)
         case atStart=>exact ⟨0,Nat.zero_le _,rfl,HX6⟩
         case round=>
          obtain ⟨i,hi,rfl,HY⟩:=hrel
          by_cases hil:i<l.length
          ·have hin:(i:Int)<(l.length:Int):=by omega
           have hit:i<tw.length:=by rw [unhide HTWL];exact hil
           have hiti:(i:Int)<(tw.length:Int):=by omega
           have hbel:=(unhide HY).bel
           obtain ⟨pb,hso,hpl,hpc⟩:=owns1_at (unhide HB2).st hkM
           have hpc2:wr.cell? ⟨pb,k,none⟩=some (.string (setS bs)):=(bcell3 hbel _ _ hpl).trans (hpc.trans (by unfold setC;rw [List.getElem?_map,unhide HXM];rfl))
           have hpl2:=Nat.lt_of_lt_of_le hpl hbel.size
           obtain ⟨rr,hrr⟩: ∃rr,tw[i]? =some rr:=⟨_,List.getElem?_eq_getElem hit⟩
           obtain ⟨hrl,hrx⟩:=unhide HTW rr (List.mem_of_getElem? hrr)
           obtain ⟨tg,to_,ro,rc,hho,htg,htc,hin2⟩:=((unhide HPP).at_ (unhide HTB3) (unhide HB2).gr).2 i (zI rr) (by rw [List.getElem?_map,hrr];rfl)
           have hzl:(zI rr).length=al.length:=by unfold zI;rw [List.length_map];exact hrl
           rw [hzl] at htc
           obtain ⟨x,hx⟩: ∃x,rr[j]? =some x:=⟨_,List.getElem?_eq_getElem (by rw [hrl];exact hjl)⟩
           have hxl:=hrx x (List.mem_of_getElem? hx)
           obtain ⟨rg,r0,hro,hrg,hrc⟩:=hin2 j (x:Int) (by unfold zI;rw [List.getElem?_map,hx];rfl)
           have htc2:=(bcell3 hbel _ _ htg).trans htc
           have hrc2:=(bcell3 hbel _ _ hrg).trans hrc
           have htg2:=Nat.lt_of_lt_of_le htg hbel.size
           have hrg2:=Nat.lt_of_lt_of_le hrg hbel.size
           have hxb:x<bs.length:=by rw [unhide HBSL];exact hxl
           have hxs:x<(setS bs).size:=by rw [setS_size];exact hxb
           have hxsi:(x:Int)<((setS bs).size:Int):=by omega
           have hat:=setS_at hxs (List.getElem?_eq_getElem hxb:bs[x]? =some bs[x])
           have HBT2:=hide (unhide HS2 i rr x bs[x] hrr hx (List.getElem?_eq_getElem hxb))
           obtain ⟨⟨z0,vc⟩,vf,lv⟩:=(unhide HY).slot (k:=i) (by rw [bitsTo_len (by rw [unhide HS2L];omega),unhide HS2L];exact hil)
           have HY2:Hid (∀n,BW wS ((wr.drewN n).setCell ⟨wS.heap.size,i,none⟩ (.int .u8 ((setS bs)[x].toNat:Int))) (bitsTo s2 (i+1))):=fun n=>by
            rw [bitsTo_succ (unhide HBT2)]
            exact ((unhide HY).later (bdn wr n)).set i bs[x] (by rw [hat,bit8_nat])
           have HY3:Hid (∀W,Below wr.heap.size wr W→BW wS (W.setCell ⟨wS.heap.size,i,none⟩ (.int .u8 ((setS bs)[x].toNat:Int))) (bitsTo s2 (i+1))):=fun W hW=>by
            rw [bitsTo_succ (unhide HBT2)]
            exact ((unhide HY).later hW).set i bs[x] (by rw [hat,bit8_nat])
           have hne1:wS.heap.size≠pb:=by omega
           have hne2:wS.heap.size≠tg:=by omega
           have hne3:wS.heap.size≠rg:=by omega
           subst hso hho hro
           clear hpc htc hrc hin2 hrr hx hbel hat HY2 hrx hrl hzl
           go_wp2_with fail
           refine wp_region_held_drew (S:=fun w'=>w'.cell? ⟨pb,k,none⟩=some (.string (setS bs))∧w'.cell? ⟨tg,to_+i,none⟩=some (.slice (some ⟨rg,r0,none⟩) al.length rc)∧w'.cell? ⟨rg,r0+j,none⟩=some (.int .i64 (x:Int))) (by kernel_rfl) ?_ (fun hHeld=> ?_)
           ·exact ⟨hpc2,htc2,hrc2⟩
           refine wpAnyH_take (i:=0) (v:= .slice (some ⟨wS.heap.size,0,none⟩) l.length l.length) rfl (by kernel_rfl) (by kernel_rfl) (by kernel_rfl) (fun _ _ _ h=>h) (Or.inl ⟨by kernel_rfl,fun w hw=>by obtain ⟨s0,s1,s2⟩:=hw;go_simp⟩) hHeld ?_
           try simp only [Act.put,List.setIfInBounds_toArray,List.set_cons_zero,List.set_cons_succ,List.getElem_toArray,List.getElem_cons_succ,List.getElem_cons_zero]
           refine wpAnyH_take (i:=1) (v:= .int .i64 (i:Int)) rfl (by kernel_rfl) (by kernel_rfl) (by kernel_rfl) (fun _ _ _ h=>h) (Or.inl ⟨by kernel_rfl,fun w hw=>by obtain ⟨s0,s1,s2⟩:=hw;go_simp⟩) hHeld ?_
           try simp only [Act.put,List.setIfInBounds_toArray,List.set_cons_zero,List.set_cons_succ,List.getElem_toArray,List.getElem_cons_succ,List.getElem_cons_zero]
           refine wpAnyH_take (i:=2) (v:= .slice (some ⟨pb,0,none⟩) M.length sc2) rfl (by kernel_rfl) (by kernel_rfl) (by kernel_rfl) (fun _ _ _ h=>h) (Or.inl ⟨by kernel_rfl,fun w hw=>by obtain ⟨s0,s1,s2⟩:=hw;go_simp⟩) hHeld ?_
           try simp only [Act.put,List.setIfInBounds_toArray,List.set_cons_zero,List.set_cons_succ,List.getElem_toArray,List.getElem_cons_succ,List.getElem_cons_zero]
           refine wpAnyH_take (i:=3) (v:= .int .i64 (k:Int)) rfl (by kernel_rfl) (by kernel_rfl) (by kernel_rfl) (fun _ _ _ h=>h) (Or.inl ⟨by kernel_rfl,fun w hw=>by obtain ⟨s0,s1,s2⟩:=hw;go_simp⟩) hHeld ?_
           try simp only [Act.put,List.setIfInBounds_toArray,List.set_cons_zero,List.set_cons_succ,List.getElem_toArray,List.getElem_cons_succ,List.getElem_cons_zero]
           refine wpAnyH_take (i:=4) (v:= .pointer (some ⟨pb,k,none⟩)) rfl (by kernel_rfl) (by kernel_rfl) (by kernel_rfl) (fun _ _ _ h=>h) (Or.inl ⟨by kernel_rfl,fun w hw=>by obtain ⟨s0,s1,s2⟩:=hw;go_simp⟩) hHeld ?_
           try simp only [Act.put,List.setIfInBounds_toArray,List.set_cons_zero,List.set_cons_succ,List.getElem_toArray,List.getElem_cons_succ,List.getElem_cons_zero]
           refine wpAnyH_take (i:=5) (v:= .string (setS bs)) rfl (by kernel_rfl) (by kernel_rfl) (by kernel_rfl) (fun _ _ _ h=>h) (Or.inl ⟨by kernel_rfl,fun w hw=>by obtain ⟨s0,s1,s2⟩:=hw;go_simp⟩) hHeld ?_
           try simp only [Act.put,List.setIfInBounds_toArray,List.set_cons_zero,List.set_cons_succ,List.getElem_toArray,List.getElem_cons_succ,List.getElem_cons_zero]
           refine wpAnyH_take (i:=6) (v:= .slice (some ⟨tg,to_,none⟩) tw.length hc) rfl (by kernel_rfl) (by kernel_rfl) (by kernel_rfl) (fun _ _ _ h=>h) (Or.inl ⟨by kernel_rfl,fun w hw=>by obtain ⟨s0,s1,s2⟩:=hw;go_simp⟩) hHeld ?_
           try simp only [Act.put,List.setIfInBounds_toArray,List.set_cons_zero,List.set_cons_succ,List.getElem_toArray,List.getElem_cons_succ,List.getElem_cons_zero]
           refine wpAnyH_take (i:=7) (v:= .int .i64 (i:Int)) rfl (by kernel_rfl) (by kernel_rfl) (by kernel_rfl) (fun _ _ _ h=>h) (Or.inl ⟨by kernel_rfl,fun w hw=>by obtain ⟨s0,s1,s2⟩:=hw;go_simp⟩) hHeld ?_
           try simp only [Act.put,List.setIfInBounds_toArray,List.set_cons_zero,List.set_cons_succ,List.getElem_toArray,List.getElem_cons_succ,List.getElem_cons_zero]
           refine wpAnyH_take (i:=8) (v:= .pointer (some ⟨tg,to_+i,none⟩)) rfl (by kernel_rfl) (by kernel_rfl) (by kernel_rfl) (fun _ _ _ h=>h) (Or.inl ⟨by kernel_rfl,fun w hw=>by obtain ⟨s0,s1,s2⟩:=hw;go_simp⟩) hHeld ?_
           try simp only [Act.put,List.setIfInBounds_toArray,List.set_cons_zero,List.set_cons_succ,List.getElem_toArray,List.getElem_cons_succ,List.getElem_cons_zero]
           refine wpAnyH_take (i:=9) (v:= .slice (some ⟨rg,r0,none⟩) al.length rc) rfl (by kernel_rfl) (by kernel_rfl) (by kernel_rfl) (fun _ _ _ h=>h) (Or.inl ⟨by kernel_rfl,fun w hw=>by obtain ⟨s0,s1,s2⟩:=hw;go_simp⟩) hHeld ?_
           try simp only [Act.put,List.setIfInBounds_toArray,List.set_cons_zero,List.set_cons_succ,List.getElem_toArray,List.getElem_cons_succ,List.getElem_cons_zero]
           refine wpAnyH_take (i:=10) (v:= .int .i64 (j:Int)) rfl (by kernel_rfl) (by kernel_rfl) (by kernel_rfl) (fun _ _ _ h=>h) (Or.inl ⟨by kernel_rfl,fun w hw=>by obtain ⟨s0,s1,s2⟩:=hw;go_simp⟩) hHeld ?_
           try simp only [Act.put,List.setIfInBounds_toArray,List.set_cons_zero,List.set_cons_succ,List.getElem_toArray,List.getElem_cons_succ,List.getElem_cons_zero]
           refine wpAnyH_take (i:=11) (v:= .pointer (some ⟨rg,r0+j,none⟩)) rfl (by kernel_rfl) (by kernel_rfl) (by kernel_rfl) (fun _ _ _ h=>h) (Or.inl ⟨by kernel_rfl,fun w hw=>by obtain ⟨s0,s1,s2⟩:=hw;go_simp⟩) hHeld ?_
           try simp only [Act.put,List.setIfInBounds_toArray,List.set_cons_zero,List.set_cons_succ,List.getElem_toArray,List.getElem_cons_succ,List.getElem_cons_zero]
           refine wpAnyH_take (i:=12) (v:= .int .i64 (x:Int)) rfl (by kernel_rfl) (by kernel_rfl) (by kernel_rfl) (fun _ _ _ h=>h) (Or.inl ⟨by kernel_rfl,fun w hw=>by obtain ⟨s0,s1,s2⟩:=hw;go_simp⟩) hHeld ?_
           try simp only [Act.put,List.setIfInBounds_toArray,List.set_cons_zero,List.set_cons_succ,List.getElem_toArray,List.getElem_cons_succ,List.getElem_cons_zero]
           refine wpAnyH_take (i:=13) (v:= .int .u8 ((setS bs)[x].toNat:Int)) rfl (by kernel_rfl) (by kernel_rfl) (by kernel_rfl) (fun _ _ _ h=>h) (Or.inl ⟨by kernel_rfl,fun w hw=>by obtain ⟨s0,s1,s2⟩:=hw;go_simp⟩) hHeld ?_
           try simp only [Act.put,List.setIfInBounds_toArray,List.set_cons_zero,List.set_cons_succ,List.getElem_toArray,List.getElem_cons_succ,List.getElem_cons_zero]
           refine wpAnyH_take (i:=14) (v:= .pointer (some ⟨wS.heap.size,i,none⟩)) rfl (by kernel_rfl) (by kernel_rfl) (by kernel_rfl) (fun _ _ _ h=>h) (Or.inl ⟨by kernel_rfl,fun w hw=>by obtain ⟨s0,s1,s2⟩:=hw;go_simp⟩) hHeld ?_
           try simp only [Act.put,List.setIfInBounds_toArray,List.set_cons_zero,List.set_cons_succ,List.getElem_toArray,List.getElem_cons_succ,List.getElem_cons_zero]
           refine wpAnyH_ready (rs:=[15]) (by kernel_rfl) (by simp) ?_
           refine AllReadyH.cons rfl (fun K hK=> ?_) AllReadyH.nil
           have vc':wr.drew.cell? ⟨wS.heap.size,i,none⟩=some z0:=vc
           have vf':wr.drew.frozen? ⟨wS.heap.size,i,none⟩=false:=vf
           go_simp
           refine hK.out _ _ ⟨(World.cell?_setCell_far _ _ _ _ hne1).trans hHeld.1,(World.cell?_setCell_far _ _ _ _ hne2).trans hHeld.2.1,(World.cell?_setCell_far _ _ _ _ hne3).trans hHeld.2.2⟩ (fun hHeld=> ?_)
           clear hK K
           refine wpAnyH_done (by kernel_rfl) ?_ _
           clear hHeld vc' vf'
           go_wp2_with fail
           go_roundw
           case rel=>exact ⟨i+1,by omega,by go_num,hide (unhide HY3 wr.drew ((Below.refl _ _).drew))⟩
           case measure=>simp [intOf];omega
          ·have hin:¬ (i:Int)<(l.length:Int):=by omega
           have hie:i=s2.length:=by rw [unhide HS2L];omega
           rw [hie,bitsTo_all] at HY
           clear hie
           have HB6:=hide ((unhide HB2).later (unhide HY).bel)
           have HU6:=hide ((unhide HU).later (unhide HY).bel)
           have HCV:Hid (∀W,Below wr.heap.size wr W→(convert 51 9 (.slice (some ⟨wS.heap.size,0,none⟩) l.length l.length)).run Tryz.prog W= .ok (.string (setS s2)) W):=fun W hW=>bits_str W _ l.length _ _ _ ((unhide HY).later hW).blk (unhide HS2L)
           have hMc:M.length≤106:=by omega
           have HBR:=hide (Below.refl wr.heap.size wr)
           clear HY HB2 HU
           go_wp2_with fail
           generalize wr=w6 at *
           go_loopw [18,19] (fun z x wr=> ∃(m:Nat) (zz:Int),m≤M.length∧z= .int .i64 zz∧x= .int .i64 m∧Hid (Below w6.heap.size w6 wr)∧Hid ((zz= -1∧fnd s2 (M.take m) 0=none)∨ ∃a:Nat,zz=(a:Int)∧fnd s2 M 0=some a)) (fun _ x _=>M.length - (intOf x).toNat)
           case atStart=>exact ⟨0, -1,Nat.zero_le _,rfl,rfl,HBR,hide (Or.inl ⟨rfl,rfl⟩)⟩
           case round=>
            obtain ⟨m,zz,hmM,rfl,rfl,HBW,HF⟩:=hrel
            have hcv: ∀n,(convert 51 9 (.slice (some ⟨wS.heap.size,0,none⟩) l.length l.length)).run Tryz.prog (wr.drewN n)= .ok (.string (setS s2)) (wr.drewN n):=fun n=>unhide HCV _ ((unhide HBW).trans ((bdn wr n).mono (unhide HBW).size))
            have hcv0:=unhide HCV wr (unhide HBW)
            rcases unhide HF with ⟨rfl,hfn⟩|⟨a,rfl,hfa⟩
            ·by_cases hml:m<M.length
             ·have hmn:(m:Int)<(M.length:Int):=by omega
              obtain ⟨pb,hso,hpl,hpc⟩:=owns1_at ((unhide HB6).later (unhide HBW)).st hml
              have hpc2:wr.cell? ⟨pb,m,none⟩=some (.string (setS M[m])):=hpc.trans (by unfold setC;rw [List.getElem?_map,List.getElem?_eq_getElem hml];rfl)
              have hMm:M[m]? =some M[m]:=List.getElem?_eq_getElem hml
              have HTK:Hid (M.take (m+1)=M.take m++[M[m]]):=by show _=_;rw [List.take_add_one,hMm];rfl
              have HMD:Hid (M=M.take m++(M[m]::M.drop (m+1))):=by show _=_;rw [←List.drop_eq_getElem_cons hml,List.take_append_drop]
              have HFN:=hide hfn
              subst hso
              clear hpc hMm hfn HF
              generalize M[m]=mm at *
              by_cases he:mm=s2
              ·have hbe:((setS mm).toList==(setS s2).toList)=true:=by rw [he];exact beq_self_eq_true _
               have HF2:Hid (fnd s2 M 0=some m):=by
                show _=_
                rw [unhide HMD,fnd_append,unhide HFN,he]
                simp only [fnd,if_true,Option.map_some,List.length_take]
                congr 1
                omega
               have hde:setS mm=setS s2:=by rw [he]
               clear he HFN HTK HMD
               go_wp2_with fail
               go_quiet (fail)
               go_wp2_with fail
               go_roundw
               case rel=>exact ⟨m+1,(m:Int),by omega,rfl,by go_num,hide ((unhide HBW).trans ((bdn wr nq).mono (unhide HBW).size)),hide (Or.inr ⟨m,rfl,unhide HF2⟩)⟩
               case measure=>simp [intOf];omega
              ·have hne:=bytes_ne (fun e=>he (setS_inj e))
               have HF2:Hid (fnd s2 (M.take (m+1)) 0=none):=by
                show _=_
                rw [unhide HTK,fnd_append,unhide HFN]
                simp [fnd,he]
               have hde:¬ setS mm=setS s2:=fun e=>he (setS_inj e)
               clear he HFN HTK HMD
               go_wp2_with fail
               go_quiet (fail)
               go_wp2_with fail
               go_roundw
               case rel=>exact ⟨m+1, -1,by omega,rfl,by go_num,hide ((unhide HBW).trans ((bdn wr nq).mono (unhide HBW).size)),hide (Or.inl ⟨rfl,unhide HF2⟩)⟩
               case measure=>simp [intOf];omega
             ·have hmn:¬ (m:Int)<(M.length:Int):=by omega
              have hfM:fnd s2 M 0=none:=by rw [List.take_of_length_le (by omega)] at hfn;exact hfn
              rw [numb_none hfM] at HSUC
              have HB7:=hide ((unhide HB6).later (unhide HBW))
              have HU7:=hide ((unhide HU6).later (unhide HBW))
              have hsz7:=(unhide HB7).gr.size
              clear hfM hfn HF HB6 HU6 HBW hcv
              go_wp2_with (at_builtin;go_must (refine app1 rfl _ _ 25 rfl _ w3.heap.size 9 infoVs rfl Tryz.underlying25 (v:= .slice so2 M.length sc2) (n:=M.length) (xs:=setC M) rfl (.string (setS s2)) rfl rfl (unhide HB7).st (by omega) hsz7 (by first|rfl|simp [World.setCell]) ?_))
              intro g9 cap9 w9 ho9 hg9 hat9
              have hbz:Below wr.heap.size wr (wr.alloc (.cells #[.string (setS s2)] 9)):=(Below.refl _ _).alloc (Nat.le_refl _) _
              obtain ⟨hBa,hUa⟩:=((unhide HB7).later hbz).set ((unhide HU7).later hbz) ho9 hg9
              have HBa:=hide hBa
              have HUa:=hide hUa
              have hsz9:=hBa.gr.size
              clear ho9 hg9 hat9 hbz hBa hUa HB7 HU7 hcv0
              go_wp2_with (at_builtin;go_must (refine app1 rfl _ _ 33 rfl _ w3.heap.size 3 infoVi rfl Tryz.underlying33 (n:=j) (xs:=intC q) rfl (.int .i64 (M.length:Int)) rfl rfl ?b0 (by omega) hsz9 (by first|rfl|simp [World.setCell]) ?_))
              case b0=>have h1:=(unhide HUa).own;rw [unhide HQL] at h1;exact h1
              intro gA capA wA hoA hgA hatA
              have hbz:Below w9.heap.size w9 (w9.alloc (.cells #[.int .i64 (M.length:Int)] 3)):=(Below.refl _ _).alloc (Nat.le_refl _) _
              obtain ⟨hBb,hUb⟩:=((unhide HBa).later hbz).num ((unhide HUa).later hbz) (x:=M.length) (by rw [unhide HQL];exact hoA) hgA rfl (hatA.imp id (fun h=>by simp;omega))
              have HBb:=hide hBb
              have HUb:=hide hUb
              have hlM:(M++[s2]).length=M.length+1:=by simp
              clear hoA hgA hatA hbz hBb hUb HBa HUa
              go_wp2_with fail
              go_roundw
              case rel=>exact ⟨j+1,some ⟨g9,0,none⟩,cap9,M++[s2],q++[M.length],some ⟨gA,0,none⟩,capA,by omega,by rw [hlM],rfl,by go_num,HBb,HUb,HSUC⟩
              case measure=>simp [intOf];omega
            ·rw [numb_some hfa] at HSUC
             have HB7:=hide ((unhide HB6).later (unhide HBW))
             have HU7:=hide ((unhide HU6).later (unhide HBW))
             have hsz7:=(unhide HB7).gr.size
             have haM:a<M.length:=by have:=(List.getElem?_eq_some_iff.1 (fnd_some hfa).2).1;omega
             have ha0:¬ ((a:Int)<0):=by omega
             clear hfa HF HB6 HU6 HBW hcv hcv0
             by_cases hml:(m:Int)<(M.length:Int)
             all_goals (
              go_wp2_with (at_builtin;go_must (refine app1 rfl _ _ 33 rfl _ w3.heap.size 3 infoVi rfl Tryz.underlying33 (v:= .slice vo j vc) (n:=j) (xs:=intC q) rfl (.int .i64 (a:Int)) rfl rfl (by have h1:=(unhide HU7).own;rw [unhide HQL] at h1;exact h1) (by omega) hsz7 (by first|rfl|simp [World.setCell]) ?_))
              intro gA capA wA hoA hgA hatA
              have hbz:Below wr.heap.size wr (wr.alloc (.cells #[.int .i64 (a:Int)] 3)):=(Below.refl _ _).alloc (Nat.le_refl _) _
              obtain ⟨hBb,hUb⟩:=((unhide HB7).later hbz).num ((unhide HU7).later hbz) (x:=a) (by rw [unhide HQL];exact hoA) hgA rfl (hatA.imp id (fun h=>by simp;omega))
              have HBb:=hide hBb
              have HUb:=hide hUb
              clear hoA hgA hatA hbz hBb hUb HB7 HU7
              go_wp2_with fail
              go_roundw
              case rel=>exact ⟨j+1,so2,sc2,M,q++[a],some ⟨gA,0,none⟩,capA,by omega,rfl,rfl,by go_num,HBb,HUb,HSUC⟩
              case measure=>simp [intOf];omega)
        ·have hjn:¬ (j:Int)<(al.length:Int):=by omega
         have hje:j=al.length:=by omega
         subst hje
         obtain ⟨n2,hn2⟩: ∃n2,102 - k=n2+1:=⟨101 - k,by omega⟩
         by_cases hbig:100<M.length
         ·have hbi:(100:Int)<(M.length:Int):=by omega
          have HNONE:Hid (bfs (setB tw) (List.range al.length) 100 102 0 [K0] []=none):=by
           show _=_
           rw [unhide HEQ,hn2]
           exact bfs_many (unhide HX) (by rw [unhide HRN];exact hbig)
          have HRES:=hide (((unhide HB2).gr.block (w.heap.size+1) (by omega) (fun e=>by have e':w.heap.size+1=w1.heap.size:=Option.some.inj e;omega)).trans (unhide HRS3))
          have HBEL:=hide ((unhide HBW3).grown (unhide HB2).gr (unhide HBW3).size (fun b hb=>by cases hb;omega))
          have rc':=fun o=>cell_of_blk (unhide HRES) o
          have rf':=fun o=>frozen_of_blk (unhide HRES) o
          have rl':=lt_of_blk (unhide HRES)
          clear hn2 HB2 HU
          go_wp2_with fail
          change bodyPost _ _ _ _ _ (setT wr (w.heap.size+1) (.slice none 0 0) (.slice none 0 0) (.slice none 0 0))
          have hfin:=setT_blk (unhide HRES) (.slice none 0 0) (.slice none 0 0) (.slice none 0 0)
          have hbf:=setT_below (unhide HBEL) (show w.heap.size≤w.heap.size+1 by omega) (.slice none 0 0) (.slice none 0 0) (.slice none 0 0)
          generalize setT wr (w.heap.size+1) (.slice none 0 0) (.slice none 0 0) (.slice none 0 0)=wf at *
          have fcc:=fun o=>cell_of_blk hfin o
          refine bodyPost_ret (v:= .tuple #[.agg #[.slice none 0 0,.slice none 0 0,.slice none 0 0],.bool false]) (by simp [results,Tryz.results142,go_sem,fcc]) rfl ?_
          refine ⟨none,unhide HCF _ ⟨l,tw, ?_, ?_⟩,hbf,rfl⟩
          ·rw [List.length_map];exact unhide HBFS
          ·rw [List.length_map,unhide HKE,unhide HNONE];rfl
         ·have hbi:¬ (100:Int)<(M.length:Int):=by omega
          have HEQ2:Hid (bfs (setB tw) (List.range al.length) 100 102 0 [K0] []=bfs (setB tw) (List.range al.length) 100 (102 - (k+1)) (k+1) M (rows++[q])):=by
           show _=_
           rw [unhide HEQ,hn2,bfs_next (unhide HX) (by rw [unhide HRN];exact hbig),unhide HRN,show 102 - (k+1)=n2 by omega]
          have HBQ2:Hid (Bfs (setB tw) (List.range al.length) K0 (k+1) M (rows++[q])):=by
           have:=(unhide HBQ).step (unhide HX)
           rw [unhide HRN] at this
           exact this
          have HMK:Hid ((M.take (k+1)).map flA=(ms.take k).map flA++[flA bs]):=by
           show _=_
           rw [unhide HMX,List.take_append_of_le_length (by omega),List.take_add_one,unhide HX,List.map_append]
           rfl
          have hbs1:1≤bs.length:=by rw [unhide HBSL,unhide HTWL];exact hl1
          have h0s:0<(setS bs).size:=by rw [setS_size];omega
          have h0si:(0:Int)<((setS bs).size:Int):=by omega
          have hf0:((setS bs)[0].toNat:Int)=(flA bs:Int):=by
           rw [setS_at h0s (List.getElem?_eq_getElem hbs1:bs[0]? =some bs[0])]
           unfold flA
           rw [List.getElem?_eq_getElem hbs1]
           simp only [Option.getD_some]
           split<;>rfl
          have HF0:=hide hf0
          have hbd0:(setS bs)[0].toNat≤255:=by have:=(setS bs)[0].toNat_lt;omega
          have hwr0:IntKind.i64.wrap ((setS bs)[0].toNat:Int)=((setS bs)[0].toNat:Int):=by rw [IntKind.wrap_i64];omega
          have tc2:wr.cell? ⟨w1.heap.size,2,none⟩=some (.slice xo k xc):=cell_of_blk (unhide HB2).blk 2
          have tl2:=lt_of_blk (unhide HB2).blk
          clear hn2 hf0
          go_wp2_with (at_builtin;go_must (refine app1 rfl _ _ 34 rfl _ w3.heap.size 33 infoVr rfl Tryz.underlying34 (v:= .slice xo k xc) (n:=k) (xs:=rv) rfl (.slice vo al.length vc) rfl rfl (by have h1:wr.ownsRow w3.heap.size 33 1 (.slice xo k xc) rows.length rv:=(unhide HB2).tab.nx;rw [unhide HRK] at h1;exact h1) (by omega) hsz3 (by first|rfl|simp [World.setCell]) ?_))
          intro gN capN wN hoN hgN hatN
          have hbz:Below wr.heap.size wr (wr.alloc (.cells #[.slice vo al.length vc] 33)):=(Below.refl _ _).alloc (Nat.le_refl _) _
          have hB3:=(unhide HB2).later hbz
          have HBr:=hide (hB3.row ((unhide HU).later hbz) (X':= .slice (some ⟨gN,0,none⟩) (k+1) capN) (by rw [unhide HRK];exact hoN) hgN)
          have hblkN:=(hB3.own hB3.tab.nx hgN (by decide)).1
          have tcN:=cell_of_blk hblkN 2
          have tfN:=frozen_of_blk hblkN 2
          have tlN:=lt_of_blk hblkN
          clear hoN hgN hatN hbz hB3 hblkN tc2 tl2 HB2 HU hmc hml
          go_wp2_with fail
          generalize wN.setCell ⟨w1.heap.size,2,none⟩ (.slice (some ⟨gN,0,none⟩) (k+1) capN)=wQ at *
          clear tcN tfN tlN
          have HOF:Hid (wQ.ownsRow w3.heap.size 3 1 (.slice fo k fc) k (intC ((ms.take k).map flA))):=by
           have h1:wQ.ownsRow w3.heap.size 3 1 (.slice fo k fc) ((ms.take k).map flA).length (intC ((ms.take k).map flA)):=(unhide HBr).tab.fl
           rw [List.length_map,List.length_take,Nat.min_eq_left (by omega)] at h1
           exact h1
          obtain ⟨pb,hso,hpl,hpc⟩:=owns1_at (unhide HBr).st hkM
          have hpb3:w3.heap.size≤pb:=(own_lt (unhide HBr).st pb (by rw [hso];rfl)).1
          have hpc2:wQ.cell? ⟨pb,k,none⟩=some (.string (setS bs)):=hpc.trans (by unfold setC;rw [List.getElem?_map,unhide HXM];rfl)
          have tc:=fun o=>cell_of_blk (unhide HBr).blk o
          have tl:=lt_of_blk (unhide HBr).blk
          have hszQ:=(unhide HBr).gr.size
          subst hso
          clear hpc
          have hba:Below wQ.heap.size wQ (wQ.alloc (.cells #[.int .i64 ((setS bs)[0].toNat:Int)] 3)).drew:=((Below.refl _ _).alloc (Nat.le_refl _) _).drew
          have hsz:w3.heap.size≤(wQ.alloc (.cells #[.int .i64 ((setS bs)[0].toNat:Int)] 3)).drew.heap.size:=Nat.le_trans hszQ hba.size
          refine wp_region_held_drew (S:=fun w'=>w'.cell? ⟨pb,k,none⟩=some (.string (setS bs))) (by kernel_rfl) ?_ (fun hHeld=> ?_)
          ·exact hpc2
          refine wpAnyH_take (i:=0) (v:= .pointer (some ⟨w1.heap.size,1,none⟩)) rfl (by kernel_rfl) (by kernel_rfl) (by kernel_rfl) (fun _ _ _ h=>h) (Or.inl ⟨by kernel_rfl,fun w hw=>by have s0:=hw;go_simp⟩) hHeld ?_
          try simp only [Act.put,List.setIfInBounds_toArray,List.set_cons_zero,List.set_cons_succ,List.getElem_toArray,List.getElem_cons_succ,List.getElem_cons_zero]
          refine wpAnyH_take (i:=2) (v:= .slice (some ⟨pb,0,none⟩) M.length sc2) rfl (by kernel_rfl) (by kernel_rfl) (by kernel_rfl) (fun _ _ _ h=>h) (Or.inl ⟨by kernel_rfl,fun w hw=>by have s0:=hw;go_simp⟩) hHeld ?_
          try simp only [Act.put,List.setIfInBounds_toArray,List.set_cons_zero,List.set_cons_succ,List.getElem_toArray,List.getElem_cons_succ,List.getElem_cons_zero]
          refine wpAnyH_take (i:=3) (v:= .int .i64 (k:Int)) rfl (by kernel_rfl) (by kernel_rfl) (by kernel_rfl) (fun _ _ _ h=>h) (Or.inl ⟨by kernel_rfl,fun w hw=>by have s0:=hw;go_simp⟩) hHeld ?_
          try simp only [Act.put,List.setIfInBounds_toArray,List.set_cons_zero,List.set_cons_succ,List.getElem_toArray,List.getElem_cons_succ,List.getElem_cons_zero]
          refine wpAnyH_take (i:=4) (v:= .pointer (some ⟨pb,k,none⟩)) rfl (by kernel_rfl) (by kernel_rfl) (by kernel_rfl) (fun _ _ _ h=>h) (Or.inl ⟨by kernel_rfl,fun w hw=>by have s0:=hw;go_simp⟩) hHeld ?_
          try simp only [Act.put,List.setIfInBounds_toArray,List.set_cons_zero,List.set_cons_succ,List.getElem_toArray,List.getElem_cons_succ,List.getElem_cons_zero]
          refine wpAnyH_take (i:=5) (v:= .string (setS bs)) rfl (by kernel_rfl) (by kernel_rfl) (by kernel_rfl) (fun _ _ _ h=>h) (Or.inl ⟨by kernel_rfl,fun w hw=>by have s0:=hw;go_simp⟩) hHeld ?_
          try simp only [Act.put,List.setIfInBounds_toArray,List.set_cons_zero,List.set_cons_succ,List.getElem_toArray,List.getElem_cons_succ,List.getElem_cons_zero]
          refine wpAnyH_take (i:=6) (v:= .int .u8 ((setS bs)[0].toNat:Int)) rfl (by kernel_rfl) (by kernel_rfl) (by kernel_rfl) (fun _ _ _ h=>h) (Or.inl ⟨by kernel_rfl,fun w hw=>by have s0:=hw;go_simp⟩) hHeld ?_
          try simp only [Act.put,List.setIfInBounds_toArray,List.set_cons_zero,List.set_cons_succ,List.getElem_toArray,List.getElem_cons_succ,List.getElem_cons_zero]
          refine wpAnyH_take (i:=7) (v:= .int .i64 ((setS bs)[0].toNat:Int)) rfl (by kernel_rfl) (by kernel_rfl) (by kernel_rfl) (fun _ _ _ h=>h) (Or.inl ⟨by kernel_rfl,fun w hw=>by have s0:=hw;go_simp⟩) hHeld ?_
          try simp only [Act.put,List.setIfInBounds_toArray,List.set_cons_zero,List.set_cons_succ,List.getElem_toArray,List.getElem_cons_succ,List.getElem_cons_zero]
          refine wpAnyH_ready (rs:=[1,8]) (by kernel_rfl) (by simp) ?_
          refine AllReadyH.cons rfl (fun K hK=> ?raq) (AllReadyH.cons rfl (fun K hK=> ?rbq) AllReadyH.nil)
          case' raq=>(go_simp;refine hK.out _ _ hHeld (fun hHeld=> ?_);clear hK K;refine wpAnyH_ready (rs:=[8]) (by kernel_rfl) (by simp) ?_;refine AllReadyH.cons rfl (fun K hK=> ?_) AllReadyH.nil;go_simp;refine hK.out _ _ ((World.cell?_alloc_lt _ _ _ hpl).trans hpc2) (fun hHeld=> ?_);clear hK K)
          case' rbq=>(go_simp;refine hK.out _ _ ((World.cell?_alloc_lt _ _ _ hpl).trans hpc2) (fun hHeld=> ?_);clear hK K;refine wpAnyH_ready (rs:=[1]) (by kernel_rfl) (by simp) ?_;refine AllReadyH.cons rfl (fun K hK=> ?_) AllReadyH.nil;go_simp;refine hK.out _ _ hHeld (fun hHeld=> ?_);clear hK K)
          all_goals (
           refine wpAnyH_ready (rs:=[9]) (by kernel_rfl) (by simp) ?_
           refine AllReadyH.cons rfl (fun K hK=> ?_) AllReadyH.nil
           refine stp1 (by rfl) _ _ 33 (by rfl) w3.heap.size 3 infoVi rfl Tryz.underlying33 (v:= .slice fo k fc) (n:=k) (xs:=intC ((ms.take k).map flA)) (by rfl) (H:=wQ.heap.size) (.int .i64 ((setS bs)[0].toNat:Int)) (by rfl) rfl (owns_later (unhide HOF) hba) (blk_alloc wQ _) (by omega) hsz ?_
           intro g4 cap4 w4 hown4 hgrow4 hat4
           have hgrow5:(wQ.alloc (.cells #[.int .i64 ((setS bs)[0].toNat:Int)] 3)).drew.grownBy w4 (Value.slice fo k fc).ownBlock:=hgrow4
           have hdl:=(unhide HBr).later hba
           have hblk4:=(hdl.own hdl.tab.fl hgrow5 (by decide)).1
           have tc4:=cell_of_blk hblk4 1
           have tf4:=frozen_of_blk hblk4 1
           have tl4:=lt_of_blk hblk4
           have hst4:=owns_other hdl.st hgrow5 (own_apart hdl.st hdl.tab.fl (by decide))
           obtain ⟨pb',hpb',_,hc4⟩:=owns1_at hst4 hkM
           cases hpb'
           have hS4:w4.cell? ⟨pb,k,none⟩=some (.string (setS bs)):=hc4.trans (by unfold setC;rw [List.getElem?_map,unhide HXM];rfl)
           have HB4:=hide (hdl.flag (F':= .slice (some ⟨g4,0,none⟩) (k+1) cap4) (f:=flA bs) (by rw [←unhide HF0,List.length_map,List.length_take,Nat.min_eq_left (by omega)];exact hown4) hgrow5 rfl hat4)
           rw [←unhide HMK] at HB4
           refine hK.out _ _ hS4 (fun hHeld=> ?_)
           clear hK K
           clear hown4 hgrow4 hat4 hgrow5 hdl hblk4 hst4 hc4 hS4 tc tl
           refine wpAnyH_take (i:=10) (v:= .pointer (some ⟨w1.heap.size,1,none⟩)) rfl (by kernel_rfl) (by kernel_rfl) (by kernel_rfl) (fun _ _ _ h=>h) (Or.inl ⟨by kernel_rfl,fun w hw=>by have s0:=hw;go_simp⟩) hHeld ?_
           try simp only [Act.put,List.setIfInBounds_toArray,List.set_cons_zero,List.set_cons_succ,List.getElem_toArray,List.getElem_cons_succ,List.getElem_cons_zero]
           refine wpAnyH_ready (rs:=[11]) (by kernel_rfl) (by simp) ?_
           refine AllReadyH.cons rfl (fun K hK=> ?_) AllReadyH.nil
           go_simp
           refine hK.out _ _ ((World.cell?_setCell_far _ _ _ _ (by show w1.heap.size≠pb;omega)).trans hHeld) (fun hHeld=> ?_)
           clear hK K
           refine wpAnyH_done (by kernel_rfl) ?_ _
           clear hHeld
           clear tc4 tf4 tl4 hba hsz
           go_wp2_with fail
           go_roundw
           case rel=>exact ⟨k+1,some ⟨pb,0,none⟩,sc2,M,some ⟨g4,0,none⟩,cap4,some ⟨gN,0,none⟩,capN,rows++[q],rv++[.slice vo al.length vc],rfl,by go_num,HB4,HBQ2,by omega,HEQ2⟩
           case measure=>simp [intOf];omega
           )
      ·have hkn:¬ (k:Int)<(ms.length:Int):=by omega
       have HKE2:Hid (k=ms.length):=by show _=_;omega
       have tc0:wr.cell? ⟨w1.heap.size,0,none⟩=some (.slice ao al.length ac):=cell_of_blk (unhide HBL).blk 0
       have tc1:wr.cell? ⟨w1.heap.size,1,none⟩=some (.slice fo k fc):=cell_of_blk (unhide HBL).blk 1
       have tc2:wr.cell? ⟨w1.heap.size,2,none⟩=some (.slice xo k xc):=cell_of_blk (unhide HBL).blk 2
       have tl:=lt_of_blk (unhide HBL).blk
       go_wp2_with fail
       clear tc0 tc1 tc2 tl hkn
       have hke:k=ms.length:=unhide HKE2
       clear HKE2
       have HSOME:Hid (bfs (setB tw) (List.range al.length) 100 102 0 [K0] []=some (ms,rows)):=by
        show _=_
        obtain ⟨n2,hn2⟩: ∃n2,102 - k=n2+1:=⟨101 - k,by omega⟩
        rw [unhide HEQ,hn2]
        exact bfs_end (by omega)
       have htk:ms.take k=ms:=List.take_of_length_le (by omega)
       rw [htk] at HBL
       subst hke
       have hn1:1≤ms.length:=by have:=(List.getElem?_eq_some_iff.1 (unhide HBQ).first).1;omega
       have hrl:rows.length=ms.length:=(unhide HBQ).len
       have HRO:=hide (tw_ok (unhide HBQ))
       have HTV:=hide ((unhide HBL).full (base:=w1.heap.size) (names:=al.map (·.s)) (unhide HB13).size (by rw [List.length_map];exact unhide HOA3) (unhide HTB3))
       have HSH:Hid (ShT ⟨al.map (·.s),ms.map flA,rows⟩ al.length ms.length):=⟨by simp,hrl,by simp,hne,h6,hn1,hms,fun r hr=>⟨(unhide HRO r hr).1,fun x hx=>by rw [←hrl];exact (unhide HRO r hr).2 x hx⟩⟩
       obtain ⟨hTI, -⟩:=(unhide HTV).read ⟨by simp;omega,by show rows.length≤1000;omega,by simp;omega,fun r hr=>by rw [(unhide HRO r hr).1];omega⟩
       obtain ⟨fb,f0,nb',n0,rb,ro,rc,hfo,hxo,hK⟩:=tbk_of hTI (unhide HSH)
       have hfl:wr.ownsRow w3.heap.size 3 1 (.slice fo ms.length fc) ms.length (intC (ms.map flA)):=by
        have h1:wr.ownsRow w3.heap.size 3 1 (.slice fo ms.length fc) (ms.map flA).length (intC (ms.map flA)):=(unhide HBL).tab.fl
        rw [List.length_map] at h1
        exact h1
       obtain ⟨fg,hfg, -, -⟩:=owns1_at hfl hn1
       have HLIVES:Hid (∀(i:Nat) (b:List Bool),ms[i]? =some b→(Lives ⟨al.map (·.s),ms.map flA,rows⟩ i↔true∈b)):=fun i b hb=>
        lives_any (t:=⟨al.map (·.s),ms.map flA,rows⟩) (unhide HBFS) (by rw [unhide HKE];exact unhide HBQ) (fun i b hb=>⟨flA b,by show (ms.map flA)[i]? =_;rw [List.getElem?_map,hb];rfl,flA_odd b⟩) hb
       have HLV:=hide (Living_any wr _ al.length ms.length ao al.length ac fb f0 nb' n0 fc xc rb ro rc hK)
       rw [←hfo,←hxo] at HLV
       clear htk hTI hK hfl hfo hxo HEQ hrl
       subst hfg
       refine (unhide HLV).mono ?_
       rintro e w7 ⟨LL,rfl,hab,hll,hlv,hb7⟩
       have HB7:Hid (BlT w3 w7 w1.heap.size so sc ms (.slice ao al.length ac) (.slice (some ⟨fg,0,none⟩) ms.length fc) (.slice xo ms.length xc) (flM ms 0) rows rv):=by
        show BlT _ _ _ _ _ _ _ _ _ _ _ _
        rw [flM_zero]
        exact (unhide HBL).later hb7
       have HAB:=hide hab
       have HLL:=hide hll
       have HLVS:=hide hlv
       clear hab hll hlv hb7 HLV HBL HTV
       go_wp2_with fail
       generalize wr.heap.size+1=ab at *
       go_loopw [21] (fun x wr=> ∃i:Nat,i≤ms.length∧x= .int .i64 i∧Hid (BlT w3 wr w1.heap.size so sc ms (.slice ao al.length ac) (.slice (some ⟨fg,0,none⟩) ms.length fc) (.slice xo ms.length xc) (flM ms i) rows rv)∧Hid (wr.heap[ab]? =some (.cells (boolC LL) 4 (0,0)))) (fun x _=>ms.length - (intOf x).toNat)
       case atStart=>exact ⟨0,Nat.zero_le _,rfl,HB7,HAB⟩
       case round=>
        obtain ⟨i,hi,rfl,HB8,HA8⟩:=hrel
        have tc1:wr.cell? ⟨w1.heap.size,1,none⟩=some (.slice (some ⟨fg,0,none⟩) ms.length fc):=cell_of_blk (unhide HB8).blk 1
        have tl:=lt_of_blk (unhide HB8).blk
        by_cases hil:i<ms.length
        ·have hin:(i:Int)<(ms.length:Int):=by omega
         have hbm:ms[i]? =some ms[i]:=List.getElem?_eq_getElem hil
         have hLi:LL[i]? =some (LL[i]'(by rw [unhide HLL];exact hil)):=List.getElem?_eq_getElem _
         have hac:=(cell_of_blk (unhide HA8) i).trans (boolC_at LL i _ hLi)
         have hal8:=lt_of_blk (unhide HA8)
         have hiff:=(unhide HLVS i).trans (unhide HLIVES i _ hbm)
         have hlvi:lv LL i=LL[i]'(by rw [unhide HLL];exact hil):=by unfold lv;rw [hLi];rfl
         rw [hlvi] at hiff
         have hone:(ms[i]).any id=true↔true∈ms[i]:=by
          rw [List.any_eq_true]
          exact ⟨fun ⟨x,hx,e⟩=>by have e':x=true:=e;rw [←e'];exact hx,fun h=>⟨true,h,rfl⟩⟩
         have hstep:=flM_step hbm
         have hsame:=fun h=>flM_same hbm h
         have hat:=flM_at hbm
         have hle:=flA_le ms[i]
         have hBA:=flB_flA ms[i]
         generalize LL[i]'(by rw [unhide HLL];exact hil)=x at *
         generalize ms[i]=bm at *
         have HHAT:Hid (wr.ownsRow w3.heap.size 3 1 (.slice (some ⟨fg,0,none⟩) ms.length fc) ms.length (intC (flM ms i))):=by
          have h1:wr.ownsRow w3.heap.size 3 1 (.slice (some ⟨fg,0,none⟩) ms.length fc) (flM ms i).length (intC (flM ms i)):=(unhide HB8).tab.fl
          rw [flM_len] at h1
          exact h1
         obtain ⟨fg',hfe,hfl8,hfc⟩:=owns1_at (unhide HHAT) hil
         cases hfe
         have hfc2:wr.cell? ⟨fg,i,none⟩=some (.int .i64 (flA bm:Int)):=hfc.trans (by unfold intC;rw [List.getElem?_map,hat];rfl)
         obtain ⟨fcs,hfcs⟩:=own_at (unhide HHAT) (b:=fg) rfl
         have hff:=frozen_of_blk hfcs i
         have hfg3:w3.heap.size≤fg:=(own_lt (unhide HHAT) fg rfl).1
         have hfab:fg≠ab:=fun e=>by
          have h1:=unhide HA8
          rw [←e,hfcs] at h1
          injection h1 with h1
          injection h1 with _ e2 _
          revert e2
          decide
         cases x with
         |true=>
          have hany:bm.any id=true:=hone.2 (hiff.1 rfl)
          have hBA2:flB bm=flA bm+2:=by rw [hBA,if_pos hany]
          have HB9:Hid (∀n,BlT w3 ((wr.drewN n).setCell ⟨fg,i,none⟩ (.int .i64 ((flA bm:Int)+2))) w1.heap.size so sc ms (.slice ao al.length ac) (.slice (some ⟨fg,0,none⟩) ms.length fc) (.slice xo ms.length xc) (flM ms (i+1)) rows rv):=fun n=>by
           rw [hstep,hBA2]
           exact ((unhide HB8).later (bdn wr n)).fset (flM_len ms i) i (flA bm+2)
          have HB10:Hid (∀W,Below wr.heap.size wr W→BlT w3 (W.setCell ⟨fg,i,none⟩ (.int .i64 ((flA bm:Int)+2))) w1.heap.size so sc ms (.slice ao al.length ac) (.slice (some ⟨fg,0,none⟩) ms.length fc) (.slice xo ms.length xc) (flM ms (i+1)) rows rv):=fun W hW=>by
           rw [hstep,hBA2]
           exact ((unhide HB8).later hW).fset (flM_len ms i) i (flA bm+2)
          have HA9:Hid (∀W,Below wr.heap.size wr W→(W.setCell ⟨fg,i,none⟩ (.int .i64 ((flA bm:Int)+2))).heap[ab]? =some (.cells (boolC LL) 4 (0,0))):=fun W hW=>(Below.heap_setCell _ _ _ _ (fun e=>hfab e.symm)).trans ((hW.block _ hal8).trans (unhide HA8))
          have hwr9:IntKind.i64.wrap ((flA bm:Int)+2)=(flA bm:Int)+2:=by rw [IntKind.wrap_i64];omega
          clear HB9 hBA hBA2 hany hone hiff hstep hsame hat hbm hLi hlvi HHAT hfc hfcs HB8 HA8
          go_wp2_with fail
          refine wp_region_held_drew (S:=fun w'=>w'.cell? ⟨w1.heap.size,1,none⟩=some (.slice (some ⟨fg,0,none⟩) ms.length fc)) (by kernel_rfl) ?_ (fun hHeld=> ?_)
          ·exact tc1
          refine wpAnyH_take (i:=0) (v:= .pointer (some ⟨w1.heap.size,1,none⟩)) rfl (by kernel_rfl) (by kernel_rfl) (by kernel_rfl) (fun _ _ _ h=>h) (Or.inl ⟨by kernel_rfl,fun w hw=>by have s0:=hw;go_simp⟩) hHeld ?_
          try simp only [Act.put,List.setIfInBounds_toArray,List.set_cons_zero,List.set_cons_succ,List.getElem_toArray,List.getElem_cons_succ,List.getElem_cons_zero]
          refine wpAnyH_take (i:=1) (v:= .slice (some ⟨fg,0,none⟩) ms.length fc) rfl (by kernel_rfl) (by kernel_rfl) (by kernel_rfl) (fun _ _ _ h=>h) (Or.inl ⟨by kernel_rfl,fun w hw=>by have s0:=hw;go_simp⟩) hHeld ?_
          try simp only [Act.put,List.setIfInBounds_toArray,List.set_cons_zero,List.set_cons_succ,List.getElem_toArray,List.getElem_cons_succ,List.getElem_cons_zero]
          refine wpAnyH_take (i:=2) (v:= .int .i64 (i:Int)) rfl (by kernel_rfl) (by kernel_rfl) (by kernel_rfl) (fun _ _ _ h=>h) (Or.inl ⟨by kernel_rfl,fun w hw=>by have s0:=hw;go_simp⟩) hHeld ?_
          try simp only [Act.put,List.setIfInBounds_toArray,List.set_cons_zero,List.set_cons_succ,List.getElem_toArray,List.getElem_cons_succ,List.getElem_cons_zero]
          refine wpAnyH_take (i:=3) (v:= .pointer (some ⟨w1.heap.size,1,none⟩)) rfl (by kernel_rfl) (by kernel_rfl) (by kernel_rfl) (fun _ _ _ h=>h) (Or.inl ⟨by kernel_rfl,fun w hw=>by have s0:=hw;go_simp⟩) hHeld ?_
          try simp only [Act.put,List.setIfInBounds_toArray,List.set_cons_zero,List.set_cons_succ,List.getElem_toArray,List.getElem_cons_succ,List.getElem_cons_zero]
          refine wpAnyH_take (i:=4) (v:= .slice (some ⟨fg,0,none⟩) ms.length fc) rfl (by kernel_rfl) (by kernel_rfl) (by kernel_rfl) (fun _ _ _ h=>h) (Or.inl ⟨by kernel_rfl,fun w hw=>by have s0:=hw;go_simp⟩) hHeld ?_
          try simp only [Act.put,List.setIfInBounds_toArray,List.set_cons_zero,List.set_cons_succ,List.getElem_toArray,List.getElem_cons_succ,List.getElem_cons_zero]
          refine wpAnyH_take (i:=5) (v:= .int .i64 (i:Int)) rfl (by kernel_rfl) (by kernel_rfl) (by kernel_rfl) (fun _ _ _ h=>h) (Or.inl ⟨by kernel_rfl,fun w hw=>by have s0:=hw;go_simp⟩) hHeld ?_
          try simp only [Act.put,List.setIfInBounds_toArray,List.set_cons_zero,List.set_cons_succ,List.getElem_toArray,List.getElem_cons_succ,List.getElem_cons_zero]
          refine wpAnyH_take (i:=6) (v:= .pointer (some ⟨fg,i,none⟩)) rfl (by kernel_rfl) (by kernel_rfl) (by kernel_rfl) (fun _ _ _ h=>h) (Or.inl ⟨by kernel_rfl,fun w hw=>by have s0:=hw;go_simp⟩) hHeld ?_
          try simp only [Act.put,List.setIfInBounds_toArray,List.set_cons_zero,List.set_cons_succ,List.getElem_toArray,List.getElem_cons_succ,List.getElem_cons_zero]
          refine wpAnyH_ready (rs:=[7]) (by kernel_rfl) (by simp) ?_
          refine AllReadyH.cons rfl (fun K hK=> ?_) AllReadyH.nil
          have hfc3:wr.drew.cell? ⟨fg,i,none⟩=some (.int .i64 (flA bm:Int)):=hfc2
          have hff3:wr.drew.frozen? ⟨fg,i,none⟩=false:=hff
          go_simp
          refine hK.out _ _ hHeld (fun hHeld=> ?_)
          clear hK K
          refine wpAnyH_take (i:=8) (v:= .int .i64 ((flA bm:Int)+2)) rfl (by kernel_rfl) (by kernel_rfl) (by kernel_rfl) (fun _ _ _ h=>h) (Or.inl ⟨by kernel_rfl,fun w hw=>by have s0:=hw;go_simp⟩) hHeld ?_
          try simp only [Act.put,List.setIfInBounds_toArray,List.set_cons_zero,List.set_cons_succ,List.getElem_toArray,List.getElem_cons_succ,List.getElem_cons_zero]
          refine wpAnyH_take (i:=9) (v:= .pointer (some ⟨fg,i,none⟩)) rfl (by kernel_rfl) (by kernel_rfl) (by kernel_rfl) (fun _ _ _ h=>h) (Or.inl ⟨by kernel_rfl,fun w hw=>by have s0:=hw;go_simp⟩) hHeld ?_
          try simp only [Act.put,List.setIfInBounds_toArray,List.set_cons_zero,List.set_cons_succ,List.getElem_toArray,List.getElem_cons_succ,List.getElem_cons_zero]
          refine wpAnyH_ready (rs:=[10]) (by kernel_rfl) (by simp) ?_
          refine AllReadyH.cons rfl (fun K hK=> ?_) AllReadyH.nil
          go_simp
          refine hK.out _ _ ((World.cell?_setCell_far _ _ _ _ (by show fg≠w1.heap.size;omega)).trans hHeld) (fun hHeld=> ?_)
          clear hK K
          refine wpAnyH_done (by kernel_rfl) ?_ _
          clear hHeld hfc3 hff3
          go_wp2_with fail
          go_roundw
          case rel=>exact ⟨i+1,by omega,by go_num,hide (unhide HB10 wr.drew ((Below.refl _ _).drew)),hide (unhide HA9 wr.drew ((Below.refl _ _).drew))⟩
          case measure=>simp [intOf];omega
         |false=>
          have hany:¬ bm.any id=true:=fun h=>by have:=hiff.2 (hone.1 h);cases this
          have HB9:Hid (BlT w3 wr w1.heap.size so sc ms (.slice ao al.length ac) (.slice (some ⟨fg,0,none⟩) ms.length fc) (.slice xo ms.length xc) (flM ms (i+1)) rows rv):=by
           show BlT _ _ _ _ _ _ _ _ _ _ _ _
           rw [hsame (by rw [hBA,if_neg hany];rfl)]
           exact unhide HB8
          clear hBA hany hone hiff hstep hsame hat hbm hLi hlvi HHAT hfc hfcs HB8
          go_wp2_with fail
          go_roundw
          case rel=>exact ⟨i+1,by omega,by go_num,HB9,HA8⟩
          case measure=>simp [intOf];omega
        ·have hin:¬ (i:Int)<(ms.length:Int):=by omega
         rw [flM_all (by omega)] at HB8
         have HRES:=hide (((unhide HB8).gr.block (w.heap.size+1) (by omega) (fun e=>by have e':w.heap.size+1=w1.heap.size:=Option.some.inj e;omega)).trans (unhide HRS3))
         have HBEL:=hide ((unhide HBW3).grown (unhide HB8).gr (unhide HBW3).size (fun b hb=>by cases hb;omega))
         have HTW2:=hide ((((unhide HB8).full (base:=w1.heap.size) (names:=al.map (·.s)) (unhide HB13).size (by rw [List.length_map];exact unhide HOA3) (unhide HTB3)).toW (fun r hr=>by rw [(unhide HRO r hr).1];exact hne)).mono (base':=w.heap.size) (by omega))
         have rc':=fun o=>cell_of_blk (unhide HRES) o
         have rf':=fun o=>frozen_of_blk (unhide HRES) o
         have rl':=lt_of_blk (unhide HRES)
         have tc0:wr.cell? ⟨w1.heap.size,0,none⟩=some (.slice ao al.length ac):=cell_of_blk (unhide HB8).blk 0
         have tc2:wr.cell? ⟨w1.heap.size,2,none⟩=some (.slice xo ms.length xc):=cell_of_blk (unhide HB8).blk 2
         clear HB8
         go_wp2_with fail
         change bodyPost _ _ _ _ _ (setT wr (w.heap.size+1) (.slice ao al.length ac) (.slice (some ⟨fg,0,none⟩) ms.length fc) (.slice xo ms.length xc))
         have hfin:=setT_blk (unhide HRES) (.slice ao al.length ac) (.slice (some ⟨fg,0,none⟩) ms.length fc) (.slice xo ms.length xc)
         have hbf:=setT_below (unhide HBEL) (show w.heap.size≤w.heap.size+1 by omega) (.slice ao al.length ac) (.slice (some ⟨fg,0,none⟩) ms.length fc) (.slice xo ms.length xc)
         have htf:=setT_tab (unhide HRES) (unhide HTW2) (A':= .slice ao al.length ac) (F':= .slice (some ⟨fg,0,none⟩) ms.length fc) (X':= .slice xo ms.length xc)
         generalize setT wr (w.heap.size+1) (.slice ao al.length ac) (.slice (some ⟨fg,0,none⟩) ms.length fc) (.slice xo ms.length xc)=wf at *
         have fcc:=fun o=>cell_of_blk hfin o
         refine bodyPost_ret (v:= .tuple #[.agg #[.slice ao al.length ac,.slice (some ⟨fg,0,none⟩) ms.length fc,.slice xo ms.length xc],.bool true]) (by simp [results,Tryz.results142,go_sem,fcc]) rfl ?_
         refine ⟨some ⟨al.map (·.s),ms.map flB,rows⟩,unhide HCF _ ⟨l,tw, ?_, ?_⟩,hbf,_,_,_,rv,rfl,htf⟩
         ·rw [List.length_map];exact unhide HBFS
         ·rw [List.length_map,unhide HKE,unhide HSOME];rfl
def CmpQ (s:ByteArray) (w w':World) (e:Ending):Prop:=
 match readM s with
 | .error x=>Below w.heap.size w w'∧e= .returned (.tuple #[.agg #[.slice none 0 0,.slice none 0 0,.slice none 0 0],.int .i64 x.2])
 | .ok (al,rs)=> ∃o,CompF al rs o∧DecP okG w o w' e
theorem CmpQ.err {s:ByteArray} {w w':World} {e:Ending} {x:Nat × Nat} (h:readM s= .error x) (hb:Below w.heap.size w w') (he:e= .returned (.tuple #[.agg #[.slice none 0 0,.slice none 0 0,.slice none 0 0],.int .i64 x.2])):CmpQ s w w' e:=by
 unfold CmpQ;rw [h];exact ⟨hb,he⟩
theorem CmpQ.ok {s:ByteArray} {w w':World} {e:Ending} {al:List Tk} {rs:List Rl} (h:readM s= .ok (al,rs)) {o:Option Tb} (ho:CompF al rs o) (hd:DecP okG w o w' e):CmpQ s w w' e:=by
 unfold CmpQ;rw [h];exact ⟨o,ho,hd⟩
set_option maxHeartbeats 4000000 in
set_option maxRecDepth 100000 in
theorem CompileR_any (s:ByteArray) (w:World):Calls Tryz.prog 97 #[.string s] w fun e w'=>CmpQ s w w' e:=by
 have HBZ:Hid (Below w.heap.size w (w.alloc (.cells #[.slice none 0 0,.slice none 0 0,.slice none 0 0] 36))):=(Below.refl _ _).alloc (Nat.le_refl _) _
 have HRD:=hide (Read_any s (w.alloc (.cells #[.slice none 0 0,.slice none 0 0,.slice none 0 0] 36)))
 have HRES:=hide (blk_alloc w (.cells #[.slice none 0 0,.slice none 0 0,.slice none 0 0] 36))
 go_enter Tryz.func97,Tryz.ntmps97
 go_wp2_with fail
 refine (unhide HRD).mono ?_
 generalize w.alloc (.cells #[.slice none 0 0,.slice none 0 0,.slice none 0 0] 36)=W at *
 rintro e w1 ⟨hb1,hm⟩
 have hres:=(hb1.block _ (lt_of_blk (unhide HRES))).trans (unhide HRES)
 have HB1:=hide ((unhide HBZ).trans (hb1.mono (unhide HBZ).size))
 cases hr:readM s with
 |error x=>
  rw [hr] at hm
  have hne:=readM_err hr
  have HX:=hide hr
  obtain ⟨xp,xe⟩:=x
  replace hne:xe≠0:=hne
  have hne':¬ ((xe:Nat):Int)=0:=by omega
  subst hm
  have hba:Below w1.heap.size w1 (w1.alloc (.cells #[.slice none 0 0,.slice none 0 0] 228)):=(Below.refl _ _).alloc (Nat.le_refl _) _
  have HRE:=hide ((hba.block _ (lt_of_blk hres)).trans hres)
  have HB2:=hide ((unhide HB1).trans (hba.mono (unhide HB1).size))
  have rc:=fun o=>cell_of_blk (unhide HRE) o
  have rf:=fun o=>frozen_of_blk (unhide HRE) o
  have rl:=lt_of_blk (unhide HRE)
  clear hr hb1 hne hba hres
  go_wp2_with fail
  change bodyPost _ _ _ _ _ (setT (w1.alloc (.cells #[.slice none 0 0,.slice none 0 0] 228)) w.heap.size (.slice none 0 0) (.slice none 0 0) (.slice none 0 0))
  have hfin:=setT_blk (unhide HRE) (.slice none 0 0) (.slice none 0 0) (.slice none 0 0)
  have hbf:=setT_below (unhide HB2) (Nat.le_refl _) (.slice none 0 0) (.slice none 0 0) (.slice none 0 0)
  generalize setT (w1.alloc (.cells #[.slice none 0 0,.slice none 0 0] 228)) w.heap.size (.slice none 0 0) (.slice none 0 0) (.slice none 0 0)=wf at *
  have fcc:=fun o=>cell_of_blk hfin o
  refine bodyPost_ret (v:= .tuple #[.agg #[.slice none 0 0,.slice none 0 0,.slice none 0 0],.int .i64 xe]) (by simp [results,Tryz.results97,go_sem,fcc]) rfl ?_
  exact CmpQ.err (unhide HX) hbf rfl
 |ok m=>
  obtain ⟨al,rs⟩:=m
  rw [hr] at hm
  obtain ⟨o1,n1,k1,o2,n2,k2,rfl,hac,hrr⟩:=hm
  have hg:=readM_good hr
  have h6:al.length≤6:=by have:=(acts_ok hr).n6;simpa using this
  have hbl:Below w1.heap.size w1 (w1.alloc (.cells #[.slice o1 n1 k1,.slice o2 n2 k2] 228)):=(Below.refl _ _).alloc (Nat.le_refl _) _
  have HT:=hide (Build_any _ al rs hg h6 o1 n1 k1 o2 n2 k2 ((KT.below hbl).acts hac) (hrr.later hbl))
  have HB2:=hide ((unhide HB1).trans (hbl.mono (unhide HB1).size))
  have HRE:=hide ((hbl.block _ (lt_of_blk hres)).trans hres)
  have HX:=hide hr
  clear hr hac hrr hg hbl hb1 hres
  go_wp2_with fail
  refine (unhide HT).mono ?_
  generalize w1.alloc (.cells #[.slice o1 n1 k1,.slice o2 n2 k2] 228)=w2 at *
  rintro e w3 ⟨o,ho,hb3,hm⟩
  have HO:=hide ho
  have hres3:=(hb3.block _ (lt_of_blk (unhide HRE))).trans (unhide HRE)
  have HB3:=hide ((unhide HB2).trans (hb3.mono (unhide HB2).size))
  have hwz:w.heap.size≤w2.heap.size:=(unhide HB2).size
  cases o with
  |none=>
   have hm':e= .returned (.tuple #[.agg #[.slice none 0 0,.slice none 0 0,.slice none 0 0],.bool false]):=hm
   subst hm'
   have hba:Below w3.heap.size w3 (w3.alloc (.cells #[.slice none 0 0,.slice none 0 0,.slice none 0 0] 36)):=(Below.refl _ _).alloc (Nat.le_refl _) _
   have HRE4:=hide ((hba.block _ (lt_of_blk hres3)).trans hres3)
   have HB4:=hide ((unhide HB3).trans (hba.mono (unhide HB3).size))
   have rc:=fun o=>cell_of_blk (unhide HRE4) o
   have rf:=fun o=>frozen_of_blk (unhide HRE4) o
   have rl:=lt_of_blk (unhide HRE4)
   clear hm ho hb3 hres3 hba
   go_wp2_with fail
   change bodyPost _ _ _ _ _ (setT (w3.alloc (.cells #[.slice none 0 0,.slice none 0 0,.slice none 0 0] 36)) w.heap.size (.slice none 0 0) (.slice none 0 0) (.slice none 0 0))
   have hfin:=setT_blk (unhide HRE4) (.slice none 0 0) (.slice none 0 0) (.slice none 0 0)
   have hbf:=setT_below (unhide HB4) (Nat.le_refl _) (.slice none 0 0) (.slice none 0 0) (.slice none 0 0)
   generalize setT (w3.alloc (.cells #[.slice none 0 0,.slice none 0 0,.slice none 0 0] 36)) w.heap.size (.slice none 0 0) (.slice none 0 0) (.slice none 0 0)=wf at *
   have fcc:=fun o=>cell_of_blk hfin o
   refine bodyPost_ret (v:= .tuple #[.agg #[.slice none 0 0,.slice none 0 0,.slice none 0 0],.int .i64 5]) (by simp [results,Tryz.results97,go_sem,fcc]) rfl ?_
   exact CmpQ.ok (unhide HX) (unhide HO) ⟨hbf,rfl⟩
  |some t=>
   obtain ⟨A,F,X,rv,he,htab⟩:=hm
   obtain ⟨ao,ac,rfl⟩:=owns_val htab.acts
   obtain ⟨fo,fc,rfl⟩:=owns_val htab.fl
   obtain ⟨no,nc,rfl⟩:=owns_val htab.nx
   have he':e= .returned (.tuple #[.agg #[.slice ao t.acts.length ac,.slice fo t.fl.length fc,.slice no t.nx.length nc],.bool true]):=he
   subst he'
   clear he
   have hba:Below w3.heap.size w3 (w3.alloc (.cells #[.slice ao t.acts.length ac,.slice fo t.fl.length fc,.slice no t.nx.length nc] 36)):=(Below.refl _ _).alloc (Nat.le_refl _) _
   have HRE4:=hide ((hba.block _ (lt_of_blk hres3)).trans hres3)
   have HB4:=hide ((unhide HB3).trans (hba.mono (unhide HB3).size))
   have HTAB:=hide ((htab.later hba).mono hwz)
   have hbx:=blk_alloc w3 (.cells #[.slice ao t.acts.length ac,.slice fo t.fl.length fc,.slice no t.nx.length nc] 36)
   have rc:=fun o=>cell_of_blk (unhide HRE4) o
   have rf:=fun o=>frozen_of_blk (unhide HRE4) o
   have rl:=lt_of_blk (unhide HRE4)
   clear ho hb3 hres3 hba htab
   go_wp2_with fail
   change bodyPost _ _ _ _ _ (setT (w3.alloc (.cells #[.slice ao t.acts.length ac,.slice fo t.fl.length fc,.slice no t.nx.length nc] 36)) w.heap.size (.slice ao t.acts.length ac) (.slice fo t.fl.length fc) (.slice no t.nx.length nc))
   have hfin:=setT_blk (unhide HRE4) (.slice ao t.acts.length ac) (.slice fo t.fl.length fc) (.slice no t.nx.length nc)
   have hbf:=setT_below (unhide HB4) (Nat.le_refl _) (.slice ao t.acts.length ac) (.slice fo t.fl.length fc) (.slice no t.nx.length nc)
   have htf:=setT_tab (unhide HRE4) (unhide HTAB) (A':= .slice ao t.acts.length ac) (F':= .slice fo t.fl.length fc) (X':= .slice no t.nx.length nc)
   generalize setT (w3.alloc (.cells #[.slice ao t.acts.length ac,.slice fo t.fl.length fc,.slice no t.nx.length nc] 36)) w.heap.size (.slice ao t.acts.length ac) (.slice fo t.fl.length fc) (.slice no t.nx.length nc)=wf at *
   have fcc:=fun o=>cell_of_blk hfin o
   refine bodyPost_ret (v:= .tuple #[.agg #[.slice ao t.acts.length ac,.slice fo t.fl.length fc,.slice no t.nx.length nc],.int .i64 0]) (by simp [results,Tryz.results97,go_sem,fcc]) rfl ?_
   exact CmpQ.ok (unhide HX) (unhide HO) ⟨hbf,_,_,_,rv,rfl,htf⟩
set_option maxHeartbeats 2000000 in
set_option maxRecDepth 100000 in
theorem sameTexts_any (w:World) (ao bo:Option Addr) (ac bc:Nat) (l m:List ByteArray) (h1:TxS w ao l) (h2:TxS w bo m) (hl:l.length≤10000000000000) (hm:m.length≤10000000000000):
  Calls Tryz.prog 61 #[.slice ao l.length ac,.slice bo m.length bc] w fun e w'=>TellsB (l=m) e∧Below w.heap.size w w':=by
 have H1:=hide h1
 have H2:=hide h2
 clear h1 h2
 by_cases hlm:l.length=m.length
 ·generalize hn:m.length=n at *
  have HN:=hide hn
  have HL:=hide hlm
  rw [hlm]
  clear hn hlm hl
  go_enter Tryz.func61,Tryz.ntmps61
  go_wp2_with fail
  go_loopw [5] (fun x wr=> ∃k:Nat,k≤n∧x= .int .i64 k∧Hid (Below w.heap.size w wr)∧Hid (l.take k=m.take k)) (fun x _=>n - (intOf x).toNat)
  case atStart=>exact ⟨0,Nat.zero_le _,rfl,Below.refl _ _,rfl⟩
  case round=>
   obtain ⟨k,hk,rfl,HB,HK⟩:=hrel
   by_cases hlt:k<n
   ·have hkn:(k:Int)<(n:Int):=by omega
    have hkl:k<l.length:=by rw [unhide HL];exact hlt
    have hkm:k<m.length:=by rw [unhide HN];exact hlt
    obtain ⟨b,off,rfl,hb,hc⟩:=(unhide H1).later (unhide HB) k l[k] (List.getElem?_eq_getElem hkl)
    obtain ⟨b2,off2,rfl,hb2,hc2⟩:=(unhide H2).later (unhide HB) k m[k] (List.getElem?_eq_getElem hkm)
    have HX:=hide (List.getElem?_eq_getElem hkl)
    have HY:=hide (List.getElem?_eq_getElem hkm)
    generalize l[k]=x at *
    generalize m[k]=y at *
    by_cases hxy:x=y
    ·subst hxy
     have HK2:Hid (l.take (k+1)=m.take (k+1)):=by
      show _=_
      rw [List.take_add_one,List.take_add_one,unhide HX,unhide HY,unhide HK]
     go_wp2_with fail
     go_quiet (fail)
     go_wp2_with fail
     go_roundw
     case rel=>exact ⟨k+1,by omega,by go_num,(unhide HB).trans (((bdn _ _).mono (unhide HB).size)),HK2⟩
     case measure=>simp [intOf];omega
    ·have HNE:Hid (¬ l=m):=fun e=>by
      have h1:=unhide HX
      rw [e,unhide HY] at h1
      exact hxy (Option.some.inj h1).symm
     have hne:(x.toList==y.toList)=false:=beq_eq_false_iff_ne.2 fun e=>hxy (by
      apply byte_inj
      rw [ByteArray.toList_eq,ByteArray.toList_eq] at e
      exact e)
     clear hxy
     go_wp2_with fail
     go_quiet (fail)
     go_wp2_with fail
     go_ret
     exact ⟨TellsB.no (unhide HNE),(unhide HB).trans (((bdn _ _).mono (unhide HB).size))⟩
   ·have hkn:¬ (k:Int)<(n:Int):=by omega
    have HE:Hid (l=m):=by
     have:=unhide HK
     rw [List.take_of_length_le (by rw [unhide HL];omega),List.take_of_length_le (by rw [unhide HN];omega)] at this
     exact this
    go_wp2_with fail
    go_ret
    exact ⟨TellsB.yes (unhide HE),unhide HB⟩
 ·have hi:¬ (l.length:Int)=(m.length:Int):=by omega
  have HNE:Hid (¬ l=m):=fun e=>hlm (by rw [e])
  clear hlm
  go_enter Tryz.func61,Tryz.ntmps61
  go_wp2_with fail
  go_ret
  exact ⟨TellsB.no (unhide HNE),Below.refl _ _⟩
set_option maxHeartbeats 1000000 in
theorem pickL_any (w:World) (c:Int) (n:Nat) (h0: -9223372036854775808≤c) (h1:c≤9223372036854775807) (hn:0<n) (hn2:n≤100000000):
  Calls Tryz.prog 58 #[.int .i64 c,.int .i64 (n:Int)] w fun e w'=>PickP n e∧w'=w:=by
 have hni:¬ (n:Int)=0:=by omega
 by_cases hc:c<0
 ·have HP:=hide (PickP.of (n:=n) (x:= -(c+1)) (by omega) hn)
  rw [Int.neg_tmod] at HP
  go_enter Tryz.func58,Tryz.ntmps58
  go_wp2_with fail
  go_ret
  exact ⟨unhide HP,rfl⟩
 ·have HP:=hide (PickP.of (n:=n) (x:=c) (by omega) hn)
  rw [Int.tmod_eq_emod_of_nonneg (by omega)] at HP
  go_enter Tryz.func58,Tryz.ntmps58
  go_wp2_with fail
  go_ret
  exact ⟨unhide HP,rfl⟩
theorem comp_rightF {s:ByteArray} {al:List Tk} {rs:List Rl} (h:readM s= .ok (al,rs)) {t:Tb} (hc:CompF al rs (some t)):RightT t:=by
 obtain ⟨e,l,tw,m,hT⟩:=CmpR.some hc
 exact hT.right (by rw [e];exact acts_ok h)
theorem CmpQ.two {s:ByteArray} {w w':World} {e:Ending} (h:CmpQ s w w' e):(∃x:Nat,x≠0∧e= .returned (.tuple #[.agg #[.slice none 0 0,.slice none 0 0,.slice none 0 0],.int .i64 x])∧Below w.heap.size w w')∨ ∃t,DecT t w w' e:=by
 unfold CmpQ at h
 cases hr:readM s with
 |error x=>
  rw [hr] at h
  exact Or.inl ⟨x.2,readM_err hr,h.2,h.1⟩
 |ok m=>
  obtain ⟨al,rs⟩:=m
  rw [hr] at h
  obtain ⟨o,ho,hd⟩:=h
  cases o with
  |none=>exact Or.inl ⟨5,by decide,hd.2,hd.1⟩
  |some t=>exact Or.inr ⟨t,DecT.of rfl (comp_rightF hr ho) hd⟩
theorem EncodeR_t (w:World) (ao fo no:Option Addr) (ac fc nc na nf nn:Nat) (t:Tb) (hI:TbI w ao fo no ac t.z) (hna:na=t.acts.length) (hnf:nf=t.fl.length) (hnn:nn=t.nx.length):
  Calls Tryz.prog 102 #[.agg #[.slice ao na ac,.slice fo nf fc,.slice no nn nc]] w fun e w'=>(∃(b:ByteArray) (x:Int),e= .returned (.tuple #[.string b,.int .i64 x]))∧Below w.heap.size w w':=by
 have e1:t.z.fl.length=nf:=by rw [hnf];exact zI_len _
 have e2:t.z.nx.length=nn:=by rw [hnn];unfold Tb.z;simp
 have e3:t.z.acts.length=na:=by rw [hna];rfl
 have:=EncodeR_any w ao fo no ac fc nc t.z hI
 rw [e1,e2,e3] at this
 refine this.mono ?_
 rintro e w' ⟨⟨u,hu,_,he⟩|⟨hn,he⟩,hb⟩
 ·exact ⟨⟨_,_,he⟩,hb⟩
 ·exact ⟨⟨_,_,he⟩,hb⟩
def BytP (w w':World) (e:Ending):Prop:=(∃b:ByteArray,e= .returned (.string b))∧Below w.heap.size w w'
set_option maxHeartbeats 2000000 in
set_option maxRecDepth 100000 in
theorem bytesOf_any (s:ByteArray) (w:World):Calls Tryz.prog 57 #[.string s] w fun e w'=>BytP w w' e:=by
 have HC:=hide (CompileR_any s w)
 go_enter Tryz.func57,Tryz.ntmps57
 go_wp2_with fail
 refine (unhide HC).mono ?_
 clear HC
 rintro e w1 hc
 rcases hc.two with ⟨x,hx,rfl,hb⟩|⟨t,ao,fo,no,ac,fc,nc,rv,rfl,hT,hR,hb⟩
 ·have hxi:¬ (x:Int)=0:=by omega
  have HB:=hide (hb.trans (((Below.refl w1.heap.size w1).alloc (Nat.le_refl _) (.cells #[.slice none 0 0,.slice none 0 0,.slice none 0 0] 36)).mono hb.size))
  clear hb hc hx
  go_wp2_with fail
  go_ret
  exact ⟨⟨_,rfl⟩,unhide HB⟩
 ·have hba:Below w1.heap.size w1 (w1.alloc (.cells #[.slice ao t.acts.length ac,.slice fo t.fl.length fc,.slice no t.nx.length nc] 36)):=(Below.refl _ _).alloc (Nat.le_refl _) _
  have HB:=hide (hb.trans (hba.mono hb.size))
  have HE:=hide (EncodeR_t _ ao fo no ac fc nc _ _ _ t ((hT.later hba).read hR.small).1 rfl rfl rfl)
  clear hb hc hT hR hba
  generalize t.acts.length=na at *
  generalize t.fl.length=nf at *
  generalize t.nx.length=nn at *
  go_wp2_with fail
  refine (unhide HE).mono ?_
  rintro e w2 ⟨⟨b,x,rfl⟩,hb2⟩
  have HB2:=hide ((unhide HB).trans (hb2.mono (unhide HB).size))
  clear hb2 HE
  go_wp2_with fail
  go_ret
  exact ⟨⟨b,rfl⟩,unhide HB2⟩
end Go.Proofs.YtidakhhekofkoaaGreatDoor
