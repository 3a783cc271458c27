/- The program's reader: number, text, numbers. -/
import Derived.Test.YtidakhhekofkoaaGreatDoorJ21
import Derived.Test.YtidakhhekofkoaaGreatDoorJ17
import Derived.Laws.EntriesVeiled
import Derived.Test.YtidakhhekofkoaaGreatDoorJ01
import Derived.BigQuiet
set_option linter.unusedSimpArgs false
set_option linter.unusedVariables false
namespace Go.Proofs.YtidakhhekofkoaaGreatDoor
open Go.RowKit Go.Deep
def RdA (w:World) (rb:Nat) (l:List UInt8):Prop:= ∃s:ByteArray,s.data.toList=l∧w.heap[rb]? =some (.cells #[.string s] 165 (0,0))
theorem RdA.lt {w:World} {rb:Nat} {l:List UInt8} (h:RdA w rb l):rb<w.heap.size:=by obtain ⟨_,_,h⟩:=h;exact lt_of_blk h
theorem RdA.later {w w':World} {rb:Nat} {l:List UInt8} (h:RdA w rb l) (hb:Below w.heap.size w w'):RdA w' rb l:=by
 obtain ⟨s,h1,h2⟩:=h
 exact ⟨s,h1,(hb.block _ (lt_of_blk h2)).trans h2⟩
theorem RdA.keep {w w':World} {rb:Nat} {l:List UInt8} {row:Option Nat} (h:RdA w rb l) (hg:w.grownBy w' row) (hne:some rb≠row):RdA w' rb l:=by
 obtain ⟨s,h1,h2⟩:=h
 exact ⟨s,h1,(hg.block _ (lt_of_blk h2) hne).trans h2⟩
theorem extract_drop (s:ByteArray) (n:Nat):(s.extract n s.size).data.toList=s.data.toList.drop n:=by
 rw [Lib.extract_data,List.take_of_length_le]
 rw [List.length_drop,size_data]
 exact Nat.le_refl _
theorem extract_take (s:ByteArray) (n:Nat):(s.extract 0 n).data.toList=s.data.toList.take n:=by
 rw [Lib.extract_data]
 simp
structure RdF (rb:Nat) (l:List UInt8) (w w':World):Prop where
 at':RdA w' rb l
 gr:w.grownBy w' (some rb)
set_option maxHeartbeats 1000000 in
set_option maxRecDepth 100000 in
theorem rdnumber_any (w:World) (rb:Nat) (l:List UInt8) (h:RdA w rb l):
  Calls Tryz.prog 135 #[.pointer (some ⟨rb,0,none⟩)] w fun e w'=>e= .returned (.int .i64 ((numB l).1:Nat))∧RdF rb (numB l).2 w w':=by
 obtain ⟨s,rfl,hb⟩:=h
 have hc:w.cell? ⟨rb,0,none⟩=some (.string s):=cell_of_blk hb 0
 have hf:=frozen_of_blk hb 0
 have hlt:=lt_of_blk hb
 have HB:=hide hb
 clear hb
 cases hd:s.data.toList with
 |nil=>
  have hs:s=⟨#[]⟩:=ByteArray.ext (by rw [←Array.toList_inj,hd])
  subst hs
  clear hd
  go_enter Tryz.func135,Tryz.ntmps135
  go_wp2_with fail
  go_ret
  exact ⟨rfl,⟨⟨#[]⟩,rfl,unhide HB⟩,⟨rfl,rfl,rfl,Nat.le_refl _,fun _ _ _=>rfl⟩⟩
 |cons c r=>
  have hsz:0<s.size:=by rw [←size_data,hd];simp
  have hne:s.toList.isEmpty=false:=by rw [ByteArray.toList_eq,hd];rfl
  have h0:s[0]=c:=by
   have:=drop_at s 0 hsz
   rw [List.drop_zero,hd] at this
   exact ((List.cons.inj this).1).symm
  have HX:Hid ((s.extract 1 s.size).data.toList=r):=by show _=_;rw [extract_drop,hd];rfl
  clear hd
  have hsz':¬ ((s.size:Int)<1):=by omega
  have hc8:=c.toNat_lt
  have hw64:wrap64 (c.toNat:Int)=(c.toNat:Int):=by unfold wrap64;omega
  go_enter Tryz.func135,Tryz.ntmps135
  go_wp2_with fail
  go_ret
  exact ⟨rfl,⟨⟨_,unhide HX,blk_set (unhide HB) 0 _⟩,grown_set _ _ _ _⟩⟩
set_option maxHeartbeats 1000000 in
set_option maxRecDepth 100000 in
theorem sClone_any (s:ByteArray) (w:World) (hlim:s.size≤281474976710656):
  Calls Tryz.prog 49 #[.string s] w fun e w'=>e= .returned (.string s)∧Below w.heap.size w w':=by
 have HC:=hide (Tryz.stringslite_Clone s w hlim)
 go_enter Tryz.func49,Tryz.ntmps49
 go_wp2_with fail
 refine (unhide HC).mono ?_
 rintro e w1 ⟨rfl,hb⟩
 have HB:=hide hb
 clear hb
 go_wp2_with fail
 go_ret
 exact ⟨rfl,unhide HB⟩
set_option maxHeartbeats 1000000 in
set_option maxRecDepth 100000 in
theorem rdtext_any (w:World) (rb:Nat) (l:List UInt8) (n:Nat) (h:RdA w rb l) (hl:l.length≤1000) (hn:n≤1000):
  Calls Tryz.prog 134 #[.pointer (some ⟨rb,0,none⟩),.int .i64 (n:Int)] w fun e w'=>e= .returned (.string (txtB n l).1)∧RdF rb (txtB n l).2 w w':=by
 obtain ⟨s,rfl,hb⟩:=h
 have hc:w.cell? ⟨rb,0,none⟩=some (.string s):=cell_of_blk hb 0
 have hlt:=lt_of_blk hb
 have HB:=hide hb
 rw [size_data] at hl
 have hmin:min (n:Int) (s.size:Int)=((min n s.size:Nat):Int):=by omega
 generalize hm:min n s.size=m at *
 have hms:m≤s.size:=by omega
 have HT:Hid ((txtB n s.data.toList).1=s.extract 0 m):=by
  show _=_
  unfold txtB
  apply byte_inj
  show (s.data.toList.take n)=_
  rw [extract_take,←hm,List.take_eq_take_iff,size_data]
  omega
 have HD:Hid ((s.extract m s.size).data.toList=(txtB n s.data.toList).2):=by
  show _=_
  unfold txtB
  rw [extract_drop,←hm]
  show _=s.data.toList.drop n
  rcases Nat.le_total n s.size with h|h
  ·rw [Nat.min_eq_left h]
  ·rw [Nat.min_eq_right h,List.drop_eq_nil_of_le (by rw [size_data];exact Nat.le_refl _),List.drop_eq_nil_of_le (by rw [size_data];exact h)]
 have HC:=hide (sClone_any (s.extract 0 m) w (by
  rw [←size_data,extract_take,List.length_take,size_data]
  omega))
 clear hb hm
 go_enter Tryz.func134,Tryz.ntmps134
 go_wp2_with fail
 refine (unhide HC).mono ?_
 rintro e w1 ⟨rfl,hb1⟩
 have hbk:=(hb1.block _ (lt_of_blk (unhide HB))).trans (unhide HB)
 have hc1:w1.cell? ⟨rb,0,none⟩=some (.string s):=cell_of_blk hbk 0
 have hf1:=frozen_of_blk hbk 0
 have hlt1:=lt_of_blk hbk
 have HBK:=hide hbk
 have HB1:=hide hb1
 clear hbk hb1 hc hlt
 go_wp2_with fail
 go_ret
 exact ⟨by rw [unhide HT];rfl,⟨⟨_,unhide HD,blk_set (unhide HBK) 0 _⟩,(grown_below (unhide HB1) _).trans (grown_set _ _ _ _)⟩⟩
def intC (l:List Nat):List Value:=l.map fun n:Nat=>Value.int .i64 (n:Int)
theorem intC_len (l:List Nat):(intC l).length=l.length:=by unfold intC;rw [List.length_map]
theorem intC_app (l r:List Nat):intC (l++r)=intC l++intC r:=by unfold intC;rw [List.map_append]
theorem numsB_snoc: ∀(k:Nat) (l:List UInt8),numsB (k+1) l=((numsB k l).1++[(numB (numsB k l).2).1],(numB (numsB k l).2).2)
 |0,l=>rfl
 |k+1,l=>by
  rw [numsB,numsB_snoc k (numB l).2,numsB]
  rfl
theorem numsB_len: ∀(k:Nat) (l:List UInt8),(numsB k l).1.length=k
 |0,_=>rfl
 |k+1,l=>by rw [numsB,List.length_cons,numsB_len]
theorem Tryz.infoI64:(Tryz.prog.info? 3).map (fun i=>(i.zero,i.size,i.bytes))=some (some (.int .i64 0),1,8):=by kernel_rfl
def rowTo (L:List Nat) (c k:Nat):List Nat:=L.take k++List.replicate (c - k) 0
theorem rowTo_len {L:List Nat} {c k:Nat} (hL:k≤L.length) (hk:k≤c):(rowTo L c k).length=c:=by unfold rowTo;simp;omega
theorem rowTo_succ {L M:List Nat} {c k x:Nat} (hk:k<c) (hL:L.length=k) (hM:M=L++[x]):rowTo M c (k+1)=(rowTo L c k).set k x:=by
 subst hM
 unfold rowTo
 obtain ⟨m,hm⟩: ∃m,c - k=m+1:=⟨c - k - 1,by omega⟩
 rw [hm,show c - (k+1)=m by omega,List.take_of_length_le (by simp [hL]),List.take_of_length_le (by omega),List.set_append_right _ _ (by omega),hL,Nat.sub_self,List.replicate_succ,List.set_cons_zero]
 simp
def rowC (l:List Nat):Array Value:=(intC l).toArray
theorem rowC_set (l:List Nat) (k x:Nat):(rowC l).setIfInBounds k (.int .i64 (x:Int))=rowC (l.set k x):=by
 unfold rowC intC
 rw [List.setIfInBounds_toArray,List.map_set]
theorem rowC_at {l:List Nat} {k x:Nat} (h:l[k]? =some x):(rowC l)[k]? =some (.int .i64 (x:Int)):=by
 unfold rowC intC
 rw [List.getElem?_toArray,List.getElem?_map,h]
 rfl
theorem rowC_zero (n:Nat):rowC (List.replicate n 0)=Array.replicate n (.int .i64 0):=by unfold rowC intC;simp
theorem rowC_owns {w:World} {g base n:Nat} {l:List Nat} (h:w.heap[g]? =some (.cells (rowC l) 3 (0,0))) (hb:base≤g) (hn:l.length=n) (hm:n≤1000000):w.ownsRow base 3 1 (.slice (some ⟨g,0,none⟩) n n) n (intC l):=by
 refine ⟨by rw [intC_len,hn,Nat.mul_one],.inr ⟨g,n,_,rfl,hb,h,Nat.le_refl _,by unfold maxLen;omega, ?_, ?_⟩⟩
 ·unfold rowC;rw [List.size_toArray,intC_len,hn,Nat.mul_one]
 ·unfold rowC
  rw [List.take_of_length_le (by simp [intC_len,hn])]
def NumsP (w:World) (rb:Nat) (l:List UInt8) (c:Nat) (w':World) (e:Ending):Prop:=
 e= .returned (.slice (some ⟨w.heap.size,0,none⟩) c c)∧w'.heap[w.heap.size]? =some (.cells (rowC (numsB c l).1) 3 (0,0))∧RdF rb (numsB c l).2 w w'
structure NR (w wr:World) (rb:Nat) (l:List UInt8) (c k:Nat):Prop where
 blk:wr.heap[w.heap.size]? =some (.cells (rowC (rowTo (numsB k l).1 c k)) 3 (0,0))
 rd:RdA wr rb (numsB k l).2
 gr:w.grownBy wr (some rb)
set_option maxHeartbeats 2000000 in
set_option maxRecDepth 100000 in
theorem rdnumbers_any (w:World) (rb:Nat) (l:List UInt8) (c:Nat) (h:RdA w rb l) (hc:c≤1000):
  Calls Tryz.prog 136 #[.pointer (some ⟨rb,0,none⟩),.int .i64 (c:Int)] w fun e w'=>NumsP w rb l c w' e:=by
 obtain ⟨i0,hi0,hz0,hz1,hz2⟩:=info_parts Tryz.infoI64
 have hmk:=fun (w:World)=>make_run (P:=Tryz.prog) w 33 3 i0 (.int .i64 0) Tryz.underlying33 hi0 hz0 hz1 rfl (by omega) c (by omega)
 clear hi0 hz0 hz1 hz2
 have hlt:=h.lt
 have HN0:Hid (NR w (w.alloc (.cells (Array.replicate c (.int .i64 0)) 3)) rb l c 0):=by
  refine ⟨?_,h.later ((Below.refl _ _).alloc (Nat.le_refl _) _),World.grownBy_alloc _ _ _⟩
  rw [←rowC_zero]
  have e:rowTo (numsB 0 l).1 c 0=List.replicate c 0:=by unfold rowTo;simp
  rw [e]
  exact blk_alloc _ _
 clear h
 go_enter Tryz.func136,Tryz.ntmps136
 go_wp2_with fail
 generalize w.alloc (.cells (Array.replicate c (.int .i64 0)) 3)=W0 at *
 go_loopw [11] (fun x wr=> ∃k:Nat,k≤c∧x= .int .i64 k∧Hid (NR w wr rb l c k)) (fun x _=>c - (intOf x).toNat)
 case atStart=>exact ⟨0,Nat.zero_le _,rfl,HN0⟩
 case round=>
  obtain ⟨k,hk,rfl,HN⟩:=hrel
  by_cases hlt2:k<c
  ·have hkn:(k:Int)<(c:Int):=by omega
   have HC:=hide (rdnumber_any wr rb (numsB k l).2 (unhide HN).rd)
   have HS:=hide (numsB_snoc k l)
   generalize hy:(numB (numsB k l).2).1=y at *
   generalize hq:(numB (numsB k l).2).2=q at *
   clear hy hq
   go_wp2_with (go_at_call 135;refine (unhide HC).mono ?_)
   rintro e w1 ⟨rfl,hr1⟩
   have hne:some w.heap.size≠some rb:=fun e=>by cases e;omega
   have hb1:=(hr1.gr.block _ (lt_of_blk (unhide HN).blk) hne).trans (unhide HN).blk
   have hgl:=lt_of_blk hb1
   have gf:=frozen_of_blk hb1 k
   have hlen:(rowTo (numsB k l).1 c k).length=c:=rowTo_len (by rw [numsB_len];exact Nat.le_refl _) hk
   obtain ⟨y0,hy0⟩: ∃y0,(rowTo (numsB k l).1 c k)[k]? =some y0:=⟨_,List.getElem?_eq_getElem (by rw [hlen];exact hlt2)⟩
   have gc:=(cell_of_blk hb1 k).trans (rowC_at hy0)
   clear hy0
   have HN2:Hid (NR w (w1.setCell ⟨w.heap.size,k,none⟩ (.int .i64 (y:Int))) rb l c (k+1)):=by
    refine ⟨?_, ?_, ?_⟩
    ·have:=blk_set hb1 k (.int .i64 (y:Int))
     rw [rowC_set] at this
     rw [rowTo_succ (L:=(numsB k l).1) (x:=y) hlt2 (numsB_len k l) (by rw [unhide HS])]
     exact this
    ·rw [unhide HS]
     exact hr1.at'.keep (grown_set _ _ _ _) hne.symm
    ·exact grown_setNew ((unhide HN).gr.trans hr1.gr) (Nat.le_refl _) _ _
   clear hb1 hr1 hlen hne
   go_wp2_with fail
   go_roundw
   case rel=>exact ⟨k+1,by omega,by go_num,HN2⟩
   case measure=>simp [intOf];omega
  ·have hkn:¬ (k:Int)<(c:Int):=by omega
   have hke:k=c:=by omega
   subst hke
   have hall:rowTo (numsB k l).1 k k=(numsB k l).1:=by unfold rowTo;rw [List.take_of_length_le (by rw [numsB_len];exact Nat.le_refl _)];simp
   have hb:=(unhide HN).blk
   rw [hall] at hb
   have HB:=hide hb
   clear hb hall
   go_wp2_with fail
   go_ret
   exact ⟨rfl,unhide HB,(unhide HN).rd,(unhide HN).gr⟩
theorem actsP_snoc: ∀(k:Nat) (l:List UInt8),actsP (k+1) l=((actsP k l).1++[(txtB (numB (actsP k l).2).1 (numB (actsP k l).2).2).1],(txtB (numB (actsP k l).2).1 (numB (actsP k l).2).2).2)
 |0,l=>rfl
 |k+1,l=>by
  rw [actsP,actsP_snoc k,actsP]
  rfl
theorem actsP_len: ∀(k:Nat) (l:List UInt8),(actsP k l).1.length=k
 |0,_=>rfl
 |k+1,l=>by rw [actsP,List.length_cons,actsP_len]
theorem rowsP_snoc (c:Nat): ∀(k:Nat) (l:List UInt8),rowsP c (k+1) l=(((rowsP c k l).1.1++[(numB (rowsP c k l).2).1],(rowsP c k l).1.2++[(numsB c (numB (rowsP c k l).2).2).1]),(numsB c (numB (rowsP c k l).2).2).2)
 |0,l=>rfl
 |k+1,l=>by
  rw [rowsP,rowsP_snoc c k,rowsP]
  rfl
theorem rowsP_len (c:Nat): ∀(k:Nat) (l:List UInt8),(rowsP c k l).1.1.length=k∧(rowsP c k l).1.2.length=k
 |0,_=>⟨rfl,rfl⟩
 |k+1,l=>by
  rw [rowsP]
  have:=rowsP_len c k (numsB c (numB l).2).2
  exact ⟨by rw [List.length_cons,this.1],by rw [List.length_cons,this.2]⟩
def strsC (l:List ByteArray):List Value:=l.map Value.string
structure TbW (w:World) (base:Nat) (A F X:Value) (t:Tb) (rv:List Value):Prop where
 acts:w.ownsRow base 9 1 A t.acts.length (strsC t.acts)
 fl:w.ownsRow base 3 1 F t.fl.length (intC t.fl)
 nx:w.ownsRow base 33 1 X t.nx.length rv
 rows: ∀(j:Nat) (r:List Nat),t.nx[j]? =some r→ ∃g c,rv[j]? =some (.slice (some ⟨g,0,none⟩) r.length c)∧w.ownsRow base 3 1 (.slice (some ⟨g,0,none⟩) r.length c) r.length (intC r)
 rf: ∀v∈rv,v.ownBlock≠F.ownBlock
 rr:rv.Pairwise fun u v=>u.ownBlock≠v.ownBlock
theorem TbW.rl {w:World} {base:Nat} {A F X:Value} {t:Tb} {rv:List Value} (h:TbW w base A F X t rv):rv.length=t.nx.length:=by
 have:=h.nx.1
 rw [Nat.mul_one] at this
 exact this
theorem own_at {w:World} {base e size n:Nat} {v:Value} {xs:List Value} (h:w.ownsRow base e size v n xs) {b:Nat} (hb:v.ownBlock=some b): ∃c,w.heap[b]? =some (.cells c e (0,0)):=by
 obtain ⟨_,⟨hv,_⟩|⟨g,cap,cur,hv,_,hg,_⟩⟩:=h
 ·rw [hv] at hb;cases hb
 ·rw [hv] at hb
  cases hb
  exact ⟨cur,hg⟩
theorem owns_other {w w':World} {base e size n:Nat} {v:Value} {xs:List Value} {row:Option Nat} (h:w.ownsRow base e size v n xs) (hg:w.grownBy w' row) (hne: ∀b,row=some b→v.ownBlock≠some b):w'.ownsRow base e size v n xs:=by
 refine owns_keep h hg ?_
 cases hv:v.ownBlock with
 |none=>exact Or.inl rfl
 |some k=>exact Or.inr (fun e=>hne k e.symm hv)
theorem TbW.other {w w':World} {base:Nat} {A F X:Value} {t:Tb} {rv:List Value} {row:Option Nat} (h:TbW w base A F X t rv) (hg:w.grownBy w' row) (hne: ∀b,row=some b→ ∀c m,w.heap[b]? ≠some (.cells c 9 m)∧w.heap[b]? ≠some (.cells c 3 m)∧w.heap[b]? ≠some (.cells c 33 m)):TbW w' base A F X t rv:=by
 refine ⟨owns_other h.acts hg fun b hb e=> ?_,owns_other h.fl hg fun b hb e=> ?_,owns_other h.nx hg fun b hb e=> ?_,fun j r hr=> ?_,h.rf,h.rr⟩
 ·obtain ⟨c,hc⟩:=own_at h.acts e;exact (hne b hb c (0,0)).1 hc
 ·obtain ⟨c,hc⟩:=own_at h.fl e;exact (hne b hb c (0,0)).2.1 hc
 ·obtain ⟨c,hc⟩:=own_at h.nx e;exact (hne b hb c (0,0)).2.2 hc
 ·obtain ⟨g,c,h1,h2⟩:=h.rows j r hr
  exact ⟨g,c,h1,owns_other h2 hg fun b hb e=>by obtain ⟨c',hc⟩:=own_at h2 e;exact (hne b hb c' (0,0)).2.1 hc⟩
theorem TbW.later {w w':World} {base:Nat} {A F X:Value} {t:Tb} {rv:List Value} (h:TbW w base A F X t rv) (hb:Below w.heap.size w w'):TbW w' base A F X t rv:=
 h.other (grown_below hb none) (fun b e=>by cases e)
theorem TbW.act {w w':World} {base:Nat} {A A' F X:Value} {t:Tb} {rv:List Value} (h:TbW w base A F X t rv) {s:ByteArray} (ho:w'.ownsRow base 9 1 A' (t.acts.length+1) (strsC t.acts++[.string s])) (hg:w.grownBy w' A.ownBlock):TbW w' base A' F X ⟨t.acts++[s],t.fl,t.nx⟩ rv:=by
 have hty: ∀{e n:Nat} {v:Value} {xs:List Value},w.ownsRow base e 1 v n xs→e≠9→ ∀b,A.ownBlock=some b→v.ownBlock≠some b:=fun {e n v xs} k hne b hb e1=>by
  obtain ⟨c,hc⟩:=own_at h.acts hb
  exact own_ty k e1 hc (fun e=>hne e.symm)
 refine ⟨?_,owns_other h.fl hg (hty h.fl (by decide)),owns_other h.nx hg (hty h.nx (by decide)),fun j r hr=> ?_,h.rf,h.rr⟩
 ·have e:strsC (t.acts++[s])=strsC t.acts++[.string s]:=by unfold strsC;rw [List.map_append];rfl
  show w'.ownsRow base _ 1 A' (t.acts++[s]).length (strsC (t.acts++[s]))
  rw [e,List.length_append]
  exact ho
 ·obtain ⟨g,c,h1,h2⟩:=h.rows j r hr
  exact ⟨g,c,h1,owns_other h2 hg (hty h2 (by decide))⟩
theorem TbW.flag {w w':World} {base:Nat} {A F F' X:Value} {t:Tb} {rv:List Value} (h:TbW w base A F X t rv) {f:Nat} (ho:w'.ownsRow base 3 1 F' (t.fl.length+1) (intC t.fl++[.int .i64 (f:Int)])) (hg:w.grownBy w' F.ownBlock) {g':Nat} (hF':F'.ownBlock=some g') (hat:F.ownBlock=some g'∨w.heap.size≤g'):TbW w' base A F' X ⟨t.acts,t.fl++[f],t.nx⟩ rv:=by
 have hty: ∀{e n:Nat} {v:Value} {xs:List Value},w.ownsRow base e 1 v n xs→e≠3→ ∀b,F.ownBlock=some b→v.ownBlock≠some b:=fun {e n v xs} k hne b hb e1=>by
  obtain ⟨c,hc⟩:=own_at h.fl hb
  exact own_ty k e1 hc (fun e=>hne e.symm)
 have hrow: ∀v∈rv,∃g r c,v= .slice (some ⟨g,0,none⟩) r c∧g<w.heap.size:=fun v hv=>by
  obtain ⟨j,hj⟩:=List.mem_iff_getElem?.1 hv
  have hjl:j<t.nx.length:=by have:=(List.getElem?_eq_some_iff.1 hj).1;have:=h.rl;omega
  obtain ⟨g,c,h1,h2⟩:=h.rows j _ (List.getElem?_eq_getElem hjl)
  rw [hj] at h1
  cases h1
  exact ⟨g,_,c,rfl,(own_lt h2 g rfl).2⟩
 refine ⟨owns_other h.acts hg (hty h.acts (by decide)), ?_,owns_other h.nx hg (hty h.nx (by decide)),fun j r hr=> ?_,fun v hv=> ?_,h.rr⟩
 ·have e:intC (t.fl++[f])=intC t.fl++[.int .i64 (f:Int)]:=by rw [intC_app];rfl
  show w'.ownsRow base _ 1 F' (t.fl++[f]).length (intC (t.fl++[f]))
  rw [e,List.length_append]
  exact ho
 ·obtain ⟨g,c,h1,h2⟩:=h.rows j r hr
  refine ⟨g,c,h1,owns_other h2 hg fun b hb e=> ?_⟩
  exact h.rf _ (List.mem_of_getElem? h1) (e.trans hb.symm)
 ·obtain ⟨g,r,c,rfl,hlt⟩:=hrow v hv
  rw [hF']
  intro e
  have e':g=g':=Option.some.inj e
  subst e'
  rcases hat with hat|hat
  ·exact h.rf _ hv hat.symm
  ·omega
theorem TbW.row {w w':World} {base:Nat} {A F X X':Value} {t:Tb} {rv:List Value} (h:TbW w base A F X t rv) {g c:Nat} {r:List Nat} (hr:w.ownsRow base 3 1 (.slice (some ⟨g,0,none⟩) r.length c) r.length (intC r)) (hF:F.ownBlock≠some g) (hv: ∀v∈rv,v.ownBlock≠some g)
  (ho:w'.ownsRow base 33 1 X' (t.nx.length+1) (rv++[.slice (some ⟨g,0,none⟩) r.length c])) (hg:w.grownBy w' X.ownBlock):TbW w' base A F X' ⟨t.acts,t.fl,t.nx++[r]⟩ (rv++[.slice (some ⟨g,0,none⟩) r.length c]):=by
 have hty: ∀{e n:Nat} {v:Value} {xs:List Value},w.ownsRow base e 1 v n xs→e≠33→ ∀b,X.ownBlock=some b→v.ownBlock≠some b:=fun {e n v xs} k hne b hb e1=>by
  obtain ⟨c,hc⟩:=own_at h.nx hb
  exact own_ty k e1 hc (fun e=>hne e.symm)
 have hl:=h.rl
 refine ⟨owns_other h.acts hg (hty h.acts (by decide)),owns_other h.fl hg (hty h.fl (by decide)), ?_,fun j q hq=> ?_,fun v hv'=> ?_, ?_⟩
 ·show w'.ownsRow base _ 1 X' (t.nx++[r]).length _
  rw [List.length_append]
  exact ho
 ·rcases Nat.lt_or_ge j t.nx.length with hj|hj
  ·rw [List.getElem?_append_left hj] at hq
   obtain ⟨g2,c2,h1,h2⟩:=h.rows j q hq
   exact ⟨g2,c2,by rw [List.getElem?_append_left (by omega)];exact h1,owns_other h2 hg (hty h2 (by decide))⟩
  ·rw [List.getElem?_append_right hj] at hq
   have hj0:j - t.nx.length=0:=by
    have:=(List.getElem?_eq_some_iff.1 hq).1
    simp at this
    omega
   rw [hj0] at hq
   have hqr:r=q:=by simpa using hq
   subst hqr
   refine ⟨g,c, ?_,owns_other hr hg (hty hr (by decide))⟩
   rw [List.getElem?_append_right (by omega),hl,hj0]
   rfl
 ·rcases List.mem_append.1 hv' with h1|h1
  ·exact h.rf v h1
  ·rw [List.mem_singleton.1 h1]
   exact fun e=>hF e.symm
 ·rw [List.pairwise_append]
  refine ⟨h.rr,by simp,fun a ha b hb=> ?_⟩
  rw [List.mem_singleton.1 hb]
  exact hv a ha
theorem TbW.read {w:World} {base:Nat} {ao fo no:Option Addr} {na ac nf fc nn nc:Nat} {t:Tb} {rv:List Value} (h:TbW w base (.slice ao na ac) (.slice fo nf fc) (.slice no nn nc) t rv) (hl:t.acts.length≤1000∧t.nx.length≤1000∧t.fl.length≤1000∧ ∀r∈t.nx,r.length≤1000):TbI w ao fo no ac t.z∧na=t.acts.length∧nf=t.fl.length∧nn=t.nx.length:=by
 have len: ∀{e n k c:Nat} {o:Option Addr} {xs:List Value},w.ownsRow base e 1 (.slice o n c) k xs→n=k∧k≤c:=fun {e n k c o xs} ho=>by
  obtain ⟨_,⟨hv,hn⟩|⟨g,cap,cur,hv,_,_,hle,_⟩⟩:=ho
  ·cases hv;exact ⟨hn.symm,by omega⟩
  ·cases hv;exact ⟨rfl,hle⟩
 obtain ⟨e1,k1⟩:=len h.acts
 obtain ⟨e2,_⟩:=len h.fl
 obtain ⟨e3,_⟩:=len h.nx
 subst e1;subst e2;subst e3
 refine ⟨⟨fun j x hx=> ?_,fun j x hx=> ?_,fun j r hr=> ?_,k1, ?_, ?_, ?_,fun r hr=> ?_⟩,rfl,rfl,rfl⟩
 ·have hx':t.acts[j]? =some x:=hx
  have hj:=(List.getElem?_eq_some_iff.1 hx').1
  obtain ⟨g,h1,h2,h3⟩:=owns1_at h.acts hj
  exact ⟨g,0,h1,h2,by rw [Nat.zero_add,h3];unfold strsC;rw [List.getElem?_map,hx'];rfl⟩
 ·have hx':(zI t.fl)[j]? =some x:=hx
  unfold zI at hx'
  rw [List.getElem?_map] at hx'
  cases e:t.fl[j]? with
  |none=>rw [e] at hx';cases hx'
  |some f=>
   rw [e] at hx'
   have hf:(f:Int)=x:=Option.some.inj hx'
   have hj:=(List.getElem?_eq_some_iff.1 e).1
   obtain ⟨g,h1,h2,h3⟩:=owns1_at h.fl hj
   exact ⟨g,0,h1,h2,by rw [Nat.zero_add,h3,←hf];unfold intC;rw [List.getElem?_map,e];rfl⟩
 ·have hr':(t.nx.map zI)[j]? =some r:=hr
  rw [List.getElem?_map] at hr'
  cases e:t.nx[j]? with
  |none=>rw [e] at hr';cases hr'
  |some q=>
   rw [e] at hr'
   have hq:zI q=r:=Option.some.inj hr'
   subst hq
   have hj:=(List.getElem?_eq_some_iff.1 e).1
   obtain ⟨g,h1,h2,h3⟩:=owns1_at h.nx hj
   obtain ⟨g2,c2,h4,h5⟩:=h.rows j q e
   refine ⟨g,0,some ⟨g2,0,none⟩,c2,h1,h2,by rw [Nat.zero_add,h3,h4];unfold zI;rw [List.length_map],fun i x hx=> ?_⟩
   unfold zI at hx
   rw [List.getElem?_map] at hx
   cases e2:q[i]? with
   |none=>rw [e2] at hx;cases hx
   |some y=>
    rw [e2] at hx
    have hy:(y:Int)=x:=Option.some.inj hx
    obtain ⟨g3,k1,k2,k3⟩:=owns1_at h5 (List.getElem?_eq_some_iff.1 e2).1
    cases k1
    exact ⟨g2,0,rfl,k2,by rw [Nat.zero_add,k3,←hy];unfold intC;rw [List.getElem?_map,e2];rfl⟩
 ·have:=hl.1;show t.acts.length≤_;omega
 ·show (zI t.fl).length≤_;unfold zI;rw [List.length_map];have:=hl.2.2.1;omega
 ·show (t.nx.map zI).length≤_;rw [List.length_map];have:=hl.2.1;omega
 ·have hr':r∈t.nx.map zI:=hr
  obtain ⟨q,hq,rfl⟩:=List.mem_map.1 hr'
  have:=hl.2.2.2 q hq
  unfold zI
  rw [List.length_map]
  omega
structure TR (w W:World) (rb tb:Nat) (A F X:Value) (t:Tb) (rv:List Value) (l:List UInt8):Prop where
 res:W.heap[w.heap.size]? =some (.cells #[.slice none 0 0,.slice none 0 0,.slice none 0 0] 36 (0,0))
 blk:W.heap[tb]? =some (.cells #[A,F,X] 36 (0,0))
 htb:w.heap.size<tb
 hrb:rb<w.heap.size
 rd:RdA W rb l
 gr:w.grownBy W (some rb)
 tab:TbW W w.heap.size A F X t rv
theorem RdF.tabs {w W:World} {rb:Nat} {l:List UInt8} {base:Nat} {A F X:Value} {t:Tb} {rv:List Value} (hf:RdF rb l w W) (h:TbW w base A F X t rv) {l0:List UInt8} (h0:RdA w rb l0):TbW W base A F X t rv:=
 h.other hf.gr fun b hb c m=>by
  cases hb
  obtain ⟨s,_,hs⟩:=h0
  rw [hs]
  refine ⟨?_, ?_, ?_⟩<;>(intro e;injection e with e;injection e with _ e _;revert e;decide)
theorem TR.read {w W W':World} {rb tb:Nat} {A F X:Value} {t:Tb} {rv:List Value} {l l':List UInt8} (h:TR w W rb tb A F X t rv l) (hf:RdF rb l' W W'):TR w W' rb tb A F X t rv l':=
 ⟨(hf.gr.block _ (lt_of_blk h.res) (fun e=>by cases e;have:=h.hrb;omega)).trans h.res,(hf.gr.block _ (lt_of_blk h.blk) (fun e=>by cases e;have:=h.hrb;have:=h.htb;omega)).trans h.blk,h.htb,h.hrb,hf.at',h.gr.trans hf.gr,hf.tabs h.tab h.rd⟩
theorem TR.later {w W W':World} {rb tb:Nat} {A F X:Value} {t:Tb} {rv:List Value} {l:List UInt8} (h:TR w W rb tb A F X t rv l) (hb:Below W.heap.size W W'):TR w W' rb tb A F X t rv l:=
 ⟨(hb.block _ (lt_of_blk h.res)).trans h.res,(hb.block _ (lt_of_blk h.blk)).trans h.blk,h.htb,h.hrb,h.rd.later hb,h.gr.trans (grown_below hb _),h.tab.later hb⟩
theorem TR.grow {w W W':World} {rb tb:Nat} {A F X A' F' X' V:Value} {t t':Tb} {rv rv':List Value} {l:List UInt8} (h:TR w W rb tb A F X t rv l) {e n:Nat} {xs:List Value} (hV:W.ownsRow w.heap.size e 1 V n xs) (hg:W.grownBy W' V.ownBlock) (he:e=9∨e=3∨e=33)
  (ht:TbW W' w.heap.size A' F' X' t' rv') (i:Nat) (v:Value) (hc:(#[A,F,X]:Array Value).setIfInBounds i v= #[A',F',X']):TR w (W'.setCell ⟨tb,i,none⟩ v) rb tb A' F' X' t' rv' l:=by
 have hty: ∀{b ty:Nat} {c:Array Value},W.heap[b]? =some (.cells c ty (0,0))→ty≠9∧ty≠3∧ty≠33→some b≠V.ownBlock:=fun {b ty c} hb hne e1=>by
  rcases he with rfl|rfl|rfl
  ·exact own_ty hV e1.symm hb hne.1
  ·exact own_ty hV e1.symm hb hne.2.1
  ·exact own_ty hV e1.symm hb hne.2.2
 have hres:=(hg.block _ (lt_of_blk h.res) (hty h.res (by decide))).trans h.res
 have hblk:=(hg.block _ (lt_of_blk h.blk) (hty h.blk (by decide))).trans h.blk
 have hrd:RdA W' rb l:=by
  obtain ⟨s,h1,h2⟩:=h.rd
  exact ⟨s,h1,(hg.block _ (lt_of_blk h2) (hty h2 (by decide))).trans h2⟩
 have hne:w.heap.size≠tb:=by have:=h.htb;omega
 refine ⟨(Below.heap_setCell _ _ _ _ hne).trans hres, ?_,h.htb,h.hrb, ?_, ?_, ?_⟩
 ·have:=blk_set hblk i v
  rw [hc] at this
  exact this
 ·exact hrd.keep (grown_set _ _ _ _) (fun e=>by cases e;have:=h.hrb;have:=h.htb;omega)
 ·refine ⟨hg.os.trans h.gr.os,hg.tape.trans h.gr.tape,hg.output.trans h.gr.output, ?_,fun k hk hk2=> ?_⟩
  ·have:=h.gr.size;have:=hg.size;simp [World.setCell];omega
  ·refine (Below.heap_setCell _ _ _ _ (by show k≠tb;have:=h.htb;omega)).trans ((hg.block k (Nat.lt_of_lt_of_le hk h.gr.size) (fun e=> ?_)).trans (h.gr.block k hk hk2))
   have:=(own_lt hV k e.symm).1
   omega
 ·refine ht.other (grown_set _ _ _ _) (fun b hb c m=> ?_)
  cases hb
  rw [hblk]
  refine ⟨?_, ?_, ?_⟩<;>(intro e;injection e with e;injection e with _ e _;revert e;decide)
theorem Tryz.infoStrT:(Tryz.prog.info? 9).map (fun i=>(i.zero,i.size,i.bytes))=some (some (.string ⟨#[]⟩),1,16):=by kernel_rfl
theorem Tryz.infoRowT:(Tryz.prog.info? 33).map (fun i=>(i.zero,i.size,i.bytes))=some (some (.slice none 0 0),1,24):=by kernel_rfl
theorem TR.start {w W:World} {rb tb:Nat} {l:List UInt8} (h1:W.heap[w.heap.size]? =some (.cells #[.slice none 0 0,.slice none 0 0,.slice none 0 0] 36 (0,0))) (h2:W.heap[tb]? =some (.cells #[.slice none 0 0,.slice none 0 0,.slice none 0 0] 36 (0,0))) (h3:w.heap.size<tb) (h4:rb<w.heap.size) (h5:RdA W rb l) (h6:w.grownBy W (some rb)):
  TR w W rb tb (.slice none 0 0) (.slice none 0 0) (.slice none 0 0) ⟨[],[],[]⟩ [] l:=
 ⟨h1,h2,h3,h4,h5,h6,⟨World.ownsRow_nil _ _ _ _,World.ownsRow_nil _ _ _ _,World.ownsRow_nil _ _ _ _,fun j r hr=>by simp at hr,fun v hv=>by simp at hv,List.Pairwise.nil⟩⟩
def RdTab (w:World) (rb:Nat) (t:Tb) (w':World) (e:Ending):Prop:= ∃A F X rv,e= .returned (.agg #[A,F,X])∧TbW w' w.heap.size A F X t rv∧w.grownBy w' (some rb)
theorem numB_few {l:List UInt8} {n:Nat} (h:l.length≤n):(numB l).2.length≤n:=Nat.le_trans (numB_len l) h
theorem txtB_few {l:List UInt8} {n k:Nat} (h:l.length≤n):(txtB k l).2.length≤n:=by unfold txtB;simp;omega
theorem actsP_few {n:Nat}: ∀(k:Nat) {l:List UInt8},l.length≤n→(actsP k l).2.length≤n
 |0,_,h=>h
 |k+1,_,h=>by rw [actsP];exact actsP_few k (txtB_few (numB_few h))
set_option maxHeartbeats 4000000 in
set_option maxRecDepth 100000 in
theorem rdtable_any (w:World) (rb:Nat) (l:List UInt8) (h:RdA w rb l) (hl:l.length≤1000):
  Calls Tryz.prog 89 #[.pointer (some ⟨rb,0,none⟩)] w fun e w'=>RdTab w rb (parB l) w' e:=by
 obtain ⟨i0,hi0,hz0,hz1,hz2⟩:=info_parts Tryz.infoStrT
 obtain ⟨j0,hj0,hy0,hy1,hy2⟩:=info_parts Tryz.infoI64
 obtain ⟨k0,hk0,hx0,hx1,hx2⟩:=info_parts Tryz.infoRowT
 have hrb:=h.lt
 have HA:=hide h
 have hB:Below w.heap.size w (w.alloc (.cells #[.slice none 0 0,.slice none 0 0,.slice none 0 0] 36)):=(Below.refl _ _).alloc (Nat.le_refl _) _
 have HR0:=hide (h.later hB)
 have HB:=hide hB
 have HBL:=hide (blk_alloc w (.cells #[.slice none 0 0,.slice none 0 0,.slice none 0 0] 36))
 clear h hB
 go_enter Tryz.func89,Tryz.ntmps89
 go_wp2_with (go_at_call 134;refine (rdtext_any _ rb l 2 (unhide HR0) hl (by decide)).mono ?_)
 rintro e w1 ⟨rfl,hf1⟩
 generalize hW0:w.alloc (.cells #[.slice none 0 0,.slice none 0 0,.slice none 0 0] 36)=W0 at *
 have hsz0:w.heap.size<W0.heap.size:=lt_of_blk (unhide HBL)
 have hb1:=(hf1.gr.block _ (lt_of_blk (unhide HBL)) (fun e=>by cases e;omega)).trans (unhide HBL)
 have hl2:(txtB 2 l).2=l.drop 2:=rfl
 have HT0:Hid (TR w (w1.alloc (.cells #[.slice none 0 0,.slice none 0 0,.slice none 0 0] 36)) rb w1.heap.size (.slice none 0 0) (.slice none 0 0) (.slice none 0 0) ⟨[],[],[]⟩ [] (l.drop 2)):=by
  have hbb:Below w1.heap.size w1 (w1.alloc (.cells #[.slice none 0 0,.slice none 0 0,.slice none 0 0] 36)):=(Below.refl _ _).alloc (Nat.le_refl _) _
  refine TR.start ((hbb.block _ (lt_of_blk hb1)).trans hb1) (blk_alloc _ _) (Nat.lt_of_lt_of_le hsz0 hf1.gr.size) hrb (hf1.at'.later hbb) ?_
  exact ((grown_below (unhide HB) _).trans hf1.gr).trans (grown_below hbb _)
 clear hb1 hf1 hl2 hW0
 go_wp2_with (go_at_call 135;refine (rdnumber_any _ rb _ (unhide HT0).rd).mono ?_)
 rintro e w2 ⟨rfl,hf2⟩
 have HT1:=hide ((unhide HT0).read hf2)
 have htb:w.heap.size<w1.heap.size:=(unhide HT0).htb
 clear hf2
 generalize w1.heap.size=tb at *
 generalize hn1:(numB (l.drop 2)).1=n1 at *
 generalize hl1:(numB (l.drop 2)).2=l1 at *
 have hn256:n1<256:=by rw [←hn1];exact numB_lt _
 have hl1f:l1.length≤1000:=by rw [←hl1];exact numB_few (by simp;omega)
 have HP1:Hid (parA l=actsP n1 l1):=by show _=_;unfold parA;rw [hn1,hl1]
 clear hn1 hl1
 go_wp2_with fail
 go_loopw [8] (fun x wr=> ∃(k:Nat) (ao:Option Addr) (ac:Nat),k≤n1∧x= .int .i64 k∧Hid (TR w wr rb tb (.slice ao k ac) (.slice none 0 0) (.slice none 0 0) ⟨(actsP k l1).1,[],[]⟩ [] (actsP k l1).2)) (fun x _=>n1 - (intOf x).toNat)
 case atStart=>exact ⟨0,none,0,Nat.zero_le _,rfl,HT1⟩
 case round=>
  obtain ⟨k,ao,ac,hk,rfl,HT⟩:=hrel
  have hc0:wr.cell? ⟨tb,0,none⟩=some (.slice ao k ac):=cell_of_blk (unhide HT).blk 0
  have htl:=lt_of_blk (unhide HT).blk
  have hfew:=actsP_few k hl1f
  by_cases hlt:k<n1
  ·have hkn:(k:Int)<(n1:Int):=by omega
   go_wp2_with fail
   refine wp_region_any (by kernel_rfl) ?_
   change wpAny _ _ _ _ _ _ _ (World.drew _)
   refine wpAny_take (i:=0) (v:= .pointer (some ⟨tb,0,none⟩)) rfl (by kernel_rfl) (by kernel_rfl) (by kernel_rfl) (fun _ _ _ h=>h) (Or.inl ⟨by kernel_rfl,fun w=>by go_simp⟩) ?_
   try simp only [Act.put,List.setIfInBounds_toArray,List.set_cons_zero,List.set_cons_succ,List.getElem_toArray,List.getElem_cons_succ,List.getElem_cons_zero]
   refine wpAny_take (i:=2) (v:= .pointer (some ⟨rb,0,none⟩)) rfl (by kernel_rfl) (by kernel_rfl) (by kernel_rfl) (fun _ _ _ h=>h) (Or.inl ⟨by kernel_rfl,fun w=>by go_simp⟩) ?_
   try simp only [Act.put,List.setIfInBounds_toArray,List.set_cons_zero,List.set_cons_succ,List.getElem_toArray,List.getElem_cons_succ,List.getElem_cons_zero]
   refine wpAny_take (i:=3) (v:= .pointer (some ⟨rb,0,none⟩)) rfl (by kernel_rfl) (by kernel_rfl) (by kernel_rfl) (fun _ _ _ h=>h) (Or.inl ⟨by kernel_rfl,fun w=>by go_simp⟩) ?_
   try simp only [Act.put,List.setIfInBounds_toArray,List.set_cons_zero,List.set_cons_succ,List.getElem_toArray,List.getElem_cons_succ,List.getElem_cons_zero]
   have HTD:=hide ((unhide HT).later (W':=wr.drew) ((Below.refl _ _).drew))
   clear hc0 htl
   refine (fun hG=> ?main) (?suf: ∀w4:World,Hid (TR w w4 rb tb (.slice ao k ac) (.slice none 0 0) (.slice none 0 0) ⟨(actsP k l1).1,[],[]⟩ [] (txtB (numB (actsP k l1).2).1 (numB (actsP k l1).2).2).2)→(?G:World→Prop) w4)
   case main=>
    refine wpAny_ready (rs:=[1,4]) (by kernel_rfl) (by simp) ?_
    refine AllReady.cons rfl (fun K hK=> ?_) (AllReady.cons rfl (fun K hK=> ?_) AllReady.nil)
    ·have hcl:World.cell? _ ⟨tb,0,none⟩=some (Value.slice ao k ac):=cell_of_blk (unhide HTD).blk 0
     have htl:=lt_of_blk (unhide HTD).blk
     go_simp
     refine hK _ _ ?_
     clear hK K
     try simp only [Act.put,List.setIfInBounds_toArray,List.set_cons_zero,List.set_cons_succ,List.getElem_toArray,List.getElem_cons_succ,List.getElem_cons_zero]
     clear hcl htl
     refine wpAny_ready (rs:=[4]) (by kernel_rfl) (by simp) ?_
     refine AllReady.cons rfl (fun K hK=> ?_) AllReady.nil
     go_simp
     refine (rdnumber_any _ rb _ (unhide HTD).rd).mono ?_
     rintro e w3 ⟨rfl,hf3⟩
     have HT3:=hide ((unhide HTD).read hf3)
     refine hK _ _ ?_
     clear hK K hf3
     try simp only [Act.put,List.setIfInBounds_toArray,List.set_cons_zero,List.set_cons_succ,List.getElem_toArray,List.getElem_cons_succ,List.getElem_cons_zero]
     refine wpAny_ready (rs:=[5]) (by kernel_rfl) (by simp) ?_
     refine AllReady.cons rfl (fun K hK=> ?_) AllReady.nil
     go_simp
     refine (rdtext_any _ rb _ _ (unhide HT3).rd (numB_few hfew) (Nat.le_of_lt (Nat.lt_of_lt_of_le (numB_lt _) (by decide)))).mono ?_
     rintro e w4 ⟨rfl,hf4⟩
     have HT4:=hide ((unhide HT3).read hf4)
     refine hK _ _ ?_
     clear hK K hf4
     try simp only [Act.put,List.setIfInBounds_toArray,List.set_cons_zero,List.set_cons_succ,List.getElem_toArray,List.getElem_cons_succ,List.getElem_cons_zero]
     refine wpAny_ready (rs:=[6]) (by kernel_rfl) (by simp) ?_
     refine AllReady.cons rfl (fun K hK=> ?_) AllReady.nil
     go_simp
     refine hK _ _ ?_
     clear hK K
     try simp only [Act.put,List.setIfInBounds_toArray,List.set_cons_zero,List.set_cons_succ,List.getElem_toArray,List.getElem_cons_succ,List.getElem_cons_zero]
     exact hG w4 HT4
    ·go_simp
     refine (rdnumber_any _ rb _ (unhide HTD).rd).mono ?_
     rintro e w3 ⟨rfl,hf3⟩
     have HT3:=hide ((unhide HTD).read hf3)
     refine hK _ _ ?_
     clear hK K hf3
     try simp only [Act.put,List.setIfInBounds_toArray,List.set_cons_zero,List.set_cons_succ,List.getElem_toArray,List.getElem_cons_succ,List.getElem_cons_zero]
     refine wpAny_ready (rs:=[1,5]) (by kernel_rfl) (by simp) ?_
     refine AllReady.cons rfl (fun K hK=> ?_) (AllReady.cons rfl (fun K hK=> ?_) AllReady.nil)
     ·have hcl:World.cell? _ ⟨tb,0,none⟩=some (Value.slice ao k ac):=cell_of_blk (unhide HT3).blk 0
      have htl:=lt_of_blk (unhide HT3).blk
      go_simp
      refine hK _ _ ?_
      clear hK K
      try simp only [Act.put,List.setIfInBounds_toArray,List.set_cons_zero,List.set_cons_succ,List.getElem_toArray,List.getElem_cons_succ,List.getElem_cons_zero]
      clear hcl htl
      refine wpAny_ready (rs:=[5]) (by kernel_rfl) (by simp) ?_
      refine AllReady.cons rfl (fun K hK=> ?_) AllReady.nil
      go_simp
      refine (rdtext_any _ rb _ _ (unhide HT3).rd (numB_few hfew) (Nat.le_of_lt (Nat.lt_of_lt_of_le (numB_lt _) (by decide)))).mono ?_
      rintro e w4 ⟨rfl,hf4⟩
      have HT4:=hide ((unhide HT3).read hf4)
      refine hK _ _ ?_
      clear hK K hf4
      try simp only [Act.put,List.setIfInBounds_toArray,List.set_cons_zero,List.set_cons_succ,List.getElem_toArray,List.getElem_cons_succ,List.getElem_cons_zero]
      refine wpAny_ready (rs:=[6]) (by kernel_rfl) (by simp) ?_
      refine AllReady.cons rfl (fun K hK=> ?_) AllReady.nil
      go_simp
      refine hK _ _ ?_
      clear hK K
      try simp only [Act.put,List.setIfInBounds_toArray,List.set_cons_zero,List.set_cons_succ,List.getElem_toArray,List.getElem_cons_succ,List.getElem_cons_zero]
      exact hG w4 HT4
     ·go_simp
      refine (rdtext_any _ rb _ _ (unhide HT3).rd (numB_few hfew) (Nat.le_of_lt (Nat.lt_of_lt_of_le (numB_lt _) (by decide)))).mono ?_
      rintro e w4 ⟨rfl,hf4⟩
      have HT4:=hide ((unhide HT3).read hf4)
      refine hK _ _ ?_
      clear hK K hf4
      try simp only [Act.put,List.setIfInBounds_toArray,List.set_cons_zero,List.set_cons_succ,List.getElem_toArray,List.getElem_cons_succ,List.getElem_cons_zero]
      refine wpAny_ready (rs:=[1,6]) (by kernel_rfl) (by simp) ?_
      refine AllReady.cons rfl (fun K hK=> ?_) (AllReady.cons rfl (fun K hK=> ?_) AllReady.nil)
      ·have hcl:World.cell? _ ⟨tb,0,none⟩=some (Value.slice ao k ac):=cell_of_blk (unhide HT4).blk 0
       have htl:=lt_of_blk (unhide HT4).blk
       go_simp
       refine hK _ _ ?_
       clear hK K
       try simp only [Act.put,List.setIfInBounds_toArray,List.set_cons_zero,List.set_cons_succ,List.getElem_toArray,List.getElem_cons_succ,List.getElem_cons_zero]
       clear hcl htl
       refine wpAny_ready (rs:=[6]) (by kernel_rfl) (by simp) ?_
       refine AllReady.cons rfl (fun K hK=> ?_) AllReady.nil
       go_simp
       refine hK _ _ ?_
       clear hK K
       try simp only [Act.put,List.setIfInBounds_toArray,List.set_cons_zero,List.set_cons_succ,List.getElem_toArray,List.getElem_cons_succ,List.getElem_cons_zero]
       exact hG w4 HT4
      ·go_simp
       refine hK _ _ ?_
       clear hK K
       try simp only [Act.put,List.setIfInBounds_toArray,List.set_cons_zero,List.set_cons_succ,List.getElem_toArray,List.getElem_cons_succ,List.getElem_cons_zero]
       refine wpAny_ready (rs:=[1]) (by kernel_rfl) (by simp) ?_
       refine AllReady.cons rfl (fun K hK=> ?_) AllReady.nil
       have hcl:World.cell? _ ⟨tb,0,none⟩=some (Value.slice ao k ac):=cell_of_blk ((unhide HT4).later ((Below.refl _ _).alloc (Nat.le_refl _) (.cells #[.string (txtB (numB (actsP k l1).2).1 (numB (actsP k l1).2).2).1] 9))).blk 0
       have htl:=lt_of_blk ((unhide HT4).later ((Below.refl _ _).alloc (Nat.le_refl _) (.cells #[.string (txtB (numB (actsP k l1).2).1 (numB (actsP k l1).2).2).1] 9))).blk
       go_simp
       refine hK _ _ ?_
       clear hK K
       try simp only [Act.put,List.setIfInBounds_toArray,List.set_cons_zero,List.set_cons_succ,List.getElem_toArray,List.getElem_cons_succ,List.getElem_cons_zero]
       clear hcl htl
       exact hG w4 HT4
   case suf=>
    intro w4 HT4
    have hlk:(actsP k l1).1.length=k:=actsP_len k l1
    have HS:=hide (actsP_snoc k l1)
    have h4l:=lt_of_blk (unhide HT4).res
    refine wpAny_ready (rs:=[7]) (by kernel_rfl) (by simp) ?_
    refine AllReady.cons rfl (fun K hK=> ?_) AllReady.nil
    refine step_append_lies _ (by rfl) _ _ 25 (by rfl) w.heap.size 9 i0 (.string ⟨#[]⟩) 1 16 Tryz.underlying25 hi0 hz0 hz1 hz2 rfl (by decide) (.slice ao k ac) k (strsC (actsP k l1).1) (by rfl) ?c0 ⟨w4.heap.size,0,none⟩ 1 1 [.string (txtB (numB (actsP k l1).2).1 (numB (actsP k l1).2).2).1] (by rfl) rfl ?c1 ?c2 (by decide) ?c3 ?c4 ?c5 (w4.heap.size+1) ?c6 ?_
    case c0=>have:=(unhide HT4).tab.acts;simp only [hlk] at this;exact this.alloc _
    case c1=>
     intro j u hj
     match j,hj with
     |0,hj=>simp at hj;subst hj;simp [Addr.add]
     |j+1,hj=>simp at hj
    case c2=>intro u hu;simp at hu;subst hu;rfl
    case c3=>unfold maxLen;omega
    case c4=>omega
    case c5=>simp;omega
    case c6=>simp
    intro g5 cap5 w5 hown hgrow hat hgl
    have hall:TbW (w4.alloc (.cells #[.string (txtB (numB (actsP k l1).2).1 (numB (actsP k l1).2).2).1] 9)) w.heap.size (.slice ao k ac) (.slice none 0 0) (.slice none 0 0) ⟨(actsP k l1).1,[],[]⟩ []:=(unhide HT4).tab.later ((Below.refl _ _).alloc (Nat.le_refl _) _)
    have htra:=(unhide HT4).later ((Below.refl _ _).alloc (Nat.le_refl _) (.cells #[.string (txtB (numB (actsP k l1).2).1 (numB (actsP k l1).2).2).1] 9))
    have htab:=hall.act (A':= .slice (some ⟨g5,0,none⟩) (k+1) cap5) (s:=(txtB (numB (actsP k l1).2).1 (numB (actsP k l1).2).2).1) (by simp only [hlk];exact hown) hgrow
    have hblk:=(hgrow.block tb (lt_of_blk htra.blk) (fun e=>own_ty hall.acts e.symm htra.blk (by decide))).trans htra.blk
    have HT5:Hid (TR w (w5.setCell ⟨tb,0,none⟩ (.slice (some ⟨g5,0,none⟩) (k+1) cap5)) rb tb (.slice (some ⟨g5,0,none⟩) (k+1) cap5) (.slice none 0 0) (.slice none 0 0) ⟨(actsP (k+1) l1).1,[],[]⟩ [] (actsP (k+1) l1).2):=by
     rw [unhide HS]
     exact htra.grow hall.acts hgrow (Or.inl rfl) htab 0 _ rfl
    have hc5:w5.cell? ⟨tb,0,none⟩=some (.slice ao k ac):=cell_of_blk hblk 0
    have hf5:=frozen_of_blk hblk 0
    have hl5:=lt_of_blk hblk
    refine hK _ _ ?_
    clear hK K hall htra htab hblk hown hgrow hat hgl
    try simp only [Act.put,List.setIfInBounds_toArray,List.set_cons_zero,List.set_cons_succ,List.getElem_toArray,List.getElem_cons_succ,List.getElem_cons_zero]
    refine wpAny_take (i:=8) (v:= .pointer (some ⟨tb,0,none⟩)) rfl (by kernel_rfl) (by kernel_rfl) (by kernel_rfl) (fun _ _ _ h=>h) (Or.inl ⟨by kernel_rfl,fun w=>by go_simp⟩) ?_
    try simp only [Act.put,List.setIfInBounds_toArray,List.set_cons_zero,List.set_cons_succ,List.getElem_toArray,List.getElem_cons_succ,List.getElem_cons_zero]
    refine wpAny_ready (rs:=[9]) (by kernel_rfl) (by simp) ?_
    refine AllReady.cons rfl (fun K hK=> ?_) AllReady.nil
    go_simp
    refine hK _ _ ?_
    clear hK K hc5 hf5 hl5 h4l
    refine wpAny_done (by kernel_rfl) ?_ _
    go_wp2_with fail
    go_roundw
    case rel=>exact ⟨k+1,some ⟨g5,0,none⟩,cap5,by omega,by go_num,HT5⟩
    case measure=>simp [intOf];omega
  ·have hkn:¬ (k:Int)<(n1:Int):=by omega
   have hke:k=n1:=by omega
   subst hke
   have HPA:Hid (parA l=actsP k l1):=HP1
   have hlk:(actsP k l1).1.length=k:=actsP_len k l1
   have HLK:=hide hlk
   have hbb: ∀W:World,Below W.heap.size W W:=fun W=>Below.refl _ _
   clear hc0 htl hlk hbb
   have HN2:=hide (rdnumber_any wr rb _ (unhide HT).rd)
   go_wp2_with fail
   refine (unhide HN2).mono ?_
   rintro e w5 ⟨rfl,hf5⟩
   have HT5:=hide ((unhide HT).read hf5)
   clear hf5
   have HPB:Hid (parB l=⟨(actsP k l1).1,(rowsP k (numB (actsP k l1).2).1 (numB (actsP k l1).2).2).1.1,(rowsP k (numB (actsP k l1).2).1 (numB (actsP k l1).2).2).1.2⟩):=by
    show _=_
    unfold parB
    rw [unhide HPA,unhide HLK]
   have hn2f:(numB (actsP k l1).2).1<256:=numB_lt _
   have hl2f:(numB (actsP k l1).2).2.length≤1000:=numB_few hfew
   generalize (numB (actsP k l1).2).1=n2 at *
   generalize (numB (actsP k l1).2).2=l2 at *
   generalize (actsP k l1).1=acts at *
   clear hfew HN2
   go_wp2_with fail
   clear HT HP1 HT0 HT1
   rename World=>wR
   go_loopw [22] (fun x wr=> ∃(q:Nat) (fo:Option Addr) (fc:Nat) (xo:Option Addr) (xc:Nat) (rv:List Value),q≤n2∧x= .int .i64 q∧Hid (TR w wr rb tb (.slice ao k ac) (.slice fo q fc) (.slice xo q xc) ⟨acts,(rowsP k q l2).1.1,(rowsP k q l2).1.2⟩ rv (rowsP k q l2).2)) (fun x _=>n2 - (intOf x).toNat)
   case atStart=>exact ⟨0,none,0,none,0,[],Nat.zero_le _,rfl,HT5⟩
   case round=>
    obtain ⟨q,fo,fc,xo,xc,rv,hq,rfl,HT⟩:=hrel
    by_cases hlt:q<n2
    ·have hqn:(q:Int)<(n2:Int):=by omega
     have hlen:=rowsP_len k q l2
     have HSN:=hide (rowsP_snoc k q l2)
     generalize hr0:(rowsP k q l2).2=r0 at *
     generalize hf0:(rowsP k q l2).1.1=fl0 at *
     generalize hx0':(rowsP k q l2).1.2=nx0 at *
     clear hr0 hf0 hx0'
     obtain ⟨hlf,hln⟩:=hlen
     go_wp2_with fail
     refine wp_region_any (by kernel_rfl) ?_
     change wpAny _ _ _ _ _ _ _ (World.drew _)
     refine wpAny_take (i:=0) (v:= .pointer (some ⟨tb,1,none⟩)) rfl (by kernel_rfl) (by kernel_rfl) (by kernel_rfl) (fun _ _ _ h=>h) (Or.inl ⟨by kernel_rfl,fun w=>by go_simp⟩) ?_
     try simp only [Act.put,List.setIfInBounds_toArray,List.set_cons_zero,List.set_cons_succ,List.getElem_toArray,List.getElem_cons_succ,List.getElem_cons_zero]
     refine wpAny_take (i:=2) (v:= .pointer (some ⟨rb,0,none⟩)) rfl (by kernel_rfl) (by kernel_rfl) (by kernel_rfl) (fun _ _ _ h=>h) (Or.inl ⟨by kernel_rfl,fun w=>by go_simp⟩) ?_
     try simp only [Act.put,List.setIfInBounds_toArray,List.set_cons_zero,List.set_cons_succ,List.getElem_toArray,List.getElem_cons_succ,List.getElem_cons_zero]
     have HTD:=hide ((unhide HT).later (W':=wr.drew) ((Below.refl _ _).drew))
     refine (fun hG=> ?main1) (?suf1: ∀w3:World,Hid (TR w w3 rb tb (.slice ao k ac) (.slice fo q fc) (.slice xo q xc) ⟨acts,fl0,nx0⟩ rv (numB r0).2)→(?G1:World→Prop) w3)
     case main1=>
      refine wpAny_ready (rs:=[1,3]) (by kernel_rfl) (by simp) ?_
      refine AllReady.cons rfl (fun K hK=> ?_) (AllReady.cons rfl (fun K hK=> ?_) AllReady.nil)
      ·have hcl:World.cell? _ ⟨tb,1,none⟩=some (Value.slice fo q fc):=cell_of_blk (unhide HTD).blk 1
       have htl:=lt_of_blk (unhide HTD).blk
       go_simp
       refine hK _ _ ?_
       clear hK K
       try simp only [Act.put,List.setIfInBounds_toArray,List.set_cons_zero,List.set_cons_succ,List.getElem_toArray,List.getElem_cons_succ,List.getElem_cons_zero]
       clear hcl htl
       refine wpAny_ready (rs:=[3]) (by kernel_rfl) (by simp) ?_
       refine AllReady.cons rfl (fun K hK=> ?_) AllReady.nil
       go_simp
       refine (rdnumber_any _ rb _ (unhide HTD).rd).mono ?_
       rintro e w3 ⟨rfl,hf3⟩
       have HT3:=hide ((unhide HTD).read hf3)
       refine hK _ _ ?_
       clear hK K hf3
       try simp only [Act.put,List.setIfInBounds_toArray,List.set_cons_zero,List.set_cons_succ,List.getElem_toArray,List.getElem_cons_succ,List.getElem_cons_zero]
       refine wpAny_ready (rs:=[4]) (by kernel_rfl) (by simp) ?_
       refine AllReady.cons rfl (fun K hK=> ?_) AllReady.nil
       go_simp
       refine hK _ _ ?_
       clear hK K
       try simp only [Act.put,List.setIfInBounds_toArray,List.set_cons_zero,List.set_cons_succ,List.getElem_toArray,List.getElem_cons_succ,List.getElem_cons_zero]
       exact hG w3 HT3
      ·go_simp
       refine (rdnumber_any _ rb _ (unhide HTD).rd).mono ?_
       rintro e w3 ⟨rfl,hf3⟩
       have HT3:=hide ((unhide HTD).read hf3)
       refine hK _ _ ?_
       clear hK K hf3
       try simp only [Act.put,List.setIfInBounds_toArray,List.set_cons_zero,List.set_cons_succ,List.getElem_toArray,List.getElem_cons_succ,List.getElem_cons_zero]
       refine wpAny_ready (rs:=[1,4]) (by kernel_rfl) (by simp) ?_
       refine AllReady.cons rfl (fun K hK=> ?_) (AllReady.cons rfl (fun K hK=> ?_) AllReady.nil)
       ·have hcl:World.cell? _ ⟨tb,1,none⟩=some (Value.slice fo q fc):=cell_of_blk (unhide HT3).blk 1
        have htl:=lt_of_blk (unhide HT3).blk
        go_simp
        refine hK _ _ ?_
        clear hK K
        try simp only [Act.put,List.setIfInBounds_toArray,List.set_cons_zero,List.set_cons_succ,List.getElem_toArray,List.getElem_cons_succ,List.getElem_cons_zero]
        clear hcl htl
        refine wpAny_ready (rs:=[4]) (by kernel_rfl) (by simp) ?_
        refine AllReady.cons rfl (fun K hK=> ?_) AllReady.nil
        go_simp
        refine hK _ _ ?_
        clear hK K
        try simp only [Act.put,List.setIfInBounds_toArray,List.set_cons_zero,List.set_cons_succ,List.getElem_toArray,List.getElem_cons_succ,List.getElem_cons_zero]
        exact hG w3 HT3
       ·go_simp
        refine hK _ _ ?_
        clear hK K
        try simp only [Act.put,List.setIfInBounds_toArray,List.set_cons_zero,List.set_cons_succ,List.getElem_toArray,List.getElem_cons_succ,List.getElem_cons_zero]
        refine wpAny_ready (rs:=[1]) (by kernel_rfl) (by simp) ?_
        refine AllReady.cons rfl (fun K hK=> ?_) AllReady.nil
        have hcl:World.cell? _ ⟨tb,1,none⟩=some (Value.slice fo q fc):=cell_of_blk ((unhide HT3).later ((Below.refl _ _).alloc (Nat.le_refl _) (.cells #[.int .i64 ((numB r0).1:Int)] 3))).blk 1
        have htl:=lt_of_blk ((unhide HT3).later ((Below.refl _ _).alloc (Nat.le_refl _) (.cells #[.int .i64 ((numB r0).1:Int)] 3))).blk
        go_simp
        refine hK _ _ ?_
        clear hK K
        try simp only [Act.put,List.setIfInBounds_toArray,List.set_cons_zero,List.set_cons_succ,List.getElem_toArray,List.getElem_cons_succ,List.getElem_cons_zero]
        clear hcl htl
        exact hG w3 HT3
     case suf1=>
      intro w3 HT3
      have h3l:=lt_of_blk (unhide HT3).res
      refine wpAny_ready (rs:=[5]) (by kernel_rfl) (by simp) ?_
      refine AllReady.cons rfl (fun K hK=> ?_) AllReady.nil
      refine step_append_lies _ (by rfl) _ _ 33 (by rfl) w.heap.size 3 j0 (.int .i64 0) 1 8 Tryz.underlying33 hj0 hy0 hy1 hy2 rfl (by decide) (.slice fo q fc) q (intC fl0) (by rfl) ?d0 ⟨w3.heap.size,0,none⟩ 1 1 [.int .i64 ((numB r0).1:Int)] (by rfl) rfl ?d1 ?d2 (by decide) ?d3 ?d4 ?d5 (w3.heap.size+1) ?d6 ?_
      case d0=>have:=(unhide HT3).tab.fl;simp only [hlf] at this;exact this.alloc _
      case d1=>
       intro j u hj
       match j,hj with
       |0,hj=>simp at hj;subst hj;simp [Addr.add]
       |j+1,hj=>simp at hj
      case d2=>intro u hu;simp at hu;subst hu;rfl
      case d3=>unfold maxLen;omega
      case d4=>omega
      case d5=>simp;omega
      case d6=>simp
      intro g5 cap5 w5 hown hgrow hat hgl
      have htra:=(unhide HT3).later ((Below.refl _ _).alloc (Nat.le_refl _) (.cells #[.int .i64 ((numB r0).1:Int)] 3))
      have htab:=htra.tab.flag (F':= .slice (some ⟨g5,0,none⟩) (q+1) cap5) (f:=(numB r0).1) (by simp only [hlf];exact hown) hgrow rfl (hat.imp id (fun h=>by simp;omega))
      have hblk:=(hgrow.block tb (lt_of_blk htra.blk) (fun e=>own_ty htra.tab.fl e.symm htra.blk (by decide))).trans htra.blk
      have HT5:=hide (htra.grow htra.tab.fl hgrow (Or.inr (Or.inl rfl)) htab 1 (.slice (some ⟨g5,0,none⟩) (q+1) cap5) rfl)
      have hc5:w5.cell? ⟨tb,1,none⟩=some (.slice fo q fc):=cell_of_blk hblk 1
      have hf5:=frozen_of_blk hblk 1
      have hl5:=lt_of_blk hblk
      refine hK _ _ ?_
      clear hK K htra htab hblk hown hgrow hat hgl
      try simp only [Act.put,List.setIfInBounds_toArray,List.set_cons_zero,List.set_cons_succ,List.getElem_toArray,List.getElem_cons_succ,List.getElem_cons_zero]
      refine wpAny_take (i:=6) (v:= .pointer (some ⟨tb,1,none⟩)) rfl (by kernel_rfl) (by kernel_rfl) (by kernel_rfl) (fun _ _ _ h=>h) (Or.inl ⟨by kernel_rfl,fun w=>by go_simp⟩) ?_
      try simp only [Act.put,List.setIfInBounds_toArray,List.set_cons_zero,List.set_cons_succ,List.getElem_toArray,List.getElem_cons_succ,List.getElem_cons_zero]
      refine wpAny_ready (rs:=[7]) (by kernel_rfl) (by simp) ?_
      refine AllReady.cons rfl (fun K hK=> ?_) AllReady.nil
      go_simp
      refine hK _ _ ?_
      clear hK K hc5 hf5 hl5 h3l
      refine wpAny_done (by kernel_rfl) ?_ _
      generalize w5.setCell ⟨tb,1,none⟩ (.slice (some ⟨g5,0,none⟩) (q+1) cap5)=w6 at *
      clear HT3
      go_wp2_with fail
      refine wp_region_any (by kernel_rfl) ?_
      change wpAny _ _ _ _ _ _ _ (World.drew _)
      refine wpAny_take (i:=0) (v:= .pointer (some ⟨tb,2,none⟩)) rfl (by kernel_rfl) (by kernel_rfl) (by kernel_rfl) (fun _ _ _ h=>h) (Or.inl ⟨by kernel_rfl,fun w=>by go_simp⟩) ?_
      try simp only [Act.put,List.setIfInBounds_toArray,List.set_cons_zero,List.set_cons_succ,List.getElem_toArray,List.getElem_cons_succ,List.getElem_cons_zero]
      refine wpAny_take (i:=2) (v:= .pointer (some ⟨rb,0,none⟩)) rfl (by kernel_rfl) (by kernel_rfl) (by kernel_rfl) (fun _ _ _ h=>h) (Or.inl ⟨by kernel_rfl,fun w=>by go_simp⟩) ?_
      try simp only [Act.put,List.setIfInBounds_toArray,List.set_cons_zero,List.set_cons_succ,List.getElem_toArray,List.getElem_cons_succ,List.getElem_cons_zero]
      refine wpAny_take (i:=3) (v:= .pointer (some ⟨tb,0,none⟩)) rfl (by kernel_rfl) (by kernel_rfl) (by kernel_rfl) (fun _ _ _ h=>h) (Or.inl ⟨by kernel_rfl,fun w=>by go_simp⟩) ?_
      try simp only [Act.put,List.setIfInBounds_toArray,List.set_cons_zero,List.set_cons_succ,List.getElem_toArray,List.getElem_cons_succ,List.getElem_cons_zero]
      have HTE:=hide ((unhide HT5).later (W':=w6.drew) ((Below.refl _ _).drew))
      refine (fun hG=> ?main2) (?suf2: ∀w7:World,Hid (TR w w7 rb tb (.slice ao k ac) (.slice (some ⟨g5,0,none⟩) (q+1) cap5) (.slice xo q xc) ⟨acts,fl0++[(numB r0).1],nx0⟩ rv (numsB k (numB r0).2).2)→Hid (w7.heap[w6.heap.size]? =some (.cells (rowC (numsB k (numB r0).2).1) 3 (0,0)))→(?G2:World→Prop) w7)
      case main2=>
       refine wpAny_ready (rs:=[1,4]) (by kernel_rfl) (by simp) ?_
       refine AllReady.cons rfl (fun K hK=> ?_) (AllReady.cons rfl (fun K hK=> ?_) AllReady.nil)
       ·have hcl:World.cell? _ ⟨tb,2,none⟩=some (Value.slice xo q xc):=cell_of_blk (unhide HTE).blk 2
        have htl:=lt_of_blk (unhide HTE).blk
        go_simp
        refine hK _ _ ?_
        clear hK K
        try simp only [Act.put,List.setIfInBounds_toArray,List.set_cons_zero,List.set_cons_succ,List.getElem_toArray,List.getElem_cons_succ,List.getElem_cons_zero]
        clear hcl htl
        refine wpAny_ready (rs:=[4]) (by kernel_rfl) (by simp) ?_
        refine AllReady.cons rfl (fun K hK=> ?_) AllReady.nil
        have hcl:World.cell? _ ⟨tb,0,none⟩=some (Value.slice ao k ac):=cell_of_blk (unhide HTE).blk 0
        have htl:=lt_of_blk (unhide HTE).blk
        go_simp
        refine hK _ _ ?_
        clear hK K
        try simp only [Act.put,List.setIfInBounds_toArray,List.set_cons_zero,List.set_cons_succ,List.getElem_toArray,List.getElem_cons_succ,List.getElem_cons_zero]
        clear hcl htl
        refine wpAny_ready (rs:=[5]) (by kernel_rfl) (by simp) ?_
        refine AllReady.cons rfl (fun K hK=> ?_) AllReady.nil
        go_simp
        refine hK _ _ ?_
        clear hK K
        try simp only [Act.put,List.setIfInBounds_toArray,List.set_cons_zero,List.set_cons_succ,List.getElem_toArray,List.getElem_cons_succ,List.getElem_cons_zero]
        refine wpAny_ready (rs:=[6]) (by kernel_rfl) (by simp) ?_
        refine AllReady.cons rfl (fun K hK=> ?_) AllReady.nil
        go_simp
        refine (rdnumbers_any _ rb _ k (unhide HTE).rd (by omega)).mono ?_
        rintro e w7 ⟨rfl,hrow,hf7⟩
        have HT7:=hide ((unhide HTE).read hf7)
        have HROW:=hide hrow
        refine hK _ _ ?_
        clear hK K hf7 hrow
        try simp only [Act.put,List.setIfInBounds_toArray,List.set_cons_zero,List.set_cons_succ,List.getElem_toArray,List.getElem_cons_succ,List.getElem_cons_zero]
        refine wpAny_ready (rs:=[7]) (by kernel_rfl) (by simp) ?_
        refine AllReady.cons rfl (fun K hK=> ?_) AllReady.nil
        go_simp
        refine hK _ _ ?_
        clear hK K
        try simp only [Act.put,List.setIfInBounds_toArray,List.set_cons_zero,List.set_cons_succ,List.getElem_toArray,List.getElem_cons_succ,List.getElem_cons_zero]
        exact hG w7 HT7 HROW
       ·have hcl:World.cell? _ ⟨tb,0,none⟩=some (Value.slice ao k ac):=cell_of_blk (unhide HTE).blk 0
        have htl:=lt_of_blk (unhide HTE).blk
        go_simp
        refine hK _ _ ?_
        clear hK K
        try simp only [Act.put,List.setIfInBounds_toArray,List.set_cons_zero,List.set_cons_succ,List.getElem_toArray,List.getElem_cons_succ,List.getElem_cons_zero]
        clear hcl htl
        refine wpAny_ready (rs:=[1,5]) (by kernel_rfl) (by simp) ?_
        refine AllReady.cons rfl (fun K hK=> ?_) (AllReady.cons rfl (fun K hK=> ?_) AllReady.nil)
        ·have hcl:World.cell? _ ⟨tb,2,none⟩=some (Value.slice xo q xc):=cell_of_blk (unhide HTE).blk 2
         have htl:=lt_of_blk (unhide HTE).blk
         go_simp
         refine hK _ _ ?_
         clear hK K
         try simp only [Act.put,List.setIfInBounds_toArray,List.set_cons_zero,List.set_cons_succ,List.getElem_toArray,List.getElem_cons_succ,List.getElem_cons_zero]
         clear hcl htl
         refine wpAny_ready (rs:=[5]) (by kernel_rfl) (by simp) ?_
         refine AllReady.cons rfl (fun K hK=> ?_) AllReady.nil
         go_simp
         refine hK _ _ ?_
         clear hK K
         try simp only [Act.put,List.setIfInBounds_toArray,List.set_cons_zero,List.set_cons_succ,List.getElem_toArray,List.getElem_cons_succ,List.getElem_cons_zero]
         refine wpAny_ready (rs:=[6]) (by kernel_rfl) (by simp) ?_
         refine AllReady.cons rfl (fun K hK=> ?_) AllReady.nil
         go_simp
         refine (rdnumbers_any _ rb _ k (unhide HTE).rd (by omega)).mono ?_
         rintro e w7 ⟨rfl,hrow,hf7⟩
         have HT7:=hide ((unhide HTE).read hf7)
         have HROW:=hide hrow
         refine hK _ _ ?_
         clear hK K hf7 hrow
         try simp only [Act.put,List.setIfInBounds_toArray,List.set_cons_zero,List.set_cons_succ,List.getElem_toArray,List.getElem_cons_succ,List.getElem_cons_zero]
         refine wpAny_ready (rs:=[7]) (by kernel_rfl) (by simp) ?_
         refine AllReady.cons rfl (fun K hK=> ?_) AllReady.nil
         go_simp
         refine hK _ _ ?_
         clear hK K
         try simp only [Act.put,List.setIfInBounds_toArray,List.set_cons_zero,List.set_cons_succ,List.getElem_toArray,List.getElem_cons_succ,List.getElem_cons_zero]
         exact hG w7 HT7 HROW
        ·go_simp
         refine hK _ _ ?_
         clear hK K
         try simp only [Act.put,List.setIfInBounds_toArray,List.set_cons_zero,List.set_cons_succ,List.getElem_toArray,List.getElem_cons_succ,List.getElem_cons_zero]
         refine wpAny_ready (rs:=[1,6]) (by kernel_rfl) (by simp) ?_
         refine AllReady.cons rfl (fun K hK=> ?_) (AllReady.cons rfl (fun K hK=> ?_) AllReady.nil)
         ·have hcl:World.cell? _ ⟨tb,2,none⟩=some (Value.slice xo q xc):=cell_of_blk (unhide HTE).blk 2
          have htl:=lt_of_blk (unhide HTE).blk
          go_simp
          refine hK _ _ ?_
          clear hK K
          try simp only [Act.put,List.setIfInBounds_toArray,List.set_cons_zero,List.set_cons_succ,List.getElem_toArray,List.getElem_cons_succ,List.getElem_cons_zero]
          clear hcl htl
          refine wpAny_ready (rs:=[6]) (by kernel_rfl) (by simp) ?_
          refine AllReady.cons rfl (fun K hK=> ?_) AllReady.nil
          go_simp
          refine (rdnumbers_any _ rb _ k (unhide HTE).rd (by omega)).mono ?_
          rintro e w7 ⟨rfl,hrow,hf7⟩
          have HT7:=hide ((unhide HTE).read hf7)
          have HROW:=hide hrow
          refine hK _ _ ?_
          clear hK K hf7 hrow
          try simp only [Act.put,List.setIfInBounds_toArray,List.set_cons_zero,List.set_cons_succ,List.getElem_toArray,List.getElem_cons_succ,List.getElem_cons_zero]
          refine wpAny_ready (rs:=[7]) (by kernel_rfl) (by simp) ?_
          refine AllReady.cons rfl (fun K hK=> ?_) AllReady.nil
          go_simp
          refine hK _ _ ?_
          clear hK K
          try simp only [Act.put,List.setIfInBounds_toArray,List.set_cons_zero,List.set_cons_succ,List.getElem_toArray,List.getElem_cons_succ,List.getElem_cons_zero]
          exact hG w7 HT7 HROW
         ·go_simp
          refine (rdnumbers_any _ rb _ k (unhide HTE).rd (by omega)).mono ?_
          rintro e w7 ⟨rfl,hrow,hf7⟩
          have HT7:=hide ((unhide HTE).read hf7)
          have HROW:=hide hrow
          refine hK _ _ ?_
          clear hK K hf7 hrow
          try simp only [Act.put,List.setIfInBounds_toArray,List.set_cons_zero,List.set_cons_succ,List.getElem_toArray,List.getElem_cons_succ,List.getElem_cons_zero]
          refine wpAny_ready (rs:=[1,7]) (by kernel_rfl) (by simp) ?_
          refine AllReady.cons rfl (fun K hK=> ?_) (AllReady.cons rfl (fun K hK=> ?_) AllReady.nil)
          ·have hcl:World.cell? _ ⟨tb,2,none⟩=some (Value.slice xo q xc):=cell_of_blk (unhide HT7).blk 2
           have htl:=lt_of_blk (unhide HT7).blk
           go_simp
           refine hK _ _ ?_
           clear hK K
           try simp only [Act.put,List.setIfInBounds_toArray,List.set_cons_zero,List.set_cons_succ,List.getElem_toArray,List.getElem_cons_succ,List.getElem_cons_zero]
           clear hcl htl
           refine wpAny_ready (rs:=[7]) (by kernel_rfl) (by simp) ?_
           refine AllReady.cons rfl (fun K hK=> ?_) AllReady.nil
           go_simp
           refine hK _ _ ?_
           clear hK K
           try simp only [Act.put,List.setIfInBounds_toArray,List.set_cons_zero,List.set_cons_succ,List.getElem_toArray,List.getElem_cons_succ,List.getElem_cons_zero]
           exact hG w7 HT7 HROW
          ·go_simp
           refine hK _ _ ?_
           clear hK K
           try simp only [Act.put,List.setIfInBounds_toArray,List.set_cons_zero,List.set_cons_succ,List.getElem_toArray,List.getElem_cons_succ,List.getElem_cons_zero]
           refine wpAny_ready (rs:=[1]) (by kernel_rfl) (by simp) ?_
           refine AllReady.cons rfl (fun K hK=> ?_) AllReady.nil
           have hcl:World.cell? _ ⟨tb,2,none⟩=some (Value.slice xo q xc):=cell_of_blk ((unhide HT7).later ((Below.refl _ _).alloc (Nat.le_refl _) (.cells #[.slice (some ⟨w6.heap.size,0,none⟩) k k] 33))).blk 2
           have htl:=lt_of_blk ((unhide HT7).later ((Below.refl _ _).alloc (Nat.le_refl _) (.cells #[.slice (some ⟨w6.heap.size,0,none⟩) k k] 33))).blk
           go_simp
           refine hK _ _ ?_
           clear hK K
           try simp only [Act.put,List.setIfInBounds_toArray,List.set_cons_zero,List.set_cons_succ,List.getElem_toArray,List.getElem_cons_succ,List.getElem_cons_zero]
           clear hcl htl
           exact hG w7 HT7 HROW
      case suf2=>
       intro w7 HT7 HROW
       have h7l:=lt_of_blk (unhide HT7).res
       refine wpAny_ready (rs:=[8]) (by kernel_rfl) (by simp) ?_
       refine AllReady.cons rfl (fun K hK=> ?_) AllReady.nil
       refine step_append_lies _ (by rfl) _ _ 34 (by rfl) w.heap.size 33 k0 (.slice none 0 0) 1 24 Tryz.underlying34 hk0 hx0 hx1 hx2 rfl (by decide) (.slice xo q xc) q rv (by rfl) ?e0 ⟨w7.heap.size,0,none⟩ 1 1 [.slice (some ⟨w6.heap.size,0,none⟩) k k] (by rfl) rfl ?e1 ?e2 (by decide) ?e3 ?e4 ?e5 (w7.heap.size+1) ?e6 ?_
       case e0=>have:=(unhide HT7).tab.nx;simp only [hln] at this;exact this.alloc _
       case e1=>
        intro j u hj
        match j,hj with
        |0,hj=>simp at hj;subst hj;simp [Addr.add]
        |j+1,hj=>simp at hj
       case e2=>intro u hu;simp at hu;subst hu;rfl
       case e3=>unfold maxLen;omega
       case e4=>omega
       case e5=>simp;omega
       case e6=>simp
       intro g8 cap8 w8 hown hgrow hat hgl
       have hbb:Below w7.heap.size w7 (w7.alloc (.cells #[.slice (some ⟨w6.heap.size,0,none⟩) k k] 33)):=(Below.refl _ _).alloc (Nat.le_refl _) _
       have htra:=(unhide HT7).later hbb
       have hrowA:=(hbb.block _ (lt_of_blk (unhide HROW))).trans (unhide HROW)
       have hnl:(numsB k (numB r0).2).1.length=k:=numsB_len _ _
       have hwz:w.heap.size≤w6.heap.size:=(unhide HT5).gr.size
       have hro:=rowC_owns (base:=w.heap.size) hrowA hwz hnl (by omega)
       have hF6:(Value.slice (some ⟨g5,0,none⟩) (q+1) cap5).ownBlock≠some w6.heap.size:=fun e=>by
        have:=(own_lt (unhide HT5).tab.fl _ e).2
        omega
       have hV6: ∀v∈rv,v.ownBlock≠some w6.heap.size:=fun v hv e=>by
        obtain ⟨j,hj⟩:=List.mem_iff_getElem?.1 hv
        have hjl:j<nx0.length:=by have:=(List.getElem?_eq_some_iff.1 hj).1;have:=(unhide HT5).tab.rl;simp only at this;omega
        obtain ⟨g,c,h1,h2⟩:=(unhide HT5).tab.rows j _ (List.getElem?_eq_getElem hjl)
        rw [hj] at h1
        cases h1
        have:=(own_lt h2 _ e).2
        omega
       have htab:=htra.tab.row (X':= .slice (some ⟨g8,0,none⟩) (q+1) cap8) (g:=w6.heap.size) (c:=k) (r:=(numsB k (numB r0).2).1) (by rw [hnl];exact hro) hF6 hV6 (by simp only [hln,hnl];exact hown) hgrow
       rw [hnl] at htab
       have hblk:=(hgrow.block tb (lt_of_blk htra.blk) (fun e=>own_ty htra.tab.nx e.symm htra.blk (by decide))).trans htra.blk
       have HT8:=hide (htra.grow htra.tab.nx hgrow (Or.inr (Or.inr rfl)) htab 2 (.slice (some ⟨g8,0,none⟩) (q+1) cap8) rfl)
       have hc8:w8.cell? ⟨tb,2,none⟩=some (.slice xo q xc):=cell_of_blk hblk 2
       have hf8:=frozen_of_blk hblk 2
       have hl8:=lt_of_blk hblk
       refine hK _ _ ?_
       clear hK K htra htab hblk hown hgrow hat hgl hbb hrowA hro hF6 hV6 hnl hwz
       try simp only [Act.put,List.setIfInBounds_toArray,List.set_cons_zero,List.set_cons_succ,List.getElem_toArray,List.getElem_cons_succ,List.getElem_cons_zero]
       refine wpAny_take (i:=9) (v:= .pointer (some ⟨tb,2,none⟩)) rfl (by kernel_rfl) (by kernel_rfl) (by kernel_rfl) (fun _ _ _ h=>h) (Or.inl ⟨by kernel_rfl,fun w=>by go_simp⟩) ?_
       try simp only [Act.put,List.setIfInBounds_toArray,List.set_cons_zero,List.set_cons_succ,List.getElem_toArray,List.getElem_cons_succ,List.getElem_cons_zero]
       refine wpAny_ready (rs:=[10]) (by kernel_rfl) (by simp) ?_
       refine AllReady.cons rfl (fun K hK=> ?_) AllReady.nil
       go_simp
       refine hK _ _ ?_
       clear hK K hc8 hf8 hl8 h7l
       refine wpAny_done (by kernel_rfl) ?_ _
       go_wp2_with fail
       go_roundw
       case rel=>exact ⟨q+1,some ⟨g5,0,none⟩,cap5,some ⟨g8,0,none⟩,cap8,_,by omega,by go_num,by rw [unhide HSN];exact HT8⟩
       case measure=>simp [intOf];omega
    ·have hqn:¬ (q:Int)<(n2:Int):=by omega
     have hqe:q=n2:=by omega
     subst hqe
     have hc0:wr.cell? ⟨tb,0,none⟩=some (.slice ao k ac):=cell_of_blk (unhide HT).blk 0
     have hc1:wr.cell? ⟨tb,1,none⟩=some (.slice fo q fc):=cell_of_blk (unhide HT).blk 1
     have hc2:wr.cell? ⟨tb,2,none⟩=some (.slice xo q xc):=cell_of_blk (unhide HT).blk 2
     have hl:=lt_of_blk (unhide HT).blk
     have rc:=fun o=>cell_of_blk (unhide HT).res o
     have rf:=fun o=>frozen_of_blk (unhide HT).res o
     have hrl:=lt_of_blk (unhide HT).res
     go_wp2_with fail
     have hfin:(((wr.setCell ⟨w.heap.size,0,none⟩ (.slice ao k ac)).setCell ⟨w.heap.size,1,none⟩ (.slice fo q fc)).setCell ⟨w.heap.size,2,none⟩ (.slice xo q xc)).heap[w.heap.size]? =some (.cells #[.slice ao k ac,.slice fo q fc,.slice xo q xc] 36 (0,0)):=blk_set (blk_set (blk_set (unhide HT).res 0 _) 1 _) 2 _
     have hgf:wr.grownBy (((wr.setCell ⟨w.heap.size,0,none⟩ (.slice ao k ac)).setCell ⟨w.heap.size,1,none⟩ (.slice fo q fc)).setCell ⟨w.heap.size,2,none⟩ (.slice xo q xc)) (some w.heap.size):=((grown_set _ _ _ _).trans (grown_set _ _ _ _)).trans (grown_set _ _ _ _)
     have htf:=(unhide HT).tab.other hgf (fun b hb c m=>by
      cases hb
      rw [(unhide HT).res]
      refine ⟨?_, ?_, ?_⟩<;>(intro e;injection e with e;injection e with _ e _;revert e;decide))
     have hgw:w.grownBy (((wr.setCell ⟨w.heap.size,0,none⟩ (.slice ao k ac)).setCell ⟨w.heap.size,1,none⟩ (.slice fo q fc)).setCell ⟨w.heap.size,2,none⟩ (.slice xo q xc)) (some rb):=grown_setNew (grown_setNew (grown_setNew (unhide HT).gr (Nat.le_refl _) _ _) (Nat.le_refl _) _ _) (Nat.le_refl _) _ _
     generalize (((wr.setCell ⟨w.heap.size,0,none⟩ (.slice ao k ac)).setCell ⟨w.heap.size,1,none⟩ (.slice fo q fc)).setCell ⟨w.heap.size,2,none⟩ (.slice xo q xc))=wf at *
     have fc':=fun o=>cell_of_blk hfin o
     refine bodyPost_ret (v:= .agg #[.slice ao k ac,.slice fo q fc,.slice xo q xc]) (by simp [results,Tryz.results89,go_sem,fc']) rfl ?_
     exact ⟨_,_,_,rv,rfl,by rw [unhide HPB];exact htf,hgw⟩
def DecP (ty:List Value→Value) (w:World) (o:Option Tb) (w':World) (e:Ending):Prop:=
 Below w.heap.size w w'∧match o with
 |none=>e= .returned (.tuple #[.agg #[.slice none 0 0,.slice none 0 0,.slice none 0 0],ty []])
 |some t=> ∃A F X rv,e= .returned (.tuple #[.agg #[A,F,X],ty [.bool true]])∧TbW w' w.heap.size A F X t rv
def okB:List Value→Value
 |[]=> .bool false
 |_=> .bool true
def okE:List Value→Value
 |[]=> .int .i64 6
 |_=> .int .i64 0
theorem parB_small {l:List UInt8} (hl:l.length≤1000):(parB l).acts.length≤1000∧(parB l).nx.length≤1000∧(parB l).fl.length≤1000∧ ∀r∈(parB l).nx,r.length≤1000:=by
 have h1:(parA l).1.length≤1000:=by
  unfold parA
  rw [actsP_len]
  exact Nat.le_of_lt (Nat.lt_of_lt_of_le (numB_lt _) (by decide))
 have h2:=rowsP_len (parA l).1.length (numB (parA l).2).1 (numB (parA l).2).2
 have h3:=numB_lt (parA l).2
 have h4: ∀(c n:Nat) (m:List UInt8) (r:List Nat),r∈(rowsP c n m).1.2→r.length=c:=by
  intro c n
  induction n with
  |zero=>intro m r h;exact (List.not_mem_nil h).elim
  |succ n ih=>
   intro m r h
   rw [rowsP] at h
   rcases List.mem_cons.1 h with rfl|h
   ·exact numsB_len _ _
   ·exact ih _ r h
 refine ⟨h1, ?_, ?_,fun r hr=> ?_⟩
 ·show (rowsP _ _ _).1.2.length≤1000;rw [h2.2];omega
 ·show (rowsP _ _ _).1.1.length≤1000;rw [h2.1];omega
 ·rw [h4 _ _ _ r hr];exact h1
theorem dec_none {b:List UInt8} (h:1000<b.length):DecR b none:=fun t ht e=>by
 have:=ht.few
 rw [e] at this
 omega
theorem TbW.mono {w:World} {base base':Nat} {A F X:Value} {t:Tb} {rv:List Value} (h:TbW w base A F X t rv) (hb:base'≤base):TbW w base' A F X t rv:=
 ⟨owns_mono h.acts hb,owns_mono h.fl hb,owns_mono h.nx hb,fun j r hr=>by obtain ⟨g,c,h1,h2⟩:=h.rows j r hr;exact ⟨g,c,h1,owns_mono h2 hb⟩,h.rf,h.rr⟩
def setT (w:World) (b:Nat) (A F X:Value):World:=((w.setCell ⟨b,0,none⟩ A).setCell ⟨b,1,none⟩ F).setCell ⟨b,2,none⟩ X
theorem setT_blk {w:World} {b:Nat} {a f x:Value} (h:w.heap[b]? =some (.cells #[a,f,x] 36 (0,0))) (A F X:Value):(setT w b A F X).heap[b]? =some (.cells #[A,F,X] 36 (0,0)):=blk_set (blk_set (blk_set h 0 A) 1 F) 2 X
theorem setT_grown (w:World) (b:Nat) (A F X:Value):w.grownBy (setT w b A F X) (some b):=((grown_set _ _ _ _).trans (grown_set _ _ _ _)).trans (grown_set _ _ _ _)
theorem setT_below {w0 w:World} {b:Nat} (h:Below w0.heap.size w0 w) (hb:w0.heap.size≤b) (A F X:Value):Below w0.heap.size w0 (setT w b A F X):=h.grown (setT_grown w b A F X) h.size (fun k hk=>by cases hk;exact hb)
theorem setT_tab {w:World} {b:Nat} {c:Array Value} (hc:w.heap[b]? =some (.cells c 36 (0,0))) {base:Nat} {A F X A' F' X':Value} {t:Tb} {rv:List Value} (h:TbW w base A F X t rv):TbW (setT w b A' F' X') base A F X t rv:=
 h.other (setT_grown w b A' F' X') (fun k hk c' m=>by
  cases hk
  rw [hc]
  refine ⟨?_, ?_, ?_⟩<;>(intro e;injection e with e;injection e with _ e _;revert e;decide))
theorem rightZ_t (t:Tb):RightZ t.z↔RightT t:=⟨fun ⟨u,e,h⟩=>by rw [Tb.z_inj e];exact h,fun h=>⟨t,rfl,h⟩⟩
theorem Right_t (w:World) (ao fo no:Option Addr) (ac fc nc na nf nn:Nat) (t:Tb) (hI:TbI w ao fo no ac t.z) (hG:GV w) (hna:na=t.acts.length) (hnf:nf=t.fl.length) (hnn:nn=t.nx.length):
  Calls Tryz.prog 45 #[.agg #[.slice ao na ac,.slice fo nf fc,.slice no nn nc]] w fun e w'=>TellsB (RightT t) e∧Below w.heap.size w w':=by
 have e1:t.z.fl.length=nf:=by rw [hnf];exact zI_len _
 have e2:t.z.nx.length=nn:=by rw [hnn];unfold Tb.z;simp
 have e3:t.z.acts.length=na:=by rw [hna];rfl
 have:=Right_any w ao fo no ac fc nc t.z hI hG
 rw [e1,e2,e3,rightZ_t] at this
 exact this
set_option maxHeartbeats 4000000 in
set_option maxRecDepth 100000 in
theorem tread_any (w:World) (s:ByteArray) (hG:GV w):
  Calls Tryz.prog 47 #[.string s] w fun e w'=> ∃o,DecR s.data.toList o∧DecP okB w o w' e:=by
 have HG:=hide hG
 have hbz:Below w.heap.size w (w.alloc (.cells #[.slice none 0 0,.slice none 0 0,.slice none 0 0] 36)):=(Below.refl _ _).alloc (Nat.le_refl _) _
 have HBZ:=hide hbz
 have HRES:=hide (blk_alloc w (.cells #[.slice none 0 0,.slice none 0 0,.slice none 0 0] 36))
 clear hG hbz
 by_cases hs:1000<s.size
 ·have HD:Hid (DecR s.data.toList none):=dec_none (by rw [size_data];exact hs)
  have hsi:(1000:Int)<(s.size:Int):=by omega
  go_enter Tryz.func47,Tryz.ntmps47
  go_wp2_with fail
  have rc:=fun o=>cell_of_blk (unhide HRES) o
  refine bodyPost_ret (v:= .tuple #[.agg #[.slice none 0 0,.slice none 0 0,.slice none 0 0],.bool false]) (by simp [results,Tryz.results47,go_sem,rc]) rfl ?_
  exact ⟨none,unhide HD,unhide HBZ,rfl⟩
 ·have hsi:¬ (1000:Int)<(s.size:Int):=by omega
  have hW2:RdA ((w.alloc (.cells #[.slice none 0 0,.slice none 0 0,.slice none 0 0] 36)).alloc (.cells #[.string s] 165)) (w.heap.size+1) s.data.toList:=⟨s,rfl,blk_alloc' _ _ _ (by simp)⟩
  have HT:=hide (rdtable_any _ _ _ hW2 (by rw [size_data];omega))
  clear hW2
  go_enter Tryz.func47,Tryz.ntmps47
  go_wp2_with fail
  refine (unhide HT).mono ?_
  rintro e w3 ⟨A,F,X,rv,rfl,htab,hg3⟩
  have hbz2:Below w.heap.size w ((w.alloc (.cells #[.slice none 0 0,.slice none 0 0,.slice none 0 0] 36)).alloc (.cells #[.string s] 165)):=(unhide HBZ).alloc (by simp) _
  have hb3:Below w.heap.size w w3:=hbz2.grown hg3 hbz2.size (fun b hb=>by cases hb;omega)
  have hres3:w3.heap[w.heap.size]? =some (.cells #[.slice none 0 0,.slice none 0 0,.slice none 0 0] 36 (0,0)):=(hg3.block _ (by simp;omega) (fun e=>by have:=Option.some.inj e;omega)).trans ((Below.heap_alloc _ _ _ (by simp)).trans (unhide HRES))
  obtain ⟨ao,ac,rfl⟩:=owns_val htab.acts
  obtain ⟨fo,fc,rfl⟩:=owns_val htab.fl
  obtain ⟨no,nc,rfl⟩:=owns_val htab.nx
  have hsm:=parB_small (l:=s.data.toList) (by rw [size_data];omega)
  obtain ⟨hI3,_,_,_⟩:=htab.read hsm
  generalize hP:parB s.data.toList=t at *
  have HP:=hide hP
  have hba:Below w3.heap.size w3 (w3.alloc (.cells #[.slice ao t.acts.length ac,.slice fo t.fl.length fc,.slice no t.nx.length nc] 36)):=(Below.refl _ _).alloc (Nat.le_refl _) _
  have HB3:=hide hb3
  have HB4:=hide (hb3.trans (hba.mono hb3.size))
  have HI4:=hide (hI3.later hba)
  have HRES4:=hide ((hba.block _ (lt_of_blk hres3)).trans hres3)
  have HTAB:=hide ((htab.later hba).mono (base':=w.heap.size) (by simp;omega))
  have HBX:=hide (blk_alloc w3 (.cells #[.slice ao t.acts.length ac,.slice fo t.fl.length fc,.slice no t.nx.length nc] 36))
  have hwx:w.heap.size<w3.heap.size:=lt_of_blk hres3
  clear hb3 hba hI3 hsm htab hg3 hres3 hbz2 hP HT
  have HRT:=hide (Right_t _ ao fo no ac fc nc _ _ _ t (unhide HI4) ((unhide HG).later (unhide HB4)) rfl rfl rfl)
  go_wp2_with fail
  refine (unhide HRT).mono ?_
  generalize w3.alloc (.cells #[.slice ao t.acts.length ac,.slice fo t.fl.length fc,.slice no t.nx.length nc] 36)=w4 at *
  rintro e w5 ⟨⟨b,rfl,hb⟩,hb5⟩
  have hbx5:=(hb5.block _ (lt_of_blk (unhide HBX))).trans (unhide HBX)
  have hre5:=(hb5.block _ (lt_of_blk (unhide HRES4))).trans (unhide HRES4)
  have HB5:=hide ((unhide HB4).trans (hb5.mono (unhide HB4).size))
  have HI5:=hide ((unhide HI4).later hb5)
  have HTAB5:=hide ((unhide HTAB).later hb5)
  have HBX5:=hide hbx5
  have HRE5:=hide hre5
  have bc:=fun o=>cell_of_blk hbx5 o
  have bl:=lt_of_blk hbx5
  have rc:=fun o=>cell_of_blk hre5 o
  have rf:=fun o=>frozen_of_blk hre5 o
  have rl:=lt_of_blk hre5
  clear hb5 hbx5 hre5 HRT HBX HRES4 HTAB HI4
  cases b with
  |false=>
   have HD:Hid (DecR s.data.toList none):=DecR.not fun h=>by rw [unhide HP] at h;exact absurd (hb.2 h) (by decide)
   clear hb
   go_wp2_with fail
   change bodyPost _ _ _ _ _ (setT w5 w.heap.size (.slice none 0 0) (.slice none 0 0) (.slice none 0 0))
   have hfin:=setT_blk (unhide HRE5) (.slice none 0 0) (.slice none 0 0) (.slice none 0 0)
   have hbf:=setT_below (unhide HB5) (Nat.le_refl _) (.slice none 0 0) (.slice none 0 0) (.slice none 0 0)
   have htf:=setT_tab (unhide HRE5) (unhide HTAB5) (A':= .slice none 0 0) (F':= .slice none 0 0) (X':= .slice none 0 0)
   generalize setT w5 w.heap.size (.slice none 0 0) (.slice none 0 0) (.slice none 0 0)=wf at *
   have fcc:=fun o=>cell_of_blk hfin o
   refine bodyPost_ret (v:= .tuple #[.agg #[.slice none 0 0,.slice none 0 0,.slice none 0 0],.bool false]) (by simp [results,Tryz.results47,go_sem,fcc]) rfl ?_
   exact ⟨none,unhide HD,hbf,rfl⟩
  |true=>
   have HRT:=hide (hb.1 rfl)
   clear hb
   have HBY:=hide (Bytes_any w5 ao fo no ac fc nc _ _ _ t (unhide HI5) (unhide HRT) rfl rfl rfl)
   by_cases hE:encB t=s.data.toList
   ·have HD:Hid (DecR s.data.toList (some t)):=⟨unhide HRT,hE⟩
    have hEs:(⟨(encB t).toArray⟩:ByteArray)=s:=byte_inj (by show (encB t)=_;exact hE)
    rw [hEs] at HBY
    clear hE hEs
    go_wp2_with fail
    refine (unhide HBY).mono ?_
    rintro e w6 ⟨rfl,hb6⟩
    have hbx6:=(hb6.block _ (lt_of_blk (unhide HBX5))).trans (unhide HBX5)
    have hre6:=(hb6.block _ (lt_of_blk (unhide HRE5))).trans (unhide HRE5)
    have HB6:=hide ((unhide HB5).trans (hb6.mono (unhide HB5).size))
    have HTAB6:=hide ((unhide HTAB5).later hb6)
    have HRE6:=hide hre6
    clear bc bl rc rf rl
    have bc:=fun o=>cell_of_blk hbx6 o
    have bl:=lt_of_blk hbx6
    have rc:=fun o=>cell_of_blk hre6 o
    have rf:=fun o=>frozen_of_blk hre6 o
    have rl:=lt_of_blk hre6
    clear hb6 hbx6 hre6
    go_wp2_with fail
    change bodyPost _ _ _ _ _ (setT w6 w.heap.size (.slice ao t.acts.length ac) (.slice fo t.fl.length fc) (.slice no t.nx.length nc))
    have hfin:=setT_blk (unhide HRE6) (.slice ao t.acts.length ac) (.slice fo t.fl.length fc) (.slice no t.nx.length nc)
    have hbf:=setT_below (unhide HB6) (Nat.le_refl _) (.slice ao t.acts.length ac) (.slice fo t.fl.length fc) (.slice no t.nx.length nc)
    have htf:=setT_tab (unhide HRE6) (unhide HTAB6) (A':= .slice ao t.acts.length ac) (F':= .slice fo t.fl.length fc) (X':= .slice no t.nx.length nc)
    generalize setT w6 w.heap.size (.slice ao t.acts.length ac) (.slice fo t.fl.length fc) (.slice no t.nx.length nc)=wf at *
    have fcc:=fun o=>cell_of_blk hfin o
    refine bodyPost_ret (v:= .tuple #[.agg #[.slice ao t.acts.length ac,.slice fo t.fl.length fc,.slice no t.nx.length nc],.bool true]) (by simp [results,Tryz.results47,go_sem,fcc]) rfl ?_
    exact ⟨some t,unhide HD,hbf,_,_,_,rv,rfl,htf⟩
   ·have HD:Hid (DecR s.data.toList none):=DecR.not fun h e=>by
     rw [unhide HP] at e
     exact hE e
    have hne:((⟨(encB t).toArray⟩:ByteArray).toList==s.toList)=false:=beq_eq_false_iff_ne.2 fun e=>hE (by
     rw [ByteArray.toList_eq,ByteArray.toList_eq] at e
     exact e)
    generalize (⟨(encB t).toArray⟩:ByteArray)=E at *
    clear hE
    go_wp2_with fail
    refine (unhide HBY).mono ?_
    rintro e w6 ⟨rfl,hb6⟩
    have hbx6:=(hb6.block _ (lt_of_blk (unhide HBX5))).trans (unhide HBX5)
    have hre6:=(hb6.block _ (lt_of_blk (unhide HRE5))).trans (unhide HRE5)
    have HB6:=hide ((unhide HB5).trans (hb6.mono (unhide HB5).size))
    have HTAB6:=hide ((unhide HTAB5).later hb6)
    have HRE6:=hide hre6
    clear bc bl rc rf rl
    have bc:=fun o=>cell_of_blk hbx6 o
    have bl:=lt_of_blk hbx6
    have rc:=fun o=>cell_of_blk hre6 o
    have rf:=fun o=>frozen_of_blk hre6 o
    have rl:=lt_of_blk hre6
    clear hb6 hbx6 hre6
    go_wp2_with fail
    change bodyPost _ _ _ _ _ (setT w6 w.heap.size (.slice none 0 0) (.slice none 0 0) (.slice none 0 0))
    have hfin:=setT_blk (unhide HRE6) (.slice none 0 0) (.slice none 0 0) (.slice none 0 0)
    have hbf:=setT_below (unhide HB6) (Nat.le_refl _) (.slice none 0 0) (.slice none 0 0) (.slice none 0 0)
    have htf:=setT_tab (unhide HRE6) (unhide HTAB6) (A':= .slice none 0 0) (F':= .slice none 0 0) (X':= .slice none 0 0)
    generalize setT w6 w.heap.size (.slice none 0 0) (.slice none 0 0) (.slice none 0 0)=wf at *
    have fcc:=fun o=>cell_of_blk hfin o
    refine bodyPost_ret (v:= .tuple #[.agg #[.slice none 0 0,.slice none 0 0,.slice none 0 0],.bool false]) (by simp [results,Tryz.results47,go_sem,fcc]) rfl ?_
    exact ⟨none,unhide HD,hbf,rfl⟩
def EncP (z:Tz) (e:Ending):Prop:=(∃t,z=t.z∧RightT t∧e= .returned (.tuple #[.string ⟨(encB t).toArray⟩,.int .i64 0]))∨(¬ RightZ z∧e= .returned (.tuple #[.string ⟨#[]⟩,.int .i64 6]))
set_option maxHeartbeats 4000000 in
set_option maxRecDepth 100000 in
theorem Decode_any (w:World) (s:ByteArray) (hG:GV w):
  Calls Tryz.prog 27 #[.string s] w fun e w'=> ∃o,DecR s.data.toList o∧DecP okE w o w' e:=by
 have hbz:Below w.heap.size w (w.alloc (.cells #[.slice none 0 0,.slice none 0 0,.slice none 0 0] 36)):=(Below.refl _ _).alloc (Nat.le_refl _) _
 have HRD:=hide (tread_any _ s (hG.later hbz))
 have HBZ:=hide hbz
 have HRES:=hide (blk_alloc w (.cells #[.slice none 0 0,.slice none 0 0,.slice none 0 0] 36))
 clear hG hbz
 go_enter Tryz.func27,Tryz.ntmps27
 go_wp2_with fail
 refine (unhide HRD).mono ?_
 generalize hW:w.alloc (.cells #[.slice none 0 0,.slice none 0 0,.slice none 0 0] 36)=W at *
 have hsz:w.heap.size≤W.heap.size:=(unhide HBZ).size
 clear hW
 rintro e w1 ⟨o,ho,hb1,hm⟩
 have HO:=hide ho
 have hres:=(hb1.block _ (lt_of_blk (unhide HRES))).trans (unhide HRES)
 have HB1:=hide ((unhide HBZ).trans (hb1.mono (unhide HBZ).size))
 cases o with
 |none=>
  have hm':e= .returned (.tuple #[.agg #[.slice none 0 0,.slice none 0 0,.slice none 0 0],.bool false]):=hm
  subst hm'
  have hba:Below w1.heap.size w1 (w1.alloc (.cells #[.slice none 0 0,.slice none 0 0,.slice none 0 0] 36)):=(Below.refl _ _).alloc (Nat.le_refl _) _
  have HRE:=hide ((hba.block _ (lt_of_blk hres)).trans hres)
  have HB2:=hide ((unhide HB1).trans (hba.mono (unhide HB1).size))
  have rc:=fun o=>cell_of_blk (unhide HRE) o
  have rf:=fun o=>frozen_of_blk (unhide HRE) o
  have rl:=lt_of_blk (unhide HRE)
  clear hm ho hb1 hres hba
  go_wp2_with fail
  change bodyPost _ _ _ _ _ (setT (w1.alloc (.cells #[.slice none 0 0,.slice none 0 0,.slice none 0 0] 36)) w.heap.size (.slice none 0 0) (.slice none 0 0) (.slice none 0 0))
  have hfin:=setT_blk (unhide HRE) (.slice none 0 0) (.slice none 0 0) (.slice none 0 0)
  have hbf:=setT_below (unhide HB2) (Nat.le_refl _) (.slice none 0 0) (.slice none 0 0) (.slice none 0 0)
  generalize setT (w1.alloc (.cells #[.slice none 0 0,.slice none 0 0,.slice none 0 0] 36)) w.heap.size (.slice none 0 0) (.slice none 0 0) (.slice none 0 0)=wf at *
  have fcc:=fun o=>cell_of_blk hfin o
  refine bodyPost_ret (v:= .tuple #[.agg #[.slice none 0 0,.slice none 0 0,.slice none 0 0],.int .i64 6]) (by simp [results,Tryz.results27,go_sem,fcc]) rfl ?_
  exact ⟨none,unhide HO,hbf,rfl⟩
 |some t=>
  obtain ⟨A,F,X,rv,he,htab⟩:=hm
  obtain ⟨ao,ac,rfl⟩:=owns_val htab.acts
  obtain ⟨fo,fc,rfl⟩:=owns_val htab.fl
  obtain ⟨no,nc,rfl⟩:=owns_val htab.nx
  have he':e= .returned (.tuple #[.agg #[.slice ao t.acts.length ac,.slice fo t.fl.length fc,.slice no t.nx.length nc],.bool true]):=he
  subst he'
  clear he
  have hba:Below w1.heap.size w1 (w1.alloc (.cells #[.slice ao t.acts.length ac,.slice fo t.fl.length fc,.slice no t.nx.length nc] 36)):=(Below.refl _ _).alloc (Nat.le_refl _) _
  have HRE:=hide ((hba.block _ (lt_of_blk hres)).trans hres)
  have HB2:=hide ((unhide HB1).trans (hba.mono (unhide HB1).size))
  have HTAB:=hide ((htab.later hba).mono hsz)
  have hbx:=blk_alloc w1 (.cells #[.slice ao t.acts.length ac,.slice fo t.fl.length fc,.slice no t.nx.length nc] 36)
  have rc:=fun o=>cell_of_blk (unhide HRE) o
  have rf:=fun o=>frozen_of_blk (unhide HRE) o
  have rl:=lt_of_blk (unhide HRE)
  clear ho hb1 hres hba htab
  go_wp2_with fail
  change bodyPost _ _ _ _ _ (setT (w1.alloc (.cells #[.slice ao t.acts.length ac,.slice fo t.fl.length fc,.slice no t.nx.length nc] 36)) w.heap.size (.slice ao t.acts.length ac) (.slice fo t.fl.length fc) (.slice no t.nx.length nc))
  have hfin:=setT_blk (unhide HRE) (.slice ao t.acts.length ac) (.slice fo t.fl.length fc) (.slice no t.nx.length nc)
  have hbf:=setT_below (unhide HB2) (Nat.le_refl _) (.slice ao t.acts.length ac) (.slice fo t.fl.length fc) (.slice no t.nx.length nc)
  have htf:=setT_tab (unhide HRE) (unhide HTAB) (A':= .slice ao t.acts.length ac) (F':= .slice fo t.fl.length fc) (X':= .slice no t.nx.length nc)
  generalize setT (w1.alloc (.cells #[.slice ao t.acts.length ac,.slice fo t.fl.length fc,.slice no t.nx.length nc] 36)) w.heap.size (.slice ao t.acts.length ac) (.slice fo t.fl.length fc) (.slice no t.nx.length nc)=wf at *
  have fcc:=fun o=>cell_of_blk hfin o
  refine bodyPost_ret (v:= .tuple #[.agg #[.slice ao t.acts.length ac,.slice fo t.fl.length fc,.slice no t.nx.length nc],.int .i64 0]) (by simp [results,Tryz.results27,go_sem,fcc]) rfl ?_
  exact ⟨some t,unhide HO,hbf,_,_,_,rv,rfl,htf⟩
def PickP (n:Nat) (e:Ending):Prop:= ∃k:Nat,k<n∧e= .returned (.int .i64 (k:Int))
theorem PickP.of {n:Nat} {x:Int} (h0:0≤x) (hn:0<n):PickP n (.returned (.int .i64 (x.tmod (n:Int)))):=by
 have h1:=Int.tmod_nonneg (n:Int) h0
 have h2:=Int.tmod_lt_of_pos x (show (0:Int)<(n:Int) by omega)
 refine ⟨(x.tmod n).toNat,by omega, ?_⟩
 rw [Int.toNat_of_nonneg h1]
theorem Tz.ext' {z y:Tz} (h1:z.acts=y.acts) (h2:z.fl=y.fl) (h3:z.nx=y.nx):z=y:=by
 cases z;cases y;simp_all
theorem own_apart {w:World} {base base' e e' z z' n n':Nat} {v v':Value} {xs xs':List Value} (h:w.ownsRow base e z v n xs) (h':w.ownsRow base' e' z' v' n' xs') (hne:e≠e'): ∀b,v'.ownBlock=some b→v.ownBlock≠some b:=fun b hb e1=>by
 obtain ⟨c,hc⟩:=own_at h' hb
 exact own_ty h e1 hc (fun e=>hne e.symm)
theorem owns_setV {w:World} {base e z n cap g:Nat} {xs:List Value} (h:w.ownsRow base e z (.slice (some ⟨g,0,none⟩) n cap) n xs) (i:Nat) (v:Value):(w.setCell ⟨g,i,none⟩ v).ownsRow base e z (.slice (some ⟨g,0,none⟩) n cap) n (xs.set i v):=by
 obtain ⟨hl,⟨hv,_⟩|⟨g',cap',cur,hv,hg,hrow,hle,hcap,hcs,htake⟩⟩:=h
 ·cases hv
 ·cases hv
  refine ⟨by simp [hl],Or.inr ⟨g,cap,cur.setIfInBounds i v,rfl,hg,blk_set hrow i v,hle,hcap,by simp [hcs], ?_⟩⟩
  rw [Array.toList_setIfInBounds,List.take_set,htake]
theorem infoVs:(Tryz.prog.info? 9).map (fun i=>(i.zero,i.size,i.bytes))=some (some (.string ⟨#[]⟩),1,16):=by kernel_rfl
theorem infoVi:(Tryz.prog.info? 3).map (fun i=>(i.zero,i.size,i.bytes))=some (some (.int .i64 0),1,8):=by kernel_rfl
theorem infoVr:(Tryz.prog.info? 33).map (fun i=>(i.zero,i.size,i.bytes))=some (some (.slice none 0 0),1,24):=by kernel_rfl
structure TbV (w:World) (base:Nat) (A F X:Value) (t:Tb) (rv:List Value):Prop where
 acts:w.ownsRow base 9 1 A t.acts.length (strsC t.acts)
 fl:w.ownsRow base 3 1 F t.fl.length (intC t.fl)
 nx:w.ownsRow base 33 1 X t.nx.length rv
 rows: ∀(j:Nat) (r:List Nat),t.nx[j]? =some r→ ∃v,rv[j]? =some v∧w.ownsRow base 3 1 v r.length (intC r)
 rf: ∀v∈rv,∀b,v.ownBlock=some b→F.ownBlock≠some b
 rr:rv.Pairwise fun u v=> ∀b,u.ownBlock=some b→v.ownBlock≠some b
structure RwU (w:World) (base:Nat) (F:Value) (rv:List Value) (v:Value) (q:List Nat):Prop where
 own:w.ownsRow base 3 1 v q.length (intC q)
 nf: ∀b,v.ownBlock=some b→F.ownBlock≠some b
 nr: ∀b,v.ownBlock=some b→ ∀u∈rv,u.ownBlock≠some b
section
variable {w w' : World} {base : Nat} {A F X : Value} {t : Tb} {rv : List Value}
theorem TbV.rl (h:TbV w base A F X t rv):rv.length=t.nx.length:=by
 have:=h.nx.1
 rw [Nat.mul_one] at this
 exact this
theorem TbV.row_at (h:TbV w base A F X t rv) {v:Value} (hv:v∈rv): ∃r:List Nat,w.ownsRow base 3 1 v r.length (intC r):=by
 obtain ⟨j,hj⟩:=List.mem_iff_getElem?.1 hv
 have hjl:j<t.nx.length:=by have:=(List.getElem?_eq_some_iff.1 hj).1;have:=h.rl;omega
 obtain ⟨u,h1,h2⟩:=h.rows j _ (List.getElem?_eq_getElem hjl)
 rw [hj] at h1
 cases h1
 exact ⟨_,h2⟩
theorem TbV.grow {row:Option Nat} (h:TbV w base A F X t rv) (hg:w.grownBy w' row) (hne: ∀b,row=some b→A.ownBlock≠some b∧F.ownBlock≠some b∧X.ownBlock≠some b∧ ∀v∈rv,v.ownBlock≠some b):TbV w' base A F X t rv:=
 ⟨owns_other h.acts hg fun b hb=>(hne b hb).1,owns_other h.fl hg fun b hb=>(hne b hb).2.1,owns_other h.nx hg fun b hb=>(hne b hb).2.2.1,fun j r hr=>by
  obtain ⟨v,h1,h2⟩:=h.rows j r hr
  exact ⟨v,h1,owns_other h2 hg fun b hb=>(hne b hb).2.2.2 v (List.mem_of_getElem? h1)⟩,h.rf,h.rr⟩
theorem TbV.other {row:Option Nat} (h:TbV w base A F X t rv) (hg:w.grownBy w' row) (hne: ∀b,row=some b→ ∀c m,w.heap[b]? ≠some (.cells c 9 m)∧w.heap[b]? ≠some (.cells c 3 m)∧w.heap[b]? ≠some (.cells c 33 m)):TbV w' base A F X t rv:=by
 refine h.grow hg fun b hb=>⟨fun e=> ?_,fun e=> ?_,fun e=> ?_,fun v hv e=> ?_⟩
 ·obtain ⟨c,hc⟩:=own_at h.acts e;exact (hne b hb c (0,0)).1 hc
 ·obtain ⟨c,hc⟩:=own_at h.fl e;exact (hne b hb c (0,0)).2.1 hc
 ·obtain ⟨c,hc⟩:=own_at h.nx e;exact (hne b hb c (0,0)).2.2 hc
 ·obtain ⟨r,hr⟩:=h.row_at hv
  obtain ⟨c,hc⟩:=own_at hr e;exact (hne b hb c (0,0)).2.1 hc
theorem TbV.later (h:TbV w base A F X t rv) (hb:Below w.heap.size w w'):TbV w' base A F X t rv:=
 h.grow (grown_below hb none) (fun b e=>by cases e)
theorem TbV.cellO (h:TbV w base A F X t rv) {b:Nat} {c:Array Value} {ty:Nat} {m:Nat × Nat} (hb:w.heap[b]? =some (.cells c ty m)) (hne:ty≠9∧ty≠3∧ty≠33) (i:Nat) (x:Value):TbV (w.setCell ⟨b,i,none⟩ x) base A F X t rv:=by
 refine h.other (grown_set w b i x) fun k hk c' m'=> ?_
 cases hk
 rw [hb]
 refine ⟨?_, ?_, ?_⟩<;>(intro e;injection e with e;injection e with _ e _)
 ·exact hne.1 e
 ·exact hne.2.1 e
 ·exact hne.2.2 e
theorem TbV.act {A':Value} (h:TbV w base A F X t rv) {s:ByteArray} (ho:w'.ownsRow base 9 1 A' (t.acts.length+1) (strsC t.acts++[.string s])) (hg:w.grownBy w' A.ownBlock):TbV w' base A' F X ⟨t.acts++[s],t.fl,t.nx⟩ rv:=by
 refine ⟨?_,owns_other h.fl hg (own_apart h.fl h.acts (by decide)),owns_other h.nx hg (own_apart h.nx h.acts (by decide)),fun j r hr=> ?_,h.rf,h.rr⟩
 ·have e:strsC (t.acts++[s])=strsC t.acts++[.string s]:=by unfold strsC;rw [List.map_append];rfl
  show w'.ownsRow base _ 1 A' (t.acts++[s]).length (strsC (t.acts++[s]))
  rw [e,List.length_append]
  exact ho
 ·obtain ⟨v,h1,h2⟩:=h.rows j r hr
  exact ⟨v,h1,owns_other h2 hg (own_apart h2 h.acts (by decide))⟩
theorem TbV.flag {F':Value} (h:TbV w base A F X t rv) {f:Nat} (ho:w'.ownsRow base 3 1 F' (t.fl.length+1) (intC t.fl++[.int .i64 (f:Int)])) (hg:w.grownBy w' F.ownBlock) {g':Nat} (hF':F'.ownBlock=some g') (hat:F.ownBlock=some g'∨w.heap.size≤g'):TbV w' base A F' X ⟨t.acts,t.fl++[f],t.nx⟩ rv:=by
 refine ⟨owns_other h.acts hg (own_apart h.acts h.fl (by decide)), ?_,owns_other h.nx hg (own_apart h.nx h.fl (by decide)),fun j r hr=> ?_,fun v hv b hb=> ?_,h.rr⟩
 ·have e:intC (t.fl++[f])=intC t.fl++[.int .i64 (f:Int)]:=by rw [intC_app];rfl
  show w'.ownsRow base _ 1 F' (t.fl++[f]).length (intC (t.fl++[f]))
  rw [e,List.length_append]
  exact ho
 ·obtain ⟨v,h1,h2⟩:=h.rows j r hr
  exact ⟨v,h1,owns_other h2 hg fun b hb e=>h.rf v (List.mem_of_getElem? h1) b e hb⟩
 ·rw [hF']
  intro e
  have e':g'=b:=Option.some.inj e
  subst e'
  rcases hat with hat|hat
  ·exact h.rf v hv _ hb hat
  ·obtain ⟨r,hr⟩:=h.row_at hv
   have:=(own_lt hr _ hb).2
   omega
theorem RwU.start (w:World) (base:Nat) (F:Value) (rv:List Value):RwU w base F rv (.slice none 0 0) []:=
 ⟨World.ownsRow_nil _ _ _ _,fun b hb=>(by cases hb),fun b hb=>(by cases hb)⟩
theorem RwU.grow {v:Value} {q:List Nat} {row:Option Nat} (h:RwU w base F rv v q) (hg:w.grownBy w' row) (hne: ∀b,row=some b→v.ownBlock≠some b):RwU w' base F rv v q:=
 ⟨owns_other h.own hg hne,h.nf,h.nr⟩
theorem RwU.later {v:Value} {q:List Nat} (h:RwU w base F rv v q) (hb:Below w.heap.size w w'):RwU w' base F rv v q:=⟨owns_later h.own hb,h.nf,h.nr⟩
theorem TbV.apart {v:Value} {q:List Nat} (h:TbV w base A F X t rv) (hu:RwU w base F rv v q): ∀b,v.ownBlock=some b→A.ownBlock≠some b∧F.ownBlock≠some b∧X.ownBlock≠some b∧ ∀u∈rv,u.ownBlock≠some b:=fun b hb=>
 ⟨own_apart h.acts hu.own (by decide) b hb,hu.nf b hb,own_apart h.nx hu.own (by decide) b hb,hu.nr b hb⟩
theorem TbV.num {v v':Value} {q:List Nat} (h:TbV w base A F X t rv) (hu:RwU w base F rv v q) {x:Nat} (ho:w'.ownsRow base 3 1 v' (q.length+1) (intC q++[.int .i64 (x:Int)])) (hg:w.grownBy w' v.ownBlock) {g':Nat} (hv':v'.ownBlock=some g') (hat:v.ownBlock=some g'∨w.heap.size≤g'):
  TbV w' base A F X t rv∧RwU w' base F rv v' (q++[x]):=by
 refine ⟨h.grow hg (h.apart hu), ?_,fun b hb=> ?_,fun b hb u hu'=> ?_⟩
 ·have e:intC (q++[x])=intC q++[.int .i64 (x:Int)]:=by rw [intC_app];rfl
  rw [e,List.length_append]
  exact ho
 ·rw [hv'] at hb
  cases hb
  rcases hat with hat|hat
  ·exact hu.nf _ hat
  ·intro e
   have:=(own_lt h.fl _ e).2
   omega
 ·rw [hv'] at hb
  cases hb
  rcases hat with hat|hat
  ·exact hu.nr _ hat u hu'
  ·intro e
   obtain ⟨r,hr⟩:=h.row_at hu'
   have:=(own_lt hr _ e).2
   omega
theorem TbV.row {X' v:Value} {r:List Nat} (h:TbV w base A F X t rv) (hu:RwU w base F rv v r) (ho:w'.ownsRow base 33 1 X' (t.nx.length+1) (rv++[v])) (hg:w.grownBy w' X.ownBlock):TbV w' base A F X' ⟨t.acts,t.fl,t.nx++[r]⟩ (rv++[v]):=by
 have hl:=h.rl
 refine ⟨owns_other h.acts hg (own_apart h.acts h.nx (by decide)),owns_other h.fl hg (own_apart h.fl h.nx (by decide)), ?_,fun j q hq=> ?_,fun u hu' b hb=> ?_, ?_⟩
 ·show w'.ownsRow base _ 1 X' (t.nx++[r]).length _
  rw [List.length_append]
  exact ho
 ·rcases Nat.lt_or_ge j t.nx.length with hj|hj
  ·have hq':t.nx[j]? =some q:=by rw [←hq];exact (List.getElem?_append_left hj).symm
   obtain ⟨u,h1,h2⟩:=h.rows j q hq'
   exact ⟨u,by rw [List.getElem?_append_left (by omega)];exact h1,owns_other h2 hg (own_apart h2 h.nx (by decide))⟩
  ·have hq':[r][j - t.nx.length]? =some q:=by rw [←hq];exact (List.getElem?_append_right hj).symm
   have hj0:j - t.nx.length=0:=by
    have:=(List.getElem?_eq_some_iff.1 hq').1
    simp at this
    omega
   rw [hj0] at hq'
   have hqr:r=q:=by simpa using hq'
   subst hqr
   refine ⟨v, ?_,owns_other hu.own hg (own_apart hu.own h.nx (by decide))⟩
   rw [List.getElem?_append_right (by omega),hl,hj0]
   rfl
 ·rcases List.mem_append.1 hu' with h1|h1
  ·exact h.rf u h1 b hb
  ·rw [List.mem_singleton.1 h1] at hb
   exact hu.nf b hb
 ·rw [List.pairwise_append]
  refine ⟨h.rr,by simp,fun a ha b hb k hk e=> ?_⟩
  rw [List.mem_singleton.1 hb] at e
  exact hu.nr k e a ha hk
theorem intC_set (l:List Nat) (i x:Nat):(intC l).set i (.int .i64 (x:Int))=intC (l.set i x):=by unfold intC;rw [List.map_set]
theorem TbV.fset {fb c:Nat} {N:Nat} (h:TbV w base A (.slice (some ⟨fb,0,none⟩) N c) X t rv) (hN:t.fl.length=N) (i x:Nat):TbV (w.setCell ⟨fb,i,none⟩ (.int .i64 (x:Int))) base A (.slice (some ⟨fb,0,none⟩) N c) X ⟨t.acts,t.fl.set i x,t.nx⟩ rv:=by
 have hg:=grown_set w fb i (.int .i64 (x:Int))
 have hb: ∀b,some fb=some b→(Value.slice (some ⟨fb,0,none⟩) N c).ownBlock=some b:=fun b e=>e
 have hf:=h.fl
 refine ⟨owns_other h.acts hg fun b e=>own_apart h.acts hf (by decide) b (hb b e), ?_,owns_other h.nx hg fun b e=>own_apart h.nx hf (by decide) b (hb b e),fun j r hr=> ?_,h.rf,h.rr⟩
 ·rw [hN] at hf
  have:=owns_setV hf i (.int .i64 (x:Int))
  rw [intC_set] at this
  show World.ownsRow _ _ _ _ _ (t.fl.set i x).length (intC (t.fl.set i x))
  rw [List.length_set,hN]
  exact this
 ·obtain ⟨v,h1,h2⟩:=h.rows j r hr
  exact ⟨v,h1,owns_other h2 hg fun b e e2=>h.rf v (List.mem_of_getElem? h1) b e2 (hb b e)⟩
theorem RwU.fset {fb c N:Nat} {v:Value} {q:List Nat} (h:RwU w base (.slice (some ⟨fb,0,none⟩) N c) rv v q) (i:Nat) (x:Value):RwU (w.setCell ⟨fb,i,none⟩ x) base (.slice (some ⟨fb,0,none⟩) N c) rv v q:=
 h.grow (grown_set w fb i x) fun b hb e=>h.nf b e hb
theorem TbV.rws {no:Option Addr} {nn nc:Nat} (h:TbV w base A F (.slice no nn nc) t rv) (hn:t.nx.length=nn):RwS w no (t.nx.map zI):=fun j r hr=>by
 rw [List.getElem?_map] at hr
 cases e:t.nx[j]? with
 |none=>rw [e] at hr;cases hr
 |some q=>
  rw [e] at hr
  have hq:zI q=r:=Option.some.inj hr
  subst hq
  have hj:=(List.getElem?_eq_some_iff.1 e).1
  have hnx:=h.nx
  rw [hn] at hnx
  obtain ⟨g,h1,h2,h3⟩:=owns1_at hnx (show j<nn by omega)
  obtain ⟨v,h4,h5⟩:=h.rows j q e
  obtain ⟨o,c2,rfl⟩:=owns_val h5
  refine ⟨g,0,o,c2,h1,h2,by rw [Nat.zero_add,h3,h4];unfold zI;rw [List.length_map],fun i x hx=> ?_⟩
  unfold zI at hx
  rw [List.getElem?_map] at hx
  cases e2:q[i]? with
  |none=>rw [e2] at hx;cases hx
  |some y=>
   rw [e2] at hx
   have hy:(y:Int)=x:=Option.some.inj hx
   obtain ⟨g3,k1,k2,k3⟩:=owns1_at h5 (List.getElem?_eq_some_iff.1 e2).1
   exact ⟨g3,0,k1,k2,by rw [Nat.zero_add,k3,←hy];unfold intC;rw [List.getElem?_map,e2];rfl⟩
theorem TbV.read {ao fo no:Option Addr} {na ac nf fc nn nc:Nat} (h:TbV w base (.slice ao na ac) (.slice fo nf fc) (.slice no nn nc) t rv) (hl:t.acts.length≤1000∧t.nx.length≤1000∧t.fl.length≤1000∧ ∀r∈t.nx,r.length≤1000):TbI w ao fo no ac t.z∧na=t.acts.length∧nf=t.fl.length∧nn=t.nx.length:=by
 have len: ∀{e n k c:Nat} {o:Option Addr} {xs:List Value},w.ownsRow base e 1 (.slice o n c) k xs→n=k∧k≤c:=fun {e n k c o xs} ho=>by
  obtain ⟨_,⟨hv,hn⟩|⟨g,cap,cur,hv,_,_,hle,_⟩⟩:=ho
  ·cases hv;exact ⟨hn.symm,by omega⟩
  ·cases hv;exact ⟨rfl,hle⟩
 obtain ⟨e1,k1⟩:=len h.acts
 obtain ⟨e2,_⟩:=len h.fl
 obtain ⟨e3,_⟩:=len h.nx
 have hrws:=h.rws e3.symm
 subst e1;subst e2;subst e3
 refine ⟨⟨fun j x hx=> ?_,fun j x hx=> ?_,hrws,k1, ?_, ?_, ?_,fun r hr=> ?_⟩,rfl,rfl,rfl⟩
 ·have hx':t.acts[j]? =some x:=hx
  have hj:=(List.getElem?_eq_some_iff.1 hx').1
  obtain ⟨g,h1,h2,h3⟩:=owns1_at h.acts hj
  exact ⟨g,0,h1,h2,by rw [Nat.zero_add,h3];unfold strsC;rw [List.getElem?_map,hx'];rfl⟩
 ·have hx':(zI t.fl)[j]? =some x:=hx
  unfold zI at hx'
  rw [List.getElem?_map] at hx'
  cases e:t.fl[j]? with
  |none=>rw [e] at hx';cases hx'
  |some f=>
   rw [e] at hx'
   have hf:(f:Int)=x:=Option.some.inj hx'
   have hj:=(List.getElem?_eq_some_iff.1 e).1
   obtain ⟨g,h1,h2,h3⟩:=owns1_at h.fl hj
   exact ⟨g,0,h1,h2,by rw [Nat.zero_add,h3,←hf];unfold intC;rw [List.getElem?_map,e];rfl⟩
 ·have:=hl.1;show t.acts.length≤_;omega
 ·show (zI t.fl).length≤_;unfold zI;rw [List.length_map];have:=hl.2.2.1;omega
 ·show (t.nx.map zI).length≤_;rw [List.length_map];have:=hl.2.1;omega
 ·have hr':r∈t.nx.map zI:=hr
  obtain ⟨q,hq,rfl⟩:=List.mem_map.1 hr'
  have:=hl.2.2.2 q hq
  unfold zI
  rw [List.length_map]
  omega
theorem TbV.toW (h:TbV w base A F X t rv) (hne: ∀r∈t.nx,1≤r.length):TbW w base A F X t rv:=by
 have hown: ∀v∈rv,∃g,v.ownBlock=some g:=fun v hv=>by
  obtain ⟨j,hj⟩:=List.mem_iff_getElem?.1 hv
  have hjl:j<t.nx.length:=by have:=(List.getElem?_eq_some_iff.1 hj).1;have:=h.rl;omega
  obtain ⟨u,h1,h2⟩:=h.rows j _ (List.getElem?_eq_getElem hjl)
  rw [hj] at h1
  cases h1
  obtain ⟨o,c,rfl⟩:=owns_val h2
  obtain ⟨g,rfl,_,_⟩:=owns1_at h2 (hne _ (List.getElem_mem hjl))
  exact ⟨g,rfl⟩
 refine ⟨h.acts,h.fl,h.nx,fun j r hr=> ?_,fun v hv e=> ?_,h.rr.imp_of_mem fun {a b} ha hb hab e=> ?_⟩
 ·obtain ⟨v,h1,h2⟩:=h.rows j r hr
  obtain ⟨o,c,rfl⟩:=owns_val h2
  obtain ⟨g,rfl,_,_⟩:=owns1_at h2 (hne r (List.mem_of_getElem? hr))
  exact ⟨g,c,h1,h2⟩
 ·obtain ⟨g,hg⟩:=hown v hv
  exact h.rf v hv g hg (e▸hg)
 ·obtain ⟨g,hg⟩:=hown a ha
  exact hab g hg (e▸hg)
end
theorem app1 {ops:Array Oper} {rest:List Oper} {o:Oper} {a:Act} {Q:Exit→Act→World→Prop} (hgd:o.guard=none) (s x:Operand) (t:TypeId) (ho:o.op= .call {callee:= .builtin .append,args:= #[s,x],argTypes:= #[t,t]}) (W:World) (base e:Nat) {z:Value} {bytes:Nat}
  (hT:(Tryz.prog.info? e).map (fun i=>(i.zero,i.size,i.bytes))=some (some z,1,bytes)) (hzs:z.cells.size=1) (ht:Tryz.prog.underlying t=some (.slice e)) {v:Value} {n:Nat} {xs:List Value} (hs:a.eval s=v) (u:Value) {H:Nat} (hx:a.eval x= .slice (some ⟨H,0,none⟩) 1 1) (hu:u.oneCell'=true) (hown:W.ownsRow base e 1 v n xs) (h63:(n+1) * (bytes+1)≤140737488355328) (hbase:base≤W.heap.size) (hH:W.heap.size=H)
  (h: ∀g cap w',w'.ownsRow base e 1 (.slice (some ⟨g,0,none⟩) (n+1) cap) (n+1) (xs++[u])→(W.alloc (.cells #[u] e)).grownBy w' v.ownBlock→(v.ownBlock=some g∨H<g)→wpList Tryz.prog ops Q rest (a.put o.dst (.slice (some ⟨g,0,none⟩) (n+1) cap)) w'):wpList Tryz.prog ops Q (o::rest) a (W.alloc (.cells #[u] e)):=by
 obtain ⟨i0,hi0,hz0,hz1,hz2⟩:=info_parts hT
 rw [Nat.mul_add,Nat.mul_one] at h63
 subst hH
 refine wpList_append_lies _ hgd s x t ho base e i0 z 1 bytes ht hi0 hz0 hz1 hz2 hzs (by decide) v n xs hs (hown.alloc _) ⟨W.heap.size,0,none⟩ 1 1 [u] hx rfl ?_ ?_ (by decide) ?_ ?_ ?_ (W.heap.size+1) (by simp) ?_
 ·intro j y hj
  match j,hj with
  |0,hj=>simp at hj;subst hj;exact cell_of_blk (blk_alloc' _ _ _ (by simp)) 0
  |j+1,hj=>simp at hj
 ·intro y hy;simp at hy;subst hy;exact hu
 ·unfold maxLen;omega
 ·omega
 ·simp;omega
 ·intro g cap w' h1 h2 h3 h4
  exact h g cap w' h1 h2 (h3.imp id (fun e=>by omega))
theorem stp1 {w:World} {ops:Array Oper} {o:Oper} {a:Act} {K:Act→World→Prop} {Q:Exit→Act→World→Prop} {E:Prop} (hgd:o.guard=none) (s x:Operand) (t:TypeId) (ho:o.op= .call {callee:= .builtin .append,args:= #[s,x],argTypes:= #[t,t]}) (base e:Nat) {z:Value} {bytes:Nat}
  (hT:(Tryz.prog.info? e).map (fun i=>(i.zero,i.size,i.bytes))=some (some z,1,bytes)) (hzs:z.cells.size=1) (ht:Tryz.prog.underlying t=some (.slice e)) {v:Value} {n:Nat} {xs:List Value} (hs:a.eval s=v) {H:Nat} (u:Value) (hx:a.eval x= .slice (some ⟨H,0,none⟩) 1 1) (hu:u.oneCell'=true) (hown:w.ownsRow base e 1 v n xs) (hb:w.heap[H]? =some (.cells #[u] e (0,0))) (h63:(n+1) * (bytes+1)≤140737488355328) (hbase:base≤w.heap.size)
  (h: ∀g cap w',w'.ownsRow base e 1 (.slice (some ⟨g,0,none⟩) (n+1) cap) (n+1) (xs++[u])→w.grownBy w' v.ownBlock→(v.ownBlock=some g∨w.heap.size≤g)→K (a.put o.dst (.slice (some ⟨g,0,none⟩) (n+1) cap)) w'):
  if Region.wanted o (yielded ops a.tmps)=true then Oper.wp Tryz.prog o a w K Q else E:=by
 obtain ⟨i0,hi0,hz0,hz1,hz2⟩:=info_parts hT
 rw [Nat.mul_add,Nat.mul_one] at h63
 refine step_append_lies _ hgd s x t ho base e i0 z 1 bytes ht hi0 hz0 hz1 hz2 hzs (by decide) v n xs hs hown ⟨H,0,none⟩ 1 1 [u] hx rfl (World.news_of_block hb) ?_ (by decide) ?_ ?_ hbase w.heap.size rfl ?_
 ·intro y hy;simp at hy;subst hy;exact hu
 ·unfold maxLen;omega
 ·omega
 ·intro g cap w' h1 h2 h3 h4
  exact h g cap w' h1 h2 (h3.imp id (fun e=>by omega))
end Go.Proofs.YtidakhhekofkoaaGreatDoor
