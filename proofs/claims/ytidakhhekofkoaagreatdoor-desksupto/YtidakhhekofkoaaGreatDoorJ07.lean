/- The reference's parser in memory, and its smallest functions. -/
import Derived.Test.YtidakhhekofkoaaGreatDoorJ05
import Derived.Test.YtidakhhekofkoaaGreatDoorJ04
import Derived.Maps.AppendAt
set_option linter.unusedSimpArgs false
namespace Go.Proofs.YtidakhhekofkoaaGreatDoor
open Go.RowKit Go.Deep
structure PS (w:World) (pb g cap:Nat) (L:List Tk) (i:Nat) (bad:Bool):Prop where
 blk:w.heap[pb]? =some (.cells #[.slice (some ⟨g,0,none⟩) L.length cap,.int .i64 i,.bool bad] 325 (0,0))
 row: ∃cur,w.heap[g]? =some (.cells cur 232 (0,0))∧cur.toList.take (L.length * 3)=tkCellsR L
 le:L.length≤cap
 capLe:cap≤maxLen
 len:L.length≤401
 lt:i<L.length
 ends:Ends (L.drop i)
 ok: ∀t∈L,TkOk t
theorem cell_of_blk {w:World} {b ty:Nat} {c:Array Value} {m:Nat × Nat} (h:w.heap[b]? =some (.cells c ty m)) (o:Nat):w.cell? ⟨b,o,none⟩=c[o]? :=by
 simp [World.cell?,h]
theorem frozen_of_blk {w:World} {b ty:Nat} {c:Array Value} (h:w.heap[b]? =some (.cells c ty (0,0))) (o:Nat):w.frozen? ⟨b,o,none⟩=false:=by
 simp [World.frozen?,h]
theorem lt_of_blk {w:World} {b:Nat} {o:Obj} (h:w.heap[b]? =some o):b<w.heap.size:=by
 rcases Nat.lt_or_ge b w.heap.size with h'|h'
 ·exact h'
 ·rw [Array.getElem?_eq_none h'] at h;cases h
theorem blk_alloc (w:World) (o:Obj):(w.alloc o).heap[w.heap.size]? =some o:=by
 show (w.heap.push o)[w.heap.size]? =_
 rw [Array.getElem?_push,if_pos rfl]
theorem tkCells_at (L:List Tk) (i:Nat) (t:Tk) (r:List Tk) (h:L.drop i=t::r):
  (tkCellsR L)[i * 3]? =some (.int .u8 (refK t.k))∧(tkCellsR L)[i * 3+1]? =some (.string t.s)∧(tkCellsR L)[i * 3+2]? =some (.int .i64 t.p):=by
 induction L generalizing i with
 |nil=>simp at h
 |cons u L ih=>
  cases i with
  |zero=>simp at h;obtain ⟨rfl,rfl⟩:=h;simp [tkCellsR]
  |succ i=>
   have:=ih i (by simpa using h)
   have e:tkCellsR (u::L)=[.int .u8 (refK u.k),.string u.s,.int .i64 u.p]++tkCellsR L:=by simp [tkCellsR]
   rw [e]
   refine ⟨?_, ?_, ?_⟩
   ·rw [List.getElem?_append_right (by simp;omega)];simpa [Nat.add_mul] using this.1
   ·rw [List.getElem?_append_right (by simp;omega)]
    have e2:(i+1) * 3+1 - 3=i * 3+1:=by omega
    simpa [e2] using this.2.1
   ·rw [List.getElem?_append_right (by simp;omega)]
    have e2:(i+1) * 3+2 - 3=i * 3+2:=by omega
    simpa [e2] using this.2.2
theorem PS.cells {w:World} {pb g cap:Nat} {L:List Tk} {i:Nat} {bad:Bool} (h:PS w pb g cap L i bad):
  w.cell? ⟨pb,0,none⟩=some (.slice (some ⟨g,0,none⟩) L.length cap)∧w.cell? ⟨pb,1,none⟩=some (.int .i64 i)∧w.cell? ⟨pb,2,none⟩=some (.bool bad):=by
 refine ⟨?_, ?_, ?_⟩<;>rw [cell_of_blk h.blk]<;>rfl
theorem PS.tok {w:World} {pb g cap:Nat} {L:List Tk} {i:Nat} {bad:Bool} (h:PS w pb g cap L i bad) (j:Nat) (t:Tk) (r:List Tk) (ht:L.drop j=t::r):
  w.cell? ⟨g,j * 3,none⟩=some (.int .u8 (refK t.k))∧w.cell? ⟨g,j * 3+1,none⟩=some (.string t.s)∧w.cell? ⟨g,j * 3+2,none⟩=some (.int .i64 t.p):=by
 obtain ⟨cur,h1,h2⟩:=h.row
 have h3:=tkCells_at L j t r ht
 have hj:j<L.length:=by
  rcases Nat.lt_or_ge j L.length with h|h
  ·exact h
  ·rw [List.drop_eq_nil_of_le h] at ht;cases ht
 rw [←h2,List.getElem?_take,List.getElem?_take,List.getElem?_take,if_pos (by omega),if_pos (by omega),if_pos (by omega)] at h3
 refine ⟨?_, ?_, ?_⟩<;>rw [cell_of_blk h1,←Array.getElem?_toList]
 ·exact h3.1
 ·exact h3.2.1
 ·exact h3.2.2
set_option maxHeartbeats 400000 in
theorem now_any (w:World) (pb g cap:Nat) (L:List Tk) (i:Nat) (bad:Bool) (t:Tk) (r:List Tk) (h:PS w pb g cap L i bad) (ht:L.drop i=t::r):
  Calls Tryz.prog 201 #[.pointer (some ⟨pb,0,none⟩)] w fun e w'=>e= .returned (tkR t)∧Below w.heap.size w w':=by
 obtain ⟨c0,c1,c2⟩:=h.cells
 obtain ⟨t0,t1,t2⟩:=h.tok i t r ht
 have hlt:=h.lt
 have hp:=lt_of_blk h.blk
 have hg:g<w.heap.size:=by obtain ⟨cur,h1,_⟩:=h.row;exact lt_of_blk h1
 go_enter Tryz.func201,Tryz.ntmps201
 go_wp2
 go_region
 go_wp2
 exact bodyPost_ret (v:=tkR t) (by simp [results,Tryz.results201,go_sem,tkR]) rfl ⟨rfl,((Below.refl _ _).alloc (Nat.le_refl _) _).drew⟩
theorem drop_mem {L:List Tk} {i:Nat} {t:Tk} {r:List Tk} (h:L.drop i=t::r):t∈L:=List.mem_of_mem_drop (i:=i) (by rw [h];exact List.mem_cons_self)
theorem refK_o (k:Nat) (h:k≤21):((refK k==111)||(refK k==119))=decide (4≤k):=by
 unfold refK;repeat' split
 all_goals simp_all
 all_goals omega
theorem PS.later {w w':World} {pb g cap:Nat} {L:List Tk} {i:Nat} {bad:Bool} (h:PS w pb g cap L i bad) (hb:Below w.heap.size w w'):PS w' pb g cap L i bad:=by
 obtain ⟨cur,h1,h2⟩:=h.row
 exact ⟨by rw [hb.block pb (lt_of_blk h.blk)];exact h.blk,⟨cur,by rw [hb.block g (lt_of_blk h1)];exact h1,h2⟩,h.le,h.capLe,h.len,h.lt,h.ends,h.ok⟩
theorem PS.ne {w:World} {pb g cap:Nat} {L:List Tk} {i:Nat} {bad:Bool} (h:PS w pb g cap L i bad):g≠pb:=by
 rintro rfl
 obtain ⟨cur,h1,_⟩:=h.row
 have h2:=h.blk
 rw [h1] at h2
 simp at h2
theorem blk_set {w:World} {b ty:Nat} {c:Array Value} {m:Nat × Nat} (h:w.heap[b]? =some (.cells c ty m)) (o:Nat) (v:Value):(w.setCell ⟨b,o,none⟩ v).heap[b]? =some (.cells (c.setIfInBounds o v) ty m):=by
 simp [World.setCell,Array.getElem?_modify,h]
theorem grown_set (w:World) (b o:Nat) (v:Value):w.grownBy (w.setCell ⟨b,o,none⟩ v) (some b):=
 ⟨rfl,rfl,rfl,by simp [World.setCell],fun k _ hk=>Below.heap_setCell _ _ _ _ (by intro e;exact hk (by rw [e]))⟩
theorem grown_below {w w':World} (h:Below w.heap.size w w') (row:Option Nat):w.grownBy w' row:=⟨h.os,h.tape,h.output,h.size,fun k hk _=>h.block k hk⟩
theorem PS.setI {w:World} {pb g cap:Nat} {L:List Tk} {i:Nat} {bad:Bool} (h:PS w pb g cap L i bad) {t u:Tk} {r:List Tk} (ht:L.drop i=t::u::r):
  PS (w.setCell ⟨pb,1,none⟩ (.int .i64 ((i:Int)+1))) pb g cap L (i+1) bad:=by
 obtain ⟨cur,h1,h2⟩:=h.row
 have hd:L.drop (i+1)=u::r:=by rw [←List.drop_drop,ht];rfl
 refine ⟨?_,⟨cur,by rw [Below.heap_setCell _ _ _ _ h.ne];exact h1,h2⟩,h.le,h.capLe,h.len, ?_, ?_,h.ok⟩
 ·rw [blk_set h.blk];simp
 ·have:=congrArg List.length hd;simp at this;omega
 ·rw [hd];have:=h.ends;rw [ht] at this;exact this.2
theorem PS.setBad {w:World} {pb g cap:Nat} {L:List Tk} {i:Nat} {bad:Bool} (h:PS w pb g cap L i bad):PS (w.setCell ⟨pb,2,none⟩ (.bool true)) pb g cap L i true:=by
 obtain ⟨cur,h1,h2⟩:=h.row
 refine ⟨?_,⟨cur,by rw [Below.heap_setCell _ _ _ _ h.ne];exact h1,h2⟩,h.le,h.capLe,h.len,h.lt,h.ends,h.ok⟩
 rw [blk_set h.blk];simp
theorem PS.setOther {w:World} {pb g cap:Nat} {L:List Tk} {i:Nat} {bad:Bool} (h:PS w pb g cap L i bad) (b o:Nat) (v:Value) (h1:b≠pb) (h2:b≠g):PS (w.setCell ⟨b,o,none⟩ v) pb g cap L i bad:=by
 obtain ⟨cur,r1,r2⟩:=h.row
 exact ⟨by rw [Below.heap_setCell _ _ _ _ (Ne.symm h1)];exact h.blk,⟨cur,by rw [Below.heap_setCell _ _ _ _ (Ne.symm h2)];exact r1,r2⟩,h.le,h.capLe,h.len,h.lt,h.ends,h.ok⟩
theorem PS.alloc {w:World} {pb g cap:Nat} {L:List Tk} {i:Nat} {bad:Bool} (h:PS w pb g cap L i bad) (o:Obj):PS (w.alloc o) pb g cap L i bad:=h.later ((Below.refl _ _).alloc (Nat.le_refl _) _)
theorem PS.gLt {w:World} {pb g cap:Nat} {L:List Tk} {i:Nat} {bad:Bool} (h:PS w pb g cap L i bad):g<w.heap.size:=by obtain ⟨cur,h1,_⟩:=h.row;exact lt_of_blk h1
theorem grown_setNew {w w':World} {row:Option Nat} (h:w.grownBy w' row) {b:Nat} (hb:w.heap.size≤b) (o:Nat) (v:Value):w.grownBy (w'.setCell ⟨b,o,none⟩ v) row:=
 ⟨h.os,h.tape,h.output,by simpa [World.setCell] using h.size,fun k hk hr=>(Below.heap_setCell _ _ _ _ (by show k≠b;omega)).trans (h.block k hk hr)⟩
theorem grown_alloc {w w':World} {row:Option Nat} (h:w.grownBy w' row) (o:Obj):w.grownBy (w'.alloc o) row:=h.trans (World.grownBy_alloc _ _ _)
set_option maxHeartbeats 400000 in
theorem fail_any (w:World) (pb g cap:Nat) (L:List Tk) (i:Nat) (bad:Bool) (h:PS w pb g cap L i bad):
  Calls Tryz.prog 280 #[.pointer (some ⟨pb,0,none⟩)] w fun e w'=>e= .returned (.tuple #[])∧PS w' pb g cap L i true∧w.grownBy w' (some pb):=by
 obtain ⟨c0,c1,c2⟩:=h.cells
 have hf:=frozen_of_blk h.blk 2
 have HP:Hid (PS (w.setCell ⟨pb,2,none⟩ (.bool true)) pb g cap L i true):=h.setBad
 go_enter Tryz.func280,Tryz.ntmps280
 go_wp2
 go_end0
 exact ⟨rfl,HP.out,grown_set _ _ _ _⟩
set_option maxHeartbeats 400000 in
theorem is_any (s:ByteArray) (k:Nat) (w:World) (pb g cap:Nat) (L:List Tk) (i:Nat) (bad:Bool) (t:Tk) (r:List Tk) (h:PS w pb g cap L i bad) (ht:L.drop i=t::r)
  (hs:s.data.toList=kText k) (hk:4≤k) (hk':k≤21):
  Calls Tryz.prog 281 #[.pointer (some ⟨pb,0,none⟩),.string s] w fun e w'=>e= .returned (.bool (!bad&&t.k==k))∧Below w.heap.size w w':=by
 have hok:=h.ok t (drop_mem ht)
 have hres:(!bad&&(((refK t.k==111)||(refK t.k==119))&&(t.s.toList==s.toList)))=(!bad&&t.k==k):=by
  congr 1
  rw [refK_o _ hok.1,ByteArray.toList_eq,ByteArray.toList_eq,hs]
  by_cases h4:4≤t.k
  ·rw [hok.2.1 h4]
   simp only [h4,decide_true,Bool.true_and]
   rw [Bool.eq_iff_iff];simp only [beq_iff_eq]
   exact ⟨fun e=>kText_eq hok.1 hk' h4 hk e,fun e=>by rw [e]⟩
  ·simp only [h4,decide_false,Bool.false_and]
   symm;rw [beq_eq_false_iff_ne];omega
 have HR:=hide hres
 have HPS:=hide h
 have hp:=lt_of_blk h.blk
 have HT:=hide ht
 clear hres hok hs h ht
 go_enter Tryz.func281,Tryz.ntmps281
 go_wp2_with (go_at_call 201;refine (now_any _ _ _ _ _ _ _ _ _ (unhide HPS) (unhide HT)).mono ?_)
 rintro e w1 ⟨rfl,hb⟩
 simp only [tkR]
 obtain ⟨c0,c1,c2⟩:=((unhide HPS).later hb).cells
 have hp1:=lt_of_blk ((unhide HPS).later hb).blk
 have HB:=hide hb
 clear hb
 cases bad
 ·go_wp2
  all_goals
   go_ret
   refine ⟨ret_bool ?_,(unhide HB).alloc (unhide HB).size _⟩
   rw [←unhide HR]
   simp [*]
 ·go_wp2
  go_ret
  exact ⟨rfl,(unhide HB).alloc (unhide HB).size _⟩
set_option maxHeartbeats 400000 in
theorem take_yes (s:ByteArray) (k:Nat) (w:World) (pb g cap:Nat) (L:List Tk) (i:Nat) (t u:Tk) (r:List Tk) (h:PS w pb g cap L i false) (ht:L.drop i=t::u::r)
  (hs:s.data.toList=kText k) (hk:4≤k) (hk':k≤21) (e:t.k=k):
  Calls Tryz.prog 247 #[.pointer (some ⟨pb,0,none⟩),.string s] w fun e w'=>e= .returned (.bool true)∧PS w' pb g cap L (i+1) false∧w.grownBy w' (some pb):=by
 have HPS:=hide h
 have HT:=hide ht
 have he:(t.k==k)=true:=by simp [e]
 have hlt:=h.lt
 have hlen:=h.len
 have HSS:=hide hs
 clear h ht e hs
 go_enter Tryz.func247,Tryz.ntmps247
 go_wp2_with (go_at_call 281;refine (is_any _ k _ _ _ _ _ _ _ _ _ (unhide HPS) (unhide HT) (unhide HSS) hk hk').mono ?_)
 rintro e w1 ⟨rfl,hb⟩
 have HPS1:=hide ((unhide HPS).later hb)
 obtain ⟨c0,c1,c2⟩:=(unhide HPS1).cells
 have hf:=frozen_of_blk (unhide HPS1).blk 1
 have HB:=hide hb
 simp only [he,Bool.not_false,Bool.true_and]
 clear hb
 go_wp2
 go_ret
 exact ⟨rfl,(unhide HPS1).setI (unhide HT),(grown_below (unhide HB) _).trans (grown_set _ _ _ _)⟩
set_option maxHeartbeats 400000 in
theorem take_no (s:ByteArray) (k:Nat) (w:World) (pb g cap:Nat) (L:List Tk) (i:Nat) (bad:Bool) (t:Tk) (r:List Tk) (h:PS w pb g cap L i bad) (ht:L.drop i=t::r)
  (hs:s.data.toList=kText k) (hk:4≤k) (hk':k≤21) (e:bad=true∨t.k≠k):
  Calls Tryz.prog 247 #[.pointer (some ⟨pb,0,none⟩),.string s] w fun e w'=>e= .returned (.bool false)∧PS w' pb g cap L i bad∧w.grownBy w' (some pb):=by
 have HPS:=hide h
 have HT:=hide ht
 have he:(!bad&&t.k==k)=false:=by rcases e with rfl|e<;>simp [*]
 have HSS:=hide hs
 clear h ht e hs
 go_enter Tryz.func247,Tryz.ntmps247
 go_wp2_with (go_at_call 281;refine (is_any _ k _ _ _ _ _ _ _ _ _ (unhide HPS) (unhide HT) (unhide HSS) hk hk').mono ?_)
 rintro e w1 ⟨rfl,hb⟩
 have HPS1:=hide ((unhide HPS).later hb)
 have HB:=hide hb
 rw [he]
 clear hb
 go_wp2
 go_ret
 exact ⟨rfl,unhide HPS1,grown_below (unhide HB) _⟩
set_option maxHeartbeats 400000 in
theorem must_yes (s:ByteArray) (k:Nat) (w:World) (pb g cap:Nat) (L:List Tk) (i:Nat) (t u:Tk) (r:List Tk) (h:PS w pb g cap L i false) (ht:L.drop i=t::u::r)
  (hs:s.data.toList=kText k) (hk:4≤k) (hk':k≤21) (e:t.k=k):
  Calls Tryz.prog 245 #[.pointer (some ⟨pb,0,none⟩),.string s] w fun e w'=>e= .returned (.tuple #[])∧PS w' pb g cap L (i+1) false∧w.grownBy w' (some pb):=by
 have HPS:=hide h
 have HT:=hide ht
 have HSS:=hide hs
 have HE:=hide e
 clear h ht e hs
 go_enter Tryz.func245,Tryz.ntmps245
 go_wp2_with (go_at_call 247;refine (take_yes _ k _ _ _ _ _ _ _ _ _ (unhide HPS) (unhide HT) (unhide HSS) hk hk' (unhide HE)).mono ?_)
 rintro e w1 ⟨rfl,hp,hg⟩
 have HP:=hide hp
 have HG:=hide hg
 clear hp hg
 go_wp2_with fail
 go_end0
 exact ⟨rfl,unhide HP,unhide HG⟩
set_option maxHeartbeats 400000 in
theorem must_no (s:ByteArray) (k:Nat) (w:World) (pb g cap:Nat) (L:List Tk) (i:Nat) (bad:Bool) (t:Tk) (r:List Tk) (h:PS w pb g cap L i bad) (ht:L.drop i=t::r)
  (hs:s.data.toList=kText k) (hk:4≤k) (hk':k≤21) (e:bad=true∨t.k≠k):
  Calls Tryz.prog 245 #[.pointer (some ⟨pb,0,none⟩),.string s] w fun e w'=>e= .returned (.tuple #[])∧PS w' pb g cap L i true∧w.grownBy w' (some pb):=by
 have HPS:=hide h
 have HT:=hide ht
 have HSS:=hide hs
 have HE:=hide e
 clear h ht e hs
 go_enter Tryz.func245,Tryz.ntmps245
 go_wp2_with (go_at_call 247;refine (take_no _ k _ _ _ _ _ _ _ _ _ (unhide HPS) (unhide HT) (unhide HSS) hk hk' (unhide HE)).mono ?_)
 rintro e w1 ⟨rfl,hp,hg⟩
 have HP:=hide hp
 have HG:=hide hg
 clear hp hg
 go_wp2_with (go_at_call 280;refine (fail_any _ _ _ _ _ _ _ (unhide HP)).mono ?_)
 rintro e w2 ⟨rfl,hp2,hg2⟩
 have HP2:=hide hp2
 have HG2:=hide hg2
 clear hp2 hg2
 go_wp2_with fail
 go_end0
 exact ⟨rfl,unhide HP2,(unhide HG).trans (unhide HG2)⟩
theorem refK_n (k:Nat):(refK k !=110)= !(k==2):=by
 unfold refK;repeat' split
 all_goals simp_all
set_option maxHeartbeats 400000 in
theorem name_yes (w:World) (pb g cap:Nat) (L:List Tk) (i:Nat) (t u:Tk) (r:List Tk) (h:PS w pb g cap L i false) (ht:L.drop i=t::u::r) (e:t.k=2):
  Calls Tryz.prog 246 #[.pointer (some ⟨pb,0,none⟩)] w fun e w'=>e= .returned (tkR t)∧PS w' pb g cap L (i+1) false∧w.grownBy w' (some pb):=by
 have HPS:=hide h
 have HT:=hide ht
 have hp:=lt_of_blk h.blk
 have he:(refK t.k !=110)=false:=by rw [refK_n];simp [e]
 have hlt:=h.lt
 have hlen:=h.len
 clear h ht e
 go_enter Tryz.func246,Tryz.ntmps246
 go_wp2_with (go_at_call 201;refine (now_any _ _ _ _ _ _ _ _ _ ((unhide HPS).later ?b) (unhide HT)).mono ?_)
 case b=>exact (Below.refl _ _).alloc (Nat.le_refl _) _
 rintro e w1 ⟨rfl,hb⟩
 simp only [tkR]
 have HPS1:=hide (((unhide HPS).later ((Below.refl _ _).alloc (Nat.le_refl _) (.cells #[.int .u8 0,.string ⟨#[]⟩,.int .i64 0] 232))).later hb)
 obtain ⟨c0,c1,c2⟩:=(unhide HPS1).cells
 have hf:=frozen_of_blk (unhide HPS1).blk 1
 have hp1:=lt_of_blk (unhide HPS1).blk
 have hz:w.heap.size<w1.heap.size:=by have:=hb.size;simp at this;omega
 have hrb:w1.heap[w.heap.size]? =some (.cells #[.int .u8 0,.string ⟨#[]⟩,.int .i64 0] 232 (0,0)):=(hb.block _ (by simp)).trans (blk_alloc _ _)
 have r0:=cell_of_blk hrb 0
 have r1:=cell_of_blk hrb 1
 have r2:=cell_of_blk hrb 2
 have f0:=frozen_of_blk hrb 0
 have f1:=frozen_of_blk hrb 1
 have f2:=frozen_of_blk hrb 2
 have HG:=hide (grown_below (((Below.refl w.heap.size w).alloc (Nat.le_refl _) _).trans (hb.mono (by simp))) (some pb))
 have hne:pb≠w.heap.size:=by omega
 simp at r0 r1 r2
 clear hb hrb
 go_wp2
 have hgl:=(unhide HPS).gLt
 refine bodyPost_ret (v:=tkR t) ?_ rfl ⟨rfl, ?_, ?_⟩
 ·simp [results,Tryz.results246,go_sem,tkR,hz,r0,r1,r2]
 ·exact (((((unhide HPS1).setI (unhide HT)).setOther _ _ _ (by omega) (by omega)).setOther _ _ _ (by omega) (by omega)).setOther _ _ _ (by omega) (by omega)).alloc _
 ·exact grown_alloc (grown_setNew (grown_setNew (grown_setNew ((unhide HG).trans (grown_set _ _ _ _)) (Nat.le_refl _) _ _) (Nat.le_refl _) _ _) (Nat.le_refl _) _ _) _
set_option maxHeartbeats 400000 in
theorem name_no (w:World) (pb g cap:Nat) (L:List Tk) (i:Nat) (bad:Bool) (t:Tk) (r:List Tk) (h:PS w pb g cap L i bad) (ht:L.drop i=t::r) (e:bad=true∨t.k≠2):
  Calls Tryz.prog 246 #[.pointer (some ⟨pb,0,none⟩)] w fun e w'=>e= .returned (tkR t)∧PS w' pb g cap L i true∧w.grownBy w' (some pb):=by
 have HPS:=hide h
 have HT:=hide ht
 have he:bad=false→(refK t.k !=110)=true:=by intro hb;rcases e with e|e<;>simp_all [refK_n]
 clear h ht e
 go_enter Tryz.func246,Tryz.ntmps246
 go_wp2_with (go_at_call 201;refine (now_any _ _ _ _ _ _ _ _ _ ((unhide HPS).later ?b) (unhide HT)).mono ?_)
 case b=>exact (Below.refl _ _).alloc (Nat.le_refl _) _
 rintro e w1 ⟨rfl,hb⟩
 simp only [tkR]
 have HPS1:=hide (((unhide HPS).later ((Below.refl _ _).alloc (Nat.le_refl _) (.cells #[.int .u8 0,.string ⟨#[]⟩,.int .i64 0] 232))).later hb)
 obtain ⟨c0,c1,c2⟩:=(unhide HPS1).cells
 have hp1:=lt_of_blk (unhide HPS1).blk
 have hz:w.heap.size<w1.heap.size:=by have:=hb.size;simp at this;omega
 have hrb:w1.heap[w.heap.size]? =some (.cells #[.int .u8 0,.string ⟨#[]⟩,.int .i64 0] 232 (0,0)):=(hb.block _ (by simp)).trans (blk_alloc _ _)
 have HG:=hide (grown_below (((Below.refl w.heap.size w).alloc (Nat.le_refl _) _).trans (hb.mono (by simp))) (some pb))
 have HRB:=hide hrb
 have hpne:pb<w.heap.size:=lt_of_blk (unhide HPS).blk
 clear hb hrb
 cases bad
 ·have he':=he rfl
  clear he
  go_wp2_with (go_at_call 280;refine (fail_any _ _ _ _ _ _ _ ((unhide HPS1).alloc _)).mono ?_)
  rintro e w2 ⟨rfl,hp2,hg2⟩
  have hrb2:w2.heap[w.heap.size]? =some (.cells #[.int .u8 0,.string ⟨#[]⟩,.int .i64 0] 232 (0,0)):=
   (hg2.block _ (by simp;omega) (by simp;omega)).trans ((Below.heap_alloc _ _ _ hz).trans (unhide HRB))
  have hbx2:w2.heap[w1.heap.size]? =some (.cells #[.int .u8 (refK t.k),.string t.s,.int .i64 t.p] 232 (0,0)):=
   (hg2.block _ (by simp) (by simp;omega)).trans (blk_alloc _ _)
  have r0:=cell_of_blk hrb2 0
  have r1:=cell_of_blk hrb2 1
  have r2:=cell_of_blk hrb2 2
  have f0:=frozen_of_blk hrb2 0
  have f1:=frozen_of_blk hrb2 1
  have f2:=frozen_of_blk hrb2 2
  have b0:=cell_of_blk hbx2 0
  have b1:=cell_of_blk hbx2 1
  have b2:=cell_of_blk hbx2 2
  have HP2:=hide hp2
  have HG2:=hide ((grown_alloc (unhide HG) _).trans hg2)
  have hz2:w1.heap.size<w2.heap.size:=lt_of_blk hbx2
  simp at r0 r1 r2 b0 b1 b2
  clear hp2 hg2 hrb2 hbx2 c0 c1 c2
  go_wp2
  have hgl:=(unhide HPS).gLt
  refine bodyPost_ret (v:=tkR t) ?_ rfl ⟨rfl, ?_, ?_⟩
  ·simp [results,Tryz.results246,go_sem,tkR,r0,r1,r2]
  ·exact (((unhide HP2).setOther _ _ _ (by omega) (by omega)).setOther _ _ _ (by omega) (by omega)).setOther _ _ _ (by omega) (by omega)
  ·exact grown_setNew (grown_setNew (grown_setNew (unhide HG2) (Nat.le_refl _) _ _) (Nat.le_refl _) _ _) (Nat.le_refl _) _ _
 ·clear he
  go_wp2_with (go_at_call 280;refine (fail_any _ _ _ _ _ _ _ ((unhide HPS1).alloc _)).mono ?_)
  rintro e w2 ⟨rfl,hp2,hg2⟩
  have hrb2:w2.heap[w.heap.size]? =some (.cells #[.int .u8 0,.string ⟨#[]⟩,.int .i64 0] 232 (0,0)):=
   (hg2.block _ (by simp;omega) (by simp;omega)).trans ((Below.heap_alloc _ _ _ hz).trans (unhide HRB))
  have hbx2:w2.heap[w1.heap.size]? =some (.cells #[.int .u8 (refK t.k),.string t.s,.int .i64 t.p] 232 (0,0)):=
   (hg2.block _ (by simp) (by simp;omega)).trans (blk_alloc _ _)
  have r0:=cell_of_blk hrb2 0
  have r1:=cell_of_blk hrb2 1
  have r2:=cell_of_blk hrb2 2
  have f0:=frozen_of_blk hrb2 0
  have f1:=frozen_of_blk hrb2 1
  have f2:=frozen_of_blk hrb2 2
  have b0:=cell_of_blk hbx2 0
  have b1:=cell_of_blk hbx2 1
  have b2:=cell_of_blk hbx2 2
  have HP2:=hide hp2
  have HG2:=hide ((grown_alloc (unhide HG) _).trans hg2)
  have hz2:w1.heap.size<w2.heap.size:=lt_of_blk hbx2
  simp at r0 r1 r2 b0 b1 b2
  clear hp2 hg2 hrb2 hbx2 c0 c1 c2
  go_wp2
  have hgl:=(unhide HPS).gLt
  refine bodyPost_ret (v:=tkR t) ?_ rfl ⟨rfl, ?_, ?_⟩
  ·simp [results,Tryz.results246,go_sem,tkR,r0,r1,r2]
  ·exact (((unhide HP2).setOther _ _ _ (by omega) (by omega)).setOther _ _ _ (by omega) (by omega)).setOther _ _ _ (by omega) (by omega)
  ·exact grown_setNew (grown_setNew (grown_setNew (unhide HG2) (Nat.le_refl _) _ _) (Nat.le_refl _) _ _) (Nat.le_refl _) _ _
def refO (k:Nat):Int:=if k=0 then 97 else if k=1 then 116 else if k=2 then 102 else if k=3 then 101 else if k=4 then 33 else if k=5 then 88 else if k=6 then 78 else if k=7 then 70 else if k=8 then 71 else if k=9 then 85 else if k=10 then 38 else if k=11 then 124 else 62
def IsF (w:World):Fm→Option Addr→Prop
 | .nil,p=>p=none
 | .node _ _ a l r,p=> ∃b pl pr,p=some ⟨b,0,none⟩∧w.heap[b]? =some (.cells #[.int .u8 (refO a.1),.string a.2.1,.int .i64 a.2.2,.pointer pl,.pointer pr] 292 (0,0))∧IsF w l pl∧IsF w r pr
theorem IsF.keep {w w':World} {row:Option Nat} (hg:w.grownBy w' row) (hr: ∀k c m,row=some k→w.heap[k]? ≠some (.cells c 292 m)): ∀{f:Fm} {v:Option Addr},IsF w f v→IsF w' f v
 | .nil,_,h=>h
 | .node _ _ _ _ _,_,⟨b,vl,vr,hv,hb,hl,hr'⟩=>⟨b,vl,vr,hv,(hg.block b (lt_of_blk hb) (fun e=>hr b _ _ e.symm hb)).trans hb,IsF.keep hg hr hl,IsF.keep hg hr hr'⟩
theorem IsF.keepP {w w':World} {pb g cap:Nat} {L:List Tk} {i:Nat} {bad:Bool} (h:PS w pb g cap L i bad) (hg:w.grownBy w' (some pb)) {f:Fm} {v:Option Addr} (hf:IsF w f v):IsF w' f v:=
 hf.keep hg (fun k c m e=>by cases e;rw [h.blk];simp)
theorem IsF.later {w w':World} (hb:Below w.heap.size w w') {f:Fm} {v:Option Addr} (hf:IsF w f v):IsF w' f v:=
 hf.keep (grown_below hb none) (fun k c m e=>by cases e)
set_option maxHeartbeats 400000 in
theorem two_any (k:Nat) (c:Int) (f g:Fm) (vf vg:Option Addr) (w:World) (hf:IsF w f vf) (hg:IsF w g vg) (hc:c=refO k):
  Calls Tryz.prog 252 #[.int .u8 c,.pointer vf,.pointer vg] w fun e w'=> ∃v,e= .returned (.pointer v)∧IsF w' (two k f g) v∧Below w.heap.size w w':=by
 subst hc
 have HF:=hide hf
 have HG:=hide hg
 clear hf hg
 go_enter Tryz.func252,Tryz.ntmps252
 go_wp2
 go_ret
 have hb:Below w.heap.size w (w.alloc (.cells #[.int .u8 (refO k),.string ⟨#[]⟩,.int .i64 0,.pointer vf,.pointer vg] 292)):=(Below.refl _ _).alloc (Nat.le_refl _) _
 exact ⟨_,rfl,⟨w.heap.size,vf,vg,rfl,blk_alloc _ _,(unhide HF).later hb,(unhide HG).later hb⟩,hb⟩
def Left (L:List Tk) (pb g cap:Nat) (w w':World) (e:Ending) (x:Rd):Prop:=
 w.grownBy w' (some pb)∧ ∃p,e= .returned (.pointer p)∧(match x with
  | .ok (f,l)=>IsF w' f p∧ ∃i,L.drop i=l∧PS w' pb g cap L i false
  | .error q=> ∃i,headP (L.drop i)=q∧PS w' pb g cap L i true)
theorem drop_ne {L:List Tk} {i:Nat} (h:i<L.length): ∃t r,L.drop i=t::r:=by
 cases hd:L.drop i with
 |nil=>have:=congrArg List.length hd;simp at this;omega
 |cons t r=>exact ⟨t,r,rfl⟩
end Go.Proofs.YtidakhhekofkoaaGreatDoor
namespace Go.Proofs.YtidakhhekofkoaaGreatDoor
def stepP (k:Nat) (inside more y u v u' x:Bool):Bool:=
 if k=0 then inside&&y else if k=1 then true else if k=2 then false else if k=3 then !inside else if k=4 then !u
 else if k=5 then more&&u' else if k=6 then !more||u' else if k=7 then inside&&(u||x) else if k=8 then !inside||(u&&x)
 else if k=9 then inside&&(v||(u&&x)) else if k=10 then u&&v else if k=11 then u||v else !u||v
end Go.Proofs.YtidakhhekofkoaaGreatDoor
namespace Go.Proofs.YtidakhhekofkoaaGreatDoor
open Go.RowKit Go.Deep
def fsignsC:Array Value:= #[.string ⟨#[]⟩,.string ⟨#[116,114,117,101]⟩,.string ⟨#[102,97,108,115,101]⟩,.string ⟨#[101,110,100]⟩,.string ⟨#[33]⟩,.string ⟨#[88]⟩,.string ⟨#[78]⟩,.string ⟨#[70]⟩,.string ⟨#[71]⟩,.string ⟨#[85]⟩,.string ⟨#[38]⟩,.string ⟨#[124]⟩,.string ⟨#[45,62]⟩]
def wordsC:Array Value:= #[.string ⟨#[97,99,116,115]⟩,.int .i64 4,.string ⟨#[114,117,108,101]⟩,.int .i64 5,.string ⟨#[116,114,117,101]⟩,.int .i64 6,.string ⟨#[102,97,108,115,101]⟩,.int .i64 7,.string ⟨#[101,110,100]⟩,.int .i64 8]
def rsignsC:Array Value:= #[.string ⟨#[88]⟩,.int .i64 9,.string ⟨#[78]⟩,.int .i64 10,.string ⟨#[70]⟩,.int .i64 11,.string ⟨#[71]⟩,.int .i64 12,.string ⟨#[85]⟩,.int .i64 13,.string ⟨#[45,62]⟩,.int .i64 14,.string ⟨#[124]⟩,.int .i64 15,.string ⟨#[38]⟩,.int .i64 16,.string ⟨#[33]⟩,.int .i64 17,.string ⟨#[40]⟩,.int .i64 18,.string ⟨#[41]⟩,.int .i64 19,.string ⟨#[44]⟩,.int .i64 20,.string ⟨#[59]⟩,.int .i64 21]
structure GV (w:World):Prop where
 ws: ∃t m,w.heap[2]? =some (.cells wordsC t m)
 rs: ∃t m,w.heap[1]? =some (.cells rsignsC t m)
theorem GV.later {w w':World} (h:GV w) (hb:Below w.heap.size w w'):GV w':=by
 obtain ⟨⟨t2,m2,h2⟩,⟨t3,m3,h3⟩⟩:=h
 exact ⟨⟨t2,m2,(hb.block _ (lt_of_blk h2)).trans h2⟩,⟨t3,m3,(hb.block _ (lt_of_blk h3)).trans h3⟩⟩
structure GVF (w:World):Prop where
 fs: ∃t m,w.heap[0]? =some (.cells fsignsC t m)
 ws: ∃t m,w.heap[2]? =some (.cells wordsC t m)
 rs: ∃t m,w.heap[1]? =some (.cells rsignsC t m)
theorem GVF.g {w:World} (h:GVF w):GV w:=⟨h.ws,h.rs⟩
set_option maxHeartbeats 1000000 in
theorem lettersEnd_any (s:ByteArray) (w:World) (hs:s.size≤maxLen):
  Calls Tryz.prog 170 #[.string s] w fun e w'=>e= .returned (.int .i64 (upTo isLet s 0:Nat))∧w'=w:=by
 unfold maxLen at hs
 go_enter Tryz.func170,Tryz.ntmps170
 go_wp2_with fail
 go_loop [3] (fun x=> ∃k:Nat,k≤s.size∧x= .int .i64 k∧Hid (upTo isLet s 0=upTo isLet s k)) (fun x=>s.size - (intOf x).toNat)
 case atStart=>exact ⟨0,Nat.zero_le _,rfl,rfl⟩
 case round=>
  obtain ⟨k,hk,rfl,H⟩:=hrel
  by_cases hlt:k<s.size
  ·by_cases h1:(97:Int)≤(s[k].toNat:Int)
   ·by_cases h2:(s[k].toNat:Int)≤122
    ·go_wp2_with fail
     go_round
     case rel=>exact ⟨k+1,by omega,by go_num,H.out.trans (upTo_yes isLet s k hlt (by simp [isLet];omega))⟩
     case measure=>simp [intOf];omega
    ·have HE:Hid (upTo isLet s 0=k):=H.out.trans (upTo_no isLet s k hlt (by simp [isLet];omega))
     clear H
     go_wp2_with fail
     go_ret
     exact ⟨ret_int (by rw [unhide HE]),rfl⟩
   ·have HE:Hid (upTo isLet s 0=k):=H.out.trans (upTo_no isLet s k hlt (by simp [isLet];omega))
    clear H
    go_wp2_with fail
    go_ret
    exact ⟨ret_int (by rw [unhide HE]),rfl⟩
  ·have HE:Hid (upTo isLet s 0=k):=H.out.trans (upTo_end isLet s k (by omega))
   clear H
   go_wp2_with fail
   go_ret
   exact ⟨ret_int (by rw [unhide HE]),rfl⟩
end Go.Proofs.YtidakhhekofkoaaGreatDoor
