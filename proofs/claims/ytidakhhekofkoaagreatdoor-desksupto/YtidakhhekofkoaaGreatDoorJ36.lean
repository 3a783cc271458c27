/- Cases of the reference's desk: a text is put into a list in memory. -/
import Derived.Test.YtidakhhekofkoaaGreatDoorJ35
import Derived.Test.YtidakhhekofkoaaGreatDoorJ28
import Derived.Laws.CopyRow
set_option linter.unusedSimpArgs false
set_option linter.unusedVariables false
namespace Go.Proofs.YtidakhhekofkoaaGreatDoor
open Go.RowKit Go.Deep
theorem infoVs1:(Tryz.prog.info? 9).map (·.size)=some 1:=by kernel_rfl
theorem grown_setRow (w:World) (g:Nat) (c:Array Value):w.grownBy (w.setRow g c) (some g):=by
 refine ⟨rfl,rfl,rfl,by simp [World.setRow],fun k hk hne=> ?_⟩
 have hkg:g≠k:=fun e=>hne (by rw [e])
 simp [World.setRow,Array.getElem?_modify,hkg]
theorem strsC_drop (L:List ByteArray) (a:Nat):strsC (L.drop a)=(strsC L).drop a:=by unfold strsC;rw [List.map_drop]
theorem ins_copy {w:World} {base g cap k a:Nat} {L:List ByteArray} (h:w.ownsRow base 9 1 (.slice (some ⟨g,0,none⟩) (k+1) cap) (k+1) (strsC L++[.string ⟨#[]⟩])) (hL:L.length=k) (ha:a≤k) (dCap sCap q:Nat) (hq:q=a+1∨(a=k∧q=0)):
  ∃w2,(Builtin.copy_ #[25,25] 3 #[.slice (some ⟨g,q,none⟩) (k - a) dCap,.slice (some ⟨g,a,none⟩) (k+1 - a) sCap]).run Tryz.prog w= .ok (.int .i64 ((k - a:Nat):Int)) w2∧w.grownBy w2 (some g)∧(∃z,w2.cell? ⟨g,a,none⟩=some z)∧w2.frozen? ⟨g,a,none⟩=false∧g<w2.heap.size∧
   ∀x:ByteArray,(w2.setCell ⟨g,a,none⟩ (.string x)).ownsRow base 9 1 (.slice (some ⟨g,0,none⟩) (k+1) cap) (k+1) (strsC (L.take a++x::L.drop a)):=by
 obtain ⟨hl,⟨hv,_⟩|⟨g',cap',cur,hv,hg,hrow,hle,hcap,hcs,htake⟩⟩:=h
 ·cases hv
 ·cases hv
  rw [Nat.mul_one] at hcs htake
  have hsl:(strsC L).length=k:=by unfold strsC;rw [List.length_map];exact hL
  have hcl:(strsC (L.drop a)).length=k - a:=by rw [strsC_drop,List.length_drop,hsl]
  have hat: ∀j,j<k→cur.toList[j]? =(strsC L)[j]? :=fun j hj=>by
   have e:(cur.toList.take (k+1))[j]? =(strsC L)[j]? :=by rw [htake,List.getElem?_append_left (by omega)]
   rw [List.getElem?_take_of_lt (by omega)] at e
   exact e
  have hr:=run_copy_row (P:=Tryz.prog) w 25 25 3 9 g q (k - a) dCap ⟨g,a,none⟩ (k+1 - a) sCap cur 9 (strsC (L.drop a)) Tryz.underlying25 infoVs1 hrow (by rw [hcl];exact (Nat.min_eq_right (by omega)).symm)
   (fun j v hj=>by
    have hjl:=(List.getElem?_eq_some_iff.1 hj).1
    rw [hcl] at hjl
    rw [strsC_drop,List.getElem?_drop] at hj
    rw [Addr.add_lit,cell_of_blk hrow,←Array.getElem?_toList,hat (a+j) (by omega)]
    exact hj) (by rw [hcl];omega) (fun v hv=>by
    unfold strsC at hv
    obtain ⟨x,_,rfl⟩:=List.mem_map.1 hv
    rfl)
  rw [hcl] at hr
  have hR:cur.toList.take q++strsC (L.drop a)++cur.toList.drop (q+(k - a))=cur.toList.take (a+1)++strsC (L.drop a)++cur.toList.drop (a+1+(k - a)):=by
   rcases hq with rfl|⟨hak,rfl⟩
   ·rfl
   ·have e:strsC (L.drop a)=[]:=List.eq_nil_of_length_eq_zero (by rw [hcl];omega)
    rw [e,show k - a=0 by omega]
    simp
  rw [hR] at hr
  have hset:=setRow_heap w g cur (cur.toList.take (a+1)++strsC (L.drop a)++cur.toList.drop (a+1+(k - a))).toArray 9 _ hrow
  have hlen:(cur.toList.take (a+1)++strsC (L.drop a)++cur.toList.drop (a+1+(k - a))).length=cap:=by
   rw [List.length_append,List.length_append,hcl,List.length_take,List.length_drop,Array.length_toList,hcs]
   omega
  refine ⟨_,hr,grown_setRow _ _ _,⟨_,(cell_of_blk hset a).trans (by rw [List.getElem?_toArray];exact List.getElem?_eq_getElem (by rw [hlen];omega))⟩,frozen_of_blk hset a,lt_of_blk hset,fun x=> ?_⟩
  have hfin:=blk_set hset a (.string x)
  refine ⟨?_,Or.inr ⟨g,cap,_,rfl,hg,hfin,hle,hcap, ?_, ?_⟩⟩
  ·unfold strsC;simp;omega
  ·rw [Array.size_setIfInBounds,Nat.mul_one];simpa using hlen
  ·rw [Nat.mul_one,Array.toList_setIfInBounds]
   show List.take (k+1) (List.set _ a (Value.string x))=_
   have hta:cur.toList.take (a+1)=(strsC L).take a++[cur.toList[a]'(by rw [Array.length_toList,hcs];omega)]:=by
    have e:cur.toList.take a=(strsC L).take a:=by
     have e1:cur.toList.take a=(cur.toList.take (k+1)).take a:=by rw [List.take_take,Nat.min_eq_left (by omega)]
     rw [e1,htake,List.take_append_of_le_length (by omega)]
    rw [List.take_add_one,List.getElem?_eq_getElem (by rw [Array.length_toList,hcs];omega),e]
    rfl
   rw [hta,List.append_assoc,List.append_assoc,List.set_append_right _ _ (by rw [List.length_take];omega)]
   have h0:a - ((strsC L).take a).length=0:=by rw [List.length_take];omega
   rw [h0,List.singleton_append,List.set_cons_zero]
   have e2:strsC (L.take a++x::L.drop a)=(strsC L).take a++Value.string x::strsC (L.drop a):=by unfold strsC;rw [List.map_append,List.map_take];rfl
   rw [e2,←List.cons_append,←List.append_assoc,List.take_append_of_le_length (by simp [hcl];omega),List.take_of_length_le (by simp [hcl];omega)]
def CasP (cs:List Cs) (w w':World) (e:Ending):Prop:=
 ∃l o k,e= .returned (.slice o l.length k)∧RisL l∧l.Perm (cs.map (·.id))∧w'.ownsRow w.heap.size 9 1 (.slice o l.length k) l.length (strsC l)∧Below w.heap.size w w'
end Go.Proofs.YtidakhhekofkoaaGreatDoor
