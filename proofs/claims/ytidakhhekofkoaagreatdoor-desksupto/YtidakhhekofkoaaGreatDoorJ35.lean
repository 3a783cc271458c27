/- Cases, plain: a text is put into a list that rises; a list that rises is one. -/
import Derived.Test.YtidakhhekofkoaaGreatDoorJ31
import Derived.Sort.KeysCollected
set_option linter.unusedSimpArgs false
set_option linter.unusedVariables false
namespace Go.Proofs.YtidakhhekofkoaaGreatDoor
def RisL (l:List ByteArray):Prop:=l.Pairwise fun u v=>leB u.data.toList v.data.toList=true
theorem leB_trans {x y z:List UInt8} (h1:leB x y=true) (h2:leB y z=true):leB x z=true:=by
 have h1':=of_decide_eq_true h1
 have h2':=of_decide_eq_true h2
 exact decide_eq_true (List.le_trans h1' h2')
theorem leB_total (x y:List UInt8):leB x y=true∨leB y x=true:=by
 rcases List.le_total x y with h|h
 ·exact Or.inl (decide_eq_true h)
 ·exact Or.inr (decide_eq_true h)
theorem leB_refl (x:List UInt8):leB x x=true:=(leB_total x x).elim id id
theorem ris_ins {l:List ByteArray} {x:ByteArray} {a:Nat} (hp:RisL l) (h1: ∀u∈l.drop a,leB x.data.toList u.data.toList=true) (h2:a=0∨ ∃u,l[a - 1]? =some u∧leB u.data.toList x.data.toList=true):RisL (l.take a++x::l.drop a):=by
 have hsp:=hp
 unfold RisL at hsp
 rw [←List.take_append_drop a l,List.pairwise_append] at hsp
 obtain ⟨p1,p2,p3⟩:=hsp
 have h3: ∀u∈l.take a,leB u.data.toList x.data.toList=true:=fun u hu=>by
  rcases h2 with rfl|⟨v,hv,hvx⟩
  ·simp at hu
  ·obtain ⟨j,hj⟩:=List.mem_iff_getElem?.1 hu
   have hja:j<a:=by have:=(List.getElem?_eq_some_iff.1 hj).1;rw [List.length_take] at this;omega
   rw [List.getElem?_take_of_lt hja] at hj
   rcases Nat.lt_or_ge j (a - 1) with hlt|hge
   ·have hjl:=List.getElem?_eq_some_iff.1 hj
    have hvl:=List.getElem?_eq_some_iff.1 hv
    have hp':l.Pairwise fun u v=>leB u.data.toList v.data.toList=true:=hp
    have:=List.pairwise_iff_getElem.1 hp' j (a - 1) hjl.1 hvl.1 hlt
    rw [hjl.2,hvl.2] at this
    exact leB_trans this hvx
   ·have e:j=a - 1:=by omega
    rw [e,hv] at hj
    cases hj
    exact hvx
 unfold RisL
 rw [List.pairwise_append]
 refine ⟨p1,List.pairwise_cons.2 ⟨h1,p2⟩,fun u hu v hv=> ?_⟩
 rcases List.mem_cons.1 hv with rfl|hv
 ·exact h3 u hu
 ·exact p3 u hu v hv
theorem ins_perm (l:List ByteArray) (x:ByteArray) (a:Nat):(l.take a++x::l.drop a).Perm (l++[x]):=by
 refine List.perm_middle.trans ?_
 rw [List.take_append_drop]
 exact (List.perm_append_comm (l₁:=[x]) (l₂:=l))
theorem ris_one {l m:List ByteArray} (hl:RisL l) (hm:RisL m) (hp:l.Perm m):l=m:=by
 refine List.Perm.eq_of_pairwise (le:=fun u v:ByteArray=>leB u.data.toList v.data.toList=true) (fun a b _ _ h1 h2=> ?_) hl hm hp
 have e:a.data.toList=b.data.toList:=List.le_antisymm (of_decide_eq_true h1) (of_decide_eq_true h2)
 exact byte_inj e
end Go.Proofs.YtidakhhekofkoaaGreatDoor
