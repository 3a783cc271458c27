/- The reference: points, plain: which codes have come. -/
import Derived.Test.YtidakhhekofkoaaGreatDoorJ28
import Derived.Test.YtidakhhekofkoaaGreatDoorJ32
import Derived.Test.YtidakhhekofkoaaGreatDoorJ34
set_option linter.unusedSimpArgs false
set_option linter.unusedVariables false
namespace Go.Proofs.YtidakhhekofkoaaGreatDoor
open Go.RowKit Go.Deep
theorem fnd_shift {σ:Type} [DecidableEq σ] (s:σ): ∀(l:List σ) (i:Nat),fnd s l i=(fnd s l 0).map (· +i)
 |[],_=>rfl
 |x::r,i=>by
  rw [fnd,fnd]
  by_cases e:x=s
  ·rw [if_pos e,if_pos e];simp
  ·rw [if_neg e,if_neg e,fnd_shift s r (i+1),fnd_shift s r (0+1)]
   cases fnd s r 0 with
   |none=>rfl
   |some j=>simp;omega
theorem fnd_append {σ:Type} [DecidableEq σ] (s:σ) (m:List σ): ∀(l:List σ),fnd s (l++m) 0=match fnd s l 0 with|some i=>some i|none=>(fnd s m 0).map (· +l.length)
 |[]=>by cases h:fnd s m 0<;>simp [fnd,h]
 |x::r=>by
  rw [List.cons_append,fnd,fnd]
  by_cases e:x=s
  ·rw [if_pos e,if_pos e]
  ·rw [if_neg e,if_neg e,fnd_shift s (r++m),fnd_shift s r,fnd_append s m r]
   cases fnd s r 0 with
   |some j=>rfl
   |none=>
    cases fnd s m 0 with
    |none=>rfl
    |some j=>simp;omega
theorem fnd_map {σ τ:Type} [DecidableEq σ] [DecidableEq τ] (f:σ→τ) (s:σ): ∀(l:List σ) (i:Nat),(∀x∈l,f x=f s→x=s)→fnd (f s) (l.map f) i=fnd s l i
 |[],_,_=>rfl
 |x::r,i,h=>by
  rw [List.map_cons,fnd,fnd,fnd_map f s r (i+1) (fun y hy=>h y (List.mem_cons_of_mem _ hy))]
  by_cases e:x=s
  ·rw [if_pos e,if_pos (congrArg f e)]
  ·rw [if_neg e,if_neg (fun x'=>e (h x (List.mem_cons_self ..) x'))]
def snN (l:List (Bool × List Bool)) (c:Nat):Nat:=match fnd c (l.map codeP) 0 with
 |some i=>i+1
 |none=>0
def snL (N:Nat) (l:List (Bool × List Bool)):List Nat:=(List.range N).map (snN l)
theorem snL_len (N:Nat) (l:List (Bool × List Bool)):(snL N l).length=N:=by unfold snL;rw [List.length_map,List.length_range]
theorem snL_at {N c:Nat} (l:List (Bool × List Bool)) (h:c<N):(snL N l)[c]? =some (snN l c):=by unfold snL;rw [List.getElem?_map,List.getElem?_range h];rfl
theorem snL_nil (N:Nat):snL N []=List.replicate N 0:=by
 unfold snL
 refine List.ext_getElem (by simp) fun k h1 h2=> ?_
 simp [snN,fnd]
theorem snL_more {N:Nat} {l:List (Bool × List Bool)} {p:Bool × List Bool} (hf:fnd (codeP p) (l.map codeP) 0=none):snL N (l++[p])=(snL N l).set (codeP p) (l.length+1):=by
 refine List.ext_getElem (by rw [List.length_set,snL_len,snL_len]) fun c h1 h2=> ?_
 rw [List.getElem_set]
 have hc:c<N:=by rw [snL_len] at h1;exact h1
 have e1:(snL N (l++[p]))[c]=snN (l++[p]) c:=by
  have:=snL_at (l++[p]) hc
  rw [List.getElem?_eq_getElem h1] at this
  exact Option.some.inj this
 have h3:c<(snL N l).length:=by rw [snL_len];exact hc
 have e2:(snL N l)[c]=snN l c:=by
  have:=snL_at l hc
  rw [List.getElem?_eq_getElem h3] at this
  exact Option.some.inj this
 rw [e1,e2]
 unfold snN
 rw [List.map_append,fnd_append]
 by_cases e:codeP p=c
 ·subst e
  rw [hf,if_pos rfl]
  simp [fnd]
 ·rw [if_neg e]
  cases fnd c (l.map codeP) 0 with
  |some i=>rfl
  |none=>simp [fnd,e]
theorem points_len {L:List Nd} {acts:List Nat} {k:Nat} {l:List (Bool × List Bool)} {tw:List (List Nat)} (h:Bfs (ahR L) acts (p0R L) k l tw): ∀p∈l,p.2.length=L.length:=fun p hp=>by
 obtain ⟨j,hj⟩:=List.mem_iff_getElem?.1 hp
 cases j with
 |zero=>
  rw [h.first] at hj
  cases hj
  exact ptOf_len ..
 |succ j=>
  obtain ⟨_,_,_,_,_,a,_,e⟩:=h.met j p hj
  rw [e]
  exact ptOf_len ..
theorem points_few {L:List Nd} (hL:L.length≤16) {acts:List Nat} {k:Nat} {l:List (Bool × List Bool)} {tw:List (List Nat)} (h:Bfs (ahR L) acts (p0R L) k l tw):l.length≤131072:=by
 have hln:=points_len h
 have hnd:(l.map codeP).Nodup:=by
  rw [List.nodup_iff_pairwise_ne,List.pairwise_map]
  exact h.nodup.imp_of_mem fun {a b} ha hb hab e=>hab (codeP_inj ((hln a ha).trans (hln b hb).symm) e)
 have:=nodup_le 131072 (l.map codeP) hnd (fun c hc=>by
  obtain ⟨p,hp,rfl⟩:=List.mem_map.1 hc
  exact codeP_lt p (n:=16) (by rw [hln p hp];exact hL))
 rw [List.length_map] at this
 exact this
theorem sn_numb {l:List (Bool × List Bool)} {p:Bool × List Bool} (hl: ∀q∈l,q.2.length=p.2.length):(snN l (codeP p)=0∧fnd (codeP p) (l.map codeP) 0=none∧numb l p=(l++[p],l.length))∨ ∃i,i<l.length∧snN l (codeP p)=i+1∧numb l p=(l,i):=by
 have e:=fnd_map codeP p l 0 (fun q hq hc=>codeP_inj (hl q hq) hc)
 unfold snN numb
 rw [e]
 cases hf:fnd p l 0 with
 |none=>exact Or.inl ⟨rfl,rfl,rfl⟩
 |some i=>
  have:=(List.getElem?_eq_some_iff.1 (fnd_some hf).2).1
  exact Or.inr ⟨i,by omega,rfl,rfl⟩
def ptC (l:List (Bool × List Bool)):List Value:=l.flatMap fun p=>[.string (setS p.2),.bool p.1]
theorem ptC_app (l m:List (Bool × List Bool)):ptC (l++m)=ptC l++ptC m:=by unfold ptC;rw [List.flatMap_append]
theorem ptC_len (l:List (Bool × List Bool)):(ptC l).length=l.length * 2:=by
 induction l with
 |nil=>rfl
 |cons x l ih=>show (_++ptC l).length=_;rw [List.length_append,ih,List.length_cons];simp;omega
theorem ptC_at: ∀{l:List (Bool × List Bool)} {i:Nat} {p:Bool × List Bool},l[i]? =some p→(ptC l)[i * 2]? =some (.string (setS p.2))∧(ptC l)[i * 2+1]? =some (.bool p.1)
 |[],i,c,h=>by simp at h
 |x::l,0,p,h=>by
  have:x=p:=by simpa using h
  subst this
  exact ⟨rfl,rfl⟩
 |x::l,i+1,p,h=>by
  have h':l[i]? =some p:=by simpa using h
  have ih:=ptC_at h'
  have e:ptC (x::l)=[.string (setS x.2),.bool x.1]++ptC l:=rfl
  rw [e]
  refine ⟨?_, ?_⟩
  ·rw [List.getElem?_append_right (by simp;omega)]
   have:(i+1) * 2 - [Value.string (setS x.2),.bool x.1].length=i * 2:=by simp;omega
   rw [this];exact ih.1
  ·rw [List.getElem?_append_right (by simp;omega)]
   have:(i+1) * 2+1 - [Value.string (setS x.2),.bool x.1].length=i * 2+1:=by simp;omega
   rw [this];exact ih.2
def PtS (w:World) (o:Option Addr) (l:List (Bool × List Bool)):Prop:= ∀(j:Nat) (p:Bool × List Bool),l[j]? =some p→ ∃g,o=some ⟨g,0,none⟩∧g<w.heap.size∧w.cell? ⟨g,j * 2,none⟩=some (.string (setS p.2))∧w.cell? ⟨g,j * 2+1,none⟩=some (.bool p.1)
theorem pts_of {w:World} {base n k:Nat} {o:Option Addr} {l:List (Bool × List Bool)} (h:w.ownsRow base 302 2 (.slice o n k) n (ptC l)):PtS w o l:=fun i p hp=>by
 have hi:=(List.getElem?_eq_some_iff.1 hp).1
 obtain ⟨hl,⟨h1,h2⟩|⟨g,cap,cur,hv,hb,hrow,hle,_,hcs,htake⟩⟩:=h
 ·rw [ptC_len] at hl
  omega
 ·cases hv
  have hn:l.length=n:=by rw [ptC_len] at hl;omega
  have hcell: ∀m v,(ptC l)[m]? =some v→w.cell? ⟨g,m,none⟩=some v:=fun m v hm=>by
   have hml:m<n * 2:=by have:=(List.getElem?_eq_some_iff.1 hm).1;rw [ptC_len,hn] at this;exact this
   rw [cell_of_blk hrow,←Array.getElem?_toList]
   rw [←htake,List.getElem?_take_of_lt hml] at hm
   exact hm
  obtain ⟨e1,e2⟩:=ptC_at hp
  exact ⟨g,rfl,lt_of_blk hrow,hcell _ _ e1,hcell _ _ e2⟩
structure PtP (V W:World) (N sb:Nat) (lo:Option Addr) (lc:Nat) (l:List (Bool × List Bool)) (ho:Option Addr) (hc:Nat) (rv:List Value) (tw:List (List Nat)):Prop where
 pl:W.ownsRow V.heap.size 302 2 (.slice lo l.length lc) l.length (ptC l)
 tab:TbV W V.heap.size (.slice none 0 0) (.slice (some ⟨sb,0,none⟩) N N) (.slice ho tw.length hc) ⟨[],snL N l,tw⟩ rv
 bel:Below V.heap.size V W
section
variable {V W W' : World} {N sb : Nat} {lo : Option Addr} {lc : Nat} {l : List (Bool × List Bool)} {ho : Option Addr} {hc : Nat} {rv : List Value} {tw : List (List Nat)}
theorem PtP.later (h:PtP V W N sb lo lc l ho hc rv tw) (hb:Below W.heap.size W W'):PtP V W' N sb lo lc l ho hc rv tw:=
 ⟨owns_later h.pl hb,h.tab.later hb,h.bel.trans (hb.mono h.bel.size)⟩
theorem seenT {A X:Value} (h:TbV W V.heap.size A (.slice (some ⟨sb,0,none⟩) N N) X ⟨[],snL N l,tw⟩ rv) {c:Nat} (hcN:c<N):W.cell? ⟨sb,c,none⟩=some (.int .i64 (snN l c:Nat))∧sb<W.heap.size∧W.frozen? ⟨sb,c,none⟩=false:=by
 have hlen:(snL N l).length=N:=snL_len N l
 have hf2:W.ownsRow V.heap.size 3 1 (.slice (some ⟨sb,0,none⟩) N N) N (intC (snL N l)):=by
  have:W.ownsRow V.heap.size 3 1 (.slice (some ⟨sb,0,none⟩) N N) (snL N l).length (intC (snL N l)):=h.fl
  rw [hlen] at this
  exact this
 obtain ⟨g,h1,h2,h3⟩:=owns1_at hf2 hcN
 cases h1
 obtain ⟨cs,hcs⟩:=own_at hf2 (b:=sb) rfl
 exact ⟨by rw [h3];unfold intC;rw [List.getElem?_map,snL_at l hcN];rfl,h2,frozen_of_blk hcs c⟩
theorem PtP.tabL (h:PtP V W N sb lo lc l ho hc rv tw) (hg3:W.grownBy W' (Value.slice lo l.length lc).ownBlock):TbV W' V.heap.size (.slice none 0 0) (.slice (some ⟨sb,0,none⟩) N N) (.slice ho tw.length hc) ⟨[],snL N l,tw⟩ rv:=
 h.tab.grow hg3 fun b hb=>⟨own_apart h.tab.acts h.pl (by decide) b hb,own_apart h.tab.fl h.pl (by decide) b hb,own_apart h.tab.nx h.pl (by decide) b hb,fun u hu'=>by
  obtain ⟨r,hr⟩:=h.tab.row_at hu'
  exact own_apart hr h.pl (by decide) b hb⟩
theorem PtP.more (h:PtP V W N sb lo lc l ho hc rv tw) {v:Value} {q:List Nat} (hu:RwU W V.heap.size (.slice (some ⟨sb,0,none⟩) N N) rv v q) {p:Bool × List Bool} (hf:fnd (codeP p) (l.map codeP) 0=none) {g cap:Nat}
  (ho3:W'.ownsRow V.heap.size 302 2 (.slice (some ⟨g,0,none⟩) (l.length+1) cap) (l.length+1) (ptC l++[.string (setS p.2),.bool p.1])) (hg3:W.grownBy W' (Value.slice lo l.length lc).ownBlock) {z:Int} (hz:((l.length+1:Nat):Int)=z):
  PtP V (W'.setCell ⟨sb,codeP p,none⟩ (.int .i64 z)) N sb (some ⟨g,0,none⟩) cap (l++[p]) ho hc rv tw∧RwU (W'.setCell ⟨sb,codeP p,none⟩ (.int .i64 z)) V.heap.size (.slice (some ⟨sb,0,none⟩) N N) rv v q:=by
 have hlen:(snL N l).length=N:=snL_len N l
 subst hz
 have t1:=h.tabL hg3
 have u1:RwU W' V.heap.size (.slice (some ⟨sb,0,none⟩) N N) rv v q:=hu.grow hg3 (own_apart hu.own h.pl (by decide))
 have t2:=t1.fset hlen (codeP p) (l.length+1)
 have b1:Below V.heap.size V W':=h.bel.grown hg3 h.bel.size (fun b hb=>(own_lt h.pl b hb).1)
 have hsb:=(own_lt t1.fl sb rfl).1
 refine ⟨⟨?_, ?_,b1.setCell (p:=⟨sb,codeP p,none⟩) hsb _⟩,u1.fset _ _⟩
 ·have e:ptC (l++[p])=ptC l++[.string (setS p.2),.bool p.1]:=by rw [ptC_app];rfl
  rw [e,List.length_append]
  exact owns_other ho3 (grown_set W' sb _ _) fun b hb e=>own_apart ho3 t1.fl (by decide) b hb e
 ·rw [snL_more hf]
  exact t2
theorem PtP.num (h:PtP V W N sb lo lc l ho hc rv tw) {v v':Value} {q:List Nat} (hu:RwU W V.heap.size (.slice (some ⟨sb,0,none⟩) N N) rv v q) {x:Nat} (ho3:W'.ownsRow V.heap.size 3 1 v' (q.length+1) (intC q++[.int .i64 (x:Int)])) (hg:W.grownBy W' v.ownBlock) {g':Nat} (hv':v'.ownBlock=some g') (hat:v.ownBlock=some g'∨W.heap.size≤g'):
  PtP V W' N sb lo lc l ho hc rv tw∧RwU W' V.heap.size (.slice (some ⟨sb,0,none⟩) N N) rv v' (q++[x]):=by
 obtain ⟨t1,u1⟩:=h.tab.num hu ho3 hg hv' hat
 exact ⟨⟨owns_other h.pl hg (own_apart h.pl hu.own (by decide)),t1,h.bel.grown hg h.bel.size (fun b hb=>(own_lt hu.own b hb).1)⟩,u1⟩
theorem PtP.row (h:PtP V W N sb lo lc l ho hc rv tw) {v:Value} {q:List Nat} (hu:RwU W V.heap.size (.slice (some ⟨sb,0,none⟩) N N) rv v q) {g cap:Nat} (ho3:W'.ownsRow V.heap.size 33 1 (.slice (some ⟨g,0,none⟩) (tw.length+1) cap) (tw.length+1) (rv++[v])) (hg:W.grownBy W' (Value.slice ho tw.length hc).ownBlock):
  PtP V W' N sb lo lc l (some ⟨g,0,none⟩) cap (rv++[v]) (tw++[q]):=by
 have t1:=h.tab.row hu ho3 hg
 refine ⟨owns_other h.pl hg (own_apart h.pl h.tab.nx (by decide)), ?_,h.bel.grown hg h.bel.size (fun b hb=>(own_lt h.tab.nx b hb).1)⟩
 rw [List.length_append]
 exact t1
end
end Go.Proofs.YtidakhhekofkoaaGreatDoor
